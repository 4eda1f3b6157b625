/- Dates: numbers' texts, in plain words. No program in this text. Dates: the calendar, in plain words. No program in this text. Dates: seconds and their millionths, in plain words. No program in this text. Dates: reading a text part by part, in plain words. -/
import Derived.Test.YtgmnjghbafbopaaGreatDoorMNuA
import Derived.Lib.ItoaNum
import Derived.Lib.AtoiAll
namespace Go.Proofs.YtgmnjghbafbopaaGreatDoor
open Go.Lib

theorem decDigits_dec (n : Nat) : Lib.decDigits n = if n = 0 then [48] else dec n := by
  induction n using Nat.strongRecOn with
  | ind n ih =>
    rw [Lib.decDigits]
    by_cases h : n < 10
    · rw [dif_pos h]
      by_cases h0 : n = 0
      · subst h0; rfl
      · rw [if_neg h0, dec_pos n h0, show n / 10 = 0 by omega, dec_zero, show n % 10 = n by omega]; rfl
    · rw [dif_neg h, ih (n / 10) (by omega), if_neg (by omega), if_neg (by omega), dec_pos n (by omega)]; rfl
theorem textL_is {b : Bool} {n : Nat} {t : List UInt8} (h : textL b n = some t) : t = (if b = true ∧ bodyL n ≠ [48] then [45] else []) ++ bodyL n := by
  unfold textL at h
  split at h
  · cases h
  · exact (Option.some.inj h).symm
theorem canon_of_read {x : List UInt8} (h : readR x = (x, 0)) : ∃ b n, canonL x = some (b, n) := by
  unfold readR at h
  split at h
  · cases h
  · split at h
    · cases h
    · obtain ⟨c, hc, _⟩ := resR_back h
      exact ⟨_, _, hc⟩
theorem valD_ge : ∀ (l : List UInt8) (a : Nat), a ≤ valD l a
  | [], _ => Nat.le_refl _
  | b :: t, a => by
    rw [valD]
    have := valD_ge t (10 * a + (b.toNat - 48))
    omega
theorem parse_dgs : ∀ (l : List UInt8) (a : Nat), Dgs l → valD l a < 1000000000000000000 → Lib.parseUint10 a l = .ok (valD l a)
  | [], a, _, _ => rfl
  | c :: r, a, h, hv => by
    have hc := (isDg_iff c).1 (h c (by simp))
    rw [valD] at hv ⊢
    have := valD_ge r (10 * a + (c.toNat - 48))
    rw [Lib.parseUint10, if_pos hc, if_neg (by omega), if_neg (by omega), show a * 10 + (c.toNat - 48) = 10 * a + (c.toNat - 48) by omega]
    exact parse_dgs r _ (fun x hx => h x (List.mem_cons_of_mem _ hx)) hv
theorem decD_dgs (k : Nat) : Dgs (Lib.decDigits k) := by
  rw [decDigits_dec]
  split
  · exact Dgs.cons (by decide) Dgs.nil
  · exact dec_dgs k
theorem decD_val (k : Nat) : valD (Lib.decDigits k) 0 = k := by
  rw [decDigits_dec]
  split
  · rename_i h; rw [h]; rfl
  · exact valD_dec k
theorem dec_ne {k : Nat} (h : k ≠ 0) : dec k ≠ [] := fun e => by
  have := valD_dec k
  rw [e] at this
  exact h this.symm
theorem decD_ne (k : Nat) : Lib.decDigits k ≠ [] := by
  rw [decDigits_dec]
  split
  · simp
  · rename_i h; exact dec_ne h
theorem decD_zero (k : Nat) : Lib.decDigits k = [48] ↔ k = 0 := by
  constructor
  · intro h
    have := decD_val k
    rw [h] at this
    exact this.symm
  · intro h; subst h; rw [decDigits_dec, if_pos rfl]
theorem atoi_decD (k : Nat) (h : k < 1000000000000000000) : Lib.atoiAll (Lib.decDigits k) = .ok (k : Int) := by
  obtain ⟨c, r, hcr⟩ := List.exists_cons_of_ne_nil (decD_ne k)
  have hd := decD_dgs k
  have hp := parse_dgs (Lib.decDigits k) 0 hd (by rw [decD_val]; exact h)
  rw [decD_val] at hp
  rw [hcr] at hd hp ⊢
  have hc := (isDg_iff c).1 (hd c (by simp))
  unfold Lib.atoiAll Lib.parseMag
  simp only
  rw [if_neg (show ¬ (c.toNat = 43 ∨ c.toNat = 45) by omega), if_neg (by simp), hp]
  simp only
  rw [if_neg (by omega), if_neg (by omega), if_neg (by omega)]
theorem text_int (k : Nat) (h : k < 10 ^ 30) : textL false (k * 10 ^ 20) = some (Lib.decDigits k) := by
  have e1 : k * 10 ^ 20 / 10 ^ 20 = k := Nat.mul_div_cancel _ (by decide)
  have e2 : trimE (fixed 20 (k * 10 ^ 20)) = [] := by rw [fixed_mul]; exact trimE_of [] 20 (by simp)
  unfold textL bodyL
  rw [e1, e2, if_neg (by rw [Nat.not_lt]; exact (dec_len k 30).2 h), if_neg (fun k => by cases k.1), if_pos rfl, List.nil_append, List.append_nil, decDigits_dec]
  by_cases h0 : k = 0
  · subst h0; rw [if_pos rfl, dec_zero, if_pos rfl]
  · rw [if_neg h0, if_neg (dec_ne h0)]
theorem canon_int (k : Nat) (h : k < 10 ^ 30) : canonL (Lib.decDigits k) = some (false, k * 10 ^ 20) := by
  have := canon_text false _ _ (text_int k h)
  rwa [Bool.false_and] at this
theorem resR_of {b : Bool} {n : Nat} {t : List UInt8} (h : textL b n = some t) : resR b n = (t, 0) := by unfold resR; rw [h]
theorem resR_int (k : Nat) (h : k < 10 ^ 30) : resR false (k * 10 ^ 20) = (Lib.decDigits k, 0) := resR_of (text_int k h)
theorem readR_int (k : Nat) (h : k < 10 ^ 30) : readR (Lib.decDigits k) = (Lib.decDigits k, 0) := readR_text (text_int k h)
theorem muU (a b U : Nat) : a * U * (b * U) = a * b * U * U := by ac_rfl
theorem U0 : 0 < 10 ^ 20 := Nat.pow_pos (by decide)
theorem plusN_ff (x y : Nat) : plusN false false x y = x + y := by unfold plusN; rw [if_pos rfl]
theorem plusB_ff (x y : Nat) : plusB false false x y = false := by unfold plusB; rw [if_pos rfl]
theorem body_text {k : Nat} (h : k < 10 ^ 50) : textL false k = some (bodyL k) := by
  obtain ⟨t, ht⟩ := textL_some false k h
  have := textL_is ht
  rw [if_neg (fun q => by cases q.1), List.nil_append] at this
  rw [ht, this]
theorem body_canon {k : Nat} (h : k < 10 ^ 50) : canonL (bodyL k) = some (false, k) := by
  have := canon_text false _ _ (body_text h)
  rwa [Bool.false_and] at this
theorem body_resR {k : Nat} (h : k < 10 ^ 50) : resR false k = (bodyL k, 0) := resR_of (body_text h)
theorem parse_dgs_all : ∀ (l : List UInt8) (a : Nat), Dgs l → Lib.parseUint10 a l = .range ∨ Lib.parseUint10 a l = .ok (valD l a)
  | [], a, _ => .inr rfl
  | c :: r, a, h => by
    have hc := (isDg_iff c).1 (h c (by simp))
    rw [Lib.parseUint10, if_pos hc, valD]
    split
    · exact .inl rfl
    · split
      · exact .inl rfl
      · rw [show a * 10 + (c.toNat - 48) = 10 * a + (c.toNat - 48) by omega]
        exact parse_dgs_all r _ (fun x hx => h x (List.mem_cons_of_mem _ hx))
theorem readR_dgs {a : List UInt8} (h : a ≠ []) (d : Dgs a) (hl : a.length ≤ 200) : readR a = resR false (valD a 0 * 10 ^ 20) := by
  have hs := split_of [] a [] false (.inl rfl) h d Dgs.nil (fun _ => rfl)
  rw [if_neg (by decide), List.append_nil, List.nil_append] at hs
  unfold readR
  rw [if_neg (by omega), hs]
  have e1 : (numL ⟨[], a, [], false⟩).1 = false := rfl
  have e2 : (numL ⟨[], a, [], false⟩).2 = valD a 0 * 10 ^ 20 := by
    unfold numL
    simp only
    rw [if_neg (by decide), List.append_nil]
    rfl
  simp only [e1, e2]
theorem p50 : (10 : Nat) ^ 50 = 10 ^ 30 * 10 ^ 20 := by rw [← Nat.pow_add]
theorem big_resR (b : Bool) {k : Nat} (h : ¬ k < 10 ^ 30) : resR b (k * 10 ^ 20) = ([], 40) := resR_ge _ _ (by rw [p50]; exact Nat.mul_le_mul_right _ (Nat.not_lt.1 h))
end Go.Proofs.YtgmnjghbafbopaaGreatDoor
namespace Go.Proofs.YtgmnjghbafbopaaGreatDoor

def lp (y : Nat) : Bool := decide ((y % 4 = 0 ∧ y % 100 ≠ 0) ∨ y % 400 = 0)
def lpN (y : Nat) : Nat := if lp y = true then 1 else 0
/-- The days of a month. -/
def dim (y m : Nat) : Nat := if m = 2 then 28 + lpN y else if m = 4 ∨ m = 6 ∨ m = 9 ∨ m = 11 then 30 else 31
/-- The days of all years before this one. -/
def dby (y : Nat) : Nat := 365 * (y - 1) + (y - 1) / 4 - (y - 1) / 100 + (y - 1) / 400
/-- The days of the first months. -/
def cumD (y : Nat) : Nat → Nat
  | 0 => 0
  | m + 1 => cumD y m + dim y (m + 1)
/-- The days from the first day of the year 1 to a date. -/
def dayN (y m d : Nat) : Nat := dby y + cumD y (m - 1) + (d - 1)
structure DateOk (y m d : Nat) : Prop where
  y1 : 1 ≤ y
  y2 : y ≤ 9999
  m1 : 1 ≤ m
  m2 : m ≤ 12
  d1 : 1 ≤ d
  d2 : d ≤ dim y m
theorem lpN_le (y : Nat) : lpN y ≤ 1 := by unfold lpN; split <;> omega
theorem lpN_iff (y : Nat) : (lpN y = 1 ∧ ((y % 4 = 0 ∧ y % 100 ≠ 0) ∨ y % 400 = 0)) ∨ (lpN y = 0 ∧ ¬ ((y % 4 = 0 ∧ y % 100 ≠ 0) ∨ y % 400 = 0)) := by
  unfold lpN lp
  by_cases h : (y % 4 = 0 ∧ y % 100 ≠ 0) ∨ y % 400 = 0
  · exact .inl ⟨by rw [decide_eq_true h, if_pos rfl], h⟩
  · exact .inr ⟨by rw [decide_eq_false h, if_neg (by decide)], h⟩
theorem dim_le (y m : Nat) : 28 ≤ dim y m ∧ dim y m ≤ 31 := by
  have := lpN_le y
  unfold dim
  split
  · omega
  · split <;> omega
theorem div_next (k n : Nat) (_ : 0 < n) : (k + 1) / n = k / n + if (k + 1) % n = 0 then 1 else 0 := by
  rw [Nat.succ_div]
  congr 1
  by_cases q : n ∣ k + 1
  · rw [if_pos q, if_pos (Nat.mod_eq_zero_of_dvd q)]
  · rw [if_neg q, if_neg (fun r => q (Nat.dvd_of_mod_eq_zero r))]
theorem dby_succ (y : Nat) (h : 1 ≤ y) : dby (y + 1) = dby y + 365 + lpN y := by
  obtain ⟨k, rfl⟩ : ∃ k, y = k + 1 := ⟨y - 1, by omega⟩
  unfold dby
  simp only [Nat.add_sub_cancel]
  have h4 := div_next k 4 (by decide)
  have h100 := div_next k 100 (by decide)
  have h400 := div_next k 400 (by decide)
  have hle : k / 100 ≤ k / 4 := Nat.div_le_div_left (by decide) (by decide)
  rw [h4, h100, h400]
  rcases lpN_iff (k + 1) with ⟨e, h⟩ | ⟨e, h⟩
  · rw [e]
    rcases h with ⟨a, b⟩ | a
    · rw [if_pos a, if_neg b, if_neg (by omega)]; omega
    · rw [if_pos (show (k + 1) % 4 = 0 by omega), if_pos (show (k + 1) % 100 = 0 by omega), if_pos a]; omega
  · rw [e]
    by_cases a : (k + 1) % 4 = 0
    · have b : (k + 1) % 100 = 0 := Classical.byContradiction fun q => h (.inl ⟨a, q⟩)
      rw [if_pos a, if_pos b, if_neg (fun q => h (.inr q))]; omega
    · rw [if_neg a, if_neg (show ¬ (k + 1) % 100 = 0 by omega), if_neg (fun q => h (.inr q))]; omega
theorem cumD_12 (y : Nat) : cumD y 12 = 365 + lpN y := by
  simp only [cumD, dim]
  simp
  omega
theorem cumD_mono (y : Nat) : ∀ {a b : Nat}, a ≤ b → cumD y a ≤ cumD y b := by
  intro a b h
  induction b with
  | zero => rw [show a = 0 by omega]; exact Nat.le_refl _
  | succ b ih =>
    by_cases e : a = b + 1
    · rw [e]; exact Nat.le_refl _
    · have := ih (by omega)
      show cumD y a ≤ cumD y b + dim y (b + 1)
      omega
theorem dby_mono {a b : Nat} (h1 : 1 ≤ a) (h : a ≤ b) : dby a ≤ dby b := by
  induction b with
  | zero => omega
  | succ b ih =>
    by_cases e : a = b + 1
    · rw [e]; exact Nat.le_refl _
    · have := ih (by omega)
      rw [dby_succ b (by omega)]
      omega
theorem dby_le (k : Nat) : dby (k + 1) ≤ 366 * k := by
  unfold dby
  simp only [Nat.add_sub_cancel]
  omega
theorem dby_max : dby 10000 = 3652059 := by decide
theorem dby_one : dby 1 = 0 := by decide
theorem dayN_lt {y m d : Nat} (h : DateOk y m d) : dby y ≤ dayN y m d ∧ dayN y m d < dby (y + 1) := by
  obtain ⟨h1, h2, h3, h4, h5, h6⟩ := h
  unfold dayN
  refine ⟨by omega, ?_⟩
  have e : cumD y m = cumD y (m - 1) + dim y m := by
    obtain ⟨k, rfl⟩ : ∃ k, m = k + 1 := ⟨m - 1, by omega⟩
    rfl
  have k1 := cumD_mono y h4
  rw [cumD_12] at k1
  rw [dby_succ y h1]
  omega
theorem dayN_max {y m d : Nat} (h : DateOk y m d) : dayN y m d < 3652059 := by
  have h1 := dayN_lt h
  have h2 := dby_mono (a := y + 1) (b := 10000) (by omega) (by have := h.y2; omega)
  rw [dby_max] at h2
  omega
/-- Dates with the same number are the same. -/
theorem dayN_inj {y m d y' m' d' : Nat} (h : DateOk y m d) (h' : DateOk y' m' d') (e : dayN y m d = dayN y' m' d') : y = y' ∧ m = m' ∧ d = d' := by
  have a := dayN_lt h
  have a' := dayN_lt h'
  have hy : y = y' := by
    rcases Nat.lt_trichotomy y y' with k | k | k
    · have := dby_mono (a := y + 1) (b := y') (by omega) k
      omega
    · exact k
    · have := dby_mono (a := y' + 1) (b := y) (by omega) k
      omega
  subst hy
  unfold dayN at e
  have c : ∀ {m d : Nat}, DateOk y m d → cumD y m = cumD y (m - 1) + dim y m := fun {m d} h => by
    obtain ⟨k, rfl⟩ : ∃ k, m = k + 1 := ⟨m - 1, by have := h.m1; omega⟩
    rfl
  have hm : m = m' := by
    rcases Nat.lt_trichotomy m m' with k | k | k
    · have k1 := cumD_mono y (a := m) (b := m' - 1) (by omega)
      have := c h
      have := h.d1
      have := h.d2
      have := h'.d1
      omega
    · exact k
    · have k1 := cumD_mono y (a := m') (b := m - 1) (by omega)
      have := c h'
      have := h.d1
      have := h'.d2
      have := h'.d1
      omega
  subst hm
  refine ⟨rfl, rfl, ?_⟩
  have := h.d1
  have := h'.d1
  omega
/-- The days of the months as the program's table has them. -/
def mdays : List Nat := [31, 28, 31, 30, 31, 30, 31, 31, 30, 31, 30, 31]
theorem mdays_dim (y m : Nat) (h1 : 1 ≤ m) (h2 : m ≤ 12) (h : m = 2 → lpN y = 0) : mdays.getD (m - 1) 0 = dim y m := by
  rcases (show m = 1 ∨ m = 2 ∨ m = 3 ∨ m = 4 ∨ m = 5 ∨ m = 6 ∨ m = 7 ∨ m = 8 ∨ m = 9 ∨ m = 10 ∨ m = 11 ∨ m = 12 by omega) with rfl | rfl | rfl | rfl | rfl | rfl | rfl | rfl | rfl | rfl | rfl | rfl
  · rfl
  · unfold dim; rw [if_pos rfl, h rfl]; rfl
  all_goals rfl
end Go.Proofs.YtgmnjghbafbopaaGreatDoor
namespace Go.Proofs.YtgmnjghbafbopaaGreatDoor
open Go.Lib

/-- A text that can be a moment's Second. -/
def isSec (s : List UInt8) : Bool := match canonL s with
  | some x => !x.1 && decide (x.2 < 60 * 10 ^ 20) && decide (x.2 % 10 ^ 14 = 0)
  | none => false
theorem p14 : (10 : Nat) ^ 20 = 10 ^ 6 * 10 ^ 14 := by rw [← Nat.pow_add]
theorem T0 : 0 < 10 ^ 14 := Nat.pow_pos (by decide)
theorem mic_lt {m : Nat} (h : m < 10 ^ 36) : m * 10 ^ 14 < 10 ^ 50 := by
  have := Nat.mul_lt_mul_of_pos_right h T0
  rwa [← Nat.pow_add] at this
theorem lt36 {m : Nat} (h : m < 10000000000000000000) : m < 10 ^ 36 := Nat.lt_of_lt_of_le h (by decide)
theorem isSec_mic {s : List UInt8} (h : isSec s = true) : ∃ m, m < 60000000 ∧ s = bodyL (m * 10 ^ 14) ∧ canonL s = some (false, m * 10 ^ 14) := by
  unfold isSec at h
  split at h
  · rename_i x hx
    obtain ⟨b, k⟩ := x
    rw [Bool.and_eq_true, Bool.and_eq_true] at h
    obtain ⟨⟨h1, h2⟩, h3⟩ := h
    have h2k : k < 60 * 10 ^ 20 := of_decide_eq_true h2
    have h3k : k % 10 ^ 14 = 0 := of_decide_eq_true h3
    simp only at h1
    have hb : b = false := by cases b <;> simp_all
    subst hb
    have hk : k = k / 10 ^ 14 * 10 ^ 14 := (Nat.div_mul_cancel (Nat.dvd_of_mod_eq_zero h3k)).symm
    refine ⟨k / 10 ^ 14, ?_, ?_, ?_⟩
    · refine Nat.div_lt_of_lt_mul ?_
      rw [p14] at h2k
      rw [Nat.mul_comm (10 ^ 14), show (60000000 : Nat) = 60 * 10 ^ 6 by decide, Nat.mul_assoc]
      exact h2k
    · have := canon_parts hx
      rw [if_neg (by decide), List.nil_append] at this
      rw [← hk]; exact this
    · rw [← hk]; exact hx
  · cases h
theorem isSec_of {s : List UInt8} {k : Nat} (h : canonL s = some (false, k)) (h1 : k < 60 * 10 ^ 20) (h2 : k % 10 ^ 14 = 0) : isSec s = true := by
  unfold isSec
  rw [h]
  simp only
  rw [decide_eq_true h1, decide_eq_true h2]
  rfl
theorem mic_60 {m T : Nat} (hT : 0 < T) (h : m < 60000000) : m * T < 60 * (10 ^ 6 * T) := by
  rw [← Nat.mul_assoc]
  exact Nat.mul_lt_mul_of_pos_right h hT
theorem mic_isSec {m : Nat} (h : m < 60000000) : isSec (bodyL (m * 10 ^ 14)) = true :=
  isSec_of (body_canon (mic_lt (lt36 (by omega)))) (by rw [p14]; exact mic_60 T0 h) (Nat.mul_mod_left _ _)
theorem mic_inj {m m' : Nat} (h : m < 60000000) (h' : m' < 60000000) (e : bodyL (m * 10 ^ 14) = bodyL (m' * 10 ^ 14)) : m = m' := by
  have a := body_canon (mic_lt (lt36 (show m < 10000000000000000000 by omega)))
  rw [e, body_canon (mic_lt (lt36 (show m' < 10000000000000000000 by omega)))] at a
  have := congrArg Prod.snd (Option.some.inj a)
  exact (Nat.eq_of_mul_eq_mul_right T0 this).symm
theorem zeroC : canonL [48] = some (false, 0) := by decide +kernel
theorem sixtyC : canonL [54, 48] = some (false, 60 * 10 ^ 20) := by decide +kernel
def cutN : List UInt8 := [99, 117, 116]
def evenN : List UInt8 := [101, 118, 101, 110]
theorem round6_cut {s : List UInt8} {b : Bool} {k : Nat} (h : canonL s = some (b, k)) : roundR s 6 cutN = resR b (k / 10 ^ 14 * 10 ^ 14) := by
  unfold roundR
  rw [on1_some h, if_neg (by decide)]
  have e : wayL cutN = some cutW := by unfold wayL cutN; rw [if_neg (by decide), if_neg (by decide), if_neg (by decide), if_neg (by decide), if_pos rfl]
  rw [e]
  simp only
  have d : divW cutW b k (10 ^ 14) = k / 10 ^ 14 := by unfold divW cutW; rw [if_neg (by decide)]
  show resR b (divW cutW b k (10 ^ 14) * 10 ^ 14) = _
  rw [d]
theorem round6_even {s : List UInt8} {b : Bool} {k : Nat} (h : canonL s = some (b, k)) : roundR s 6 evenN = resR b (divW evenW b k (10 ^ 14) * 10 ^ 14) := by
  unfold roundR
  rw [on1_some h, if_neg (by decide)]
  have e : wayL evenN = some evenW := by unfold wayL evenN; rw [if_neg (by decide), if_pos rfl]
  rw [e]
  rfl
theorem mil : ([49, 48, 48, 48, 48, 48, 48] : List UInt8) = Lib.decDigits 1000000 := by decide +kernel
theorem lt30 {m : Nat} (h : m < 10000000000000000000) : m < 10 ^ 30 := Nat.lt_of_lt_of_le h (by decide)
/-- A whole number of millionths of a second as seconds. -/
def secT (b : Bool) (m : Nat) : List UInt8 × Int := resR b (m * 10 ^ 14)
theorem muX (m A B : Nat) : m * A * (10 ^ 6 * B * B) = m * B * A * (10 ^ 6 * B) := by ac_rfl
theorem secT_quo {t : List UInt8} {b : Bool} {m : Nat} (h : canonL t = some (b, m * 10 ^ 20)) : quoR t (Lib.decDigits 1000000) = secT b m := by
  unfold quoR secT
  rw [onD_some h (canon_int 1000000 (lt30 (by decide))) (by decide)]
  have e : divW evenW b (m * 10 ^ 20 * 10 ^ 20) (1000000 * 10 ^ 20) = m * 10 ^ 14 := by
    rw [show m * 10 ^ 20 * 10 ^ 20 = m * 10 ^ 14 * (1000000 * 10 ^ 20) by
      rw [Nat.mul_assoc, Nat.mul_assoc]]
    exact divW_exact even_calm _ _ _ (by decide)
  cases b with
  | false => exact congrArg (resR false) e
  | true => exact congrArg (resR true) e
theorem itoa_canon (n : Int) (h : n.natAbs < 10000000000000000000) : canonL (Lib.itoa n) = some (decide (n < 0), n.natAbs * 10 ^ 20) := by
  unfold Lib.itoa
  by_cases hn : n < 0
  · rw [if_pos hn, decide_eq_true hn]
    have ht : textL true (n.natAbs * 10 ^ 20) = some (45 :: Lib.decDigits n.natAbs) := by
      have h1 := text_int n.natAbs (lt30 h)
      have h2 := textL_is h1
      rw [if_neg (fun q => by cases q.1), List.nil_append] at h2
      obtain ⟨t, ht⟩ := textL_some true (n.natAbs * 10 ^ 20) (by
        have := Nat.mul_lt_mul_of_pos_right (lt30 h) U0
        rwa [← Nat.pow_add] at this)
      have h3 := textL_is ht
      rw [← h2, if_pos ⟨rfl, fun q => by have := (decD_zero _).1 q; omega⟩] at h3
      rw [ht, h3]
      rfl
    have := canon_text true _ _ ht
    rw [this]
    have h0 : n.natAbs * 10 ^ 20 ≠ 0 := Nat.mul_ne_zero (by omega) (Nat.ne_of_gt U0)
    simp [h0]
  · rw [if_neg hn, decide_eq_false hn]
    have := canon_int n.toNat (lt30 (by omega))
    rw [this, show n.toNat = n.natAbs by omega]
theorem parse_dgs64 : ∀ (l : List UInt8) (a : Nat), Dgs l → valD l a < 18446744073709551616 → Lib.parseUint10 a l = .ok (valD l a)
  | [], a, _, _ => rfl
  | c :: r, a, h, hv => by
    have hc := (isDg_iff c).1 (h c (by simp))
    rw [valD] at hv ⊢
    have := valD_ge r (10 * a + (c.toNat - 48))
    rw [Lib.parseUint10, if_pos hc, if_neg (by omega), if_neg (by omega), show a * 10 + (c.toNat - 48) = 10 * a + (c.toNat - 48) by omega]
    exact parse_dgs64 r _ (fun x hx => h x (List.mem_cons_of_mem _ hx)) hv
theorem mag_dec (m : Nat) : Lib.parseMag (Lib.decDigits m) = if m < 18446744073709551616 then .ok m else .range := by
  have hd := decD_dgs m
  unfold Lib.parseMag
  rw [if_neg (decD_ne m)]
  by_cases h : m < 18446744073709551616
  · rw [if_pos h]
    have := parse_dgs64 (Lib.decDigits m) 0 hd (by rw [decD_val]; exact h)
    rwa [decD_val] at this
  · rw [if_neg h]
    rcases parse_dgs_all (Lib.decDigits m) 0 hd with k | k
    · exact k
    · have := Lib.parseUint10_lt _ 0 _ (by omega) k
      rw [decD_val] at this
      omega
/-- What Atoi gives for a whole number's text. -/
theorem atoi_text {t : List UInt8} {b : Bool} {m : Nat} (h : textL b (m * 10 ^ 20) = some t) : Lib.atoiAll t = if -9223372036854775808 ≤ toZ b m ∧ toZ b m ≤ 9223372036854775807 then .ok (toZ b m) else .range := by
  have ht := textL_is h
  have hm : m < 10 ^ 30 := by
    have := textL_lt h
    rw [p50] at this
    exact Nat.lt_of_mul_lt_mul_right this
  have hb := textL_is (text_int m hm)
  rw [if_neg (fun q => by cases q.1), List.nil_append] at hb
  rw [← hb] at ht
  obtain ⟨c, r, hcr⟩ := List.exists_cons_of_ne_nil (decD_ne m)
  have hd := decD_dgs m
  rw [hcr] at hd
  have hc := (isDg_iff c).1 (hd c (by simp))
  have hmag := mag_dec m
  by_cases hneg : b = true ∧ Lib.decDigits m ≠ [48]
  · rw [if_pos hneg] at ht
    have hz : toZ b m = -(m : Int) := by unfold toZ; rw [if_pos hneg.1]
    rw [ht, hz]
    show Lib.atoiAll (45 :: Lib.decDigits m) = _
    unfold Lib.atoiAll
    simp only
    rw [if_pos (show (45 : UInt8).toNat = 43 ∨ (45 : UInt8).toNat = 45 from .inr rfl), hmag]
    by_cases h64 : m < 18446744073709551616
    · rw [if_pos h64]
      simp only [show (45 : UInt8).toNat = 45 from rfl, not_true_eq_false, false_and, true_and, if_true, if_false]
      by_cases h63 : 9223372036854775808 < m
      · rw [if_pos h63, if_neg (by omega)]
      · rw [if_neg h63, if_pos (by omega)]
    · rw [if_neg h64, if_neg (by omega)]
  · rw [if_neg hneg, List.nil_append] at ht
    have hz : toZ b m = (m : Int) := by
      unfold toZ
      cases b with
      | false => rfl
      | true =>
        have h48 : Lib.decDigits m = [48] := Classical.byContradiction fun q => hneg ⟨rfl, q⟩
        have h0 := (decD_zero m).1 h48
        subst h0; rfl
    rw [ht, hz, hcr]
    rw [hcr] at hmag
    unfold Lib.atoiAll
    simp only
    rw [if_neg (show ¬ (c.toNat = 43 ∨ c.toNat = 45) by omega), hmag]
    by_cases h64 : m < 18446744073709551616
    · rw [if_pos h64]
      simp only [show ¬ c.toNat = 45 by omega, not_false_eq_true, false_and, true_and, if_false]
      by_cases h63 : 9223372036854775808 ≤ m
      · rw [if_pos h63, if_neg (by omega)]
      · rw [if_neg h63, if_pos (by omega)]
    · rw [if_neg h64, if_neg (by omega)]
/-- How many millionths of a second a text of a number is, where they can be counted. -/
def micR (s : List UInt8) : Int × Bool := match canonL s with
  | some x => if -9223372036854775808 ≤ toZ x.1 (divW evenW x.1 x.2 (10 ^ 14)) ∧ toZ x.1 (divW evenW x.1 x.2 (10 ^ 14)) ≤ 9223372036854775807 then (toZ x.1 (divW evenW x.1 x.2 (10 ^ 14)), true) else (0, false)
  | none => (0, false)
theorem toZ_big {b : Bool} {m : Nat} (h : 10 ^ 30 ≤ m) : ¬ (-9223372036854775808 ≤ toZ b m ∧ toZ b m ≤ 9223372036854775807) := by
  have : 10000000000000000000 ≤ m := Nat.le_trans (by decide) h
  unfold toZ
  split <;> omega
end Go.Proofs.YtgmnjghbafbopaaGreatDoor
namespace Go.Proofs.YtgmnjghbafbopaaGreatDoor
open Go.RowKit Go.Lib

/-- A byte fits a form's byte. -/
def fitB (c f : UInt8) : Bool := c == f || (f == 48 && isDg c)
/-- A text has a form. -/
def fitsL : List UInt8 → List UInt8 → Bool
  | [], [] => true
  | c :: s, f :: fs => fitB c f && fitsL s fs
  | _, _ => false
theorem fits_len : ∀ {s f : List UInt8}, fitsL s f = true → s.length = f.length
  | [], [], _ => rfl
  | c :: s, f :: fs, h => by
    unfold fitsL at h
    rw [Bool.and_eq_true] at h
    simp [fits_len h.2]
  | [], f :: fs, h => by cases h
  | c :: s, [], h => by cases h
theorem fits_no_len {s f : List UInt8} (h : s.length ≠ f.length) : fitsL s f = false := by
  cases e : fitsL s f with
  | false => rfl
  | true => exact absurd (fits_len e) h
theorem fits_bad : ∀ {s f : List UInt8} (i : Nat), i < s.length → i < f.length → fitB (s.getD i 0) (f.getD i 0) = false → fitsL s f = false
  | [], _, i, h, _, _ => by simp at h
  | _ :: _, [], i, _, h, _ => by simp at h
  | c :: s, f :: fs, 0, _, _, h => by
    unfold fitsL
    have h : fitB c f = false := h
    rw [h]; rfl
  | c :: s, f :: fs, i + 1, h1, h2, h => by
    unfold fitsL
    rw [fits_bad i (by simpa using h1) (by simpa using h2) (by simpa using h), Bool.and_false]
theorem fits_all : ∀ {s f : List UInt8}, s.length = f.length → (∀ i, i < s.length → fitB (s.getD i 0) (f.getD i 0) = true) → fitsL s f = true
  | [], [], _, _ => rfl
  | [], f :: fs, h, _ => by simp at h
  | c :: s, [], h, _ => by simp at h
  | c :: s, f :: fs, h, k => by
    unfold fitsL
    have h0 : fitB c f = true := k 0 (by simp)
    rw [h0, Bool.true_and]
    exact fits_all (by simpa using h) (fun i hi => by simpa using k (i + 1) (by simpa using hi))
/-- The first form that fits, and what is left. -/
def readL (t : List UInt8) : List (List UInt8) → Option (List UInt8 × List UInt8)
  | [] => none
  | f :: fs => if fitsL (t.take f.length) f = true then some (t.take f.length, t.drop f.length) else readL t fs
theorem readL_len {t : List UInt8} : ∀ {fs : List (List UInt8)} {p r : List UInt8}, readL t fs = some (p, r) → p ++ r = t ∧ ∃ f, f ∈ fs ∧ fitsL p f = true
  | [], p, r, h => by cases h
  | f :: fs, p, r, h => by
    unfold readL at h
    split at h
    · rename_i hf
      injection h with h
      rw [Prod.mk.injEq] at h
      obtain ⟨rfl, rfl⟩ := h
      exact ⟨List.take_append_drop _ _, f, by simp, hf⟩
    · obtain ⟨h1, g, hg, h2⟩ := readL_len h
      exact ⟨h1, g, by simp [hg], h2⟩
def fY : List UInt8 := [48, 48, 48, 48]
def fM : List UInt8 := [45, 48, 48]
def fT : List UInt8 := [84]
def fH : List UInt8 := [48, 48]
def fC : List UInt8 := [58, 48, 48]
def fF : List (List UInt8) := [[46, 48, 48, 48, 48, 48, 48], [46, 48, 48, 48, 48, 48], [46, 48, 48, 48, 48], [46, 48, 48, 48], [46, 48, 48], [46, 48], []]
def fZ : List (List UInt8) := [[90], [43, 48, 48, 58, 48, 48], [45, 48, 48, 58, 48, 48], []]
theorem readF_some (t : List UInt8) : ∃ x, readL t fF = some x := by
  have key : ∀ (fs : List (List UInt8)), ∃ x, readL t (fs ++ [[]]) = some x := by
    intro fs
    induction fs with
    | nil => exact ⟨_, rfl⟩
    | cons f fs ih =>
      rw [List.cons_append]
      unfold readL
      split
      · exact ⟨_, rfl⟩
      · exact ih
  exact key [[46, 48, 48, 48, 48, 48, 48], [46, 48, 48, 48, 48, 48], [46, 48, 48, 48, 48], [46, 48, 48, 48], [46, 48, 48], [46, 48]]
theorem readZ_some (t : List UInt8) : ∃ x, readL t fZ = some x := by
  have key : ∀ (fs : List (List UInt8)), ∃ x, readL t (fs ++ [[]]) = some x := by
    intro fs
    induction fs with
    | nil => exact ⟨_, rfl⟩
    | cons f fs ih =>
      rw [List.cons_append]
      unfold readL
      split
      · exact ⟨_, rfl⟩
      · exact ih
  exact key [[90], [43, 48, 48, 58, 48, 48], [45, 48, 48, 58, 48, 48]]
/-- The number of a part behind its mark. -/
def tailV (p : List UInt8) : Nat := valD (p.drop 1) 0
theorem fit_dg {c : UInt8} (h : fitB c 48 = true) : isDg c = true := by
  unfold fitB at h
  rw [Bool.or_eq_true] at h
  rcases h with h | h
  · rw [beq_iff_eq] at h; subst h; decide
  · simpa using h
theorem fit_is {c f : UInt8} (hf : f ≠ 48) (h : fitB c f = true) : c = f := by
  unfold fitB at h
  rw [Bool.or_eq_true] at h
  rcases h with h | h
  · exact beq_iff_eq.1 h
  · rw [show (f == 48) = false from beq_eq_false_iff_ne.2 hf] at h; cases h
theorem fit_self (f : UInt8) : fitB f f = true := by unfold fitB; simp
theorem fit_of_dg {c : UInt8} (h : isDg c = true) : fitB c 48 = true := by unfold fitB; rw [h]; simp
theorem fits_zeros : ∀ {n : Nat} {p : List UInt8}, fitsL p (List.replicate n 48) = true ↔ p.length = n ∧ Dgs p
  | 0, p => by
    cases p with
    | nil => exact ⟨fun _ => ⟨rfl, fun _ h => by cases h⟩, fun _ => rfl⟩
    | cons c p => exact ⟨fun h => (by cases h), fun h => (by simp at h)⟩
  | n + 1, p => by
    cases p with
    | nil => exact ⟨fun h => (by cases h), fun h => (by simp at h)⟩
    | cons c p =>
      rw [List.replicate_succ]
      unfold fitsL
      rw [Bool.and_eq_true, fits_zeros]
      constructor
      · rintro ⟨h1, h2, h3⟩
        refine ⟨by simp [h2], fun b hb => ?_⟩
        rcases List.mem_cons.1 hb with rfl | hb
        · exact fit_dg h1
        · exact h3 b hb
      · rintro ⟨h1, h2⟩
        exact ⟨fit_of_dg (h2 c (by simp)), by simpa using h1, fun b hb => h2 b (by simp [hb])⟩
theorem fits_mark {m : UInt8} (hm : m ≠ 48) {n : Nat} {p : List UInt8} (h : fitsL p (m :: List.replicate n 48) = true) : ∃ d, p = m :: d ∧ d.length = n ∧ Dgs d := by
  cases p with
  | nil => cases h
  | cons c p =>
    unfold fitsL at h
    rw [Bool.and_eq_true] at h
    obtain ⟨h1, h2⟩ := h
    have := fit_is hm h1
    subst this
    exact ⟨p, rfl, fits_zeros.1 h2⟩
theorem read1_fits {t f p r : List UInt8} (h : readL t [f] = some (p, r)) : fitsL p f = true ∧ p ++ r = t := by
  obtain ⟨h1, g, hg, h2⟩ := readL_len h
  rw [List.mem_singleton] at hg
  subst hg
  exact ⟨h2, h1⟩
/-- A date's parts. -/
def dateP (s : List UInt8) : Option ((Nat × Nat × Nat) × List UInt8) := match readL s [fY] with
  | none => none
  | some a => match readL a.2 [fM] with
    | none => none
    | some b => match readL b.2 [fM] with
      | none => none
      | some c => some ((valD a.1 0, tailV b.1, tailV c.1), c.2)
/-- A time's parts. -/
def timeP (s : List UInt8) : Option ((Nat × Nat × List UInt8) × List UInt8) := match readL s [fH] with
  | none => none
  | some a => match readL a.2 [fC] with
    | none => none
    | some b => match readL b.2 [fC] with
      | none => none
      | some c => match readL c.2 fF with
        | none => none
        | some f => some ((valD a.1 0, tailV b.1, (readR (c.1.drop 1 ++ f.1)).1), f.2)
/-- The zone as it is written, and nothing behind it. -/
def zoneP (s : List UInt8) : Option (List UInt8) := match readL s fZ with
  | none => none
  | some z => if z.2 = [] then some z.1 else none
/-- What a text of a kind says. -/
structure PartsT where
  y : Nat
  mo : Nat
  d : Nat
  h : Nat
  mi : Nat
  sec : List UInt8
  zone : List UInt8
def partsD (s : List UInt8) : Option PartsT := match dateP s with
  | none => none
  | some d => match zoneP d.2 with
    | none => none
    | some z => some ⟨d.1.1, d.1.2.1, d.1.2.2, 0, 0, [48], z⟩
def partsC (s : List UInt8) : Option PartsT := match timeP s with
  | none => none
  | some c => match zoneP c.2 with
    | none => none
    | some z => some ⟨1972, 12, 31, c.1.1, c.1.2.1, c.1.2.2, z⟩
def partsM (s : List UInt8) : Option PartsT := match dateP s with
  | none => none
  | some d => match readL d.2 [fT] with
    | none => none
    | some t => match timeP t.2 with
      | none => none
      | some c => match zoneP c.2 with
        | none => none
        | some z => some ⟨d.1.1, d.1.2.1, d.1.2.2, c.1.1, c.1.2.1, c.1.2.2, z⟩
def partsT (kind : Int) (s : List UInt8) : Option PartsT := if kind = 6 then partsD s else if kind = 7 then partsC s else partsM s
end Go.Proofs.YtgmnjghbafbopaaGreatDoor

/- Durations: a minus sign ahead of a form, in plain words. No program in this text. Durations: months written and read back, in plain words. No program in this text. Durations: seconds written and read back, in plain words. No program in this text. -/
import Derived.Test.YtdfgifnccghlmabGreatDoorMDuI
namespace Go.Proofs.YtdfgifnccghlmabGreatDoor
open Go.Lib

theorem sumR_sign : ∀ (us ns : List (List UInt8)) (t : List UInt8), ((sumR false t ns us).2 ≠ 0 ∧ sumR true t ns us = sumR false t ns us) ∨ ((sumR false t ns us).2 = 0 ∧ sumR true t ns us = negR (sumR false t ns us).1)
  | [], ns, t => by
    rw [sumR_end, sumR_end]
    exact .inr ⟨rfl, rfl⟩
  | u :: us, [], t => .inr ⟨rfl, rfl⟩
  | u :: us, n :: ns, t => by
    rw [sumR, sumR]
    by_cases h1 : (readR n).2 ≠ 0
    · rw [if_pos h1, if_pos h1]; exact .inl ⟨h1, rfl⟩
    by_cases h2 : (mulR (readR n).1 u).2 ≠ 0
    · rw [if_neg h1, if_neg h1, if_pos h2, if_pos h2]; exact .inl ⟨h2, rfl⟩
    by_cases h3 : (addR t (mulR (readR n).1 u).1).2 ≠ 0
    · rw [if_neg h1, if_neg h1, if_neg h2, if_neg h2, if_pos h3, if_pos h3]; exact .inl ⟨h3, rfl⟩
    rw [if_neg h1, if_neg h1, if_neg h2, if_neg h2, if_neg h3, if_neg h3]
    exact sumR_sign us ns _
theorem canon_of_read {x : List UInt8} (h : readR x = (x, 0)) : ∃ b n, canonL x = some (b, n) := by
  unfold readR at h
  split at h
  · cases h
  · split at h
    · cases h
    · obtain ⟨c, hc, _⟩ := resR_back h
      exact ⟨_, _, hc⟩
theorem zero_canonR : CanonR ([48], 0) := .inr ⟨rfl, by decide +kernel, by decide⟩
/-- How a sum with a sign ends. -/
theorem sum_sign (us ns : List (List UInt8)) : (∃ z, z ≠ 0 ∧ sumR false [48] ns us = ([], z) ∧ sumR true [48] ns us = ([], z)) ∨ (∃ x y, sumR false [48] ns us = (x, 0) ∧ sumR true [48] ns us = (y, 0) ∧ negR x = (y, 0) ∧ negR y = (x, 0) ∧ ∃ b n, canonL x = some (b, n)) := by
  have hc := sumR_canonR false us ns [48] zero_canonR
  rcases sumR_sign us ns [48] with ⟨h1, h2⟩ | ⟨h1, h2⟩
  · left
    rcases hc with ⟨_, h3⟩ | ⟨h3, _⟩
    · exact ⟨_, h1, Prod.ext h3 rfl, by rw [h2]; exact Prod.ext h3 rfl⟩
    · exact absurd h3 h1
  · right
    rcases hc with ⟨h3, _⟩ | ⟨_, h3, _⟩
    · exact absurd h1 h3
    · obtain ⟨b, n, hb⟩ := canon_of_read h3
      obtain ⟨y, hy, hyx⟩ := negR_negR _ b n hb
      exact ⟨_, y, Prod.ext rfl h1, by rw [h2, hy], hy, hyx, b, n, hb⟩
theorem pre_none {s : List UInt8} (h : s.head? ≠ some 45) : Lib.hasPrefix s [45] = false ∧ Lib.trimPrefix s [45] = s := by
  have h1 : Lib.hasPrefix s [45] = false := by
    unfold Lib.hasPrefix
    cases s with
    | nil => rfl
    | cons c r =>
      have : ¬ (45 : UInt8) = c := fun e => h (by rw [e]; rfl)
      simp [List.isPrefixOf, this]
  exact ⟨h1, by unfold Lib.trimPrefix; rw [h1]; rfl⟩
theorem pre_some (s : List UInt8) : Lib.hasPrefix (45 :: s) [45] = true ∧ Lib.trimPrefix (45 :: s) [45] = s := by
  have h1 : Lib.hasPrefix (45 :: s) [45] = true := by simp [Lib.hasPrefix, List.isPrefixOf]
  exact ⟨h1, by unfold Lib.trimPrefix; rw [if_pos h1]; rfl⟩
theorem parseS_sign (s : List UInt8) (hs : s.length ≤ 199) (h0 : s.head? ≠ some 45) :
    (∃ z, z ≠ 0 ∧ parseS s = ([], z) ∧ parseS (45 :: s) = ([], z)) ∨ (∃ x y, parseS s = (x, 0) ∧ parseS (45 :: s) = (y, 0) ∧ negR y = (x, 0) ∧ y.length ≤ 52) := by
  unfold parseS
  rw [(pre_none h0).1, (pre_none h0).2, (pre_some s).1, (pre_some s).2]
  simp only
  rw [if_neg (show ¬ 200 < s.length by omega), if_neg (show ¬ 200 < (45 :: s).length by simp; omega)]
  split
  · exact .inl ⟨5, by decide, rfl, rfl⟩
  split
  · exact .inl ⟨5, by decide, rfl, rfl⟩
  rcases sum_sign [dayL, hourL, minL, [49]] ((secL 80 [68] s).2.2.1 ++ (secL 84 [72, 77, 83] (secL 80 [68] s).2.2.2).2.2.1) with h | ⟨x, y, h1, h2, h4, h3, _⟩
  · exact .inl h
  · exact .inr ⟨x, y, h1, h2, h3, by have := canonR_len (negR_canonR x); rw [h4] at this; exact this⟩
/-- How ParseMonths ends on a text of the sum. -/
def finM : Lib.NumEnd Int → Int × Int
  | .ok v => if v < -9999999999 ∨ 9999999999 < v then (0, 6) else (v, 0)
  | _ => (0, 6)
theorem fin_neg (c : UInt8) (r : List UInt8) (hc : isDg c = true) : finM (Lib.atoiAll (45 :: c :: r)) = (-(finM (Lib.atoiAll (c :: r))).1, (finM (Lib.atoiAll (c :: r))).2) := by
  have h := (isDg_iff c).1 hc
  have e1 : ¬ (c.toNat = 43 ∨ c.toNat = 45) := by omega
  have e2 : ¬ c.toNat = 45 := by omega
  have e3 : ((45 : UInt8).toNat = 43 ∨ (45 : UInt8).toNat = 45) := .inr rfl
  unfold Lib.atoiAll
  simp only
  rw [if_neg e1, if_pos e3]
  cases Lib.parseMag (c :: r) with
  | range => rfl
  | ok u =>
    simp only [e2, show (45 : UInt8).toNat = 45 from rfl, not_true_eq_false, false_and, true_and, not_false_eq_true, if_true, if_false]
    by_cases h1 : 9223372036854775808 < u
    · rw [if_pos h1, if_pos (show 9223372036854775808 ≤ u by omega)]; rfl
    · rw [if_neg h1]
      by_cases h2 : 9223372036854775808 ≤ u
      · rw [if_pos h2]
        unfold finM
        simp only
        rw [if_pos (by omega)]
        rfl
      · rw [if_neg h2]
        unfold finM
        simp only
        by_cases h3 : 9999999999 < u
        · rw [if_pos (by omega), if_pos (by omega)]; rfl
        · rw [if_neg (by omega), if_neg (by omega)]
  | _ => rfl
theorem body_dig (n : Nat) : ∃ c r, bodyL n = c :: r ∧ isDg c = true := by
  unfold bodyL
  by_cases h : dec (n / 10 ^ 20) = []
  · rw [if_pos h]; exact ⟨48, _, rfl, by decide⟩
  · rw [if_neg h]
    obtain ⟨c, r, hcr⟩ := List.exists_cons_of_ne_nil h
    rw [hcr]
    exact ⟨c, _, rfl, dec_dgs (n / 10 ^ 20) c (by rw [hcr]; simp)⟩
theorem textL_is {b : Bool} {n : Nat} {t : List UInt8} (h : textL b n = some t) : t = (if b = true ∧ bodyL n ≠ [48] then [45] else []) ++ bodyL n := by
  unfold textL at h
  split at h
  · cases h
  · exact (Option.some.inj h).symm
theorem fin_sign {x y : List UInt8} {b : Bool} {n : Nat} (hx : canonL x = some (b, n)) (hy : negR x = (y, 0)) : finM (Lib.atoiAll y) = (-(finM (Lib.atoiAll x)).1, (finM (Lib.atoiAll x)).2) := by
  obtain ⟨h1, h2, _⟩ := text_canon x b n hx
  have h3 : textL (!b) n = some y := by
    unfold negR at hy
    rw [on1_some hx] at hy
    unfold resR at hy
    split at hy
    · rename_i t ht
      cases hy
      exact ht
    · cases hy
  have ex := textL_is h1
  have ey := textL_is h3
  obtain ⟨c, r, hb, hc⟩ := body_dig n
  by_cases hz : bodyL n = [48]
  · rw [if_neg (fun k => k.2 hz), hz] at ex ey
    subst ex; subst ey
    decide +kernel
  · cases b with
    | false =>
      rw [if_neg (fun k => by cases k.1), List.nil_append, hb] at ex
      rw [if_pos ⟨rfl, hz⟩, hb] at ey
      subst ex; subst ey
      exact fin_neg c r hc
    | true =>
      rw [if_pos ⟨rfl, hz⟩, hb] at ex
      rw [if_neg (fun k => by cases k.1), List.nil_append, hb] at ey
      subst ex; subst ey
      have k := fin_neg c r hc
      show _ = (-(finM (Lib.atoiAll (45 :: c :: r))).1, (finM (Lib.atoiAll (45 :: c :: r))).2)
      rw [k]
      simp
theorem parseM_sign (s : List UInt8) (hs : s.length ≤ 199) (h0 : s.head? ≠ some 45) : parseM (45 :: s) = (-(parseM s).1, (parseM s).2) := by
  have hp : ∀ t, (if (sumR t [48] (secL 80 [89, 77] s).2.2.1 [[49, 50], [49]]).2 ≠ 0 then ((0 : Int), (6 : Int)) else match Lib.atoiAll (sumR t [48] (secL 80 [89, 77] s).2.2.1 [[49, 50], [49]]).1 with
      | .ok v => if v < -9999999999 ∨ 9999999999 < v then (0, 6) else (v, 0)
      | _ => (0, 6)) = if (sumR t [48] (secL 80 [89, 77] s).2.2.1 [[49, 50], [49]]).2 ≠ 0 then (0, 6) else finM (Lib.atoiAll (sumR t [48] (secL 80 [89, 77] s).2.2.1 [[49, 50], [49]]).1) := fun t => by
    split
    · rfl
    · cases Lib.atoiAll (sumR t [48] (secL 80 [89, 77] s).2.2.1 [[49, 50], [49]]).1 <;> rfl
  unfold parseM
  rw [(pre_none h0).1, (pre_none h0).2, (pre_some s).1, (pre_some s).2]
  simp only
  rw [if_neg (show ¬ 200 < s.length by omega), if_neg (show ¬ 200 < (45 :: s).length by simp; omega)]
  by_cases hk : (secL 80 [89, 77] s).2.1 = 0 ∨ (secL 80 [89, 77] s).2.2.2 ≠ []
  · rw [if_pos hk, if_pos hk]; rfl
  rw [if_neg hk, if_neg hk]
  refine (hp true).trans ?_
  refine Eq.trans ?_ (congrArg (fun q : Int × Int => (-q.1, q.2)) (hp false).symm)
  show _ = (-(ite _ _ _ : Int × Int).1, (ite _ _ _ : Int × Int).2)
  rcases sum_sign [[49, 50], [49]] (secL 80 [89, 77] s).2.2.1 with ⟨z, h1, h2, h3⟩ | ⟨x, y, h1, h2, h3, _, b, n, h5⟩
  · rw [h2, h3, if_pos h1]; rfl
  · rw [h1, h2]
    simp only [ne_eq, not_true_eq_false, if_false]
    exact fin_sign h5 h3
theorem finM_small (e : Lib.NumEnd Int) : -9999999999 ≤ (finM e).1 ∧ (finM e).1 ≤ 9999999999 := by
  unfold finM
  split
  · split
    · exact ⟨by decide, by decide⟩
    · simp only; omega
  · exact ⟨by decide, by decide⟩
theorem parseM_small (s : List UInt8) : -9999999999 ≤ (parseM s).1 ∧ (parseM s).1 ≤ 9999999999 := by
  unfold parseM
  simp only
  split
  · exact ⟨by decide, by decide⟩
  split
  · exact ⟨by decide, by decide⟩
  split
  · exact ⟨by decide, by decide⟩
  split
  · split
    · exact ⟨by decide, by decide⟩
    · simp only; omega
  · exact ⟨by decide, by decide⟩
end Go.Proofs.YtdfgifnccghlmabGreatDoor
namespace Go.Proofs.YtdfgifnccghlmabGreatDoor
open Go.Lib

theorem valD_ge : ∀ (l : List UInt8) (a : Nat), a ≤ valD l a
  | [], _ => Nat.le_refl _
  | b :: t, a => by
    rw [valD]
    have := valD_ge t (10 * a + (b.toNat - 48))
    omega
theorem parse_dgs : ∀ (l : List UInt8) (a : Nat), Dgs l → valD l a < 1000000000000000000 → Lib.parseUint10 a l = .ok (valD l a)
  | [], a, _, _ => rfl
  | c :: r, a, h, hv => by
    have hc := (isDg_iff c).1 (h c (by simp))
    rw [valD] at hv ⊢
    have := valD_ge r (10 * a + (c.toNat - 48))
    rw [Lib.parseUint10, if_pos hc, if_neg (by omega), if_neg (by omega), show a * 10 + (c.toNat - 48) = 10 * a + (c.toNat - 48) by omega]
    exact parse_dgs r _ (fun x hx => h x (List.mem_cons_of_mem _ hx)) hv
theorem decD_dgs (k : Nat) : Dgs (Lib.decDigits k) := by
  rw [decDigits_dec]
  split
  · exact Dgs.cons (by decide) Dgs.nil
  · exact dec_dgs k
theorem decD_val (k : Nat) : valD (Lib.decDigits k) 0 = k := by
  rw [decDigits_dec]
  split
  · rename_i h; rw [h]; rfl
  · exact valD_dec k
theorem dec_ne {k : Nat} (h : k ≠ 0) : dec k ≠ [] := fun e => by
  have := valD_dec k
  rw [e] at this
  exact h this.symm
theorem decD_ne (k : Nat) : Lib.decDigits k ≠ [] := by
  rw [decDigits_dec]
  split
  · simp
  · rename_i h; exact dec_ne h
theorem decD_zero (k : Nat) : Lib.decDigits k = [48] ↔ k = 0 := by
  constructor
  · intro h
    have := decD_val k
    rw [h] at this
    exact this.symm
  · intro h; subst h; rw [decDigits_dec, if_pos rfl]
theorem atoi_decD (k : Nat) (h : k < 1000000000000000000) : Lib.atoiAll (Lib.decDigits k) = .ok (k : Int) := by
  obtain ⟨c, r, hcr⟩ := List.exists_cons_of_ne_nil (decD_ne k)
  have hd := decD_dgs k
  have hp := parse_dgs (Lib.decDigits k) 0 hd (by rw [decD_val]; exact h)
  rw [decD_val] at hp
  rw [hcr] at hd hp ⊢
  have hc := (isDg_iff c).1 (hd c (by simp))
  unfold Lib.atoiAll Lib.parseMag
  simp only
  rw [if_neg (show ¬ (c.toNat = 43 ∨ c.toNat = 45) by omega), if_neg (by simp), hp]
  simp only
  rw [if_neg (by omega), if_neg (by omega), if_neg (by omega)]
theorem text_int (k : Nat) (h : k < 10 ^ 30) : textL false (k * 10 ^ 20) = some (Lib.decDigits k) := by
  have e1 : k * 10 ^ 20 / 10 ^ 20 = k := Nat.mul_div_cancel _ (by decide)
  have e2 : trimE (fixed 20 (k * 10 ^ 20)) = [] := by rw [fixed_mul]; exact trimE_of [] 20 (by simp)
  unfold textL bodyL
  rw [e1, e2, if_neg (by rw [Nat.not_lt]; exact (dec_len k 30).2 h), if_neg (fun k => by cases k.1), if_pos rfl, List.nil_append, List.append_nil, decDigits_dec]
  by_cases h0 : k = 0
  · subst h0; rw [if_pos rfl, dec_zero, if_pos rfl]
  · rw [if_neg h0, if_neg (dec_ne h0)]
theorem canon_int (k : Nat) (h : k < 10 ^ 30) : canonL (Lib.decDigits k) = some (false, k * 10 ^ 20) := by
  have := canon_text false _ _ (text_int k h)
  rwa [Bool.false_and] at this
theorem resR_of {b : Bool} {n : Nat} {t : List UInt8} (h : textL b n = some t) : resR b n = (t, 0) := by unfold resR; rw [h]
theorem resR_int (k : Nat) (h : k < 10 ^ 30) : resR false (k * 10 ^ 20) = (Lib.decDigits k, 0) := resR_of (text_int k h)
theorem readR_int (k : Nat) (h : k < 10 ^ 30) : readR (Lib.decDigits k) = (Lib.decDigits k, 0) := readR_text (text_int k h)
theorem muU (a b U : Nat) : a * U * (b * U) = a * b * U * U := by ac_rfl
theorem U0 : 0 < 10 ^ 20 := Nat.pow_pos (by decide)
theorem plusN_ff (x y : Nat) : plusN false false x y = x + y := by unfold plusN; rw [if_pos rfl]
theorem plusB_ff (x y : Nat) : plusB false false x y = false := by unfold plusB; rw [if_pos rfl]
theorem mul_int (a b : Nat) (ha : a < 10 ^ 30) (hb : b < 10 ^ 30) (hab : a * b < 10 ^ 30) : mulR (Lib.decDigits a) (Lib.decDigits b) = (Lib.decDigits (a * b), 0) := by
  unfold mulR
  rw [on2_some (canon_int a ha) (canon_int b hb), show (false != false) = false from rfl, muU, divW_exact even_calm _ _ _ U0]
  exact resR_int _ hab
theorem add_int (a b : Nat) (ha : a < 10 ^ 30) (hb : b < 10 ^ 30) (hab : a + b < 10 ^ 30) : addR (Lib.decDigits a) (Lib.decDigits b) = (Lib.decDigits (a + b), 0) := by
  unfold addR
  rw [on2_some (canon_int a ha) (canon_int b hb), plusN_ff, plusB_ff, ← Nat.add_mul]
  exact resR_int _ hab
theorem sumR_int (below : Bool) (t n u : Nat) (ns us : List (List UInt8)) (ht : t < 10 ^ 20) (hn : n < 10 ^ 20) (hu : u < 10 ^ 6) : sumR below (Lib.decDigits t) (Lib.decDigits n :: ns) (Lib.decDigits u :: us) = sumR below (Lib.decDigits (t + n * u)) ns us := by
  have h1 : n * u < 10 ^ 26 := by
    have := Nat.mul_lt_mul'' hn hu
    rwa [← Nat.pow_add] at this
  have e20 : (10 : Nat) ^ 20 = 100000000000000000000 := by decide
  have e26 : (10 : Nat) ^ 26 = 100000000000000000000000000 := by decide
  have e30 : (10 : Nat) ^ 30 = 1000000000000000000000000000000 := by decide
  have e6 : (10 : Nat) ^ 6 = 1000000 := by decide
  rw [sumR, readR_int n (by omega)]
  simp only
  rw [if_neg (by simp), mul_int n u (by omega) (by omega) (by omega)]
  simp only
  rw [if_neg (by simp), add_int t (n * u) (by omega) (by omega) (by omega)]
  simp only
  rw [if_neg (by simp)]
theorem splitC_none (c : UInt8) : ∀ s : List UInt8, c ∉ s → splitC c s = (s, [], false)
  | [], _ => rfl
  | b :: t, h => by
    have hb : b ≠ c := fun e => h (by simp [e])
    rw [splitC, if_neg hb, splitC_none c t (fun e => h (by simp [e]))]
theorem decD_not {c : UInt8} (hc : isDg c = false) (k : Nat) : c ∉ Lib.decDigits k := fun h => by
  rw [decD_dgs k c h] at hc; cases hc
theorem dgs1_decD (k : Nat) : dgs1 (Lib.decDigits k) = true := by
  unfold dgs1
  rw [(dgs_all _).2 (decD_dgs k)]
  have := decD_ne k
  cases h : Lib.decDigits k with
  | nil => exact absurd h this
  | cons a r => rfl
theorem partL_some {c : UInt8} (hc : isDg c = false) (k : Nat) (r : List UInt8) : partL c (Lib.decDigits k ++ c :: r) = some (Lib.decDigits k, r) := by
  unfold partL
  rw [splitC_at c _ _ (decD_not hc k), ← splitC_dot, splitC_none 46 _ (dgs_dot (decD_dgs k))]
  simp only
  rw [dgs1_decD k, if_pos (by simp)]
theorem partL_none {c : UInt8} {s : List UInt8} (h : c ∉ s) : partL c s = none := by
  unfold partL
  rw [splitC_none c s h, if_neg (by simp)]
theorem parts_body (y m : Nat) (h : ¬ (y = 0 ∧ m = 0)) : ∃ q, q ≠ 0 ∧ partsL true [89, 77] (partT (Lib.decDigits y) 89 ++ partT (Lib.decDigits m) 77) = (q, [Lib.decDigits y, Lib.decDigits m], []) := by
  have d89 : isDg 89 = false := by decide
  have d77 : isDg 77 = false := by decide
  have z : Lib.decDigits 0 = [48] := (decD_zero 0).2 rfl
  have hn : ∀ (c : UInt8), partL c [] = none := fun c => partL_none (by simp)
  by_cases hy : y = 0
  · have hm : m ≠ 0 := fun e => h ⟨hy, e⟩
    have e1 : partL 89 (Lib.decDigits m ++ [77]) = none := partL_none (by
      rw [List.mem_append]
      rintro (k | k)
      · exact decD_not d89 m k
      · simp at k)
    have e2 := partL_some d77 m []
    refine ⟨1, by decide, ?_⟩
    unfold partT
    rw [if_pos ((decD_zero y).2 hy), if_neg (fun k => hm ((decD_zero m).1 k)), List.nil_append, hy, z]
    simp only [partsL, if_true, e1, e2]
  · by_cases hm : m = 0
    · have e1 := partL_some d89 y []
      refine ⟨1, by decide, ?_⟩
      unfold partT
      rw [if_neg (fun k => hy ((decD_zero y).1 k)), if_pos ((decD_zero m).2 hm), List.append_nil, hm, z]
      simp only [partsL, if_true, e1, hn]
    · have e1 := partL_some d89 y (Lib.decDigits m ++ [77])
      have e2 := partL_some d77 m []
      refine ⟨2, by decide, ?_⟩
      unfold partT
      rw [if_neg (fun k => hy ((decD_zero y).1 k)), if_neg (fun k => hm ((decD_zero m).1 k)), List.append_assoc]
      simp only [partsL, if_true, List.singleton_append, e1, e2]
theorem decD_len (k : Nat) (h : k < 10 ^ 20) : (Lib.decDigits k).length ≤ 20 := by
  rw [decDigits_dec]
  split
  · decide
  · exact (dec_len k 20).2 h
theorem partT_len (l : List UInt8) (c : UInt8) : (partT l c).length ≤ l.length + 1 := by
  unfold partT
  split <;> simp
theorem body_len (N : Nat) (h : N ≤ 9999999999) : (bodyM N).length ≤ 42 := by
  unfold bodyM
  have e20 : (10 : Nat) ^ 20 = 100000000000000000000 := by decide
  have h1 := decD_len (N / 12) (by omega)
  have h2 := decD_len (N % 12) (by omega)
  have h3 := partT_len (Lib.decDigits (N / 12)) 89
  have h4 := partT_len (Lib.decDigits (N % 12)) 77
  rw [List.length_append]
  omega
theorem back_pos (N : Nat) (h0 : N ≠ 0) (h : N ≤ 9999999999) : parseM (80 :: bodyM N) = ((N : Int), 0) := by
  obtain ⟨q, hq, hp⟩ := parts_body (N / 12) (N % 12) (by omega)
  have hl := body_len N h
  have hsec : secL 80 [89, 77] (80 :: bodyM N) = (true, q, [Lib.decDigits (N / 12), Lib.decDigits (N % 12)], []) := by
    have h1 : Lib.hasPrefix (80 :: bodyM N) [80] = true := by simp [Lib.hasPrefix, List.isPrefixOf]
    have h2 : Lib.trimPrefix (80 :: bodyM N) [80] = bodyM N := by unfold Lib.trimPrefix; rw [if_pos h1]; rfl
    unfold secL
    rw [h1, h2]
    show (true, partsL true [89, 77] (partT (Lib.decDigits (N / 12)) 89 ++ partT (Lib.decDigits (N % 12)) 77)) = _
    rw [hp]
  have hpre := pre_none (s := 80 :: bodyM N) (by simp)
  have e20 : (10 : Nat) ^ 20 = 100000000000000000000 := by decide
  have e6 : (10 : Nat) ^ 6 = 1000000 := by decide
  have hsum : sumR false [48] [Lib.decDigits (N / 12), Lib.decDigits (N % 12)] [[49, 50], [49]] = (Lib.decDigits N, 0) := by
    have z0 : ([48] : List UInt8) = Lib.decDigits 0 := ((decD_zero 0).2 rfl).symm
    have z1 : ([49] : List UInt8) = Lib.decDigits 1 := by rw [Lib.decDigits_one (by decide)]; rfl
    have z12 : ([49, 50] : List UInt8) = Lib.decDigits 12 := by rw [Lib.decDigits_two (by decide) (by decide)]; rfl
    rw [z0, z1, z12, sumR_int false 0 (N / 12) 12 _ _ (by omega) (by omega) (by omega), sumR_int false _ (N % 12) 1 _ _ (by omega) (by omega) (by omega), sumR_end]
    rw [if_neg (by simp), show 0 + N / 12 * 12 + N % 12 * 1 = N by omega]
  unfold parseM
  rw [hpre.1, hpre.2, hsec]
  simp only
  rw [if_neg (by simp; omega), if_neg (by simp; exact hq), hsum]
  simp only
  rw [if_neg (by simp), atoi_decD N (by omega)]
  simp only
  rw [if_neg (by omega)]
theorem back_M (n : Int) (h : -9999999999 ≤ n ∧ n ≤ 9999999999) : ∃ s, textM n = (s, 0) ∧ parseM s = (n, 0) ∧ s.length ≤ 44 := by
  unfold textM
  rw [if_neg (by omega)]
  by_cases h0 : n = 0
  · rw [if_pos h0, h0]
    exact ⟨_, rfl, by decide +kernel, by decide⟩
  rw [if_neg h0]
  have hb := body_len n.natAbs (by omega)
  have hp := back_pos n.natAbs (by omega) (by omega)
  refine ⟨_, rfl, ?_, ?_⟩
  · by_cases hn : n < 0
    · rw [if_pos hn]
      show parseM (45 :: (80 :: bodyM n.natAbs)) = _
      rw [parseM_sign _ (by simp; omega) (by simp), hp]
      exact Prod.ext (by simp only; omega) rfl
    · rw [if_neg hn]
      show parseM (80 :: bodyM n.natAbs) = _
      rw [hp]
      exact Prod.ext (by simp only; omega) rfl
  · split <;> simp <;> omega
end Go.Proofs.YtdfgifnccghlmabGreatDoor
namespace Go.Proofs.YtdfgifnccghlmabGreatDoor
open Go.Lib

theorem body_text {k : Nat} (h : k < 10 ^ 50) : textL false k = some (bodyL k) := by
  obtain ⟨t, ht⟩ := textL_some false k h
  have := textL_is ht
  rw [if_neg (fun q => by cases q.1), List.nil_append] at this
  rw [ht, this]
theorem body_canon {k : Nat} (h : k < 10 ^ 50) : canonL (bodyL k) = some (false, k) := by
  have := canon_text false _ _ (body_text h)
  rwa [Bool.false_and] at this
theorem body_resR {k : Nat} (h : k < 10 ^ 50) : resR false k = (bodyL k, 0) := resR_of (body_text h)
theorem idiv_body {k u : Nat} (hk : k < 10 ^ 50) (hu : u < 10 ^ 30) (h0 : u ≠ 0) (hq : k / (u * 10 ^ 20) < 10 ^ 30) : idivR (bodyL k) (Lib.decDigits u) = (Lib.decDigits (k / (u * 10 ^ 20)), 0) := by
  unfold idivR
  rw [onD_some (body_canon hk) (canon_int u hu) (Nat.mul_ne_zero h0 (Nat.ne_of_gt U0))]
  exact resR_int _ hq
theorem mod_body {k u : Nat} (hk : k < 10 ^ 50) (hu : u < 10 ^ 30) (h0 : u ≠ 0) : modR (bodyL k) (Lib.decDigits u) = (bodyL (k % (u * 10 ^ 20)), 0) := by
  unfold modR
  rw [onD_some (body_canon hk) (canon_int u hu) (Nat.mul_ne_zero h0 (Nat.ne_of_gt U0))]
  exact body_resR (Nat.lt_of_le_of_lt (Nat.mod_le _ _) hk)
theorem dayD : dayL = Lib.decDigits 86400 := by decide +kernel
theorem hourD : hourL = Lib.decDigits 3600 := by decide +kernel
theorem minD : minL = Lib.decDigits 60 := by decide +kernel
theorem oneD : ([49] : List UInt8) = Lib.decDigits 1 := by decide +kernel
theorem zeroD : ([48] : List UInt8) = Lib.decDigits 0 := by decide +kernel
/-- Days, hours, minutes and the rest. -/
theorem units (k U : Nat) (hU : 0 < U) : ∃ D H M r, k / (86400 * U) = D ∧ k % (86400 * U) / (3600 * U) = H ∧ k % (86400 * U) % (3600 * U) / (60 * U) = M ∧ k % (86400 * U) % (3600 * U) % (60 * U) = r ∧ H < 24 ∧ M < 60 ∧ r < 60 * U ∧ (D * 86400 + H * 3600 + M * 60) * U + r = k := by
  refine ⟨_, _, _, _, rfl, rfl, rfl, rfl, ?_, ?_, Nat.mod_lt _ (by omega), ?_⟩
  · refine Nat.div_lt_of_lt_mul ?_
    have := Nat.mod_lt k (show 0 < 86400 * U by omega)
    omega
  · refine Nat.div_lt_of_lt_mul ?_
    have := Nat.mod_lt (k % (86400 * U)) (show 0 < 3600 * U by omega)
    omega
  · have h1 := Nat.div_add_mod k (86400 * U)
    have h2 := Nat.div_add_mod (k % (86400 * U)) (3600 * U)
    have h3 := Nat.div_add_mod (k % (86400 * U) % (3600 * U)) (60 * U)
    generalize k % (86400 * U) % (3600 * U) % (60 * U) = r at *
    generalize k % (86400 * U) % (3600 * U) / (60 * U) = M at *
    generalize k % (86400 * U) % (3600 * U) = r2 at *
    generalize k % (86400 * U) / (3600 * U) = H at *
    generalize k % (86400 * U) = r1 at *
    generalize k / (86400 * U) = D at *
    have a1 : ∀ x y : Nat, x * U * y = y * x * U := fun x y => by rw [Nat.mul_comm (x * U) y, Nat.mul_assoc]
    rw [← h1, ← h2, ← h3, a1, a1, a1, Nat.add_mul, Nat.add_mul]
    simp only [Nat.add_assoc]
theorem tot_lt {T r k : Nat} (h : T * 10 ^ 20 + r = k) (hk : k < 10 ^ 50) : T < 10 ^ 30 := by
  refine Nat.lt_of_mul_lt_mul_right (a := 10 ^ 20) ?_
  rw [← Nat.pow_add]
  exact Nat.lt_of_le_of_lt (by rw [← h]; exact Nat.le_add_right _ _) hk
theorem sumR_big (below : Bool) (t n u : Nat) (ns us : List (List UInt8)) (hn : n < 10 ^ 30) (hu : u < 10 ^ 30) (h : t + n * u < 10 ^ 30) : sumR below (Lib.decDigits t) (Lib.decDigits n :: ns) (Lib.decDigits u :: us) = sumR below (Lib.decDigits (t + n * u)) ns us := by
  have h1 : n * u < 10 ^ 30 := Nat.lt_of_le_of_lt (Nat.le_add_left _ _) h
  have h2 : t < 10 ^ 30 := Nat.lt_of_le_of_lt (Nat.le_add_right _ _) h
  rw [sumR, readR_int n hn]
  simp only
  rw [if_neg (by simp), mul_int n u hn hu h1]
  simp only
  rw [if_neg (by simp), add_int t (n * u) h2 h1 h]
  simp only
  rw [if_neg (by simp)]
theorem mul_one_body {r : Nat} (hr : r < 10 ^ 50) : mulR (bodyL r) (Lib.decDigits 1) = (bodyL r, 0) := by
  unfold mulR
  rw [on2_some (body_canon hr) (canon_int 1 (Nat.one_lt_pow (by decide) (by decide))), show (false != false) = false from rfl, Nat.one_mul, divW_exact even_calm _ _ _ U0]
  exact body_resR hr
theorem add_int_body {T r : Nat} (hT : T < 10 ^ 30) (hr : r < 10 ^ 50) (h : T * 10 ^ 20 + r < 10 ^ 50) : addR (Lib.decDigits T) (bodyL r) = (bodyL (T * 10 ^ 20 + r), 0) := by
  unfold addR
  rw [on2_some (canon_int T hT) (body_canon hr), plusN_ff, plusB_ff]
  exact body_resR h
theorem sum_units (D H M r k : Nat) (hH : H < 24) (hM : M < 60) (e : (D * 86400 + H * 3600 + M * 60) * 10 ^ 20 + r = k) (hk : k < 10 ^ 50) :
    sumR false [48] [Lib.decDigits D, Lib.decDigits H, Lib.decDigits M, bodyL r] [dayL, hourL, minL, [49]] = (bodyL k, 0) := by
  have hT := tot_lt e hk
  have e30 : (10 : Nat) ^ 30 = 1000000000000000000000000000000 := by decide
  have hr : r < 10 ^ 50 := Nat.lt_of_le_of_lt (by rw [← e]; exact Nat.le_add_left _ _) hk
  obtain ⟨B, hB⟩ : ∃ B, (10 : Nat) ^ 30 = B := ⟨_, rfl⟩
  have hBb : 86400 < B := by rw [← hB, e30]; decide
  have b1 : 0 + D * 86400 < 10 ^ 30 := by rw [hB] at hT ⊢; omega
  have b2 : 0 + D * 86400 + H * 3600 < 10 ^ 30 := by rw [hB] at hT ⊢; omega
  have b3 : 0 + D * 86400 + H * 3600 + M * 60 < 10 ^ 30 := by rw [hB] at hT ⊢; omega
  have bD : D < 10 ^ 30 := by rw [hB] at hT ⊢; omega
  have bH : H < 10 ^ 30 := by rw [hB]; omega
  have bM : M < 10 ^ 30 := by rw [hB]; omega
  have u1 : 86400 < 10 ^ 30 := by rw [hB]; omega
  have u2 : 3600 < 10 ^ 30 := by rw [hB]; omega
  have u3 : 60 < 10 ^ 30 := by rw [hB]; omega
  rw [zeroD, oneD, dayD, hourD, minD, sumR_big false 0 D 86400 _ _ bD u1 b1, sumR_big false _ H 3600 _ _ bH u2 b2, sumR_big false _ M 60 _ _ bM u3 b3]
  rw [sumR, readR_text (body_text hr)]
  simp only
  rw [if_neg (by simp), mul_one_body hr]
  simp only
  have e' : (0 + D * 86400 + H * 3600 + M * 60) * 10 ^ 20 + r = k := by rw [Nat.zero_add]; exact e
  rw [if_neg (by simp), add_int_body b3 hr (by rw [e']; exact hk), e']
  simp only
  rw [if_neg (by simp), sumR_end, if_neg (by simp)]
theorem body_mem {n : Nat} {c : UInt8} (h : c ∈ bodyL n) : isDg c = true ∨ c = 46 := by
  obtain ⟨B, A, e, _, _, _, h2, h3, _⟩ := body_parts n
  rw [e, List.mem_append] at h
  rcases h with h | h
  · exact .inl (h2 c h)
  · split at h
    · cases h
    · rcases List.mem_cons.1 h with h | h
      · exact .inr h
      · exact .inl (h3 c h)
theorem body_not {c : UInt8} (hc : isDg c = false) (h46 : c ≠ 46) (n : Nat) : c ∉ bodyL n := fun h => by
  rcases body_mem h with h | h
  · rw [h] at hc; cases hc
  · exact h46 h
theorem dgs1_of {l : List UInt8} (h : l ≠ []) (hd : Dgs l) : dgs1 l = true := by
  unfold dgs1
  rw [(dgs_all _).2 hd]
  cases l with
  | nil => exact absurd rfl h
  | cons a r => rfl
theorem partL_body (n : Nat) (r : List UInt8) : partL 83 (bodyL n ++ 83 :: r) = some (bodyL n, r) := by
  have h83 : (83 : UInt8) ∉ bodyL n := body_not (by decide) (by decide) n
  unfold partL
  rw [splitC_at 83 _ _ h83]
  simp only
  rw [if_pos]
  obtain ⟨B, A, e, _, _, h1, h2, h3, _⟩ := body_parts n
  by_cases hA : A = []
  · rw [if_pos hA, List.append_nil] at e
    rw [e, dot_none B (dgs_dot h2)]
    simp only
    rw [dgs1_of h1 h2]
    rfl
  · rw [if_neg hA] at e
    rw [e, dot_at B A (dgs_dot h2)]
    simp only
    rw [dgs1_of h1 h2, dgs1_of hA h3]
    decide
theorem partT_not {c d : UInt8} {n : List UInt8} (h : c ∉ n) (hd : c ≠ d) : c ∉ partT n d := by
  unfold partT
  split
  · simp
  · rw [List.mem_append]
    rintro (k | k)
    · exact h k
    · exact hd (by simpa using k)
theorem parts_int {c : UInt8} (cs : List UInt8) (hc : isDg c = false) (k : Nat) {rest : List UInt8} (hr : c ∉ rest) :
    partsL true (c :: cs) (partT (Lib.decDigits k) c ++ rest) = ((partsL true cs rest).1 + (if k = 0 then 0 else 1), Lib.decDigits k :: (partsL true cs rest).2.1, (partsL true cs rest).2.2) := by
  by_cases hk : k = 0
  · subst hk
    have e : partT (Lib.decDigits 0) c = [] := by unfold partT; rw [if_pos ((decD_zero 0).2 rfl)]
    rw [e, List.nil_append, parts_none (.inr (partL_none hr)), if_pos rfl, ← zeroD]
    rfl
  · have e : partT (Lib.decDigits k) c = Lib.decDigits k ++ [c] := by unfold partT; rw [if_neg (fun q => hk ((decD_zero k).1 q))]
    rw [e, List.append_assoc, List.singleton_append, parts_some rfl (partL_some hc k rest), if_neg hk]
theorem parts_frac (cs : List UInt8) (n : Nat) {rest : List UInt8} (hr : (83 : UInt8) ∉ rest) :
    partsL true (83 :: cs) (partT (bodyL n) 83 ++ rest) = ((partsL true cs rest).1 + (if n = 0 then 0 else 1), bodyL n :: (partsL true cs rest).2.1, (partsL true cs rest).2.2) := by
  by_cases hk : n = 0
  · have h48 := (body_zero n).2 hk
    have e : partT (bodyL n) 83 = [] := by unfold partT; rw [if_pos h48]
    rw [e, List.nil_append, parts_none (.inr (partL_none hr)), if_pos hk, h48]
    rfl
  · have e : partT (bodyL n) 83 = bodyL n ++ [83] := by unfold partT; rw [if_neg (fun q => hk ((body_zero n).1 q))]
    rw [e, List.append_assoc, List.singleton_append, parts_some rfl (partL_body n rest), if_neg hk]
def clockT (H M r : Nat) : List UInt8 := partT (Lib.decDigits H) 72 ++ partT (Lib.decDigits M) 77 ++ partT (bodyL r) 83
theorem partT_nil {n : List UInt8} {c : UInt8} : partT n c = [] ↔ n = [48] := by
  unfold partT
  split
  · exact ⟨fun _ => by assumption, fun _ => rfl⟩
  · rename_i h
    exact ⟨fun k => by simp at k, fun k => absurd k h⟩
theorem clockT_nil (H M r : Nat) : clockT H M r = [] ↔ H = 0 ∧ M = 0 ∧ r = 0 := by
  unfold clockT
  rw [List.append_eq_nil_iff, List.append_eq_nil_iff, partT_nil, partT_nil, partT_nil, decD_zero, decD_zero, body_zero, and_assoc]
theorem clockT_not {c : UInt8} (hc : isDg c = false) (h46 : c ≠ 46) (h1 : c ≠ 72) (h2 : c ≠ 77) (h3 : c ≠ 83) (H M r : Nat) : c ∉ clockT H M r := by
  unfold clockT
  rw [List.mem_append, List.mem_append]
  rintro ((k | k) | k)
  · exact partT_not (decD_not hc H) h1 k
  · exact partT_not (decD_not hc M) h2 k
  · exact partT_not (body_not hc h46 r) h3 k
theorem parts_clock (H M r : Nat) : partsL true [72, 77, 83] (clockT H M r) = (0 + (if r = 0 then 0 else 1) + (if M = 0 then 0 else 1) + (if H = 0 then 0 else 1), [Lib.decDigits H, Lib.decDigits M, bodyL r], []) := by
  have a1 : (72 : UInt8) ∉ partT (Lib.decDigits M) 77 ++ (partT (bodyL r) 83 ++ []) := by
    rw [List.append_nil, List.mem_append]
    rintro (k | k)
    · exact partT_not (decD_not (by decide) M) (by decide) k
    · exact partT_not (body_not (by decide) (by decide) r) (by decide) k
  have a2 : (77 : UInt8) ∉ partT (bodyL r) 83 ++ [] := by
    rw [List.append_nil]
    exact partT_not (body_not (by decide) (by decide) r) (by decide)
  have e : clockT H M r = partT (Lib.decDigits H) 72 ++ (partT (Lib.decDigits M) 77 ++ (partT (bodyL r) 83 ++ [])) := by
    unfold clockT
    rw [List.append_nil, List.append_assoc]
  rw [e, parts_int [77, 83] (by decide) H a1, parts_int [83] (by decide) M a2, parts_frac [] r (by simp)]
  rfl
def tailT (H M r : Nat) : List UInt8 := if clockT H M r = [] then [] else 84 :: clockT H M r
theorem tailT_not {c : UInt8} (hc : isDg c = false) (h46 : c ≠ 46) (h1 : c ≠ 72) (h2 : c ≠ 77) (h3 : c ≠ 83) (h4 : c ≠ 84) (H M r : Nat) : c ∉ tailT H M r := by
  unfold tailT
  split
  · simp
  · rw [List.mem_cons]
    rintro (k | k)
    · exact h4 k
    · exact clockT_not hc h46 h1 h2 h3 H M r k
theorem sec_tail (H M r : Nat) : secL 84 [72, 77, 83] (tailT H M r) = (decide (clockT H M r ≠ []), 0 + (if r = 0 then 0 else 1) + (if M = 0 then 0 else 1) + (if H = 0 then 0 else 1), [Lib.decDigits H, Lib.decDigits M, bodyL r], []) := by
  unfold tailT
  by_cases h : clockT H M r = []
  · rw [if_pos h]
    obtain ⟨h1, h2, h3⟩ := (clockT_nil H M r).1 h
    subst h1; subst h2; subst h3
    rw [← zeroD, (body_zero 0).2 rfl]
    simp [h]
    rfl
  · rw [if_neg h]
    have h1 : Lib.hasPrefix (84 :: clockT H M r) [84] = true := by simp [Lib.hasPrefix, List.isPrefixOf]
    have h2 : Lib.trimPrefix (84 :: clockT H M r) [84] = clockT H M r := by unfold Lib.trimPrefix; rw [if_pos h1]; rfl
    unfold secL
    rw [h1, h2, parts_clock, decide_eq_true h]
theorem sec_days (D : Nat) {X : List UInt8} (hX : (68 : UInt8) ∉ X) : secL 80 [68] (80 :: (partT (Lib.decDigits D) 68 ++ X)) = (true, 0 + (if D = 0 then 0 else 1), [Lib.decDigits D], X) := by
  have h1 : Lib.hasPrefix (80 :: (partT (Lib.decDigits D) 68 ++ X)) [80] = true := by simp [Lib.hasPrefix, List.isPrefixOf]
  have h2 : Lib.trimPrefix (80 :: (partT (Lib.decDigits D) 68 ++ X)) [80] = partT (Lib.decDigits D) 68 ++ X := by unfold Lib.trimPrefix; rw [if_pos h1]; rfl
  unfold secL
  rw [h1, h2, parts_int [] (by decide) D hX]
  rfl
theorem body_size (n : Nat) (h : n < 10 ^ 50) : (bodyL n).length ≤ 52 := textL_len (body_text h)
theorem decD_len30 (k : Nat) (h : k < 10 ^ 30) : (Lib.decDigits k).length ≤ 30 := by
  rw [decDigits_dec]
  split
  · decide
  · exact (dec_len k 30).2 h
theorem secs_len (D H M r : Nat) (hD : D < 10 ^ 30) (hH : H < 24) (hM : M < 60) (hr : r < 10 ^ 50) : (80 :: (partT (Lib.decDigits D) 68 ++ tailT H M r)).length ≤ 150 := by
  have h1 := partT_len (Lib.decDigits D) 68
  have h2 := decD_len30 D hD
  have e20 : (10 : Nat) ^ 20 = 100000000000000000000 := by decide
  have h3 := partT_len (Lib.decDigits H) 72
  have h4 := decD_len H (by rw [e20]; omega)
  have h5 := partT_len (Lib.decDigits M) 77
  have h6 := decD_len M (by rw [e20]; omega)
  have h7 := partT_len (bodyL r) 83
  have h8 := body_size r hr
  have h9 : (tailT H M r).length ≤ 1 + (clockT H M r).length := by unfold tailT; split <;> simp; omega
  have h10 : (clockT H M r).length = (partT (Lib.decDigits H) 72).length + (partT (Lib.decDigits M) 77).length + (partT (bodyL r) 83).length := by
    unfold clockT; rw [List.length_append, List.length_append]
  rw [List.length_cons, List.length_append]
  omega
theorem bodyS_is {k D H M r : Nat} (hk : k < 10 ^ 50) (hD : D < 10 ^ 30) (hH : H < 24) (_hM : M < 60) (e1 : k / (86400 * 10 ^ 20) = D) (e2 : k % (86400 * 10 ^ 20) / (3600 * 10 ^ 20) = H) (e3 : k % (86400 * 10 ^ 20) % (3600 * 10 ^ 20) / (60 * 10 ^ 20) = M) (e4 : k % (86400 * 10 ^ 20) % (3600 * 10 ^ 20) % (60 * 10 ^ 20) = r) :
    bodyS (bodyL k) = 80 :: (partT (Lib.decDigits D) 68 ++ tailT H M r) := by
  obtain ⟨B, hB⟩ : ∃ B, (10 : Nat) ^ 30 = B := ⟨_, rfl⟩
  have hBb : 86400 < B := by rw [← hB]; exact Nat.lt_of_lt_of_le (by decide : 86400 < 10 ^ 5) (Nat.pow_le_pow_right (by decide) (by decide))
  have k1 : k % (86400 * 10 ^ 20) < 10 ^ 50 := Nat.lt_of_le_of_lt (Nat.mod_le _ _) hk
  have k2 : k % (86400 * 10 ^ 20) % (3600 * 10 ^ 20) < 10 ^ 50 := Nat.lt_of_le_of_lt (Nat.mod_le _ _) k1
  have u1 : 86400 < 10 ^ 30 := by rw [hB]; omega
  have u2 : 3600 < 10 ^ 30 := by rw [hB]; omega
  have u3 : 60 < 10 ^ 30 := by rw [hB]; omega
  have q2 : k % (86400 * 10 ^ 20) / (3600 * 10 ^ 20) < 10 ^ 30 := by rw [e2, hB]; omega
  have q3 : k % (86400 * 10 ^ 20) % (3600 * 10 ^ 20) / (60 * 10 ^ 20) < 10 ^ 30 := by rw [e3, hB]; omega
  have hc : clockL (bodyL k) = clockT H M r := by
    unfold clockL clockT
    rw [dayD, hourD, minD, mod_body hk u1 (by decide)]
    simp only
    rw [idiv_body k1 u2 (by decide) q2, mod_body k1 u2 (by decide)]
    simp only
    rw [idiv_body k2 u3 (by decide) q3, mod_body k2 u3 (by decide)]
    simp only
    rw [e2, e3, e4]
  unfold bodyS
  rw [hc, dayD, idiv_body hk u1 (by decide) (by rw [e1]; exact hD), e1]
  simp only [List.singleton_append]
  rfl
theorem back_secs (k : Nat) (hk : k < 10 ^ 50) (h0 : k ≠ 0) : parseS (bodyS (bodyL k)) = (bodyL k, 0) ∧ (bodyS (bodyL k)).length ≤ 150 ∧ (bodyS (bodyL k)).head? ≠ some 45 := by
  obtain ⟨D, H, M, r, e1, e2, e3, e4, hH, hM, _, e⟩ := units k (10 ^ 20) U0
  have hT := tot_lt e hk
  have hD : D < 10 ^ 30 := by
    obtain ⟨B, hB⟩ : ∃ B, (10 : Nat) ^ 30 = B := ⟨_, rfl⟩
    rw [hB] at hT ⊢; omega
  have hr : r < 10 ^ 50 := Nat.lt_of_le_of_lt (by rw [← e]; exact Nat.le_add_left _ _) hk
  rw [bodyS_is hk hD hH hM e1 e2 e3 e4]
  have hl := secs_len D H M r hD hH hM hr
  have hX : (68 : UInt8) ∉ tailT H M r := tailT_not (by decide) (by decide) (by decide) (by decide) (by decide) (by decide) H M r
  have hpre := pre_none (s := 80 :: (partT (Lib.decDigits D) 68 ++ tailT H M r)) (by simp)
  refine ⟨?_, hl, by simp⟩
  unfold parseS
  rw [hpre.1, hpre.2, sec_days D hX]
  simp only
  rw [sec_tail]
  simp only
  rw [if_neg (by omega), if_neg (by simp), if_neg]
  · exact sum_units D H M r k hH hM e hk
  · rintro (⟨k1, k2⟩ | ⟨k1, k2⟩)
    · have k1 := of_decide_eq_true k1
      refine k1 ((clockT_nil H M r).2 ?_)
      refine ⟨?_, ?_, ?_⟩
      · refine Classical.byContradiction fun q => ?_
        rw [if_neg q] at k2; omega
      · refine Classical.byContradiction fun q => ?_
        rw [if_neg q] at k2; omega
      · refine Classical.byContradiction fun q => ?_
        rw [if_neg q] at k2; omega
    · have k1 := of_decide_eq_false k1
      obtain ⟨z1, z2, z3⟩ := (clockT_nil H M r).1 (Classical.not_not.1 k1)
      have z4 : D = 0 := Classical.byContradiction fun q => by simp [q] at k2
      rw [z1, z2, z3, z4] at e
      simp at e
      exact h0 e.symm
theorem textS_canon {n : List UInt8} {b : Bool} {k : Nat} (hc : canonL n = some (b, k)) (h0 : k ≠ 0) : textS n = ((if b = true then [45] else []) ++ bodyS (bodyL k), 0) := by
  obtain ⟨t, ht, _⟩ := negR_negR n b k hc
  have hn := canon_parts hc
  have h48 : n ≠ [48] := fun q => h0 ((canon_zero hc).1 q)
  obtain ⟨d, u, hd, hdg⟩ := body_head k
  unfold textS
  rw [ht, if_neg (by simp), if_neg h48]
  cases b with
  | true =>
    rw [if_pos rfl, List.singleton_append] at hn
    rw [hn, (pre_some (bodyL k)).1, (pre_some (bodyL k)).2]
  | false =>
    rw [if_neg (by simp), List.nil_append] at hn
    have hp := pre_none (s := bodyL k) (by rw [hd]; simp; exact dg_not45 hdg)
    rw [hn, hp.1, hp.2]
theorem back_S (n : List UInt8) (b : Bool) (k : Nat) (hc : canonL n = some (b, k)) : ∃ s, textS n = (s, 0) ∧ parseS s = (n, 0) ∧ s.length < 200 := by
  obtain ⟨ht, hk, hb⟩ := text_canon n b k hc
  by_cases h0 : k = 0
  · have hn := (canon_zero hc).2 h0
    subst hn
    exact ⟨[80, 84, 48, 83], by decide +kernel, by decide +kernel, by decide⟩
  obtain ⟨h1, h2, h3⟩ := back_secs k hk h0
  refine ⟨_, textS_canon hc h0, ?_, ?_⟩
  · have hn := canon_parts hc
    cases b with
    | false =>
      rw [if_neg (by simp), List.nil_append] at hn ⊢
      rw [h1, hn]
    | true =>
      rw [if_pos rfl, List.singleton_append]
      rcases parseS_sign _ (by omega) h3 with ⟨z, hz, k1, _⟩ | ⟨x, y, k1, k2, k3, _⟩
      · rw [h1] at k1
        exact absurd (congrArg Prod.snd k1).symm hz
      · rw [h1] at k1
        have hx : x = bodyL k := (congrArg Prod.fst k1).symm
        rw [hx] at k3
        rw [k2]
        refine Prod.ext ?_ rfl
        show y = n
        cases hy : canonL y with
        | none => rw [negR_none y hy] at k3; cases congrArg Prod.snd k3
        | some q =>
          obtain ⟨c, m⟩ := q
          unfold negR at k3
          rw [on1_some hy] at k3
          obtain ⟨d, hd, hz⟩ := resR_back k3
          rw [body_canon hk] at hd
          have hm := Option.some.inj hd
          have e0 : d = false := (congrArg Prod.fst hm).symm
          have e9 : m = k := (congrArg Prod.snd hm).symm
          refine canonL_same hy hc ?_
          rw [toZ_not, e0, e9] at hz
          have e1 : toZ false k = (k : Int) := rfl
          have e2 : toZ true k = -(k : Int) := rfl
          rw [e1] at hz
          rw [e2, e9]
          omega
  · split <;> simp <;> omega
theorem canon_iff_read (x : List UInt8) : readR x = (x, 0) ↔ ∃ b n, canonL x = some (b, n) :=
  ⟨canon_of_read, fun ⟨_, _, h⟩ => readR_text (text_canon _ _ _ h).1⟩
theorem textS_inj {x y : List UInt8} {b c : Bool} {k m : Nat} (hx : canonL x = some (b, k)) (hy : canonL y = some (c, m)) (h : (textS x).1 = (textS y).1) : x = y := by
  obtain ⟨s, h1, h2, _⟩ := back_S x b k hx
  obtain ⟨t, h3, h4, _⟩ := back_S y c m hy
  rw [h1, h3] at h
  have h : s = t := h
  subst h
  rw [h2] at h4
  exact congrArg Prod.fst h4
theorem textM_inj {x y : Int} (hx : -9999999999 ≤ x ∧ x ≤ 9999999999) (hy : -9999999999 ≤ y ∧ y ≤ 9999999999) (h : (textM x).1 = (textM y).1) : x = y := by
  obtain ⟨s, h1, h2, _⟩ := back_M x hx
  obtain ⟨t, h3, h4, _⟩ := back_M y hy
  rw [h1, h3] at h
  have h : s = t := h
  subst h
  rw [h2] at h4
  exact congrArg Prod.fst h4
end Go.Proofs.YtdfgifnccghlmabGreatDoor

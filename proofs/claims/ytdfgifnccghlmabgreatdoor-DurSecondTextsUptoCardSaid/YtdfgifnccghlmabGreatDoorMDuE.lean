/- Durations: the specification's own way of reading parts, in plain words; it reads what the program reads. No program in this text. Durations: the specification's ParseMonths gives what the program's gives, in plain words. No program in this text. Durations: the specification's ParseSeconds gives what the program's gives, in plain words. No program in this text. -/
import Derived.Test.YtdfgifnccghlmabGreatDoorMDuD
namespace Go.Proofs.YtdfgifnccghlmabGreatDoor
open Go.Lib

/-- How many digits a text begins with; whether one stands at an index. -/
def run1 (l : List UInt8) : Nat := (l.takeWhile isDg).length
def dgAt (l : List UInt8) (i : Nat) : Bool := match l[i]? with
  | some b => isDg b
  | none => false
theorem run_cons (b : UInt8) (t : List UInt8) : run1 (b :: t) = if isDg b = true then run1 t + 1 else 0 := by
  unfold run1
  rw [List.takeWhile_cons]
  split <;> rfl
theorem run_le : ∀ l : List UInt8, run1 l ≤ l.length
  | [] => Nat.le_refl _
  | b :: t => by
    have := run_le t
    rw [run_cons, List.length_cons]
    split <;> omega
theorem run_lt : ∀ (l : List UInt8) (i : Nat), i < run1 l → dgAt l i = true
  | [], i, h => by cases h
  | b :: t, i, h => by
    rw [run_cons] at h
    by_cases hb : isDg b = true
    · rw [if_pos hb] at h
      cases i with
      | zero => exact hb
      | succ j => exact run_lt t j (by omega)
    · rw [if_neg hb] at h
      cases h
theorem run_end : ∀ l : List UInt8, dgAt l (run1 l) = false
  | [] => rfl
  | b :: t => by
    rw [run_cons]
    by_cases hb : isDg b = true
    · rw [if_pos hb]
      exact run_end t
    · rw [if_neg hb]
      simpa [dgAt] using hb
theorem dgAt_drop (l : List UInt8) (j m : Nat) : dgAt l (j + m) = dgAt (l.drop j) m := by
  unfold dgAt
  rw [List.getElem?_drop]
theorem run_app {c : UInt8} (hc : isDg c = false) : ∀ (B t : List UInt8), Dgs B → run1 (B ++ c :: t) = B.length
  | [], t, _ => by rw [List.nil_append, run_cons, if_neg (by rw [hc]; decide)]; rfl
  | b :: B, t, h => by
    rw [List.cons_append, run_cons, if_pos (h b (by simp)), run_app hc B t (fun x hx => h x (List.mem_cons_of_mem _ hx))]; rfl
theorem run_split : ∀ l : List UInt8, ∃ B t, l = B ++ t ∧ Dgs B ∧ B.length = run1 l
  | [] => ⟨[], [], rfl, Dgs.nil, rfl⟩
  | b :: u => by
    by_cases hb : isDg b = true
    · obtain ⟨B, t, h1, h2, h3⟩ := run_split u
      refine ⟨b :: B, t, by rw [h1]; rfl, Dgs.cons hb h2, ?_⟩
      rw [run_cons, if_pos hb, List.length_cons, h3]
    · exact ⟨[], b :: u, rfl, Dgs.nil, by rw [run_cons, if_neg hb]; rfl⟩
/-- Where the number of a part ends. -/
def refI (frac : Bool) (l : List UInt8) : Nat :=
  if frac = true ∧ l[run1 l]? = some 46 ∧ run1 (l.drop (run1 l + 1)) ≠ 0 then run1 l + 1 + run1 (l.drop (run1 l + 1)) else run1 l
def refP (c : UInt8) (frac : Bool) (l : List UInt8) : Option (List UInt8 × List UInt8) :=
  if run1 l ≠ 0 ∧ l[refI frac l]? = some c then some (l.take (refI frac l), l.drop (refI frac l + 1)) else none
/-- The number of a part. -/
def NumF (frac : Bool) (n : List UInt8) : Prop := ∃ B A p, n = B ++ (if p = true then 46 :: A else []) ∧ B ≠ [] ∧ Dgs B ∧ (p = true → frac = true ∧ A ≠ [] ∧ Dgs A)
theorem NumF.not {frac : Bool} {n : List UInt8} {c : UInt8} (h : NumF frac n) (hc : isDg c = false) (h46 : c ≠ 46) : c ∉ n := by
  obtain ⟨B, A, p, rfl, _, hB, hp⟩ := h
  intro hm
  rw [List.mem_append] at hm
  rcases hm with hm | hm
  · rw [hB c hm] at hc; cases hc
  · cases p with
    | false => cases hm
    | true =>
      rw [if_pos rfl, List.mem_cons] at hm
      rcases hm with hm | hm
      · exact h46 hm
      · rw [(hp rfl).2.2 c hm] at hc; cases hc
theorem NumF.ne {frac : Bool} {n : List UInt8} (h : NumF frac n) : n ≠ [] := by
  obtain ⟨B, A, p, rfl, hB, _⟩ := h
  intro e
  exact hB (List.append_eq_nil_iff.1 e).1
theorem dgs1_iff (l : List UInt8) : dgs1 l = true ↔ l ≠ [] ∧ Dgs l := by
  constructor
  · intro h
    unfold dgs1 at h
    rw [Bool.and_eq_true] at h
    refine ⟨?_, (dgs_all l).1 h.2⟩
    rintro rfl
    exact absurd h.1 (by decide)
  · exact fun h => dgs1_of h.1 h.2
theorem partL_iff {c : UInt8} (hc : isDg c = false) (h46 : c ≠ 46) (l n r : List UInt8) : partL c l = some (n, r) ↔ l = n ++ c :: r ∧ NumF (decide (c = 83)) n := by
  constructor
  · intro h
    unfold partL at h
    split at h
    · rename_i hk
      cases h
      rw [Bool.and_eq_true, Bool.and_eq_true, Bool.or_eq_true, Bool.and_eq_true, dgs1_iff, dgs1_iff] at hk
      obtain ⟨⟨k1, k2, k3⟩, k4⟩ := hk
      refine ⟨(splitC_back c l k1).1, (dotL (splitC c l).1).1, (dotL (splitC c l).1).2.1, (dotL (splitC c l).1).2.2, (dot_back _).1, k2, k3, fun hp => ?_⟩
      rcases k4 with k4 | k4
      · rw [hp] at k4; cases k4
      · exact ⟨k4.1, k4.2⟩
    · cases h
  · rintro ⟨rfl, hn⟩
    have hcn := hn.not hc h46
    obtain ⟨B, A, p, e, hB, dB, hp⟩ := hn
    have hd : dotL n = (B, (if p = true then A else []), p) := by
      rw [e]
      cases p with
      | true => exact dot_at B A (dgs_dot dB)
      | false => rw [if_neg (by decide), List.append_nil]; exact dot_none B (dgs_dot dB)
    unfold partL
    rw [splitC_at c _ _ hcn]
    simp only
    rw [hd, if_pos]
    simp only
    rw [dgs1_of hB dB]
    cases p with
    | false => rfl
    | true =>
      obtain ⟨q1, q2, q3⟩ := hp rfl
      rw [if_pos rfl, dgs1_of q2 q3, q1]
      rfl
theorem take_pre (P u : List UInt8) : (P ++ u).take P.length = P := by simp
theorem drop_pre (P : List UInt8) (c : UInt8) (r : List UInt8) : (P ++ c :: r).drop (P.length + 1) = r := by simp
theorem refP_iff {c : UInt8} (hc : isDg c = false) (h46 : c ≠ 46) (frac : Bool) (l n r : List UInt8) : refP c frac l = some (n, r) ↔ l = n ++ c :: r ∧ NumF frac n := by
  constructor
  · intro h
    unfold refP at h
    split at h
    · rename_i hk
      cases h
      obtain ⟨k1, k2⟩ := hk
      have hlt : refI frac l < l.length := by
        refine Classical.byContradiction fun q => ?_
        rw [List.getElem?_eq_none (by omega)] at k2
        cases k2
      refine ⟨?_, ?_⟩
      · have e := List.drop_eq_getElem_cons hlt
        rw [List.getElem?_eq_getElem hlt] at k2
        rw [Option.some.inj k2] at e
        rw [← e, List.take_append_drop]
      · obtain ⟨B, t, e1, hB, hBl⟩ := run_split l
        have hB0 : B ≠ [] := fun q => k1 (by rw [← hBl, q]; rfl)
        by_cases hf : frac = true ∧ l[run1 l]? = some 46 ∧ run1 (l.drop (run1 l + 1)) ≠ 0
        · have hI : refI frac l = run1 l + 1 + run1 (l.drop (run1 l + 1)) := by unfold refI; rw [if_pos hf]
          obtain ⟨f1, f2, f3⟩ := hf
          have ht : l.drop (run1 l) = t := by rw [e1, ← e1, ← hBl]; rw [e1]; simp
          have hr : run1 l < l.length := by
            refine Classical.byContradiction fun q => ?_
            rw [List.getElem?_eq_none (by omega)] at f2
            cases f2
          have ht2 : t = 46 :: l.drop (run1 l + 1) := by
            rw [← ht, List.drop_eq_getElem_cons hr]
            rw [List.getElem?_eq_getElem hr] at f2
            rw [Option.some.inj f2]
          obtain ⟨A, u, e2, hA, hAl⟩ := run_split (l.drop (run1 l + 1))
          refine ⟨B, A, true, ?_, hB0, hB, fun _ => ⟨f1, fun q => f3 (by rw [← hAl, q]; rfl), hA⟩⟩
          rw [hI, if_pos rfl]
          have el : l = (B ++ 46 :: A) ++ u := by rw [e1, ht2]; rw [e2]; simp
          have en : run1 l + 1 + run1 (l.drop (run1 l + 1)) = (B ++ 46 :: A).length := by rw [← hAl, ← hBl]; simp; omega
          rw [en]
          conv => lhs; rw [el]
          exact take_pre _ _
        · have hI : refI frac l = run1 l := by unfold refI; rw [if_neg hf]
          refine ⟨B, [], false, ?_, hB0, hB, fun q => by cases q⟩
          rw [hI, ← hBl, if_neg (by decide), List.append_nil]
          conv => lhs; rw [e1]
          simp
    · cases h
  · rintro ⟨rfl, B, A, p, rfl, hB, dB, hp⟩
    have hBl : B.length ≠ 0 := fun q => hB (List.eq_nil_of_length_eq_zero q)
    cases p with
    | false =>
      rw [if_neg (by decide), List.append_nil]
      have h1 : run1 (B ++ c :: r) = B.length := run_app hc B r dB
      have h2 : (B ++ c :: r)[B.length]? = some c := by simp
      have hI : refI frac (B ++ c :: r) = B.length := by
        unfold refI
        rw [h1, if_neg]
        rintro ⟨_, q, _⟩
        rw [h2] at q
        exact h46 (Option.some.inj q)
      unfold refP
      rw [hI, h1, if_pos ⟨hBl, h2⟩]
      simp
    | true =>
      obtain ⟨q1, q2, q3⟩ := hp rfl
      rw [if_pos rfl]
      have e0 : B ++ 46 :: A ++ c :: r = B ++ 46 :: (A ++ c :: r) := by simp
      have h1 : run1 (B ++ 46 :: A ++ c :: r) = B.length := by rw [e0]; exact run_app (by decide) B _ dB
      have h3 : (B ++ 46 :: A ++ c :: r).drop (B.length + 1) = A ++ c :: r := by rw [e0]; simp
      have h4 : run1 (A ++ c :: r) = A.length := run_app hc A r q3
      have hAl : A.length ≠ 0 := fun q => q2 (List.eq_nil_of_length_eq_zero q)
      have h2 : (B ++ 46 :: A ++ c :: r)[B.length]? = some 46 := by rw [e0]; simp
      have hI : refI frac (B ++ 46 :: A ++ c :: r) = (B ++ 46 :: A).length := by
        unfold refI
        rw [h1, h3, h4, if_pos ⟨q1, h2, hAl⟩]
        simp; omega
      have h5 : (B ++ 46 :: A ++ c :: r)[(B ++ 46 :: A).length]? = some c := by
        rw [List.getElem?_append_right (Nat.le_refl _), Nat.sub_self]
        rfl
      unfold refP
      rw [hI, h1, if_pos ⟨hBl, h5⟩]
      refine congrArg some (Prod.ext ?_ ?_)
      · exact take_pre _ _
      · exact drop_pre _ _ _
theorem part_ref {c : UInt8} (hc : isDg c = false) (h46 : c ≠ 46) (l : List UInt8) : partL c l = refP c (decide (c = 83)) l :=
  Option.ext fun ⟨n, r⟩ => by rw [partL_iff hc h46, refP_iff hc h46]
/-- A part as the specification gives it: what is left, and the number. -/
def partR (c : UInt8) (frac : Bool) (l : List UInt8) : List UInt8 × List UInt8 := match refP c frac l with
  | some x => (x.2, x.1)
  | none => (l, [])
/-- The number of a part that is there, or 0. -/
def orZero (y : List UInt8) : List UInt8 := if y = [] then [48] else y
theorem partR_iff {c : UInt8} (hc : isDg c = false) (h46 : c ≠ 46) (l : List UInt8) : ((partR c (decide (c = 83)) l).2 = [] ∧ partL c l = none ∧ (partR c (decide (c = 83)) l).1 = l) ∨
    ((partR c (decide (c = 83)) l).2 ≠ [] ∧ partL c l = some ((partR c (decide (c = 83)) l).2, (partR c (decide (c = 83)) l).1) ∧ NumF (decide (c = 83)) (partR c (decide (c = 83)) l).2 ∧ (partR c (decide (c = 83)) l).2.length ≤ l.length ∧ (partR c (decide (c = 83)) l).1.length ≤ l.length) := by
  have e := part_ref hc h46 l
  unfold partR
  cases h : refP c (decide (c = 83)) l with
  | none => rw [h] at e; exact .inl ⟨rfl, e, rfl⟩
  | some x =>
    obtain ⟨n, r⟩ := x
    rw [h] at e
    obtain ⟨k1, k2⟩ := (refP_iff hc h46 _ _ _ _).1 h
    refine .inr ⟨k2.ne, e, k2, ?_, ?_⟩
    · rw [k1]; simp
    · rw [k1]; simp; omega
theorem parts_ref {c : UInt8} (hc : isDg c = false) (h46 : c ≠ 46) (cs l : List UInt8) :
    partsL true (c :: cs) l = ((partsL true cs (partR c (decide (c = 83)) l).1).1 + (if (partR c (decide (c = 83)) l).2 = [] then 0 else 1), orZero (partR c (decide (c = 83)) l).2 :: (partsL true cs (partR c (decide (c = 83)) l).1).2.1, (partsL true cs (partR c (decide (c = 83)) l).1).2.2) := by
  rcases partR_iff hc h46 l with ⟨h1, h2, h3⟩ | ⟨h1, h2, _⟩
  · rw [parts_none (.inr h2), h1, h3, if_pos rfl]
    rfl
  · rw [parts_some rfl h2, if_neg h1]
    unfold orZero
    rw [if_neg h1]
end Go.Proofs.YtdfgifnccghlmabGreatDoor
namespace Go.Proofs.YtdfgifnccghlmabGreatDoor
open Go.Lib

/-- Digits as a number, or a number above 10^12. -/
def smallF (n : Nat) : List UInt8 → Nat
  | [] => n
  | b :: t => smallF (if n ≤ 1000000000000 then 10 * n + (b.toNat - 48) else n) t
theorem smallF_snoc (b : UInt8) : ∀ (l : List UInt8) (n : Nat), smallF n (l ++ [b]) = if smallF n l ≤ 1000000000000 then 10 * smallF n l + (b.toNat - 48) else smallF n l
  | [], n => rfl
  | c :: t, n => by rw [List.cons_append, smallF, smallF, smallF_snoc b t]
theorem smallF_is : ∀ (l : List UInt8) (n : Nat), Dgs l → n ≤ 10000000000009 → (valD l n ≤ 1000000000000 → smallF n l = valD l n) ∧ (1000000000000 < valD l n → 1000000000000 < smallF n l) ∧ smallF n l ≤ 10000000000009
  | [], n, _, h => ⟨fun _ => rfl, fun k => k, h⟩
  | b :: t, n, hd, h => by
    have hb := (isDg_iff b).1 (hd b (by simp))
    have dt : Dgs t := fun x hx => hd x (List.mem_cons_of_mem _ hx)
    rw [smallF, valD]
    by_cases hn : n ≤ 1000000000000
    · rw [if_pos hn]
      exact smallF_is t _ dt (by omega)
    · rw [if_neg hn]
      obtain ⟨k1, k2, k3⟩ := smallF_is t n dt h
      have g1 := valD_ge t n
      have g2 := valD_ge t (10 * n + (b.toNat - 48))
      exact ⟨fun q => by omega, fun _ => k2 (by omega), k3⟩
theorem parse_dgs_all : ∀ (l : List UInt8) (a : Nat), Dgs l → Lib.parseUint10 a l = .range ∨ Lib.parseUint10 a l = .ok (valD l a)
  | [], a, _ => .inr rfl
  | c :: r, a, h => by
    have hc := (isDg_iff c).1 (h c (by simp))
    rw [Lib.parseUint10, if_pos hc, valD]
    split
    · exact .inl rfl
    · split
      · exact .inl rfl
      · rw [show a * 10 + (c.toNat - 48) = 10 * a + (c.toNat - 48) by omega]
        exact parse_dgs_all r _ (fun x hx => h x (List.mem_cons_of_mem _ hx))
theorem fin_dec (V : Nat) : finM (Lib.atoiAll (Lib.decDigits V)) = if 9999999999 < V then (0, 6) else ((V : Int), 0) := by
  by_cases hV : V < 1000000000000000000
  · rw [atoi_decD V hV]
    unfold finM
    simp only
    by_cases h : 9999999999 < V
    · rw [if_pos h, if_pos (by omega)]
    · rw [if_neg h, if_neg (by omega)]
  · rw [if_pos (by omega)]
    have hd := decD_dgs V
    have hp := parse_dgs_all (Lib.decDigits V) 0 hd
    rw [decD_val] at hp
    obtain ⟨c, r, hcr⟩ := List.exists_cons_of_ne_nil (decD_ne V)
    rw [hcr] at hd hp ⊢
    have hc := (isDg_iff c).1 (hd c (by simp))
    unfold Lib.atoiAll Lib.parseMag
    simp only
    rw [if_neg (show ¬ (c.toNat = 43 ∨ c.toNat = 45) by omega), if_neg (by simp)]
    rcases hp with hp | hp
    · rw [hp]; rfl
    · rw [hp]
      simp only
      by_cases h2 : 9223372036854775808 ≤ V
      · rw [if_pos ⟨by omega, h2⟩]; rfl
      · rw [if_neg (by rintro ⟨_, q⟩; exact h2 q), if_neg (by rintro ⟨q, _⟩; omega), if_neg (by omega)]
        unfold finM
        simp only
        rw [if_pos (by omega)]
theorem readR_dgs {a : List UInt8} (h : a ≠ []) (d : Dgs a) (hl : a.length ≤ 200) : readR a = resR false (valD a 0 * 10 ^ 20) := by
  have hs := split_of [] a [] false (.inl rfl) h d Dgs.nil (fun _ => rfl)
  rw [if_neg (by decide), List.append_nil, List.nil_append] at hs
  unfold readR
  rw [if_neg (by omega), hs]
  have e1 : (numL ⟨[], a, [], false⟩).1 = false := rfl
  have e2 : (numL ⟨[], a, [], false⟩).2 = valD a 0 * 10 ^ 20 := by
    unfold numL
    simp only
    rw [if_neg (by decide), List.append_nil]
    rfl
  simp only [e1, e2]
theorem p50 : (10 : Nat) ^ 50 = 10 ^ 30 * 10 ^ 20 := by rw [← Nat.pow_add]
theorem big_resR (b : Bool) {k : Nat} (h : ¬ k < 10 ^ 30) : resR b (k * 10 ^ 20) = ([], 40) := resR_ge _ _ (by rw [p50]; exact Nat.mul_le_mul_right _ (Nat.not_lt.1 h))
theorem mul_big {a b : Nat} (ha : a < 10 ^ 30) (hb : b < 10 ^ 30) (hab : ¬ a * b < 10 ^ 30) : mulR (Lib.decDigits a) (Lib.decDigits b) = ([], 40) := by
  unfold mulR
  rw [on2_some (canon_int a ha) (canon_int b hb), show (false != false) = false from rfl, muU, divW_exact even_calm _ _ _ U0]
  exact big_resR _ hab
theorem add_big {a b : Nat} (ha : a < 10 ^ 30) (hb : b < 10 ^ 30) (hab : ¬ a + b < 10 ^ 30) : addR (Lib.decDigits a) (Lib.decDigits b) = ([], 40) := by
  unfold addR
  rw [on2_some (canon_int a ha) (canon_int b hb), plusN_ff, plusB_ff, ← Nat.add_mul]
  exact big_resR _ hab
theorem sum_dgs (below : Bool) (t u : Nat) (a : List UInt8) (ns us : List (List UInt8)) (ht : t < 10 ^ 30) (hu : u < 10 ^ 30) (hu0 : 1 ≤ u) (h : a ≠ []) (d : Dgs a) (hl : a.length ≤ 200) :
    sumR below (Lib.decDigits t) (a :: ns) (Lib.decDigits u :: us) = if t + valD a 0 * u < 10 ^ 30 then sumR below (Lib.decDigits (t + valD a 0 * u)) ns us else ([], 40) := by
  rw [sumR, readR_dgs h d hl]
  generalize valD a 0 = v
  have hvu : v ≤ v * u := Nat.le_mul_of_pos_right v hu0
  by_cases h1 : v < 10 ^ 30
  · rw [resR_int v h1]
    simp only
    rw [if_neg (by simp)]
    by_cases h2 : v * u < 10 ^ 30
    · rw [mul_int v u h1 hu h2]
      simp only
      rw [if_neg (by simp)]
      by_cases h3 : t + v * u < 10 ^ 30
      · rw [add_int t (v * u) ht h2 h3, if_pos h3]
        simp only
        rw [if_neg (by simp)]
      · rw [add_big ht h2 h3, if_neg h3]
        simp only
        rw [if_pos (by simp)]
    · rw [mul_big h1 hu h2]
      simp only
      rw [if_pos (by simp), if_neg (fun q => h2 (Nat.lt_of_le_of_lt (Nat.le_add_left _ _) q))]
  · rw [big_resR false h1]
    simp only
    rw [if_pos (by simp), if_neg (fun q => h1 (Nat.lt_of_le_of_lt (Nat.le_trans hvu (Nat.le_add_left _ _)) q))]
theorem parseM_fin (s : List UInt8) : parseM s = if 200 < s.length then (0, 2)
    else if (secL 80 [89, 77] (Lib.trimPrefix s [45])).2.1 = 0 ∨ (secL 80 [89, 77] (Lib.trimPrefix s [45])).2.2.2 ≠ [] then (0, 5)
    else if (sumR (Lib.hasPrefix s [45]) [48] (secL 80 [89, 77] (Lib.trimPrefix s [45])).2.2.1 [[49, 50], [49]]).2 ≠ 0 then (0, 6)
    else finM (Lib.atoiAll (sumR (Lib.hasPrefix s [45]) [48] (secL 80 [89, 77] (Lib.trimPrefix s [45])).2.2.1 [[49, 50], [49]]).1) := by
  unfold parseM
  simp only
  split
  · rfl
  split
  · rfl
  split
  · rfl
  cases Lib.atoiAll (sumR (Lib.hasPrefix s [45]) [48] (secL 80 [89, 77] (Lib.trimPrefix s [45])).2.2.1 [[49, 50], [49]]).1 <;> rfl
theorem NumF.dgs {n : List UInt8} (h : NumF false n) : Dgs n := by
  obtain ⟨B, A, p, rfl, _, hB, hp⟩ := h
  cases p with
  | true => exact absurd (hp rfl).1 (by decide)
  | false => rw [if_neg (by decide), List.append_nil]; exact hB
theorem orZero_dgs {y : List UInt8} (h : y = [] ∨ (Dgs y ∧ y.length ≤ 200)) : orZero y ≠ [] ∧ Dgs (orZero y) ∧ (orZero y).length ≤ 200 ∧ valD (orZero y) 0 = valD y 0 := by
  unfold orZero
  by_cases hy : y = []
  · subst hy
    rw [if_pos rfl]
    exact ⟨by simp, Dgs.cons (by decide) Dgs.nil, by decide, rfl⟩
  · rw [if_neg hy]
    rcases h with h | h
    · exact absurd h hy
    · exact ⟨hy, h.1, h.2, rfl⟩
/-- What the specification's ParseMonths gives. -/
def refM (s : List UInt8) : Int × Int :=
  let s1 := Lib.trimPrefix s [45]
  let Y := partR 89 false (Lib.trimPrefix s1 [80])
  let M := partR 77 false Y.1
  if 200 < s.length then (0, 2)
  else if Lib.hasPrefix s1 [80] = false ∨ M.1 ≠ [] ∨ (Y.2 = [] ∧ M.2 = []) then (0, 5)
  else if 9999999999 < smallF 0 Y.2 * 12 + smallF 0 M.2 then (0, 6)
  else (if Lib.hasPrefix s [45] = true then -((smallF 0 Y.2 * 12 + smallF 0 M.2 : Nat) : Int) else ((smallF 0 Y.2 * 12 + smallF 0 M.2 : Nat) : Int), 0)
theorem pre_len (s p : List UInt8) : (Lib.trimPrefix s p).length ≤ s.length := by unfold Lib.trimPrefix; split <;> simp
theorem parts_false : ∀ (cs s : List UInt8), (partsL false cs s).1 = 0 ∧ (partsL false cs s).2.2 = s
  | [], s => ⟨rfl, rfl⟩
  | c :: cs, s => by
    rw [parts_none (.inl rfl)]
    exact parts_false cs s
theorem numM {c : UInt8} (hc : isDg c = false) (h46 : c ≠ 46) (h83 : c ≠ 83) (l : List UInt8) (hl : l.length ≤ 200) : ((partR c false l).2 = [] ∨ (Dgs (partR c false l).2 ∧ (partR c false l).2.length ≤ 200)) ∧ (partR c false l).1.length ≤ 200 := by
  have h := partR_iff hc h46 l
  rw [decide_eq_false h83] at h
  rcases h with ⟨h1, _, h3⟩ | ⟨_, _, h3, h4, h5⟩
  · exact ⟨.inl h1, by rw [h3]; exact hl⟩
  · exact ⟨.inr ⟨h3.dgs, by omega⟩, by omega⟩
theorem sum_months (below : Bool) (a b : List UInt8) (ha : a ≠ []) (da : Dgs a) (la : a.length ≤ 200) (hb : b ≠ []) (db : Dgs b) (lb : b.length ≤ 200) :
    sumR below [48] [a, b] [[49, 50], [49]] = if valD a 0 * 12 + valD b 0 < 10 ^ 30 then (if below = true then negR (Lib.decDigits (valD a 0 * 12 + valD b 0)) else (Lib.decDigits (valD a 0 * 12 + valD b 0), 0)) else ([], 40) := by
  obtain ⟨B, hB⟩ : ∃ B, (10 : Nat) ^ 30 = B := ⟨_, rfl⟩
  have hBb : 86400 < B := by rw [← hB]; exact Nat.lt_of_lt_of_le (by decide : 86400 < 10 ^ 5) (Nat.pow_le_pow_right (by decide) (by decide))
  have z12 : ([49, 50] : List UInt8) = Lib.decDigits 12 := by decide +kernel
  have u0 : 0 < 10 ^ 30 := by rw [hB]; omega
  have u1 : 12 < 10 ^ 30 := by rw [hB]; omega
  have u2 : 1 < 10 ^ 30 := by rw [hB]; omega
  rw [zeroD, oneD, z12, sum_dgs below 0 12 a _ _ u0 u1 (by omega) ha da la]
  by_cases h1 : 0 + valD a 0 * 12 < 10 ^ 30
  · rw [if_pos h1, sum_dgs below _ 1 b _ _ h1 u2 (by omega) hb db lb, Nat.zero_add, Nat.mul_one, sumR_end]
  · rw [if_neg h1, if_neg]
    intro q
    refine h1 (Nat.lt_of_le_of_lt ?_ q)
    omega
theorem small_sum {x y vx vy : Nat} (h1 : vx ≤ 1000000000000 → x = vx) (h2 : 1000000000000 < vx → 1000000000000 < x) (h3 : vy ≤ 1000000000000 → y = vy) (h4 : 1000000000000 < vy → 1000000000000 < y) : (9999999999 < x * 12 + y ↔ 9999999999 < vx * 12 + vy) ∧ (¬ 9999999999 < vx * 12 + vy → x * 12 + y = vx * 12 + vy) := by
  by_cases k1 : vx ≤ 1000000000000
  · by_cases k2 : vy ≤ 1000000000000
    · rw [h1 k1, h3 k2]; exact ⟨Iff.rfl, fun _ => rfl⟩
    · have := h4 (by omega)
      exact ⟨⟨fun _ => by omega, fun _ => by omega⟩, fun q => by omega⟩
  · have := h2 (by omega)
    exact ⟨⟨fun _ => by omega, fun _ => by omega⟩, fun q => by omega⟩
theorem refM_eq (s : List UInt8) : parseM s = refM s := by
  rw [parseM_fin]
  unfold refM
  simp only
  by_cases hL : 200 < s.length
  · rw [if_pos hL, if_pos hL]
  rw [if_neg hL, if_neg hL]
  have hl1 := pre_len s [45]
  obtain ⟨s1, hs1⟩ : ∃ x, Lib.trimPrefix s [45] = x := ⟨_, rfl⟩
  rw [hs1] at hl1 ⊢
  have hl2 := pre_len s1 [80]
  cases hp : Lib.hasPrefix s1 [80] with
  | false =>
    have e0 : (secL 80 [89, 77] s1).2.1 = 0 := by unfold secL; simp only; rw [hp]; exact (parts_false _ _).1
    rw [e0, if_pos (.inl rfl), if_pos (.inl rfl)]
  | true =>
    obtain ⟨s2, hs2⟩ : ∃ x, Lib.trimPrefix s1 [80] = x := ⟨_, rfl⟩
    rw [hs2] at hl2
    rw [hs2]
    have nY := numM (c := 89) (by decide) (by decide) (by decide) s2 (by omega)
    have eY := parts_ref (c := 89) (by decide) (by decide) [77] s2
    rw [show decide ((89 : UInt8) = 83) = false from by decide] at eY
    obtain ⟨Y, hY⟩ : ∃ Y, partR 89 false s2 = Y := ⟨_, rfl⟩
    rw [hY] at nY eY ⊢
    have nM := numM (c := 77) (by decide) (by decide) (by decide) Y.1 nY.2
    have eM := parts_ref (c := 77) (by decide) (by decide) [] Y.1
    rw [show decide ((77 : UInt8) = 83) = false from by decide] at eM
    obtain ⟨M, hM⟩ : ∃ M, partR 77 false Y.1 = M := ⟨_, rfl⟩
    rw [hM] at nM eM ⊢
    obtain ⟨y1, y2, y3, y4⟩ := orZero_dgs nY.1
    obtain ⟨m1, m2, m3, m4⟩ := orZero_dgs nM.1
    obtain ⟨q, hq⟩ : ∃ q, 0 + (if M.2 = [] then 0 else 1) + (if Y.2 = [] then 0 else 1) = q := ⟨_, rfl⟩
    have hq0 : q = 0 ↔ (Y.2 = [] ∧ M.2 = []) := by
      rw [← hq]
      by_cases k1 : Y.2 = [] <;> by_cases k2 : M.2 = [] <;> simp [k1, k2]
    have e1 : secL 80 [89, 77] s1 = (true, q, [orZero Y.2, orZero M.2], M.1) := by
      unfold secL
      rw [hp, hs2, eY, eM, ← hq]
      rfl
    rw [e1]
    simp only
    by_cases h5 : M.1 ≠ [] ∨ (Y.2 = [] ∧ M.2 = [])
    · rw [if_pos (show true = false ∨ M.1 ≠ [] ∨ (Y.2 = [] ∧ M.2 = []) from .inr h5), if_pos]
      rcases h5 with h5 | h5
      · exact .inr h5
      · exact .inl (hq0.2 h5)
    · have hn : ¬ (q = 0 ∨ M.1 ≠ []) := by
        rintro (k | k)
        · exact h5 (.inr (hq0.1 k))
        · exact h5 (.inl k)
      rw [if_neg hn, if_neg (show ¬ (true = false ∨ M.1 ≠ [] ∨ (Y.2 = [] ∧ M.2 = [])) by rintro (k | k); cases k; exact h5 k), sum_months _ _ _ y1 y2 y3 m1 m2 m3, y4, m4]
      have dY : Dgs Y.2 := by rcases nY.1 with k | k; · rw [k]; exact Dgs.nil
                              · exact k.1
      have dM : Dgs M.2 := by rcases nM.1 with k | k; · rw [k]; exact Dgs.nil
                              · exact k.1
      obtain ⟨a1, a2, _⟩ := smallF_is Y.2 0 dY (by omega)
      obtain ⟨b1, b2, _⟩ := smallF_is M.2 0 dM (by omega)
      obtain ⟨c1, c2⟩ := small_sum a1 a2 b1 b2
      obtain ⟨V, hV⟩ : ∃ V, valD Y.2 0 * 12 + valD M.2 0 = V := ⟨_, rfl⟩
      obtain ⟨N, hN⟩ : ∃ N, smallF 0 Y.2 * 12 + smallF 0 M.2 = N := ⟨_, rfl⟩
      rw [hV] at c1 c2 ⊢
      rw [hN] at c1 c2 ⊢
      by_cases hVb : V < 10 ^ 30
      · rw [if_pos hVb]
        have hz := canon_int V hVb
        obtain ⟨t, ht, _⟩ := negR_negR _ _ _ hz
        have hf := fin_sign hz ht
        have hd := fin_dec V
        rw [hd] at hf
        by_cases h9 : 9999999999 < V
        · rw [if_pos (c1.2 h9)]
          rw [if_pos h9] at hf hd
          cases Lib.hasPrefix s [45] with
          | true => rw [if_pos (show true = true from rfl), ht]; simp only; rw [if_neg (by simp), hf]; rfl
          | false => rw [if_neg (show ¬ false = true by decide)]; simp only; rw [if_neg (by simp), hd]
        · rw [if_neg (fun q => h9 (c1.1 q)), c2 h9]
          rw [if_neg h9] at hf hd
          cases Lib.hasPrefix s [45] with
          | true => rw [if_pos (show true = true from rfl), if_pos (show true = true from rfl), ht]; simp only; rw [if_neg (by simp), hf]
          | false => rw [if_neg (show ¬ false = true by decide), if_neg (show ¬ false = true by decide)]; simp only; rw [if_neg (by simp), hd]
      · rw [if_neg hVb]
        simp only
        have h9 : 9999999999 < V := Nat.lt_of_lt_of_le (Nat.lt_of_lt_of_le (by decide : 9999999999 < 10 ^ 10) (Nat.pow_le_pow_right (by decide) (by decide))) (Nat.not_lt.1 hVb)
        rw [if_pos (by simp), if_pos (c1.2 h9)]
end Go.Proofs.YtdfgifnccghlmabGreatDoor
namespace Go.Proofs.YtdfgifnccghlmabGreatDoor
open Go.Lib

/-- A sum with a number of seconds, as the specification adds. -/
def plusR (t y u : List UInt8) : List UInt8 × Int :=
  if y = [] then (t, 0) else if (readR y).2 ≠ 0 then ([], (readR y).2) else if (mulR (readR y).1 u).2 ≠ 0 then ([], (mulR (readR y).1 u).2) else addR t (mulR (readR y).1 u).1
def plusesR : List UInt8 → List (List UInt8) → List (List UInt8) → List UInt8 × Int
  | t, y :: ys, u :: us => if (plusR t y u).2 ≠ 0 then ([], 40) else plusesR (plusR t y u).1 ys us
  | t, _, _ => (t, 0)
/-- A canonical text. -/
def Can (t : List UInt8) : Prop := ∃ b n, canonL t = some (b, n)
theorem Can.len {t : List UInt8} (h : Can t) : t.length ≤ 52 := by
  obtain ⟨b, n, h⟩ := h
  exact textL_len (text_canon t b n h).1
theorem Can.of {r : List UInt8 × Int} (h : CanonR r) (h0 : r.2 = 0) : Can r.1 := by
  rcases h with ⟨k, _⟩ | ⟨_, k, _⟩
  · exact absurd h0 k
  · exact canon_of_read k
theorem res40 (b : Bool) (n : Nat) : (resR b n).2 = 0 ∨ (resR b n).2 = 40 := by
  unfold resR
  split
  · exact .inl rfl
  · exact .inr rfl
theorem mul40 {a b : List UInt8} (ha : Can a) (hb : Can b) : (mulR a b).2 = 0 ∨ (mulR a b).2 = 40 := by
  obtain ⟨x, m, ha⟩ := ha
  obtain ⟨y, n, hb⟩ := hb
  unfold mulR
  rw [on2_some ha hb]
  exact res40 _ _
theorem add40 {a b : List UInt8} (ha : Can a) (hb : Can b) : (addR a b).2 = 0 ∨ (addR a b).2 = 40 := by
  obtain ⟨x, m, ha⟩ := ha
  obtain ⟨y, n, hb⟩ := hb
  unfold addR
  rw [on2_some ha hb]
  exact res40 _ _
theorem add_zero_can {t : List UInt8} (h : Can t) : addR t [48] = (t, 0) := by
  obtain ⟨b, n, h⟩ := h
  have h0 : canonL [48] = some (false, 0) := by decide +kernel
  unfold addR
  rw [on2_some h h0]
  refine resR_canon h ?_
  rw [toZ_plus]
  show toZ b n + 0 = _
  omega
theorem read40 {frac : Bool} {y : List UInt8} (h : NumF frac y) (hl : y.length ≤ 200) : (readR y).2 = 0 ∨ (readR y).2 = 40 := by
  obtain ⟨B, A, p, e, hB, dB, hp⟩ := h
  have hs : ∃ w, splitL y = some w := by
    cases p with
    | false => exact ⟨_, by have := split_of [] B [] false (.inl rfl) hB dB Dgs.nil (fun _ => rfl); rw [e]; exact this⟩
    | true => exact ⟨_, by have := split_of [] B A true (.inl rfl) hB dB (hp rfl).2.2 (fun q => by cases q); rw [e]; exact this⟩
  obtain ⟨w, hs⟩ := hs
  unfold readR
  rw [if_neg (by omega), hs]
  exact res40 _ _
def Part (y : List UInt8) : Prop := y = [] ∨ ∃ frac, NumF frac y ∧ y.length ≤ 200
def Unit1 (u : List UInt8) : Prop := Can u ∧ mulR [48] u = ([48], 0)
theorem plus_step (below : Bool) {t y u : List UInt8} (ns us : List (List UInt8)) (ht : Can t) (hy : Part y) (hu : Unit1 u) :
    sumR below t (orZero y :: ns) (u :: us) = (if (plusR t y u).2 ≠ 0 then ([], 40) else sumR below (plusR t y u).1 ns us) ∧ ((plusR t y u).2 = 0 → Can (plusR t y u).1) := by
  rw [sumR]
  by_cases h0 : y = []
  · subst h0
    have e : readR [48] = ([48], 0) := by decide +kernel
    have e2 : plusR t [] u = (t, 0) := by unfold plusR; rw [if_pos rfl]
    unfold orZero
    rw [if_pos rfl, e]
    simp only
    rw [if_neg (by simp), hu.2]
    simp only
    rw [if_neg (by simp), add_zero_can ht]
    simp only
    rw [if_neg (by simp), e2]
    simp only
    rw [if_neg (by simp)]
    exact ⟨rfl, fun _ => ht⟩
  · obtain ⟨frac, hn, hl⟩ := hy.resolve_left h0
    have h1 := read40 hn hl
    have c1 := readR_canonR y
    have e0 : orZero y = y := by unfold orZero; rw [if_neg h0]
    rw [e0]
    by_cases z1 : (readR y).2 = 0
    · have k1 := Can.of c1 z1
      have h2 := mul40 k1 hu.1
      have c2 := mulR_canonR (readR y).1 u
      have n1 : ¬ (readR y).2 ≠ 0 := fun q => q z1
      by_cases z2 : (mulR (readR y).1 u).2 = 0
      · have k2 := Can.of c2 z2
        have h3 := add40 ht k2
        have c3 := addR_canonR t (mulR (readR y).1 u).1
        have n2 : ¬ (mulR (readR y).1 u).2 ≠ 0 := fun q => q z2
        have eP : plusR t y u = addR t (mulR (readR y).1 u).1 := by unfold plusR; rw [if_neg h0, if_neg n1, if_neg n2]
        rw [eP, if_neg n1, if_neg n2]
        by_cases z3 : (addR t (mulR (readR y).1 u).1).2 = 0
        · have n3 : ¬ (addR t (mulR (readR y).1 u).1).2 ≠ 0 := fun q => q z3
          rw [if_neg n3, if_neg n3]
          exact ⟨rfl, fun _ => Can.of c3 z3⟩
        · rw [if_pos z3, if_pos z3, h3.resolve_left z3]
          exact ⟨rfl, fun q => absurd q (by decide)⟩
      · have eP : plusR t y u = ([], (mulR (readR y).1 u).2) := by unfold plusR; rw [if_neg h0, if_neg n1, if_pos z2]
        rw [eP, if_neg n1, if_pos z2]
        simp only
        rw [if_pos z2, h2.resolve_left z2]
        exact ⟨rfl, fun q => absurd q (by decide)⟩
    · have eP : plusR t y u = ([], (readR y).2) := by unfold plusR; rw [if_neg h0, if_pos z1]
      rw [eP, if_pos z1]
      simp only
      rw [if_pos z1, h1.resolve_left z1]
      exact ⟨rfl, fun q => absurd q (by decide)⟩
/-- How the specification's ParseSeconds ends. -/
def finS (below : Bool) (r : List UInt8 × Int) : List UInt8 × Int := if r.2 ≠ 0 then ([], 40) else if below = true then negR r.1 else (r.1, 0)
theorem sum_pluses (below : Bool) : ∀ (us ys : List (List UInt8)) (t : List UInt8), ys.length = us.length → Can t → (∀ y ∈ ys, Part y) → (∀ u ∈ us, Unit1 u) → sumR below t (ys.map orZero) us = finS below (plusesR t ys us)
  | [], [], t, _, _, _, _ => by
    rw [List.map_nil, sumR_end]
    unfold plusesR finS
    simp only
    rw [if_neg (show ¬ (0 : Int) ≠ 0 from fun q => q rfl)]
  | [], _ :: _, _, h, _, _, _ => by cases h
  | _ :: _, [], _, h, _, _, _ => by cases h
  | u :: us, y :: ys, t, h, ht, hy, hu => by
    obtain ⟨h1, h2⟩ := plus_step below (ys.map orZero) us ht (hy y (by simp)) (hu u (by simp))
    rw [List.map_cons, h1, plusesR]
    by_cases z : (plusR t y u).2 = 0
    · rw [if_neg (by simp [z]), if_neg (by simp [z])]
      exact sum_pluses below us ys _ (by simpa using h) (h2 z) (fun q hq => hy q (List.mem_cons_of_mem _ hq)) (fun q hq => hu q (List.mem_cons_of_mem _ hq))
    · rw [if_pos z, if_pos z]
      rfl
def unitsL : List (List UInt8) := [dayL, hourL, minL, [49]]
theorem units_ok : ∀ u ∈ unitsL, Unit1 u := by
  intro u hu
  unfold unitsL at hu
  simp only [List.mem_cons, List.not_mem_nil, or_false] at hu
  rcases hu with rfl | rfl | rfl | rfl
  · exact ⟨⟨false, 86400 * 10 ^ 20, by decide +kernel⟩, by decide +kernel⟩
  · exact ⟨⟨false, 3600 * 10 ^ 20, by decide +kernel⟩, by decide +kernel⟩
  · exact ⟨⟨false, 60 * 10 ^ 20, by decide +kernel⟩, by decide +kernel⟩
  · exact ⟨⟨false, 1 * 10 ^ 20, by decide +kernel⟩, by decide +kernel⟩
theorem part_ok {c : UInt8} (hc : isDg c = false) (h46 : c ≠ 46) (l : List UInt8) (hl : l.length ≤ 200) : Part (partR c (decide (c = 83)) l).2 ∧ (partR c (decide (c = 83)) l).1.length ≤ 200 := by
  rcases partR_iff hc h46 l with ⟨h1, _, h3⟩ | ⟨_, _, h3, h4, h5⟩
  · exact ⟨.inl h1, by rw [h3]; exact hl⟩
  · exact ⟨.inr ⟨_, h3, by omega⟩, by omega⟩
/-- What the specification's ParseSeconds gives. -/
def refS (s : List UInt8) : List UInt8 × Int :=
  let s1 := Lib.trimPrefix s [45]
  let D := partR 68 false (Lib.trimPrefix s1 [80])
  let H := partR 72 false (Lib.trimPrefix D.1 [84])
  let M := partR 77 false H.1
  let S := partR 83 true M.1
  if 200 < s.length then ([], 2)
  else if D.1 = [] then (if Lib.hasPrefix s1 [80] = false ∨ D.2 = [] then ([], 5) else finS (Lib.hasPrefix s [45]) (plusesR [48] [D.2, [], [], []] unitsL))
  else if H.2 = [] ∧ M.2 = [] ∧ S.2 = [] then ([], 5)
  else if (Lib.hasPrefix s1 [80] && Lib.hasPrefix D.1 [84]) = false ∨ S.1 ≠ [] then ([], 5)
  else finS (Lib.hasPrefix s [45]) (plusesR [48] [D.2, H.2, M.2, S.2] unitsL)
theorem sec_false {m : UInt8} {cs s : List UInt8} (h : Lib.hasPrefix s [m] = false) : (secL m cs s).1 = false ∧ (secL m cs s).2.1 = 0 ∧ (secL m cs s).2.2.2 = s := by
  have e : Lib.trimPrefix s [m] = s := by unfold Lib.trimPrefix; rw [h]; rfl
  unfold secL
  simp only
  rw [h, e]
  exact ⟨rfl, (parts_false cs s).1, (parts_false cs s).2⟩
theorem refS_eq (s : List UInt8) : parseS s = refS s := by
  unfold parseS refS
  simp only
  by_cases hL : 200 < s.length
  · rw [if_pos hL, if_pos hL]
  rw [if_neg hL, if_neg hL]
  have hl1 := pre_len s [45]
  obtain ⟨s1, hs1⟩ : ∃ x, Lib.trimPrefix s [45] = x := ⟨_, rfl⟩
  rw [hs1] at hl1 ⊢
  have hl2 := pre_len s1 [80]
  cases hp : Lib.hasPrefix s1 [80] with
  | false =>
    rw [if_pos (.inl (sec_false hp).1)]
    split
    · rw [if_pos (.inl rfl)]
    · split
      · rfl
      · rw [if_pos (.inl rfl)]
  | true =>
    obtain ⟨s2, hs2⟩ : ∃ x, Lib.trimPrefix s1 [80] = x := ⟨_, rfl⟩
    rw [hs2] at hl2
    rw [hs2]
    have nD := part_ok (c := 68) (by decide) (by decide) s2 (by omega)
    have eD := parts_ref (c := 68) (by decide) (by decide) [] s2
    rw [show decide ((68 : UInt8) = 83) = false from by decide] at eD nD
    obtain ⟨D, hD⟩ : ∃ Y, partR 68 false s2 = Y := ⟨_, rfl⟩
    rw [hD] at nD eD
    rw [hD]
    obtain ⟨p, hq⟩ : ∃ p, 0 + (if D.2 = [] then 0 else 1) = p := ⟨_, rfl⟩
    have hp0 : p = 0 ↔ D.2 = [] := by
      rw [← hq]
      by_cases k1 : D.2 = [] <;> simp [k1]
    have e1 : secL 80 [68] s1 = (true, p, [orZero D.2], D.1) := by
      unfold secL
      rw [hp, hs2, eD, ← hq]
      rfl
    rw [e1]
    simp only
    have z48 : Can [48] := ⟨false, 0, by decide +kernel⟩
    by_cases hD1 : D.1 = []
    · rw [hD1]
      have e2 : secL 84 [72, 77, 83] [] = (false, 0, [[48], [48], [48]], []) := by decide +kernel
      rw [e2, if_neg (by simp), if_pos rfl]
      by_cases hD2 : D.2 = []
      · rw [if_pos (.inr ⟨rfl, hp0.2 hD2⟩), if_pos (.inr hD2)]
      · rw [if_neg, if_neg (by simp [hD2])]
        · have := sum_pluses (Lib.hasPrefix s [45]) unitsL [D.2, [], [], []] [48] rfl z48 (by
            intro y hy
            simp only [List.mem_cons, List.not_mem_nil, or_false] at hy
            rcases hy with rfl | rfl | rfl | rfl
            · exact nD.1
            · exact .inl rfl
            · exact .inl rfl
            · exact .inl rfl) units_ok
          exact this
        · rintro (⟨q, _⟩ | ⟨_, q⟩)
          · cases q
          · exact hD2 (hp0.1 q)
    · rw [if_neg hD1]
      have hl4 := pre_len D.1 [84]
      cases ht : Lib.hasPrefix D.1 [84] with
      | false =>
        obtain ⟨k1, k2, k3⟩ := sec_false (cs := [72, 77, 83]) ht
        rw [k3, if_pos (.inr hD1)]
        split
        · rfl
        · rw [if_pos (.inl rfl)]
      | true =>
        obtain ⟨s4, hs4⟩ : ∃ x, Lib.trimPrefix D.1 [84] = x := ⟨_, rfl⟩
        rw [hs4] at hl4
        rw [hs4]
        have nH := part_ok (c := 72) (by decide) (by decide) s4 (by omega)
        have eH := parts_ref (c := 72) (by decide) (by decide) [77, 83] s4
        rw [show decide ((72 : UInt8) = 83) = false from by decide] at eH nH
        obtain ⟨H, hH⟩ : ∃ Y, partR 72 false s4 = Y := ⟨_, rfl⟩
        rw [hH] at nH eH
        rw [hH]
        have nM := part_ok (c := 77) (by decide) (by decide) H.1 nH.2
        have eM := parts_ref (c := 77) (by decide) (by decide) [83] H.1
        rw [show decide ((77 : UInt8) = 83) = false from by decide] at eM nM
        obtain ⟨M, hM⟩ : ∃ Y, partR 77 false H.1 = Y := ⟨_, rfl⟩
        rw [hM] at nM eM
        rw [hM]
        have nS := part_ok (c := 83) (by decide) (by decide) M.1 nM.2
        have eS := parts_ref (c := 83) (by decide) (by decide) [] M.1
        rw [show decide ((83 : UInt8) = 83) = true from by decide] at eS nS
        obtain ⟨S, hS⟩ : ∃ Y, partR 83 true M.1 = Y := ⟨_, rfl⟩
        rw [hS] at nS eS
        rw [hS]
        obtain ⟨q, hq⟩ : ∃ q, 0 + (if S.2 = [] then 0 else 1) + (if M.2 = [] then 0 else 1) + (if H.2 = [] then 0 else 1) = q := ⟨_, rfl⟩
        have hq0 : q = 0 ↔ (H.2 = [] ∧ M.2 = [] ∧ S.2 = []) := by
          rw [← hq]
          by_cases k1 : H.2 = [] <;> by_cases k2 : M.2 = [] <;> by_cases k3 : S.2 = [] <;> simp [k1, k2, k3]
        have e2 : secL 84 [72, 77, 83] D.1 = (true, q, [orZero H.2, orZero M.2, orZero S.2], S.1) := by
          unfold secL
          rw [ht, hs4, eH, eM, eS, ← hq]
          rfl
        rw [e2]
        simp only
        by_cases hA : H.2 = [] ∧ M.2 = [] ∧ S.2 = []
        · rw [if_pos hA]
          split
          · rfl
          · rw [if_pos]
            exact .inl ⟨trivial, hq0.2 hA⟩
        · rw [if_neg hA]
          by_cases hR : S.1 = []
          · rw [if_neg (by simp [hR]), if_neg, if_neg (by simp [hR])]
            · have := sum_pluses (Lib.hasPrefix s [45]) unitsL [D.2, H.2, M.2, S.2] [48] rfl z48 (by
                intro y hy
                simp only [List.mem_cons, List.not_mem_nil, or_false] at hy
                rcases hy with rfl | rfl | rfl | rfl
                · exact nD.1
                · exact nH.1
                · exact nM.1
                · exact nS.1) units_ok
              exact this
            · rintro (⟨_, k⟩ | ⟨k, _⟩)
              · exact hA (hq0.1 k)
              · cases k
          · rw [if_pos (.inr hR), if_pos (.inr hR)]
end Go.Proofs.YtdfgifnccghlmabGreatDoor

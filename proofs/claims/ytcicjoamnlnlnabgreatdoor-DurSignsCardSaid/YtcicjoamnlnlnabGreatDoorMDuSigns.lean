/- Durations: a minus sign ahead of a form, in plain words. No program in this text. -/
import Derived.Test.YtcicjoamnlnlnabGreatDoorMDuUse
namespace Go.Proofs.YtcicjoamnlnlnabGreatDoor
open Go.Lib

theorem sumR_sign : ∀ (us ns : List (List UInt8)) (t : List UInt8), ((sumR false t ns us).2 ≠ 0 ∧ sumR true t ns us = sumR false t ns us) ∨ ((sumR false t ns us).2 = 0 ∧ sumR true t ns us = negR (sumR false t ns us).1)
  | [], ns, t => by
    rw [sumR_end, sumR_end]
    exact .inr ⟨rfl, rfl⟩
  | u :: us, [], t => .inr ⟨rfl, rfl⟩
  | u :: us, n :: ns, t => by
    rw [sumR, sumR]
    by_cases h1 : (readR n).2 ≠ 0
    · rw [if_pos h1, if_pos h1]; exact .inl ⟨h1, rfl⟩
    by_cases h2 : (mulR (readR n).1 u).2 ≠ 0
    · rw [if_neg h1, if_neg h1, if_pos h2, if_pos h2]; exact .inl ⟨h2, rfl⟩
    by_cases h3 : (addR t (mulR (readR n).1 u).1).2 ≠ 0
    · rw [if_neg h1, if_neg h1, if_neg h2, if_neg h2, if_pos h3, if_pos h3]; exact .inl ⟨h3, rfl⟩
    rw [if_neg h1, if_neg h1, if_neg h2, if_neg h2, if_neg h3, if_neg h3]
    exact sumR_sign us ns _
theorem canon_of_read {x : List UInt8} (h : readR x = (x, 0)) : ∃ b n, canonL x = some (b, n) := by
  unfold readR at h
  split at h
  · cases h
  · split at h
    · cases h
    · obtain ⟨c, hc, _⟩ := resR_back h
      exact ⟨_, _, hc⟩
theorem zero_canonR : CanonR ([48], 0) := .inr ⟨rfl, by decide +kernel, by decide⟩
/-- How a sum with a sign ends. -/
theorem sum_sign (us ns : List (List UInt8)) : (∃ z, z ≠ 0 ∧ sumR false [48] ns us = ([], z) ∧ sumR true [48] ns us = ([], z)) ∨ (∃ x y, sumR false [48] ns us = (x, 0) ∧ sumR true [48] ns us = (y, 0) ∧ negR x = (y, 0) ∧ negR y = (x, 0) ∧ ∃ b n, canonL x = some (b, n)) := by
  have hc := sumR_canonR false us ns [48] zero_canonR
  rcases sumR_sign us ns [48] with ⟨h1, h2⟩ | ⟨h1, h2⟩
  · left
    rcases hc with ⟨_, h3⟩ | ⟨h3, _⟩
    · exact ⟨_, h1, Prod.ext h3 rfl, by rw [h2]; exact Prod.ext h3 rfl⟩
    · exact absurd h3 h1
  · right
    rcases hc with ⟨h3, _⟩ | ⟨_, h3, _⟩
    · exact absurd h1 h3
    · obtain ⟨b, n, hb⟩ := canon_of_read h3
      obtain ⟨y, hy, hyx⟩ := negR_negR _ b n hb
      exact ⟨_, y, Prod.ext rfl h1, by rw [h2, hy], hy, hyx, b, n, hb⟩
theorem pre_none {s : List UInt8} (h : s.head? ≠ some 45) : Lib.hasPrefix s [45] = false ∧ Lib.trimPrefix s [45] = s := by
  have h1 : Lib.hasPrefix s [45] = false := by
    unfold Lib.hasPrefix
    cases s with
    | nil => rfl
    | cons c r =>
      have : ¬ (45 : UInt8) = c := fun e => h (by rw [e]; rfl)
      simp [List.isPrefixOf, this]
  exact ⟨h1, by unfold Lib.trimPrefix; rw [h1]; rfl⟩
theorem pre_some (s : List UInt8) : Lib.hasPrefix (45 :: s) [45] = true ∧ Lib.trimPrefix (45 :: s) [45] = s := by
  have h1 : Lib.hasPrefix (45 :: s) [45] = true := by simp [Lib.hasPrefix, List.isPrefixOf]
  exact ⟨h1, by unfold Lib.trimPrefix; rw [if_pos h1]; rfl⟩
theorem parseS_sign (s : List UInt8) (hs : s.length ≤ 199) (h0 : s.head? ≠ some 45) :
    (∃ z, z ≠ 0 ∧ parseS s = ([], z) ∧ parseS (45 :: s) = ([], z)) ∨ (∃ x y, parseS s = (x, 0) ∧ parseS (45 :: s) = (y, 0) ∧ negR y = (x, 0) ∧ y.length ≤ 52) := by
  unfold parseS
  rw [(pre_none h0).1, (pre_none h0).2, (pre_some s).1, (pre_some s).2]
  simp only
  rw [if_neg (show ¬ 200 < s.length by omega), if_neg (show ¬ 200 < (45 :: s).length by simp; omega)]
  split
  · exact .inl ⟨5, by decide, rfl, rfl⟩
  split
  · exact .inl ⟨5, by decide, rfl, rfl⟩
  rcases sum_sign [dayL, hourL, minL, [49]] ((secL 80 [68] s).2.2.1 ++ (secL 84 [72, 77, 83] (secL 80 [68] s).2.2.2).2.2.1) with h | ⟨x, y, h1, h2, h4, h3, _⟩
  · exact .inl h
  · exact .inr ⟨x, y, h1, h2, h3, by have := canonR_len (negR_canonR x); rw [h4] at this; exact this⟩
/-- How ParseMonths ends on a text of the sum. -/
def finM : Lib.NumEnd Int → Int × Int
  | .ok v => if v < -9999999999 ∨ 9999999999 < v then (0, 6) else (v, 0)
  | _ => (0, 6)
theorem fin_neg (c : UInt8) (r : List UInt8) (hc : isDg c = true) : finM (Lib.atoiAll (45 :: c :: r)) = (-(finM (Lib.atoiAll (c :: r))).1, (finM (Lib.atoiAll (c :: r))).2) := by
  have h := (isDg_iff c).1 hc
  have e1 : ¬ (c.toNat = 43 ∨ c.toNat = 45) := by omega
  have e2 : ¬ c.toNat = 45 := by omega
  have e3 : ((45 : UInt8).toNat = 43 ∨ (45 : UInt8).toNat = 45) := .inr rfl
  unfold Lib.atoiAll
  simp only
  rw [if_neg e1, if_pos e3]
  cases Lib.parseMag (c :: r) with
  | range => rfl
  | ok u =>
    simp only [e2, show (45 : UInt8).toNat = 45 from rfl, not_true_eq_false, false_and, true_and, not_false_eq_true, if_true, if_false]
    by_cases h1 : 9223372036854775808 < u
    · rw [if_pos h1, if_pos (show 9223372036854775808 ≤ u by omega)]; rfl
    · rw [if_neg h1]
      by_cases h2 : 9223372036854775808 ≤ u
      · rw [if_pos h2]
        unfold finM
        simp only
        rw [if_pos (by omega)]
        rfl
      · rw [if_neg h2]
        unfold finM
        simp only
        by_cases h3 : 9999999999 < u
        · rw [if_pos (by omega), if_pos (by omega)]; rfl
        · rw [if_neg (by omega), if_neg (by omega)]
  | _ => rfl
theorem body_dig (n : Nat) : ∃ c r, bodyL n = c :: r ∧ isDg c = true := by
  unfold bodyL
  by_cases h : dec (n / 10 ^ 20) = []
  · rw [if_pos h]; exact ⟨48, _, rfl, by decide⟩
  · rw [if_neg h]
    obtain ⟨c, r, hcr⟩ := List.exists_cons_of_ne_nil h
    rw [hcr]
    exact ⟨c, _, rfl, dec_dgs (n / 10 ^ 20) c (by rw [hcr]; simp)⟩
theorem textL_is {b : Bool} {n : Nat} {t : List UInt8} (h : textL b n = some t) : t = (if b = true ∧ bodyL n ≠ [48] then [45] else []) ++ bodyL n := by
  unfold textL at h
  split at h
  · cases h
  · exact (Option.some.inj h).symm
theorem fin_sign {x y : List UInt8} {b : Bool} {n : Nat} (hx : canonL x = some (b, n)) (hy : negR x = (y, 0)) : finM (Lib.atoiAll y) = (-(finM (Lib.atoiAll x)).1, (finM (Lib.atoiAll x)).2) := by
  obtain ⟨h1, h2, _⟩ := text_canon x b n hx
  have h3 : textL (!b) n = some y := by
    unfold negR at hy
    rw [on1_some hx] at hy
    unfold resR at hy
    split at hy
    · rename_i t ht
      cases hy
      exact ht
    · cases hy
  have ex := textL_is h1
  have ey := textL_is h3
  obtain ⟨c, r, hb, hc⟩ := body_dig n
  by_cases hz : bodyL n = [48]
  · rw [if_neg (fun k => k.2 hz), hz] at ex ey
    subst ex; subst ey
    decide +kernel
  · cases b with
    | false =>
      rw [if_neg (fun k => by cases k.1), List.nil_append, hb] at ex
      rw [if_pos ⟨rfl, hz⟩, hb] at ey
      subst ex; subst ey
      exact fin_neg c r hc
    | true =>
      rw [if_pos ⟨rfl, hz⟩, hb] at ex
      rw [if_neg (fun k => by cases k.1), List.nil_append, hb] at ey
      subst ex; subst ey
      have k := fin_neg c r hc
      show _ = (-(finM (Lib.atoiAll (45 :: c :: r))).1, (finM (Lib.atoiAll (45 :: c :: r))).2)
      rw [k]
      simp
theorem parseM_sign (s : List UInt8) (hs : s.length ≤ 199) (h0 : s.head? ≠ some 45) : parseM (45 :: s) = (-(parseM s).1, (parseM s).2) := by
  have hp : ∀ t, (if (sumR t [48] (secL 80 [89, 77] s).2.2.1 [[49, 50], [49]]).2 ≠ 0 then ((0 : Int), (6 : Int)) else match Lib.atoiAll (sumR t [48] (secL 80 [89, 77] s).2.2.1 [[49, 50], [49]]).1 with
      | .ok v => if v < -9999999999 ∨ 9999999999 < v then (0, 6) else (v, 0)
      | _ => (0, 6)) = if (sumR t [48] (secL 80 [89, 77] s).2.2.1 [[49, 50], [49]]).2 ≠ 0 then (0, 6) else finM (Lib.atoiAll (sumR t [48] (secL 80 [89, 77] s).2.2.1 [[49, 50], [49]]).1) := fun t => by
    split
    · rfl
    · cases Lib.atoiAll (sumR t [48] (secL 80 [89, 77] s).2.2.1 [[49, 50], [49]]).1 <;> rfl
  unfold parseM
  rw [(pre_none h0).1, (pre_none h0).2, (pre_some s).1, (pre_some s).2]
  simp only
  rw [if_neg (show ¬ 200 < s.length by omega), if_neg (show ¬ 200 < (45 :: s).length by simp; omega)]
  by_cases hk : (secL 80 [89, 77] s).2.1 = 0 ∨ (secL 80 [89, 77] s).2.2.2 ≠ []
  · rw [if_pos hk, if_pos hk]; rfl
  rw [if_neg hk, if_neg hk]
  refine (hp true).trans ?_
  refine Eq.trans ?_ (congrArg (fun q : Int × Int => (-q.1, q.2)) (hp false).symm)
  show _ = (-(ite _ _ _ : Int × Int).1, (ite _ _ _ : Int × Int).2)
  rcases sum_sign [[49, 50], [49]] (secL 80 [89, 77] s).2.2.1 with ⟨z, h1, h2, h3⟩ | ⟨x, y, h1, h2, h3, _, b, n, h5⟩
  · rw [h2, h3, if_pos h1]; rfl
  · rw [h1, h2]
    simp only [ne_eq, not_true_eq_false, if_false]
    exact fin_sign h5 h3
theorem finM_small (e : Lib.NumEnd Int) : -9999999999 ≤ (finM e).1 ∧ (finM e).1 ≤ 9999999999 := by
  unfold finM
  split
  · split
    · exact ⟨by decide, by decide⟩
    · simp only; omega
  · exact ⟨by decide, by decide⟩
theorem parseM_small (s : List UInt8) : -9999999999 ≤ (parseM s).1 ∧ (parseM s).1 ≤ 9999999999 := by
  unfold parseM
  simp only
  split
  · exact ⟨by decide, by decide⟩
  split
  · exact ⟨by decide, by decide⟩
  split
  · exact ⟨by decide, by decide⟩
  split
  · split
    · exact ⟨by decide, by decide⟩
    · simp only; omega
  · exact ⟨by decide, by decide⟩
end Go.Proofs.YtcicjoamnlnlnabGreatDoor

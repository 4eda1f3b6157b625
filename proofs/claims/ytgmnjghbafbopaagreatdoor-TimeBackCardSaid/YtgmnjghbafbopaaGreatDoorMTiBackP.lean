/- Dates: canonical texts are read back, in plain words. -/
import Derived.Test.YtgmnjghbafbopaaGreatDoorMTiH
import Derived.Test.YtgmnjghbafbopaaGreatDoorMTiF
namespace Go.Proofs.YtgmnjghbafbopaaGreatDoor
open Go.RowKit Go.Lib

theorem pad_len {n k : Nat} (hn : n < 10 ^ k) (hk : 1 ≤ k) : (padD n k).length = k := by
  have : (Lib.decDigits n).length ≤ k := by
    rw [decDigits_dec]
    split
    · simpa using hk
    · exact (dec_len n k).2 hn
  unfold padD
  rw [List.length_append, List.length_replicate]
  omega
theorem pad_dgs (n k : Nat) : Dgs (padD n k) := by
  intro b hb
  unfold padD at hb
  rcases List.mem_append.1 hb with h | h
  · rw [(List.mem_replicate.1 h).2]; decide
  · exact decD_dgs n b h
theorem pad_val (n k : Nat) : valD (padD n k) 0 = n := by
  unfold padD
  rw [valD_app, valD_zeros, Nat.zero_mul, decD_val]
theorem readL_one {p r f : List UInt8} (h : fitsL p f = true) : readL (p ++ r) [f] = some (p, r) := by
  have hl := fits_len h
  unfold readL
  rw [← hl, List.take_left, List.drop_left, if_pos h]
theorem fits_padY {n : Nat} (h : n < 10000) : fitsL (padD n 4) fY = true := fits_zeros.2 (show _ from ⟨pad_len (by simpa using h) (by decide), pad_dgs n 4⟩)
theorem fits_padH {n : Nat} (h : n < 100) : fitsL (padD n 2) fH = true := fits_zeros.2 (show _ from ⟨pad_len (by simpa using h) (by decide), pad_dgs n 2⟩)
theorem fits_padM {n : Nat} (h : n < 100) : fitsL (45 :: padD n 2) fM = true := by
  show (fitB 45 45 && fitsL (padD n 2) fH) = true
  rw [fits_padH h]; rfl
theorem fits_padC {n : Nat} (h : n < 100) : fitsL (58 :: padD n 2) fC = true := by
  show (fitB 58 58 && fitsL (padD n 2) fH) = true
  rw [fits_padH h]; rfl
theorem dateP_text {y mo d : Nat} (hy : y < 10000) (hm : mo < 100) (hd : d < 100) (r : List UInt8) : dateP (dateL y mo d ++ r) = some ((y, mo, d), r) := by
  have e : dateL y mo d ++ r = padD y 4 ++ ((45 :: padD mo 2) ++ ((45 :: padD d 2) ++ r)) := by unfold dateL; simp
  rw [e]
  unfold dateP
  rw [readL_one (fits_padY hy)]; simp only
  rw [readL_one (fits_padM hm)]; simp only
  rw [readL_one (fits_padM hd)]; simp only
  rw [pad_val]
  unfold tailV
  rw [List.drop_one, List.tail_cons, List.drop_one, List.tail_cons, pad_val, pad_val]
/-- What stands behind a fraction: no digit, no point. -/
def Behind (r : List UInt8) : Prop := r = [] ∨ ∃ c t, r = c :: t ∧ fitB c 48 = false ∧ fitB c 46 = false
theorem readF_text {A r : List UInt8} (hA : A.length ≤ 6) (dA : Dgs A) (hr : Behind r) : readL ((if A = [] then [] else 46 :: A) ++ r) fF = some (if A = [] then [] else 46 :: A, r) := by
  have dg : ∀ b, b ∈ A → fitB b 48 = true := fun b hb => fit_of_dg (dA b hb)
  have f46 : fitB 46 46 = true := rfl
  rcases hr with rfl | ⟨c, t, rfl, h1, h2⟩
  · match A, hA with
    | [], _ => decide
    | [a], _ => simp [readL, fF, fitsL, f46, dg a (by simp)]
    | [a, b], _ => simp [readL, fF, fitsL, f46, dg a (by simp), dg b (by simp)]
    | [a, b, c], _ => simp [readL, fF, fitsL, f46, dg a (by simp), dg b (by simp), dg c (by simp)]
    | [a, b, c, d], _ => simp [readL, fF, fitsL, f46, dg a (by simp), dg b (by simp), dg c (by simp), dg d (by simp)]
    | [a, b, c, d, e], _ => simp [readL, fF, fitsL, f46, dg a (by simp), dg b (by simp), dg c (by simp), dg d (by simp), dg e (by simp)]
    | [a, b, c, d, e, f], _ => simp [readL, fF, fitsL, f46, dg a (by simp), dg b (by simp), dg c (by simp), dg d (by simp), dg e (by simp), dg f (by simp)]
    | _ :: _ :: _ :: _ :: _ :: _ :: _ :: _, h => simp at h
  · match A, hA with
    | [], _ => simp [readL, fF, fitsL, h2]
    | [a], _ => simp [readL, fF, fitsL, f46, h1, dg a (by simp)]
    | [a, b], _ => simp [readL, fF, fitsL, f46, h1, dg a (by simp), dg b (by simp)]
    | [a, b, c], _ => simp [readL, fF, fitsL, f46, h1, dg a (by simp), dg b (by simp), dg c (by simp)]
    | [a, b, c, d], _ => simp [readL, fF, fitsL, f46, h1, dg a (by simp), dg b (by simp), dg c (by simp), dg d (by simp)]
    | [a, b, c, d, e], _ => simp [readL, fF, fitsL, f46, h1, dg a (by simp), dg b (by simp), dg c (by simp), dg d (by simp), dg e (by simp)]
    | [a, b, c, d, e, f], _ => simp [readL, fF, fitsL, f46, dg a (by simp), dg b (by simp), dg c (by simp), dg d (by simp), dg e (by simp), dg f (by simp)]
    | _ :: _ :: _ :: _ :: _ :: _ :: _ :: _, h => simp at h
theorem p6 : (10 : Nat) ^ 20 = 1000000 * 10 ^ 14 := p14
theorem sec_len6 (mu : Nat) : (trimE (fixed 20 (mu * 10 ^ 14))).length ≤ 6 := by
  have e : fixed 20 (mu * 10 ^ 14) = fixed 6 mu ++ List.replicate 14 48 := by
    rw [show (20 : Nat) = 6 + 14 from rfl, fixed_add 6 14, fixed_mul, Nat.mul_div_cancel _ T0]
  obtain ⟨k, hk⟩ := trimE_split (fixed 6 mu)
  have hl := fixed_len 6 mu
  rw [hk, List.length_append] at hl
  rw [e, hk, List.append_assoc, List.replicate_append_replicate, trimE_of _ _ (trimE_last _)]
  omega
theorem val_split {B A : List UInt8} {q n : Nat} (hB : valD B 0 = q) (hA : A.length ≤ 20) (hq : q = n / 10 ^ 20) (hm : valD A 0 * 10 ^ (20 - A.length) = n % 10 ^ 20) : valD (B ++ A) 0 * 10 ^ (20 - A.length) = n := by
  rw [valD_app, valD_acc, hB, Nat.add_mul, hm, Nat.mul_assoc, ← Nat.pow_add, show A.length + (20 - A.length) = 20 by omega, hq, Nat.mul_comm]
  exact Nat.div_add_mod _ _
/-- The canonical text of seconds, with two digits ahead of the point: it is read as it was. -/
theorem sec_shape {mu : Nat} (h : mu < 60000000) : ∃ q A, q < 100 ∧ Dgs A ∧ A.length ≤ 6 ∧ secL2 (bodyL (mu * 10 ^ 14)) = padD q 2 ++ (if A = [] then [] else 46 :: A) ∧ readR (padD q 2 ++ (if A = [] then [] else 46 :: A)) = (bodyL (mu * 10 ^ 14), 0) := by
  have hA6 := sec_len6 mu
  have hq : mu * 10 ^ 14 / 10 ^ 20 = mu / 1000000 := by rw [p6]; exact Nat.mul_div_mul_right _ _ T0
  have hlt : mu * 10 ^ 14 < 10 ^ 50 := mic_lt (lt36 (by omega))
  obtain ⟨B, A, e1, e2, e3, b1, dB, dA, vB, a1, _, a3, _⟩ := body_parts (mu * 10 ^ 14)
  rw [← e3] at hA6
  obtain ⟨n, hn⟩ : ∃ n, mu * 10 ^ 14 = n := ⟨_, rfl⟩
  rw [hn] at e1 e2 vB a3 hq hlt ⊢
  have hB : B = Lib.decDigits (mu / 1000000) := by
    rw [e2, hq, decDigits_dec]
    by_cases h0 : mu / 1000000 = 0
    · rw [if_pos ((dec_nil _).2 h0), if_pos h0]
    · rw [if_neg (fun k => h0 ((dec_nil _).1 k)), if_neg h0]
  have hq100 : mu / 1000000 < 100 := by omega
  have hpad : padD (mu / 1000000) 2 = if B.length = 1 then 48 :: B else B := by
    unfold padD
    rw [← hB]
    have hl : B.length ≤ 2 := by
      rw [hB, decDigits_dec]
      split
      · decide
      · exact (dec_len _ 2).2 hq100
    have hl0 : B.length ≠ 0 := fun k => b1 (List.eq_nil_of_length_eq_zero k)
    by_cases k1 : B.length = 1
    · rw [if_pos k1, k1]; rfl
    · rw [if_neg k1, show 2 - B.length = 0 by omega]; rfl
  have hdot : (dotL (bodyL n)).1 = B := by
    rw [e1]
    by_cases k : A = []
    · rw [if_pos k, List.append_nil, dot_none B (dgs_dot dB)]
    · rw [if_neg k, dot_at B A (dgs_dot dB)]
  refine ⟨mu / 1000000, A, hq100, dA, hA6, ?_, ?_⟩
  · unfold secL2
    rw [hdot, hpad, e1]
    split <;> simp
  · have hs := split_of [] (padD (mu / 1000000) 2) A (decide (A ≠ [])) (.inl rfl) (fun k => by
      have := pad_len (n := mu / 1000000) (k := 2) (by simpa using hq100) (by decide)
      rw [k] at this; cases this) (pad_dgs _ _) dA (fun k => by simpa using k)
    have hif : (if decide (A ≠ []) = true then 46 :: A else []) = (if A = [] then ([] : List UInt8) else 46 :: A) := by
      by_cases k : A = []
      · rw [if_neg (by simp [k]), if_pos k]
      · rw [if_pos (by simp [k]), if_neg k]
    rw [hif, List.nil_append] at hs
    have hl : (padD (mu / 1000000) 2 ++ (if A = [] then ([] : List UInt8) else 46 :: A)).length ≤ 200 := by
      rw [List.length_append, pad_len (by simpa using hq100) (by decide)]
      split
      · simp
      · rw [List.length_cons]; omega
    unfold readR
    rw [if_neg (by omega), hs]
    show resR (numL ⟨[], padD (mu / 1000000) 2, A, decide (A ≠ [])⟩).1 (numL ⟨[], padD (mu / 1000000) 2, A, decide (A ≠ [])⟩).2 = _
    have hv := val_split (B := padD (mu / 1000000) 2) (A := A) (n := n) (pad_val _ _) a1 hq.symm a3
    unfold numL
    simp only
    rw [if_neg (by omega), hv, show decide (([] : List UInt8) = [45]) = false from rfl]
    exact body_resR hlt
theorem timeP_text {h mi mu : Nat} (hh : h < 100) (hm : mi < 100) (hmu : mu < 60000000) {r : List UInt8} (hr : Behind r) : timeP (clockL h mi (bodyL (mu * 10 ^ 14)) ++ r) = some ((h, mi, bodyL (mu * 10 ^ 14)), r) := by
  obtain ⟨q, A, hq, dA, hA, e1, e2⟩ := sec_shape hmu
  obtain ⟨B, hB⟩ : ∃ B, bodyL (mu * 10 ^ 14) = B := ⟨_, rfl⟩
  rw [hB] at e1 e2 ⊢
  have e : clockL h mi B ++ r = padD h 2 ++ ((58 :: padD mi 2) ++ ((58 :: padD q 2) ++ ((if A = [] then [] else 46 :: A) ++ r))) := by
    unfold clockL
    rw [e1]
    simp
  rw [e]
  unfold timeP
  rw [readL_one (fits_padH hh)]; simp only
  rw [readL_one (fits_padC hm)]; simp only
  rw [readL_one (fits_padC hq)]; simp only
  rw [readF_text hA dA hr]; simp only
  rw [pad_val]
  unfold tailV
  rw [List.drop_one, List.tail_cons, pad_val, List.drop_one, List.tail_cons, e2]
theorem zone_two {sg : UInt8} {a b : List UInt8} (hs : sg = 43 ∨ sg = 45) (la : a.length = 2) (lb : b.length = 2) (da : Dgs a) (db : Dgs b) : zoneP (sg :: (a ++ 58 :: b)) = some (sg :: (a ++ 58 :: b)) := by
  match a, la, b, lb with
  | [a0, a1], _, [b0, b1], _ =>
    have f0 := fit_of_dg (da a0 (by simp))
    have f1 := fit_of_dg (da a1 (by simp))
    have f2 := fit_of_dg (db b0 (by simp))
    have f3 := fit_of_dg (db b1 (by simp))
    have g1 : fitB 43 90 = false := rfl
    have g2 : fitB 45 90 = false := rfl
    have g3 : fitB 45 43 = false := rfl
    have g4 : fitB 43 43 = true := rfl
    have g5 : fitB 45 45 = true := rfl
    have g6 : fitB 58 58 = true := rfl
    rcases hs with rfl | rfl
    · simp [zoneP, readL, fZ, fitsL, f0, f1, f2, f3, g1, g4, g6]
    · simp [zoneP, readL, fZ, fitsL, f0, f1, f2, f3, g2, g3, g5, g6]
theorem zone_back {z : Int} {has : Bool} (hz : zoneB z has = true) : zoneP (zoneL z has) = some (zoneL z has) ∧ zoneR (zoneL z has) = (z, has, true) ∧ Behind (zoneL z has) := by
  unfold zoneB at hz
  cases has with
  | false =>
    rw [if_neg (by decide)] at hz
    obtain rfl := of_decide_eq_true hz
    exact ⟨by decide, by decide +kernel, .inl rfl⟩
  | true =>
    rw [if_pos rfl, Bool.and_eq_true] at hz
    have z1 := of_decide_eq_true hz.1
    have z2 := of_decide_eq_true hz.2
    by_cases z0 : z = 0
    · subst z0
      exact ⟨by decide, by decide +kernel, .inr ⟨90, [], rfl, rfl, rfl⟩⟩
    · have hL : zoneL z true = (if z < 0 then 45 else 43) :: (padD (z.natAbs / 60) 2 ++ 58 :: padD (z.natAbs % 60) 2) := by unfold zoneL; rw [if_neg (by decide), if_neg z0]
      have la := pad_len (n := z.natAbs / 60) (k := 2) (by simp; omega) (by decide)
      have lb := pad_len (n := z.natAbs % 60) (k := 2) (by simp; omega) (by decide)
      have hs : (if z < 0 then (45 : UInt8) else 43) = 43 ∨ (if z < 0 then (45 : UInt8) else 43) = 45 := by split <;> simp
      rw [hL]
      refine ⟨zone_two hs la lb (pad_dgs _ _) (pad_dgs _ _), ?_, ?_⟩
      · rw [zoneR_two hs la, pad_val, pad_val]
        by_cases zn : z < 0
        · rw [if_pos zn, if_pos rfl, decide_eq_true (by omega)]
          congr 1
          omega
        · rw [if_neg zn, if_neg (by decide), decide_eq_true (by omega)]
          congr 1
          omega
      · by_cases zn : z < 0
        · rw [if_pos zn]; exact .inr ⟨45, _, rfl, rfl, rfl⟩
        · rw [if_neg zn]; exact .inr ⟨43, _, rfl, rfl, rfl⟩
/-- What a moment of a kind keeps: its date, its time, or both. -/
theorem parts_text {kd : Int} (hk : kd = 6 ∨ kd = 7 ∨ kd = 8) {y mo d h mi mu : Nat} {S : ByteArray} {z : Int} {has : Bool} (k : MomOk y mo d h mi mu S z has) :
    partsT kd (textT kd y mo d h mi S.data.toList z has) = some (if kd = 6 then ⟨y, mo, d, 0, 0, [48], zoneL z has⟩ else if kd = 7 then ⟨1972, 12, 31, h, mi, S.data.toList, zoneL z has⟩ else ⟨y, mo, d, h, mi, S.data.toList, zoneL z has⟩) := by
  have y9 := k.date.y2
  have m9 := k.date.m2
  have d9 := Nat.le_trans k.date.d2 (dim_le y mo).2
  have h9 := k.hour
  have i9 := k.minute
  obtain ⟨z1, _, z3⟩ := zone_back k.zone
  have hd := fun r => dateP_text (y := y) (mo := mo) (d := d) (by omega) (by omega) (by omega) r
  have hc := timeP_text (h := h) (mi := mi) (by omega) (by omega) k.micro z3
  rw [← k.sec] at hc
  rcases hk with rfl | rfl | rfl
  · unfold textT partsT partsD
    rw [if_pos rfl, if_pos rfl, if_pos rfl, hd]; simp only
    rw [z1]
  · unfold textT partsT partsC
    rw [if_neg (by decide), if_pos rfl, if_neg (by decide), if_pos rfl, if_neg (by decide), if_pos rfl, hc]; simp only
    rw [z1]
  · unfold textT partsT partsM
    rw [if_neg (by decide), if_neg (by decide), if_neg (by decide), if_neg (by decide), if_neg (by decide), if_neg (by decide), hd]; simp only
    rw [show (84 : UInt8) :: (clockL h mi S.data.toList ++ zoneL z has) = [84] ++ (clockL h mi S.data.toList ++ zoneL z has) from rfl, readL_one (f := fT) rfl]; simp only
    rw [hc]; simp only
    rw [z1]
end Go.Proofs.YtgmnjghbafbopaaGreatDoor

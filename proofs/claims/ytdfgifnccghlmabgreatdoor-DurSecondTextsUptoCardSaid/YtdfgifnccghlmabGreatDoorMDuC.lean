/- Durations: the contract of TextMonths. Durations: the contract of TextSeconds. -/
import Derived.Test.YtdfgifnccghlmabGreatDoorMDuA
import Derived.Test.YtdfgifnccghlmabGreatDoorMNuUse
namespace Go.Proofs.YtdfgifnccghlmabGreatDoor
open Go.RowKit Go.Lib

theorem decDigits_dec (n : Nat) : Lib.decDigits n = if n = 0 then [48] else dec n := by
  induction n using Nat.strongRecOn with
  | ind n ih =>
    rw [Lib.decDigits]
    by_cases h : n < 10
    · rw [dif_pos h]
      by_cases h0 : n = 0
      · subst h0; rfl
      · rw [if_neg h0, dec_pos n h0, show n / 10 = 0 by omega, dec_zero, show n % 10 = n by omega]; rfl
    · rw [dif_neg h, ih (n / 10) (by omega), if_neg (by omega), if_neg (by omega), dec_pos n (by omega)]; rfl
/-- The months' body: years and months, without what is 0. -/
def bodyM (N : Nat) : List UInt8 := partT (Lib.decDigits (N / 12)) 89 ++ partT (Lib.decDigits (N % 12)) 77
/-- What TextMonths gives. -/
def textM (n : Int) : List UInt8 × Int :=
  if n < -9999999999 ∨ 9999999999 < n then ([], 6) else if n = 0 then ([80, 48, 77], 0) else ((if n < 0 then [45, 80] else [80]) ++ bodyM n.natAbs, 0)
theorem partT_ba (n c : ByteArray) (x : UInt8) (hc : c.data.toList = [x]) : (if n.data.toList = [48] then (⟨#[]⟩ : ByteArray) else n ++ c).data.toList = partT n.data.toList x := by
  unfold partT
  split
  · rfl
  · rw [ByteArray.data_append, Array.toList_append, hc]
set_option maxRecDepth 100000 in
set_option maxHeartbeats 4000000 in
theorem textMonths_du (n : Int) (hn1 : -9223372036854775808 ≤ n) (hn2 : n ≤ 9223372036854775807) (w : World) (hg : GrN w) :
    Calls Tryz.prog 14 #[.int .i64 n] w fun e w' => e = .returned (resV (textM n)) ∧ Below w.heap.size w w' := by
  by_cases h1 : n < -9999999999
  · have HV := Lib.hid (show textM n = ([], 6) by unfold textM; rw [if_pos (.inl h1)])
    rw [HV.out]
    clear hg
    go_enter Tryz.func14, Tryz.ntmps14
    go_wp2_with fail
    go_ret2
    exact ⟨rfl, Below.refl _ _⟩
  by_cases h2 : 9999999999 < n
  · have HV := Lib.hid (show textM n = ([], 6) by unfold textM; rw [if_pos (.inr h2)])
    rw [HV.out]
    clear hg
    go_enter Tryz.func14, Tryz.ntmps14
    go_wp2_with fail
    go_ret2
    exact ⟨rfl, Below.refl _ _⟩
  by_cases h0 : n = 0
  · subst h0
    have HV := Lib.hid (show textM 0 = ([80, 48, 77], 0) by rfl)
    rw [HV.out]
    clear hg
    go_enter Tryz.func14, Tryz.ntmps14
    go_wp2_with fail
    go_ret2
    exact ⟨rfl, Below.refl _ _⟩
  obtain ⟨N, hN⟩ : ∃ N, n.natAbs = N := ⟨_, rfl⟩
  have HV := Lib.hid (show textM n = ((if n < 0 then [45, 80] else [80]) ++ bodyM N, 0) by unfold textM; rw [if_neg (by omega), if_neg h0, hN])
  have hN9 : N ≤ 9999999999 := by omega
  obtain ⟨q, hq⟩ : ∃ q, N / 12 = q := ⟨_, rfl⟩
  obtain ⟨r, hr⟩ : ∃ q, N % 12 = q := ⟨_, rfl⟩
  have cQ := fun W (hW : Below w.heap.size w W) => itoa_any q (by omega) W (hg.later hW)
  have cR := fun W (hW : Below w.heap.size w W) => itoa_any r (by omega) W (hg.later hW)
  have ei : ∀ k : Nat, Lib.itoa (k : Int) = Lib.decDigits k := fun k => by unfold Lib.itoa; rw [if_neg (by omega)]; rfl
  rw [ei] at cQ cR
  obtain ⟨Q, hQ, hQl⟩ := ba_ex (Lib.decDigits q)
  obtain ⟨R, hR, hRl⟩ := ba_ex (Lib.decDigits r)
  rw [hQ] at cQ
  rw [hR] at cR
  have ql := (decDigits_fixed 9 q (by omega)).1
  have rl := (decDigits_fixed 9 r (by omega)).1
  have hQs : Q.size ≤ 10 := by rw [ba_size, hQl]; omega
  have hRs : R.size ≤ 10 := by rw [ba_size, hRl]; omega
  obtain ⟨P1, hP1⟩ : ∃ P, (if Q.data.toList = [48] then (⟨#[]⟩ : ByteArray) else Q ++ ⟨#[89]⟩) = P := ⟨_, rfl⟩
  obtain ⟨P2, hP2⟩ : ∃ P, (if R.data.toList = [48] then (⟨#[]⟩ : ByteArray) else R ++ ⟨#[77]⟩) = P := ⟨_, rfl⟩
  have d1 := partT_ba Q ⟨#[89]⟩ 89 rfl
  have d2 := partT_ba R ⟨#[77]⟩ 77 rfl
  have s1 := part_du Q ⟨#[89]⟩
  have s2 := part_du R ⟨#[77]⟩
  rw [hP1] at d1 s1
  rw [hP2] at d2 s2
  have c1 := fun W => s1 W (by omega) (by decide)
  have c2 := fun W => s2 W (by omega) (by decide)
  have hP1s : P1.size ≤ 20 := by rw [ba_size, d1]; unfold partT; split <;> simp; omega
  have hP2s : P2.size ≤ 20 := by rw [ba_size, d2]; unfold partT; split <;> simp; omega
  have HB := Lib.hid (show bodyM N = P1.data.toList ++ P2.data.toList by unfold bodyM; rw [d1, d2, hQl, hRl, hq, hr])
  clear ei hQ hQl hR hRl ql rl hP1 hP2 d1 d2 s1 s2 hg
  have hqz : (N : Int) / 12 = (q : Int) := by omega
  have hrz : (N : Int) % 12 = (r : Int) := by omega
  by_cases hneg : n < 0
  · have hnN : n = -(N : Int) := by omega
    subst hnN
    have hv := HV.out
    rw [if_pos hneg, HB.out] at hv
    obtain ⟨J, hJ⟩ : ∃ J, (⟨#[45]⟩ : ByteArray) ++ ⟨#[80]⟩ ++ P1 ++ P2 = J := ⟨_, rfl⟩
    have hJl : J.data.toList = [45, 80] ++ (P1.data.toList ++ P2.data.toList) := by rw [← hJ, ByteArray.data_append, ByteArray.data_append, ByteArray.data_append, Array.toList_append, Array.toList_append, Array.toList_append, List.append_assoc]; rfl
    have HV2 := Lib.hid (show resV (textM (-(N : Int))) = .tuple #[.string J, .int .i64 0] by rw [hv, ← hJl]; rfl)
    rw [HV2.out]
    clear hv hJl hN hq hr
    go_enter Tryz.func14, Tryz.ntmps14
    go_wp2_with fail
    refine (cQ w (Below.refl _ _)).mono ?_
    rintro e w1 ⟨rfl, b1⟩
    go_wp2_with fail
    refine (c1 w1).mono ?_
    rintro e w2 ⟨rfl, rfl⟩
    go_wp2_with fail
    have cR2 := cR w2 b1
    refine cR2.mono ?_
    rintro e w3 ⟨rfl, b3⟩
    go_wp2_with fail
    refine (c2 w3).mono ?_
    rintro e w4 ⟨rfl, rfl⟩
    go_wp2_with fail
    go_ret2
    exact ⟨by simp, b1.trans (b3.mono b1.size)⟩
  · have hnN : n = (N : Int) := by omega
    subst hnN
    have hv := HV.out
    rw [if_neg hneg, HB.out] at hv
    obtain ⟨J, hJ⟩ : ∃ J, (⟨#[]⟩ : ByteArray) ++ ⟨#[80]⟩ ++ P1 ++ P2 = J := ⟨_, rfl⟩
    have hJl : J.data.toList = [80] ++ (P1.data.toList ++ P2.data.toList) := by rw [← hJ, ByteArray.data_append, ByteArray.data_append, ByteArray.data_append, Array.toList_append, Array.toList_append, Array.toList_append, List.append_assoc]; rfl
    have HV2 := Lib.hid (show resV (textM (N : Int)) = .tuple #[.string J, .int .i64 0] by rw [hv, ← hJl]; rfl)
    rw [HV2.out]
    clear hv hJl hN hq hr
    go_enter Tryz.func14, Tryz.ntmps14
    go_wp2_with fail
    refine (cQ w (Below.refl _ _)).mono ?_
    rintro e w1 ⟨rfl, b1⟩
    go_wp2_with fail
    refine (c1 w1).mono ?_
    rintro e w2 ⟨rfl, rfl⟩
    go_wp2_with fail
    have cR2 := cR w2 b1
    refine cR2.mono ?_
    rintro e w3 ⟨rfl, b3⟩
    go_wp2_with fail
    refine (c2 w3).mono ?_
    rintro e w4 ⟨rfl, rfl⟩
    go_wp2_with fail
    go_ret2
    exact ⟨by simp, b1.trans (b3.mono b1.size)⟩
end Go.Proofs.YtdfgifnccghlmabGreatDoor
namespace Go.Proofs.YtdfgifnccghlmabGreatDoor
open Go.RowKit Go.Lib

def dayL : List UInt8 := [56, 54, 52, 48, 48]
def hourL : List UInt8 := [51, 54, 48, 48]
def minL : List UInt8 := [54, 48]
def clockL (a : List UInt8) : List UInt8 :=
  partT (idivR (modR a dayL).1 hourL).1 72 ++ partT (idivR (modR (modR a dayL).1 hourL).1 minL).1 77 ++ partT (modR (modR (modR a dayL).1 hourL).1 minL).1 83
def bodyS (a : List UInt8) : List UInt8 := [80] ++ partT (idivR a dayL).1 68 ++ (if clockL a = [] then [] else 84 :: clockL a)
/-- What TextSeconds gives. -/
def textS (n : List UInt8) : List UInt8 × Int :=
  if (negR n).2 ≠ 0 then ([], (negR n).2) else if n = [48] then ([80, 84, 48, 83], 0)
  else ((if Lib.hasPrefix n [45] = true then [45] else []) ++ bodyS (Lib.trimPrefix n [45]), 0)
theorem canonR_len {r : List UInt8 × Int} (h : CanonR r) : r.1.length ≤ 52 := by
  rcases h with ⟨_, h⟩ | ⟨_, _, h⟩
  · rw [h]; simp
  · exact h
theorem part_ex (n : ByteArray) (x : UInt8) (hn : n.size ≤ 52) : ∃ P : ByteArray, P.data.toList = partT n.data.toList x ∧ P.size ≤ 53 ∧ ∀ W, Calls Tryz.prog 33 #[.string n, .string ⟨#[x]⟩] W fun e w' => e = .returned (.string P) ∧ w' = W := by
  refine ⟨_, partT_ba n ⟨#[x]⟩ x rfl, ?_, fun W => part_du n ⟨#[x]⟩ W (by omega) (by show 1 ≤ 100000; omega)⟩
  rw [ba_size, partT_ba n ⟨#[x]⟩ x rfl]
  unfold partT
  split
  · simp
  · rw [List.length_append, ← ba_size]; simp; omega
set_option maxRecDepth 100000 in
set_option maxHeartbeats 8000000 in
theorem textSeconds_du (n : ByteArray) (hn : n.size < 4294967281) (w : World) (hg : GrN w) :
    Calls Tryz.prog 18 #[.string n] w fun e w' => e = .returned (resV (textS n.data.toList)) ∧ Below w.heap.size w w' := by
  obtain ⟨g, z, hgz⟩ := res_ex (negR n.data.toList)
  have c0 := (neg_on hg n g z hn hgz).use w (Below.refl _ _)
  by_cases hz : z = 0
  · subst hz
    have tl : n.toList = n.data.toList := ByteArray.toList_eq n
    by_cases h0 : n.data.toList = [48]
    · have HV := Lib.hid (show textS n.data.toList = ([80, 84, 48, 83], 0) by unfold textS; rw [hgz, if_neg (by simp), if_pos h0])
      rw [HV.out]
      have k1 : (n.toList == [48]) = true := by rw [tl, h0]; rfl
      clear hg hgz tl h0
      go_enter Tryz.func18, Tryz.ntmps18
      go_wp2_with fail
      refine c0.mono ?_
      rintro e w1 ⟨rfl, b1⟩
      go_wp2_with fail
      go_ret2
      exact ⟨rfl, b1⟩
    · have k1 : (n.toList == [48]) = false := by rw [tl]; exact beq_eq_false_iff_ne.2 h0
      have hv : textS n.data.toList = ((if Lib.hasPrefix n.data.toList [45] = true then [45] else []) ++ bodyS (Lib.trimPrefix n.data.toList [45]), 0) := by unfold textS; rw [hgz, if_neg (by simp), if_neg h0]
      have hns : n.size ≤ 52 := by
        cases hc : canonL n.data.toList with
        | none =>
          have := negR_none _ hc
          rw [hgz] at this
          exact absurd (show (0 : Int) = 1 from congrArg Prod.snd this) (by decide)
        | some x =>
          obtain ⟨h1, _⟩ := text_canon _ _ _ hc
          rw [ba_size]
          exact textL_len h1
      have hpl : (Lib.trimPrefix n.data.toList [45]).length ≤ n.data.toList.length := by unfold Lib.trimPrefix; split <;> simp
      have hnl := ba_size n
      have cP := fun W => Tryz.strings_CutPrefix n ⟨#[45]⟩ W
      rw [show (⟨#[45]⟩ : ByteArray).data.toList = [45] from rfl] at cP
      obtain ⟨A, hA, hAl⟩ := ba_ex (Lib.trimPrefix n.data.toList [45])
      obtain ⟨bl, hbl⟩ : ∃ b, Lib.hasPrefix n.data.toList [45] = b := ⟨_, rfl⟩
      rw [hA, hbl] at cP
      rw [hbl, ← hAl] at hv
      have hAs : A.size ≤ 52 := by rw [ba_size, hAl]; omega
      -- days, hours, minutes
      obtain ⟨q1, zq1, hq1⟩ := res_ex (idivR A.data.toList dayL)
      obtain ⟨r1, zr1, hr1⟩ := res_ex (modR A.data.toList dayL)
      obtain ⟨q2, zq2, hq2⟩ := res_ex (idivR r1.data.toList hourL)
      obtain ⟨r2, zr2, hr2⟩ := res_ex (modR r1.data.toList hourL)
      obtain ⟨q3, zq3, hq3⟩ := res_ex (idivR r2.data.toList minL)
      obtain ⟨r3, zr3, hr3⟩ := res_ex (modR r2.data.toList minL)
      have s1 : r1.size ≤ 52 := canonR_size (z := zr1) (by rw [← hr1]; exact modR_canonR _ _)
      have s2 : r2.size ≤ 52 := canonR_size (z := zr2) (by rw [← hr2]; exact modR_canonR _ _)
      have s3 : r3.size ≤ 52 := canonR_size (z := zr3) (by rw [← hr3]; exact modR_canonR _ _)
      have t1 : q1.size ≤ 52 := canonR_size (z := zq1) (by rw [← hq1]; exact idivR_canonR _ _)
      have t2 : q2.size ≤ 52 := canonR_size (z := zq2) (by rw [← hq2]; exact idivR_canonR _ _)
      have t3 : q3.size ≤ 52 := canonR_size (z := zq3) (by rw [← hq3]; exact idivR_canonR _ _)
      have c1 := fun W (hW : Below w.heap.size w W) => split_du A ⟨#[56, 54, 52, 48, 48]⟩ q1 r1 zq1 zr1 (by omega) (by decide) hq1 hr1 W (hg.later hW)
      have c2 := fun W (hW : Below w.heap.size w W) => split_du r1 ⟨#[51, 54, 48, 48]⟩ q2 r2 zq2 zr2 (by omega) (by decide) hq2 hr2 W (hg.later hW)
      have c3 := fun W (hW : Below w.heap.size w W) => split_du r2 ⟨#[54, 48]⟩ q3 r3 zq3 zr3 (by omega) (by decide) hq3 hr3 W (hg.later hW)
      obtain ⟨P1, hP1, u1, d1⟩ := part_ex q1 68 t1
      obtain ⟨P2, hP2, u2, d2⟩ := part_ex q2 72 t2
      obtain ⟨P3, hP3, u3, d3⟩ := part_ex q3 77 t3
      obtain ⟨P4, hP4, u4, d4⟩ := part_ex r3 83 s3
      obtain ⟨J1, hJ1⟩ : ∃ J, (⟨#[80]⟩ : ByteArray) ++ P1 = J := ⟨_, rfl⟩
      obtain ⟨K1, hK1⟩ : ∃ J, P2 ++ P3 = J := ⟨_, rfl⟩
      obtain ⟨K2, hK2⟩ : ∃ J, K1 ++ P4 = J := ⟨_, rfl⟩
      have ap : ∀ x y : ByteArray, (x ++ y).data.toList = x.data.toList ++ y.data.toList := fun x y => by rw [ByteArray.data_append, Array.toList_append]
      have asz : ∀ x y : ByteArray, (x ++ y).size = x.size + y.size := fun x y => by rw [ba_size, ap, List.length_append, ← ba_size, ← ba_size]
      have v1 : J1.size ≤ 54 := by rw [← hJ1, asz]; have : (⟨#[80]⟩ : ByteArray).size = 1 := rfl; omega
      have v2 : K1.size ≤ 106 := by rw [← hK1, asz]; omega
      have v3 : K2.size ≤ 159 := by rw [← hK2, asz]; omega
      have hcl : clockL A.data.toList = K2.data.toList := by
        rw [← hK2, ← hK1, ap, ap, hP2, hP3, hP4]
        unfold clockL
        simp only [hr1, hr2, hr3, hq2, hq3]
      have hbd : bodyS A.data.toList = J1.data.toList ++ (if K2.data.toList = [] then [] else 84 :: K2.data.toList) := by
        unfold bodyS
        rw [hcl, ← hJ1, ap, hP1]
        simp only [hq1]
      rw [hbd] at hv
      have tk : K2.toList = K2.data.toList := ByteArray.toList_eq K2
      have HAP := Lib.hid asz
      clear hg hgz tl h0 hns hpl hnl hA hAl hbl hAs hq1 hr1 hq2 hr2 hq3 hr3 s1 s2 s3 t1 t2 t3 hP1 hP2 hP3 hP4 ap asz hcl hbd
      cases bl with
      | true =>
        by_cases hke : K2.data.toList = []
        · -- below: true, no clock: true
          have kk : (K2.toList == []) = true := by rw [tk]; rw [hke]; rfl
          have kk2 : K2.toList.isEmpty = true := by rw [tk]; rw [hke]; rfl
          obtain ⟨L3, hL3⟩ : ∃ J, (⟨#[45]⟩ : ByteArray) ++ J1 = J := ⟨_, rfl⟩
          have HV := Lib.hid (show textS n.data.toList = (L3.data.toList, 0) by
            rw [hv]
            congr 1
            simp [hke, ← hL3])
          rw [HV.out]
          clear hv hke HAP HV tk
          go_enter Tryz.func18, Tryz.ntmps18
          go_wp2_with fail
          refine c0.mono ?_
          rintro e w1 ⟨rfl, b1⟩
          go_wp2_with fail
          refine (cP w1).mono ?_
          rintro e w2 ⟨rfl, rfl⟩
          have f1 := c1 w2 b1
          go_wp2_with fail
          refine f1.mono ?_
          rintro e w3 ⟨rfl, e1⟩
          have b3 := b1.trans (e1.mono b1.size)
          have f2 := c2 w3 b3
          go_wp2_with fail
          refine f2.mono ?_
          rintro e w4 ⟨rfl, e2⟩
          have b4 := b3.trans (e2.mono b3.size)
          have f3 := c3 w4 b4
          go_wp2_with fail
          refine f3.mono ?_
          rintro e w5 ⟨rfl, e3⟩
          have b5 := b4.trans (e3.mono b4.size)
          clear f1 f2 f3 c1 c2 c3 e1 e2 e3 b1 b3 b4
          go_wp2_with fail
          refine (d1 w5).mono ?_
          rintro e w6 ⟨rfl, rfl⟩
          go_wp2_with fail
          refine (d2 w6).mono ?_
          rintro e w7 ⟨rfl, rfl⟩
          go_wp2_with fail
          refine (d3 w7).mono ?_
          rintro e w8 ⟨rfl, rfl⟩
          go_wp2_with fail
          refine (d4 w8).mono ?_
          rintro e w9 ⟨rfl, rfl⟩
          go_wp2_with fail
          go_ret2
          exact ⟨by first | rfl | simp, b5⟩
        · -- below: true, no clock: false
          have kk : (K2.toList == []) = false := by rw [tk]; exact beq_eq_false_iff_ne.2 hke
          have kk2 : K2.toList.isEmpty = false := by rw [tk]; simpa using hke
          obtain ⟨L1, hL1⟩ : ∃ J, (⟨#[84]⟩ : ByteArray) ++ K2 = J := ⟨_, rfl⟩
          obtain ⟨L2, hL2⟩ : ∃ J, J1 ++ L1 = J := ⟨_, rfl⟩
          have v5 : L1.size ≤ 160 := by rw [← hL1, HAP.out]; have : (⟨#[84]⟩ : ByteArray).size = 1 := rfl; omega
          have v6 : L2.size ≤ 214 := by rw [← hL2, HAP.out]; omega
          obtain ⟨L3, hL3⟩ : ∃ J, (⟨#[45]⟩ : ByteArray) ++ L2 = J := ⟨_, rfl⟩
          have HV := Lib.hid (show textS n.data.toList = (L3.data.toList, 0) by
            rw [hv]
            congr 1
            simp [hke, ← hL3, ← hL2, ← hL1])
          rw [HV.out]
          clear hv hke HAP HV tk
          go_enter Tryz.func18, Tryz.ntmps18
          go_wp2_with fail
          refine c0.mono ?_
          rintro e w1 ⟨rfl, b1⟩
          go_wp2_with fail
          refine (cP w1).mono ?_
          rintro e w2 ⟨rfl, rfl⟩
          have f1 := c1 w2 b1
          go_wp2_with fail
          refine f1.mono ?_
          rintro e w3 ⟨rfl, e1⟩
          have b3 := b1.trans (e1.mono b1.size)
          have f2 := c2 w3 b3
          go_wp2_with fail
          refine f2.mono ?_
          rintro e w4 ⟨rfl, e2⟩
          have b4 := b3.trans (e2.mono b3.size)
          have f3 := c3 w4 b4
          go_wp2_with fail
          refine f3.mono ?_
          rintro e w5 ⟨rfl, e3⟩
          have b5 := b4.trans (e3.mono b4.size)
          clear f1 f2 f3 c1 c2 c3 e1 e2 e3 b1 b3 b4
          go_wp2_with fail
          refine (d1 w5).mono ?_
          rintro e w6 ⟨rfl, rfl⟩
          go_wp2_with fail
          refine (d2 w6).mono ?_
          rintro e w7 ⟨rfl, rfl⟩
          go_wp2_with fail
          refine (d3 w7).mono ?_
          rintro e w8 ⟨rfl, rfl⟩
          go_wp2_with fail
          refine (d4 w8).mono ?_
          rintro e w9 ⟨rfl, rfl⟩
          go_wp2_with fail
          go_ret2
          exact ⟨by first | rfl | simp, b5⟩
      | false =>
        by_cases hke : K2.data.toList = []
        · -- below: false, no clock: true
          have kk : (K2.toList == []) = true := by rw [tk]; rw [hke]; rfl
          have kk2 : K2.toList.isEmpty = true := by rw [tk]; rw [hke]; rfl
          have HV := Lib.hid (show textS n.data.toList = (J1.data.toList, 0) by
            rw [hv]
            congr 1
            simp [hke])
          rw [HV.out]
          clear hv hke HAP HV tk
          go_enter Tryz.func18, Tryz.ntmps18
          go_wp2_with fail
          refine c0.mono ?_
          rintro e w1 ⟨rfl, b1⟩
          go_wp2_with fail
          refine (cP w1).mono ?_
          rintro e w2 ⟨rfl, rfl⟩
          have f1 := c1 w2 b1
          go_wp2_with fail
          refine f1.mono ?_
          rintro e w3 ⟨rfl, e1⟩
          have b3 := b1.trans (e1.mono b1.size)
          have f2 := c2 w3 b3
          go_wp2_with fail
          refine f2.mono ?_
          rintro e w4 ⟨rfl, e2⟩
          have b4 := b3.trans (e2.mono b3.size)
          have f3 := c3 w4 b4
          go_wp2_with fail
          refine f3.mono ?_
          rintro e w5 ⟨rfl, e3⟩
          have b5 := b4.trans (e3.mono b4.size)
          clear f1 f2 f3 c1 c2 c3 e1 e2 e3 b1 b3 b4
          go_wp2_with fail
          refine (d1 w5).mono ?_
          rintro e w6 ⟨rfl, rfl⟩
          go_wp2_with fail
          refine (d2 w6).mono ?_
          rintro e w7 ⟨rfl, rfl⟩
          go_wp2_with fail
          refine (d3 w7).mono ?_
          rintro e w8 ⟨rfl, rfl⟩
          go_wp2_with fail
          refine (d4 w8).mono ?_
          rintro e w9 ⟨rfl, rfl⟩
          go_wp2_with fail
          go_ret2
          exact ⟨by first | rfl | simp, b5⟩
        · -- below: false, no clock: false
          have kk : (K2.toList == []) = false := by rw [tk]; exact beq_eq_false_iff_ne.2 hke
          have kk2 : K2.toList.isEmpty = false := by rw [tk]; simpa using hke
          obtain ⟨L1, hL1⟩ : ∃ J, (⟨#[84]⟩ : ByteArray) ++ K2 = J := ⟨_, rfl⟩
          obtain ⟨L2, hL2⟩ : ∃ J, J1 ++ L1 = J := ⟨_, rfl⟩
          have v5 : L1.size ≤ 160 := by rw [← hL1, HAP.out]; have : (⟨#[84]⟩ : ByteArray).size = 1 := rfl; omega
          have v6 : L2.size ≤ 214 := by rw [← hL2, HAP.out]; omega
          have HV := Lib.hid (show textS n.data.toList = (L2.data.toList, 0) by
            rw [hv]
            congr 1
            simp [hke, ← hL2, ← hL1])
          rw [HV.out]
          clear hv hke HAP HV tk
          go_enter Tryz.func18, Tryz.ntmps18
          go_wp2_with fail
          refine c0.mono ?_
          rintro e w1 ⟨rfl, b1⟩
          go_wp2_with fail
          refine (cP w1).mono ?_
          rintro e w2 ⟨rfl, rfl⟩
          have f1 := c1 w2 b1
          go_wp2_with fail
          refine f1.mono ?_
          rintro e w3 ⟨rfl, e1⟩
          have b3 := b1.trans (e1.mono b1.size)
          have f2 := c2 w3 b3
          go_wp2_with fail
          refine f2.mono ?_
          rintro e w4 ⟨rfl, e2⟩
          have b4 := b3.trans (e2.mono b3.size)
          have f3 := c3 w4 b4
          go_wp2_with fail
          refine f3.mono ?_
          rintro e w5 ⟨rfl, e3⟩
          have b5 := b4.trans (e3.mono b4.size)
          clear f1 f2 f3 c1 c2 c3 e1 e2 e3 b1 b3 b4
          go_wp2_with fail
          refine (d1 w5).mono ?_
          rintro e w6 ⟨rfl, rfl⟩
          go_wp2_with fail
          refine (d2 w6).mono ?_
          rintro e w7 ⟨rfl, rfl⟩
          go_wp2_with fail
          refine (d3 w7).mono ?_
          rintro e w8 ⟨rfl, rfl⟩
          go_wp2_with fail
          refine (d4 w8).mono ?_
          rintro e w9 ⟨rfl, rfl⟩
          go_wp2_with fail
          go_ret2
          exact ⟨by first | rfl | simp, b5⟩
  · have HV := Lib.hid (show textS n.data.toList = ([], z) by unfold textS; rw [hgz, if_pos hz])
    rw [HV.out]
    have hzb : (z == 0) = false := beq_eq_false_iff_ne.2 hz
    have hzc : (z != 0) = true := by simp [hz]
    clear hg hgz hz
    go_enter Tryz.func18, Tryz.ntmps18
    go_wp2_with fail
    refine c0.mono ?_
    rintro e w1 ⟨rfl, b1⟩
    go_wp2_with fail
    go_ret2
    exact ⟨rfl, b1⟩
end Go.Proofs.YtdfgifnccghlmabGreatDoor

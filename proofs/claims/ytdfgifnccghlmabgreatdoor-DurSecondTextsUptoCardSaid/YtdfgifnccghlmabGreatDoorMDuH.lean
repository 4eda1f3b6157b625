/- Durations: the contract of the specification's Canonical. Durations: the contracts of the specification's decimal, TextMonths, TextSeconds. -/
import Derived.Test.YtdfgifnccghlmabGreatDoorMDuD
import Derived.Test.YtdfgifnccghlmabGreatDoorMRfG
import Derived.Test.YtdfgifnccghlmabGreatDoorMRfF
import Derived.Test.YtdfgifnccghlmabGreatDoorMDuF
import Derived.Test.YtdfgifnccghlmabGreatDoorMRfOps2
namespace Go.Proofs.YtdfgifnccghlmabGreatDoor
open Go.RowKit Go.Lib

set_option maxRecDepth 100000 in
set_option maxHeartbeats 4000000 in
theorem canonical6_on (w : World) (n : ByteArray) (c : Bool) (hc : (canonL n.data.toList).isSome = c) : On w 20 #[.string n] (.bool c) := by
  obtain ⟨r, z, hr⟩ := res_ex (readR n.data.toList)
  have e0 := fun W => R.parse_any n W
  simp only [resV_on hr] at e0
  by_cases hz : z = 0
  · subst hz
    have hb : (r.toList == n.toList) = c := by
      rw [ByteArray.toList_eq r, ByteArray.toList_eq n, ← hc]
      cases h : canonL n.data.toList with
      | some x =>
        have := (canon_iff_read _).2 ⟨x.1, x.2, h⟩
        rw [hr] at this
        have e : r.data.toList = n.data.toList := congrArg Prod.fst this
        rw [e]
        simp
      | none =>
        refine beq_eq_false_iff_ne.2 fun q => ?_
        rw [q] at hr
        obtain ⟨b, k, hk⟩ := (canon_iff_read _).1 hr
        rw [h] at hk
        cases hk
    clear hr hc
    refine R.onR fun W => ?_
    go_enter Tryz.func20, Tryz.ntmps20
    go_wp2_with fail
    refine (e0 W).mono ?_
    rintro e w1 ⟨rfl, b1⟩
    go_wp2_with fail
    go_ret
    exact ⟨rfl, b1⟩
  · have hzb : (z == 0) = false := beq_eq_false_iff_ne.2 hz
    have hcf : c = false := by
      rw [← hc]
      cases h : canonL n.data.toList with
      | some x =>
        have := (canon_iff_read _).2 ⟨x.1, x.2, h⟩
        rw [hr] at this
        exact absurd (congrArg Prod.snd this) hz
      | none => rfl
    subst hcf
    clear hr hc hz
    refine R.onR fun W => ?_
    go_enter Tryz.func20, Tryz.ntmps20
    go_wp2_with fail
    refine (e0 W).mono ?_
    rintro e w1 ⟨rfl, b1⟩
    go_wp2_with fail
    go_ret
    exact ⟨rfl, b1⟩
end Go.Proofs.YtdfgifnccghlmabGreatDoor
namespace Go.Proofs.YtdfgifnccghlmabGreatDoor
open Go.RowKit Go.Lib

theorem dig_slice : ∀ d : Fin 10, (⟨#[48, 49, 50, 51, 52, 53, 54, 55, 56, 57]⟩ : ByteArray).extract d.val (d.val + 1) = ⟨(Lib.decDigits d.val).toArray⟩ := by decide +kernel
theorem decD_size {n : Nat} (h : n < 1000000000000) {R : ByteArray} (hR : R.data.toList = Lib.decDigits n) : R.size ≤ 20 := by
  rw [ba_size, hR]
  exact decD_len n (Nat.lt_of_lt_of_le h (by decide : 1000000000000 ≤ 10 ^ 20))
set_option maxRecDepth 100000 in
set_option maxHeartbeats 2000000 in
theorem decimal6 (n : Nat) (hn : n < 1000000000000) (R : ByteArray) (hR : R.data.toList = Lib.decDigits n) (w : World) :
    Calls Tryz.prog 34 #[.int .i64 (n : Int)] w fun e w' => e = .returned (.string R) ∧ w' = w := by
  induction n using Nat.strongRecOn generalizing R w with
  | _ n ih =>
  by_cases h : n < 10
  · have hs := dig_slice ⟨n, h⟩
    simp only at hs
    have hsR : (⟨#[48, 49, 50, 51, 52, 53, 54, 55, 56, 57]⟩ : ByteArray).extract n (n + 1) = R := by rw [hs]; exact ba_same (s := R) (r := ⟨(Lib.decDigits n).toArray⟩) hR
    have hz : (n : Int) < 10 := by omega
    clear ih hs hR
    go_enter Tryz.func34, Tryz.ntmps34
    go_wp2_with fail
    go_ret
    exact ⟨rfl, rfl⟩
  · have hz : ¬ (n : Int) < 10 := by omega
    obtain ⟨A, hA, hAl⟩ := ba_ex (Lib.decDigits (n / 10))
    obtain ⟨B, hB, hBl⟩ := ba_ex (Lib.decDigits (n % 10))
    have hRe : R = A ++ B := by
      refine ba_same ?_
      rw [ByteArray.data_append, Array.toList_append, hAl, hBl, hR]
      conv => rhs; rw [Lib.decDigits, dif_neg h]
      have e : Lib.decDigits (n % 10) = [UInt8.ofNat (48 + n % 10)] := by rw [Lib.decDigits, dif_pos (by omega)]
      rw [e]
    subst hRe
    have c1 := ih (n / 10) (by omega) (by omega) A hAl
    have c2 := ih (n % 10) (by omega) (by omega) B hBl
    simp only [Int.natCast_ediv, Int.natCast_emod, Int.cast_ofNat_Int] at c1 c2
    have h0 : (0 : Int) ≤ (n : Int) := by omega
    have h1 : (n : Int) < 1000000000000 := by omega
    have sA := decD_size (by omega) hAl
    have sB := decD_size (by omega) hBl
    clear ih hA hB hAl hBl hR
    go_enter Tryz.func34, Tryz.ntmps34
    go_wp2_with fail
    refine (c1 w).mono ?_
    rintro e w1 ⟨rfl, rfl⟩
    go_wp2_with fail
    refine (c2 _).mono ?_
    rintro e w1 ⟨rfl, rfl⟩
    go_wp2_with fail
    go_ret
    exact ⟨rfl, rfl⟩
/-- A part of a text: nothing where its number is 0. -/
def pc (b : Bool) (n : List UInt8) (c : UInt8) : List UInt8 := if b = true then [] else n ++ [c]
theorem partT_pc {n : List UInt8} {c : UInt8} {b : Bool} (h : (n == [48]) = b) : partT n c = pc b n c := by
  unfold partT pc
  subst h
  by_cases k : n = [48]
  · rw [if_pos k, if_pos (by simp [k])]
  · rw [if_neg k, if_neg (by simp [k])]
set_option maxRecDepth 100000 in
set_option maxHeartbeats 4000000 in
theorem textMonths6 (n : Int) (hn1 : -9223372036854775808 ≤ n) (hn2 : n ≤ 9223372036854775807) (w : World) :
    Calls Tryz.prog 15 #[.int .i64 n] w fun e w' => e = .returned (resV (textM n)) ∧ w' = w := by
  by_cases h1 : n < -9999999999
  · have HV := Lib.hid (show textM n = ([], 6) by unfold textM; rw [if_pos (.inl h1)])
    rw [HV.out]
    go_enter Tryz.func15, Tryz.ntmps15
    go_wp2_with fail
    go_ret2
    exact ⟨rfl, rfl⟩
  by_cases h2 : 9999999999 < n
  · have HV := Lib.hid (show textM n = ([], 6) by unfold textM; rw [if_pos (.inr h2)])
    rw [HV.out]
    go_enter Tryz.func15, Tryz.ntmps15
    go_wp2_with fail
    go_ret2
    exact ⟨rfl, rfl⟩
  by_cases h0 : n = 0
  · subst h0
    have HV := Lib.hid (show textM 0 = ([80, 48, 77], 0) by rfl)
    rw [HV.out]
    go_enter Tryz.func15, Tryz.ntmps15
    go_wp2_with fail
    go_ret2
    exact ⟨rfl, rfl⟩
  obtain ⟨N, hN⟩ : ∃ N : Nat, n.natAbs = N := ⟨_, rfl⟩
  have HV := Lib.hid (show textM n = ((if n < 0 then [45, 80] else [80]) ++ bodyM N, 0) by unfold textM; rw [if_neg (by omega), if_neg h0, hN])
  have hN9 : N ≤ 9999999999 := by omega
  have hN1 : N ≠ 0 := by omega
  obtain ⟨Y, hY, hYl⟩ := ba_ex (Lib.decDigits (N / 12))
  obtain ⟨M, hM, hMl⟩ := ba_ex (Lib.decDigits (N % 12))
  have cY := decimal6 (N / 12) (by omega) Y hYl
  have cM := decimal6 (N % 12) (by omega) M hMl
  simp only [Int.natCast_ediv, Int.natCast_emod, Int.cast_ofNat_Int] at cY cM
  have eY : partT (Lib.decDigits (N / 12)) 89 = pc (decide (N < 12)) Y.data.toList 89 := by
    rw [hYl]
    refine partT_pc ?_
    by_cases k : N < 12
    · rw [decide_eq_true k, show N / 12 = 0 by omega, zeroD]; simp
    · rw [decide_eq_false k]; exact beq_eq_false_iff_ne.2 (fun q => by have := (decD_zero _).1 q; omega)
  have eM : partT (Lib.decDigits (N % 12)) 77 = pc (decide (N % 12 = 0)) M.data.toList 77 := by
    rw [hMl]
    refine partT_pc ?_
    by_cases k : N % 12 = 0
    · rw [decide_eq_true k, k, zeroD]; simp
    · rw [decide_eq_false k]; exact beq_eq_false_iff_ne.2 (fun q => by have := (decD_zero _).1 q; omega)
  have hB : bodyM N = pc (decide (N < 12)) Y.data.toList 89 ++ pc (decide (N % 12 = 0)) M.data.toList 77 := by unfold bodyM; rw [eY, eM]
  have HB := Lib.hid hB
  have HN := Lib.hid hN
  have z9 : (N : Int) ≤ 9999999999 := by omega
  have z1 : (0 : Int) ≤ (N : Int) := by omega
  have sY := decD_size (by omega) hYl
  have sM := decD_size (by omega) hMl
  clear hY hM hYl hMl eY eM hB
  by_cases hneg : n < 0
  · obtain rfl : n = -(N : Int) := by omega
    have HNEG := Lib.hid hneg
    clear hneg hN h0 h1 h2 hn1 hn2
    have zneg : -(N : Int) < 0 := by omega
    have zne : (-(N : Int) == 0) = false := beq_eq_false_iff_ne.2 (by omega)
    by_cases hy : N < 12
    · have hyz : ¬ (12 : Int) ≤ (N : Int) := by omega
      by_cases hm : N % 12 = 0
      · omega
      · have hmz : (0 : Int) < (N : Int) % 12 := by omega
        go_enter Tryz.func15, Tryz.ntmps15
        go_wp2_with fail
        refine (cM _).mono ?_
        rintro e w1 ⟨rfl, rfl⟩
        go_wp2_with fail
        go_ret2
        exact ⟨congrArg Ending.returned (resV_on (HV.out.trans (Prod.ext (by rw [HB.out, if_pos HNEG.out]; simp [pc, hy, hm, ByteArray.data_append, Array.toList_append]) rfl))).symm, rfl⟩
    · have hyz : (12 : Int) ≤ (N : Int) := by omega
      by_cases hm : N % 12 = 0
      · have hmz : ¬ (0 : Int) < (N : Int) % 12 := by omega
        go_enter Tryz.func15, Tryz.ntmps15
        go_wp2_with fail
        refine (cY _).mono ?_
        rintro e w1 ⟨rfl, rfl⟩
        go_wp2_with fail
        go_ret2
        exact ⟨congrArg Ending.returned (resV_on (HV.out.trans (Prod.ext (by rw [HB.out, if_pos HNEG.out]; simp [pc, hy, hm, ByteArray.data_append, Array.toList_append]) rfl))).symm, rfl⟩
      · have hmz : (0 : Int) < (N : Int) % 12 := by omega
        go_enter Tryz.func15, Tryz.ntmps15
        go_wp2_with fail
        refine (cY _).mono ?_
        rintro e w1 ⟨rfl, rfl⟩
        go_wp2_with fail
        refine (cM _).mono ?_
        rintro e w1 ⟨rfl, rfl⟩
        go_wp2_with fail
        go_ret2
        exact ⟨congrArg Ending.returned (resV_on (HV.out.trans (Prod.ext (by rw [HB.out, if_pos HNEG.out]; simp [pc, hy, hm, ByteArray.data_append, Array.toList_append]) rfl))).symm, rfl⟩
  · obtain rfl : n = (N : Int) := by omega
    have HNEG := Lib.hid hneg
    clear hneg hN h0 h1 h2 hn1 hn2
    have zneg : ¬ (N : Int) < 0 := by omega
    have zne : ((N : Int) == 0) = false := beq_eq_false_iff_ne.2 (by omega)
    by_cases hy : N < 12
    · have hyz : ¬ (12 : Int) ≤ (N : Int) := by omega
      by_cases hm : N % 12 = 0
      · omega
      · have hmz : (0 : Int) < (N : Int) % 12 := by omega
        go_enter Tryz.func15, Tryz.ntmps15
        go_wp2_with fail
        refine (cM _).mono ?_
        rintro e w1 ⟨rfl, rfl⟩
        go_wp2_with fail
        go_ret2
        exact ⟨congrArg Ending.returned (resV_on (HV.out.trans (Prod.ext (by rw [HB.out, if_neg (Int.not_lt.2 HNEG.out)]; simp [pc, hy, hm, ByteArray.data_append, Array.toList_append]) rfl))).symm, rfl⟩
    · have hyz : (12 : Int) ≤ (N : Int) := by omega
      by_cases hm : N % 12 = 0
      · have hmz : ¬ (0 : Int) < (N : Int) % 12 := by omega
        go_enter Tryz.func15, Tryz.ntmps15
        go_wp2_with fail
        refine (cY _).mono ?_
        rintro e w1 ⟨rfl, rfl⟩
        go_wp2_with fail
        go_ret2
        exact ⟨congrArg Ending.returned (resV_on (HV.out.trans (Prod.ext (by rw [HB.out, if_neg (Int.not_lt.2 HNEG.out)]; simp [pc, hy, hm, ByteArray.data_append, Array.toList_append]) rfl))).symm, rfl⟩
      · have hmz : (0 : Int) < (N : Int) % 12 := by omega
        go_enter Tryz.func15, Tryz.ntmps15
        go_wp2_with fail
        refine (cY _).mono ?_
        rintro e w1 ⟨rfl, rfl⟩
        go_wp2_with fail
        refine (cM _).mono ?_
        rintro e w1 ⟨rfl, rfl⟩
        go_wp2_with fail
        go_ret2
        exact ⟨congrArg Ending.returned (resV_on (HV.out.trans (Prod.ext (by rw [HB.out, if_neg (Int.not_lt.2 HNEG.out)]; simp [pc, hy, hm, ByteArray.data_append, Array.toList_append]) rfl))).symm, rfl⟩
end Go.Proofs.YtdfgifnccghlmabGreatDoor

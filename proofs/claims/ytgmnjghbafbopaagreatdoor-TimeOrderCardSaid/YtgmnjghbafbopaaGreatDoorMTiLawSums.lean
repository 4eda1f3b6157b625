/- The law TimeSums: it answers true. -/
import Derived.Test.YtgmnjghbafbopaaGreatDoorMTiLawZones
namespace Go.Proofs.YtgmnjghbafbopaaGreatDoor
open Go.RowKit Go.Lib

theorem toZ_abs (x : Int) (k : Nat) : toZ (decide (x < 0)) (x.natAbs * k) = x * (k : Int) := by
  unfold toZ
  by_cases h : x < 0
  · rw [decide_eq_true h, if_pos rfl, Int.natCast_mul]
    rw [show ((x.natAbs : Nat) : Int) = -x by omega, Int.neg_mul, Int.neg_neg]
  · rw [decide_eq_false h, if_neg (by decide), Int.natCast_mul, show ((x.natAbs : Nat) : Int) = x by omega]
/-- Texts of seconds are added as the seconds are. -/
theorem secT_add {x y : Int} {X C : List UInt8} (hx : secT (decide (x < 0)) x.natAbs = (X, 0)) (hc : secT (decide (y < 0)) y.natAbs = (C, 0)) : addR X C = secT (decide (x + y < 0)) (x + y).natAbs := by
  unfold secT at hx hc ⊢
  obtain ⟨p, p1, p2⟩ := resR_back hx
  obtain ⟨q, q1, q2⟩ := resR_back hc
  unfold addR
  rw [on2_some p1 q1]
  refine resR_toZ ?_
  rw [toZ_plus, p2, q2, toZ_abs, toZ_abs, toZ_abs, Int.add_mul]
theorem sum_parts {R : List UInt8} {v : Int} (hr : readR R = (R, 0)) (hm : micR R = (v, true)) : roundR R 6 evenN = secT (decide (v < 0)) v.natAbs ∧ v.natAbs < 10000000000000000000 := by
  obtain ⟨b, k, hk⟩ := canon_of_read hr
  have h1 := micR_of hk (m := divW evenW b k (10 ^ 14)) rfl
  rw [hm] at h1
  rw [round6_even hk]
  split at h1
  · rename_i hb
    simp only [Prod.mk.injEq, and_true] at h1
    obtain ⟨m, hmd⟩ : ∃ m, divW evenW b k (10 ^ 14) = m := ⟨_, rfl⟩
    rw [hmd] at h1 hb ⊢
    have hv : toZ b m = v := h1.symm
    refine ⟨?_, by omega⟩
    unfold secT
    refine resR_toZ ?_
    rw [toZ_abs, ← hv]
    unfold toZ
    split
    · rw [Int.natCast_mul, Int.neg_mul]
    · rw [Int.natCast_mul]
  · cases congrArg Prod.snd h1
theorem micR_no {R : List UInt8} {v : Int} (hr : readR R = (R, 0)) (hm : micR R = (v, false)) : v = 0 := by
  obtain ⟨b, k, hk⟩ := canon_of_read hr
  have h1 := micR_of hk (m := divW evenW b k (10 ^ 14)) rfl
  rw [hm] at h1
  split at h1
  · cases congrArg Prod.snd h1
  · exact congrArg Prod.fst h1
set_option maxRecDepth 100000 in
set_option maxHeartbeats 2000000 in
theorem sums_long (y mo d h mi : Int) (S : ByteArray) (z : Int) (has : Bool) (hl : 300 < S.size) (N : ByteArray) (w : World) (hg : GrT w) :
    Calls Tryz.prog 9 #[momV y mo d h mi S z has, .string N] w fun e w' => e = .returned (.bool true) ∧ Below w.heap.size w w' := by
  have HG := Lib.hid hg
  unfold momV
  have hb0 : Below w.heap.size w (w.alloc (.cells #[.int .i64 y, .int .i64 mo, .int .i64 d, .int .i64 h, .int .i64 mi, .string S, .int .i64 z, .bool has] 24)) := (Below.refl _ _).alloc (Nat.le_refl _) _
  have hm0 := MomAt.new w y mo d h mi S z has
  obtain ⟨W1, hW1⟩ : ∃ W, (w.alloc (.cells #[.int .i64 y, .int .i64 mo, .int .i64 d, .int .i64 h, .int .i64 mi, .string S, .int .i64 z, .bool has] 24)) = W := ⟨_, rfl⟩
  rw [hW1] at hb0 hm0
  have HW1 := Lib.hid hW1
  have M0 := Lib.hid hm0
  clear hW1 hm0
  obtain ⟨q0c0, q0c1, q0c2, q0c3, q0c4, q0c5, q0c6, q0c7, q0l⟩ := M0.out
  have hlz : (300 : Int) < (S.size : Int) := by omega
  clear hg
  go_enter Tryz.func9, Tryz.ntmps9
  go_wp2_with fail
  try rw [HW1.out]
  try go_wp2_with fail
  refine (works_ti W1 (HG.out.later hb0)).mono ?_
  rintro e w1 ⟨rfl, b1⟩
  clear q0c0 q0c1 q0c2 q0c3 q0c4 q0c5 q0c6 q0c7 q0l
  have hb2 := hb0.trans (b1.mono hb0.size)
  have M0x2 := Lib.hid (M0.out.later b1)
  go_wp2_with fail
  go_ret
  exact ⟨rfl, hb2⟩
set_option maxRecDepth 100000 in
set_option maxHeartbeats 2000000 in
theorem sums_long2 (y mo d h mi : Int) (S : ByteArray) (z : Int) (has : Bool) (hl : S.size ≤ 300) (N : ByteArray) (hN : 300 < N.size) (w : World) (hg : GrT w) :
    Calls Tryz.prog 9 #[momV y mo d h mi S z has, .string N] w fun e w' => e = .returned (.bool true) ∧ Below w.heap.size w w' := by
  have HG := Lib.hid hg
  unfold momV
  have hb0 : Below w.heap.size w (w.alloc (.cells #[.int .i64 y, .int .i64 mo, .int .i64 d, .int .i64 h, .int .i64 mi, .string S, .int .i64 z, .bool has] 24)) := (Below.refl _ _).alloc (Nat.le_refl _) _
  have hm0 := MomAt.new w y mo d h mi S z has
  obtain ⟨W1, hW1⟩ : ∃ W, (w.alloc (.cells #[.int .i64 y, .int .i64 mo, .int .i64 d, .int .i64 h, .int .i64 mi, .string S, .int .i64 z, .bool has] 24)) = W := ⟨_, rfl⟩
  rw [hW1] at hb0 hm0
  have HW1 := Lib.hid hW1
  have M0 := Lib.hid hm0
  clear hW1 hm0
  obtain ⟨q0c0, q0c1, q0c2, q0c3, q0c4, q0c5, q0c6, q0c7, q0l⟩ := M0.out
  have hlz : ¬ (300 : Int) < (S.size : Int) := by omega
  have hnz : (300 : Int) < (N.size : Int) := by omega
  clear hg
  go_enter Tryz.func9, Tryz.ntmps9
  go_wp2_with fail
  try rw [HW1.out]
  try go_wp2_with fail
  refine (works_ti W1 (HG.out.later hb0)).mono ?_
  rintro e w1 ⟨rfl, b1⟩
  clear q0c0 q0c1 q0c2 q0c3 q0c4 q0c5 q0c6 q0c7 q0l
  have hb2 := hb0.trans (b1.mono hb0.size)
  have M0x2 := Lib.hid (M0.out.later b1)
  go_wp2_with fail
  go_ret
  exact ⟨rfl, hb2⟩
set_option maxRecDepth 100000 in
set_option maxHeartbeats 2000000 in
theorem sums_bad (y mo d h mi : Int) (S : ByteArray) (z : Int) (has : Bool) (hl : S.size ≤ 300) (N : ByteArray) (hN : N.size ≤ 300) (hv : validB y mo d h mi S.data.toList z has = false) (w : World) (hg : GrT w) :
    Calls Tryz.prog 9 #[momV y mo d h mi S z has, .string N] w fun e w' => e = .returned (.bool true) ∧ Below w.heap.size w w' := by
  have HG := Lib.hid hg
  unfold momV
  have hb0 : Below w.heap.size w (w.alloc (.cells #[.int .i64 y, .int .i64 mo, .int .i64 d, .int .i64 h, .int .i64 mi, .string S, .int .i64 z, .bool has] 24)) := (Below.refl _ _).alloc (Nat.le_refl _) _
  have hm0 := MomAt.new w y mo d h mi S z has
  obtain ⟨W1, hW1⟩ : ∃ W, (w.alloc (.cells #[.int .i64 y, .int .i64 mo, .int .i64 d, .int .i64 h, .int .i64 mi, .string S, .int .i64 z, .bool has] 24)) = W := ⟨_, rfl⟩
  rw [hW1] at hb0 hm0
  have HW1 := Lib.hid hW1
  have M0 := Lib.hid hm0
  clear hW1 hm0
  obtain ⟨q0c0, q0c1, q0c2, q0c3, q0c4, q0c5, q0c6, q0c7, q0l⟩ := M0.out
  have hlz : ¬ (300 : Int) < (S.size : Int) := by omega
  have hnz : ¬ (300 : Int) < (N.size : Int) := by omega
  clear hg
  go_enter Tryz.func9, Tryz.ntmps9
  go_wp2_with fail
  try rw [HW1.out]
  try go_wp2_with fail
  refine (addSec_bad y mo d h mi S z has (by omega) hv N W1 (HG.out.later hb0)).mono ?_
  rintro e w1 ⟨rfl, b1⟩
  unfold momZ momV
  clear q0c0 q0c1 q0c2 q0c3 q0c4 q0c5 q0c6 q0c7 q0l
  have hb2 := hb0.trans (b1.mono hb0.size)
  have M0x2 := Lib.hid (M0.out.later b1)
  have bn3 : Below w1.heap.size w1 (w1.alloc (.cells #[.int .i64 0, .int .i64 0, .int .i64 0, .int .i64 0, .int .i64 0, .string ⟨#[]⟩, .int .i64 0, .bool false] 24)) := (Below.refl _ _).alloc (Nat.le_refl _) _
  have mn3 := MomAt.new w1 0 0 0 0 0 ⟨#[]⟩ 0 false
  obtain ⟨V3, hV3⟩ : ∃ W, (w1.alloc (.cells #[.int .i64 0, .int .i64 0, .int .i64 0, .int .i64 0, .int .i64 0, .string ⟨#[]⟩, .int .i64 0, .bool false] 24)) = W := ⟨_, rfl⟩
  rw [hV3] at bn3 mn3
  have HV3 := Lib.hid hV3
  have hb4 := hb2.trans (bn3.mono hb2.size)
  have M0x4 := Lib.hid (M0x2.out.later bn3)
  have MN3 := Lib.hid mn3
  clear hV3 mn3
  go_upto_region 4 with fail
  try rw [HV3.out]
  obtain ⟨q0c0, q0c1, q0c2, q0c3, q0c4, q0c5, q0c6, q0c7, q0l⟩ := M0x4.out
  obtain ⟨q1c0, q1c1, q1c2, q1c3, q1c4, q1c5, q1c6, q1c7, q1l⟩ := MN3.out
  go_wp2_with fail
  refine (works_ti V3 (HG.out.later hb4)).mono ?_
  rintro e w5 ⟨rfl, b5⟩
  clear q0c0 q0c1 q0c2 q0c3 q0c4 q0c5 q0c6 q0c7 q0l q1c0 q1c1 q1c2 q1c3 q1c4 q1c5 q1c6 q1c7 q1l
  have hb6 := hb4.trans (b5.mono hb4.size)
  have M0x6 := Lib.hid (M0x4.out.later b5)
  have M1x6 := Lib.hid (MN3.out.later b5)
  go_wp2_with fail
  go_ret
  exact ⟨rfl, hb6⟩
set_option maxRecDepth 100000 in
set_option maxHeartbeats 2000000 in
theorem sums_parse (Y M D H I mu : Nat) (S : ByteArray) (z : Int) (has : Bool) (k : MomOk Y M D H I mu S z has) (hl : S.size ≤ 300) (N : ByteArray) (hN : N.size ≤ 300) (e9 : Int) (h9 : readR N.data.toList = ([], e9)) (e0 : e9 ≠ 0) (w : World) (hg : GrT w) :
    Calls Tryz.prog 9 #[momV (Y : Int) (M : Int) (D : Int) (H : Int) (I : Int) S z has, .string N] w fun e w' => e = .returned (.bool true) ∧ Below w.heap.size w w' := by
  have HG := Lib.hid hg
  unfold momV
  have hb0 : Below w.heap.size w (w.alloc (.cells #[.int .i64 (Y : Int), .int .i64 (M : Int), .int .i64 (D : Int), .int .i64 (H : Int), .int .i64 (I : Int), .string S, .int .i64 z, .bool has] 24)) := (Below.refl _ _).alloc (Nat.le_refl _) _
  have hm0 := MomAt.new w (Y : Int) (M : Int) (D : Int) (H : Int) (I : Int) S z has
  obtain ⟨W1, hW1⟩ : ∃ W, (w.alloc (.cells #[.int .i64 (Y : Int), .int .i64 (M : Int), .int .i64 (D : Int), .int .i64 (H : Int), .int .i64 (I : Int), .string S, .int .i64 z, .bool has] 24)) = W := ⟨_, rfl⟩
  rw [hW1] at hb0 hm0
  have HW1 := Lib.hid hW1
  have M0 := Lib.hid hm0
  clear hW1 hm0
  obtain ⟨q0c0, q0c1, q0c2, q0c3, q0c4, q0c5, q0c6, q0c7, q0l⟩ := M0.out
  have hlz : ¬ (300 : Int) < (S.size : Int) := by omega
  have hnz : ¬ (300 : Int) < (N.size : Int) := by omega
  have e9b : (e9 == 0) = false := beq_eq_false_iff_ne.2 e0
  have e9n : (e9 != 0) = true := by rw [bne_iff_ne]; exact e0
  clear hg
  go_enter Tryz.func9, Tryz.ntmps9
  go_wp2_with fail
  try rw [HW1.out]
  try go_wp2_with fail
  refine (addSec_parse Y M D H I mu S z has k N (by omega) e9 h9 e0 W1 (HG.out.later hb0)).mono ?_
  rintro e w1 ⟨rfl, b1⟩
  unfold momZ momV
  clear q0c0 q0c1 q0c2 q0c3 q0c4 q0c5 q0c6 q0c7 q0l
  have hb2 := hb0.trans (b1.mono hb0.size)
  have M0x2 := Lib.hid (M0.out.later b1)
  have bn3 : Below w1.heap.size w1 (w1.alloc (.cells #[.int .i64 0, .int .i64 0, .int .i64 0, .int .i64 0, .int .i64 0, .string ⟨#[]⟩, .int .i64 0, .bool false] 24)) := (Below.refl _ _).alloc (Nat.le_refl _) _
  have mn3 := MomAt.new w1 0 0 0 0 0 ⟨#[]⟩ 0 false
  obtain ⟨V3, hV3⟩ : ∃ W, (w1.alloc (.cells #[.int .i64 0, .int .i64 0, .int .i64 0, .int .i64 0, .int .i64 0, .string ⟨#[]⟩, .int .i64 0, .bool false] 24)) = W := ⟨_, rfl⟩
  rw [hV3] at bn3 mn3
  have HV3 := Lib.hid hV3
  have hb4 := hb2.trans (bn3.mono hb2.size)
  have M0x4 := Lib.hid (M0x2.out.later bn3)
  have MN3 := Lib.hid mn3
  clear hV3 mn3
  go_upto_region 4 with fail
  try rw [HV3.out]
  obtain ⟨q0c0, q0c1, q0c2, q0c3, q0c4, q0c5, q0c6, q0c7, q0l⟩ := M0x4.out
  obtain ⟨q1c0, q1c1, q1c2, q1c3, q1c4, q1c5, q1c6, q1c7, q1l⟩ := MN3.out
  go_wp2_with fail
  refine (works_ti V3 (HG.out.later hb4)).mono ?_
  rintro e w5 ⟨rfl, b5⟩
  clear q0c0 q0c1 q0c2 q0c3 q0c4 q0c5 q0c6 q0c7 q0l q1c0 q1c1 q1c2 q1c3 q1c4 q1c5 q1c6 q1c7 q1l
  have hb6 := hb4.trans (b5.mono hb4.size)
  have M0x6 := Lib.hid (M0x4.out.later b5)
  have M1x6 := Lib.hid (MN3.out.later b5)
  go_wp2_with fail
  go_ret
  exact ⟨rfl, hb6⟩
set_option maxRecDepth 100000 in
set_option maxHeartbeats 2000000 in
theorem sums_micro (Y M D H I mu : Nat) (S : ByteArray) (z : Int) (has : Bool) (k : MomOk Y M D H I mu S z has) (hl : S.size ≤ 300) (N : ByteArray) (hN : N.size ≤ 300) (R : ByteArray) (hR : readR N.data.toList = (R.data.toList, 0)) (hm : micR R.data.toList = (0, false)) (w : World) (hg : GrT w) :
    Calls Tryz.prog 9 #[momV (Y : Int) (M : Int) (D : Int) (H : Int) (I : Int) S z has, .string N] w fun e w' => e = .returned (.bool true) ∧ Below w.heap.size w w' := by
  have HG := Lib.hid hg
  unfold momV
  have hb0 : Below w.heap.size w (w.alloc (.cells #[.int .i64 (Y : Int), .int .i64 (M : Int), .int .i64 (D : Int), .int .i64 (H : Int), .int .i64 (I : Int), .string S, .int .i64 z, .bool has] 24)) := (Below.refl _ _).alloc (Nat.le_refl _) _
  have hm0 := MomAt.new w (Y : Int) (M : Int) (D : Int) (H : Int) (I : Int) S z has
  obtain ⟨W1, hW1⟩ : ∃ W, (w.alloc (.cells #[.int .i64 (Y : Int), .int .i64 (M : Int), .int .i64 (D : Int), .int .i64 (H : Int), .int .i64 (I : Int), .string S, .int .i64 z, .bool has] 24)) = W := ⟨_, rfl⟩
  rw [hW1] at hb0 hm0
  have HW1 := Lib.hid hW1
  have M0 := Lib.hid hm0
  clear hW1 hm0
  obtain ⟨q0c0, q0c1, q0c2, q0c3, q0c4, q0c5, q0c6, q0c7, q0l⟩ := M0.out
  have hlz : ¬ (300 : Int) < (S.size : Int) := by omega
  have hnz : ¬ (300 : Int) < (N.size : Int) := by omega
  clear hg
  go_enter Tryz.func9, Tryz.ntmps9
  go_wp2_with fail
  try rw [HW1.out]
  try go_wp2_with fail
  refine (addSec_micro Y M D H I mu S z has k N (by omega) R hR hm W1 (HG.out.later hb0)).mono ?_
  rintro e w1 ⟨rfl, b1⟩
  unfold momZ momV
  clear q0c0 q0c1 q0c2 q0c3 q0c4 q0c5 q0c6 q0c7 q0l
  have hb2 := hb0.trans (b1.mono hb0.size)
  have M0x2 := Lib.hid (M0.out.later b1)
  have bn3 : Below w1.heap.size w1 (w1.alloc (.cells #[.int .i64 0, .int .i64 0, .int .i64 0, .int .i64 0, .int .i64 0, .string ⟨#[]⟩, .int .i64 0, .bool false] 24)) := (Below.refl _ _).alloc (Nat.le_refl _) _
  have mn3 := MomAt.new w1 0 0 0 0 0 ⟨#[]⟩ 0 false
  obtain ⟨V3, hV3⟩ : ∃ W, (w1.alloc (.cells #[.int .i64 0, .int .i64 0, .int .i64 0, .int .i64 0, .int .i64 0, .string ⟨#[]⟩, .int .i64 0, .bool false] 24)) = W := ⟨_, rfl⟩
  rw [hV3] at bn3 mn3
  have HV3 := Lib.hid hV3
  have hb4 := hb2.trans (bn3.mono hb2.size)
  have M0x4 := Lib.hid (M0x2.out.later bn3)
  have MN3 := Lib.hid mn3
  clear hV3 mn3
  go_upto_region 4 with fail
  try rw [HV3.out]
  obtain ⟨q0c0, q0c1, q0c2, q0c3, q0c4, q0c5, q0c6, q0c7, q0l⟩ := M0x4.out
  obtain ⟨q1c0, q1c1, q1c2, q1c3, q1c4, q1c5, q1c6, q1c7, q1l⟩ := MN3.out
  go_wp2_with fail
  refine (works_ti V3 (HG.out.later hb4)).mono ?_
  rintro e w5 ⟨rfl, b5⟩
  clear q0c0 q0c1 q0c2 q0c3 q0c4 q0c5 q0c6 q0c7 q0l q1c0 q1c1 q1c2 q1c3 q1c4 q1c5 q1c6 q1c7 q1l
  have hb6 := hb4.trans (b5.mono hb4.size)
  have M0x6 := Lib.hid (M0x4.out.later b5)
  have M1x6 := Lib.hid (MN3.out.later b5)
  go_wp2_with fail
  go_ret
  exact ⟨rfl, hb6⟩
set_option maxRecDepth 100000 in
set_option maxHeartbeats 2000000 in
theorem sums_range (Y M D H I mu : Nat) (S : ByteArray) (z : Int) (has : Bool) (k : MomOk Y M D H I mu S z has) (hl : S.size ≤ 300) (N : ByteArray) (hN : N.size ≤ 300) (R : ByteArray) (hR : readR N.data.toList = (R.data.toList, 0)) (v : Int) (hm : micR R.data.toList = (v, true)) (hn : v < -(localN Y M D H I mu : Int) ∨ 315537897600000000 - (localN Y M D H I mu : Int) ≤ v) (w : World) (hg : GrT w) :
    Calls Tryz.prog 9 #[momV (Y : Int) (M : Int) (D : Int) (H : Int) (I : Int) S z has, .string N] w fun e w' => e = .returned (.bool true) ∧ Below w.heap.size w w' := by
  have HG := Lib.hid hg
  unfold momV
  have hb0 : Below w.heap.size w (w.alloc (.cells #[.int .i64 (Y : Int), .int .i64 (M : Int), .int .i64 (D : Int), .int .i64 (H : Int), .int .i64 (I : Int), .string S, .int .i64 z, .bool has] 24)) := (Below.refl _ _).alloc (Nat.le_refl _) _
  have hm0 := MomAt.new w (Y : Int) (M : Int) (D : Int) (H : Int) (I : Int) S z has
  obtain ⟨W1, hW1⟩ : ∃ W, (w.alloc (.cells #[.int .i64 (Y : Int), .int .i64 (M : Int), .int .i64 (D : Int), .int .i64 (H : Int), .int .i64 (I : Int), .string S, .int .i64 z, .bool has] 24)) = W := ⟨_, rfl⟩
  rw [hW1] at hb0 hm0
  have HW1 := Lib.hid hW1
  have M0 := Lib.hid hm0
  clear hW1 hm0
  obtain ⟨q0c0, q0c1, q0c2, q0c3, q0c4, q0c5, q0c6, q0c7, q0l⟩ := M0.out
  have hlz : ¬ (300 : Int) < (S.size : Int) := by omega
  have hnz : ¬ (300 : Int) < (N.size : Int) := by omega
  have cN := addSec_range Y M D H I mu S z has k N (by omega) R hR v hm hn
  clear hn
  clear hg
  go_enter Tryz.func9, Tryz.ntmps9
  go_wp2_with fail
  try rw [HW1.out]
  try go_wp2_with fail
  refine (cN W1 (HG.out.later hb0)).mono ?_
  rintro e w1 ⟨rfl, b1⟩
  unfold momZ momV
  clear q0c0 q0c1 q0c2 q0c3 q0c4 q0c5 q0c6 q0c7 q0l
  have hb2 := hb0.trans (b1.mono hb0.size)
  have M0x2 := Lib.hid (M0.out.later b1)
  have bn3 : Below w1.heap.size w1 (w1.alloc (.cells #[.int .i64 0, .int .i64 0, .int .i64 0, .int .i64 0, .int .i64 0, .string ⟨#[]⟩, .int .i64 0, .bool false] 24)) := (Below.refl _ _).alloc (Nat.le_refl _) _
  have mn3 := MomAt.new w1 0 0 0 0 0 ⟨#[]⟩ 0 false
  obtain ⟨V3, hV3⟩ : ∃ W, (w1.alloc (.cells #[.int .i64 0, .int .i64 0, .int .i64 0, .int .i64 0, .int .i64 0, .string ⟨#[]⟩, .int .i64 0, .bool false] 24)) = W := ⟨_, rfl⟩
  rw [hV3] at bn3 mn3
  have HV3 := Lib.hid hV3
  have hb4 := hb2.trans (bn3.mono hb2.size)
  have M0x4 := Lib.hid (M0x2.out.later bn3)
  have MN3 := Lib.hid mn3
  clear hV3 mn3
  go_upto_region 4 with fail
  try rw [HV3.out]
  obtain ⟨q0c0, q0c1, q0c2, q0c3, q0c4, q0c5, q0c6, q0c7, q0l⟩ := M0x4.out
  obtain ⟨q1c0, q1c1, q1c2, q1c3, q1c4, q1c5, q1c6, q1c7, q1l⟩ := MN3.out
  go_wp2_with fail
  refine (works_ti V3 (HG.out.later hb4)).mono ?_
  rintro e w5 ⟨rfl, b5⟩
  clear q0c0 q0c1 q0c2 q0c3 q0c4 q0c5 q0c6 q0c7 q0l q1c0 q1c1 q1c2 q1c3 q1c4 q1c5 q1c6 q1c7 q1l
  have hb6 := hb4.trans (b5.mono hb4.size)
  have M0x6 := Lib.hid (M0x4.out.later b5)
  have M1x6 := Lib.hid (MN3.out.later b5)
  go_wp2_with fail
  go_ret
  exact ⟨rfl, hb6⟩
set_option maxRecDepth 100000 in
set_option maxHeartbeats 2000000 in
theorem sums_ok (Y M D H I mu : Nat) (S : ByteArray) (z : Int) (has : Bool) (k : MomOk Y M D H I mu S z has) (hl : S.size ≤ 300) (N : ByteArray) (hN : N.size ≤ 300) (R : ByteArray) (hR : readR N.data.toList = (R.data.toList, 0)) (v : Int) (hm : micR R.data.toList = (v, true)) (t : Nat) (hnt : v + (localN Y M D H I mu : Int) = (t : Int)) (ht : t < 315537897600000000) (w : World) (hg : GrT w) :
    Calls Tryz.prog 9 #[momV (Y : Int) (M : Int) (D : Int) (H : Int) (I : Int) S z has, .string N] w fun e w' => e = .returned (.bool true) ∧ Below w.heap.size w w' := by
  have HG := Lib.hid hg
  unfold momV
  have hb0 : Below w.heap.size w (w.alloc (.cells #[.int .i64 (Y : Int), .int .i64 (M : Int), .int .i64 (D : Int), .int .i64 (H : Int), .int .i64 (I : Int), .string S, .int .i64 z, .bool has] 24)) := (Below.refl _ _).alloc (Nat.le_refl _) _
  have hm0 := MomAt.new w (Y : Int) (M : Int) (D : Int) (H : Int) (I : Int) S z has
  obtain ⟨W1, hW1⟩ : ∃ W, (w.alloc (.cells #[.int .i64 (Y : Int), .int .i64 (M : Int), .int .i64 (D : Int), .int .i64 (H : Int), .int .i64 (I : Int), .string S, .int .i64 z, .bool has] 24)) = W := ⟨_, rfl⟩
  rw [hW1] at hb0 hm0
  have HW1 := Lib.hid hW1
  have M0 := Lib.hid hm0
  clear hW1 hm0
  obtain ⟨q0c0, q0c1, q0c2, q0c3, q0c4, q0c5, q0c6, q0c7, q0l⟩ := M0.out
  have hlz : ¬ (300 : Int) < (S.size : Int) := by omega
  have hnz : ¬ (300 : Int) < (N.size : Int) := by omega
  obtain ⟨R1, hR1, sR1⟩ := secs_of Y M D H I mu S z has k
  have cS := seconds_ok Y M D H I mu S z has k R1 hR1
  have hRs : R.size ≤ 52 := by have := readR_canonR N.data.toList; rw [hR] at this; exact canonR_size this
  have hRR : readR R.data.toList = (R.data.toList, 0) := by
    rcases readR_canonR N.data.toList with ⟨h1, _⟩ | ⟨_, h2, _⟩
    · rw [hR] at h1; exact absurd rfl h1
    · rw [hR] at h2; exact h2
  obtain ⟨hrd, hv9⟩ := sum_parts hRR hm
  obtain ⟨C, hC, sC⟩ := secs_ex v hv9
  have KK := Lib.hid k
  have cN := addSec_ok Y M D H I mu S z has k N (by omega) R hR v hm t hnt ht
  have HR := Lib.hid (And.intro hR (hrd.trans hC))
  have HC := Lib.hid (And.intro hR1 hC)
  have HT := Lib.hid hnt
  clear hR hm hnt ht hR1 hC hrd hRR hv9 k
  clear hg
  go_enter Tryz.func9, Tryz.ntmps9
  go_wp2_with fail
  try rw [HW1.out]
  try go_wp2_with fail
  refine (cN W1 (HG.out.later hb0)).mono ?_
  rintro e w1 ⟨Y', M', D', H', I', mu', S', hk', hl', rfl, b1⟩
  unfold momV
  clear q0c0 q0c1 q0c2 q0c3 q0c4 q0c5 q0c6 q0c7 q0l
  have hb2 := hb0.trans (b1.mono hb0.size)
  have M0x2 := Lib.hid (M0.out.later b1)
  clear cN
  have bn3 : Below w1.heap.size w1 (w1.alloc (.cells #[.int .i64 (Y' : Int), .int .i64 (M' : Int), .int .i64 (D' : Int), .int .i64 (H' : Int), .int .i64 (I' : Int), .string S', .int .i64 z, .bool has] 24)) := (Below.refl _ _).alloc (Nat.le_refl _) _
  have mn3 := MomAt.new w1 (Y' : Int) (M' : Int) (D' : Int) (H' : Int) (I' : Int) S' z has
  obtain ⟨V3, hV3⟩ : ∃ W, (w1.alloc (.cells #[.int .i64 (Y' : Int), .int .i64 (M' : Int), .int .i64 (D' : Int), .int .i64 (H' : Int), .int .i64 (I' : Int), .string S', .int .i64 z, .bool has] 24)) = W := ⟨_, rfl⟩
  rw [hV3] at bn3 mn3
  have HV3 := Lib.hid hV3
  have hb4 := hb2.trans (bn3.mono hb2.size)
  have M0x4 := Lib.hid (M0x2.out.later bn3)
  have MN3 := Lib.hid mn3
  clear hV3 mn3
  go_upto_region 4 with fail
  try rw [HV3.out]
  obtain ⟨q0c0, q0c1, q0c2, q0c3, q0c4, q0c5, q0c6, q0c7, q0l⟩ := M0x4.out
  go_wp2_with fail
  refine (((parse_on (HG.out.later hb4).num N R 0 (by omega) HR.out.1).use _ (Below.refl _ _))).mono ?_
  rintro e w5 ⟨rfl, b5⟩
  clear q0c0 q0c1 q0c2 q0c3 q0c4 q0c5 q0c6 q0c7 q0l
  have hb6 := hb4.trans (b5.mono hb4.size)
  have M0x6 := Lib.hid (M0x4.out.later b5)
  have M1x6 := Lib.hid (MN3.out.later b5)
  go_wp2_with fail
  refine (((round_on (HG.out.later hb6).num R ⟨#[101, 118, 101, 110]⟩ C 6 0 (by omega) HR.out.2).use _ (Below.refl _ _))).mono ?_
  rintro e w7 ⟨rfl, b7⟩
  have hb8 := hb6.trans (b7.mono hb6.size)
  have M0x8 := Lib.hid (M0x6.out.later b7)
  have M1x8 := Lib.hid (M1x6.out.later b7)
  obtain ⟨q0c0, q0c1, q0c2, q0c3, q0c4, q0c5, q0c6, q0c7, q0l⟩ := M0x8.out
  go_wp2_with fail
  refine (cS w7 (HG.out.later hb8)).mono ?_
  rintro e w9 ⟨rfl, b9⟩
  clear q0c0 q0c1 q0c2 q0c3 q0c4 q0c5 q0c6 q0c7 q0l
  have hb10 := hb8.trans (b9.mono hb8.size)
  have M0x10 := Lib.hid (M0x8.out.later b9)
  have M1x10 := Lib.hid (M1x8.out.later b9)
  clear cS
  have hse : secsZ Y' M' D' H' I' mu' z = secsZ Y M D H I mu z + v := by unfold secsZ; rw [hl']; have := HT.out; omega
  obtain ⟨R2, hR2, sR2⟩ := secs_of Y' M' D' H' I' mu' S' z has hk'
  have cS2 := seconds_ok Y' M' D' H' I' mu' S' z has hk' R2 hR2
  have hadd : addR R1.data.toList C.data.toList = (R2.data.toList, 0) := by rw [secT_add HC.out.1 HC.out.2, ← hse]; exact hR2
  have HA := Lib.hid hadd
  clear hse hR2 hadd hk' hl'
  obtain ⟨q1c0, q1c1, q1c2, q1c3, q1c4, q1c5, q1c6, q1c7, q1l⟩ := M1x10.out
  go_wp2_with fail
  refine (cS2 w9 (HG.out.later hb10)).mono ?_
  rintro e w11 ⟨rfl, b11⟩
  clear q1c0 q1c1 q1c2 q1c3 q1c4 q1c5 q1c6 q1c7 q1l
  have hb12 := hb10.trans (b11.mono hb10.size)
  have M0x12 := Lib.hid (M0x10.out.later b11)
  have M1x12 := Lib.hid (M1x10.out.later b11)
  clear cS2
  go_wp2_with fail
  refine (((add_on (HG.out.later hb12).num R1 C R2 0 (by omega) (by omega) HA.out).use _ (Below.refl _ _))).mono ?_
  rintro e w13 ⟨rfl, b13⟩
  have hb14 := hb12.trans (b13.mono hb12.size)
  have M0x14 := Lib.hid (M0x12.out.later b13)
  have M1x14 := Lib.hid (M1x12.out.later b13)
  obtain ⟨q0c0, q0c1, q0c2, q0c3, q0c4, q0c5, q0c6, q0c7, q0l⟩ := M0x14.out
  obtain ⟨q1c0, q1c1, q1c2, q1c3, q1c4, q1c5, q1c6, q1c7, q1l⟩ := M1x14.out
  go_wp2_with fail
  refine (works_ti w13 (HG.out.later hb14)).mono ?_
  rintro e w15 ⟨rfl, b15⟩
  clear q0c0 q0c1 q0c2 q0c3 q0c4 q0c5 q0c6 q0c7 q0l q1c0 q1c1 q1c2 q1c3 q1c4 q1c5 q1c6 q1c7 q1l
  have hb16 := hb14.trans (b15.mono hb14.size)
  have M0x16 := Lib.hid (M0x14.out.later b15)
  have M1x16 := Lib.hid (M1x14.out.later b15)
  go_wp2_with fail
  go_ret
  exact ⟨rfl, hb16⟩
theorem sums_law (y mo d h mi : Int) (S : ByteArray) (z : Int) (has : Bool) (N : ByteArray) (w : World) (hg : GrT w) :
    Calls Tryz.prog 9 #[momV y mo d h mi S z has, .string N] w fun e w' => e = .returned (.bool true) ∧ Below w.heap.size w w' := by
  by_cases hl : 300 < S.size
  · exact sums_long y mo d h mi S z has hl N w hg
  by_cases hN : 300 < N.size
  · exact sums_long2 y mo d h mi S z has (by omega) N hN w hg
  cases hv : validB y mo d h mi S.data.toList z has with
  | false => exact sums_bad y mo d h mi S z has (by omega) N (by omega) hv w hg
  | true =>
    obtain ⟨Y, M, D, H, I, mu, rfl, rfl, rfl, rfl, rfl, k⟩ := valid_mom hv
    obtain ⟨R, e9, hR⟩ := res_ex (readR N.data.toList)
    by_cases e0 : e9 = 0
    · subst e0
      have hRR : readR R.data.toList = (R.data.toList, 0) := by
        rcases readR_canonR N.data.toList with ⟨h1, _⟩ | ⟨_, h2, _⟩
        · rw [hR] at h1; exact absurd rfl h1
        · rw [hR] at h2; exact h2
      obtain ⟨v, ok, hm⟩ : ∃ v ok, micR R.data.toList = (v, ok) := ⟨_, _, rfl⟩
      cases ok with
      | false =>
        obtain rfl := micR_no hRR hm
        exact sums_micro Y M D H I mu S z has k (by omega) N (by omega) R hR hm w hg
      | true =>
        by_cases hn : v < -(localN Y M D H I mu : Int) ∨ 315537897600000000 - (localN Y M D H I mu : Int) ≤ v
        · exact sums_range Y M D H I mu S z has k (by omega) N (by omega) R hR v hm hn w hg
        · exact sums_ok Y M D H I mu S z has k (by omega) N (by omega) R hR v hm (v + (localN Y M D H I mu : Int)).toNat (by omega) (by omega) w hg
    · have hnil : R.data.toList = [] := by
        rcases readR_canonR N.data.toList with ⟨_, h1⟩ | ⟨h2, _⟩
        · rw [hR] at h1; exact h1
        · rw [hR] at h2; exact absurd h2 e0
      rw [hnil] at hR
      exact sums_parse Y M D H I mu S z has k (by omega) N (by omega) e9 hR e0 w hg
end Go.Proofs.YtgmnjghbafbopaaGreatDoor

/- The law TimeMonths: it answers true. -/
import Derived.Test.YtgmnjghbafbopaaGreatDoorMTiLawZones
import Derived.Deep.CutRange
import Derived.IntWalk
namespace Go.Proofs.YtgmnjghbafbopaaGreatDoor
open Go.RowKit Go.Lib

theorem min_dim_ok {Y M D : Nat} (h : DateOk Y M D) (Y' M' : Nat) (hy : 1 ≤ Y' ∧ Y' ≤ 9999) (hm : 1 ≤ M' ∧ M' ≤ 12) : DateOk Y' M' (min D (dim Y' M')) := by
  have := dim_le Y' M'
  have := h.d1
  exact ⟨hy.1, hy.2, hm.1, hm.2, by omega, by omega⟩
set_option maxRecDepth 100000 in
set_option maxHeartbeats 16000000 in
theorem months_long (y mo d h mi : Int) (S : ByteArray) (z : Int) (has : Bool) (hl : 300 < S.size) (n : Int) (w : World) (hg : GrT w) :
    Calls Tryz.prog 10 #[momV y mo d h mi S z has, .int .i64 n] w fun e w' => e = .returned (.bool true) ∧ Below w.heap.size w w' := by
  have HG := Lib.hid hg
  unfold momV
  have hb0 : Below w.heap.size w (w.alloc (.cells #[.int .i64 y, .int .i64 mo, .int .i64 d, .int .i64 h, .int .i64 mi, .string S, .int .i64 z, .bool has] 24)) := (Below.refl _ _).alloc (Nat.le_refl _) _
  have hm0 := MomAt.new w y mo d h mi S z has
  obtain ⟨W1, hW1⟩ : ∃ W, (w.alloc (.cells #[.int .i64 y, .int .i64 mo, .int .i64 d, .int .i64 h, .int .i64 mi, .string S, .int .i64 z, .bool has] 24)) = W := ⟨_, rfl⟩
  rw [hW1] at hb0 hm0
  have HW1 := Lib.hid hW1
  have M0 := Lib.hid hm0
  clear hW1 hm0
  obtain ⟨q0c0, q0c1, q0c2, q0c3, q0c4, q0c5, q0c6, q0c7, q0l⟩ := M0.out
  have hlz : (300 : Int) < (S.size : Int) := by omega
  clear hg
  go_enter Tryz.func10, Tryz.ntmps10
  go_wp2_with fail
  try rw [HW1.out]
  try go_wp2_with fail
  refine (works_ti W1 (HG.out.later hb0)).mono ?_
  rintro e w1 ⟨rfl, b1⟩
  clear q0c0 q0c1 q0c2 q0c3 q0c4 q0c5 q0c6 q0c7 q0l
  have hb2 := hb0.trans (b1.mono hb0.size)
  have M0x2 := Lib.hid (M0.out.later b1)
  go_wp2_with fail
  go_ret
  exact ⟨rfl, hb2⟩
set_option maxRecDepth 100000 in
set_option maxHeartbeats 16000000 in
theorem months_bad (y mo d h mi : Int) (S : ByteArray) (z : Int) (has : Bool) (hl : S.size ≤ 300) (hv : validB y mo d h mi S.data.toList z has = false) (n : Int) (w : World) (hg : GrT w) :
    Calls Tryz.prog 10 #[momV y mo d h mi S z has, .int .i64 n] w fun e w' => e = .returned (.bool true) ∧ Below w.heap.size w w' := by
  have HG := Lib.hid hg
  unfold momV
  have hb0 : Below w.heap.size w (w.alloc (.cells #[.int .i64 y, .int .i64 mo, .int .i64 d, .int .i64 h, .int .i64 mi, .string S, .int .i64 z, .bool has] 24)) := (Below.refl _ _).alloc (Nat.le_refl _) _
  have hm0 := MomAt.new w y mo d h mi S z has
  obtain ⟨W1, hW1⟩ : ∃ W, (w.alloc (.cells #[.int .i64 y, .int .i64 mo, .int .i64 d, .int .i64 h, .int .i64 mi, .string S, .int .i64 z, .bool has] 24)) = W := ⟨_, rfl⟩
  rw [hW1] at hb0 hm0
  have HW1 := Lib.hid hW1
  have M0 := Lib.hid hm0
  clear hW1 hm0
  obtain ⟨q0c0, q0c1, q0c2, q0c3, q0c4, q0c5, q0c6, q0c7, q0l⟩ := M0.out
  have hlz : ¬ (300 : Int) < (S.size : Int) := by omega
  clear hg
  go_enter Tryz.func10, Tryz.ntmps10
  go_wp2_with fail
  try rw [HW1.out]
  try go_wp2_with fail
  refine (addMon_bad y mo d h mi S z has (by omega) hv n W1 (HG.out.later hb0)).mono ?_
  rintro e w1 ⟨rfl, b1⟩
  unfold momZ momV
  clear q0c0 q0c1 q0c2 q0c3 q0c4 q0c5 q0c6 q0c7 q0l
  have hb2 := hb0.trans (b1.mono hb0.size)
  have M0x2 := Lib.hid (M0.out.later b1)
  have bn3 : Below w1.heap.size w1 (w1.alloc (.cells #[.int .i64 0, .int .i64 0, .int .i64 0, .int .i64 0, .int .i64 0, .string ⟨#[]⟩, .int .i64 0, .bool false] 24)) := (Below.refl _ _).alloc (Nat.le_refl _) _
  have mn3 := MomAt.new w1 0 0 0 0 0 ⟨#[]⟩ 0 false
  obtain ⟨V3, hV3⟩ : ∃ W, (w1.alloc (.cells #[.int .i64 0, .int .i64 0, .int .i64 0, .int .i64 0, .int .i64 0, .string ⟨#[]⟩, .int .i64 0, .bool false] 24)) = W := ⟨_, rfl⟩
  rw [hV3] at bn3 mn3
  have HV3 := Lib.hid hV3
  have hb4 := hb2.trans (bn3.mono hb2.size)
  have M0x4 := Lib.hid (M0x2.out.later bn3)
  have MN3 := Lib.hid mn3
  clear hV3 mn3
  go_upto_region 4 with fail
  try rw [HV3.out]
  obtain ⟨q0c0, q0c1, q0c2, q0c3, q0c4, q0c5, q0c6, q0c7, q0l⟩ := M0x4.out
  obtain ⟨q1c0, q1c1, q1c2, q1c3, q1c4, q1c5, q1c6, q1c7, q1l⟩ := MN3.out
  go_wp2_with fail
  refine (addMon_bad y mo d h mi S z has (by omega) hv 12 V3 (HG.out.later hb4)).mono ?_
  rintro e w5 ⟨rfl, b5⟩
  unfold momZ momV
  clear q0c0 q0c1 q0c2 q0c3 q0c4 q0c5 q0c6 q0c7 q0l q1c0 q1c1 q1c2 q1c3 q1c4 q1c5 q1c6 q1c7 q1l
  have hb6 := hb4.trans (b5.mono hb4.size)
  have M0x6 := Lib.hid (M0x4.out.later b5)
  have M1x6 := Lib.hid (MN3.out.later b5)
  have bn7 : Below w5.heap.size w5 (w5.alloc (.cells #[.int .i64 0, .int .i64 0, .int .i64 0, .int .i64 0, .int .i64 0, .string ⟨#[]⟩, .int .i64 0, .bool false] 24)) := (Below.refl _ _).alloc (Nat.le_refl _) _
  have mn7 := MomAt.new w5 0 0 0 0 0 ⟨#[]⟩ 0 false
  obtain ⟨V7, hV7⟩ : ∃ W, (w5.alloc (.cells #[.int .i64 0, .int .i64 0, .int .i64 0, .int .i64 0, .int .i64 0, .string ⟨#[]⟩, .int .i64 0, .bool false] 24)) = W := ⟨_, rfl⟩
  rw [hV7] at bn7 mn7
  have HV7 := Lib.hid hV7
  have hb8 := hb6.trans (bn7.mono hb6.size)
  have M0x8 := Lib.hid (M0x6.out.later bn7)
  have M1x8 := Lib.hid (M1x6.out.later bn7)
  have MN7 := Lib.hid mn7
  clear hV7 mn7
  go_upto_region 11 with fail
  try rw [HV7.out]
  obtain ⟨q0c0, q0c1, q0c2, q0c3, q0c4, q0c5, q0c6, q0c7, q0l⟩ := M0x8.out
  go_wp2_with fail
  refine (seconds_bad y mo d h mi S z has (by omega) hv V7 (HG.out.later hb8)).mono ?_
  rintro e w9 ⟨rfl, b9⟩
  clear q0c0 q0c1 q0c2 q0c3 q0c4 q0c5 q0c6 q0c7 q0l
  have hb10 := hb8.trans (b9.mono hb8.size)
  have M0x10 := Lib.hid (M0x8.out.later b9)
  have M1x10 := Lib.hid (M1x8.out.later b9)
  have M2x10 := Lib.hid (MN7.out.later b9)
  go_wp2_with fail
  refine (works_ti w9 (HG.out.later hb10)).mono ?_
  rintro e w11 ⟨rfl, b11⟩
  have hb12 := hb10.trans (b11.mono hb10.size)
  have M0x12 := Lib.hid (M0x10.out.later b11)
  have M1x12 := Lib.hid (M1x10.out.later b11)
  have M2x12 := Lib.hid (M2x10.out.later b11)
  go_wp2_with fail
  go_ret
  exact ⟨rfl, hb12⟩
set_option maxRecDepth 100000 in
set_option maxHeartbeats 16000000 in
theorem months_range (Y M D H I mu : Nat) (S : ByteArray) (z : Int) (has : Bool) (k : MomOk Y M D H I mu S z has) (hl : S.size ≤ 300) (n : Int) (hn : n < -(12 * ((Y : Int) - 1) + (M : Int) - 1) ∨ 119988 - (12 * ((Y : Int) - 1) + (M : Int) - 1) ≤ n) (w : World) (hg : GrT w) :
    Calls Tryz.prog 10 #[momV (Y : Int) (M : Int) (D : Int) (H : Int) (I : Int) S z has, .int .i64 n] w fun e w' => e = .returned (.bool true) ∧ Below w.heap.size w w' := by
  have HG := Lib.hid hg
  unfold momV
  have hb0 : Below w.heap.size w (w.alloc (.cells #[.int .i64 (Y : Int), .int .i64 (M : Int), .int .i64 (D : Int), .int .i64 (H : Int), .int .i64 (I : Int), .string S, .int .i64 z, .bool has] 24)) := (Below.refl _ _).alloc (Nat.le_refl _) _
  have hm0 := MomW.new w (Y : Int) (M : Int) (D : Int) (H : Int) (I : Int) S z has
  obtain ⟨W1, hW1⟩ : ∃ W, (w.alloc (.cells #[.int .i64 (Y : Int), .int .i64 (M : Int), .int .i64 (D : Int), .int .i64 (H : Int), .int .i64 (I : Int), .string S, .int .i64 z, .bool has] 24)) = W := ⟨_, rfl⟩
  rw [hW1] at hb0 hm0
  have HW1 := Lib.hid hW1
  have M0 := Lib.hid hm0
  clear hW1 hm0
  obtain ⟨q0c0, q0c1, q0c2, q0c3, q0c4, q0c5, q0c6, q0c7, q0f0, q0f1, q0f2, q0f3, q0f4, q0f5, q0f6, q0f7, q0l⟩ := M0.out
  have hlz : ¬ (300 : Int) < (S.size : Int) := by omega
  obtain ⟨R, hR, sR⟩ := secs_of Y M D H I mu S z has k
  have cS := seconds_ok Y M D H I mu S z has k R hR
  have KK := Lib.hid k
  clear hR sR k
  have cN := addMon_range Y M D H I mu S z has KK.out n hn
  clear hn
  clear hg
  go_enter Tryz.func10, Tryz.ntmps10
  go_wp2_with fail
  try rw [HW1.out]
  try go_wp2_with fail
  refine (cN W1 (HG.out.later hb0)).mono ?_
  rintro e w1 ⟨rfl, b1⟩
  unfold momZ momV
  clear q0c0 q0c1 q0c2 q0c3 q0c4 q0c5 q0c6 q0c7 q0f0 q0f1 q0f2 q0f3 q0f4 q0f5 q0f6 q0f7 q0l
  have hb2 := hb0.trans (b1.mono hb0.size)
  have M0x2 := Lib.hid (M0.out.later b1)
  clear cN
  have bn3 : Below w1.heap.size w1 (w1.alloc (.cells #[.int .i64 0, .int .i64 0, .int .i64 0, .int .i64 0, .int .i64 0, .string ⟨#[]⟩, .int .i64 0, .bool false] 24)) := (Below.refl _ _).alloc (Nat.le_refl _) _
  have mn3 := MomAt.new w1 0 0 0 0 0 ⟨#[]⟩ 0 false
  obtain ⟨V3, hV3⟩ : ∃ W, (w1.alloc (.cells #[.int .i64 0, .int .i64 0, .int .i64 0, .int .i64 0, .int .i64 0, .string ⟨#[]⟩, .int .i64 0, .bool false] 24)) = W := ⟨_, rfl⟩
  rw [hV3] at bn3 mn3
  have HV3 := Lib.hid hV3
  have ne3 : Hid (w.heap.size < w1.heap.size) := Lib.hid M0x2.out.lt
  have hb4 := hb2.trans (bn3.mono hb2.size)
  have M0x4 := Lib.hid (M0x2.out.later bn3)
  have MN3 := Lib.hid mn3
  clear hV3 mn3
  go_upto_region 4 with fail
  try rw [HV3.out]
  obtain ⟨q0c0, q0c1, q0c2, q0c3, q0c4, q0c5, q0c6, q0c7, q0f0, q0f1, q0f2, q0f3, q0f4, q0f5, q0f6, q0f7, q0l⟩ := M0x4.out
  obtain ⟨q1c0, q1c1, q1c2, q1c3, q1c4, q1c5, q1c6, q1c7, q1l⟩ := MN3.out
  go_upto_region 10 with fail
  clear q0c0 q0c1 q0c2 q0c3 q0c4 q0c5 q0c6 q0c7 q0f0 q0f1 q0f2 q0f3 q0f4 q0f5 q0f6 q0f7 q0l q1c0 q1c1 q1c2 q1c3 q1c4 q1c5 q1c6 q1c7 q1l
  obtain ⟨q0c0, q0c1, q0c2, q0c3, q0c4, q0c5, q0c6, q0c7, q0f0, q0f1, q0f2, q0f3, q0f4, q0f5, q0f6, q0f7, q0l⟩ := M0x4.out
  by_cases hy9 : Y = 9999
  · have y9z : ((Y : Int) == 9999) = true := by rw [beq_iff_eq]; omega
    have cR := addMon_range Y M D H I mu S z has KK.out 12 (.inr (by have := KK.out.date.m1; omega))
    clear hy9
    go_wp2_with fail
    refine (cR V3 (HG.out.later hb4)).mono ?_
    rintro e w5 ⟨rfl, b5⟩
    unfold momZ momV
    clear q0c0 q0c1 q0c2 q0c3 q0c4 q0c5 q0c6 q0c7 q0f0 q0f1 q0f2 q0f3 q0f4 q0f5 q0f6 q0f7 q0l
    have hb6 := hb4.trans (b5.mono hb4.size)
    have M0x6 := Lib.hid (M0x4.out.later b5)
    have M1x6 := Lib.hid (MN3.out.later b5)
    clear cR
    have bn7 : Below w5.heap.size w5 (w5.alloc (.cells #[.int .i64 0, .int .i64 0, .int .i64 0, .int .i64 0, .int .i64 0, .string ⟨#[]⟩, .int .i64 0, .bool false] 24)) := (Below.refl _ _).alloc (Nat.le_refl _) _
    have mn7 := MomAt.new w5 0 0 0 0 0 ⟨#[]⟩ 0 false
    obtain ⟨V7, hV7⟩ : ∃ W, (w5.alloc (.cells #[.int .i64 0, .int .i64 0, .int .i64 0, .int .i64 0, .int .i64 0, .string ⟨#[]⟩, .int .i64 0, .bool false] 24)) = W := ⟨_, rfl⟩
    rw [hV7] at bn7 mn7
    have HV7 := Lib.hid hV7
    have ne7 : Hid (w.heap.size < w5.heap.size) := Lib.hid M0x6.out.lt
    have hb8 := hb6.trans (bn7.mono hb6.size)
    have M0x8 := Lib.hid (M0x6.out.later bn7)
    have M1x8 := Lib.hid (M1x6.out.later bn7)
    have MN7 := Lib.hid mn7
    clear hV7 mn7
    go_upto_region 11 with fail
    try rw [HV7.out]
    obtain ⟨q0c0, q0c1, q0c2, q0c3, q0c4, q0c5, q0c6, q0c7, q0f0, q0f1, q0f2, q0f3, q0f4, q0f5, q0f6, q0f7, q0l⟩ := M0x8.out
    go_wp2_with fail
    refine (cS V7 (HG.out.later hb8)).mono ?_
    rintro e w9 ⟨rfl, b9⟩
    clear q0c0 q0c1 q0c2 q0c3 q0c4 q0c5 q0c6 q0c7 q0f0 q0f1 q0f2 q0f3 q0f4 q0f5 q0f6 q0f7 q0l
    have hb10 := hb8.trans (b9.mono hb8.size)
    have M0x10 := Lib.hid (M0x8.out.later b9)
    have M1x10 := Lib.hid (M1x8.out.later b9)
    have M2x10 := Lib.hid (MN7.out.later b9)
    clear cS
    obtain ⟨q0c0, q0c1, q0c2, q0c3, q0c4, q0c5, q0c6, q0c7, q0f0, q0f1, q0f2, q0f3, q0f4, q0f5, q0f6, q0f7, q0l⟩ := M0x10.out
    go_wp2_with fail
    refine (works_ti w9 (HG.out.later hb10)).mono ?_
    rintro e w11 ⟨rfl, b11⟩
    clear q0c0 q0c1 q0c2 q0c3 q0c4 q0c5 q0c6 q0c7 q0f0 q0f1 q0f2 q0f3 q0f4 q0f5 q0f6 q0f7 q0l
    have hb12 := hb10.trans (b11.mono hb10.size)
    have M0x12 := Lib.hid (M0x10.out.later b11)
    have M1x12 := Lib.hid (M1x10.out.later b11)
    have M2x12 := Lib.hid (M2x10.out.later b11)
    go_wp2_with fail
    go_ret
    exact ⟨rfl, hb12⟩
  · have y9z : ((Y : Int) == 9999) = false := beq_eq_false_iff_ne.2 (by omega)
    have e1 : (12 + (12 * (Y - 1) + M - 1)) / 12 + 1 = Y + 1 := by have := KK.out.date.m1; have := KK.out.date.m2; have := KK.out.date.y1; omega
    have e2 : (12 + (12 * (Y - 1) + M - 1)) % 12 + 1 = M := by have := KK.out.date.m1; have := KK.out.date.m2; have := KK.out.date.y1; omega
    have c12 := addMon_ok Y M D H I mu S z has KK.out 12 (12 + (12 * (Y - 1) + M - 1)) (by have := KK.out.date.m1; have := KK.out.date.y1; omega) (by have := KK.out.date.m2; have := KK.out.date.y2; omega)
    rw [e1, e2, dim_next KK.out.date] at c12
    obtain ⟨D5, hD5⟩ : ∃ D5, (if M = 2 ∧ D = 29 then 28 else D) = D5 := ⟨_, rfl⟩
    rw [hD5] at c12
    rw [show ((Y + 1 : Nat) : Int) = (Y : Int) + 1 by omega] at c12
    have hY1 : (0 : Int) ≤ (Y : Int) := by omega
    have hY2 : (Y : Int) ≤ 9999 := by have := KK.out.date.y2; omega
    have HD5 := Lib.hid hD5
    clear e1 e2 hD5
    go_wp2_with fail
    refine (c12 V3 (HG.out.later hb4)).mono ?_
    rintro e w5 ⟨rfl, b5⟩
    unfold momV
    clear q0c0 q0c1 q0c2 q0c3 q0c4 q0c5 q0c6 q0c7 q0f0 q0f1 q0f2 q0f3 q0f4 q0f5 q0f6 q0f7 q0l
    have hb6 := hb4.trans (b5.mono hb4.size)
    have M0x6 := Lib.hid (M0x4.out.later b5)
    have M1x6 := Lib.hid (MN3.out.later b5)
    clear c12
    have bn7 : Below w5.heap.size w5 (w5.alloc (.cells #[.int .i64 ((Y : Int) + 1), .int .i64 (M : Int), .int .i64 (D5 : Int), .int .i64 (H : Int), .int .i64 (I : Int), .string S, .int .i64 z, .bool has] 24)) := (Below.refl _ _).alloc (Nat.le_refl _) _
    have mn7 := MomAt.new w5 ((Y : Int) + 1) (M : Int) (D5 : Int) (H : Int) (I : Int) S z has
    obtain ⟨V7, hV7⟩ : ∃ W, (w5.alloc (.cells #[.int .i64 ((Y : Int) + 1), .int .i64 (M : Int), .int .i64 (D5 : Int), .int .i64 (H : Int), .int .i64 (I : Int), .string S, .int .i64 z, .bool has] 24)) = W := ⟨_, rfl⟩
    rw [hV7] at bn7 mn7
    have HV7 := Lib.hid hV7
    have ne7 : Hid (w.heap.size < w5.heap.size) := Lib.hid M0x6.out.lt
    have hb8 := hb6.trans (bn7.mono hb6.size)
    have M0x8 := Lib.hid (M0x6.out.later bn7)
    have M1x8 := Lib.hid (M1x6.out.later bn7)
    have MN7 := Lib.hid mn7
    clear hV7 mn7
    go_upto_region 11 with fail
    try rw [HV7.out]
    obtain ⟨q0c0, q0c1, q0c2, q0c3, q0c4, q0c5, q0c6, q0c7, q0f0, q0f1, q0f2, q0f3, q0f4, q0f5, q0f6, q0f7, q0l⟩ := M0x8.out
    go_wp2_with fail
    refine (cS V7 (HG.out.later hb8)).mono ?_
    rintro e w9 ⟨rfl, b9⟩
    clear q0c0 q0c1 q0c2 q0c3 q0c4 q0c5 q0c6 q0c7 q0f0 q0f1 q0f2 q0f3 q0f4 q0f5 q0f6 q0f7 q0l
    have hb10 := hb8.trans (b9.mono hb8.size)
    have M0x10 := Lib.hid (M0x8.out.later b9)
    have M1x10 := Lib.hid (M1x8.out.later b9)
    have M2x10 := Lib.hid (MN7.out.later b9)
    clear cS
    obtain ⟨q0c0, q0c1, q0c2, q0c3, q0c4, q0c5, q0c6, q0c7, q0f0, q0f1, q0f2, q0f3, q0f4, q0f5, q0f6, q0f7, q0l⟩ := M0x10.out
    go_upto_region 14 with fail
    have ms11 := M0x10.out.set0 ((Y : Int) + 1)
    have mo11x1 := M1x10.out.other (W' := (w9.setCell ⟨w.heap.size, 0, none⟩ (.int .i64 ((Y : Int) + 1)))) (Below.heap_setCell _ _ _ _ (by have := ne3.out; show w1.heap.size ≠ w.heap.size; omega)) (by simp [World.setCell])
    have mo11x2 := M2x10.out.other (W' := (w9.setCell ⟨w.heap.size, 0, none⟩ (.int .i64 ((Y : Int) + 1)))) (Below.heap_setCell _ _ _ _ (by have := ne7.out; show w5.heap.size ≠ w.heap.size; omega)) (by simp [World.setCell])
    have bs11 := hb10.setCell (p := ⟨w.heap.size, 0, none⟩) (Nat.le_refl _) (.int .i64 ((Y : Int) + 1))
    obtain ⟨V11, hV11⟩ : ∃ W, (w9.setCell ⟨w.heap.size, 0, none⟩ (.int .i64 ((Y : Int) + 1))) = W := ⟨_, rfl⟩
    rw [hV11] at ms11 bs11 mo11x1 mo11x2
    have HV11 := Lib.hid hV11
    have M0x11 := Lib.hid ms11
    have M1x11 := Lib.hid mo11x1
    have M2x11 := Lib.hid mo11x2
    clear hV11 ms11 mo11x1 mo11x2
    go_upto_region 15 with fail
    rw [HV11.out]
    clear q0c0 q0c1 q0c2 q0c3 q0c4 q0c5 q0c6 q0c7 q0f0 q0f1 q0f2 q0f3 q0f4 q0f5 q0f6 q0f7 q0l
    obtain ⟨q0c0, q0c1, q0c2, q0c3, q0c4, q0c5, q0c6, q0c7, q0f0, q0f1, q0f2, q0f3, q0f4, q0f5, q0f6, q0f7, q0l⟩ := M0x11.out
    by_cases hM : M = 2
    · have hMz : ((M : Int) == 2) = true := by rw [beq_iff_eq]; omega
      have HM := Lib.hid hM
      clear hM
      by_cases hD : D = 29
      · have hDz : ((D : Int) == 29) = true := by rw [beq_iff_eq]; omega
        obtain rfl : D5 = 28 := by rw [← HD5.out, if_pos ⟨HM.out, hD⟩]
        clear hD
        have ms12 := M0x11.out.set2 28
        have mo12x1 := M1x11.out.other (W' := (V11.setCell ⟨w.heap.size, 2, none⟩ (.int .i64 28))) (Below.heap_setCell _ _ _ _ (by have := ne3.out; show w1.heap.size ≠ w.heap.size; omega)) (by simp [World.setCell])
        have mo12x2 := M2x11.out.other (W' := (V11.setCell ⟨w.heap.size, 2, none⟩ (.int .i64 28))) (Below.heap_setCell _ _ _ _ (by have := ne7.out; show w5.heap.size ≠ w.heap.size; omega)) (by simp [World.setCell])
        have bs12 := bs11.setCell (p := ⟨w.heap.size, 2, none⟩) (Nat.le_refl _) (.int .i64 28)
        obtain ⟨V12, hV12⟩ : ∃ W, (V11.setCell ⟨w.heap.size, 2, none⟩ (.int .i64 28)) = W := ⟨_, rfl⟩
        rw [hV12] at ms12 bs12 mo12x1 mo12x2
        have HV12 := Lib.hid hV12
        have M0x12 := Lib.hid ms12
        have M1x12 := Lib.hid mo12x1
        have M2x12 := Lib.hid mo12x2
        clear hV12 ms12 mo12x1 mo12x2
        go_upto_region 17 with fail
        rw [HV12.out]
        clear q0c0 q0c1 q0c2 q0c3 q0c4 q0c5 q0c6 q0c7 q0f0 q0f1 q0f2 q0f3 q0f4 q0f5 q0f6 q0f7 q0l
        obtain ⟨q0c0, q0c1, q0c2, q0c3, q0c4, q0c5, q0c6, q0c7, q0f0, q0f1, q0f2, q0f3, q0f4, q0f5, q0f6, q0f7, q0l⟩ := M0x12.out
        obtain ⟨q2c0, q2c1, q2c2, q2c3, q2c4, q2c5, q2c6, q2c7, q2l⟩ := M2x12.out
        go_wp2_with fail
        refine (works_ti V12 (HG.out.later bs12)).mono ?_
        rintro e w13 ⟨rfl, b13⟩
        clear q0c0 q0c1 q0c2 q0c3 q0c4 q0c5 q0c6 q0c7 q0f0 q0f1 q0f2 q0f3 q0f4 q0f5 q0f6 q0f7 q0l q2c0 q2c1 q2c2 q2c3 q2c4 q2c5 q2c6 q2c7 q2l
        have hb14 := bs12.trans (b13.mono bs12.size)
        have M0x14 := Lib.hid (M0x12.out.later b13)
        have M1x14 := Lib.hid (M1x12.out.later b13)
        have M2x14 := Lib.hid (M2x12.out.later b13)
        go_wp2_with fail
        go_ret
        exact ⟨rfl, hb14⟩
      · have hDz : ((D : Int) == 29) = false := beq_eq_false_iff_ne.2 (by omega)
        obtain rfl : D = D5 := by rw [← HD5.out, if_neg (fun q => hD q.2)]
        obtain ⟨q2c0, q2c1, q2c2, q2c3, q2c4, q2c5, q2c6, q2c7, q2l⟩ := M2x11.out
        go_wp2_with fail
        refine (works_ti V11 (HG.out.later bs11)).mono ?_
        rintro e w12 ⟨rfl, b12⟩
        clear q0c0 q0c1 q0c2 q0c3 q0c4 q0c5 q0c6 q0c7 q0f0 q0f1 q0f2 q0f3 q0f4 q0f5 q0f6 q0f7 q0l q2c0 q2c1 q2c2 q2c3 q2c4 q2c5 q2c6 q2c7 q2l
        have hb13 := bs11.trans (b12.mono bs11.size)
        have M0x13 := Lib.hid (M0x11.out.later b12)
        have M1x13 := Lib.hid (M1x11.out.later b12)
        have M2x13 := Lib.hid (M2x11.out.later b12)
        go_wp2_with fail
        go_ret
        exact ⟨rfl, hb13⟩
    · have hMz : ((M : Int) == 2) = false := beq_eq_false_iff_ne.2 (by omega)
      obtain rfl : D = D5 := by rw [← HD5.out, if_neg (fun q => hM q.1)]
      obtain ⟨q2c0, q2c1, q2c2, q2c3, q2c4, q2c5, q2c6, q2c7, q2l⟩ := M2x11.out
      go_wp2_with fail
      refine (works_ti V11 (HG.out.later bs11)).mono ?_
      rintro e w12 ⟨rfl, b12⟩
      clear q0c0 q0c1 q0c2 q0c3 q0c4 q0c5 q0c6 q0c7 q0f0 q0f1 q0f2 q0f3 q0f4 q0f5 q0f6 q0f7 q0l q2c0 q2c1 q2c2 q2c3 q2c4 q2c5 q2c6 q2c7 q2l
      have hb13 := bs11.trans (b12.mono bs11.size)
      have M0x13 := Lib.hid (M0x11.out.later b12)
      have M1x13 := Lib.hid (M1x11.out.later b12)
      have M2x13 := Lib.hid (M2x11.out.later b12)
      go_wp2_with fail
      go_ret
      exact ⟨rfl, hb13⟩
set_option maxRecDepth 100000 in
set_option maxHeartbeats 16000000 in
theorem months_ok (Y M D H I mu : Nat) (S : ByteArray) (z : Int) (has : Bool) (k : MomOk Y M D H I mu S z has) (hl : S.size ≤ 300) (n : Int) (t : Nat) (hnt : n + (12 * ((Y : Int) - 1) + (M : Int) - 1) = (t : Int)) (ht : t < 119988) (w : World) (hg : GrT w) :
    Calls Tryz.prog 10 #[momV (Y : Int) (M : Int) (D : Int) (H : Int) (I : Int) S z has, .int .i64 n] w fun e w' => e = .returned (.bool true) ∧ Below w.heap.size w w' := by
  have HG := Lib.hid hg
  unfold momV
  have hb0 : Below w.heap.size w (w.alloc (.cells #[.int .i64 (Y : Int), .int .i64 (M : Int), .int .i64 (D : Int), .int .i64 (H : Int), .int .i64 (I : Int), .string S, .int .i64 z, .bool has] 24)) := (Below.refl _ _).alloc (Nat.le_refl _) _
  have hm0 := MomW.new w (Y : Int) (M : Int) (D : Int) (H : Int) (I : Int) S z has
  obtain ⟨W1, hW1⟩ : ∃ W, (w.alloc (.cells #[.int .i64 (Y : Int), .int .i64 (M : Int), .int .i64 (D : Int), .int .i64 (H : Int), .int .i64 (I : Int), .string S, .int .i64 z, .bool has] 24)) = W := ⟨_, rfl⟩
  rw [hW1] at hb0 hm0
  have HW1 := Lib.hid hW1
  have M0 := Lib.hid hm0
  clear hW1 hm0
  obtain ⟨q0c0, q0c1, q0c2, q0c3, q0c4, q0c5, q0c6, q0c7, q0f0, q0f1, q0f2, q0f3, q0f4, q0f5, q0f6, q0f7, q0l⟩ := M0.out
  have hlz : ¬ (300 : Int) < (S.size : Int) := by omega
  obtain ⟨R, hR, sR⟩ := secs_of Y M D H I mu S z has k
  have cS := seconds_ok Y M D H I mu S z has k R hR
  have KK := Lib.hid k
  clear hR sR k
  have cN := addMon_ok Y M D H I mu S z has KK.out n t hnt ht
  have n9 : -119988 ≤ n ∧ n ≤ 119988 := by have := KK.out.date.y1; have := KK.out.date.y2; have := KK.out.date.m1; have := KK.out.date.m2; omega
  have nw : IntKind.i64.wrap (-n) = -n := IntWalk.i64_in _ (by omega)
  have kA : MomOk (t / 12 + 1) (t % 12 + 1) (min D (dim (t / 12 + 1) (t % 12 + 1))) H I mu S z has := ⟨min_dim_ok KK.out.date _ _ (by omega) (by omega), KK.out.hour, KK.out.minute, KK.out.micro, KK.out.sec, KK.out.zone⟩
  have hT : (-n) + (12 * (((t / 12 + 1 : Nat) : Int) - 1) + ((t % 12 + 1 : Nat) : Int) - 1) = ((12 * (Y - 1) + M - 1 : Nat) : Int) := by have := KK.out.date.y1; have := KK.out.date.m1; omega
  have cB := addMon_ok (t / 12 + 1) (t % 12 + 1) (min D (dim (t / 12 + 1) (t % 12 + 1))) H I mu S z has kA (-n) (12 * (Y - 1) + M - 1) hT (by have := KK.out.date.y2; have := KK.out.date.m2; omega)
  rw [show (12 * (Y - 1) + M - 1) / 12 + 1 = Y by have := KK.out.date.y1; have := KK.out.date.m1; have := KK.out.date.m2; omega, show (12 * (Y - 1) + M - 1) % 12 + 1 = M by have := KK.out.date.y1; have := KK.out.date.m1; have := KK.out.date.m2; omega] at cB
  obtain ⟨YA, hYA⟩ : ∃ x, t / 12 + 1 = x := ⟨_, rfl⟩
  obtain ⟨MA, hMA⟩ : ∃ x, t % 12 + 1 = x := ⟨_, rfl⟩
  rw [hYA, hMA] at cN cB
  obtain ⟨DA, hDA⟩ : ∃ x, min D (dim YA MA) = x := ⟨_, rfl⟩
  rw [hDA] at cN cB
  obtain ⟨DB, hDB⟩ : ∃ x, min DA (dim Y M) = x := ⟨_, rfl⟩
  rw [hDB] at cB
  have hDBle : DB ≤ D := by omega
  have hDB28 : D ≤ 28 → DB = D := fun q => by have := dim_le YA MA; have := dim_le Y M; omega
  have hgt : decide (D < DB) = false := decide_eq_false (by omega)
  have HN := Lib.hid (And.intro hDBle hDB28)
  clear hnt ht n9 kA hT hYA hMA hDA hDB hDBle hDB28
  clear hg
  go_enter Tryz.func10, Tryz.ntmps10
  go_wp2_with fail
  try rw [HW1.out]
  try go_wp2_with fail
  refine (cN W1 (HG.out.later hb0)).mono ?_
  rintro e w1 ⟨rfl, b1⟩
  unfold momV
  clear q0c0 q0c1 q0c2 q0c3 q0c4 q0c5 q0c6 q0c7 q0f0 q0f1 q0f2 q0f3 q0f4 q0f5 q0f6 q0f7 q0l
  have hb2 := hb0.trans (b1.mono hb0.size)
  have M0x2 := Lib.hid (M0.out.later b1)
  clear cN
  have bn3 : Below w1.heap.size w1 (w1.alloc (.cells #[.int .i64 (YA : Int), .int .i64 (MA : Int), .int .i64 (DA : Int), .int .i64 (H : Int), .int .i64 (I : Int), .string S, .int .i64 z, .bool has] 24)) := (Below.refl _ _).alloc (Nat.le_refl _) _
  have mn3 := MomAt.new w1 (YA : Int) (MA : Int) (DA : Int) (H : Int) (I : Int) S z has
  obtain ⟨V3, hV3⟩ : ∃ W, (w1.alloc (.cells #[.int .i64 (YA : Int), .int .i64 (MA : Int), .int .i64 (DA : Int), .int .i64 (H : Int), .int .i64 (I : Int), .string S, .int .i64 z, .bool has] 24)) = W := ⟨_, rfl⟩
  rw [hV3] at bn3 mn3
  have HV3 := Lib.hid hV3
  have ne3 : Hid (w.heap.size < w1.heap.size) := Lib.hid M0x2.out.lt
  have hb4 := hb2.trans (bn3.mono hb2.size)
  have M0x4 := Lib.hid (M0x2.out.later bn3)
  have MN3 := Lib.hid mn3
  clear hV3 mn3
  go_upto_region 4 with fail
  try rw [HV3.out]
  obtain ⟨q0c0, q0c1, q0c2, q0c3, q0c4, q0c5, q0c6, q0c7, q0f0, q0f1, q0f2, q0f3, q0f4, q0f5, q0f6, q0f7, q0l⟩ := M0x4.out
  obtain ⟨q1c0, q1c1, q1c2, q1c3, q1c4, q1c5, q1c6, q1c7, q1l⟩ := MN3.out
  go_wp2_with fail
  refine (cB V3 (HG.out.later hb4)).mono ?_
  rintro e w5 ⟨rfl, b5⟩
  unfold momV
  clear q0c0 q0c1 q0c2 q0c3 q0c4 q0c5 q0c6 q0c7 q0f0 q0f1 q0f2 q0f3 q0f4 q0f5 q0f6 q0f7 q0l q1c0 q1c1 q1c2 q1c3 q1c4 q1c5 q1c6 q1c7 q1l
  have hb6 := hb4.trans (b5.mono hb4.size)
  have M0x6 := Lib.hid (M0x4.out.later b5)
  have M1x6 := Lib.hid (MN3.out.later b5)
  clear cB
  have bn7 : Below w5.heap.size w5 (w5.alloc (.cells #[.int .i64 (Y : Int), .int .i64 (M : Int), .int .i64 (DB : Int), .int .i64 (H : Int), .int .i64 (I : Int), .string S, .int .i64 z, .bool has] 24)) := (Below.refl _ _).alloc (Nat.le_refl _) _
  have mn7 := MomAt.new w5 (Y : Int) (M : Int) (DB : Int) (H : Int) (I : Int) S z has
  obtain ⟨V7, hV7⟩ : ∃ W, (w5.alloc (.cells #[.int .i64 (Y : Int), .int .i64 (M : Int), .int .i64 (DB : Int), .int .i64 (H : Int), .int .i64 (I : Int), .string S, .int .i64 z, .bool has] 24)) = W := ⟨_, rfl⟩
  rw [hV7] at bn7 mn7
  have HV7 := Lib.hid hV7
  have ne7 : Hid (w.heap.size < w5.heap.size) := Lib.hid M0x6.out.lt
  have hb8 := hb6.trans (bn7.mono hb6.size)
  have M0x8 := Lib.hid (M0x6.out.later bn7)
  have M1x8 := Lib.hid (M1x6.out.later bn7)
  have MN7 := Lib.hid mn7
  clear hV7 mn7
  go_upto_region 6 with fail
  try rw [HV7.out]
  obtain ⟨q0c0, q0c1, q0c2, q0c3, q0c4, q0c5, q0c6, q0c7, q0f0, q0f1, q0f2, q0f3, q0f4, q0f5, q0f6, q0f7, q0l⟩ := M0x8.out
  obtain ⟨q1c0, q1c1, q1c2, q1c3, q1c4, q1c5, q1c6, q1c7, q1l⟩ := M1x8.out
  obtain ⟨q2c0, q2c1, q2c2, q2c3, q2c4, q2c5, q2c6, q2c7, q2l⟩ := MN7.out
  have hh : ((H : Int) != (H : Int)) = false := by simp
  go_cut [65] from 33 to 65 (fun s65 wx => s65 = .bool false ∧ wx = V7)
  case first =>
    by_cases h28 : D ≤ 28
    · have h28z : (D : Int) ≤ 28 := by omega
      have := HN.out.2 h28
      subst this
      go_wp2_with fail
      go_meet
      exact ⟨rfl, rfl⟩
    · have h28z : ¬ (D : Int) ≤ 28 := by omega
      go_wp2_with fail
      go_meet
      exact ⟨rfl, rfl⟩
  case rest =>
  obtain ⟨rfl, hwc⟩ := hcut
  rw [hwc]
  clear hwc
  clear q0c0 q0c1 q0c2 q0c3 q0c4 q0c5 q0c6 q0c7 q0f0 q0f1 q0f2 q0f3 q0f4 q0f5 q0f6 q0f7 q0l q1c0 q1c1 q1c2 q1c3 q1c4 q1c5 q1c6 q1c7 q1l q2c0 q2c1 q2c2 q2c3 q2c4 q2c5 q2c6 q2c7 q2l
  obtain ⟨q0c0, q0c1, q0c2, q0c3, q0c4, q0c5, q0c6, q0c7, q0f0, q0f1, q0f2, q0f3, q0f4, q0f5, q0f6, q0f7, q0l⟩ := M0x8.out
  go_upto_region 10 with fail
  by_cases hy9 : Y = 9999
  · have y9z : ((Y : Int) == 9999) = true := by rw [beq_iff_eq]; omega
    have cR := addMon_range Y M D H I mu S z has KK.out 12 (.inr (by have := KK.out.date.m1; omega))
    clear hy9
    go_wp2_with fail
    refine (cR V7 (HG.out.later hb8)).mono ?_
    rintro e w9 ⟨rfl, b9⟩
    unfold momZ momV
    clear q0c0 q0c1 q0c2 q0c3 q0c4 q0c5 q0c6 q0c7 q0f0 q0f1 q0f2 q0f3 q0f4 q0f5 q0f6 q0f7 q0l
    have hb10 := hb8.trans (b9.mono hb8.size)
    have M0x10 := Lib.hid (M0x8.out.later b9)
    have M1x10 := Lib.hid (M1x8.out.later b9)
    have M2x10 := Lib.hid (MN7.out.later b9)
    clear cR
    have bn11 : Below w9.heap.size w9 (w9.alloc (.cells #[.int .i64 0, .int .i64 0, .int .i64 0, .int .i64 0, .int .i64 0, .string ⟨#[]⟩, .int .i64 0, .bool false] 24)) := (Below.refl _ _).alloc (Nat.le_refl _) _
    have mn11 := MomAt.new w9 0 0 0 0 0 ⟨#[]⟩ 0 false
    obtain ⟨V11, hV11⟩ : ∃ W, (w9.alloc (.cells #[.int .i64 0, .int .i64 0, .int .i64 0, .int .i64 0, .int .i64 0, .string ⟨#[]⟩, .int .i64 0, .bool false] 24)) = W := ⟨_, rfl⟩
    rw [hV11] at bn11 mn11
    have HV11 := Lib.hid hV11
    have ne11 : Hid (w.heap.size < w9.heap.size) := Lib.hid M0x10.out.lt
    have hb12 := hb10.trans (bn11.mono hb10.size)
    have M0x12 := Lib.hid (M0x10.out.later bn11)
    have M1x12 := Lib.hid (M1x10.out.later bn11)
    have M2x12 := Lib.hid (M2x10.out.later bn11)
    have MN11 := Lib.hid mn11
    clear hV11 mn11
    go_upto_region 11 with fail
    try rw [HV11.out]
    obtain ⟨q0c0, q0c1, q0c2, q0c3, q0c4, q0c5, q0c6, q0c7, q0f0, q0f1, q0f2, q0f3, q0f4, q0f5, q0f6, q0f7, q0l⟩ := M0x12.out
    go_wp2_with fail
    refine (cS V11 (HG.out.later hb12)).mono ?_
    rintro e w13 ⟨rfl, b13⟩
    clear q0c0 q0c1 q0c2 q0c3 q0c4 q0c5 q0c6 q0c7 q0f0 q0f1 q0f2 q0f3 q0f4 q0f5 q0f6 q0f7 q0l
    have hb14 := hb12.trans (b13.mono hb12.size)
    have M0x14 := Lib.hid (M0x12.out.later b13)
    have M1x14 := Lib.hid (M1x12.out.later b13)
    have M2x14 := Lib.hid (M2x12.out.later b13)
    have M3x14 := Lib.hid (MN11.out.later b13)
    clear cS
    obtain ⟨q0c0, q0c1, q0c2, q0c3, q0c4, q0c5, q0c6, q0c7, q0f0, q0f1, q0f2, q0f3, q0f4, q0f5, q0f6, q0f7, q0l⟩ := M0x14.out
    go_wp2_with fail
    refine (works_ti w13 (HG.out.later hb14)).mono ?_
    rintro e w15 ⟨rfl, b15⟩
    clear q0c0 q0c1 q0c2 q0c3 q0c4 q0c5 q0c6 q0c7 q0f0 q0f1 q0f2 q0f3 q0f4 q0f5 q0f6 q0f7 q0l
    have hb16 := hb14.trans (b15.mono hb14.size)
    have M0x16 := Lib.hid (M0x14.out.later b15)
    have M1x16 := Lib.hid (M1x14.out.later b15)
    have M2x16 := Lib.hid (M2x14.out.later b15)
    have M3x16 := Lib.hid (M3x14.out.later b15)
    go_wp2_with fail
    go_ret
    exact ⟨rfl, hb16⟩
  · have y9z : ((Y : Int) == 9999) = false := beq_eq_false_iff_ne.2 (by omega)
    have e1 : (12 + (12 * (Y - 1) + M - 1)) / 12 + 1 = Y + 1 := by have := KK.out.date.m1; have := KK.out.date.m2; have := KK.out.date.y1; omega
    have e2 : (12 + (12 * (Y - 1) + M - 1)) % 12 + 1 = M := by have := KK.out.date.m1; have := KK.out.date.m2; have := KK.out.date.y1; omega
    have c12 := addMon_ok Y M D H I mu S z has KK.out 12 (12 + (12 * (Y - 1) + M - 1)) (by have := KK.out.date.m1; have := KK.out.date.y1; omega) (by have := KK.out.date.m2; have := KK.out.date.y2; omega)
    rw [e1, e2, dim_next KK.out.date] at c12
    obtain ⟨D5, hD5⟩ : ∃ D5, (if M = 2 ∧ D = 29 then 28 else D) = D5 := ⟨_, rfl⟩
    rw [hD5] at c12
    rw [show ((Y + 1 : Nat) : Int) = (Y : Int) + 1 by omega] at c12
    have hY1 : (0 : Int) ≤ (Y : Int) := by omega
    have hY2 : (Y : Int) ≤ 9999 := by have := KK.out.date.y2; omega
    have HD5 := Lib.hid hD5
    clear e1 e2 hD5
    go_wp2_with fail
    refine (c12 V7 (HG.out.later hb8)).mono ?_
    rintro e w9 ⟨rfl, b9⟩
    unfold momV
    clear q0c0 q0c1 q0c2 q0c3 q0c4 q0c5 q0c6 q0c7 q0f0 q0f1 q0f2 q0f3 q0f4 q0f5 q0f6 q0f7 q0l
    have hb10 := hb8.trans (b9.mono hb8.size)
    have M0x10 := Lib.hid (M0x8.out.later b9)
    have M1x10 := Lib.hid (M1x8.out.later b9)
    have M2x10 := Lib.hid (MN7.out.later b9)
    clear c12
    have bn11 : Below w9.heap.size w9 (w9.alloc (.cells #[.int .i64 ((Y : Int) + 1), .int .i64 (M : Int), .int .i64 (D5 : Int), .int .i64 (H : Int), .int .i64 (I : Int), .string S, .int .i64 z, .bool has] 24)) := (Below.refl _ _).alloc (Nat.le_refl _) _
    have mn11 := MomAt.new w9 ((Y : Int) + 1) (M : Int) (D5 : Int) (H : Int) (I : Int) S z has
    obtain ⟨V11, hV11⟩ : ∃ W, (w9.alloc (.cells #[.int .i64 ((Y : Int) + 1), .int .i64 (M : Int), .int .i64 (D5 : Int), .int .i64 (H : Int), .int .i64 (I : Int), .string S, .int .i64 z, .bool has] 24)) = W := ⟨_, rfl⟩
    rw [hV11] at bn11 mn11
    have HV11 := Lib.hid hV11
    have ne11 : Hid (w.heap.size < w9.heap.size) := Lib.hid M0x10.out.lt
    have hb12 := hb10.trans (bn11.mono hb10.size)
    have M0x12 := Lib.hid (M0x10.out.later bn11)
    have M1x12 := Lib.hid (M1x10.out.later bn11)
    have M2x12 := Lib.hid (M2x10.out.later bn11)
    have MN11 := Lib.hid mn11
    clear hV11 mn11
    go_upto_region 11 with fail
    try rw [HV11.out]
    obtain ⟨q0c0, q0c1, q0c2, q0c3, q0c4, q0c5, q0c6, q0c7, q0f0, q0f1, q0f2, q0f3, q0f4, q0f5, q0f6, q0f7, q0l⟩ := M0x12.out
    go_wp2_with fail
    refine (cS V11 (HG.out.later hb12)).mono ?_
    rintro e w13 ⟨rfl, b13⟩
    clear q0c0 q0c1 q0c2 q0c3 q0c4 q0c5 q0c6 q0c7 q0f0 q0f1 q0f2 q0f3 q0f4 q0f5 q0f6 q0f7 q0l
    have hb14 := hb12.trans (b13.mono hb12.size)
    have M0x14 := Lib.hid (M0x12.out.later b13)
    have M1x14 := Lib.hid (M1x12.out.later b13)
    have M2x14 := Lib.hid (M2x12.out.later b13)
    have M3x14 := Lib.hid (MN11.out.later b13)
    clear cS
    obtain ⟨q0c0, q0c1, q0c2, q0c3, q0c4, q0c5, q0c6, q0c7, q0f0, q0f1, q0f2, q0f3, q0f4, q0f5, q0f6, q0f7, q0l⟩ := M0x14.out
    go_upto_region 14 with fail
    have ms15 := M0x14.out.set0 ((Y : Int) + 1)
    have mo15x1 := M1x14.out.other (W' := (w13.setCell ⟨w.heap.size, 0, none⟩ (.int .i64 ((Y : Int) + 1)))) (Below.heap_setCell _ _ _ _ (by have := ne3.out; show w1.heap.size ≠ w.heap.size; omega)) (by simp [World.setCell])
    have mo15x2 := M2x14.out.other (W' := (w13.setCell ⟨w.heap.size, 0, none⟩ (.int .i64 ((Y : Int) + 1)))) (Below.heap_setCell _ _ _ _ (by have := ne7.out; show w5.heap.size ≠ w.heap.size; omega)) (by simp [World.setCell])
    have mo15x3 := M3x14.out.other (W' := (w13.setCell ⟨w.heap.size, 0, none⟩ (.int .i64 ((Y : Int) + 1)))) (Below.heap_setCell _ _ _ _ (by have := ne11.out; show w9.heap.size ≠ w.heap.size; omega)) (by simp [World.setCell])
    have bs15 := hb14.setCell (p := ⟨w.heap.size, 0, none⟩) (Nat.le_refl _) (.int .i64 ((Y : Int) + 1))
    obtain ⟨V15, hV15⟩ : ∃ W, (w13.setCell ⟨w.heap.size, 0, none⟩ (.int .i64 ((Y : Int) + 1))) = W := ⟨_, rfl⟩
    rw [hV15] at ms15 bs15 mo15x1 mo15x2 mo15x3
    have HV15 := Lib.hid hV15
    have M0x15 := Lib.hid ms15
    have M1x15 := Lib.hid mo15x1
    have M2x15 := Lib.hid mo15x2
    have M3x15 := Lib.hid mo15x3
    clear hV15 ms15 mo15x1 mo15x2 mo15x3
    go_upto_region 15 with fail
    rw [HV15.out]
    clear q0c0 q0c1 q0c2 q0c3 q0c4 q0c5 q0c6 q0c7 q0f0 q0f1 q0f2 q0f3 q0f4 q0f5 q0f6 q0f7 q0l
    obtain ⟨q0c0, q0c1, q0c2, q0c3, q0c4, q0c5, q0c6, q0c7, q0f0, q0f1, q0f2, q0f3, q0f4, q0f5, q0f6, q0f7, q0l⟩ := M0x15.out
    by_cases hM : M = 2
    · have hMz : ((M : Int) == 2) = true := by rw [beq_iff_eq]; omega
      have HM := Lib.hid hM
      clear hM
      by_cases hD : D = 29
      · have hDz : ((D : Int) == 29) = true := by rw [beq_iff_eq]; omega
        obtain rfl : D5 = 28 := by rw [← HD5.out, if_pos ⟨HM.out, hD⟩]
        clear hD
        have ms16 := M0x15.out.set2 28
        have mo16x1 := M1x15.out.other (W' := (V15.setCell ⟨w.heap.size, 2, none⟩ (.int .i64 28))) (Below.heap_setCell _ _ _ _ (by have := ne3.out; show w1.heap.size ≠ w.heap.size; omega)) (by simp [World.setCell])
        have mo16x2 := M2x15.out.other (W' := (V15.setCell ⟨w.heap.size, 2, none⟩ (.int .i64 28))) (Below.heap_setCell _ _ _ _ (by have := ne7.out; show w5.heap.size ≠ w.heap.size; omega)) (by simp [World.setCell])
        have mo16x3 := M3x15.out.other (W' := (V15.setCell ⟨w.heap.size, 2, none⟩ (.int .i64 28))) (Below.heap_setCell _ _ _ _ (by have := ne11.out; show w9.heap.size ≠ w.heap.size; omega)) (by simp [World.setCell])
        have bs16 := bs15.setCell (p := ⟨w.heap.size, 2, none⟩) (Nat.le_refl _) (.int .i64 28)
        obtain ⟨V16, hV16⟩ : ∃ W, (V15.setCell ⟨w.heap.size, 2, none⟩ (.int .i64 28)) = W := ⟨_, rfl⟩
        rw [hV16] at ms16 bs16 mo16x1 mo16x2 mo16x3
        have HV16 := Lib.hid hV16
        have M0x16 := Lib.hid ms16
        have M1x16 := Lib.hid mo16x1
        have M2x16 := Lib.hid mo16x2
        have M3x16 := Lib.hid mo16x3
        clear hV16 ms16 mo16x1 mo16x2 mo16x3
        go_upto_region 17 with fail
        rw [HV16.out]
        clear q0c0 q0c1 q0c2 q0c3 q0c4 q0c5 q0c6 q0c7 q0f0 q0f1 q0f2 q0f3 q0f4 q0f5 q0f6 q0f7 q0l
        obtain ⟨q0c0, q0c1, q0c2, q0c3, q0c4, q0c5, q0c6, q0c7, q0f0, q0f1, q0f2, q0f3, q0f4, q0f5, q0f6, q0f7, q0l⟩ := M0x16.out
        obtain ⟨q3c0, q3c1, q3c2, q3c3, q3c4, q3c5, q3c6, q3c7, q3l⟩ := M3x16.out
        go_wp2_with fail
        refine (works_ti V16 (HG.out.later bs16)).mono ?_
        rintro e w17 ⟨rfl, b17⟩
        clear q0c0 q0c1 q0c2 q0c3 q0c4 q0c5 q0c6 q0c7 q0f0 q0f1 q0f2 q0f3 q0f4 q0f5 q0f6 q0f7 q0l q3c0 q3c1 q3c2 q3c3 q3c4 q3c5 q3c6 q3c7 q3l
        have hb18 := bs16.trans (b17.mono bs16.size)
        have M0x18 := Lib.hid (M0x16.out.later b17)
        have M1x18 := Lib.hid (M1x16.out.later b17)
        have M2x18 := Lib.hid (M2x16.out.later b17)
        have M3x18 := Lib.hid (M3x16.out.later b17)
        go_wp2_with fail
        go_ret
        exact ⟨rfl, hb18⟩
      · have hDz : ((D : Int) == 29) = false := beq_eq_false_iff_ne.2 (by omega)
        obtain rfl : D = D5 := by rw [← HD5.out, if_neg (fun q => hD q.2)]
        obtain ⟨q3c0, q3c1, q3c2, q3c3, q3c4, q3c5, q3c6, q3c7, q3l⟩ := M3x15.out
        go_wp2_with fail
        refine (works_ti V15 (HG.out.later bs15)).mono ?_
        rintro e w16 ⟨rfl, b16⟩
        clear q0c0 q0c1 q0c2 q0c3 q0c4 q0c5 q0c6 q0c7 q0f0 q0f1 q0f2 q0f3 q0f4 q0f5 q0f6 q0f7 q0l q3c0 q3c1 q3c2 q3c3 q3c4 q3c5 q3c6 q3c7 q3l
        have hb17 := bs15.trans (b16.mono bs15.size)
        have M0x17 := Lib.hid (M0x15.out.later b16)
        have M1x17 := Lib.hid (M1x15.out.later b16)
        have M2x17 := Lib.hid (M2x15.out.later b16)
        have M3x17 := Lib.hid (M3x15.out.later b16)
        go_wp2_with fail
        go_ret
        exact ⟨rfl, hb17⟩
    · have hMz : ((M : Int) == 2) = false := beq_eq_false_iff_ne.2 (by omega)
      obtain rfl : D = D5 := by rw [← HD5.out, if_neg (fun q => hM q.1)]
      obtain ⟨q3c0, q3c1, q3c2, q3c3, q3c4, q3c5, q3c6, q3c7, q3l⟩ := M3x15.out
      go_wp2_with fail
      refine (works_ti V15 (HG.out.later bs15)).mono ?_
      rintro e w16 ⟨rfl, b16⟩
      clear q0c0 q0c1 q0c2 q0c3 q0c4 q0c5 q0c6 q0c7 q0f0 q0f1 q0f2 q0f3 q0f4 q0f5 q0f6 q0f7 q0l q3c0 q3c1 q3c2 q3c3 q3c4 q3c5 q3c6 q3c7 q3l
      have hb17 := bs15.trans (b16.mono bs15.size)
      have M0x17 := Lib.hid (M0x15.out.later b16)
      have M1x17 := Lib.hid (M1x15.out.later b16)
      have M2x17 := Lib.hid (M2x15.out.later b16)
      have M3x17 := Lib.hid (M3x15.out.later b16)
      go_wp2_with fail
      go_ret
      exact ⟨rfl, hb17⟩
theorem months_law (y mo d h mi : Int) (S : ByteArray) (z : Int) (has : Bool) (n : Int) (w : World) (hg : GrT w) :
    Calls Tryz.prog 10 #[momV y mo d h mi S z has, .int .i64 n] w fun e w' => e = .returned (.bool true) ∧ Below w.heap.size w w' := by
  by_cases hl : 300 < S.size
  · exact months_long y mo d h mi S z has hl n w hg
  cases hv : validB y mo d h mi S.data.toList z has with
  | false => exact months_bad y mo d h mi S z has (by omega) hv n w hg
  | true =>
    obtain ⟨Y, M, D, H, I, mu, rfl, rfl, rfl, rfl, rfl, k⟩ := valid_mom hv
    by_cases hn : n < -(12 * ((Y : Int) - 1) + (M : Int) - 1) ∨ 119988 - (12 * ((Y : Int) - 1) + (M : Int) - 1) ≤ n
    · exact months_range Y M D H I mu S z has k (by omega) n hn w hg
    · exact months_ok Y M D H I mu S z has k (by omega) n (n + (12 * ((Y : Int) - 1) + (M : Int) - 1)).toNat (by omega) (by omega) w hg
end Go.Proofs.YtgmnjghbafbopaaGreatDoor

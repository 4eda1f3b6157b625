/- The law TimeZones: it answers true. -/
import Derived.Test.YtgmnjghbafbopaaGreatDoorMTiWorks
import Derived.Test.YtgmnjghbafbopaaGreatDoorMTiLawP
import Derived.Test.YtgmnjghbafbopaaGreatDoorMTiI
namespace Go.Proofs.YtgmnjghbafbopaaGreatDoor
open Go.RowKit Go.Lib

/-- A number of seconds has a text. -/
theorem secs_ex (n : Int) (h : n.natAbs < 10000000000000000000) : ∃ R : ByteArray, secT (decide (n < 0)) n.natAbs = (R.data.toList, 0) ∧ R.size ≤ 52 := by
  obtain ⟨t, h1, h2⟩ := resR_lt (decide (n < 0)) (n.natAbs * 10 ^ 14) (mic_lt (lt36 h))
  refine ⟨⟨t.toArray⟩, h1, ?_⟩
  rw [ba_size]
  exact textL_len h2
theorem secs_of (y mo d h mi mu : Nat) (S : ByteArray) (z : Int) (has : Bool) (k : MomOk y mo d h mi mu S z has) : ∃ R : ByteArray, secT (decide (secsZ y mo d h mi mu z < 0)) (secsZ y mo d h mi mu z).natAbs = (R.data.toList, 0) ∧ R.size ≤ 52 := by
  refine secs_ex _ ?_
  have := localN_lt k
  have := zone_in k.zone
  unfold secsZ
  omega
set_option maxRecDepth 100000 in
set_option maxHeartbeats 16000000 in
theorem zones_long (y mo d h mi : Int) (S : ByteArray) (z : Int) (has : Bool) (hl : 300 < S.size) (zn : Int) (w : World) (hg : GrT w) :
    Calls Tryz.prog 12 #[momV y mo d h mi S z has, .int .i64 zn] w fun e w' => e = .returned (.bool true) ∧ Below w.heap.size w w' := by
  have HG := Lib.hid hg
  unfold momV
  have hb0 : Below w.heap.size w (w.alloc (.cells #[.int .i64 y, .int .i64 mo, .int .i64 d, .int .i64 h, .int .i64 mi, .string S, .int .i64 z, .bool has] 24)) := (Below.refl _ _).alloc (Nat.le_refl _) _
  have hm0 := MomAt.new w y mo d h mi S z has
  obtain ⟨W1, hW1⟩ : ∃ W, (w.alloc (.cells #[.int .i64 y, .int .i64 mo, .int .i64 d, .int .i64 h, .int .i64 mi, .string S, .int .i64 z, .bool has] 24)) = W := ⟨_, rfl⟩
  rw [hW1] at hb0 hm0
  have HW1 := Lib.hid hW1
  have M0 := Lib.hid hm0
  clear hW1 hm0
  obtain ⟨q0c0, q0c1, q0c2, q0c3, q0c4, q0c5, q0c6, q0c7, q0l⟩ := M0.out
  have hlz : (300 : Int) < (S.size : Int) := by omega
  clear hg
  go_enter Tryz.func12, Tryz.ntmps12
  go_wp2_with fail
  try rw [HW1.out]
  try go_wp2_with fail
  refine (works_ti W1 (HG.out.later hb0)).mono ?_
  rintro e w1 ⟨rfl, b1⟩
  clear q0c0 q0c1 q0c2 q0c3 q0c4 q0c5 q0c6 q0c7 q0l
  have hb2 := hb0.trans (b1.mono hb0.size)
  have M0x2 := Lib.hid (M0.out.later b1)
  go_wp2_with fail
  go_ret
  exact ⟨rfl, hb2⟩
set_option maxRecDepth 100000 in
set_option maxHeartbeats 16000000 in
theorem zones_bad (y mo d h mi : Int) (S : ByteArray) (z : Int) (has : Bool) (hl : S.size ≤ 300) (hv : validB y mo d h mi S.data.toList z has = false) (zn : Int) (w : World) (hg : GrT w) :
    Calls Tryz.prog 12 #[momV y mo d h mi S z has, .int .i64 zn] w fun e w' => e = .returned (.bool true) ∧ Below w.heap.size w w' := by
  have HG := Lib.hid hg
  unfold momV
  have hb0 : Below w.heap.size w (w.alloc (.cells #[.int .i64 y, .int .i64 mo, .int .i64 d, .int .i64 h, .int .i64 mi, .string S, .int .i64 z, .bool has] 24)) := (Below.refl _ _).alloc (Nat.le_refl _) _
  have hm0 := MomAt.new w y mo d h mi S z has
  obtain ⟨W1, hW1⟩ : ∃ W, (w.alloc (.cells #[.int .i64 y, .int .i64 mo, .int .i64 d, .int .i64 h, .int .i64 mi, .string S, .int .i64 z, .bool has] 24)) = W := ⟨_, rfl⟩
  rw [hW1] at hb0 hm0
  have HW1 := Lib.hid hW1
  have M0 := Lib.hid hm0
  clear hW1 hm0
  obtain ⟨q0c0, q0c1, q0c2, q0c3, q0c4, q0c5, q0c6, q0c7, q0l⟩ := M0.out
  have hlz : ¬ (300 : Int) < (S.size : Int) := by omega
  clear hg
  go_enter Tryz.func12, Tryz.ntmps12
  go_wp2_with fail
  try rw [HW1.out]
  try go_wp2_with fail
  refine (seconds_bad y mo d h mi S z has (by omega) hv W1 (HG.out.later hb0)).mono ?_
  rintro e w1 ⟨rfl, b1⟩
  clear q0c0 q0c1 q0c2 q0c3 q0c4 q0c5 q0c6 q0c7 q0l
  have hb2 := hb0.trans (b1.mono hb0.size)
  have M0x2 := Lib.hid (M0.out.later b1)
  obtain ⟨q0c0, q0c1, q0c2, q0c3, q0c4, q0c5, q0c6, q0c7, q0l⟩ := M0x2.out
  go_wp2_with fail
  refine (adjust_bad y mo d h mi S z has (by omega) hv zn true w1 (HG.out.later hb2)).mono ?_
  rintro e w3 ⟨rfl, b3⟩
  unfold momZ momV
  clear q0c0 q0c1 q0c2 q0c3 q0c4 q0c5 q0c6 q0c7 q0l
  have hb4 := hb2.trans (b3.mono hb2.size)
  have M0x4 := Lib.hid (M0x2.out.later b3)
  have bn5 : Below w3.heap.size w3 (w3.alloc (.cells #[.int .i64 0, .int .i64 0, .int .i64 0, .int .i64 0, .int .i64 0, .string ⟨#[]⟩, .int .i64 0, .bool false] 24)) := (Below.refl _ _).alloc (Nat.le_refl _) _
  have mn5 := MomAt.new w3 0 0 0 0 0 ⟨#[]⟩ 0 false
  obtain ⟨V5, hV5⟩ : ∃ W, (w3.alloc (.cells #[.int .i64 0, .int .i64 0, .int .i64 0, .int .i64 0, .int .i64 0, .string ⟨#[]⟩, .int .i64 0, .bool false] 24)) = W := ⟨_, rfl⟩
  rw [hV5] at bn5 mn5
  have HV5 := Lib.hid hV5
  have hb6 := hb4.trans (bn5.mono hb4.size)
  have M0x6 := Lib.hid (M0x4.out.later bn5)
  have MN5 := Lib.hid mn5
  clear hV5 mn5
  go_upto_region 5 with fail
  try rw [HV5.out]
  obtain ⟨q0c0, q0c1, q0c2, q0c3, q0c4, q0c5, q0c6, q0c7, q0l⟩ := M0x6.out
  go_wp2_with fail
  refine (adjust_bad y mo d h mi S z has (by omega) hv zn false V5 (HG.out.later hb6)).mono ?_
  rintro e w7 ⟨rfl, b7⟩
  unfold momZ momV
  clear q0c0 q0c1 q0c2 q0c3 q0c4 q0c5 q0c6 q0c7 q0l
  have hb8 := hb6.trans (b7.mono hb6.size)
  have M0x8 := Lib.hid (M0x6.out.later b7)
  have M1x8 := Lib.hid (MN5.out.later b7)
  have bn9 : Below w7.heap.size w7 (w7.alloc (.cells #[.int .i64 0, .int .i64 0, .int .i64 0, .int .i64 0, .int .i64 0, .string ⟨#[]⟩, .int .i64 0, .bool false] 24)) := (Below.refl _ _).alloc (Nat.le_refl _) _
  have mn9 := MomAt.new w7 0 0 0 0 0 ⟨#[]⟩ 0 false
  obtain ⟨V9, hV9⟩ : ∃ W, (w7.alloc (.cells #[.int .i64 0, .int .i64 0, .int .i64 0, .int .i64 0, .int .i64 0, .string ⟨#[]⟩, .int .i64 0, .bool false] 24)) = W := ⟨_, rfl⟩
  rw [hV9] at bn9 mn9
  have HV9 := Lib.hid hV9
  have hb10 := hb8.trans (bn9.mono hb8.size)
  have M0x10 := Lib.hid (M0x8.out.later bn9)
  have M1x10 := Lib.hid (M1x8.out.later bn9)
  have MN9 := Lib.hid mn9
  clear hV9 mn9
  go_upto_region 6 with fail
  try rw [HV9.out]
  go_wp2_with fail
  refine (works_ti V9 (HG.out.later hb10)).mono ?_
  rintro e w11 ⟨rfl, b11⟩
  have hb12 := hb10.trans (b11.mono hb10.size)
  have M0x12 := Lib.hid (M0x10.out.later b11)
  have M1x12 := Lib.hid (M1x10.out.later b11)
  have M2x12 := Lib.hid (MN9.out.later b11)
  go_wp2_with fail
  go_ret
  exact ⟨rfl, hb12⟩
set_option maxRecDepth 100000 in
set_option maxHeartbeats 16000000 in
theorem zones_out (Y M D H I mu : Nat) (S : ByteArray) (z : Int) (k : MomOk Y M D H I mu S z true) (hl : S.size ≤ 300) (zn : Int) (hz : ¬ (-840 ≤ zn ∧ zn ≤ 840)) (w : World) (hg : GrT w) :
    Calls Tryz.prog 12 #[momV (Y : Int) (M : Int) (D : Int) (H : Int) (I : Int) S z true, .int .i64 zn] w fun e w' => e = .returned (.bool true) ∧ Below w.heap.size w w' := by
  have HG := Lib.hid hg
  unfold momV
  have hb0 : Below w.heap.size w (w.alloc (.cells #[.int .i64 (Y : Int), .int .i64 (M : Int), .int .i64 (D : Int), .int .i64 (H : Int), .int .i64 (I : Int), .string S, .int .i64 z, .bool true] 24)) := (Below.refl _ _).alloc (Nat.le_refl _) _
  have hm0 := MomAt.new w (Y : Int) (M : Int) (D : Int) (H : Int) (I : Int) S z true
  obtain ⟨W1, hW1⟩ : ∃ W, (w.alloc (.cells #[.int .i64 (Y : Int), .int .i64 (M : Int), .int .i64 (D : Int), .int .i64 (H : Int), .int .i64 (I : Int), .string S, .int .i64 z, .bool true] 24)) = W := ⟨_, rfl⟩
  rw [hW1] at hb0 hm0
  have HW1 := Lib.hid hW1
  have M0 := Lib.hid hm0
  clear hW1 hm0
  obtain ⟨q0c0, q0c1, q0c2, q0c3, q0c4, q0c5, q0c6, q0c7, q0l⟩ := M0.out
  have hlz : ¬ (300 : Int) < (S.size : Int) := by omega
  obtain ⟨R, hR, sR⟩ := secs_of Y M D H I mu S z true k
  have cS := seconds_ok Y M D H I mu S z true k R hR
  have KK := Lib.hid k

  clear hg
  go_enter Tryz.func12, Tryz.ntmps12
  go_wp2_with fail
  try rw [HW1.out]
  try go_wp2_with fail
  refine (cS W1 (HG.out.later hb0)).mono ?_
  rintro e w1 ⟨rfl, b1⟩
  clear q0c0 q0c1 q0c2 q0c3 q0c4 q0c5 q0c6 q0c7 q0l
  have hb2 := hb0.trans (b1.mono hb0.size)
  have M0x2 := Lib.hid (M0.out.later b1)
  obtain ⟨q0c0, q0c1, q0c2, q0c3, q0c4, q0c5, q0c6, q0c7, q0l⟩ := M0x2.out
  clear cS
  go_wp2_with fail
  refine (adjust_zone Y M D H I mu S z true KK.out zn hz w1 (HG.out.later hb2)).mono ?_
  rintro e w3 ⟨rfl, b3⟩
  unfold momZ momV
  clear q0c0 q0c1 q0c2 q0c3 q0c4 q0c5 q0c6 q0c7 q0l
  have hb4 := hb2.trans (b3.mono hb2.size)
  have M0x4 := Lib.hid (M0x2.out.later b3)
  have bn5 : Below w3.heap.size w3 (w3.alloc (.cells #[.int .i64 0, .int .i64 0, .int .i64 0, .int .i64 0, .int .i64 0, .string ⟨#[]⟩, .int .i64 0, .bool false] 24)) := (Below.refl _ _).alloc (Nat.le_refl _) _
  have mn5 := MomAt.new w3 0 0 0 0 0 ⟨#[]⟩ 0 false
  obtain ⟨V5, hV5⟩ : ∃ W, (w3.alloc (.cells #[.int .i64 0, .int .i64 0, .int .i64 0, .int .i64 0, .int .i64 0, .string ⟨#[]⟩, .int .i64 0, .bool false] 24)) = W := ⟨_, rfl⟩
  rw [hV5] at bn5 mn5
  have HV5 := Lib.hid hV5
  have hb6 := hb4.trans (bn5.mono hb4.size)
  have M0x6 := Lib.hid (M0x4.out.later bn5)
  have MN5 := Lib.hid mn5
  clear hV5 mn5
  go_upto_region 5 with fail
  try rw [HV5.out]
  obtain ⟨q0c0, q0c1, q0c2, q0c3, q0c4, q0c5, q0c6, q0c7, q0l⟩ := M0x6.out
  go_wp2_with fail
  refine (adjust_bare Y M D H I mu S z true KK.out zn V5 (HG.out.later hb6)).mono ?_
  rintro e w7 ⟨rfl, b7⟩
  unfold momV
  clear q0c0 q0c1 q0c2 q0c3 q0c4 q0c5 q0c6 q0c7 q0l
  have hb8 := hb6.trans (b7.mono hb6.size)
  have M0x8 := Lib.hid (M0x6.out.later b7)
  have M1x8 := Lib.hid (MN5.out.later b7)
  have bn9 : Below w7.heap.size w7 (w7.alloc (.cells #[.int .i64 (Y : Int), .int .i64 (M : Int), .int .i64 (D : Int), .int .i64 (H : Int), .int .i64 (I : Int), .string S, .int .i64 0, .bool false] 24)) := (Below.refl _ _).alloc (Nat.le_refl _) _
  have mn9 := MomAt.new w7 (Y : Int) (M : Int) (D : Int) (H : Int) (I : Int) S 0 false
  obtain ⟨V9, hV9⟩ : ∃ W, (w7.alloc (.cells #[.int .i64 (Y : Int), .int .i64 (M : Int), .int .i64 (D : Int), .int .i64 (H : Int), .int .i64 (I : Int), .string S, .int .i64 0, .bool false] 24)) = W := ⟨_, rfl⟩
  rw [hV9] at bn9 mn9
  have HV9 := Lib.hid hV9
  have hb10 := hb8.trans (bn9.mono hb8.size)
  have M0x10 := Lib.hid (M0x8.out.later bn9)
  have M1x10 := Lib.hid (M1x8.out.later bn9)
  have MN9 := Lib.hid mn9
  clear hV9 mn9
  go_upto_region 8 with fail
  try rw [HV9.out]
  obtain ⟨q0c0, q0c1, q0c2, q0c3, q0c4, q0c5, q0c6, q0c7, q0l⟩ := M0x10.out
  obtain ⟨q1c0, q1c1, q1c2, q1c3, q1c4, q1c5, q1c6, q1c7, q1l⟩ := M1x10.out
  obtain ⟨q2c0, q2c1, q2c2, q2c3, q2c4, q2c5, q2c6, q2c7, q2l⟩ := MN9.out
  have bn11 : Below V9.heap.size V9 (V9.alloc (.cells #[.int .i64 (Y : Int), .int .i64 (M : Int), .int .i64 (D : Int), .int .i64 (H : Int), .int .i64 (I : Int), .string S, .int .i64 0, .bool false] 24)) := (Below.refl _ _).alloc (Nat.le_refl _) _
  have mn11 := MomAt.new V9 (Y : Int) (M : Int) (D : Int) (H : Int) (I : Int) S 0 false
  obtain ⟨V11, hV11⟩ : ∃ W, (V9.alloc (.cells #[.int .i64 (Y : Int), .int .i64 (M : Int), .int .i64 (D : Int), .int .i64 (H : Int), .int .i64 (I : Int), .string S, .int .i64 0, .bool false] 24)) = W := ⟨_, rfl⟩
  rw [hV11] at bn11 mn11
  have HV11 := Lib.hid hV11
  have MN11 := Lib.hid mn11
  clear hV11 mn11
  go_upto_region 10 with fail
  rw [HV11.out]
  clear q0c0 q0c1 q0c2 q0c3 q0c4 q0c5 q0c6 q0c7 q0l q1c0 q1c1 q1c2 q1c3 q1c4 q1c5 q1c6 q1c7 q1l q2c0 q2c1 q2c2 q2c3 q2c4 q2c5 q2c6 q2c7 q2l
  have hb12 := hb10.trans (bn11.mono hb10.size)
  have M0x12 := Lib.hid (M0x10.out.later bn11)
  have M1x12 := Lib.hid (M1x10.out.later bn11)
  have M2x12 := Lib.hid (MN9.out.later bn11)
  obtain ⟨q0c0, q0c1, q0c2, q0c3, q0c4, q0c5, q0c6, q0c7, q0l⟩ := M0x12.out
  obtain ⟨q1c0, q1c1, q1c2, q1c3, q1c4, q1c5, q1c6, q1c7, q1l⟩ := M1x12.out
  obtain ⟨q2c0, q2c1, q2c2, q2c3, q2c4, q2c5, q2c6, q2c7, q2l⟩ := M2x12.out
  obtain ⟨q3c0, q3c1, q3c2, q3c3, q3c4, q3c5, q3c6, q3c7, q3l⟩ := MN11.out
  go_wp2_with fail
  refine (works_ti V11 (HG.out.later hb12)).mono ?_
  rintro e w13 ⟨rfl, b13⟩
  clear q0c0 q0c1 q0c2 q0c3 q0c4 q0c5 q0c6 q0c7 q0l q1c0 q1c1 q1c2 q1c3 q1c4 q1c5 q1c6 q1c7 q1l q2c0 q2c1 q2c2 q2c3 q2c4 q2c5 q2c6 q2c7 q2l q3c0 q3c1 q3c2 q3c3 q3c4 q3c5 q3c6 q3c7 q3l
  have hb14 := hb12.trans (b13.mono hb12.size)
  have M0x14 := Lib.hid (M0x12.out.later b13)
  have M1x14 := Lib.hid (M1x12.out.later b13)
  have M2x14 := Lib.hid (M2x12.out.later b13)
  have M3x14 := Lib.hid (MN11.out.later b13)
  go_wp2_with fail
  go_ret
  exact ⟨rfl, hb14⟩
set_option maxRecDepth 100000 in
set_option maxHeartbeats 16000000 in
theorem zones_out0 (Y M D H I mu : Nat) (S : ByteArray) (k : MomOk Y M D H I mu S 0 false) (hl : S.size ≤ 300) (zn : Int) (hz : ¬ (-840 ≤ zn ∧ zn ≤ 840)) (w : World) (hg : GrT w) :
    Calls Tryz.prog 12 #[momV (Y : Int) (M : Int) (D : Int) (H : Int) (I : Int) S 0 false, .int .i64 zn] w fun e w' => e = .returned (.bool true) ∧ Below w.heap.size w w' := by
  have HG := Lib.hid hg
  unfold momV
  have hb0 : Below w.heap.size w (w.alloc (.cells #[.int .i64 (Y : Int), .int .i64 (M : Int), .int .i64 (D : Int), .int .i64 (H : Int), .int .i64 (I : Int), .string S, .int .i64 0, .bool false] 24)) := (Below.refl _ _).alloc (Nat.le_refl _) _
  have hm0 := MomAt.new w (Y : Int) (M : Int) (D : Int) (H : Int) (I : Int) S 0 false
  obtain ⟨W1, hW1⟩ : ∃ W, (w.alloc (.cells #[.int .i64 (Y : Int), .int .i64 (M : Int), .int .i64 (D : Int), .int .i64 (H : Int), .int .i64 (I : Int), .string S, .int .i64 0, .bool false] 24)) = W := ⟨_, rfl⟩
  rw [hW1] at hb0 hm0
  have HW1 := Lib.hid hW1
  have M0 := Lib.hid hm0
  clear hW1 hm0
  obtain ⟨q0c0, q0c1, q0c2, q0c3, q0c4, q0c5, q0c6, q0c7, q0l⟩ := M0.out
  have hlz : ¬ (300 : Int) < (S.size : Int) := by omega
  obtain ⟨R, hR, sR⟩ := secs_of Y M D H I mu S 0 false k
  have cS := seconds_ok Y M D H I mu S 0 false k R hR
  have KK := Lib.hid k

  clear hg
  go_enter Tryz.func12, Tryz.ntmps12
  go_wp2_with fail
  try rw [HW1.out]
  try go_wp2_with fail
  refine (cS W1 (HG.out.later hb0)).mono ?_
  rintro e w1 ⟨rfl, b1⟩
  clear q0c0 q0c1 q0c2 q0c3 q0c4 q0c5 q0c6 q0c7 q0l
  have hb2 := hb0.trans (b1.mono hb0.size)
  have M0x2 := Lib.hid (M0.out.later b1)
  obtain ⟨q0c0, q0c1, q0c2, q0c3, q0c4, q0c5, q0c6, q0c7, q0l⟩ := M0x2.out
  clear cS
  go_wp2_with fail
  refine (adjust_zone Y M D H I mu S 0 false KK.out zn hz w1 (HG.out.later hb2)).mono ?_
  rintro e w3 ⟨rfl, b3⟩
  unfold momZ momV
  clear q0c0 q0c1 q0c2 q0c3 q0c4 q0c5 q0c6 q0c7 q0l
  have hb4 := hb2.trans (b3.mono hb2.size)
  have M0x4 := Lib.hid (M0x2.out.later b3)
  have bn5 : Below w3.heap.size w3 (w3.alloc (.cells #[.int .i64 0, .int .i64 0, .int .i64 0, .int .i64 0, .int .i64 0, .string ⟨#[]⟩, .int .i64 0, .bool false] 24)) := (Below.refl _ _).alloc (Nat.le_refl _) _
  have mn5 := MomAt.new w3 0 0 0 0 0 ⟨#[]⟩ 0 false
  obtain ⟨V5, hV5⟩ : ∃ W, (w3.alloc (.cells #[.int .i64 0, .int .i64 0, .int .i64 0, .int .i64 0, .int .i64 0, .string ⟨#[]⟩, .int .i64 0, .bool false] 24)) = W := ⟨_, rfl⟩
  rw [hV5] at bn5 mn5
  have HV5 := Lib.hid hV5
  have hb6 := hb4.trans (bn5.mono hb4.size)
  have M0x6 := Lib.hid (M0x4.out.later bn5)
  have MN5 := Lib.hid mn5
  clear hV5 mn5
  go_upto_region 5 with fail
  try rw [HV5.out]
  obtain ⟨q0c0, q0c1, q0c2, q0c3, q0c4, q0c5, q0c6, q0c7, q0l⟩ := M0x6.out
  go_wp2_with fail
  refine (adjust_bare Y M D H I mu S 0 false KK.out zn V5 (HG.out.later hb6)).mono ?_
  rintro e w7 ⟨rfl, b7⟩
  unfold momV
  clear q0c0 q0c1 q0c2 q0c3 q0c4 q0c5 q0c6 q0c7 q0l
  have hb8 := hb6.trans (b7.mono hb6.size)
  have M0x8 := Lib.hid (M0x6.out.later b7)
  have M1x8 := Lib.hid (MN5.out.later b7)
  have bn9 : Below w7.heap.size w7 (w7.alloc (.cells #[.int .i64 (Y : Int), .int .i64 (M : Int), .int .i64 (D : Int), .int .i64 (H : Int), .int .i64 (I : Int), .string S, .int .i64 0, .bool false] 24)) := (Below.refl _ _).alloc (Nat.le_refl _) _
  have mn9 := MomAt.new w7 (Y : Int) (M : Int) (D : Int) (H : Int) (I : Int) S 0 false
  obtain ⟨V9, hV9⟩ : ∃ W, (w7.alloc (.cells #[.int .i64 (Y : Int), .int .i64 (M : Int), .int .i64 (D : Int), .int .i64 (H : Int), .int .i64 (I : Int), .string S, .int .i64 0, .bool false] 24)) = W := ⟨_, rfl⟩
  rw [hV9] at bn9 mn9
  have HV9 := Lib.hid hV9
  have hb10 := hb8.trans (bn9.mono hb8.size)
  have M0x10 := Lib.hid (M0x8.out.later bn9)
  have M1x10 := Lib.hid (M1x8.out.later bn9)
  have MN9 := Lib.hid mn9
  clear hV9 mn9
  go_upto_region 8 with fail
  try rw [HV9.out]
  obtain ⟨q0c0, q0c1, q0c2, q0c3, q0c4, q0c5, q0c6, q0c7, q0l⟩ := M0x10.out
  obtain ⟨q1c0, q1c1, q1c2, q1c3, q1c4, q1c5, q1c6, q1c7, q1l⟩ := M1x10.out
  obtain ⟨q2c0, q2c1, q2c2, q2c3, q2c4, q2c5, q2c6, q2c7, q2l⟩ := MN9.out
  have bn11 : Below V9.heap.size V9 (V9.alloc (.cells #[.int .i64 (Y : Int), .int .i64 (M : Int), .int .i64 (D : Int), .int .i64 (H : Int), .int .i64 (I : Int), .string S, .int .i64 0, .bool false] 24)) := (Below.refl _ _).alloc (Nat.le_refl _) _
  have mn11 := MomAt.new V9 (Y : Int) (M : Int) (D : Int) (H : Int) (I : Int) S 0 false
  obtain ⟨V11, hV11⟩ : ∃ W, (V9.alloc (.cells #[.int .i64 (Y : Int), .int .i64 (M : Int), .int .i64 (D : Int), .int .i64 (H : Int), .int .i64 (I : Int), .string S, .int .i64 0, .bool false] 24)) = W := ⟨_, rfl⟩
  rw [hV11] at bn11 mn11
  have HV11 := Lib.hid hV11
  have MN11 := Lib.hid mn11
  clear hV11 mn11
  go_upto_region 10 with fail
  rw [HV11.out]
  clear q0c0 q0c1 q0c2 q0c3 q0c4 q0c5 q0c6 q0c7 q0l q1c0 q1c1 q1c2 q1c3 q1c4 q1c5 q1c6 q1c7 q1l q2c0 q2c1 q2c2 q2c3 q2c4 q2c5 q2c6 q2c7 q2l
  have hb12 := hb10.trans (bn11.mono hb10.size)
  have M0x12 := Lib.hid (M0x10.out.later bn11)
  have M1x12 := Lib.hid (M1x10.out.later bn11)
  have M2x12 := Lib.hid (MN9.out.later bn11)
  obtain ⟨q0c0, q0c1, q0c2, q0c3, q0c4, q0c5, q0c6, q0c7, q0l⟩ := M0x12.out
  obtain ⟨q1c0, q1c1, q1c2, q1c3, q1c4, q1c5, q1c6, q1c7, q1l⟩ := M1x12.out
  obtain ⟨q2c0, q2c1, q2c2, q2c3, q2c4, q2c5, q2c6, q2c7, q2l⟩ := M2x12.out
  obtain ⟨q3c0, q3c1, q3c2, q3c3, q3c4, q3c5, q3c6, q3c7, q3l⟩ := MN11.out
  go_wp2_with fail
  refine (works_ti V11 (HG.out.later hb12)).mono ?_
  rintro e w13 ⟨rfl, b13⟩
  clear q0c0 q0c1 q0c2 q0c3 q0c4 q0c5 q0c6 q0c7 q0l q1c0 q1c1 q1c2 q1c3 q1c4 q1c5 q1c6 q1c7 q1l q2c0 q2c1 q2c2 q2c3 q2c4 q2c5 q2c6 q2c7 q2l q3c0 q3c1 q3c2 q3c3 q3c4 q3c5 q3c6 q3c7 q3l
  have hb14 := hb12.trans (b13.mono hb12.size)
  have M0x14 := Lib.hid (M0x12.out.later b13)
  have M1x14 := Lib.hid (M1x12.out.later b13)
  have M2x14 := Lib.hid (M2x12.out.later b13)
  have M3x14 := Lib.hid (MN11.out.later b13)
  go_wp2_with fail
  go_ret
  exact ⟨rfl, hb14⟩
set_option maxRecDepth 100000 in
set_option maxHeartbeats 16000000 in
theorem zones_far (Y M D H I mu : Nat) (S : ByteArray) (z : Int) (k : MomOk Y M D H I mu S z true) (hl : S.size ≤ 300) (zn : Int) (hz : -840 ≤ zn ∧ zn ≤ 840) (hn : (zn - z) * 60000000 < -(localN Y M D H I mu : Int) ∨ 315537897600000000 - (localN Y M D H I mu : Int) ≤ (zn - z) * 60000000) (w : World) (hg : GrT w) :
    Calls Tryz.prog 12 #[momV (Y : Int) (M : Int) (D : Int) (H : Int) (I : Int) S z true, .int .i64 zn] w fun e w' => e = .returned (.bool true) ∧ Below w.heap.size w w' := by
  have HG := Lib.hid hg
  unfold momV
  have hb0 : Below w.heap.size w (w.alloc (.cells #[.int .i64 (Y : Int), .int .i64 (M : Int), .int .i64 (D : Int), .int .i64 (H : Int), .int .i64 (I : Int), .string S, .int .i64 z, .bool true] 24)) := (Below.refl _ _).alloc (Nat.le_refl _) _
  have hm0 := MomAt.new w (Y : Int) (M : Int) (D : Int) (H : Int) (I : Int) S z true
  obtain ⟨W1, hW1⟩ : ∃ W, (w.alloc (.cells #[.int .i64 (Y : Int), .int .i64 (M : Int), .int .i64 (D : Int), .int .i64 (H : Int), .int .i64 (I : Int), .string S, .int .i64 z, .bool true] 24)) = W := ⟨_, rfl⟩
  rw [hW1] at hb0 hm0
  have HW1 := Lib.hid hW1
  have M0 := Lib.hid hm0
  clear hW1 hm0
  obtain ⟨q0c0, q0c1, q0c2, q0c3, q0c4, q0c5, q0c6, q0c7, q0l⟩ := M0.out
  have hlz : ¬ (300 : Int) < (S.size : Int) := by omega
  obtain ⟨R, hR, sR⟩ := secs_of Y M D H I mu S z true k
  have cS := seconds_ok Y M D H I mu S z true k R hR
  have KK := Lib.hid k
  have HN := Lib.hid hn
  clear hn
  clear hg
  go_enter Tryz.func12, Tryz.ntmps12
  go_wp2_with fail
  try rw [HW1.out]
  try go_wp2_with fail
  refine (cS W1 (HG.out.later hb0)).mono ?_
  rintro e w1 ⟨rfl, b1⟩
  clear q0c0 q0c1 q0c2 q0c3 q0c4 q0c5 q0c6 q0c7 q0l
  have hb2 := hb0.trans (b1.mono hb0.size)
  have M0x2 := Lib.hid (M0.out.later b1)
  obtain ⟨q0c0, q0c1, q0c2, q0c3, q0c4, q0c5, q0c6, q0c7, q0l⟩ := M0x2.out
  clear cS
  go_wp2_with fail
  refine (adjust_far Y M D H I mu S z KK.out zn hz HN.out w1 (HG.out.later hb2)).mono ?_
  rintro e w3 ⟨rfl, b3⟩
  unfold momZ momV
  clear q0c0 q0c1 q0c2 q0c3 q0c4 q0c5 q0c6 q0c7 q0l
  have hb4 := hb2.trans (b3.mono hb2.size)
  have M0x4 := Lib.hid (M0x2.out.later b3)
  have bn5 : Below w3.heap.size w3 (w3.alloc (.cells #[.int .i64 0, .int .i64 0, .int .i64 0, .int .i64 0, .int .i64 0, .string ⟨#[]⟩, .int .i64 0, .bool false] 24)) := (Below.refl _ _).alloc (Nat.le_refl _) _
  have mn5 := MomAt.new w3 0 0 0 0 0 ⟨#[]⟩ 0 false
  obtain ⟨V5, hV5⟩ : ∃ W, (w3.alloc (.cells #[.int .i64 0, .int .i64 0, .int .i64 0, .int .i64 0, .int .i64 0, .string ⟨#[]⟩, .int .i64 0, .bool false] 24)) = W := ⟨_, rfl⟩
  rw [hV5] at bn5 mn5
  have HV5 := Lib.hid hV5
  have hb6 := hb4.trans (bn5.mono hb4.size)
  have M0x6 := Lib.hid (M0x4.out.later bn5)
  have MN5 := Lib.hid mn5
  clear hV5 mn5
  go_upto_region 5 with fail
  try rw [HV5.out]
  obtain ⟨q0c0, q0c1, q0c2, q0c3, q0c4, q0c5, q0c6, q0c7, q0l⟩ := M0x6.out
  go_wp2_with fail
  refine (adjust_bare Y M D H I mu S z true KK.out zn V5 (HG.out.later hb6)).mono ?_
  rintro e w7 ⟨rfl, b7⟩
  unfold momV
  clear q0c0 q0c1 q0c2 q0c3 q0c4 q0c5 q0c6 q0c7 q0l
  have hb8 := hb6.trans (b7.mono hb6.size)
  have M0x8 := Lib.hid (M0x6.out.later b7)
  have M1x8 := Lib.hid (MN5.out.later b7)
  have bn9 : Below w7.heap.size w7 (w7.alloc (.cells #[.int .i64 (Y : Int), .int .i64 (M : Int), .int .i64 (D : Int), .int .i64 (H : Int), .int .i64 (I : Int), .string S, .int .i64 0, .bool false] 24)) := (Below.refl _ _).alloc (Nat.le_refl _) _
  have mn9 := MomAt.new w7 (Y : Int) (M : Int) (D : Int) (H : Int) (I : Int) S 0 false
  obtain ⟨V9, hV9⟩ : ∃ W, (w7.alloc (.cells #[.int .i64 (Y : Int), .int .i64 (M : Int), .int .i64 (D : Int), .int .i64 (H : Int), .int .i64 (I : Int), .string S, .int .i64 0, .bool false] 24)) = W := ⟨_, rfl⟩
  rw [hV9] at bn9 mn9
  have HV9 := Lib.hid hV9
  have hb10 := hb8.trans (bn9.mono hb8.size)
  have M0x10 := Lib.hid (M0x8.out.later bn9)
  have M1x10 := Lib.hid (M1x8.out.later bn9)
  have MN9 := Lib.hid mn9
  clear hV9 mn9
  go_upto_region 8 with fail
  try rw [HV9.out]
  obtain ⟨q0c0, q0c1, q0c2, q0c3, q0c4, q0c5, q0c6, q0c7, q0l⟩ := M0x10.out
  obtain ⟨q1c0, q1c1, q1c2, q1c3, q1c4, q1c5, q1c6, q1c7, q1l⟩ := M1x10.out
  obtain ⟨q2c0, q2c1, q2c2, q2c3, q2c4, q2c5, q2c6, q2c7, q2l⟩ := MN9.out
  have bn11 : Below V9.heap.size V9 (V9.alloc (.cells #[.int .i64 (Y : Int), .int .i64 (M : Int), .int .i64 (D : Int), .int .i64 (H : Int), .int .i64 (I : Int), .string S, .int .i64 0, .bool false] 24)) := (Below.refl _ _).alloc (Nat.le_refl _) _
  have mn11 := MomAt.new V9 (Y : Int) (M : Int) (D : Int) (H : Int) (I : Int) S 0 false
  obtain ⟨V11, hV11⟩ : ∃ W, (V9.alloc (.cells #[.int .i64 (Y : Int), .int .i64 (M : Int), .int .i64 (D : Int), .int .i64 (H : Int), .int .i64 (I : Int), .string S, .int .i64 0, .bool false] 24)) = W := ⟨_, rfl⟩
  rw [hV11] at bn11 mn11
  have HV11 := Lib.hid hV11
  have MN11 := Lib.hid mn11
  clear hV11 mn11
  go_upto_region 10 with fail
  rw [HV11.out]
  clear q0c0 q0c1 q0c2 q0c3 q0c4 q0c5 q0c6 q0c7 q0l q1c0 q1c1 q1c2 q1c3 q1c4 q1c5 q1c6 q1c7 q1l q2c0 q2c1 q2c2 q2c3 q2c4 q2c5 q2c6 q2c7 q2l
  have hb12 := hb10.trans (bn11.mono hb10.size)
  have M0x12 := Lib.hid (M0x10.out.later bn11)
  have M1x12 := Lib.hid (M1x10.out.later bn11)
  have M2x12 := Lib.hid (MN9.out.later bn11)
  obtain ⟨q0c0, q0c1, q0c2, q0c3, q0c4, q0c5, q0c6, q0c7, q0l⟩ := M0x12.out
  obtain ⟨q1c0, q1c1, q1c2, q1c3, q1c4, q1c5, q1c6, q1c7, q1l⟩ := M1x12.out
  obtain ⟨q2c0, q2c1, q2c2, q2c3, q2c4, q2c5, q2c6, q2c7, q2l⟩ := M2x12.out
  obtain ⟨q3c0, q3c1, q3c2, q3c3, q3c4, q3c5, q3c6, q3c7, q3l⟩ := MN11.out
  go_wp2_with fail
  refine (works_ti V11 (HG.out.later hb12)).mono ?_
  rintro e w13 ⟨rfl, b13⟩
  clear q0c0 q0c1 q0c2 q0c3 q0c4 q0c5 q0c6 q0c7 q0l q1c0 q1c1 q1c2 q1c3 q1c4 q1c5 q1c6 q1c7 q1l q2c0 q2c1 q2c2 q2c3 q2c4 q2c5 q2c6 q2c7 q2l q3c0 q3c1 q3c2 q3c3 q3c4 q3c5 q3c6 q3c7 q3l
  have hb14 := hb12.trans (b13.mono hb12.size)
  have M0x14 := Lib.hid (M0x12.out.later b13)
  have M1x14 := Lib.hid (M1x12.out.later b13)
  have M2x14 := Lib.hid (M2x12.out.later b13)
  have M3x14 := Lib.hid (MN11.out.later b13)
  go_wp2_with fail
  go_ret
  exact ⟨rfl, hb14⟩
set_option maxRecDepth 100000 in
set_option maxHeartbeats 16000000 in
theorem zones_set (Y M D H I mu : Nat) (S : ByteArray) (k : MomOk Y M D H I mu S 0 false) (hl : S.size ≤ 300) (zn : Int) (hz : -840 ≤ zn ∧ zn ≤ 840) (w : World) (hg : GrT w) :
    Calls Tryz.prog 12 #[momV (Y : Int) (M : Int) (D : Int) (H : Int) (I : Int) S 0 false, .int .i64 zn] w fun e w' => e = .returned (.bool true) ∧ Below w.heap.size w w' := by
  have HG := Lib.hid hg
  unfold momV
  have hb0 : Below w.heap.size w (w.alloc (.cells #[.int .i64 (Y : Int), .int .i64 (M : Int), .int .i64 (D : Int), .int .i64 (H : Int), .int .i64 (I : Int), .string S, .int .i64 0, .bool false] 24)) := (Below.refl _ _).alloc (Nat.le_refl _) _
  have hm0 := MomAt.new w (Y : Int) (M : Int) (D : Int) (H : Int) (I : Int) S 0 false
  obtain ⟨W1, hW1⟩ : ∃ W, (w.alloc (.cells #[.int .i64 (Y : Int), .int .i64 (M : Int), .int .i64 (D : Int), .int .i64 (H : Int), .int .i64 (I : Int), .string S, .int .i64 0, .bool false] 24)) = W := ⟨_, rfl⟩
  rw [hW1] at hb0 hm0
  have HW1 := Lib.hid hW1
  have M0 := Lib.hid hm0
  clear hW1 hm0
  obtain ⟨q0c0, q0c1, q0c2, q0c3, q0c4, q0c5, q0c6, q0c7, q0l⟩ := M0.out
  have hlz : ¬ (300 : Int) < (S.size : Int) := by omega
  obtain ⟨R, hR, sR⟩ := secs_of Y M D H I mu S 0 false k
  have cS := seconds_ok Y M D H I mu S 0 false k R hR
  have KK := Lib.hid k

  clear hg
  go_enter Tryz.func12, Tryz.ntmps12
  go_wp2_with fail
  try rw [HW1.out]
  try go_wp2_with fail
  refine (cS W1 (HG.out.later hb0)).mono ?_
  rintro e w1 ⟨rfl, b1⟩
  clear q0c0 q0c1 q0c2 q0c3 q0c4 q0c5 q0c6 q0c7 q0l
  have hb2 := hb0.trans (b1.mono hb0.size)
  have M0x2 := Lib.hid (M0.out.later b1)
  obtain ⟨q0c0, q0c1, q0c2, q0c3, q0c4, q0c5, q0c6, q0c7, q0l⟩ := M0x2.out
  clear cS
  go_wp2_with fail
  refine (adjust_set Y M D H I mu S 0 KK.out zn hz w1 (HG.out.later hb2)).mono ?_
  rintro e w3 ⟨rfl, b3⟩
  unfold momV
  clear q0c0 q0c1 q0c2 q0c3 q0c4 q0c5 q0c6 q0c7 q0l
  have hb4 := hb2.trans (b3.mono hb2.size)
  have M0x4 := Lib.hid (M0x2.out.later b3)
  have bn5 : Below w3.heap.size w3 (w3.alloc (.cells #[.int .i64 (Y : Int), .int .i64 (M : Int), .int .i64 (D : Int), .int .i64 (H : Int), .int .i64 (I : Int), .string S, .int .i64 zn, .bool true] 24)) := (Below.refl _ _).alloc (Nat.le_refl _) _
  have mn5 := MomAt.new w3 (Y : Int) (M : Int) (D : Int) (H : Int) (I : Int) S zn true
  obtain ⟨V5, hV5⟩ : ∃ W, (w3.alloc (.cells #[.int .i64 (Y : Int), .int .i64 (M : Int), .int .i64 (D : Int), .int .i64 (H : Int), .int .i64 (I : Int), .string S, .int .i64 zn, .bool true] 24)) = W := ⟨_, rfl⟩
  rw [hV5] at bn5 mn5
  have HV5 := Lib.hid hV5
  have hb6 := hb4.trans (bn5.mono hb4.size)
  have M0x6 := Lib.hid (M0x4.out.later bn5)
  have MN5 := Lib.hid mn5
  clear hV5 mn5
  go_upto_region 5 with fail
  try rw [HV5.out]
  obtain ⟨q0c0, q0c1, q0c2, q0c3, q0c4, q0c5, q0c6, q0c7, q0l⟩ := M0x6.out
  go_wp2_with fail
  refine (adjust_bare Y M D H I mu S 0 false KK.out zn V5 (HG.out.later hb6)).mono ?_
  rintro e w7 ⟨rfl, b7⟩
  unfold momV
  clear q0c0 q0c1 q0c2 q0c3 q0c4 q0c5 q0c6 q0c7 q0l
  have hb8 := hb6.trans (b7.mono hb6.size)
  have M0x8 := Lib.hid (M0x6.out.later b7)
  have M1x8 := Lib.hid (MN5.out.later b7)
  have bn9 : Below w7.heap.size w7 (w7.alloc (.cells #[.int .i64 (Y : Int), .int .i64 (M : Int), .int .i64 (D : Int), .int .i64 (H : Int), .int .i64 (I : Int), .string S, .int .i64 0, .bool false] 24)) := (Below.refl _ _).alloc (Nat.le_refl _) _
  have mn9 := MomAt.new w7 (Y : Int) (M : Int) (D : Int) (H : Int) (I : Int) S 0 false
  obtain ⟨V9, hV9⟩ : ∃ W, (w7.alloc (.cells #[.int .i64 (Y : Int), .int .i64 (M : Int), .int .i64 (D : Int), .int .i64 (H : Int), .int .i64 (I : Int), .string S, .int .i64 0, .bool false] 24)) = W := ⟨_, rfl⟩
  rw [hV9] at bn9 mn9
  have HV9 := Lib.hid hV9
  have hb10 := hb8.trans (bn9.mono hb8.size)
  have M0x10 := Lib.hid (M0x8.out.later bn9)
  have M1x10 := Lib.hid (M1x8.out.later bn9)
  have MN9 := Lib.hid mn9
  clear hV9 mn9
  go_upto_region 8 with fail
  try rw [HV9.out]
  obtain ⟨q0c0, q0c1, q0c2, q0c3, q0c4, q0c5, q0c6, q0c7, q0l⟩ := M0x10.out
  obtain ⟨q1c0, q1c1, q1c2, q1c3, q1c4, q1c5, q1c6, q1c7, q1l⟩ := M1x10.out
  obtain ⟨q2c0, q2c1, q2c2, q2c3, q2c4, q2c5, q2c6, q2c7, q2l⟩ := MN9.out
  have bn11 : Below V9.heap.size V9 (V9.alloc (.cells #[.int .i64 (Y : Int), .int .i64 (M : Int), .int .i64 (D : Int), .int .i64 (H : Int), .int .i64 (I : Int), .string S, .int .i64 0, .bool false] 24)) := (Below.refl _ _).alloc (Nat.le_refl _) _
  have mn11 := MomAt.new V9 (Y : Int) (M : Int) (D : Int) (H : Int) (I : Int) S 0 false
  obtain ⟨V11, hV11⟩ : ∃ W, (V9.alloc (.cells #[.int .i64 (Y : Int), .int .i64 (M : Int), .int .i64 (D : Int), .int .i64 (H : Int), .int .i64 (I : Int), .string S, .int .i64 0, .bool false] 24)) = W := ⟨_, rfl⟩
  rw [hV11] at bn11 mn11
  have HV11 := Lib.hid hV11
  have MN11 := Lib.hid mn11
  clear hV11 mn11
  go_upto_region 10 with fail
  rw [HV11.out]
  clear q0c0 q0c1 q0c2 q0c3 q0c4 q0c5 q0c6 q0c7 q0l q1c0 q1c1 q1c2 q1c3 q1c4 q1c5 q1c6 q1c7 q1l q2c0 q2c1 q2c2 q2c3 q2c4 q2c5 q2c6 q2c7 q2l
  have hb12 := hb10.trans (bn11.mono hb10.size)
  have M0x12 := Lib.hid (M0x10.out.later bn11)
  have M1x12 := Lib.hid (M1x10.out.later bn11)
  have M2x12 := Lib.hid (MN9.out.later bn11)
  obtain ⟨q0c0, q0c1, q0c2, q0c3, q0c4, q0c5, q0c6, q0c7, q0l⟩ := M0x12.out
  obtain ⟨q1c0, q1c1, q1c2, q1c3, q1c4, q1c5, q1c6, q1c7, q1l⟩ := M1x12.out
  obtain ⟨q2c0, q2c1, q2c2, q2c3, q2c4, q2c5, q2c6, q2c7, q2l⟩ := M2x12.out
  obtain ⟨q3c0, q3c1, q3c2, q3c3, q3c4, q3c5, q3c6, q3c7, q3l⟩ := MN11.out
  have k2 : MomOk Y M D H I mu S zn true := ⟨KK.out.date, KK.out.hour, KK.out.minute, KK.out.micro, KK.out.sec, by unfold zoneB; rw [if_pos rfl, decide_eq_true hz.1, decide_eq_true hz.2]; rfl⟩
  obtain ⟨R2, hR2, sR2⟩ := secs_of Y M D H I mu S zn true k2
  have cS2 := seconds_ok Y M D H I mu S zn true k2 R2 hR2
  have n1 : (zn != zn) = false := by simp
  go_wp2_with fail
  refine (cS2 V11 (HG.out.later hb12)).mono ?_
  rintro e w13 ⟨rfl, b13⟩
  clear q0c0 q0c1 q0c2 q0c3 q0c4 q0c5 q0c6 q0c7 q0l q1c0 q1c1 q1c2 q1c3 q1c4 q1c5 q1c6 q1c7 q1l q2c0 q2c1 q2c2 q2c3 q2c4 q2c5 q2c6 q2c7 q2l q3c0 q3c1 q3c2 q3c3 q3c4 q3c5 q3c6 q3c7 q3l
  have hb14 := hb12.trans (b13.mono hb12.size)
  have M0x14 := Lib.hid (M0x12.out.later b13)
  have M1x14 := Lib.hid (M1x12.out.later b13)
  have M2x14 := Lib.hid (M2x12.out.later b13)
  have M3x14 := Lib.hid (MN11.out.later b13)
  clear cS2
  obtain ⟨q0c0, q0c1, q0c2, q0c3, q0c4, q0c5, q0c6, q0c7, q0l⟩ := M0x14.out
  obtain ⟨q1c0, q1c1, q1c2, q1c3, q1c4, q1c5, q1c6, q1c7, q1l⟩ := M1x14.out
  go_wp2_with fail
  refine (adjust_bare Y M D H I mu S zn true k2 0 w13 (HG.out.later hb14)).mono ?_
  rintro e w15 ⟨rfl, b15⟩
  unfold momV
  clear q0c0 q0c1 q0c2 q0c3 q0c4 q0c5 q0c6 q0c7 q0l q1c0 q1c1 q1c2 q1c3 q1c4 q1c5 q1c6 q1c7 q1l
  have hb16 := hb14.trans (b15.mono hb14.size)
  have M0x16 := Lib.hid (M0x14.out.later b15)
  have M1x16 := Lib.hid (M1x14.out.later b15)
  have M2x16 := Lib.hid (M2x14.out.later b15)
  have M3x16 := Lib.hid (M3x14.out.later b15)
  have bn17 : Below w15.heap.size w15 (w15.alloc (.cells #[.int .i64 (Y : Int), .int .i64 (M : Int), .int .i64 (D : Int), .int .i64 (H : Int), .int .i64 (I : Int), .string S, .int .i64 0, .bool false] 24)) := (Below.refl _ _).alloc (Nat.le_refl _) _
  have mn17 := MomAt.new w15 (Y : Int) (M : Int) (D : Int) (H : Int) (I : Int) S 0 false
  obtain ⟨V17, hV17⟩ : ∃ W, (w15.alloc (.cells #[.int .i64 (Y : Int), .int .i64 (M : Int), .int .i64 (D : Int), .int .i64 (H : Int), .int .i64 (I : Int), .string S, .int .i64 0, .bool false] 24)) = W := ⟨_, rfl⟩
  rw [hV17] at bn17 mn17
  have HV17 := Lib.hid hV17
  have hb18 := hb16.trans (bn17.mono hb16.size)
  have M0x18 := Lib.hid (M0x16.out.later bn17)
  have M1x18 := Lib.hid (M1x16.out.later bn17)
  have M2x18 := Lib.hid (M2x16.out.later bn17)
  have M3x18 := Lib.hid (M3x16.out.later bn17)
  have MN17 := Lib.hid mn17
  clear hV17 mn17
  go_upto_region 16 with fail
  try rw [HV17.out]
  obtain ⟨q0c0, q0c1, q0c2, q0c3, q0c4, q0c5, q0c6, q0c7, q0l⟩ := M0x18.out
  obtain ⟨q1c0, q1c1, q1c2, q1c3, q1c4, q1c5, q1c6, q1c7, q1l⟩ := M1x18.out
  obtain ⟨q4c0, q4c1, q4c2, q4c3, q4c4, q4c5, q4c6, q4c7, q4l⟩ := MN17.out
  go_wp2_with fail
  refine (works_ti V17 (HG.out.later hb18)).mono ?_
  rintro e w19 ⟨rfl, b19⟩
  clear q0c0 q0c1 q0c2 q0c3 q0c4 q0c5 q0c6 q0c7 q0l q1c0 q1c1 q1c2 q1c3 q1c4 q1c5 q1c6 q1c7 q1l q4c0 q4c1 q4c2 q4c3 q4c4 q4c5 q4c6 q4c7 q4l
  have hb20 := hb18.trans (b19.mono hb18.size)
  have M0x20 := Lib.hid (M0x18.out.later b19)
  have M1x20 := Lib.hid (M1x18.out.later b19)
  have M2x20 := Lib.hid (M2x18.out.later b19)
  have M3x20 := Lib.hid (M3x18.out.later b19)
  have M4x20 := Lib.hid (MN17.out.later b19)
  go_wp2_with fail
  go_ret
  exact ⟨rfl, hb20⟩
set_option maxRecDepth 100000 in
set_option maxHeartbeats 16000000 in
theorem zones_ok (Y M D H I mu : Nat) (S : ByteArray) (z : Int) (k : MomOk Y M D H I mu S z true) (hl : S.size ≤ 300) (zn : Int) (hz : -840 ≤ zn ∧ zn ≤ 840) (t : Nat) (ht : (zn - z) * 60000000 + (localN Y M D H I mu : Int) = (t : Int)) (ht2 : t < 315537897600000000) (w : World) (hg : GrT w) :
    Calls Tryz.prog 12 #[momV (Y : Int) (M : Int) (D : Int) (H : Int) (I : Int) S z true, .int .i64 zn] w fun e w' => e = .returned (.bool true) ∧ Below w.heap.size w w' := by
  have HG := Lib.hid hg
  unfold momV
  have hb0 : Below w.heap.size w (w.alloc (.cells #[.int .i64 (Y : Int), .int .i64 (M : Int), .int .i64 (D : Int), .int .i64 (H : Int), .int .i64 (I : Int), .string S, .int .i64 z, .bool true] 24)) := (Below.refl _ _).alloc (Nat.le_refl _) _
  have hm0 := MomAt.new w (Y : Int) (M : Int) (D : Int) (H : Int) (I : Int) S z true
  obtain ⟨W1, hW1⟩ : ∃ W, (w.alloc (.cells #[.int .i64 (Y : Int), .int .i64 (M : Int), .int .i64 (D : Int), .int .i64 (H : Int), .int .i64 (I : Int), .string S, .int .i64 z, .bool true] 24)) = W := ⟨_, rfl⟩
  rw [hW1] at hb0 hm0
  have HW1 := Lib.hid hW1
  have M0 := Lib.hid hm0
  clear hW1 hm0
  obtain ⟨q0c0, q0c1, q0c2, q0c3, q0c4, q0c5, q0c6, q0c7, q0l⟩ := M0.out
  have hlz : ¬ (300 : Int) < (S.size : Int) := by omega
  obtain ⟨R, hR, sR⟩ := secs_of Y M D H I mu S z true k
  have cS := seconds_ok Y M D H I mu S z true k R hR
  have KK := Lib.hid k
  have HT := Lib.hid (And.intro ht ht2)
  clear ht ht2
  clear hg
  go_enter Tryz.func12, Tryz.ntmps12
  go_wp2_with fail
  try rw [HW1.out]
  try go_wp2_with fail
  refine (cS W1 (HG.out.later hb0)).mono ?_
  rintro e w1 ⟨rfl, b1⟩
  clear q0c0 q0c1 q0c2 q0c3 q0c4 q0c5 q0c6 q0c7 q0l
  have hb2 := hb0.trans (b1.mono hb0.size)
  have M0x2 := Lib.hid (M0.out.later b1)
  obtain ⟨q0c0, q0c1, q0c2, q0c3, q0c4, q0c5, q0c6, q0c7, q0l⟩ := M0x2.out
  clear cS
  go_wp2_with fail
  refine (adjust_ok Y M D H I mu S z KK.out zn hz t HT.out.1 HT.out.2 w1 (HG.out.later hb2)).mono ?_
  rintro e w3 ⟨Y', M', D', H', I', mu', S', hk', hl', rfl, b3⟩
  unfold momV
  clear q0c0 q0c1 q0c2 q0c3 q0c4 q0c5 q0c6 q0c7 q0l
  have hb4 := hb2.trans (b3.mono hb2.size)
  have M0x4 := Lib.hid (M0x2.out.later b3)
  have bn5 : Below w3.heap.size w3 (w3.alloc (.cells #[.int .i64 (Y' : Int), .int .i64 (M' : Int), .int .i64 (D' : Int), .int .i64 (H' : Int), .int .i64 (I' : Int), .string S', .int .i64 zn, .bool true] 24)) := (Below.refl _ _).alloc (Nat.le_refl _) _
  have mn5 := MomAt.new w3 (Y' : Int) (M' : Int) (D' : Int) (H' : Int) (I' : Int) S' zn true
  obtain ⟨V5, hV5⟩ : ∃ W, (w3.alloc (.cells #[.int .i64 (Y' : Int), .int .i64 (M' : Int), .int .i64 (D' : Int), .int .i64 (H' : Int), .int .i64 (I' : Int), .string S', .int .i64 zn, .bool true] 24)) = W := ⟨_, rfl⟩
  rw [hV5] at bn5 mn5
  have HV5 := Lib.hid hV5
  have hb6 := hb4.trans (bn5.mono hb4.size)
  have M0x6 := Lib.hid (M0x4.out.later bn5)
  have MN5 := Lib.hid mn5
  clear hV5 mn5
  go_upto_region 5 with fail
  try rw [HV5.out]
  obtain ⟨q0c0, q0c1, q0c2, q0c3, q0c4, q0c5, q0c6, q0c7, q0l⟩ := M0x6.out
  go_wp2_with fail
  refine (adjust_bare Y M D H I mu S z true KK.out zn V5 (HG.out.later hb6)).mono ?_
  rintro e w7 ⟨rfl, b7⟩
  unfold momV
  clear q0c0 q0c1 q0c2 q0c3 q0c4 q0c5 q0c6 q0c7 q0l
  have hb8 := hb6.trans (b7.mono hb6.size)
  have M0x8 := Lib.hid (M0x6.out.later b7)
  have M1x8 := Lib.hid (MN5.out.later b7)
  have bn9 : Below w7.heap.size w7 (w7.alloc (.cells #[.int .i64 (Y : Int), .int .i64 (M : Int), .int .i64 (D : Int), .int .i64 (H : Int), .int .i64 (I : Int), .string S, .int .i64 0, .bool false] 24)) := (Below.refl _ _).alloc (Nat.le_refl _) _
  have mn9 := MomAt.new w7 (Y : Int) (M : Int) (D : Int) (H : Int) (I : Int) S 0 false
  obtain ⟨V9, hV9⟩ : ∃ W, (w7.alloc (.cells #[.int .i64 (Y : Int), .int .i64 (M : Int), .int .i64 (D : Int), .int .i64 (H : Int), .int .i64 (I : Int), .string S, .int .i64 0, .bool false] 24)) = W := ⟨_, rfl⟩
  rw [hV9] at bn9 mn9
  have HV9 := Lib.hid hV9
  have hb10 := hb8.trans (bn9.mono hb8.size)
  have M0x10 := Lib.hid (M0x8.out.later bn9)
  have M1x10 := Lib.hid (M1x8.out.later bn9)
  have MN9 := Lib.hid mn9
  clear hV9 mn9
  go_upto_region 8 with fail
  try rw [HV9.out]
  obtain ⟨q0c0, q0c1, q0c2, q0c3, q0c4, q0c5, q0c6, q0c7, q0l⟩ := M0x10.out
  obtain ⟨q1c0, q1c1, q1c2, q1c3, q1c4, q1c5, q1c6, q1c7, q1l⟩ := M1x10.out
  obtain ⟨q2c0, q2c1, q2c2, q2c3, q2c4, q2c5, q2c6, q2c7, q2l⟩ := MN9.out
  have bn11 : Below V9.heap.size V9 (V9.alloc (.cells #[.int .i64 (Y : Int), .int .i64 (M : Int), .int .i64 (D : Int), .int .i64 (H : Int), .int .i64 (I : Int), .string S, .int .i64 0, .bool false] 24)) := (Below.refl _ _).alloc (Nat.le_refl _) _
  have mn11 := MomAt.new V9 (Y : Int) (M : Int) (D : Int) (H : Int) (I : Int) S 0 false
  obtain ⟨V11, hV11⟩ : ∃ W, (V9.alloc (.cells #[.int .i64 (Y : Int), .int .i64 (M : Int), .int .i64 (D : Int), .int .i64 (H : Int), .int .i64 (I : Int), .string S, .int .i64 0, .bool false] 24)) = W := ⟨_, rfl⟩
  rw [hV11] at bn11 mn11
  have HV11 := Lib.hid hV11
  have MN11 := Lib.hid mn11
  clear hV11 mn11
  go_upto_region 10 with fail
  rw [HV11.out]
  clear q0c0 q0c1 q0c2 q0c3 q0c4 q0c5 q0c6 q0c7 q0l q1c0 q1c1 q1c2 q1c3 q1c4 q1c5 q1c6 q1c7 q1l q2c0 q2c1 q2c2 q2c3 q2c4 q2c5 q2c6 q2c7 q2l
  have hb12 := hb10.trans (bn11.mono hb10.size)
  have M0x12 := Lib.hid (M0x10.out.later bn11)
  have M1x12 := Lib.hid (M1x10.out.later bn11)
  have M2x12 := Lib.hid (MN9.out.later bn11)
  obtain ⟨q0c0, q0c1, q0c2, q0c3, q0c4, q0c5, q0c6, q0c7, q0l⟩ := M0x12.out
  obtain ⟨q1c0, q1c1, q1c2, q1c3, q1c4, q1c5, q1c6, q1c7, q1l⟩ := M1x12.out
  obtain ⟨q2c0, q2c1, q2c2, q2c3, q2c4, q2c5, q2c6, q2c7, q2l⟩ := M2x12.out
  obtain ⟨q3c0, q3c1, q3c2, q3c3, q3c4, q3c5, q3c6, q3c7, q3l⟩ := MN11.out
  have cS2 := seconds_ok Y' M' D' H' I' mu' S' zn true hk' R (by
    have e : secsZ Y' M' D' H' I' mu' zn = secsZ Y M D H I mu z := by unfold secsZ; rw [hl']; have := HT.out.1; omega
    rw [e]; exact hR)
  have n1 : (zn != zn) = false := by simp
  go_wp2_with fail
  refine (cS2 V11 (HG.out.later hb12)).mono ?_
  rintro e w13 ⟨rfl, b13⟩
  clear q0c0 q0c1 q0c2 q0c3 q0c4 q0c5 q0c6 q0c7 q0l q1c0 q1c1 q1c2 q1c3 q1c4 q1c5 q1c6 q1c7 q1l q2c0 q2c1 q2c2 q2c3 q2c4 q2c5 q2c6 q2c7 q2l q3c0 q3c1 q3c2 q3c3 q3c4 q3c5 q3c6 q3c7 q3l
  have hb14 := hb12.trans (b13.mono hb12.size)
  have M0x14 := Lib.hid (M0x12.out.later b13)
  have M1x14 := Lib.hid (M1x12.out.later b13)
  have M2x14 := Lib.hid (M2x12.out.later b13)
  have M3x14 := Lib.hid (MN11.out.later b13)
  clear cS2
  obtain ⟨q0c0, q0c1, q0c2, q0c3, q0c4, q0c5, q0c6, q0c7, q0l⟩ := M0x14.out
  obtain ⟨q1c0, q1c1, q1c2, q1c3, q1c4, q1c5, q1c6, q1c7, q1l⟩ := M1x14.out
  go_wp2_with fail
  refine (adjust_ok Y' M' D' H' I' mu' S' zn hk' z (zone_in KK.out.zone) (localN Y M D H I mu) (by rw [hl']; have := HT.out.1; omega) (localN_lt KK.out) w13 (HG.out.later hb14)).mono ?_
  rintro e w15 ⟨Y2, M2, D2, H2, I2, mu2, S2, hk2, hl2, rfl, b15⟩
  unfold momV
  clear q0c0 q0c1 q0c2 q0c3 q0c4 q0c5 q0c6 q0c7 q0l q1c0 q1c1 q1c2 q1c3 q1c4 q1c5 q1c6 q1c7 q1l
  have hb16 := hb14.trans (b15.mono hb14.size)
  have M0x16 := Lib.hid (M0x14.out.later b15)
  have M1x16 := Lib.hid (M1x14.out.later b15)
  have M2x16 := Lib.hid (M2x14.out.later b15)
  have M3x16 := Lib.hid (M3x14.out.later b15)
  obtain ⟨rfl, rfl, rfl, rfl, rfl, rfl, rfl⟩ := localN_inj KK.out hk2 hl2.symm
  clear hk2 hl2
  have bn17 : Below w15.heap.size w15 (w15.alloc (.cells #[.int .i64 (Y : Int), .int .i64 (M : Int), .int .i64 (D : Int), .int .i64 (H : Int), .int .i64 (I : Int), .string S, .int .i64 z, .bool true] 24)) := (Below.refl _ _).alloc (Nat.le_refl _) _
  have mn17 := MomAt.new w15 (Y : Int) (M : Int) (D : Int) (H : Int) (I : Int) S z true
  obtain ⟨V17, hV17⟩ : ∃ W, (w15.alloc (.cells #[.int .i64 (Y : Int), .int .i64 (M : Int), .int .i64 (D : Int), .int .i64 (H : Int), .int .i64 (I : Int), .string S, .int .i64 z, .bool true] 24)) = W := ⟨_, rfl⟩
  rw [hV17] at bn17 mn17
  have HV17 := Lib.hid hV17
  have hb18 := hb16.trans (bn17.mono hb16.size)
  have M0x18 := Lib.hid (M0x16.out.later bn17)
  have M1x18 := Lib.hid (M1x16.out.later bn17)
  have M2x18 := Lib.hid (M2x16.out.later bn17)
  have M3x18 := Lib.hid (M3x16.out.later bn17)
  have MN17 := Lib.hid mn17
  clear hV17 mn17
  go_upto_region 16 with fail
  try rw [HV17.out]
  obtain ⟨q0c0, q0c1, q0c2, q0c3, q0c4, q0c5, q0c6, q0c7, q0l⟩ := M0x18.out
  obtain ⟨q1c0, q1c1, q1c2, q1c3, q1c4, q1c5, q1c6, q1c7, q1l⟩ := M1x18.out
  obtain ⟨q4c0, q4c1, q4c2, q4c3, q4c4, q4c5, q4c6, q4c7, q4l⟩ := MN17.out
  go_wp2_with fail
  refine (works_ti V17 (HG.out.later hb18)).mono ?_
  rintro e w19 ⟨rfl, b19⟩
  clear q0c0 q0c1 q0c2 q0c3 q0c4 q0c5 q0c6 q0c7 q0l q1c0 q1c1 q1c2 q1c3 q1c4 q1c5 q1c6 q1c7 q1l q4c0 q4c1 q4c2 q4c3 q4c4 q4c5 q4c6 q4c7 q4l
  have hb20 := hb18.trans (b19.mono hb18.size)
  have M0x20 := Lib.hid (M0x18.out.later b19)
  have M1x20 := Lib.hid (M1x18.out.later b19)
  have M2x20 := Lib.hid (M2x18.out.later b19)
  have M3x20 := Lib.hid (M3x18.out.later b19)
  have M4x20 := Lib.hid (MN17.out.later b19)
  go_wp2_with fail
  go_ret
  exact ⟨rfl, hb20⟩
theorem zones_law (y mo d h mi : Int) (S : ByteArray) (z : Int) (has : Bool) (zn : Int) (w : World) (hg : GrT w) :
    Calls Tryz.prog 12 #[momV y mo d h mi S z has, .int .i64 zn] w fun e w' => e = .returned (.bool true) ∧ Below w.heap.size w w' := by
  by_cases hl : 300 < S.size
  · exact zones_long y mo d h mi S z has hl zn w hg
  cases hv : validB y mo d h mi S.data.toList z has with
  | false => exact zones_bad y mo d h mi S z has (by omega) hv zn w hg
  | true =>
    obtain ⟨Y, M, D, H, I, mu, rfl, rfl, rfl, rfl, rfl, k⟩ := valid_mom hv
    cases has with
    | false =>
      have z0 : z = 0 := by
        have := k.zone
        unfold zoneB at this
        rw [if_neg (by decide)] at this
        exact of_decide_eq_true this
      subst z0
      by_cases hz : -840 ≤ zn ∧ zn ≤ 840
      · exact zones_set Y M D H I mu S k (by omega) zn hz w hg
      · exact zones_out0 Y M D H I mu S k (by omega) zn hz w hg
    | true =>
      by_cases hz : -840 ≤ zn ∧ zn ≤ 840
      · by_cases hn : (zn - z) * 60000000 < -(localN Y M D H I mu : Int) ∨ 315537897600000000 - (localN Y M D H I mu : Int) ≤ (zn - z) * 60000000
        · exact zones_far Y M D H I mu S z k (by omega) zn hz hn w hg
        · exact zones_ok Y M D H I mu S z k (by omega) zn hz ((zn - z) * 60000000 + (localN Y M D H I mu : Int)).toNat (by omega) (by omega) w hg
      · exact zones_out Y M D H I mu S z k (by omega) zn hz w hg
end Go.Proofs.YtgmnjghbafbopaaGreatDoor

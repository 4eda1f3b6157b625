/- The law TimeBack: it answers true. -/
import Derived.Test.YtgmnjghbafbopaaGreatDoorMTiBackQ
import Derived.Deep.Cut
namespace Go.Proofs.YtgmnjghbafbopaaGreatDoor
open Go.RowKit Go.Lib

set_option maxRecDepth 100000 in
set_option maxHeartbeats 2000000 in
theorem back_long (y mo d h mi : Int) (S : ByteArray) (z : Int) (has : Bool) (hl : 300 < S.size) (kd : Int) (s : ByteArray) (w : World) (hg : GrT w) :
    Calls Tryz.prog 7 #[momV y mo d h mi S z has, .int .i64 kd, .string s] w fun e w' => e = .returned (.bool true) ∧ Below w.heap.size w w' := by
  have HG := Lib.hid hg
  unfold momV
  have hb0 : Below w.heap.size w (w.alloc (.cells #[.int .i64 y, .int .i64 mo, .int .i64 d, .int .i64 h, .int .i64 mi, .string S, .int .i64 z, .bool has] 24)) := (Below.refl _ _).alloc (Nat.le_refl _) _
  have hm0 := MomAt.new w y mo d h mi S z has
  obtain ⟨W1, hW1⟩ : ∃ W, (w.alloc (.cells #[.int .i64 y, .int .i64 mo, .int .i64 d, .int .i64 h, .int .i64 mi, .string S, .int .i64 z, .bool has] 24)) = W := ⟨_, rfl⟩
  rw [hW1] at hb0 hm0
  have HW1 := Lib.hid hW1
  have M0 := Lib.hid hm0
  clear hW1 hm0
  obtain ⟨q0c0, q0c1, q0c2, q0c3, q0c4, q0c5, q0c6, q0c7, q0l⟩ := M0.out
  have hlz : (300 : Int) < (S.size : Int) := by omega
  clear hg
  go_enter Tryz.func7, Tryz.ntmps7
  go_wp2_with fail
  try rw [HW1.out]
  try go_wp2_with fail
  refine (works_ti W1 (HG.out.later hb0)).mono ?_
  rintro e w1 ⟨rfl, b1⟩
  clear q0c0 q0c1 q0c2 q0c3 q0c4 q0c5 q0c6 q0c7 q0l
  have hb2 := hb0.trans (b1.mono hb0.size)
  have M0x2 := Lib.hid (M0.out.later b1)
  go_wp2_with fail
  go_ret
  exact ⟨rfl, hb2⟩
set_option maxRecDepth 100000 in
set_option maxHeartbeats 2000000 in
theorem back_long2 (y mo d h mi : Int) (S : ByteArray) (z : Int) (has : Bool) (hl : S.size ≤ 300) (kd : Int) (s : ByteArray) (hs : 300 < s.size) (w : World) (hg : GrT w) :
    Calls Tryz.prog 7 #[momV y mo d h mi S z has, .int .i64 kd, .string s] w fun e w' => e = .returned (.bool true) ∧ Below w.heap.size w w' := by
  have HG := Lib.hid hg
  unfold momV
  have hb0 : Below w.heap.size w (w.alloc (.cells #[.int .i64 y, .int .i64 mo, .int .i64 d, .int .i64 h, .int .i64 mi, .string S, .int .i64 z, .bool has] 24)) := (Below.refl _ _).alloc (Nat.le_refl _) _
  have hm0 := MomAt.new w y mo d h mi S z has
  obtain ⟨W1, hW1⟩ : ∃ W, (w.alloc (.cells #[.int .i64 y, .int .i64 mo, .int .i64 d, .int .i64 h, .int .i64 mi, .string S, .int .i64 z, .bool has] 24)) = W := ⟨_, rfl⟩
  rw [hW1] at hb0 hm0
  have HW1 := Lib.hid hW1
  have M0 := Lib.hid hm0
  clear hW1 hm0
  obtain ⟨q0c0, q0c1, q0c2, q0c3, q0c4, q0c5, q0c6, q0c7, q0l⟩ := M0.out
  have hlz : ¬ (300 : Int) < (S.size : Int) := by omega
  have hsz : (300 : Int) < (s.size : Int) := by omega
  clear hg
  go_enter Tryz.func7, Tryz.ntmps7
  go_wp2_with fail
  try rw [HW1.out]
  try go_wp2_with fail
  refine (works_ti W1 (HG.out.later hb0)).mono ?_
  rintro e w1 ⟨rfl, b1⟩
  clear q0c0 q0c1 q0c2 q0c3 q0c4 q0c5 q0c6 q0c7 q0l
  have hb2 := hb0.trans (b1.mono hb0.size)
  have M0x2 := Lib.hid (M0.out.later b1)
  go_wp2_with fail
  go_ret
  exact ⟨rfl, hb2⟩
set_option maxRecDepth 100000 in
set_option maxHeartbeats 2000000 in
theorem back_nokind (y mo d h mi : Int) (S : ByteArray) (z : Int) (has : Bool) (hl : S.size ≤ 300) (hv : validB y mo d h mi S.data.toList z has = false) (kd : Int) (s : ByteArray) (hs : s.size ≤ 300) (hk : ¬ (kd = 6 ∨ kd = 7 ∨ kd = 8)) (w : World) (hg : GrT w) :
    Calls Tryz.prog 7 #[momV y mo d h mi S z has, .int .i64 kd, .string s] w fun e w' => e = .returned (.bool true) ∧ Below w.heap.size w w' := by
  have HG := Lib.hid hg
  unfold momV
  have hb0 : Below w.heap.size w (w.alloc (.cells #[.int .i64 y, .int .i64 mo, .int .i64 d, .int .i64 h, .int .i64 mi, .string S, .int .i64 z, .bool has] 24)) := (Below.refl _ _).alloc (Nat.le_refl _) _
  have hm0 := MomAt.new w y mo d h mi S z has
  obtain ⟨W1, hW1⟩ : ∃ W, (w.alloc (.cells #[.int .i64 y, .int .i64 mo, .int .i64 d, .int .i64 h, .int .i64 mi, .string S, .int .i64 z, .bool has] 24)) = W := ⟨_, rfl⟩
  rw [hW1] at hb0 hm0
  have HW1 := Lib.hid hW1
  have M0 := Lib.hid hm0
  clear hW1 hm0
  obtain ⟨q0c0, q0c1, q0c2, q0c3, q0c4, q0c5, q0c6, q0c7, q0l⟩ := M0.out
  have hlz : ¬ (300 : Int) < (S.size : Int) := by omega
  have hsz : ¬ (300 : Int) < (s.size : Int) := by omega
  have cT := text_bad kd y mo d h mi S z has (by omega) hv
  have cP := fun W => parse_kind kd hk s W
  clear hk
  clear hg
  go_enter Tryz.func7, Tryz.ntmps7
  go_wp2_with fail
  try rw [HW1.out]
  try go_wp2_with fail
  refine (cT W1 (HG.out.later hb0)).mono ?_
  rintro e w1 ⟨rfl, b1⟩
  clear q0c0 q0c1 q0c2 q0c3 q0c4 q0c5 q0c6 q0c7 q0l
  have hb2 := hb0.trans (b1.mono hb0.size)
  have M0x2 := Lib.hid (M0.out.later b1)
  clear cT
  go_wp2_with fail
  refine (cP w1).mono ?_
  rintro e w3 ⟨rfl, b3⟩
  unfold momZ momV
  have hb4 := hb2.trans (b3.mono hb2.size)
  have M0x4 := Lib.hid (M0x2.out.later b3)
  clear cP
  have bn5 : Below w3.heap.size w3 (w3.alloc (.cells #[.int .i64 0, .int .i64 0, .int .i64 0, .int .i64 0, .int .i64 0, .string ⟨#[]⟩, .int .i64 0, .bool false] 24)) := (Below.refl _ _).alloc (Nat.le_refl _) _
  have mn5 := MomAt.new w3 0 0 0 0 0 ⟨#[]⟩ 0 false
  obtain ⟨V5, hV5⟩ : ∃ W, (w3.alloc (.cells #[.int .i64 0, .int .i64 0, .int .i64 0, .int .i64 0, .int .i64 0, .string ⟨#[]⟩, .int .i64 0, .bool false] 24)) = W := ⟨_, rfl⟩
  rw [hV5] at bn5 mn5
  have HV5 := Lib.hid hV5
  have hb6 := hb4.trans (bn5.mono hb4.size)
  have M0x6 := Lib.hid (M0x4.out.later bn5)
  have MN5 := Lib.hid mn5
  clear hV5 mn5
  go_upto_region 17 with fail
  try rw [HV5.out]
  obtain ⟨q1c0, q1c1, q1c2, q1c3, q1c4, q1c5, q1c6, q1c7, q1l⟩ := MN5.out
  go_wp2_with fail
  refine (works_ti V5 (HG.out.later hb6)).mono ?_
  rintro e w7 ⟨rfl, b7⟩
  clear q1c0 q1c1 q1c2 q1c3 q1c4 q1c5 q1c6 q1c7 q1l
  have hb8 := hb6.trans (b7.mono hb6.size)
  have M0x8 := Lib.hid (M0x6.out.later b7)
  have M1x8 := Lib.hid (MN5.out.later b7)
  go_wp2_with fail
  go_ret
  exact ⟨rfl, hb8⟩
set_option maxRecDepth 100000 in
set_option maxHeartbeats 2000000 in
theorem back_nokind2 (Y M D H I mu : Nat) (S : ByteArray) (z : Int) (has : Bool) (k : MomOk Y M D H I mu S z has) (hl : S.size ≤ 300) (kd : Int) (s : ByteArray) (hs : s.size ≤ 300) (hk : ¬ (kd = 6 ∨ kd = 7 ∨ kd = 8)) (w : World) (hg : GrT w) :
    Calls Tryz.prog 7 #[momV (Y : Int) (M : Int) (D : Int) (H : Int) (I : Int) S z has, .int .i64 kd, .string s] w fun e w' => e = .returned (.bool true) ∧ Below w.heap.size w w' := by
  have HG := Lib.hid hg
  unfold momV
  have hb0 : Below w.heap.size w (w.alloc (.cells #[.int .i64 (Y : Int), .int .i64 (M : Int), .int .i64 (D : Int), .int .i64 (H : Int), .int .i64 (I : Int), .string S, .int .i64 z, .bool has] 24)) := (Below.refl _ _).alloc (Nat.le_refl _) _
  have hm0 := MomAt.new w (Y : Int) (M : Int) (D : Int) (H : Int) (I : Int) S z has
  obtain ⟨W1, hW1⟩ : ∃ W, (w.alloc (.cells #[.int .i64 (Y : Int), .int .i64 (M : Int), .int .i64 (D : Int), .int .i64 (H : Int), .int .i64 (I : Int), .string S, .int .i64 z, .bool has] 24)) = W := ⟨_, rfl⟩
  rw [hW1] at hb0 hm0
  have HW1 := Lib.hid hW1
  have M0 := Lib.hid hm0
  clear hW1 hm0
  obtain ⟨q0c0, q0c1, q0c2, q0c3, q0c4, q0c5, q0c6, q0c7, q0l⟩ := M0.out
  have hlz : ¬ (300 : Int) < (S.size : Int) := by omega
  have hsz : ¬ (300 : Int) < (s.size : Int) := by omega
  have cT := text_kind kd hk Y M D H I mu S z has k
  have cP := fun W => parse_kind kd hk s W
  clear hk
  clear hg
  go_enter Tryz.func7, Tryz.ntmps7
  go_wp2_with fail
  try rw [HW1.out]
  try go_wp2_with fail
  refine (cT W1 (HG.out.later hb0)).mono ?_
  rintro e w1 ⟨rfl, b1⟩
  clear q0c0 q0c1 q0c2 q0c3 q0c4 q0c5 q0c6 q0c7 q0l
  have hb2 := hb0.trans (b1.mono hb0.size)
  have M0x2 := Lib.hid (M0.out.later b1)
  clear cT
  go_wp2_with fail
  refine (cP w1).mono ?_
  rintro e w3 ⟨rfl, b3⟩
  unfold momZ momV
  have hb4 := hb2.trans (b3.mono hb2.size)
  have M0x4 := Lib.hid (M0x2.out.later b3)
  clear cP
  have bn5 : Below w3.heap.size w3 (w3.alloc (.cells #[.int .i64 0, .int .i64 0, .int .i64 0, .int .i64 0, .int .i64 0, .string ⟨#[]⟩, .int .i64 0, .bool false] 24)) := (Below.refl _ _).alloc (Nat.le_refl _) _
  have mn5 := MomAt.new w3 0 0 0 0 0 ⟨#[]⟩ 0 false
  obtain ⟨V5, hV5⟩ : ∃ W, (w3.alloc (.cells #[.int .i64 0, .int .i64 0, .int .i64 0, .int .i64 0, .int .i64 0, .string ⟨#[]⟩, .int .i64 0, .bool false] 24)) = W := ⟨_, rfl⟩
  rw [hV5] at bn5 mn5
  have HV5 := Lib.hid hV5
  have hb6 := hb4.trans (bn5.mono hb4.size)
  have M0x6 := Lib.hid (M0x4.out.later bn5)
  have MN5 := Lib.hid mn5
  clear hV5 mn5
  go_upto_region 17 with fail
  try rw [HV5.out]
  obtain ⟨q1c0, q1c1, q1c2, q1c3, q1c4, q1c5, q1c6, q1c7, q1l⟩ := MN5.out
  go_wp2_with fail
  refine (works_ti V5 (HG.out.later hb6)).mono ?_
  rintro e w7 ⟨rfl, b7⟩
  clear q1c0 q1c1 q1c2 q1c3 q1c4 q1c5 q1c6 q1c7 q1l
  have hb8 := hb6.trans (b7.mono hb6.size)
  have M0x8 := Lib.hid (M0x6.out.later b7)
  have M1x8 := Lib.hid (MN5.out.later b7)
  go_wp2_with fail
  go_ret
  exact ⟨rfl, hb8⟩
set_option maxRecDepth 100000 in
set_option maxHeartbeats 2000000 in
theorem back_bad6 (y mo d h mi : Int) (S : ByteArray) (z : Int) (has : Bool) (hl : S.size ≤ 300) (hv : validB y mo d h mi S.data.toList z has = false) (s : ByteArray) (hs : s.size ≤ 300) (w : World) (hg : GrT w) :
    Calls Tryz.prog 7 #[momV y mo d h mi S z has, .int .i64 6, .string s] w fun e w' => e = .returned (.bool true) ∧ Below w.heap.size w w' := by
  have HG := Lib.hid hg
  unfold momV
  have hb0 : Below w.heap.size w (w.alloc (.cells #[.int .i64 y, .int .i64 mo, .int .i64 d, .int .i64 h, .int .i64 mi, .string S, .int .i64 z, .bool has] 24)) := (Below.refl _ _).alloc (Nat.le_refl _) _
  have hm0 := MomAt.new w y mo d h mi S z has
  obtain ⟨W1, hW1⟩ : ∃ W, (w.alloc (.cells #[.int .i64 y, .int .i64 mo, .int .i64 d, .int .i64 h, .int .i64 mi, .string S, .int .i64 z, .bool has] 24)) = W := ⟨_, rfl⟩
  rw [hW1] at hb0 hm0
  have HW1 := Lib.hid hW1
  have M0 := Lib.hid hm0
  clear hW1 hm0
  obtain ⟨q0c0, q0c1, q0c2, q0c3, q0c4, q0c5, q0c6, q0c7, q0l⟩ := M0.out
  have hlz : ¬ (300 : Int) < (S.size : Int) := by omega
  have hsz : ¬ (300 : Int) < (s.size : Int) := by omega
  have cT := text_bad 6 y mo d h mi S z has (by omega) hv
  clear hg
  go_enter Tryz.func7, Tryz.ntmps7
  go_wp2_with fail
  try rw [HW1.out]
  try go_wp2_with fail
  refine (cT W1 (HG.out.later hb0)).mono ?_
  rintro e w1 ⟨rfl, b1⟩
  clear q0c0 q0c1 q0c2 q0c3 q0c4 q0c5 q0c6 q0c7 q0l
  have hb2 := hb0.trans (b1.mono hb0.size)
  have M0x2 := Lib.hid (M0.out.later b1)
  clear cT
  go_wp2_with fail
  refine (parse_all 6 (by decide) s w1 (HG.out.later hb2)).mono ?_
  rintro e w3 (⟨er, her, rfl, b3⟩ | ⟨Y2, M2, D2, H2, I2, mu2, S2, z2, has2, hk2, n6, n7, rfl, b3⟩)
  · unfold momZ momV
    have e1 : (er == 0) = false := beq_eq_false_iff_ne.2 her
    have e2 : (er != 0) = true := by rw [bne_iff_ne]; exact her
    have hb4 := hb2.trans (b3.mono hb2.size)
    have M0x4 := Lib.hid (M0x2.out.later b3)
    have bn5 : Below w3.heap.size w3 (w3.alloc (.cells #[.int .i64 0, .int .i64 0, .int .i64 0, .int .i64 0, .int .i64 0, .string ⟨#[]⟩, .int .i64 0, .bool false] 24)) := (Below.refl _ _).alloc (Nat.le_refl _) _
    have mn5 := MomAt.new w3 0 0 0 0 0 ⟨#[]⟩ 0 false
    obtain ⟨V5, hV5⟩ : ∃ W, (w3.alloc (.cells #[.int .i64 0, .int .i64 0, .int .i64 0, .int .i64 0, .int .i64 0, .string ⟨#[]⟩, .int .i64 0, .bool false] 24)) = W := ⟨_, rfl⟩
    rw [hV5] at bn5 mn5
    have HV5 := Lib.hid hV5
    have hb6 := hb4.trans (bn5.mono hb4.size)
    have M0x6 := Lib.hid (M0x4.out.later bn5)
    have MN5 := Lib.hid mn5
    clear hV5 mn5
    go_upto_region 17 with fail
    try rw [HV5.out]
    obtain ⟨q1c0, q1c1, q1c2, q1c3, q1c4, q1c5, q1c6, q1c7, q1l⟩ := MN5.out
    go_wp2_with fail
    refine (works_ti V5 (HG.out.later hb6)).mono ?_
    rintro e w7 ⟨rfl, b7⟩
    clear q1c0 q1c1 q1c2 q1c3 q1c4 q1c5 q1c6 q1c7 q1l
    have hb8 := hb6.trans (b7.mono hb6.size)
    have M0x8 := Lib.hid (M0x6.out.later b7)
    have M1x8 := Lib.hid (MN5.out.later b7)
    go_wp2_with fail
    go_ret
    exact ⟨rfl, hb8⟩
  · unfold momV
    obtain ⟨rfl, rfl, rfl⟩ := n6 rfl
    have hk3 := mom_zero hk2.date hk2.zone
    simp only [Int.cast_ofNat_Int]
    clear hk2 n6 n7
    have hb4 := hb2.trans (b3.mono hb2.size)
    have M0x4 := Lib.hid (M0x2.out.later b3)
    obtain ⟨R2, _, hR2⟩ := ba_ex (textT 6 Y2 M2 D2 0 0 [48] z2 has2)
    have cT2 := text_ok 6 (by decide) Y2 M2 D2 0 0 0 ⟨#[48]⟩ z2 has2 hk3 R2 hR2
    have cP2 := parse_text6 Y2 M2 D2 0 0 0 ⟨#[48]⟩ z2 has2 hk3 R2 hR2
    clear hk3 hR2
    have bn5 : Below w3.heap.size w3 (w3.alloc (.cells #[.int .i64 (Y2 : Int), .int .i64 (M2 : Int), .int .i64 (D2 : Int), .int .i64 0, .int .i64 0, .string ⟨#[48]⟩, .int .i64 z2, .bool has2] 24)) := (Below.refl _ _).alloc (Nat.le_refl _) _
    have mn5 := MomAt.new w3 (Y2 : Int) (M2 : Int) (D2 : Int) 0 0 ⟨#[48]⟩ z2 has2
    obtain ⟨V5, hV5⟩ : ∃ W, (w3.alloc (.cells #[.int .i64 (Y2 : Int), .int .i64 (M2 : Int), .int .i64 (D2 : Int), .int .i64 0, .int .i64 0, .string ⟨#[48]⟩, .int .i64 z2, .bool has2] 24)) = W := ⟨_, rfl⟩
    rw [hV5] at bn5 mn5
    have HV5 := Lib.hid hV5
    have hb6 := hb4.trans (bn5.mono hb4.size)
    have M0x6 := Lib.hid (M0x4.out.later bn5)
    have MN5 := Lib.hid mn5
    clear hV5 mn5
    go_upto_region 17 with fail
    try rw [HV5.out]
    obtain ⟨q1c0, q1c1, q1c2, q1c3, q1c4, q1c5, q1c6, q1c7, q1l⟩ := MN5.out
    go_wp2_with fail
    refine (cT2 V5 (HG.out.later hb6)).mono ?_
    rintro e w7 ⟨rfl, b7⟩
    clear q1c0 q1c1 q1c2 q1c3 q1c4 q1c5 q1c6 q1c7 q1l
    have hb8 := hb6.trans (b7.mono hb6.size)
    have M0x8 := Lib.hid (M0x6.out.later b7)
    have M1x8 := Lib.hid (MN5.out.later b7)
    clear cT2
    obtain ⟨q1c0, q1c1, q1c2, q1c3, q1c4, q1c5, q1c6, q1c7, q1l⟩ := M1x8.out
    go_wp2_with fail
    refine (cP2 w7 (HG.out.later hb8)).mono ?_
    rintro e w9 ⟨rfl, b9⟩
    unfold momV
    clear q1c0 q1c1 q1c2 q1c3 q1c4 q1c5 q1c6 q1c7 q1l
    have hb10 := hb8.trans (b9.mono hb8.size)
    have M0x10 := Lib.hid (M0x8.out.later b9)
    have M1x10 := Lib.hid (M1x8.out.later b9)
    clear cP2
    have bn11 : Below w9.heap.size w9 (w9.alloc (.cells #[.int .i64 (Y2 : Int), .int .i64 (M2 : Int), .int .i64 (D2 : Int), .int .i64 0, .int .i64 0, .string ⟨#[48]⟩, .int .i64 z2, .bool has2] 24)) := (Below.refl _ _).alloc (Nat.le_refl _) _
    have mn11 := MomAt.new w9 (Y2 : Int) (M2 : Int) (D2 : Int) 0 0 ⟨#[48]⟩ z2 has2
    obtain ⟨V11, hV11⟩ : ∃ W, (w9.alloc (.cells #[.int .i64 (Y2 : Int), .int .i64 (M2 : Int), .int .i64 (D2 : Int), .int .i64 0, .int .i64 0, .string ⟨#[48]⟩, .int .i64 z2, .bool has2] 24)) = W := ⟨_, rfl⟩
    rw [hV11] at bn11 mn11
    have HV11 := Lib.hid hV11
    have hb12 := hb10.trans (bn11.mono hb10.size)
    have M0x12 := Lib.hid (M0x10.out.later bn11)
    have M1x12 := Lib.hid (M1x10.out.later bn11)
    have MN11 := Lib.hid mn11
    clear hV11 mn11
    go_upto_region 21 with fail
    try rw [HV11.out]
    obtain ⟨q1c0, q1c1, q1c2, q1c3, q1c4, q1c5, q1c6, q1c7, q1l⟩ := M1x12.out
    obtain ⟨q2c0, q2c1, q2c2, q2c3, q2c4, q2c5, q2c6, q2c7, q2l⟩ := MN11.out
    go_wp2_with fail
    refine (works_ti V11 (HG.out.later hb12)).mono ?_
    rintro e w13 ⟨rfl, b13⟩
    clear q1c0 q1c1 q1c2 q1c3 q1c4 q1c5 q1c6 q1c7 q1l q2c0 q2c1 q2c2 q2c3 q2c4 q2c5 q2c6 q2c7 q2l
    have hb14 := hb12.trans (b13.mono hb12.size)
    have M0x14 := Lib.hid (M0x12.out.later b13)
    have M1x14 := Lib.hid (M1x12.out.later b13)
    have M2x14 := Lib.hid (MN11.out.later b13)
    go_wp2_with fail
    go_ret
    exact ⟨rfl, hb14⟩
set_option maxRecDepth 100000 in
set_option maxHeartbeats 2000000 in
theorem back_ok6 (Y M D H I mu : Nat) (S : ByteArray) (z : Int) (has : Bool) (k : MomOk Y M D H I mu S z has) (hl : S.size ≤ 300) (s : ByteArray) (hs : s.size ≤ 300) (w : World) (hg : GrT w) :
    Calls Tryz.prog 7 #[momV (Y : Int) (M : Int) (D : Int) (H : Int) (I : Int) S z has, .int .i64 6, .string s] w fun e w' => e = .returned (.bool true) ∧ Below w.heap.size w w' := by
  have HG := Lib.hid hg
  unfold momV
  have hb0 : Below w.heap.size w (w.alloc (.cells #[.int .i64 (Y : Int), .int .i64 (M : Int), .int .i64 (D : Int), .int .i64 (H : Int), .int .i64 (I : Int), .string S, .int .i64 z, .bool has] 24)) := (Below.refl _ _).alloc (Nat.le_refl _) _
  have hm0 := MomAt.new w (Y : Int) (M : Int) (D : Int) (H : Int) (I : Int) S z has
  obtain ⟨W1, hW1⟩ : ∃ W, (w.alloc (.cells #[.int .i64 (Y : Int), .int .i64 (M : Int), .int .i64 (D : Int), .int .i64 (H : Int), .int .i64 (I : Int), .string S, .int .i64 z, .bool has] 24)) = W := ⟨_, rfl⟩
  rw [hW1] at hb0 hm0
  have HW1 := Lib.hid hW1
  have M0 := Lib.hid hm0
  clear hW1 hm0
  obtain ⟨q0c0, q0c1, q0c2, q0c3, q0c4, q0c5, q0c6, q0c7, q0l⟩ := M0.out
  have hlz : ¬ (300 : Int) < (S.size : Int) := by omega
  have hsz : ¬ (300 : Int) < (s.size : Int) := by omega
  obtain ⟨R, _, hR⟩ := ba_ex (textT 6 Y M D H I S.data.toList z has)
  have cT := text_ok 6 (by decide) Y M D H I mu S z has k R hR
  have cP := parse_text6 Y M D H I mu S z has k R hR
  clear hR k
  clear hg
  go_enter Tryz.func7, Tryz.ntmps7
  go_wp2_with fail
  try rw [HW1.out]
  try go_wp2_with fail
  refine (cT W1 (HG.out.later hb0)).mono ?_
  rintro e w1 ⟨rfl, b1⟩
  clear q0c0 q0c1 q0c2 q0c3 q0c4 q0c5 q0c6 q0c7 q0l
  have hb2 := hb0.trans (b1.mono hb0.size)
  have M0x2 := Lib.hid (M0.out.later b1)
  clear cT
  obtain ⟨q0c0, q0c1, q0c2, q0c3, q0c4, q0c5, q0c6, q0c7, q0l⟩ := M0x2.out
  have bn3 : Below w1.heap.size w1 (w1.alloc (.cells #[.int .i64 (Y : Int), .int .i64 (M : Int), .int .i64 (D : Int), .int .i64 0, .int .i64 0, .string ⟨#[48]⟩, .int .i64 z, .bool has] 24)) := (Below.refl _ _).alloc (Nat.le_refl _) _
  have mn3 := MomAt.new w1 (Y : Int) (M : Int) (D : Int) 0 0 ⟨#[48]⟩ z has
  obtain ⟨V3, hV3⟩ : ∃ W, (w1.alloc (.cells #[.int .i64 (Y : Int), .int .i64 (M : Int), .int .i64 (D : Int), .int .i64 0, .int .i64 0, .string ⟨#[48]⟩, .int .i64 z, .bool has] 24)) = W := ⟨_, rfl⟩
  rw [hV3] at bn3 mn3
  have HV3 := Lib.hid hV3
  have MN3 := Lib.hid mn3
  clear hV3 mn3
  go_upto_region 11 with fail
  rw [HV3.out]
  clear q0c0 q0c1 q0c2 q0c3 q0c4 q0c5 q0c6 q0c7 q0l
  have hb4 := hb2.trans (bn3.mono hb2.size)
  have M0x4 := Lib.hid (M0x2.out.later bn3)
  go_wp2_with fail
  refine (cP V3 (HG.out.later hb4)).mono ?_
  rintro e w5 ⟨rfl, b5⟩
  unfold momV
  have hb6 := hb4.trans (b5.mono hb4.size)
  have M0x6 := Lib.hid (M0x4.out.later b5)
  have M1x6 := Lib.hid (MN3.out.later b5)
  clear cP
  have bn7 : Below w5.heap.size w5 (w5.alloc (.cells #[.int .i64 (Y : Int), .int .i64 (M : Int), .int .i64 (D : Int), .int .i64 0, .int .i64 0, .string ⟨#[48]⟩, .int .i64 z, .bool has] 24)) := (Below.refl _ _).alloc (Nat.le_refl _) _
  have mn7 := MomAt.new w5 (Y : Int) (M : Int) (D : Int) 0 0 ⟨#[48]⟩ z has
  obtain ⟨V7, hV7⟩ : ∃ W, (w5.alloc (.cells #[.int .i64 (Y : Int), .int .i64 (M : Int), .int .i64 (D : Int), .int .i64 0, .int .i64 0, .string ⟨#[48]⟩, .int .i64 z, .bool has] 24)) = W := ⟨_, rfl⟩
  rw [hV7] at bn7 mn7
  have HV7 := Lib.hid hV7
  have hb8 := hb6.trans (bn7.mono hb6.size)
  have M0x8 := Lib.hid (M0x6.out.later bn7)
  have M1x8 := Lib.hid (M1x6.out.later bn7)
  have MN7 := Lib.hid mn7
  clear hV7 mn7
  go_upto_region 12 with fail
  try rw [HV7.out]
  obtain ⟨q1c0, q1c1, q1c2, q1c3, q1c4, q1c5, q1c6, q1c7, q1l⟩ := M1x8.out
  obtain ⟨q2c0, q2c1, q2c2, q2c3, q2c4, q2c5, q2c6, q2c7, q2l⟩ := MN7.out
  go_upto_region 16 with fail
  clear q1c0 q1c1 q1c2 q1c3 q1c4 q1c5 q1c6 q1c7 q1l q2c0 q2c1 q2c2 q2c3 q2c4 q2c5 q2c6 q2c7 q2l
  go_wp2_with fail
  refine (parse_all 6 (by decide) s V7 (HG.out.later hb8)).mono ?_
  rintro e w9 (⟨er, her, rfl, b9⟩ | ⟨Y2, M2, D2, H2, I2, mu2, S2, z2, has2, hk2, n6, n7, rfl, b9⟩)
  · unfold momZ momV
    have e1 : (er == 0) = false := beq_eq_false_iff_ne.2 her
    have e2 : (er != 0) = true := by rw [bne_iff_ne]; exact her
    have hb10 := hb8.trans (b9.mono hb8.size)
    have M0x10 := Lib.hid (M0x8.out.later b9)
    have M1x10 := Lib.hid (M1x8.out.later b9)
    have M2x10 := Lib.hid (MN7.out.later b9)
    have bn11 : Below w9.heap.size w9 (w9.alloc (.cells #[.int .i64 0, .int .i64 0, .int .i64 0, .int .i64 0, .int .i64 0, .string ⟨#[]⟩, .int .i64 0, .bool false] 24)) := (Below.refl _ _).alloc (Nat.le_refl _) _
    have mn11 := MomAt.new w9 0 0 0 0 0 ⟨#[]⟩ 0 false
    obtain ⟨V11, hV11⟩ : ∃ W, (w9.alloc (.cells #[.int .i64 0, .int .i64 0, .int .i64 0, .int .i64 0, .int .i64 0, .string ⟨#[]⟩, .int .i64 0, .bool false] 24)) = W := ⟨_, rfl⟩
    rw [hV11] at bn11 mn11
    have HV11 := Lib.hid hV11
    have hb12 := hb10.trans (bn11.mono hb10.size)
    have M0x12 := Lib.hid (M0x10.out.later bn11)
    have M1x12 := Lib.hid (M1x10.out.later bn11)
    have M2x12 := Lib.hid (M2x10.out.later bn11)
    have MN11 := Lib.hid mn11
    clear hV11 mn11
    go_upto_region 17 with fail
    try rw [HV11.out]
    obtain ⟨q3c0, q3c1, q3c2, q3c3, q3c4, q3c5, q3c6, q3c7, q3l⟩ := MN11.out
    go_wp2_with fail
    refine (works_ti V11 (HG.out.later hb12)).mono ?_
    rintro e w13 ⟨rfl, b13⟩
    clear q3c0 q3c1 q3c2 q3c3 q3c4 q3c5 q3c6 q3c7 q3l
    have hb14 := hb12.trans (b13.mono hb12.size)
    have M0x14 := Lib.hid (M0x12.out.later b13)
    have M1x14 := Lib.hid (M1x12.out.later b13)
    have M2x14 := Lib.hid (M2x12.out.later b13)
    have M3x14 := Lib.hid (MN11.out.later b13)
    go_wp2_with fail
    go_ret
    exact ⟨rfl, hb14⟩
  · unfold momV
    obtain ⟨rfl, rfl, rfl⟩ := n6 rfl
    have hk3 := mom_zero hk2.date hk2.zone
    simp only [Int.cast_ofNat_Int]
    clear hk2 n6 n7
    have hb10 := hb8.trans (b9.mono hb8.size)
    have M0x10 := Lib.hid (M0x8.out.later b9)
    have M1x10 := Lib.hid (M1x8.out.later b9)
    have M2x10 := Lib.hid (MN7.out.later b9)
    obtain ⟨R2, _, hR2⟩ := ba_ex (textT 6 Y2 M2 D2 0 0 [48] z2 has2)
    have cT2 := text_ok 6 (by decide) Y2 M2 D2 0 0 0 ⟨#[48]⟩ z2 has2 hk3 R2 hR2
    have cP2 := parse_text6 Y2 M2 D2 0 0 0 ⟨#[48]⟩ z2 has2 hk3 R2 hR2
    clear hk3 hR2
    have bn11 : Below w9.heap.size w9 (w9.alloc (.cells #[.int .i64 (Y2 : Int), .int .i64 (M2 : Int), .int .i64 (D2 : Int), .int .i64 0, .int .i64 0, .string ⟨#[48]⟩, .int .i64 z2, .bool has2] 24)) := (Below.refl _ _).alloc (Nat.le_refl _) _
    have mn11 := MomAt.new w9 (Y2 : Int) (M2 : Int) (D2 : Int) 0 0 ⟨#[48]⟩ z2 has2
    obtain ⟨V11, hV11⟩ : ∃ W, (w9.alloc (.cells #[.int .i64 (Y2 : Int), .int .i64 (M2 : Int), .int .i64 (D2 : Int), .int .i64 0, .int .i64 0, .string ⟨#[48]⟩, .int .i64 z2, .bool has2] 24)) = W := ⟨_, rfl⟩
    rw [hV11] at bn11 mn11
    have HV11 := Lib.hid hV11
    have hb12 := hb10.trans (bn11.mono hb10.size)
    have M0x12 := Lib.hid (M0x10.out.later bn11)
    have M1x12 := Lib.hid (M1x10.out.later bn11)
    have M2x12 := Lib.hid (M2x10.out.later bn11)
    have MN11 := Lib.hid mn11
    clear hV11 mn11
    go_upto_region 17 with fail
    try rw [HV11.out]
    obtain ⟨q3c0, q3c1, q3c2, q3c3, q3c4, q3c5, q3c6, q3c7, q3l⟩ := MN11.out
    go_wp2_with fail
    refine (cT2 V11 (HG.out.later hb12)).mono ?_
    rintro e w13 ⟨rfl, b13⟩
    clear q3c0 q3c1 q3c2 q3c3 q3c4 q3c5 q3c6 q3c7 q3l
    have hb14 := hb12.trans (b13.mono hb12.size)
    have M0x14 := Lib.hid (M0x12.out.later b13)
    have M1x14 := Lib.hid (M1x12.out.later b13)
    have M2x14 := Lib.hid (M2x12.out.later b13)
    have M3x14 := Lib.hid (MN11.out.later b13)
    clear cT2
    obtain ⟨q3c0, q3c1, q3c2, q3c3, q3c4, q3c5, q3c6, q3c7, q3l⟩ := M3x14.out
    go_wp2_with fail
    refine (cP2 w13 (HG.out.later hb14)).mono ?_
    rintro e w15 ⟨rfl, b15⟩
    unfold momV
    clear q3c0 q3c1 q3c2 q3c3 q3c4 q3c5 q3c6 q3c7 q3l
    have hb16 := hb14.trans (b15.mono hb14.size)
    have M0x16 := Lib.hid (M0x14.out.later b15)
    have M1x16 := Lib.hid (M1x14.out.later b15)
    have M2x16 := Lib.hid (M2x14.out.later b15)
    have M3x16 := Lib.hid (M3x14.out.later b15)
    clear cP2
    have bn17 : Below w15.heap.size w15 (w15.alloc (.cells #[.int .i64 (Y2 : Int), .int .i64 (M2 : Int), .int .i64 (D2 : Int), .int .i64 0, .int .i64 0, .string ⟨#[48]⟩, .int .i64 z2, .bool has2] 24)) := (Below.refl _ _).alloc (Nat.le_refl _) _
    have mn17 := MomAt.new w15 (Y2 : Int) (M2 : Int) (D2 : Int) 0 0 ⟨#[48]⟩ z2 has2
    obtain ⟨V17, hV17⟩ : ∃ W, (w15.alloc (.cells #[.int .i64 (Y2 : Int), .int .i64 (M2 : Int), .int .i64 (D2 : Int), .int .i64 0, .int .i64 0, .string ⟨#[48]⟩, .int .i64 z2, .bool has2] 24)) = W := ⟨_, rfl⟩
    rw [hV17] at bn17 mn17
    have HV17 := Lib.hid hV17
    have hb18 := hb16.trans (bn17.mono hb16.size)
    have M0x18 := Lib.hid (M0x16.out.later bn17)
    have M1x18 := Lib.hid (M1x16.out.later bn17)
    have M2x18 := Lib.hid (M2x16.out.later bn17)
    have M3x18 := Lib.hid (M3x16.out.later bn17)
    have MN17 := Lib.hid mn17
    clear hV17 mn17
    go_upto_region 21 with fail
    try rw [HV17.out]
    obtain ⟨q3c0, q3c1, q3c2, q3c3, q3c4, q3c5, q3c6, q3c7, q3l⟩ := M3x18.out
    obtain ⟨q4c0, q4c1, q4c2, q4c3, q4c4, q4c5, q4c6, q4c7, q4l⟩ := MN17.out
    go_wp2_with fail
    refine (works_ti V17 (HG.out.later hb18)).mono ?_
    rintro e w19 ⟨rfl, b19⟩
    clear q3c0 q3c1 q3c2 q3c3 q3c4 q3c5 q3c6 q3c7 q3l q4c0 q4c1 q4c2 q4c3 q4c4 q4c5 q4c6 q4c7 q4l
    have hb20 := hb18.trans (b19.mono hb18.size)
    have M0x20 := Lib.hid (M0x18.out.later b19)
    have M1x20 := Lib.hid (M1x18.out.later b19)
    have M2x20 := Lib.hid (M2x18.out.later b19)
    have M3x20 := Lib.hid (M3x18.out.later b19)
    have M4x20 := Lib.hid (MN17.out.later b19)
    go_wp2_with fail
    go_ret
    exact ⟨rfl, hb20⟩
set_option maxRecDepth 100000 in
set_option maxHeartbeats 2000000 in
theorem back_bad7 (y mo d h mi : Int) (S : ByteArray) (z : Int) (has : Bool) (hl : S.size ≤ 300) (hv : validB y mo d h mi S.data.toList z has = false) (s : ByteArray) (hs : s.size ≤ 300) (w : World) (hg : GrT w) :
    Calls Tryz.prog 7 #[momV y mo d h mi S z has, .int .i64 7, .string s] w fun e w' => e = .returned (.bool true) ∧ Below w.heap.size w w' := by
  have HG := Lib.hid hg
  unfold momV
  have hb0 : Below w.heap.size w (w.alloc (.cells #[.int .i64 y, .int .i64 mo, .int .i64 d, .int .i64 h, .int .i64 mi, .string S, .int .i64 z, .bool has] 24)) := (Below.refl _ _).alloc (Nat.le_refl _) _
  have hm0 := MomAt.new w y mo d h mi S z has
  obtain ⟨W1, hW1⟩ : ∃ W, (w.alloc (.cells #[.int .i64 y, .int .i64 mo, .int .i64 d, .int .i64 h, .int .i64 mi, .string S, .int .i64 z, .bool has] 24)) = W := ⟨_, rfl⟩
  rw [hW1] at hb0 hm0
  have HW1 := Lib.hid hW1
  have M0 := Lib.hid hm0
  clear hW1 hm0
  obtain ⟨q0c0, q0c1, q0c2, q0c3, q0c4, q0c5, q0c6, q0c7, q0l⟩ := M0.out
  have hlz : ¬ (300 : Int) < (S.size : Int) := by omega
  have hsz : ¬ (300 : Int) < (s.size : Int) := by omega
  have cT := text_bad 7 y mo d h mi S z has (by omega) hv
  clear hg
  go_enter Tryz.func7, Tryz.ntmps7
  go_wp2_with fail
  try rw [HW1.out]
  try go_wp2_with fail
  refine (cT W1 (HG.out.later hb0)).mono ?_
  rintro e w1 ⟨rfl, b1⟩
  clear q0c0 q0c1 q0c2 q0c3 q0c4 q0c5 q0c6 q0c7 q0l
  have hb2 := hb0.trans (b1.mono hb0.size)
  have M0x2 := Lib.hid (M0.out.later b1)
  clear cT
  go_wp2_with fail
  refine (parse_all 7 (by decide) s w1 (HG.out.later hb2)).mono ?_
  rintro e w3 (⟨er, her, rfl, b3⟩ | ⟨Y2, M2, D2, H2, I2, mu2, S2, z2, has2, hk2, n6, n7, rfl, b3⟩)
  · unfold momZ momV
    have e1 : (er == 0) = false := beq_eq_false_iff_ne.2 her
    have e2 : (er != 0) = true := by rw [bne_iff_ne]; exact her
    have hb4 := hb2.trans (b3.mono hb2.size)
    have M0x4 := Lib.hid (M0x2.out.later b3)
    have bn5 : Below w3.heap.size w3 (w3.alloc (.cells #[.int .i64 0, .int .i64 0, .int .i64 0, .int .i64 0, .int .i64 0, .string ⟨#[]⟩, .int .i64 0, .bool false] 24)) := (Below.refl _ _).alloc (Nat.le_refl _) _
    have mn5 := MomAt.new w3 0 0 0 0 0 ⟨#[]⟩ 0 false
    obtain ⟨V5, hV5⟩ : ∃ W, (w3.alloc (.cells #[.int .i64 0, .int .i64 0, .int .i64 0, .int .i64 0, .int .i64 0, .string ⟨#[]⟩, .int .i64 0, .bool false] 24)) = W := ⟨_, rfl⟩
    rw [hV5] at bn5 mn5
    have HV5 := Lib.hid hV5
    have hb6 := hb4.trans (bn5.mono hb4.size)
    have M0x6 := Lib.hid (M0x4.out.later bn5)
    have MN5 := Lib.hid mn5
    clear hV5 mn5
    go_upto_region 17 with fail
    try rw [HV5.out]
    obtain ⟨q1c0, q1c1, q1c2, q1c3, q1c4, q1c5, q1c6, q1c7, q1l⟩ := MN5.out
    go_wp2_with fail
    refine (works_ti V5 (HG.out.later hb6)).mono ?_
    rintro e w7 ⟨rfl, b7⟩
    clear q1c0 q1c1 q1c2 q1c3 q1c4 q1c5 q1c6 q1c7 q1l
    have hb8 := hb6.trans (b7.mono hb6.size)
    have M0x8 := Lib.hid (M0x6.out.later b7)
    have M1x8 := Lib.hid (MN5.out.later b7)
    go_wp2_with fail
    go_ret
    exact ⟨rfl, hb8⟩
  · unfold momV
    obtain ⟨rfl, rfl, rfl⟩ := n7 rfl
    have hk3 := hk2
    simp only [Int.cast_ofNat_Int]
    clear hk2 n6 n7
    have hb4 := hb2.trans (b3.mono hb2.size)
    have M0x4 := Lib.hid (M0x2.out.later b3)
    obtain ⟨R2, _, hR2⟩ := ba_ex (textT 7 1972 12 31 H2 I2 S2.data.toList z2 has2)
    have cT2 := text_ok 7 (by decide) 1972 12 31 H2 I2 mu2 S2 z2 has2 hk3 R2 hR2
    have cP2 := parse_text7 1972 12 31 H2 I2 mu2 S2 z2 has2 hk3 R2 hR2
    clear hk3 hR2
    have bn5 : Below w3.heap.size w3 (w3.alloc (.cells #[.int .i64 1972, .int .i64 12, .int .i64 31, .int .i64 (H2 : Int), .int .i64 (I2 : Int), .string S2, .int .i64 z2, .bool has2] 24)) := (Below.refl _ _).alloc (Nat.le_refl _) _
    have mn5 := MomAt.new w3 1972 12 31 (H2 : Int) (I2 : Int) S2 z2 has2
    obtain ⟨V5, hV5⟩ : ∃ W, (w3.alloc (.cells #[.int .i64 1972, .int .i64 12, .int .i64 31, .int .i64 (H2 : Int), .int .i64 (I2 : Int), .string S2, .int .i64 z2, .bool has2] 24)) = W := ⟨_, rfl⟩
    rw [hV5] at bn5 mn5
    have HV5 := Lib.hid hV5
    have hb6 := hb4.trans (bn5.mono hb4.size)
    have M0x6 := Lib.hid (M0x4.out.later bn5)
    have MN5 := Lib.hid mn5
    clear hV5 mn5
    go_upto_region 17 with fail
    try rw [HV5.out]
    obtain ⟨q1c0, q1c1, q1c2, q1c3, q1c4, q1c5, q1c6, q1c7, q1l⟩ := MN5.out
    go_wp2_with fail
    refine (cT2 V5 (HG.out.later hb6)).mono ?_
    rintro e w7 ⟨rfl, b7⟩
    clear q1c0 q1c1 q1c2 q1c3 q1c4 q1c5 q1c6 q1c7 q1l
    have hb8 := hb6.trans (b7.mono hb6.size)
    have M0x8 := Lib.hid (M0x6.out.later b7)
    have M1x8 := Lib.hid (MN5.out.later b7)
    clear cT2
    obtain ⟨q1c0, q1c1, q1c2, q1c3, q1c4, q1c5, q1c6, q1c7, q1l⟩ := M1x8.out
    go_wp2_with fail
    refine (cP2 w7 (HG.out.later hb8)).mono ?_
    rintro e w9 ⟨rfl, b9⟩
    unfold momV
    clear q1c0 q1c1 q1c2 q1c3 q1c4 q1c5 q1c6 q1c7 q1l
    have hb10 := hb8.trans (b9.mono hb8.size)
    have M0x10 := Lib.hid (M0x8.out.later b9)
    have M1x10 := Lib.hid (M1x8.out.later b9)
    clear cP2
    have bn11 : Below w9.heap.size w9 (w9.alloc (.cells #[.int .i64 1972, .int .i64 12, .int .i64 31, .int .i64 (H2 : Int), .int .i64 (I2 : Int), .string S2, .int .i64 z2, .bool has2] 24)) := (Below.refl _ _).alloc (Nat.le_refl _) _
    have mn11 := MomAt.new w9 1972 12 31 (H2 : Int) (I2 : Int) S2 z2 has2
    obtain ⟨V11, hV11⟩ : ∃ W, (w9.alloc (.cells #[.int .i64 1972, .int .i64 12, .int .i64 31, .int .i64 (H2 : Int), .int .i64 (I2 : Int), .string S2, .int .i64 z2, .bool has2] 24)) = W := ⟨_, rfl⟩
    rw [hV11] at bn11 mn11
    have HV11 := Lib.hid hV11
    have hb12 := hb10.trans (bn11.mono hb10.size)
    have M0x12 := Lib.hid (M0x10.out.later bn11)
    have M1x12 := Lib.hid (M1x10.out.later bn11)
    have MN11 := Lib.hid mn11
    clear hV11 mn11
    go_upto_region 21 with fail
    try rw [HV11.out]
    obtain ⟨q1c0, q1c1, q1c2, q1c3, q1c4, q1c5, q1c6, q1c7, q1l⟩ := M1x12.out
    obtain ⟨q2c0, q2c1, q2c2, q2c3, q2c4, q2c5, q2c6, q2c7, q2l⟩ := MN11.out
    go_wp2_with fail
    refine (works_ti V11 (HG.out.later hb12)).mono ?_
    rintro e w13 ⟨rfl, b13⟩
    clear q1c0 q1c1 q1c2 q1c3 q1c4 q1c5 q1c6 q1c7 q1l q2c0 q2c1 q2c2 q2c3 q2c4 q2c5 q2c6 q2c7 q2l
    have hb14 := hb12.trans (b13.mono hb12.size)
    have M0x14 := Lib.hid (M0x12.out.later b13)
    have M1x14 := Lib.hid (M1x12.out.later b13)
    have M2x14 := Lib.hid (MN11.out.later b13)
    go_wp2_with fail
    go_ret
    exact ⟨rfl, hb14⟩
set_option maxRecDepth 100000 in
set_option maxHeartbeats 2000000 in
theorem back_ok7 (Y M D H I mu : Nat) (S : ByteArray) (z : Int) (has : Bool) (k : MomOk Y M D H I mu S z has) (hl : S.size ≤ 300) (s : ByteArray) (hs : s.size ≤ 300) (w : World) (hg : GrT w) :
    Calls Tryz.prog 7 #[momV (Y : Int) (M : Int) (D : Int) (H : Int) (I : Int) S z has, .int .i64 7, .string s] w fun e w' => e = .returned (.bool true) ∧ Below w.heap.size w w' := by
  have HG := Lib.hid hg
  unfold momV
  have hb0 : Below w.heap.size w (w.alloc (.cells #[.int .i64 (Y : Int), .int .i64 (M : Int), .int .i64 (D : Int), .int .i64 (H : Int), .int .i64 (I : Int), .string S, .int .i64 z, .bool has] 24)) := (Below.refl _ _).alloc (Nat.le_refl _) _
  have hm0 := MomAt.new w (Y : Int) (M : Int) (D : Int) (H : Int) (I : Int) S z has
  obtain ⟨W1, hW1⟩ : ∃ W, (w.alloc (.cells #[.int .i64 (Y : Int), .int .i64 (M : Int), .int .i64 (D : Int), .int .i64 (H : Int), .int .i64 (I : Int), .string S, .int .i64 z, .bool has] 24)) = W := ⟨_, rfl⟩
  rw [hW1] at hb0 hm0
  have HW1 := Lib.hid hW1
  have M0 := Lib.hid hm0
  clear hW1 hm0
  obtain ⟨q0c0, q0c1, q0c2, q0c3, q0c4, q0c5, q0c6, q0c7, q0l⟩ := M0.out
  have hlz : ¬ (300 : Int) < (S.size : Int) := by omega
  have hsz : ¬ (300 : Int) < (s.size : Int) := by omega
  obtain ⟨R, _, hR⟩ := ba_ex (textT 7 Y M D H I S.data.toList z has)
  have cT := text_ok 7 (by decide) Y M D H I mu S z has k R hR
  have cP := parse_text7 Y M D H I mu S z has k R hR
  clear hR k
  clear hg
  go_enter Tryz.func7, Tryz.ntmps7
  go_wp2_with fail
  try rw [HW1.out]
  try go_wp2_with fail
  refine (cT W1 (HG.out.later hb0)).mono ?_
  rintro e w1 ⟨rfl, b1⟩
  clear q0c0 q0c1 q0c2 q0c3 q0c4 q0c5 q0c6 q0c7 q0l
  have hb2 := hb0.trans (b1.mono hb0.size)
  have M0x2 := Lib.hid (M0.out.later b1)
  clear cT
  obtain ⟨q0c0, q0c1, q0c2, q0c3, q0c4, q0c5, q0c6, q0c7, q0l⟩ := M0x2.out
  have bn3 : Below w1.heap.size w1 (w1.alloc (.cells #[.int .i64 1972, .int .i64 12, .int .i64 31, .int .i64 (H : Int), .int .i64 (I : Int), .string S, .int .i64 z, .bool has] 24)) := (Below.refl _ _).alloc (Nat.le_refl _) _
  have mn3 := MomAt.new w1 1972 12 31 (H : Int) (I : Int) S z has
  obtain ⟨V3, hV3⟩ : ∃ W, (w1.alloc (.cells #[.int .i64 1972, .int .i64 12, .int .i64 31, .int .i64 (H : Int), .int .i64 (I : Int), .string S, .int .i64 z, .bool has] 24)) = W := ⟨_, rfl⟩
  rw [hV3] at bn3 mn3
  have HV3 := Lib.hid hV3
  have MN3 := Lib.hid mn3
  clear hV3 mn3
  go_upto_region 11 with fail
  rw [HV3.out]
  clear q0c0 q0c1 q0c2 q0c3 q0c4 q0c5 q0c6 q0c7 q0l
  have hb4 := hb2.trans (bn3.mono hb2.size)
  have M0x4 := Lib.hid (M0x2.out.later bn3)
  go_wp2_with fail
  refine (cP V3 (HG.out.later hb4)).mono ?_
  rintro e w5 ⟨rfl, b5⟩
  unfold momV
  have hb6 := hb4.trans (b5.mono hb4.size)
  have M0x6 := Lib.hid (M0x4.out.later b5)
  have M1x6 := Lib.hid (MN3.out.later b5)
  clear cP
  have bn7 : Below w5.heap.size w5 (w5.alloc (.cells #[.int .i64 1972, .int .i64 12, .int .i64 31, .int .i64 (H : Int), .int .i64 (I : Int), .string S, .int .i64 z, .bool has] 24)) := (Below.refl _ _).alloc (Nat.le_refl _) _
  have mn7 := MomAt.new w5 1972 12 31 (H : Int) (I : Int) S z has
  obtain ⟨V7, hV7⟩ : ∃ W, (w5.alloc (.cells #[.int .i64 1972, .int .i64 12, .int .i64 31, .int .i64 (H : Int), .int .i64 (I : Int), .string S, .int .i64 z, .bool has] 24)) = W := ⟨_, rfl⟩
  rw [hV7] at bn7 mn7
  have HV7 := Lib.hid hV7
  have hb8 := hb6.trans (bn7.mono hb6.size)
  have M0x8 := Lib.hid (M0x6.out.later bn7)
  have M1x8 := Lib.hid (M1x6.out.later bn7)
  have MN7 := Lib.hid mn7
  clear hV7 mn7
  go_upto_region 12 with fail
  try rw [HV7.out]
  obtain ⟨q1c0, q1c1, q1c2, q1c3, q1c4, q1c5, q1c6, q1c7, q1l⟩ := M1x8.out
  obtain ⟨q2c0, q2c1, q2c2, q2c3, q2c4, q2c5, q2c6, q2c7, q2l⟩ := MN7.out
  go_upto_region 16 with fail
  clear q1c0 q1c1 q1c2 q1c3 q1c4 q1c5 q1c6 q1c7 q1l q2c0 q2c1 q2c2 q2c3 q2c4 q2c5 q2c6 q2c7 q2l
  go_wp2_with fail
  refine (parse_all 7 (by decide) s V7 (HG.out.later hb8)).mono ?_
  rintro e w9 (⟨er, her, rfl, b9⟩ | ⟨Y2, M2, D2, H2, I2, mu2, S2, z2, has2, hk2, n6, n7, rfl, b9⟩)
  · unfold momZ momV
    have e1 : (er == 0) = false := beq_eq_false_iff_ne.2 her
    have e2 : (er != 0) = true := by rw [bne_iff_ne]; exact her
    have hb10 := hb8.trans (b9.mono hb8.size)
    have M0x10 := Lib.hid (M0x8.out.later b9)
    have M1x10 := Lib.hid (M1x8.out.later b9)
    have M2x10 := Lib.hid (MN7.out.later b9)
    have bn11 : Below w9.heap.size w9 (w9.alloc (.cells #[.int .i64 0, .int .i64 0, .int .i64 0, .int .i64 0, .int .i64 0, .string ⟨#[]⟩, .int .i64 0, .bool false] 24)) := (Below.refl _ _).alloc (Nat.le_refl _) _
    have mn11 := MomAt.new w9 0 0 0 0 0 ⟨#[]⟩ 0 false
    obtain ⟨V11, hV11⟩ : ∃ W, (w9.alloc (.cells #[.int .i64 0, .int .i64 0, .int .i64 0, .int .i64 0, .int .i64 0, .string ⟨#[]⟩, .int .i64 0, .bool false] 24)) = W := ⟨_, rfl⟩
    rw [hV11] at bn11 mn11
    have HV11 := Lib.hid hV11
    have hb12 := hb10.trans (bn11.mono hb10.size)
    have M0x12 := Lib.hid (M0x10.out.later bn11)
    have M1x12 := Lib.hid (M1x10.out.later bn11)
    have M2x12 := Lib.hid (M2x10.out.later bn11)
    have MN11 := Lib.hid mn11
    clear hV11 mn11
    go_upto_region 17 with fail
    try rw [HV11.out]
    obtain ⟨q3c0, q3c1, q3c2, q3c3, q3c4, q3c5, q3c6, q3c7, q3l⟩ := MN11.out
    go_wp2_with fail
    refine (works_ti V11 (HG.out.later hb12)).mono ?_
    rintro e w13 ⟨rfl, b13⟩
    clear q3c0 q3c1 q3c2 q3c3 q3c4 q3c5 q3c6 q3c7 q3l
    have hb14 := hb12.trans (b13.mono hb12.size)
    have M0x14 := Lib.hid (M0x12.out.later b13)
    have M1x14 := Lib.hid (M1x12.out.later b13)
    have M2x14 := Lib.hid (M2x12.out.later b13)
    have M3x14 := Lib.hid (MN11.out.later b13)
    go_wp2_with fail
    go_ret
    exact ⟨rfl, hb14⟩
  · unfold momV
    obtain ⟨rfl, rfl, rfl⟩ := n7 rfl
    have hk3 := hk2
    simp only [Int.cast_ofNat_Int]
    clear hk2 n6 n7
    have hb10 := hb8.trans (b9.mono hb8.size)
    have M0x10 := Lib.hid (M0x8.out.later b9)
    have M1x10 := Lib.hid (M1x8.out.later b9)
    have M2x10 := Lib.hid (MN7.out.later b9)
    obtain ⟨R2, _, hR2⟩ := ba_ex (textT 7 1972 12 31 H2 I2 S2.data.toList z2 has2)
    have cT2 := text_ok 7 (by decide) 1972 12 31 H2 I2 mu2 S2 z2 has2 hk3 R2 hR2
    have cP2 := parse_text7 1972 12 31 H2 I2 mu2 S2 z2 has2 hk3 R2 hR2
    clear hk3 hR2
    have bn11 : Below w9.heap.size w9 (w9.alloc (.cells #[.int .i64 1972, .int .i64 12, .int .i64 31, .int .i64 (H2 : Int), .int .i64 (I2 : Int), .string S2, .int .i64 z2, .bool has2] 24)) := (Below.refl _ _).alloc (Nat.le_refl _) _
    have mn11 := MomAt.new w9 1972 12 31 (H2 : Int) (I2 : Int) S2 z2 has2
    obtain ⟨V11, hV11⟩ : ∃ W, (w9.alloc (.cells #[.int .i64 1972, .int .i64 12, .int .i64 31, .int .i64 (H2 : Int), .int .i64 (I2 : Int), .string S2, .int .i64 z2, .bool has2] 24)) = W := ⟨_, rfl⟩
    rw [hV11] at bn11 mn11
    have HV11 := Lib.hid hV11
    have hb12 := hb10.trans (bn11.mono hb10.size)
    have M0x12 := Lib.hid (M0x10.out.later bn11)
    have M1x12 := Lib.hid (M1x10.out.later bn11)
    have M2x12 := Lib.hid (M2x10.out.later bn11)
    have MN11 := Lib.hid mn11
    clear hV11 mn11
    go_upto_region 17 with fail
    try rw [HV11.out]
    obtain ⟨q3c0, q3c1, q3c2, q3c3, q3c4, q3c5, q3c6, q3c7, q3l⟩ := MN11.out
    go_wp2_with fail
    refine (cT2 V11 (HG.out.later hb12)).mono ?_
    rintro e w13 ⟨rfl, b13⟩
    clear q3c0 q3c1 q3c2 q3c3 q3c4 q3c5 q3c6 q3c7 q3l
    have hb14 := hb12.trans (b13.mono hb12.size)
    have M0x14 := Lib.hid (M0x12.out.later b13)
    have M1x14 := Lib.hid (M1x12.out.later b13)
    have M2x14 := Lib.hid (M2x12.out.later b13)
    have M3x14 := Lib.hid (MN11.out.later b13)
    clear cT2
    obtain ⟨q3c0, q3c1, q3c2, q3c3, q3c4, q3c5, q3c6, q3c7, q3l⟩ := M3x14.out
    go_wp2_with fail
    refine (cP2 w13 (HG.out.later hb14)).mono ?_
    rintro e w15 ⟨rfl, b15⟩
    unfold momV
    clear q3c0 q3c1 q3c2 q3c3 q3c4 q3c5 q3c6 q3c7 q3l
    have hb16 := hb14.trans (b15.mono hb14.size)
    have M0x16 := Lib.hid (M0x14.out.later b15)
    have M1x16 := Lib.hid (M1x14.out.later b15)
    have M2x16 := Lib.hid (M2x14.out.later b15)
    have M3x16 := Lib.hid (M3x14.out.later b15)
    clear cP2
    have bn17 : Below w15.heap.size w15 (w15.alloc (.cells #[.int .i64 1972, .int .i64 12, .int .i64 31, .int .i64 (H2 : Int), .int .i64 (I2 : Int), .string S2, .int .i64 z2, .bool has2] 24)) := (Below.refl _ _).alloc (Nat.le_refl _) _
    have mn17 := MomAt.new w15 1972 12 31 (H2 : Int) (I2 : Int) S2 z2 has2
    obtain ⟨V17, hV17⟩ : ∃ W, (w15.alloc (.cells #[.int .i64 1972, .int .i64 12, .int .i64 31, .int .i64 (H2 : Int), .int .i64 (I2 : Int), .string S2, .int .i64 z2, .bool has2] 24)) = W := ⟨_, rfl⟩
    rw [hV17] at bn17 mn17
    have HV17 := Lib.hid hV17
    have hb18 := hb16.trans (bn17.mono hb16.size)
    have M0x18 := Lib.hid (M0x16.out.later bn17)
    have M1x18 := Lib.hid (M1x16.out.later bn17)
    have M2x18 := Lib.hid (M2x16.out.later bn17)
    have M3x18 := Lib.hid (M3x16.out.later bn17)
    have MN17 := Lib.hid mn17
    clear hV17 mn17
    go_upto_region 21 with fail
    try rw [HV17.out]
    obtain ⟨q3c0, q3c1, q3c2, q3c3, q3c4, q3c5, q3c6, q3c7, q3l⟩ := M3x18.out
    obtain ⟨q4c0, q4c1, q4c2, q4c3, q4c4, q4c5, q4c6, q4c7, q4l⟩ := MN17.out
    go_wp2_with fail
    refine (works_ti V17 (HG.out.later hb18)).mono ?_
    rintro e w19 ⟨rfl, b19⟩
    clear q3c0 q3c1 q3c2 q3c3 q3c4 q3c5 q3c6 q3c7 q3l q4c0 q4c1 q4c2 q4c3 q4c4 q4c5 q4c6 q4c7 q4l
    have hb20 := hb18.trans (b19.mono hb18.size)
    have M0x20 := Lib.hid (M0x18.out.later b19)
    have M1x20 := Lib.hid (M1x18.out.later b19)
    have M2x20 := Lib.hid (M2x18.out.later b19)
    have M3x20 := Lib.hid (M3x18.out.later b19)
    have M4x20 := Lib.hid (MN17.out.later b19)
    go_wp2_with fail
    go_ret
    exact ⟨rfl, hb20⟩
set_option maxRecDepth 100000 in
set_option maxHeartbeats 2000000 in
theorem back_bad8 (y mo d h mi : Int) (S : ByteArray) (z : Int) (has : Bool) (hl : S.size ≤ 300) (hv : validB y mo d h mi S.data.toList z has = false) (s : ByteArray) (hs : s.size ≤ 300) (w : World) (hg : GrT w) :
    Calls Tryz.prog 7 #[momV y mo d h mi S z has, .int .i64 8, .string s] w fun e w' => e = .returned (.bool true) ∧ Below w.heap.size w w' := by
  have HG := Lib.hid hg
  unfold momV
  have hb0 : Below w.heap.size w (w.alloc (.cells #[.int .i64 y, .int .i64 mo, .int .i64 d, .int .i64 h, .int .i64 mi, .string S, .int .i64 z, .bool has] 24)) := (Below.refl _ _).alloc (Nat.le_refl _) _
  have hm0 := MomAt.new w y mo d h mi S z has
  obtain ⟨W1, hW1⟩ : ∃ W, (w.alloc (.cells #[.int .i64 y, .int .i64 mo, .int .i64 d, .int .i64 h, .int .i64 mi, .string S, .int .i64 z, .bool has] 24)) = W := ⟨_, rfl⟩
  rw [hW1] at hb0 hm0
  have HW1 := Lib.hid hW1
  have M0 := Lib.hid hm0
  clear hW1 hm0
  obtain ⟨q0c0, q0c1, q0c2, q0c3, q0c4, q0c5, q0c6, q0c7, q0l⟩ := M0.out
  have hlz : ¬ (300 : Int) < (S.size : Int) := by omega
  have hsz : ¬ (300 : Int) < (s.size : Int) := by omega
  have cT := text_bad 8 y mo d h mi S z has (by omega) hv
  clear hg
  go_enter Tryz.func7, Tryz.ntmps7
  go_wp2_with fail
  try rw [HW1.out]
  try go_wp2_with fail
  refine (cT W1 (HG.out.later hb0)).mono ?_
  rintro e w1 ⟨rfl, b1⟩
  clear q0c0 q0c1 q0c2 q0c3 q0c4 q0c5 q0c6 q0c7 q0l
  have hb2 := hb0.trans (b1.mono hb0.size)
  have M0x2 := Lib.hid (M0.out.later b1)
  clear cT
  go_wp2_with fail
  refine (parse_all 8 (by decide) s w1 (HG.out.later hb2)).mono ?_
  rintro e w3 (⟨er, her, rfl, b3⟩ | ⟨Y2, M2, D2, H2, I2, mu2, S2, z2, has2, hk2, n6, n7, rfl, b3⟩)
  · unfold momZ momV
    have e1 : (er == 0) = false := beq_eq_false_iff_ne.2 her
    have e2 : (er != 0) = true := by rw [bne_iff_ne]; exact her
    have hb4 := hb2.trans (b3.mono hb2.size)
    have M0x4 := Lib.hid (M0x2.out.later b3)
    have bn5 : Below w3.heap.size w3 (w3.alloc (.cells #[.int .i64 0, .int .i64 0, .int .i64 0, .int .i64 0, .int .i64 0, .string ⟨#[]⟩, .int .i64 0, .bool false] 24)) := (Below.refl _ _).alloc (Nat.le_refl _) _
    have mn5 := MomAt.new w3 0 0 0 0 0 ⟨#[]⟩ 0 false
    obtain ⟨V5, hV5⟩ : ∃ W, (w3.alloc (.cells #[.int .i64 0, .int .i64 0, .int .i64 0, .int .i64 0, .int .i64 0, .string ⟨#[]⟩, .int .i64 0, .bool false] 24)) = W := ⟨_, rfl⟩
    rw [hV5] at bn5 mn5
    have HV5 := Lib.hid hV5
    have hb6 := hb4.trans (bn5.mono hb4.size)
    have M0x6 := Lib.hid (M0x4.out.later bn5)
    have MN5 := Lib.hid mn5
    clear hV5 mn5
    go_upto_region 17 with fail
    try rw [HV5.out]
    obtain ⟨q1c0, q1c1, q1c2, q1c3, q1c4, q1c5, q1c6, q1c7, q1l⟩ := MN5.out
    go_wp2_with fail
    refine (works_ti V5 (HG.out.later hb6)).mono ?_
    rintro e w7 ⟨rfl, b7⟩
    clear q1c0 q1c1 q1c2 q1c3 q1c4 q1c5 q1c6 q1c7 q1l
    have hb8 := hb6.trans (b7.mono hb6.size)
    have M0x8 := Lib.hid (M0x6.out.later b7)
    have M1x8 := Lib.hid (MN5.out.later b7)
    go_wp2_with fail
    go_ret
    exact ⟨rfl, hb8⟩
  · unfold momV
    have hk3 := hk2
    clear hk2 n6 n7
    have hb4 := hb2.trans (b3.mono hb2.size)
    have M0x4 := Lib.hid (M0x2.out.later b3)
    obtain ⟨R2, _, hR2⟩ := ba_ex (textT 8 Y2 M2 D2 H2 I2 S2.data.toList z2 has2)
    have cT2 := text_ok 8 (by decide) Y2 M2 D2 H2 I2 mu2 S2 z2 has2 hk3 R2 hR2
    have cP2 := parse_text8 Y2 M2 D2 H2 I2 mu2 S2 z2 has2 hk3 R2 hR2
    clear hk3 hR2
    have bn5 : Below w3.heap.size w3 (w3.alloc (.cells #[.int .i64 (Y2 : Int), .int .i64 (M2 : Int), .int .i64 (D2 : Int), .int .i64 (H2 : Int), .int .i64 (I2 : Int), .string S2, .int .i64 z2, .bool has2] 24)) := (Below.refl _ _).alloc (Nat.le_refl _) _
    have mn5 := MomAt.new w3 (Y2 : Int) (M2 : Int) (D2 : Int) (H2 : Int) (I2 : Int) S2 z2 has2
    obtain ⟨V5, hV5⟩ : ∃ W, (w3.alloc (.cells #[.int .i64 (Y2 : Int), .int .i64 (M2 : Int), .int .i64 (D2 : Int), .int .i64 (H2 : Int), .int .i64 (I2 : Int), .string S2, .int .i64 z2, .bool has2] 24)) = W := ⟨_, rfl⟩
    rw [hV5] at bn5 mn5
    have HV5 := Lib.hid hV5
    have hb6 := hb4.trans (bn5.mono hb4.size)
    have M0x6 := Lib.hid (M0x4.out.later bn5)
    have MN5 := Lib.hid mn5
    clear hV5 mn5
    go_upto_region 17 with fail
    try rw [HV5.out]
    obtain ⟨q1c0, q1c1, q1c2, q1c3, q1c4, q1c5, q1c6, q1c7, q1l⟩ := MN5.out
    go_wp2_with fail
    refine (cT2 V5 (HG.out.later hb6)).mono ?_
    rintro e w7 ⟨rfl, b7⟩
    clear q1c0 q1c1 q1c2 q1c3 q1c4 q1c5 q1c6 q1c7 q1l
    have hb8 := hb6.trans (b7.mono hb6.size)
    have M0x8 := Lib.hid (M0x6.out.later b7)
    have M1x8 := Lib.hid (MN5.out.later b7)
    clear cT2
    obtain ⟨q1c0, q1c1, q1c2, q1c3, q1c4, q1c5, q1c6, q1c7, q1l⟩ := M1x8.out
    go_wp2_with fail
    refine (cP2 w7 (HG.out.later hb8)).mono ?_
    rintro e w9 ⟨rfl, b9⟩
    unfold momV
    clear q1c0 q1c1 q1c2 q1c3 q1c4 q1c5 q1c6 q1c7 q1l
    have hb10 := hb8.trans (b9.mono hb8.size)
    have M0x10 := Lib.hid (M0x8.out.later b9)
    have M1x10 := Lib.hid (M1x8.out.later b9)
    clear cP2
    have bn11 : Below w9.heap.size w9 (w9.alloc (.cells #[.int .i64 (Y2 : Int), .int .i64 (M2 : Int), .int .i64 (D2 : Int), .int .i64 (H2 : Int), .int .i64 (I2 : Int), .string S2, .int .i64 z2, .bool has2] 24)) := (Below.refl _ _).alloc (Nat.le_refl _) _
    have mn11 := MomAt.new w9 (Y2 : Int) (M2 : Int) (D2 : Int) (H2 : Int) (I2 : Int) S2 z2 has2
    obtain ⟨V11, hV11⟩ : ∃ W, (w9.alloc (.cells #[.int .i64 (Y2 : Int), .int .i64 (M2 : Int), .int .i64 (D2 : Int), .int .i64 (H2 : Int), .int .i64 (I2 : Int), .string S2, .int .i64 z2, .bool has2] 24)) = W := ⟨_, rfl⟩
    rw [hV11] at bn11 mn11
    have HV11 := Lib.hid hV11
    have hb12 := hb10.trans (bn11.mono hb10.size)
    have M0x12 := Lib.hid (M0x10.out.later bn11)
    have M1x12 := Lib.hid (M1x10.out.later bn11)
    have MN11 := Lib.hid mn11
    clear hV11 mn11
    go_upto_region 21 with fail
    try rw [HV11.out]
    obtain ⟨q1c0, q1c1, q1c2, q1c3, q1c4, q1c5, q1c6, q1c7, q1l⟩ := M1x12.out
    obtain ⟨q2c0, q2c1, q2c2, q2c3, q2c4, q2c5, q2c6, q2c7, q2l⟩ := MN11.out
    go_wp2_with fail
    refine (works_ti V11 (HG.out.later hb12)).mono ?_
    rintro e w13 ⟨rfl, b13⟩
    clear q1c0 q1c1 q1c2 q1c3 q1c4 q1c5 q1c6 q1c7 q1l q2c0 q2c1 q2c2 q2c3 q2c4 q2c5 q2c6 q2c7 q2l
    have hb14 := hb12.trans (b13.mono hb12.size)
    have M0x14 := Lib.hid (M0x12.out.later b13)
    have M1x14 := Lib.hid (M1x12.out.later b13)
    have M2x14 := Lib.hid (MN11.out.later b13)
    go_wp2_with fail
    go_ret
    exact ⟨rfl, hb14⟩
set_option maxRecDepth 100000 in
set_option maxHeartbeats 2000000 in
theorem back_ok8 (Y M D H I mu : Nat) (S : ByteArray) (z : Int) (has : Bool) (k : MomOk Y M D H I mu S z has) (hl : S.size ≤ 300) (s : ByteArray) (hs : s.size ≤ 300) (w : World) (hg : GrT w) :
    Calls Tryz.prog 7 #[momV (Y : Int) (M : Int) (D : Int) (H : Int) (I : Int) S z has, .int .i64 8, .string s] w fun e w' => e = .returned (.bool true) ∧ Below w.heap.size w w' := by
  have HG := Lib.hid hg
  unfold momV
  have hb0 : Below w.heap.size w (w.alloc (.cells #[.int .i64 (Y : Int), .int .i64 (M : Int), .int .i64 (D : Int), .int .i64 (H : Int), .int .i64 (I : Int), .string S, .int .i64 z, .bool has] 24)) := (Below.refl _ _).alloc (Nat.le_refl _) _
  have hm0 := MomAt.new w (Y : Int) (M : Int) (D : Int) (H : Int) (I : Int) S z has
  obtain ⟨W1, hW1⟩ : ∃ W, (w.alloc (.cells #[.int .i64 (Y : Int), .int .i64 (M : Int), .int .i64 (D : Int), .int .i64 (H : Int), .int .i64 (I : Int), .string S, .int .i64 z, .bool has] 24)) = W := ⟨_, rfl⟩
  rw [hW1] at hb0 hm0
  have HW1 := Lib.hid hW1
  have M0 := Lib.hid hm0
  clear hW1 hm0
  obtain ⟨q0c0, q0c1, q0c2, q0c3, q0c4, q0c5, q0c6, q0c7, q0l⟩ := M0.out
  have hlz : ¬ (300 : Int) < (S.size : Int) := by omega
  have hsz : ¬ (300 : Int) < (s.size : Int) := by omega
  obtain ⟨R, _, hR⟩ := ba_ex (textT 8 Y M D H I S.data.toList z has)
  have cT := text_ok 8 (by decide) Y M D H I mu S z has k R hR
  have cP := parse_text8 Y M D H I mu S z has k R hR
  clear hR k
  clear hg
  go_enter Tryz.func7, Tryz.ntmps7
  go_wp2_with fail
  try rw [HW1.out]
  try go_wp2_with fail
  refine (cT W1 (HG.out.later hb0)).mono ?_
  rintro e w1 ⟨rfl, b1⟩
  clear q0c0 q0c1 q0c2 q0c3 q0c4 q0c5 q0c6 q0c7 q0l
  have hb2 := hb0.trans (b1.mono hb0.size)
  have M0x2 := Lib.hid (M0.out.later b1)
  clear cT
  obtain ⟨q0c0, q0c1, q0c2, q0c3, q0c4, q0c5, q0c6, q0c7, q0l⟩ := M0x2.out
  have bn3 : Below w1.heap.size w1 (w1.alloc (.cells #[.int .i64 (Y : Int), .int .i64 (M : Int), .int .i64 (D : Int), .int .i64 (H : Int), .int .i64 (I : Int), .string S, .int .i64 z, .bool has] 24)) := (Below.refl _ _).alloc (Nat.le_refl _) _
  have mn3 := MomAt.new w1 (Y : Int) (M : Int) (D : Int) (H : Int) (I : Int) S z has
  obtain ⟨V3, hV3⟩ : ∃ W, (w1.alloc (.cells #[.int .i64 (Y : Int), .int .i64 (M : Int), .int .i64 (D : Int), .int .i64 (H : Int), .int .i64 (I : Int), .string S, .int .i64 z, .bool has] 24)) = W := ⟨_, rfl⟩
  rw [hV3] at bn3 mn3
  have HV3 := Lib.hid hV3
  have MN3 := Lib.hid mn3
  clear hV3 mn3
  go_upto_region 11 with fail
  rw [HV3.out]
  clear q0c0 q0c1 q0c2 q0c3 q0c4 q0c5 q0c6 q0c7 q0l
  have hb4 := hb2.trans (bn3.mono hb2.size)
  have M0x4 := Lib.hid (M0x2.out.later bn3)
  go_wp2_with fail
  refine (cP V3 (HG.out.later hb4)).mono ?_
  rintro e w5 ⟨rfl, b5⟩
  unfold momV
  have hb6 := hb4.trans (b5.mono hb4.size)
  have M0x6 := Lib.hid (M0x4.out.later b5)
  have M1x6 := Lib.hid (MN3.out.later b5)
  clear cP
  have bn7 : Below w5.heap.size w5 (w5.alloc (.cells #[.int .i64 (Y : Int), .int .i64 (M : Int), .int .i64 (D : Int), .int .i64 (H : Int), .int .i64 (I : Int), .string S, .int .i64 z, .bool has] 24)) := (Below.refl _ _).alloc (Nat.le_refl _) _
  have mn7 := MomAt.new w5 (Y : Int) (M : Int) (D : Int) (H : Int) (I : Int) S z has
  obtain ⟨V7, hV7⟩ : ∃ W, (w5.alloc (.cells #[.int .i64 (Y : Int), .int .i64 (M : Int), .int .i64 (D : Int), .int .i64 (H : Int), .int .i64 (I : Int), .string S, .int .i64 z, .bool has] 24)) = W := ⟨_, rfl⟩
  rw [hV7] at bn7 mn7
  have HV7 := Lib.hid hV7
  have hb8 := hb6.trans (bn7.mono hb6.size)
  have M0x8 := Lib.hid (M0x6.out.later bn7)
  have M1x8 := Lib.hid (M1x6.out.later bn7)
  have MN7 := Lib.hid mn7
  clear hV7 mn7
  go_upto_region 12 with fail
  try rw [HV7.out]
  obtain ⟨q1c0, q1c1, q1c2, q1c3, q1c4, q1c5, q1c6, q1c7, q1l⟩ := M1x8.out
  obtain ⟨q2c0, q2c1, q2c2, q2c3, q2c4, q2c5, q2c6, q2c7, q2l⟩ := MN7.out
  go_upto_region 16 with fail
  clear q1c0 q1c1 q1c2 q1c3 q1c4 q1c5 q1c6 q1c7 q1l q2c0 q2c1 q2c2 q2c3 q2c4 q2c5 q2c6 q2c7 q2l
  go_wp2_with fail
  refine (parse_all 8 (by decide) s V7 (HG.out.later hb8)).mono ?_
  rintro e w9 (⟨er, her, rfl, b9⟩ | ⟨Y2, M2, D2, H2, I2, mu2, S2, z2, has2, hk2, n6, n7, rfl, b9⟩)
  · unfold momZ momV
    have e1 : (er == 0) = false := beq_eq_false_iff_ne.2 her
    have e2 : (er != 0) = true := by rw [bne_iff_ne]; exact her
    have hb10 := hb8.trans (b9.mono hb8.size)
    have M0x10 := Lib.hid (M0x8.out.later b9)
    have M1x10 := Lib.hid (M1x8.out.later b9)
    have M2x10 := Lib.hid (MN7.out.later b9)
    have bn11 : Below w9.heap.size w9 (w9.alloc (.cells #[.int .i64 0, .int .i64 0, .int .i64 0, .int .i64 0, .int .i64 0, .string ⟨#[]⟩, .int .i64 0, .bool false] 24)) := (Below.refl _ _).alloc (Nat.le_refl _) _
    have mn11 := MomAt.new w9 0 0 0 0 0 ⟨#[]⟩ 0 false
    obtain ⟨V11, hV11⟩ : ∃ W, (w9.alloc (.cells #[.int .i64 0, .int .i64 0, .int .i64 0, .int .i64 0, .int .i64 0, .string ⟨#[]⟩, .int .i64 0, .bool false] 24)) = W := ⟨_, rfl⟩
    rw [hV11] at bn11 mn11
    have HV11 := Lib.hid hV11
    have hb12 := hb10.trans (bn11.mono hb10.size)
    have M0x12 := Lib.hid (M0x10.out.later bn11)
    have M1x12 := Lib.hid (M1x10.out.later bn11)
    have M2x12 := Lib.hid (M2x10.out.later bn11)
    have MN11 := Lib.hid mn11
    clear hV11 mn11
    go_upto_region 17 with fail
    try rw [HV11.out]
    obtain ⟨q3c0, q3c1, q3c2, q3c3, q3c4, q3c5, q3c6, q3c7, q3l⟩ := MN11.out
    go_wp2_with fail
    refine (works_ti V11 (HG.out.later hb12)).mono ?_
    rintro e w13 ⟨rfl, b13⟩
    clear q3c0 q3c1 q3c2 q3c3 q3c4 q3c5 q3c6 q3c7 q3l
    have hb14 := hb12.trans (b13.mono hb12.size)
    have M0x14 := Lib.hid (M0x12.out.later b13)
    have M1x14 := Lib.hid (M1x12.out.later b13)
    have M2x14 := Lib.hid (M2x12.out.later b13)
    have M3x14 := Lib.hid (MN11.out.later b13)
    go_wp2_with fail
    go_ret
    exact ⟨rfl, hb14⟩
  · unfold momV
    have hk3 := hk2
    clear hk2 n6 n7
    have hb10 := hb8.trans (b9.mono hb8.size)
    have M0x10 := Lib.hid (M0x8.out.later b9)
    have M1x10 := Lib.hid (M1x8.out.later b9)
    have M2x10 := Lib.hid (MN7.out.later b9)
    obtain ⟨R2, _, hR2⟩ := ba_ex (textT 8 Y2 M2 D2 H2 I2 S2.data.toList z2 has2)
    have cT2 := text_ok 8 (by decide) Y2 M2 D2 H2 I2 mu2 S2 z2 has2 hk3 R2 hR2
    have cP2 := parse_text8 Y2 M2 D2 H2 I2 mu2 S2 z2 has2 hk3 R2 hR2
    clear hk3 hR2
    have bn11 : Below w9.heap.size w9 (w9.alloc (.cells #[.int .i64 (Y2 : Int), .int .i64 (M2 : Int), .int .i64 (D2 : Int), .int .i64 (H2 : Int), .int .i64 (I2 : Int), .string S2, .int .i64 z2, .bool has2] 24)) := (Below.refl _ _).alloc (Nat.le_refl _) _
    have mn11 := MomAt.new w9 (Y2 : Int) (M2 : Int) (D2 : Int) (H2 : Int) (I2 : Int) S2 z2 has2
    obtain ⟨V11, hV11⟩ : ∃ W, (w9.alloc (.cells #[.int .i64 (Y2 : Int), .int .i64 (M2 : Int), .int .i64 (D2 : Int), .int .i64 (H2 : Int), .int .i64 (I2 : Int), .string S2, .int .i64 z2, .bool has2] 24)) = W := ⟨_, rfl⟩
    rw [hV11] at bn11 mn11
    have HV11 := Lib.hid hV11
    have hb12 := hb10.trans (bn11.mono hb10.size)
    have M0x12 := Lib.hid (M0x10.out.later bn11)
    have M1x12 := Lib.hid (M1x10.out.later bn11)
    have M2x12 := Lib.hid (M2x10.out.later bn11)
    have MN11 := Lib.hid mn11
    clear hV11 mn11
    go_upto_region 17 with fail
    try rw [HV11.out]
    obtain ⟨q3c0, q3c1, q3c2, q3c3, q3c4, q3c5, q3c6, q3c7, q3l⟩ := MN11.out
    go_wp2_with fail
    refine (cT2 V11 (HG.out.later hb12)).mono ?_
    rintro e w13 ⟨rfl, b13⟩
    clear q3c0 q3c1 q3c2 q3c3 q3c4 q3c5 q3c6 q3c7 q3l
    have hb14 := hb12.trans (b13.mono hb12.size)
    have M0x14 := Lib.hid (M0x12.out.later b13)
    have M1x14 := Lib.hid (M1x12.out.later b13)
    have M2x14 := Lib.hid (M2x12.out.later b13)
    have M3x14 := Lib.hid (MN11.out.later b13)
    clear cT2
    obtain ⟨q3c0, q3c1, q3c2, q3c3, q3c4, q3c5, q3c6, q3c7, q3l⟩ := M3x14.out
    go_wp2_with fail
    refine (cP2 w13 (HG.out.later hb14)).mono ?_
    rintro e w15 ⟨rfl, b15⟩
    unfold momV
    clear q3c0 q3c1 q3c2 q3c3 q3c4 q3c5 q3c6 q3c7 q3l
    have hb16 := hb14.trans (b15.mono hb14.size)
    have M0x16 := Lib.hid (M0x14.out.later b15)
    have M1x16 := Lib.hid (M1x14.out.later b15)
    have M2x16 := Lib.hid (M2x14.out.later b15)
    have M3x16 := Lib.hid (M3x14.out.later b15)
    clear cP2
    have bn17 : Below w15.heap.size w15 (w15.alloc (.cells #[.int .i64 (Y2 : Int), .int .i64 (M2 : Int), .int .i64 (D2 : Int), .int .i64 (H2 : Int), .int .i64 (I2 : Int), .string S2, .int .i64 z2, .bool has2] 24)) := (Below.refl _ _).alloc (Nat.le_refl _) _
    have mn17 := MomAt.new w15 (Y2 : Int) (M2 : Int) (D2 : Int) (H2 : Int) (I2 : Int) S2 z2 has2
    obtain ⟨V17, hV17⟩ : ∃ W, (w15.alloc (.cells #[.int .i64 (Y2 : Int), .int .i64 (M2 : Int), .int .i64 (D2 : Int), .int .i64 (H2 : Int), .int .i64 (I2 : Int), .string S2, .int .i64 z2, .bool has2] 24)) = W := ⟨_, rfl⟩
    rw [hV17] at bn17 mn17
    have HV17 := Lib.hid hV17
    have hb18 := hb16.trans (bn17.mono hb16.size)
    have M0x18 := Lib.hid (M0x16.out.later bn17)
    have M1x18 := Lib.hid (M1x16.out.later bn17)
    have M2x18 := Lib.hid (M2x16.out.later bn17)
    have M3x18 := Lib.hid (M3x16.out.later bn17)
    have MN17 := Lib.hid mn17
    clear hV17 mn17
    go_upto_region 21 with fail
    try rw [HV17.out]
    obtain ⟨q3c0, q3c1, q3c2, q3c3, q3c4, q3c5, q3c6, q3c7, q3l⟩ := M3x18.out
    obtain ⟨q4c0, q4c1, q4c2, q4c3, q4c4, q4c5, q4c6, q4c7, q4l⟩ := MN17.out
    go_wp2_with fail
    refine (works_ti V17 (HG.out.later hb18)).mono ?_
    rintro e w19 ⟨rfl, b19⟩
    clear q3c0 q3c1 q3c2 q3c3 q3c4 q3c5 q3c6 q3c7 q3l q4c0 q4c1 q4c2 q4c3 q4c4 q4c5 q4c6 q4c7 q4l
    have hb20 := hb18.trans (b19.mono hb18.size)
    have M0x20 := Lib.hid (M0x18.out.later b19)
    have M1x20 := Lib.hid (M1x18.out.later b19)
    have M2x20 := Lib.hid (M2x18.out.later b19)
    have M3x20 := Lib.hid (M3x18.out.later b19)
    have M4x20 := Lib.hid (MN17.out.later b19)
    go_wp2_with fail
    go_ret
    exact ⟨rfl, hb20⟩
theorem back_law (y mo d h mi : Int) (S : ByteArray) (z : Int) (has : Bool) (kd : Int) (s : ByteArray) (w : World) (hg : GrT w) :
    Calls Tryz.prog 7 #[momV y mo d h mi S z has, .int .i64 kd, .string s] w fun e w' => e = .returned (.bool true) ∧ Below w.heap.size w w' := by
  by_cases hl : 300 < S.size
  · exact back_long y mo d h mi S z has hl kd s w hg
  by_cases hs : 300 < s.size
  · exact back_long2 y mo d h mi S z has (by omega) kd s hs w hg
  cases hv : validB y mo d h mi S.data.toList z has with
  | false =>
    by_cases hk : kd = 6 ∨ kd = 7 ∨ kd = 8
    · rcases hk with rfl | rfl | rfl
      · exact back_bad6 y mo d h mi S z has (by omega) hv s (by omega) w hg
      · exact back_bad7 y mo d h mi S z has (by omega) hv s (by omega) w hg
      · exact back_bad8 y mo d h mi S z has (by omega) hv s (by omega) w hg
    · exact back_nokind y mo d h mi S z has (by omega) hv kd s (by omega) hk w hg
  | true =>
    obtain ⟨Y, M, D, H, I, mu, rfl, rfl, rfl, rfl, rfl, k⟩ := valid_mom hv
    by_cases hk : kd = 6 ∨ kd = 7 ∨ kd = 8
    · rcases hk with rfl | rfl | rfl
      · exact back_ok6 Y M D H I mu S z has k (by omega) s (by omega) w hg
      · exact back_ok7 Y M D H I mu S z has k (by omega) s (by omega) w hg
      · exact back_ok8 Y M D H I mu S z has k (by omega) s (by omega) w hg
    · exact back_nokind2 Y M D H I mu S z has k (by omega) kd s (by omega) hk w hg
end Go.Proofs.YtgmnjghbafbopaaGreatDoor

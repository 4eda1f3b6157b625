/- The law TimeOrder: it answers true. -/
import Derived.Test.YtgmnjghbafbopaaGreatDoorMTiBefore
import Derived.Test.YtgmnjghbafbopaaGreatDoorMTiLawSums
import Derived.RegionTactic
namespace Go.Proofs.YtgmnjghbafbopaaGreatDoor
open Go.RowKit Go.Lib

/-- Texts of seconds are ordered as the seconds are. -/
theorem cmp_secs {x y : Int} {X Y : List UInt8} (hx : secT (decide (x < 0)) x.natAbs = (X, 0)) (hy : secT (decide (y < 0)) y.natAbs = (Y, 0)) : cmpR X Y = (if x < y then -1 else if y < x then 1 else 0, 0) := by
  unfold secT at hx hy
  obtain ⟨p, p1, p2⟩ := resR_back hx
  obtain ⟨q, q1, q2⟩ := resR_back hy
  rw [cmpR_some p1 q1, cmpN_toZ _ _ _ _ (text_canon _ _ _ p1).2.2 (text_canon _ _ _ q1).2.2, p2, q2, toZ_abs, toZ_abs]
  have e1 : x * ((10 ^ 14 : Nat) : Int) < y * ((10 ^ 14 : Nat) : Int) ↔ x < y := Int.mul_lt_mul_right (by decide)
  have e2 : y * ((10 ^ 14 : Nat) : Int) < x * ((10 ^ 14 : Nat) : Int) ↔ y < x := Int.mul_lt_mul_right (by decide)
  unfold sgnZ
  simp only [e1, e2]
set_option maxRecDepth 100000 in
set_option maxHeartbeats 2000000 in
theorem order_long (y mo d h mi : Int) (S : ByteArray) (z : Int) (has : Bool) (y' mo' d' h' mi' : Int) (S' : ByteArray) (z' : Int) (has' : Bool) (hl : 300 < S.size) (w : World) (hg : GrT w) :
    Calls Tryz.prog 8 #[momV y mo d h mi S z has, momV y' mo' d' h' mi' S' z' has'] w fun e w' => e = .returned (.bool true) ∧ Below w.heap.size w w' := by
  have HG := Lib.hid hg
  unfold momV
  have hb0 : Below w.heap.size w ((w.alloc (.cells #[.int .i64 y, .int .i64 mo, .int .i64 d, .int .i64 h, .int .i64 mi, .string S, .int .i64 z, .bool has] 24)).alloc (.cells #[.int .i64 y', .int .i64 mo', .int .i64 d', .int .i64 h', .int .i64 mi', .string S', .int .i64 z', .bool has'] 24)) := ((Below.refl _ _).alloc (Nat.le_refl _) _).alloc (by simp) _
  have hm0 := MomAt.new w y mo d h mi S z has
  have hm1 := MomAt.new (w.alloc (.cells #[.int .i64 y, .int .i64 mo, .int .i64 d, .int .i64 h, .int .i64 mi, .string S, .int .i64 z, .bool has] 24)) y' mo' d' h' mi' S' z' has'
  simp only [World.size_alloc] at hm1
  have hm0 := hm0.later ((Below.refl _ _).alloc (Nat.le_refl _) (.cells #[.int .i64 y', .int .i64 mo', .int .i64 d', .int .i64 h', .int .i64 mi', .string S', .int .i64 z', .bool has'] 24))
  obtain ⟨W1, hW1⟩ : ∃ W, ((w.alloc (.cells #[.int .i64 y, .int .i64 mo, .int .i64 d, .int .i64 h, .int .i64 mi, .string S, .int .i64 z, .bool has] 24)).alloc (.cells #[.int .i64 y', .int .i64 mo', .int .i64 d', .int .i64 h', .int .i64 mi', .string S', .int .i64 z', .bool has'] 24)) = W := ⟨_, rfl⟩
  rw [hW1] at hb0 hm0 hm1
  have HW1 := Lib.hid hW1
  have M0 := Lib.hid hm0
  have M1 := Lib.hid hm1
  clear hW1 hm0 hm1
  obtain ⟨q0c0, q0c1, q0c2, q0c3, q0c4, q0c5, q0c6, q0c7, q0l⟩ := M0.out
  obtain ⟨q1c0, q1c1, q1c2, q1c3, q1c4, q1c5, q1c6, q1c7, q1l⟩ := M1.out
  have hlz : (300 : Int) < (S.size : Int) := by omega
  clear hg
  go_enter Tryz.func8, Tryz.ntmps8
  go_wp2_with fail
  try rw [HW1.out]
  try go_wp2_with fail
  refine (works_ti W1 (HG.out.later hb0)).mono ?_
  rintro e w1 ⟨rfl, b1⟩
  clear q0c0 q0c1 q0c2 q0c3 q0c4 q0c5 q0c6 q0c7 q0l q1c0 q1c1 q1c2 q1c3 q1c4 q1c5 q1c6 q1c7 q1l
  have hb2 := hb0.trans (b1.mono hb0.size)
  have M0x2 := Lib.hid (M0.out.later b1)
  have M1x2 := Lib.hid (M1.out.later b1)
  go_wp2_with fail
  go_ret
  exact ⟨rfl, hb2⟩
set_option maxRecDepth 100000 in
set_option maxHeartbeats 2000000 in
theorem order_long2 (y mo d h mi : Int) (S : ByteArray) (z : Int) (has : Bool) (y' mo' d' h' mi' : Int) (S' : ByteArray) (z' : Int) (has' : Bool) (hl : S.size ≤ 300) (hl2 : 300 < S'.size) (w : World) (hg : GrT w) :
    Calls Tryz.prog 8 #[momV y mo d h mi S z has, momV y' mo' d' h' mi' S' z' has'] w fun e w' => e = .returned (.bool true) ∧ Below w.heap.size w w' := by
  have HG := Lib.hid hg
  unfold momV
  have hb0 : Below w.heap.size w ((w.alloc (.cells #[.int .i64 y, .int .i64 mo, .int .i64 d, .int .i64 h, .int .i64 mi, .string S, .int .i64 z, .bool has] 24)).alloc (.cells #[.int .i64 y', .int .i64 mo', .int .i64 d', .int .i64 h', .int .i64 mi', .string S', .int .i64 z', .bool has'] 24)) := ((Below.refl _ _).alloc (Nat.le_refl _) _).alloc (by simp) _
  have hm0 := MomAt.new w y mo d h mi S z has
  have hm1 := MomAt.new (w.alloc (.cells #[.int .i64 y, .int .i64 mo, .int .i64 d, .int .i64 h, .int .i64 mi, .string S, .int .i64 z, .bool has] 24)) y' mo' d' h' mi' S' z' has'
  simp only [World.size_alloc] at hm1
  have hm0 := hm0.later ((Below.refl _ _).alloc (Nat.le_refl _) (.cells #[.int .i64 y', .int .i64 mo', .int .i64 d', .int .i64 h', .int .i64 mi', .string S', .int .i64 z', .bool has'] 24))
  obtain ⟨W1, hW1⟩ : ∃ W, ((w.alloc (.cells #[.int .i64 y, .int .i64 mo, .int .i64 d, .int .i64 h, .int .i64 mi, .string S, .int .i64 z, .bool has] 24)).alloc (.cells #[.int .i64 y', .int .i64 mo', .int .i64 d', .int .i64 h', .int .i64 mi', .string S', .int .i64 z', .bool has'] 24)) = W := ⟨_, rfl⟩
  rw [hW1] at hb0 hm0 hm1
  have HW1 := Lib.hid hW1
  have M0 := Lib.hid hm0
  have M1 := Lib.hid hm1
  clear hW1 hm0 hm1
  obtain ⟨q0c0, q0c1, q0c2, q0c3, q0c4, q0c5, q0c6, q0c7, q0l⟩ := M0.out
  obtain ⟨q1c0, q1c1, q1c2, q1c3, q1c4, q1c5, q1c6, q1c7, q1l⟩ := M1.out
  have hlz : ¬ (300 : Int) < (S.size : Int) := by omega
  have hlz2 : (300 : Int) < (S'.size : Int) := by omega
  clear hg
  go_enter Tryz.func8, Tryz.ntmps8
  go_wp2_with fail
  try rw [HW1.out]
  try go_wp2_with fail
  refine (works_ti W1 (HG.out.later hb0)).mono ?_
  rintro e w1 ⟨rfl, b1⟩
  clear q0c0 q0c1 q0c2 q0c3 q0c4 q0c5 q0c6 q0c7 q0l q1c0 q1c1 q1c2 q1c3 q1c4 q1c5 q1c6 q1c7 q1l
  have hb2 := hb0.trans (b1.mono hb0.size)
  have M0x2 := Lib.hid (M0.out.later b1)
  have M1x2 := Lib.hid (M1.out.later b1)
  go_wp2_with fail
  go_ret
  exact ⟨rfl, hb2⟩
set_option maxRecDepth 100000 in
set_option maxHeartbeats 2000000 in
theorem order_bad1 (y mo d h mi : Int) (S : ByteArray) (z : Int) (has : Bool) (y' mo' d' h' mi' : Int) (S' : ByteArray) (z' : Int) (has' : Bool) (hl : S.size ≤ 300) (hl2 : S'.size ≤ 300) (hv : validB y mo d h mi S.data.toList z has = false) (hv2 : validB y' mo' d' h' mi' S'.data.toList z has = false) (w : World) (hg : GrT w) :
    Calls Tryz.prog 8 #[momV y mo d h mi S z has, momV y' mo' d' h' mi' S' z' has'] w fun e w' => e = .returned (.bool true) ∧ Below w.heap.size w w' := by
  have HG := Lib.hid hg
  unfold momV
  have hb0 : Below w.heap.size w ((w.alloc (.cells #[.int .i64 y, .int .i64 mo, .int .i64 d, .int .i64 h, .int .i64 mi, .string S, .int .i64 z, .bool has] 24)).alloc (.cells #[.int .i64 y', .int .i64 mo', .int .i64 d', .int .i64 h', .int .i64 mi', .string S', .int .i64 z', .bool has'] 24)) := ((Below.refl _ _).alloc (Nat.le_refl _) _).alloc (by simp) _
  have hm0 := MomW.new w y mo d h mi S z has
  have hm1 := MomW.new (w.alloc (.cells #[.int .i64 y, .int .i64 mo, .int .i64 d, .int .i64 h, .int .i64 mi, .string S, .int .i64 z, .bool has] 24)) y' mo' d' h' mi' S' z' has'
  simp only [World.size_alloc] at hm1
  have hm0 := hm0.later ((Below.refl _ _).alloc (Nat.le_refl _) (.cells #[.int .i64 y', .int .i64 mo', .int .i64 d', .int .i64 h', .int .i64 mi', .string S', .int .i64 z', .bool has'] 24))
  obtain ⟨W1, hW1⟩ : ∃ W, ((w.alloc (.cells #[.int .i64 y, .int .i64 mo, .int .i64 d, .int .i64 h, .int .i64 mi, .string S, .int .i64 z, .bool has] 24)).alloc (.cells #[.int .i64 y', .int .i64 mo', .int .i64 d', .int .i64 h', .int .i64 mi', .string S', .int .i64 z', .bool has'] 24)) = W := ⟨_, rfl⟩
  rw [hW1] at hb0 hm0 hm1
  have HW1 := Lib.hid hW1
  have M0 := Lib.hid hm0
  have M1 := Lib.hid hm1
  clear hW1 hm0 hm1
  obtain ⟨q0c0, q0c1, q0c2, q0c3, q0c4, q0c5, q0c6, q0c7, q0f0, q0f1, q0f2, q0f3, q0f4, q0f5, q0f6, q0f7, q0l⟩ := M0.out
  obtain ⟨q1c0, q1c1, q1c2, q1c3, q1c4, q1c5, q1c6, q1c7, q1f0, q1f1, q1f2, q1f3, q1f4, q1f5, q1f6, q1f7, q1l⟩ := M1.out
  have hlz : ¬ (300 : Int) < (S.size : Int) := by omega
  have hlz2 : ¬ (300 : Int) < (S'.size : Int) := by omega
  clear hg
  go_enter Tryz.func8, Tryz.ntmps8
  go_wp2_with fail
  try rw [HW1.out]
  try go_wp2_with fail
  go_region
  obtain ⟨V1, hV1, ms1, bs1, m01⟩ : ∃ V, ((W1.setCell ⟨w.heap.size + 1, 6, none⟩ (.int .i64 z)).setCell ⟨w.heap.size + 1, 7, none⟩ (.bool has)).drew = V ∧ MomAt V (w.heap.size + 1) y' mo' d' h' mi' S' z has ∧ Below w.heap.size w V ∧ MomAt V w.heap.size y mo d h mi S z has := by
    obtain ⟨V, e1, e2, e3, e4, e5⟩ := M1.out.setZone z has
    refine ⟨V.drew, by rw [e1], (e2.later (Below.refl _ _).drew).at, (e3 hb0 (by omega)).drew, ((M0.out.other (e4 _ (by omega)) (Nat.le_of_eq e5.symm)).later (Below.refl _ _).drew).at⟩
  have HV1 := Lib.hid hV1
  have N0 := Lib.hid m01
  have N1 := Lib.hid ms1
  clear hV1 m01 ms1
  try rw [HV1.out]
  clear q0c0 q0c1 q0c2 q0c3 q0c4 q0c5 q0c6 q0c7 q0f0 q0f1 q0f2 q0f3 q0f4 q0f5 q0f6 q0f7 q0l q1c0 q1c1 q1c2 q1c3 q1c4 q1c5 q1c6 q1c7 q1f0 q1f1 q1f2 q1f3 q1f4 q1f5 q1f6 q1f7 q1l
  obtain ⟨q0c0, q0c1, q0c2, q0c3, q0c4, q0c5, q0c6, q0c7, q0l⟩ := N0.out
  obtain ⟨q1c0, q1c1, q1c2, q1c3, q1c4, q1c5, q1c6, q1c7, q1l⟩ := N1.out
  go_wp2_with fail
  refine (seconds_bad y mo d h mi S z has (by omega) hv V1 (HG.out.later bs1)).mono ?_
  rintro e w2 ⟨rfl, b2⟩
  clear q0c0 q0c1 q0c2 q0c3 q0c4 q0c5 q0c6 q0c7 q0l q1c0 q1c1 q1c2 q1c3 q1c4 q1c5 q1c6 q1c7 q1l
  have hb3 := bs1.trans (b2.mono bs1.size)
  have M0x3 := Lib.hid (N0.out.later b2)
  have M1x3 := Lib.hid (N1.out.later b2)
  obtain ⟨q1c0, q1c1, q1c2, q1c3, q1c4, q1c5, q1c6, q1c7, q1l⟩ := M1x3.out
  go_wp2_with fail
  refine (seconds_bad y' mo' d' h' mi' S' z has (by omega) hv2 w2 (HG.out.later hb3)).mono ?_
  rintro e w4 ⟨rfl, b4⟩
  clear q1c0 q1c1 q1c2 q1c3 q1c4 q1c5 q1c6 q1c7 q1l
  have hb5 := hb3.trans (b4.mono hb3.size)
  have M0x5 := Lib.hid (M0x3.out.later b4)
  have M1x5 := Lib.hid (M1x3.out.later b4)
  go_wp2_with fail
  refine (works_ti w4 (HG.out.later hb5)).mono ?_
  rintro e w6 ⟨rfl, b6⟩
  have hb7 := hb5.trans (b6.mono hb5.size)
  have M0x7 := Lib.hid (M0x5.out.later b6)
  have M1x7 := Lib.hid (M1x5.out.later b6)
  go_wp2_with fail
  go_ret
  exact ⟨rfl, hb7⟩
set_option maxRecDepth 100000 in
set_option maxHeartbeats 2000000 in
theorem order_bad2 (y mo d h mi : Int) (S : ByteArray) (z : Int) (has : Bool) (y' mo' d' h' mi' : Int) (S' : ByteArray) (z' : Int) (has' : Bool) (hl : S.size ≤ 300) (hl2 : S'.size ≤ 300) (hv : validB y mo d h mi S.data.toList z has = false) (R : ByteArray) (cS : ∀ W, GrT W → Calls Tryz.prog 21 #[momV y' mo' d' h' mi' S' z has] W fun e w' => e = .returned (.tuple #[.string R, .int .i64 0]) ∧ Below W.heap.size W w') (w : World) (hg : GrT w) :
    Calls Tryz.prog 8 #[momV y mo d h mi S z has, momV y' mo' d' h' mi' S' z' has'] w fun e w' => e = .returned (.bool true) ∧ Below w.heap.size w w' := by
  have HG := Lib.hid hg
  unfold momV
  have hb0 : Below w.heap.size w ((w.alloc (.cells #[.int .i64 y, .int .i64 mo, .int .i64 d, .int .i64 h, .int .i64 mi, .string S, .int .i64 z, .bool has] 24)).alloc (.cells #[.int .i64 y', .int .i64 mo', .int .i64 d', .int .i64 h', .int .i64 mi', .string S', .int .i64 z', .bool has'] 24)) := ((Below.refl _ _).alloc (Nat.le_refl _) _).alloc (by simp) _
  have hm0 := MomW.new w y mo d h mi S z has
  have hm1 := MomW.new (w.alloc (.cells #[.int .i64 y, .int .i64 mo, .int .i64 d, .int .i64 h, .int .i64 mi, .string S, .int .i64 z, .bool has] 24)) y' mo' d' h' mi' S' z' has'
  simp only [World.size_alloc] at hm1
  have hm0 := hm0.later ((Below.refl _ _).alloc (Nat.le_refl _) (.cells #[.int .i64 y', .int .i64 mo', .int .i64 d', .int .i64 h', .int .i64 mi', .string S', .int .i64 z', .bool has'] 24))
  obtain ⟨W1, hW1⟩ : ∃ W, ((w.alloc (.cells #[.int .i64 y, .int .i64 mo, .int .i64 d, .int .i64 h, .int .i64 mi, .string S, .int .i64 z, .bool has] 24)).alloc (.cells #[.int .i64 y', .int .i64 mo', .int .i64 d', .int .i64 h', .int .i64 mi', .string S', .int .i64 z', .bool has'] 24)) = W := ⟨_, rfl⟩
  rw [hW1] at hb0 hm0 hm1
  have HW1 := Lib.hid hW1
  have M0 := Lib.hid hm0
  have M1 := Lib.hid hm1
  clear hW1 hm0 hm1
  obtain ⟨q0c0, q0c1, q0c2, q0c3, q0c4, q0c5, q0c6, q0c7, q0f0, q0f1, q0f2, q0f3, q0f4, q0f5, q0f6, q0f7, q0l⟩ := M0.out
  obtain ⟨q1c0, q1c1, q1c2, q1c3, q1c4, q1c5, q1c6, q1c7, q1f0, q1f1, q1f2, q1f3, q1f4, q1f5, q1f6, q1f7, q1l⟩ := M1.out
  have hlz : ¬ (300 : Int) < (S.size : Int) := by omega
  have hlz2 : ¬ (300 : Int) < (S'.size : Int) := by omega
  clear hg
  go_enter Tryz.func8, Tryz.ntmps8
  go_wp2_with fail
  try rw [HW1.out]
  try go_wp2_with fail
  go_region
  obtain ⟨V1, hV1, ms1, bs1, m01⟩ : ∃ V, ((W1.setCell ⟨w.heap.size + 1, 6, none⟩ (.int .i64 z)).setCell ⟨w.heap.size + 1, 7, none⟩ (.bool has)).drew = V ∧ MomAt V (w.heap.size + 1) y' mo' d' h' mi' S' z has ∧ Below w.heap.size w V ∧ MomAt V w.heap.size y mo d h mi S z has := by
    obtain ⟨V, e1, e2, e3, e4, e5⟩ := M1.out.setZone z has
    refine ⟨V.drew, by rw [e1], (e2.later (Below.refl _ _).drew).at, (e3 hb0 (by omega)).drew, ((M0.out.other (e4 _ (by omega)) (Nat.le_of_eq e5.symm)).later (Below.refl _ _).drew).at⟩
  have HV1 := Lib.hid hV1
  have N0 := Lib.hid m01
  have N1 := Lib.hid ms1
  clear hV1 m01 ms1
  try rw [HV1.out]
  clear q0c0 q0c1 q0c2 q0c3 q0c4 q0c5 q0c6 q0c7 q0f0 q0f1 q0f2 q0f3 q0f4 q0f5 q0f6 q0f7 q0l q1c0 q1c1 q1c2 q1c3 q1c4 q1c5 q1c6 q1c7 q1f0 q1f1 q1f2 q1f3 q1f4 q1f5 q1f6 q1f7 q1l
  obtain ⟨q0c0, q0c1, q0c2, q0c3, q0c4, q0c5, q0c6, q0c7, q0l⟩ := N0.out
  obtain ⟨q1c0, q1c1, q1c2, q1c3, q1c4, q1c5, q1c6, q1c7, q1l⟩ := N1.out
  go_wp2_with fail
  refine (seconds_bad y mo d h mi S z has (by omega) hv V1 (HG.out.later bs1)).mono ?_
  rintro e w2 ⟨rfl, b2⟩
  clear q0c0 q0c1 q0c2 q0c3 q0c4 q0c5 q0c6 q0c7 q0l q1c0 q1c1 q1c2 q1c3 q1c4 q1c5 q1c6 q1c7 q1l
  have hb3 := bs1.trans (b2.mono bs1.size)
  have M0x3 := Lib.hid (N0.out.later b2)
  have M1x3 := Lib.hid (N1.out.later b2)
  obtain ⟨q1c0, q1c1, q1c2, q1c3, q1c4, q1c5, q1c6, q1c7, q1l⟩ := M1x3.out
  go_wp2_with fail
  refine (cS w2 (HG.out.later hb3)).mono ?_
  rintro e w4 ⟨rfl, b4⟩
  clear q1c0 q1c1 q1c2 q1c3 q1c4 q1c5 q1c6 q1c7 q1l
  have hb5 := hb3.trans (b4.mono hb3.size)
  have M0x5 := Lib.hid (M0x3.out.later b4)
  have M1x5 := Lib.hid (M1x3.out.later b4)
  go_wp2_with fail
  refine (works_ti w4 (HG.out.later hb5)).mono ?_
  rintro e w6 ⟨rfl, b6⟩
  have hb7 := hb5.trans (b6.mono hb5.size)
  have M0x7 := Lib.hid (M0x5.out.later b6)
  have M1x7 := Lib.hid (M1x5.out.later b6)
  go_wp2_with fail
  go_ret
  exact ⟨rfl, hb7⟩
set_option maxRecDepth 100000 in
set_option maxHeartbeats 2000000 in
theorem order_bad3 (y mo d h mi : Int) (S : ByteArray) (z : Int) (has : Bool) (y' mo' d' h' mi' : Int) (S' : ByteArray) (z' : Int) (has' : Bool) (hl : S.size ≤ 300) (hl2 : S'.size ≤ 300) (R : ByteArray) (cS : ∀ W, GrT W → Calls Tryz.prog 21 #[momV y mo d h mi S z has] W fun e w' => e = .returned (.tuple #[.string R, .int .i64 0]) ∧ Below W.heap.size W w') (hv2 : validB y' mo' d' h' mi' S'.data.toList z has = false) (w : World) (hg : GrT w) :
    Calls Tryz.prog 8 #[momV y mo d h mi S z has, momV y' mo' d' h' mi' S' z' has'] w fun e w' => e = .returned (.bool true) ∧ Below w.heap.size w w' := by
  have HG := Lib.hid hg
  unfold momV
  have hb0 : Below w.heap.size w ((w.alloc (.cells #[.int .i64 y, .int .i64 mo, .int .i64 d, .int .i64 h, .int .i64 mi, .string S, .int .i64 z, .bool has] 24)).alloc (.cells #[.int .i64 y', .int .i64 mo', .int .i64 d', .int .i64 h', .int .i64 mi', .string S', .int .i64 z', .bool has'] 24)) := ((Below.refl _ _).alloc (Nat.le_refl _) _).alloc (by simp) _
  have hm0 := MomW.new w y mo d h mi S z has
  have hm1 := MomW.new (w.alloc (.cells #[.int .i64 y, .int .i64 mo, .int .i64 d, .int .i64 h, .int .i64 mi, .string S, .int .i64 z, .bool has] 24)) y' mo' d' h' mi' S' z' has'
  simp only [World.size_alloc] at hm1
  have hm0 := hm0.later ((Below.refl _ _).alloc (Nat.le_refl _) (.cells #[.int .i64 y', .int .i64 mo', .int .i64 d', .int .i64 h', .int .i64 mi', .string S', .int .i64 z', .bool has'] 24))
  obtain ⟨W1, hW1⟩ : ∃ W, ((w.alloc (.cells #[.int .i64 y, .int .i64 mo, .int .i64 d, .int .i64 h, .int .i64 mi, .string S, .int .i64 z, .bool has] 24)).alloc (.cells #[.int .i64 y', .int .i64 mo', .int .i64 d', .int .i64 h', .int .i64 mi', .string S', .int .i64 z', .bool has'] 24)) = W := ⟨_, rfl⟩
  rw [hW1] at hb0 hm0 hm1
  have HW1 := Lib.hid hW1
  have M0 := Lib.hid hm0
  have M1 := Lib.hid hm1
  clear hW1 hm0 hm1
  obtain ⟨q0c0, q0c1, q0c2, q0c3, q0c4, q0c5, q0c6, q0c7, q0f0, q0f1, q0f2, q0f3, q0f4, q0f5, q0f6, q0f7, q0l⟩ := M0.out
  obtain ⟨q1c0, q1c1, q1c2, q1c3, q1c4, q1c5, q1c6, q1c7, q1f0, q1f1, q1f2, q1f3, q1f4, q1f5, q1f6, q1f7, q1l⟩ := M1.out
  have hlz : ¬ (300 : Int) < (S.size : Int) := by omega
  have hlz2 : ¬ (300 : Int) < (S'.size : Int) := by omega
  clear hg
  go_enter Tryz.func8, Tryz.ntmps8
  go_wp2_with fail
  try rw [HW1.out]
  try go_wp2_with fail
  go_region
  obtain ⟨V1, hV1, ms1, bs1, m01⟩ : ∃ V, ((W1.setCell ⟨w.heap.size + 1, 6, none⟩ (.int .i64 z)).setCell ⟨w.heap.size + 1, 7, none⟩ (.bool has)).drew = V ∧ MomAt V (w.heap.size + 1) y' mo' d' h' mi' S' z has ∧ Below w.heap.size w V ∧ MomAt V w.heap.size y mo d h mi S z has := by
    obtain ⟨V, e1, e2, e3, e4, e5⟩ := M1.out.setZone z has
    refine ⟨V.drew, by rw [e1], (e2.later (Below.refl _ _).drew).at, (e3 hb0 (by omega)).drew, ((M0.out.other (e4 _ (by omega)) (Nat.le_of_eq e5.symm)).later (Below.refl _ _).drew).at⟩
  have HV1 := Lib.hid hV1
  have N0 := Lib.hid m01
  have N1 := Lib.hid ms1
  clear hV1 m01 ms1
  try rw [HV1.out]
  clear q0c0 q0c1 q0c2 q0c3 q0c4 q0c5 q0c6 q0c7 q0f0 q0f1 q0f2 q0f3 q0f4 q0f5 q0f6 q0f7 q0l q1c0 q1c1 q1c2 q1c3 q1c4 q1c5 q1c6 q1c7 q1f0 q1f1 q1f2 q1f3 q1f4 q1f5 q1f6 q1f7 q1l
  obtain ⟨q0c0, q0c1, q0c2, q0c3, q0c4, q0c5, q0c6, q0c7, q0l⟩ := N0.out
  obtain ⟨q1c0, q1c1, q1c2, q1c3, q1c4, q1c5, q1c6, q1c7, q1l⟩ := N1.out
  go_wp2_with fail
  refine (cS V1 (HG.out.later bs1)).mono ?_
  rintro e w2 ⟨rfl, b2⟩
  clear q0c0 q0c1 q0c2 q0c3 q0c4 q0c5 q0c6 q0c7 q0l q1c0 q1c1 q1c2 q1c3 q1c4 q1c5 q1c6 q1c7 q1l
  have hb3 := bs1.trans (b2.mono bs1.size)
  have M0x3 := Lib.hid (N0.out.later b2)
  have M1x3 := Lib.hid (N1.out.later b2)
  obtain ⟨q1c0, q1c1, q1c2, q1c3, q1c4, q1c5, q1c6, q1c7, q1l⟩ := M1x3.out
  go_wp2_with fail
  refine (seconds_bad y' mo' d' h' mi' S' z has (by omega) hv2 w2 (HG.out.later hb3)).mono ?_
  rintro e w4 ⟨rfl, b4⟩
  clear q1c0 q1c1 q1c2 q1c3 q1c4 q1c5 q1c6 q1c7 q1l
  have hb5 := hb3.trans (b4.mono hb3.size)
  have M0x5 := Lib.hid (M0x3.out.later b4)
  have M1x5 := Lib.hid (M1x3.out.later b4)
  go_wp2_with fail
  refine (works_ti w4 (HG.out.later hb5)).mono ?_
  rintro e w6 ⟨rfl, b6⟩
  have hb7 := hb5.trans (b6.mono hb5.size)
  have M0x7 := Lib.hid (M0x5.out.later b6)
  have M1x7 := Lib.hid (M1x5.out.later b6)
  go_wp2_with fail
  go_ret
  exact ⟨rfl, hb7⟩
set_option maxRecDepth 100000 in
set_option maxHeartbeats 2000000 in
theorem order_ok (Y M D H I mu Y' M' D' H' I' mu' : Nat) (S S' : ByteArray) (z z' : Int) (has has' : Bool) (k : MomOk Y M D H I mu S z has) (k' : MomOk Y' M' D' H' I' mu' S' z has) (hl : S.size ≤ 300) (hl2 : S'.size ≤ 300) (w : World) (hg : GrT w) :
    Calls Tryz.prog 8 #[momV (Y : Int) (M : Int) (D : Int) (H : Int) (I : Int) S z has, momV (Y' : Int) (M' : Int) (D' : Int) (H' : Int) (I' : Int) S' z' has'] w fun e w' => e = .returned (.bool true) ∧ Below w.heap.size w w' := by
  have HG := Lib.hid hg
  unfold momV
  have hb0 : Below w.heap.size w ((w.alloc (.cells #[.int .i64 (Y : Int), .int .i64 (M : Int), .int .i64 (D : Int), .int .i64 (H : Int), .int .i64 (I : Int), .string S, .int .i64 z, .bool has] 24)).alloc (.cells #[.int .i64 (Y' : Int), .int .i64 (M' : Int), .int .i64 (D' : Int), .int .i64 (H' : Int), .int .i64 (I' : Int), .string S', .int .i64 z', .bool has'] 24)) := ((Below.refl _ _).alloc (Nat.le_refl _) _).alloc (by simp) _
  have hm0 := MomW.new w (Y : Int) (M : Int) (D : Int) (H : Int) (I : Int) S z has
  have hm1 := MomW.new (w.alloc (.cells #[.int .i64 (Y : Int), .int .i64 (M : Int), .int .i64 (D : Int), .int .i64 (H : Int), .int .i64 (I : Int), .string S, .int .i64 z, .bool has] 24)) (Y' : Int) (M' : Int) (D' : Int) (H' : Int) (I' : Int) S' z' has'
  simp only [World.size_alloc] at hm1
  have hm0 := hm0.later ((Below.refl _ _).alloc (Nat.le_refl _) (.cells #[.int .i64 (Y' : Int), .int .i64 (M' : Int), .int .i64 (D' : Int), .int .i64 (H' : Int), .int .i64 (I' : Int), .string S', .int .i64 z', .bool has'] 24))
  obtain ⟨W1, hW1⟩ : ∃ W, ((w.alloc (.cells #[.int .i64 (Y : Int), .int .i64 (M : Int), .int .i64 (D : Int), .int .i64 (H : Int), .int .i64 (I : Int), .string S, .int .i64 z, .bool has] 24)).alloc (.cells #[.int .i64 (Y' : Int), .int .i64 (M' : Int), .int .i64 (D' : Int), .int .i64 (H' : Int), .int .i64 (I' : Int), .string S', .int .i64 z', .bool has'] 24)) = W := ⟨_, rfl⟩
  rw [hW1] at hb0 hm0 hm1
  have HW1 := Lib.hid hW1
  have M0 := Lib.hid hm0
  have M1 := Lib.hid hm1
  clear hW1 hm0 hm1
  obtain ⟨q0c0, q0c1, q0c2, q0c3, q0c4, q0c5, q0c6, q0c7, q0f0, q0f1, q0f2, q0f3, q0f4, q0f5, q0f6, q0f7, q0l⟩ := M0.out
  obtain ⟨q1c0, q1c1, q1c2, q1c3, q1c4, q1c5, q1c6, q1c7, q1f0, q1f1, q1f2, q1f3, q1f4, q1f5, q1f6, q1f7, q1l⟩ := M1.out
  have hlz : ¬ (300 : Int) < (S.size : Int) := by omega
  have hlz2 : ¬ (300 : Int) < (S'.size : Int) := by omega
  obtain ⟨R, hR, sR⟩ := secs_of Y M D H I mu S z has k
  obtain ⟨R2, hR2, sR2⟩ := secs_of Y' M' D' H' I' mu' S' z has k'
  have cS := seconds_ok Y M D H I mu S z has k R hR
  have cS2 := seconds_ok Y' M' D' H' I' mu' S' z has k' R2 hR2
  have hcm := cmp_secs hR hR2
  obtain ⟨n, hn⟩ : ∃ n : Int, (if secsZ Y M D H I mu z < secsZ Y' M' D' H' I' mu' z then (-1 : Int) else if secsZ Y' M' D' H' I' mu' z < secsZ Y M D H I mu z then 1 else 0) = n := ⟨_, rfl⟩
  rw [hn] at hcm
  obtain ⟨b1, hb1⟩ : ∃ b1, befB Y M D H I mu Y' M' D' H' I' mu' = b1 := ⟨_, rfl⟩
  obtain ⟨b2, hb2⟩ : ∃ b2, befB Y' M' D' H' I' mu' Y M D H I mu = b2 := ⟨_, rfl⟩
  have hl1 := befB_local k k'
  have hl3 := befB_local k' k
  rw [hb1] at hl1
  rw [hb2] at hl3
  have hcase : (n = -1 ∧ b1 = true ∧ b2 = false) ∨ (n = 0 ∧ b1 = false ∧ b2 = false) ∨ (n = 1 ∧ b1 = false ∧ b2 = true) := by
    rw [hl1, hl3, ← hn]
    unfold secsZ
    rcases Nat.lt_trichotomy (localN Y M D H I mu) (localN Y' M' D' H' I' mu') with q | q | q
    · exact .inl ⟨if_pos (by omega), decide_eq_true q, decide_eq_false (by omega)⟩
    · exact .inr (.inl ⟨by rw [if_neg (by omega), if_neg (by omega)], decide_eq_false (by omega), decide_eq_false (by omega)⟩)
    · exact .inr (.inr ⟨by rw [if_neg (by omega), if_pos (by omega)], decide_eq_false (by omega), decide_eq_true q⟩)
  have cB1 := before_ti Y M D H I mu Y' M' D' H' I' mu' S S' z z has has k k' b1 hb1
  have cB2 := before_ti Y' M' D' H' I' mu' Y M D H I mu S' S z z has has k' k b2 hb2
  have HCM := Lib.hid hcm
  clear hR hR2 hcm hn hb1 hb2 hl1 hl3 k k'
  clear hg
  go_enter Tryz.func8, Tryz.ntmps8
  go_wp2_with fail
  try rw [HW1.out]
  try go_wp2_with fail
  go_region
  obtain ⟨V1, hV1, ms1, bs1, m01⟩ : ∃ V, ((W1.setCell ⟨w.heap.size + 1, 6, none⟩ (.int .i64 z)).setCell ⟨w.heap.size + 1, 7, none⟩ (.bool has)).drew = V ∧ MomAt V (w.heap.size + 1) (Y' : Int) (M' : Int) (D' : Int) (H' : Int) (I' : Int) S' z has ∧ Below w.heap.size w V ∧ MomAt V w.heap.size (Y : Int) (M : Int) (D : Int) (H : Int) (I : Int) S z has := by
    obtain ⟨V, e1, e2, e3, e4, e5⟩ := M1.out.setZone z has
    refine ⟨V.drew, by rw [e1], (e2.later (Below.refl _ _).drew).at, (e3 hb0 (by omega)).drew, ((M0.out.other (e4 _ (by omega)) (Nat.le_of_eq e5.symm)).later (Below.refl _ _).drew).at⟩
  have HV1 := Lib.hid hV1
  have N0 := Lib.hid m01
  have N1 := Lib.hid ms1
  clear hV1 m01 ms1
  try rw [HV1.out]
  clear q0c0 q0c1 q0c2 q0c3 q0c4 q0c5 q0c6 q0c7 q0f0 q0f1 q0f2 q0f3 q0f4 q0f5 q0f6 q0f7 q0l q1c0 q1c1 q1c2 q1c3 q1c4 q1c5 q1c6 q1c7 q1f0 q1f1 q1f2 q1f3 q1f4 q1f5 q1f6 q1f7 q1l
  obtain ⟨q0c0, q0c1, q0c2, q0c3, q0c4, q0c5, q0c6, q0c7, q0l⟩ := N0.out
  obtain ⟨q1c0, q1c1, q1c2, q1c3, q1c4, q1c5, q1c6, q1c7, q1l⟩ := N1.out
  go_wp2_with fail
  refine (cS V1 (HG.out.later bs1)).mono ?_
  rintro e w2 ⟨rfl, b2⟩
  clear q0c0 q0c1 q0c2 q0c3 q0c4 q0c5 q0c6 q0c7 q0l q1c0 q1c1 q1c2 q1c3 q1c4 q1c5 q1c6 q1c7 q1l
  have hb3 := bs1.trans (b2.mono bs1.size)
  have M0x3 := Lib.hid (N0.out.later b2)
  have M1x3 := Lib.hid (N1.out.later b2)
  obtain ⟨q1c0, q1c1, q1c2, q1c3, q1c4, q1c5, q1c6, q1c7, q1l⟩ := M1x3.out
  go_wp2_with fail
  refine (cS2 w2 (HG.out.later hb3)).mono ?_
  rintro e w4 ⟨rfl, b4⟩
  clear q1c0 q1c1 q1c2 q1c3 q1c4 q1c5 q1c6 q1c7 q1l
  have hb5 := hb3.trans (b4.mono hb3.size)
  have M0x5 := Lib.hid (M0x3.out.later b4)
  have M1x5 := Lib.hid (M1x3.out.later b4)
  clear cS cS2
  go_wp2_with fail
  refine (((cmp_on (HG.out.later hb5).num R R2 n 0 (by omega) (by omega) HCM.out).use _ (Below.refl _ _))).mono ?_
  rintro e w6 ⟨rfl, b6⟩
  have hb7 := hb5.trans (b6.mono hb5.size)
  have M0x7 := Lib.hid (M0x5.out.later b6)
  have M1x7 := Lib.hid (M1x5.out.later b6)
  obtain ⟨q0c0, q0c1, q0c2, q0c3, q0c4, q0c5, q0c6, q0c7, q0l⟩ := M0x7.out
  obtain ⟨q1c0, q1c1, q1c2, q1c3, q1c4, q1c5, q1c6, q1c7, q1l⟩ := M1x7.out
  rcases hcase with ⟨rfl, rfl, rfl⟩ | ⟨rfl, rfl, rfl⟩ | ⟨rfl, rfl, rfl⟩
  all_goals
    go_wp2_with fail
    refine (cB1 w6 (HG.out.later hb7)).mono ?_
    rintro e w8 ⟨rfl, b8⟩
    clear q0c0 q0c1 q0c2 q0c3 q0c4 q0c5 q0c6 q0c7 q0l q1c0 q1c1 q1c2 q1c3 q1c4 q1c5 q1c6 q1c7 q1l
    have hb9 := hb7.trans (b8.mono hb7.size)
    have M0x9 := Lib.hid (M0x7.out.later b8)
    have M1x9 := Lib.hid (M1x7.out.later b8)
    obtain ⟨q0c0, q0c1, q0c2, q0c3, q0c4, q0c5, q0c6, q0c7, q0l⟩ := M0x9.out
    obtain ⟨q1c0, q1c1, q1c2, q1c3, q1c4, q1c5, q1c6, q1c7, q1l⟩ := M1x9.out
    go_wp2_with fail
    refine (cB2 w8 (HG.out.later hb9)).mono ?_
    rintro e w10 ⟨rfl, b10⟩
    clear q0c0 q0c1 q0c2 q0c3 q0c4 q0c5 q0c6 q0c7 q0l q1c0 q1c1 q1c2 q1c3 q1c4 q1c5 q1c6 q1c7 q1l
    have hb11 := hb9.trans (b10.mono hb9.size)
    have M0x11 := Lib.hid (M0x9.out.later b10)
    have M1x11 := Lib.hid (M1x9.out.later b10)
    go_wp2_with fail
    refine (works_ti w10 (HG.out.later hb11)).mono ?_
    rintro e w12 ⟨rfl, b12⟩
    have hb13 := hb11.trans (b12.mono hb11.size)
    have M0x13 := Lib.hid (M0x11.out.later b12)
    have M1x13 := Lib.hid (M1x11.out.later b12)
    go_wp2_with fail
    go_ret
    exact ⟨rfl, hb13⟩
theorem order_law (y mo d h mi : Int) (S : ByteArray) (z : Int) (has : Bool) (y' mo' d' h' mi' : Int) (S' : ByteArray) (z' : Int) (has' : Bool) (w : World) (hg : GrT w) :
    Calls Tryz.prog 8 #[momV y mo d h mi S z has, momV y' mo' d' h' mi' S' z' has'] w fun e w' => e = .returned (.bool true) ∧ Below w.heap.size w w' := by
  by_cases hl : 300 < S.size
  · exact order_long y mo d h mi S z has y' mo' d' h' mi' S' z' has' hl w hg
  by_cases hl2 : 300 < S'.size
  · exact order_long2 y mo d h mi S z has y' mo' d' h' mi' S' z' has' (by omega) hl2 w hg
  cases hv : validB y mo d h mi S.data.toList z has with
  | false =>
    cases hv2 : validB y' mo' d' h' mi' S'.data.toList z has with
    | false => exact order_bad1 y mo d h mi S z has y' mo' d' h' mi' S' z' has' (by omega) (by omega) hv hv2 w hg
    | true =>
      obtain ⟨Y', M', D', H', I', mu', rfl, rfl, rfl, rfl, rfl, k'⟩ := valid_mom hv2
      obtain ⟨R2, hR2, _⟩ := secs_of Y' M' D' H' I' mu' S' z has k'
      exact order_bad2 y mo d h mi S z has Y' M' D' H' I' S' z' has' (by omega) (by omega) hv R2 (seconds_ok Y' M' D' H' I' mu' S' z has k' R2 hR2) w hg
  | true =>
    obtain ⟨Y, M, D, H, I, mu, rfl, rfl, rfl, rfl, rfl, k⟩ := valid_mom hv
    cases hv2 : validB y' mo' d' h' mi' S'.data.toList z has with
    | false =>
      obtain ⟨R, hR, _⟩ := secs_of Y M D H I mu S z has k
      exact order_bad3 Y M D H I S z has y' mo' d' h' mi' S' z' has' (by omega) (by omega) R (seconds_ok Y M D H I mu S z has k R hR) hv2 w hg
    | true =>
      obtain ⟨Y', M', D', H', I', mu', rfl, rfl, rfl, rfl, rfl, k'⟩ := valid_mom hv2
      exact order_ok Y M D H I mu Y' M' D' H' I' mu' S S' z z' has has' k k' (by omega) (by omega) w hg
end Go.Proofs.YtgmnjghbafbopaaGreatDoor

/- The law TimeDays: it answers true. -/
import Derived.Test.YtgmnjghbafbopaaGreatDoorMTiWorks
import Derived.Test.YtgmnjghbafbopaaGreatDoorMTiLawP
import Derived.Test.YtgmnjghbafbopaaGreatDoorMTiI
namespace Go.Proofs.YtgmnjghbafbopaaGreatDoor
open Go.RowKit Go.Lib

def dayS : ByteArray := ⟨#[56, 54, 52, 48, 48]⟩
theorem day_read : readR dayS.data.toList = (dayS.data.toList, 0) := by decide +kernel
theorem day_mic : micR dayS.data.toList = (86400000000, true) := by decide +kernel
set_option maxRecDepth 100000 in
set_option maxHeartbeats 16000000 in
theorem days_long (y mo d h mi : Int) (S : ByteArray) (z : Int) (has : Bool) (hl : 300 < S.size) (w : World) (hg : GrT w) :
    Calls Tryz.prog 11 #[momV y mo d h mi S z has] w fun e w' => e = .returned (.bool true) ∧ Below w.heap.size w w' := by
  have HG := Lib.hid hg
  unfold momV
  have hb0 : Below w.heap.size w (w.alloc (.cells #[.int .i64 y, .int .i64 mo, .int .i64 d, .int .i64 h, .int .i64 mi, .string S, .int .i64 z, .bool has] 24)) := (Below.refl _ _).alloc (Nat.le_refl _) _
  have hm0 := MomAt.new w y mo d h mi S z has
  obtain ⟨W1, hW1⟩ : ∃ W, (w.alloc (.cells #[.int .i64 y, .int .i64 mo, .int .i64 d, .int .i64 h, .int .i64 mi, .string S, .int .i64 z, .bool has] 24)) = W := ⟨_, rfl⟩
  rw [hW1] at hb0 hm0
  have HW1 := Lib.hid hW1
  have M0 := Lib.hid hm0
  clear hW1 hm0
  obtain ⟨q0c0, q0c1, q0c2, q0c3, q0c4, q0c5, q0c6, q0c7, q0l⟩ := M0.out
  have hlz : (300 : Int) < (S.size : Int) := by omega
  clear hg
  go_enter Tryz.func11, Tryz.ntmps11
  go_wp2_with fail
  try rw [HW1.out]
  try go_wp2_with fail
  refine (works_ti W1 (HG.out.later hb0)).mono ?_
  rintro e w1 ⟨rfl, b1⟩
  clear q0c0 q0c1 q0c2 q0c3 q0c4 q0c5 q0c6 q0c7 q0l
  have hb2 := hb0.trans (b1.mono hb0.size)
  have M0x2 := Lib.hid (M0.out.later b1)
  go_wp2_with fail
  go_ret
  exact ⟨rfl, hb2⟩
set_option maxRecDepth 100000 in
set_option maxHeartbeats 16000000 in
theorem days_bad (y mo d h mi : Int) (S : ByteArray) (z : Int) (has : Bool) (hl : S.size ≤ 300) (hv : validB y mo d h mi S.data.toList z has = false) (w : World) (hg : GrT w) :
    Calls Tryz.prog 11 #[momV y mo d h mi S z has] w fun e w' => e = .returned (.bool true) ∧ Below w.heap.size w w' := by
  have HG := Lib.hid hg
  unfold momV
  have hb0 : Below w.heap.size w (w.alloc (.cells #[.int .i64 y, .int .i64 mo, .int .i64 d, .int .i64 h, .int .i64 mi, .string S, .int .i64 z, .bool has] 24)) := (Below.refl _ _).alloc (Nat.le_refl _) _
  have hm0 := MomAt.new w y mo d h mi S z has
  obtain ⟨W1, hW1⟩ : ∃ W, (w.alloc (.cells #[.int .i64 y, .int .i64 mo, .int .i64 d, .int .i64 h, .int .i64 mi, .string S, .int .i64 z, .bool has] 24)) = W := ⟨_, rfl⟩
  rw [hW1] at hb0 hm0
  have HW1 := Lib.hid hW1
  have M0 := Lib.hid hm0
  clear hW1 hm0
  obtain ⟨q0c0, q0c1, q0c2, q0c3, q0c4, q0c5, q0c6, q0c7, q0l⟩ := M0.out
  have hlz : ¬ (300 : Int) < (S.size : Int) := by omega
  clear hg
  go_enter Tryz.func11, Tryz.ntmps11
  go_wp2_with fail
  try rw [HW1.out]
  try go_wp2_with fail
  refine (weekday_bad y mo d h mi S z has (by omega) hv W1 (HG.out.later hb0)).mono ?_
  rintro e w1 ⟨rfl, b1⟩
  clear q0c0 q0c1 q0c2 q0c3 q0c4 q0c5 q0c6 q0c7 q0l
  have hb2 := hb0.trans (b1.mono hb0.size)
  have M0x2 := Lib.hid (M0.out.later b1)
  obtain ⟨q0c0, q0c1, q0c2, q0c3, q0c4, q0c5, q0c6, q0c7, q0l⟩ := M0x2.out
  go_wp2_with fail
  refine (seconds_bad y mo d h mi S z has (by omega) hv w1 (HG.out.later hb2)).mono ?_
  rintro e w3 ⟨rfl, b3⟩
  clear q0c0 q0c1 q0c2 q0c3 q0c4 q0c5 q0c6 q0c7 q0l
  have hb4 := hb2.trans (b3.mono hb2.size)
  have M0x4 := Lib.hid (M0x2.out.later b3)
  go_wp2_with fail
  refine (works_ti w3 (HG.out.later hb4)).mono ?_
  rintro e w5 ⟨rfl, b5⟩
  have hb6 := hb4.trans (b5.mono hb4.size)
  have M0x6 := Lib.hid (M0x4.out.later b5)
  go_wp2_with fail
  go_ret
  exact ⟨rfl, hb6⟩
set_option maxRecDepth 100000 in
set_option maxHeartbeats 16000000 in
theorem days_ok (Y M D H I mu : Nat) (S : ByteArray) (z : Int) (has : Bool) (k : MomOk Y M D H I mu S z has) (hl : S.size ≤ 300) (w : World) (hg : GrT w) :
    Calls Tryz.prog 11 #[momV (Y : Int) (M : Int) (D : Int) (H : Int) (I : Int) S z has] w fun e w' => e = .returned (.bool true) ∧ Below w.heap.size w w' := by
  have HG := Lib.hid hg
  unfold momV
  have hb0 : Below w.heap.size w (w.alloc (.cells #[.int .i64 (Y : Int), .int .i64 (M : Int), .int .i64 (D : Int), .int .i64 (H : Int), .int .i64 (I : Int), .string S, .int .i64 z, .bool has] 24)) := (Below.refl _ _).alloc (Nat.le_refl _) _
  have hm0 := MomAt.new w (Y : Int) (M : Int) (D : Int) (H : Int) (I : Int) S z has
  obtain ⟨W1, hW1⟩ : ∃ W, (w.alloc (.cells #[.int .i64 (Y : Int), .int .i64 (M : Int), .int .i64 (D : Int), .int .i64 (H : Int), .int .i64 (I : Int), .string S, .int .i64 z, .bool has] 24)) = W := ⟨_, rfl⟩
  rw [hW1] at hb0 hm0
  have HW1 := Lib.hid hW1
  have M0 := Lib.hid hm0
  clear hW1 hm0
  obtain ⟨q0c0, q0c1, q0c2, q0c3, q0c4, q0c5, q0c6, q0c7, q0l⟩ := M0.out
  have hlz : ¬ (300 : Int) < (S.size : Int) := by omega
  have y1 := k.date.y1
  have m1 := k.date.m1
  have hL := localN_lt k
  obtain ⟨wd, hwd⟩ : ∃ wd, dayN Y M D % 7 + 1 = wd := ⟨_, rfl⟩
  have wd1 : (1 : Int) ≤ (wd : Int) := by omega
  have wd7 : (wd : Int) ≤ 7 := by omega
  have wd0 : ((wd : Int) == 0) = false := beq_eq_false_iff_ne.2 (by omega)
  have cW := weekday_ok Y M D H I mu S z has k
  rw [hwd] at cW
  have HWD := Lib.hid hwd
  have KK := Lib.hid k
  clear hg
  go_enter Tryz.func11, Tryz.ntmps11
  go_wp2_with fail
  try rw [HW1.out]
  try go_wp2_with fail
  refine (cW W1 (HG.out.later hb0)).mono ?_
  rintro e w1 ⟨rfl, b1⟩
  clear q0c0 q0c1 q0c2 q0c3 q0c4 q0c5 q0c6 q0c7 q0l
  have hb2 := hb0.trans (b1.mono hb0.size)
  have M0x2 := Lib.hid (M0.out.later b1)
  obtain ⟨q0c0, q0c1, q0c2, q0c3, q0c4, q0c5, q0c6, q0c7, q0l⟩ := M0x2.out
  clear cW
  by_cases hr : 86400000000 + localN Y M D H I mu < 315537897600000000
  · obtain ⟨t, ht⟩ : ∃ t, 86400000000 + localN Y M D H I mu = t := ⟨_, rfl⟩
    rw [ht] at hr
    have cS := addSec_ok Y M D H I mu S z has KK.out dayS (by decide) dayS day_read 86400000000 day_mic t (by omega) hr
    go_wp2_with fail
    refine (cS w1 (HG.out.later hb2)).mono ?_
    rintro e w3 ⟨Y', M', D', H', I', mu', S', hk', hl', rfl, b3⟩
    unfold momV
    clear q0c0 q0c1 q0c2 q0c3 q0c4 q0c5 q0c6 q0c7 q0l
    have hb4 := hb2.trans (b3.mono hb2.size)
    have M0x4 := Lib.hid (M0x2.out.later b3)
    have cW2 := weekday_ok Y' M' D' H' I' mu' S' z has hk'
    obtain ⟨wd', hwd'⟩ : ∃ wd', dayN Y' M' D' % 7 + 1 = wd' := ⟨_, rfl⟩
    rw [hwd'] at cW2
    have hwe : wd' = wd % 7 + 1 := by
      have e1 := local_day (y := Y') (mo := M') (d := D') hk'.hour hk'.minute hk'.micro
      have e2 := local_day (y := Y) (mo := M) (d := D) KK.out.hour KK.out.minute KK.out.micro
      rw [hl', ← ht] at e1
      have := HWD.out
      omega
    have nz : ((wd' : Int) != (wd : Int) % 7 + 1) = false := by rw [bne_eq_false_iff_eq]; omega
    have nz2 : ((wd' : Int) == (wd : Int) % 7 + 1) = true := by rw [beq_iff_eq]; omega
    clear hk' hl' hwd' hwe ht hr cS
    have bn5 : Below w3.heap.size w3 (w3.alloc (.cells #[.int .i64 (Y' : Int), .int .i64 (M' : Int), .int .i64 (D' : Int), .int .i64 (H' : Int), .int .i64 (I' : Int), .string S', .int .i64 z, .bool has] 24)) := (Below.refl _ _).alloc (Nat.le_refl _) _
    have mn5 := MomAt.new w3 (Y' : Int) (M' : Int) (D' : Int) (H' : Int) (I' : Int) S' z has
    obtain ⟨V5, hV5⟩ : ∃ W, (w3.alloc (.cells #[.int .i64 (Y' : Int), .int .i64 (M' : Int), .int .i64 (D' : Int), .int .i64 (H' : Int), .int .i64 (I' : Int), .string S', .int .i64 z, .bool has] 24)) = W := ⟨_, rfl⟩
    rw [hV5] at bn5 mn5
    have HV5 := Lib.hid hV5
    have hb6 := hb4.trans (bn5.mono hb4.size)
    have M0x6 := Lib.hid (M0x4.out.later bn5)
    have MN5 := Lib.hid mn5
    clear hV5 mn5
    go_upto_region 8 with fail
    try rw [HV5.out]
    obtain ⟨q0c0, q0c1, q0c2, q0c3, q0c4, q0c5, q0c6, q0c7, q0l⟩ := M0x6.out
    obtain ⟨q1c0, q1c1, q1c2, q1c3, q1c4, q1c5, q1c6, q1c7, q1l⟩ := MN5.out
    go_wp2_with fail
    refine (cW2 V5 (HG.out.later hb6)).mono ?_
    rintro e w7 ⟨rfl, b7⟩
    clear q0c0 q0c1 q0c2 q0c3 q0c4 q0c5 q0c6 q0c7 q0l q1c0 q1c1 q1c2 q1c3 q1c4 q1c5 q1c6 q1c7 q1l
    have hb8 := hb6.trans (b7.mono hb6.size)
    have M0x8 := Lib.hid (M0x6.out.later b7)
    have M1x8 := Lib.hid (MN5.out.later b7)
    clear cW2
    obtain ⟨q0c0, q0c1, q0c2, q0c3, q0c4, q0c5, q0c6, q0c7, q0l⟩ := M0x8.out
    obtain ⟨tm, htm⟩ : ∃ tm : Nat, (4800 : Int) + (12 * ((Y : Int) - 1) + (M : Int) - 1) = (tm : Int) := ⟨4800 + 12 * (Y - 1) + M - 1, by omega⟩
    by_cases hq : tm < 119988
    · have e1 : tm / 12 + 1 = Y + 400 := by have := (KK.out).date.m2; omega
      have e2 : tm % 12 + 1 = M := by have := (KK.out).date.m2; omega
      have e3 : min D (dim (Y + 400) M) = D := by rw [dim_400]; exact Nat.min_eq_left (KK.out).date.d2
      have cM := addMon_ok Y M D H I mu S z has KK.out 4800 tm htm hq
      rw [e1, e2, e3] at cM
      have k4 : MomOk (Y + 400) M D H I mu S z has := ⟨⟨by omega, by have := (KK.out).date.m2; omega, (KK.out).date.m1, (KK.out).date.m2, (KK.out).date.d1, by rw [dim_400]; exact (KK.out).date.d2⟩, (KK.out).hour, (KK.out).minute, (KK.out).micro, (KK.out).sec, (KK.out).zone⟩
      have cW4 := weekday_ok (Y + 400) M D H I mu S z has k4
      rw [dayN_400 Y M D y1, show (dayN Y M D + 146097) % 7 + 1 = wd by rw [← HWD.out]; omega] at cW4
      obtain ⟨Y4, hY4⟩ : ∃ Y4, Y + 400 = Y4 := ⟨_, rfl⟩
      rw [hY4] at cM cW4
      have n1 : ((wd : Int) != (wd : Int)) = false := by simp
      have n2 : ((D : Int) != (D : Int)) = false := by simp
      clear e1 e2 e3 htm hq hY4 k4
      go_wp2_with fail
      refine (cM w7 (HG.out.later hb8)).mono ?_
      rintro e w9 ⟨rfl, b9⟩
      unfold momV
      clear q0c0 q0c1 q0c2 q0c3 q0c4 q0c5 q0c6 q0c7 q0l
      have hb10 := hb8.trans (b9.mono hb8.size)
      have M0x10 := Lib.hid (M0x8.out.later b9)
      have M1x10 := Lib.hid (M1x8.out.later b9)
      clear cM
      have bn11 : Below w9.heap.size w9 (w9.alloc (.cells #[.int .i64 (Y4 : Int), .int .i64 (M : Int), .int .i64 (D : Int), .int .i64 (H : Int), .int .i64 (I : Int), .string S, .int .i64 z, .bool has] 24)) := (Below.refl _ _).alloc (Nat.le_refl _) _
      have mn11 := MomAt.new w9 (Y4 : Int) (M : Int) (D : Int) (H : Int) (I : Int) S z has
      obtain ⟨V11, hV11⟩ : ∃ W, (w9.alloc (.cells #[.int .i64 (Y4 : Int), .int .i64 (M : Int), .int .i64 (D : Int), .int .i64 (H : Int), .int .i64 (I : Int), .string S, .int .i64 z, .bool has] 24)) = W := ⟨_, rfl⟩
      rw [hV11] at bn11 mn11
      have HV11 := Lib.hid hV11
      have hb12 := hb10.trans (bn11.mono hb10.size)
      have M0x12 := Lib.hid (M0x10.out.later bn11)
      have M1x12 := Lib.hid (M1x10.out.later bn11)
      have MN11 := Lib.hid mn11
      clear hV11 mn11
      go_upto_region 11 with fail
      try rw [HV11.out]
      obtain ⟨q0c0, q0c1, q0c2, q0c3, q0c4, q0c5, q0c6, q0c7, q0l⟩ := M0x12.out
      obtain ⟨q2c0, q2c1, q2c2, q2c3, q2c4, q2c5, q2c6, q2c7, q2l⟩ := MN11.out
      go_wp2_with fail
      refine (cW4 V11 (HG.out.later hb12)).mono ?_
      rintro e w13 ⟨rfl, b13⟩
      clear q0c0 q0c1 q0c2 q0c3 q0c4 q0c5 q0c6 q0c7 q0l q2c0 q2c1 q2c2 q2c3 q2c4 q2c5 q2c6 q2c7 q2l
      have hb14 := hb12.trans (b13.mono hb12.size)
      have M0x14 := Lib.hid (M0x12.out.later b13)
      have M1x14 := Lib.hid (M1x12.out.later b13)
      have M2x14 := Lib.hid (MN11.out.later b13)
      clear cW4
      obtain ⟨q0c0, q0c1, q0c2, q0c3, q0c4, q0c5, q0c6, q0c7, q0l⟩ := M0x14.out
      obtain ⟨q2c0, q2c1, q2c2, q2c3, q2c4, q2c5, q2c6, q2c7, q2l⟩ := M2x14.out
      go_wp2_with fail
      refine (works_ti w13 (HG.out.later hb14)).mono ?_
      rintro e w15 ⟨rfl, b15⟩
      clear q0c0 q0c1 q0c2 q0c3 q0c4 q0c5 q0c6 q0c7 q0l q2c0 q2c1 q2c2 q2c3 q2c4 q2c5 q2c6 q2c7 q2l
      have hb16 := hb14.trans (b15.mono hb14.size)
      have M0x16 := Lib.hid (M0x14.out.later b15)
      have M1x16 := Lib.hid (M1x14.out.later b15)
      have M2x16 := Lib.hid (M2x14.out.later b15)
      go_wp2_with fail
      go_ret
      exact ⟨rfl, hb16⟩
    · have cM := addMon_range Y M D H I mu S z has KK.out 4800 (.inr (by omega))
      clear htm hq
      go_wp2_with fail
      refine (cM w7 (HG.out.later hb8)).mono ?_
      rintro e w9 ⟨rfl, b9⟩
      unfold momZ momV
      clear q0c0 q0c1 q0c2 q0c3 q0c4 q0c5 q0c6 q0c7 q0l
      have hb10 := hb8.trans (b9.mono hb8.size)
      have M0x10 := Lib.hid (M0x8.out.later b9)
      have M1x10 := Lib.hid (M1x8.out.later b9)
      clear cM
      have bn11 : Below w9.heap.size w9 (w9.alloc (.cells #[.int .i64 0, .int .i64 0, .int .i64 0, .int .i64 0, .int .i64 0, .string ⟨#[]⟩, .int .i64 0, .bool false] 24)) := (Below.refl _ _).alloc (Nat.le_refl _) _
      have mn11 := MomAt.new w9 0 0 0 0 0 ⟨#[]⟩ 0 false
      obtain ⟨V11, hV11⟩ : ∃ W, (w9.alloc (.cells #[.int .i64 0, .int .i64 0, .int .i64 0, .int .i64 0, .int .i64 0, .string ⟨#[]⟩, .int .i64 0, .bool false] 24)) = W := ⟨_, rfl⟩
      rw [hV11] at bn11 mn11
      have HV11 := Lib.hid hV11
      have hb12 := hb10.trans (bn11.mono hb10.size)
      have M0x12 := Lib.hid (M0x10.out.later bn11)
      have M1x12 := Lib.hid (M1x10.out.later bn11)
      have MN11 := Lib.hid mn11
      clear hV11 mn11
      go_upto_region 11 with fail
      try rw [HV11.out]
      go_wp2_with fail
      refine (works_ti V11 (HG.out.later hb12)).mono ?_
      rintro e w13 ⟨rfl, b13⟩
      have hb14 := hb12.trans (b13.mono hb12.size)
      have M0x14 := Lib.hid (M0x12.out.later b13)
      have M1x14 := Lib.hid (M1x12.out.later b13)
      have M2x14 := Lib.hid (MN11.out.later b13)
      go_wp2_with fail
      go_ret
      exact ⟨rfl, hb14⟩
  · have cS := addSec_range Y M D H I mu S z has KK.out dayS (by decide) dayS day_read 86400000000 day_mic (.inr (by omega))
    go_wp2_with fail
    refine (cS w1 (HG.out.later hb2)).mono ?_
    rintro e w3 ⟨rfl, b3⟩
    unfold momZ momV
    clear q0c0 q0c1 q0c2 q0c3 q0c4 q0c5 q0c6 q0c7 q0l
    have hb4 := hb2.trans (b3.mono hb2.size)
    have M0x4 := Lib.hid (M0x2.out.later b3)
    clear cS hr
    have bn5 : Below w3.heap.size w3 (w3.alloc (.cells #[.int .i64 0, .int .i64 0, .int .i64 0, .int .i64 0, .int .i64 0, .string ⟨#[]⟩, .int .i64 0, .bool false] 24)) := (Below.refl _ _).alloc (Nat.le_refl _) _
    have mn5 := MomAt.new w3 0 0 0 0 0 ⟨#[]⟩ 0 false
    obtain ⟨V5, hV5⟩ : ∃ W, (w3.alloc (.cells #[.int .i64 0, .int .i64 0, .int .i64 0, .int .i64 0, .int .i64 0, .string ⟨#[]⟩, .int .i64 0, .bool false] 24)) = W := ⟨_, rfl⟩
    rw [hV5] at bn5 mn5
    have HV5 := Lib.hid hV5
    have hb6 := hb4.trans (bn5.mono hb4.size)
    have M0x6 := Lib.hid (M0x4.out.later bn5)
    have MN5 := Lib.hid mn5
    clear hV5 mn5
    go_upto_region 8 with fail
    try rw [HV5.out]
    obtain ⟨q0c0, q0c1, q0c2, q0c3, q0c4, q0c5, q0c6, q0c7, q0l⟩ := M0x6.out
    obtain ⟨tm, htm⟩ : ∃ tm : Nat, (4800 : Int) + (12 * ((Y : Int) - 1) + (M : Int) - 1) = (tm : Int) := ⟨4800 + 12 * (Y - 1) + M - 1, by omega⟩
    by_cases hq : tm < 119988
    · have e1 : tm / 12 + 1 = Y + 400 := by have := (KK.out).date.m2; omega
      have e2 : tm % 12 + 1 = M := by have := (KK.out).date.m2; omega
      have e3 : min D (dim (Y + 400) M) = D := by rw [dim_400]; exact Nat.min_eq_left (KK.out).date.d2
      have cM := addMon_ok Y M D H I mu S z has KK.out 4800 tm htm hq
      rw [e1, e2, e3] at cM
      have k4 : MomOk (Y + 400) M D H I mu S z has := ⟨⟨by omega, by have := (KK.out).date.m2; omega, (KK.out).date.m1, (KK.out).date.m2, (KK.out).date.d1, by rw [dim_400]; exact (KK.out).date.d2⟩, (KK.out).hour, (KK.out).minute, (KK.out).micro, (KK.out).sec, (KK.out).zone⟩
      have cW4 := weekday_ok (Y + 400) M D H I mu S z has k4
      rw [dayN_400 Y M D y1, show (dayN Y M D + 146097) % 7 + 1 = wd by rw [← HWD.out]; omega] at cW4
      obtain ⟨Y4, hY4⟩ : ∃ Y4, Y + 400 = Y4 := ⟨_, rfl⟩
      rw [hY4] at cM cW4
      have n1 : ((wd : Int) != (wd : Int)) = false := by simp
      have n2 : ((D : Int) != (D : Int)) = false := by simp
      clear e1 e2 e3 htm hq hY4 k4
      go_wp2_with fail
      refine (cM V5 (HG.out.later hb6)).mono ?_
      rintro e w7 ⟨rfl, b7⟩
      unfold momV
      clear q0c0 q0c1 q0c2 q0c3 q0c4 q0c5 q0c6 q0c7 q0l
      have hb8 := hb6.trans (b7.mono hb6.size)
      have M0x8 := Lib.hid (M0x6.out.later b7)
      have M1x8 := Lib.hid (MN5.out.later b7)
      clear cM
      have bn9 : Below w7.heap.size w7 (w7.alloc (.cells #[.int .i64 (Y4 : Int), .int .i64 (M : Int), .int .i64 (D : Int), .int .i64 (H : Int), .int .i64 (I : Int), .string S, .int .i64 z, .bool has] 24)) := (Below.refl _ _).alloc (Nat.le_refl _) _
      have mn9 := MomAt.new w7 (Y4 : Int) (M : Int) (D : Int) (H : Int) (I : Int) S z has
      obtain ⟨V9, hV9⟩ : ∃ W, (w7.alloc (.cells #[.int .i64 (Y4 : Int), .int .i64 (M : Int), .int .i64 (D : Int), .int .i64 (H : Int), .int .i64 (I : Int), .string S, .int .i64 z, .bool has] 24)) = W := ⟨_, rfl⟩
      rw [hV9] at bn9 mn9
      have HV9 := Lib.hid hV9
      have hb10 := hb8.trans (bn9.mono hb8.size)
      have M0x10 := Lib.hid (M0x8.out.later bn9)
      have M1x10 := Lib.hid (M1x8.out.later bn9)
      have MN9 := Lib.hid mn9
      clear hV9 mn9
      go_upto_region 11 with fail
      try rw [HV9.out]
      obtain ⟨q0c0, q0c1, q0c2, q0c3, q0c4, q0c5, q0c6, q0c7, q0l⟩ := M0x10.out
      obtain ⟨q2c0, q2c1, q2c2, q2c3, q2c4, q2c5, q2c6, q2c7, q2l⟩ := MN9.out
      go_wp2_with fail
      refine (cW4 V9 (HG.out.later hb10)).mono ?_
      rintro e w11 ⟨rfl, b11⟩
      clear q0c0 q0c1 q0c2 q0c3 q0c4 q0c5 q0c6 q0c7 q0l q2c0 q2c1 q2c2 q2c3 q2c4 q2c5 q2c6 q2c7 q2l
      have hb12 := hb10.trans (b11.mono hb10.size)
      have M0x12 := Lib.hid (M0x10.out.later b11)
      have M1x12 := Lib.hid (M1x10.out.later b11)
      have M2x12 := Lib.hid (MN9.out.later b11)
      clear cW4
      obtain ⟨q0c0, q0c1, q0c2, q0c3, q0c4, q0c5, q0c6, q0c7, q0l⟩ := M0x12.out
      obtain ⟨q2c0, q2c1, q2c2, q2c3, q2c4, q2c5, q2c6, q2c7, q2l⟩ := M2x12.out
      go_wp2_with fail
      refine (works_ti w11 (HG.out.later hb12)).mono ?_
      rintro e w13 ⟨rfl, b13⟩
      clear q0c0 q0c1 q0c2 q0c3 q0c4 q0c5 q0c6 q0c7 q0l q2c0 q2c1 q2c2 q2c3 q2c4 q2c5 q2c6 q2c7 q2l
      have hb14 := hb12.trans (b13.mono hb12.size)
      have M0x14 := Lib.hid (M0x12.out.later b13)
      have M1x14 := Lib.hid (M1x12.out.later b13)
      have M2x14 := Lib.hid (M2x12.out.later b13)
      go_wp2_with fail
      go_ret
      exact ⟨rfl, hb14⟩
    · have cM := addMon_range Y M D H I mu S z has KK.out 4800 (.inr (by omega))
      clear htm hq
      go_wp2_with fail
      refine (cM V5 (HG.out.later hb6)).mono ?_
      rintro e w7 ⟨rfl, b7⟩
      unfold momZ momV
      clear q0c0 q0c1 q0c2 q0c3 q0c4 q0c5 q0c6 q0c7 q0l
      have hb8 := hb6.trans (b7.mono hb6.size)
      have M0x8 := Lib.hid (M0x6.out.later b7)
      have M1x8 := Lib.hid (MN5.out.later b7)
      clear cM
      have bn9 : Below w7.heap.size w7 (w7.alloc (.cells #[.int .i64 0, .int .i64 0, .int .i64 0, .int .i64 0, .int .i64 0, .string ⟨#[]⟩, .int .i64 0, .bool false] 24)) := (Below.refl _ _).alloc (Nat.le_refl _) _
      have mn9 := MomAt.new w7 0 0 0 0 0 ⟨#[]⟩ 0 false
      obtain ⟨V9, hV9⟩ : ∃ W, (w7.alloc (.cells #[.int .i64 0, .int .i64 0, .int .i64 0, .int .i64 0, .int .i64 0, .string ⟨#[]⟩, .int .i64 0, .bool false] 24)) = W := ⟨_, rfl⟩
      rw [hV9] at bn9 mn9
      have HV9 := Lib.hid hV9
      have hb10 := hb8.trans (bn9.mono hb8.size)
      have M0x10 := Lib.hid (M0x8.out.later bn9)
      have M1x10 := Lib.hid (M1x8.out.later bn9)
      have MN9 := Lib.hid mn9
      clear hV9 mn9
      go_upto_region 11 with fail
      try rw [HV9.out]
      go_wp2_with fail
      refine (works_ti V9 (HG.out.later hb10)).mono ?_
      rintro e w11 ⟨rfl, b11⟩
      have hb12 := hb10.trans (b11.mono hb10.size)
      have M0x12 := Lib.hid (M0x10.out.later b11)
      have M1x12 := Lib.hid (M1x10.out.later b11)
      have M2x12 := Lib.hid (MN9.out.later b11)
      go_wp2_with fail
      go_ret
      exact ⟨rfl, hb12⟩
theorem days_law (y mo d h mi : Int) (S : ByteArray) (z : Int) (has : Bool) (w : World) (hg : GrT w) :
    Calls Tryz.prog 11 #[momV y mo d h mi S z has] w fun e w' => e = .returned (.bool true) ∧ Below w.heap.size w w' := by
  by_cases hl : 300 < S.size
  · exact days_long y mo d h mi S z has hl w hg
  cases hv : validB y mo d h mi S.data.toList z has with
  | false => exact days_bad y mo d h mi S z has (by omega) hv w hg
  | true =>
    obtain ⟨Y, M, D, H, I, mu, rfl, rfl, rfl, rfl, rfl, k⟩ := valid_mom hv
    exact days_ok Y M D H I mu S z has k (by omega) w hg
end Go.Proofs.YtgmnjghbafbopaaGreatDoor

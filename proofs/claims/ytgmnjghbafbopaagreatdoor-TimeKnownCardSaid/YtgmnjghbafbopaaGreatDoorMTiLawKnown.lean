/- The law TimeKnown: it answers true. -/
import Derived.Test.YtgmnjghbafbopaaGreatDoorMTiWorks
import Derived.Test.YtgmnjghbafbopaaGreatDoorMTiJ
import Derived.Test.YtgmnjghbafbopaaGreatDoorMTiLawP
import Derived.Test.YtgmnjghbafbopaaGreatDoorMTiI
import Derived.Deep.RegionHeld3
namespace Go.Proofs.YtgmnjghbafbopaaGreatDoor
open Go.RowKit Go.Lib

theorem kn_t1 (w : World) (hg : GrT w) : Calls Tryz.prog 19 #[.int .i64 6, momV 2026 11 17 0 0 ⟨#[48]⟩ (-480) true] w fun e w' => e = .returned (.tuple #[.string ⟨#[50, 48, 50, 54, 45, 49, 49, 45, 49, 55, 45, 48, 56, 58, 48, 48]⟩, .int .i64 0]) ∧ Below w.heap.size w w' := 
  text_ok 6 (.inl rfl) 2026 11 17 0 0 0 ⟨#[48]⟩ (-480) true (mom_zero (date_of (by decide)) (by decide)) ⟨#[50, 48, 50, 54, 45, 49, 49, 45, 49, 55, 45, 48, 56, 58, 48, 48]⟩ (by decide +kernel) w hg
theorem kn_t2 (w : World) (hg : GrT w) : Calls Tryz.prog 19 #[.int .i64 8, momV 2026 11 17 0 0 ⟨#[48]⟩ (-480) true] w fun e w' => e = .returned (.tuple #[.string ⟨#[50, 48, 50, 54, 45, 49, 49, 45, 49, 55, 84, 48, 48, 58, 48, 48, 58, 48, 48, 45, 48, 56, 58, 48, 48]⟩, .int .i64 0]) ∧ Below w.heap.size w w' := 
  text_ok 8 (.inr (.inr rfl)) 2026 11 17 0 0 0 ⟨#[48]⟩ (-480) true (mom_zero (date_of (by decide)) (by decide)) ⟨#[50, 48, 50, 54, 45, 49, 49, 45, 49, 55, 84, 48, 48, 58, 48, 48, 58, 48, 48, 45, 48, 56, 58, 48, 48]⟩ (by decide +kernel) w hg
theorem kn_p1 (w : World) (hg : GrT w) : Calls Tryz.prog 16 #[.int .i64 6, .string ⟨#[50, 48, 50, 54, 45, 48, 50, 45, 50, 57]⟩] w fun e w' => e = .returned (.tuple #[momZ, .int .i64 6]) ∧ Below w.heap.size w w' := 
  parse_bad 6 (.inl rfl) ⟨#[50, 48, 50, 54, 45, 48, 50, 45, 50, 57]⟩ _ (parts_eq (y := 2026) (mo := 2) (d := 29) (h := 0) (mi := 0) (sec := [48]) (zone := []) (by decide +kernel)) 0 false (by decide +kernel) (by decide) (by decide +kernel) w hg
theorem kn_none : partsT 6 (⟨#[50, 48, 50, 54, 45, 50, 45, 50, 56]⟩ : ByteArray).data.toList = none := Option.isNone_iff_eq_none.1 (by decide +kernel)
theorem kn_p2 (w : World) (hg : GrT w) : Calls Tryz.prog 16 #[.int .i64 6, .string ⟨#[50, 48, 50, 54, 45, 50, 45, 50, 56]⟩] w fun e w' => e = .returned (.tuple #[momZ, .int .i64 5]) ∧ Below w.heap.size w w' := parse_none 6 (.inl rfl) _ kn_none w hg
theorem kn_p3 (w : World) : Calls Tryz.prog 16 #[.int .i64 1, .string ⟨#[50, 48, 50, 54, 45, 48, 50, 45, 50, 56]⟩] w fun e w' => e = .returned (.tuple #[momZ, .int .i64 1]) ∧ Below w.heap.size w w' := parse_kind 1 (by decide) _ w
theorem kn_s1 (w : World) (hg : GrT w) : Calls Tryz.prog 21 #[momV 1970 1 2 0 0 ⟨#[48]⟩ 60 true] w fun e w' => e = .returned (.tuple #[.string ⟨#[56, 50, 56, 48, 48]⟩, .int .i64 0]) ∧ Below w.heap.size w w' := 
  seconds_ok 1970 1 2 0 0 0 ⟨#[48]⟩ 60 true (mom_zero (date_of (by decide)) (by decide)) ⟨#[56, 50, 56, 48, 48]⟩ (by decide +kernel) w hg
theorem half_sec : (⟨#[53, 57, 46, 53]⟩ : ByteArray).data.toList = bodyL (59500000 * 10 ^ 14) := by decide +kernel
theorem mom_half {y mo d : Nat} (h : DateOk y mo d) {z : Int} {has : Bool} (hz : zoneB z has = true) : MomOk y mo d 23 59 59500000 ⟨#[53, 57, 46, 53]⟩ z has := ⟨h, by decide, by decide, by decide, half_sec, hz⟩
theorem kn_s2 (w : World) (hg : GrT w) : Calls Tryz.prog 21 #[momV 1969 12 31 23 59 ⟨#[53, 57, 46, 53]⟩ 0 false] w fun e w' => e = .returned (.tuple #[.string ⟨#[45, 48, 46, 53]⟩, .int .i64 0]) ∧ Below w.heap.size w w' := 
  seconds_ok 1969 12 31 23 59 59500000 ⟨#[53, 57, 46, 53]⟩ 0 false (mom_half (date_of (by decide)) (by decide)) ⟨#[45, 48, 46, 53]⟩ (by decide +kernel) w hg
theorem kn_a1 (w : World) (hg : GrT w) : Calls Tryz.prog 25 #[momV 2024 2 29 0 0 ⟨#[48]⟩ 0 false, .int .i64 (-12)] w fun e w' => e = .returned (.tuple #[momV 2023 2 28 0 0 ⟨#[48]⟩ 0 false, .int .i64 0]) ∧ Below w.heap.size w w' := 
  addMon_ok 2024 2 29 0 0 0 ⟨#[48]⟩ 0 false (mom_zero (date_of (by decide)) (by decide)) (-12) 24265 (by decide) (by decide) w hg
theorem kn_a2 (w : World) (hg : GrT w) : Calls Tryz.prog 27 #[momV 2024 2 28 23 59 ⟨#[53, 57, 46, 53]⟩ 0 false, .string ⟨#[48, 46, 53]⟩] w fun e w' => e = .returned (.tuple #[momV 2024 2 29 0 0 ⟨#[48]⟩ 0 false, .int .i64 0]) ∧ Below w.heap.size w w' := by
  refine (addSec_ok 2024 2 28 23 59 59500000 ⟨#[53, 57, 46, 53]⟩ 0 false (mom_half (date_of (by decide)) (by decide)) ⟨#[48, 46, 53]⟩ (by decide) ⟨#[48, 46, 53]⟩ (by decide +kernel) 500000 (by decide +kernel) (localN 2024 2 29 0 0 0) (by decide) (by decide) w hg).mono ?_
  rintro e w' ⟨Y, M, D, H, I, m6, S6, hk, hl, rfl, hb⟩
  obtain ⟨rfl, rfl, rfl, rfl, rfl, rfl, rfl⟩ := localN_inj hk (mom_zero (date_of (by decide)) (by decide) : MomOk 2024 2 29 0 0 0 ⟨#[48]⟩ 0 false) hl
  exact ⟨rfl, hb⟩
theorem mom_hours {y mo d h : Nat} (hd : DateOk y mo d) (hh : h ≤ 23) {z : Int} {has : Bool} (hz : zoneB z has = true) : MomOk y mo d h 0 0 ⟨#[48]⟩ z has := ⟨hd, hh, by decide, by decide, zero_sec, hz⟩
theorem kn_j (w : World) (hg : GrT w) : Calls Tryz.prog 29 #[momV 2026 11 16 20 0 ⟨#[48]⟩ (-480) true, .int .i64 60, .bool true] w fun e w' => e = .returned (.tuple #[momV 2026 11 17 5 0 ⟨#[48]⟩ 60 true, .int .i64 0]) ∧ Below w.heap.size w w' := by
  refine (adjust_ok 2026 11 16 20 0 0 ⟨#[48]⟩ (-480) (mom_hours (date_of (by decide)) (by decide) (by decide)) 60 (by decide) (localN 2026 11 17 5 0 0) (by decide) (by decide) w hg).mono ?_
  rintro e w' ⟨Y, M, D, H, I, m6, S6, hk, hl, rfl, hb⟩
  obtain ⟨rfl, rfl, rfl, rfl, rfl, rfl, rfl⟩ := localN_inj hk (mom_hours (date_of (by decide)) (by decide) (by decide) : MomOk 2026 11 17 5 0 0 ⟨#[48]⟩ 60 true) hl
  exact ⟨rfl, hb⟩
theorem kn_t3 (w : World) (hg : GrT w) : Calls Tryz.prog 19 #[.int .i64 8, momV 2026 11 17 5 0 ⟨#[48]⟩ 60 true] w fun e w' => e = .returned (.tuple #[.string ⟨#[50, 48, 50, 54, 45, 49, 49, 45, 49, 55, 84, 48, 53, 58, 48, 48, 58, 48, 48, 43, 48, 49, 58, 48, 48]⟩, .int .i64 0]) ∧ Below w.heap.size w w' := 
  text_ok 8 (.inr (.inr rfl)) 2026 11 17 5 0 0 ⟨#[48]⟩ 60 true (mom_hours (date_of (by decide)) (by decide) (by decide)) ⟨#[50, 48, 50, 54, 45, 49, 49, 45, 49, 55, 84, 48, 53, 58, 48, 48, 58, 48, 48, 43, 48, 49, 58, 48, 48]⟩ (by decide +kernel) w hg
theorem kn_w1 (w : World) (hg : GrT w) : Calls Tryz.prog 23 #[momV 2026 11 16 0 0 ⟨#[48]⟩ 0 false] w fun e w' => e = .returned (.int .i64 1) ∧ Below w.heap.size w w' := weekday_ok 2026 11 16 0 0 0 ⟨#[48]⟩ 0 false (mom_zero (date_of (by decide)) (by decide)) w hg
theorem kn_w2 (w : World) (hg : GrT w) : Calls Tryz.prog 23 #[momV 1 1 1 0 0 ⟨#[48]⟩ 0 false] w fun e w' => e = .returned (.int .i64 1) ∧ Below w.heap.size w w' := weekday_ok 1 1 1 0 0 0 ⟨#[48]⟩ 0 false (mom_zero (date_of (by decide)) (by decide)) w hg
theorem kn_w3 (w : World) (hg : GrT w) : Calls Tryz.prog 23 #[momV 0 0 0 0 0 ⟨#[]⟩ 0 false] w fun e w' => e = .returned (.int .i64 0) ∧ Below w.heap.size w w' := weekday_bad 0 0 0 0 0 ⟨#[]⟩ 0 false (by decide) (by decide +kernel) w hg
set_option maxRecDepth 100000 in
set_option maxHeartbeats 3000000 in
theorem known_law (w : World) (hg : GrT w) : Calls Tryz.prog 13 #[] w fun e w' => e = .returned (.bool true) ∧ Below w.heap.size w w' := by
  have HG := Lib.hid hg
  have hb0 := Below.refl w.heap.size w
  clear hg
  go_enter Tryz.func13, Tryz.ntmps13
  go_wp2_with fail
  refine (exW_ok w (HG.out.later hb0)).mono ?_
  rintro e w1 ⟨rfl, b1⟩
  unfold momV
  have hb2 := hb0.trans (b1.mono hb0.size)
  have bn3 : Below w1.heap.size w1 (w1.alloc (.cells #[.int .i64 2026, .int .i64 11, .int .i64 17, .int .i64 0, .int .i64 0, .string ⟨#[48]⟩, .int .i64 (-480), .bool true] 24)) := (Below.refl _ _).alloc (Nat.le_refl _) _
  have mn3 := MomAt.new w1 2026 11 17 0 0 ⟨#[48]⟩ (-480) true
  obtain ⟨V3, hV3⟩ : ∃ W, (w1.alloc (.cells #[.int .i64 2026, .int .i64 11, .int .i64 17, .int .i64 0, .int .i64 0, .string ⟨#[48]⟩, .int .i64 (-480), .bool true] 24)) = W := ⟨_, rfl⟩
  rw [hV3] at bn3 mn3
  have HV3 := Lib.hid hV3
  have hb4 := hb2.trans (bn3.mono hb2.size)
  have MN3 := Lib.hid mn3
  clear hV3 mn3
  go_upto_region 2 with fail
  try rw [HV3.out]
  obtain ⟨q0c0, q0c1, q0c2, q0c3, q0c4, q0c5, q0c6, q0c7, q0l⟩ := MN3.out
  go_wp2_with fail
  refine (kn_t1 V3 (HG.out.later hb4)).mono ?_
  rintro e w5 ⟨rfl, b5⟩
  clear q0c0 q0c1 q0c2 q0c3 q0c4 q0c5 q0c6 q0c7 q0l
  have hb6 := hb4.trans (b5.mono hb4.size)
  have M0x6 := Lib.hid (MN3.out.later b5)
  obtain ⟨q0c0, q0c1, q0c2, q0c3, q0c4, q0c5, q0c6, q0c7, q0l⟩ := M0x6.out
  go_wp2_with fail
  refine (kn_t2 w5 (HG.out.later hb6)).mono ?_
  rintro e w7 ⟨rfl, b7⟩
  clear q0c0 q0c1 q0c2 q0c3 q0c4 q0c5 q0c6 q0c7 q0l
  have hb8 := hb6.trans (b7.mono hb6.size)
  have M0x8 := Lib.hid (M0x6.out.later b7)
  go_wp2_with fail
  refine (kn_p1 w7 (HG.out.later hb8)).mono ?_
  rintro e w9 ⟨rfl, b9⟩
  unfold momZ momV
  have hb10 := hb8.trans (b9.mono hb8.size)
  have M0x10 := Lib.hid (M0x8.out.later b9)
  go_wp2_with fail
  refine (kn_p2 w9 (HG.out.later hb10)).mono ?_
  rintro e w11 ⟨rfl, b11⟩
  unfold momZ momV
  have hb12 := hb10.trans (b11.mono hb10.size)
  have M0x12 := Lib.hid (M0x10.out.later b11)
  go_wp2_with fail
  refine (kn_p3 w11).mono ?_
  rintro e w13 ⟨rfl, b13⟩
  unfold momZ momV
  have hb14 := hb12.trans (b13.mono hb12.size)
  have M0x14 := Lib.hid (M0x12.out.later b13)
  have bn15 : Below w13.heap.size w13 (w13.alloc (.cells #[.int .i64 0, .int .i64 0, .int .i64 0, .int .i64 0, .int .i64 0, .string ⟨#[]⟩, .int .i64 0, .bool false] 24)) := (Below.refl _ _).alloc (Nat.le_refl _) _
  have mn15 := MomAt.new w13 0 0 0 0 0 ⟨#[]⟩ 0 false
  obtain ⟨V15, hV15⟩ : ∃ W, (w13.alloc (.cells #[.int .i64 0, .int .i64 0, .int .i64 0, .int .i64 0, .int .i64 0, .string ⟨#[]⟩, .int .i64 0, .bool false] 24)) = W := ⟨_, rfl⟩
  rw [hV15] at bn15 mn15
  have HV15 := Lib.hid hV15
  have hb16 := hb14.trans (bn15.mono hb14.size)
  have M0x16 := Lib.hid (M0x14.out.later bn15)
  have MN15 := Lib.hid mn15
  clear hV15 mn15
  go_upto_region 9 with fail
  try rw [HV15.out]
  go_wp2_with fail
  refine (at_ti 1970 1 2 0 0 ⟨#[48]⟩ V15).mono ?_
  rintro e w17 ⟨rfl, b17⟩
  unfold momV
  have hb18 := hb16.trans (b17.mono hb16.size)
  have M0x18 := Lib.hid (M0x16.out.later b17)
  have M1x18 := Lib.hid (MN15.out.later b17)
  have bn19 : Below w17.heap.size w17 (w17.alloc (.cells #[.int .i64 1970, .int .i64 1, .int .i64 2, .int .i64 0, .int .i64 0, .string ⟨#[48]⟩, .int .i64 60, .bool true] 24)) := (Below.refl _ _).alloc (Nat.le_refl _) _
  have mn19 := MomAt.new w17 1970 1 2 0 0 ⟨#[48]⟩ 60 true
  obtain ⟨V19, hV19⟩ : ∃ W, (w17.alloc (.cells #[.int .i64 1970, .int .i64 1, .int .i64 2, .int .i64 0, .int .i64 0, .string ⟨#[48]⟩, .int .i64 60, .bool true] 24)) = W := ⟨_, rfl⟩
  rw [hV19] at bn19 mn19
  have HV19 := Lib.hid hV19
  have hb20 := hb18.trans (bn19.mono hb18.size)
  have M0x20 := Lib.hid (M0x18.out.later bn19)
  have M1x20 := Lib.hid (M1x18.out.later bn19)
  have MN19 := Lib.hid mn19
  clear hV19 mn19
  go_upto_region 13 with fail
  try rw [HV19.out]
  obtain ⟨q2c0, q2c1, q2c2, q2c3, q2c4, q2c5, q2c6, q2c7, q2l⟩ := MN19.out
  go_wp2_with fail
  refine (kn_s1 V19 (HG.out.later hb20)).mono ?_
  rintro e w21 ⟨rfl, b21⟩
  clear q2c0 q2c1 q2c2 q2c3 q2c4 q2c5 q2c6 q2c7 q2l
  have hb22 := hb20.trans (b21.mono hb20.size)
  have M0x22 := Lib.hid (M0x20.out.later b21)
  have M1x22 := Lib.hid (M1x20.out.later b21)
  have M2x22 := Lib.hid (MN19.out.later b21)
  go_wp2_with fail
  refine (at_ti 1969 12 31 23 59 ⟨#[53, 57, 46, 53]⟩ w21).mono ?_
  rintro e w23 ⟨rfl, b23⟩
  unfold momV
  have hb24 := hb22.trans (b23.mono hb22.size)
  have M0x24 := Lib.hid (M0x22.out.later b23)
  have M1x24 := Lib.hid (M1x22.out.later b23)
  have M2x24 := Lib.hid (M2x22.out.later b23)
  go_wp2_with fail
  refine (kn_s2 w23 (HG.out.later hb24)).mono ?_
  rintro e w25 ⟨rfl, b25⟩
  have hb26 := hb24.trans (b25.mono hb24.size)
  have M0x26 := Lib.hid (M0x24.out.later b25)
  have M1x26 := Lib.hid (M1x24.out.later b25)
  have M2x26 := Lib.hid (M2x24.out.later b25)
  go_wp2_with fail
  refine (at_ti 2024 2 29 0 0 ⟨#[48]⟩ w25).mono ?_
  rintro e w27 ⟨rfl, b27⟩
  unfold momV
  have hb28 := hb26.trans (b27.mono hb26.size)
  have M0x28 := Lib.hid (M0x26.out.later b27)
  have M1x28 := Lib.hid (M1x26.out.later b27)
  have M2x28 := Lib.hid (M2x26.out.later b27)
  go_wp2_with fail
  refine (kn_a1 w27 (HG.out.later hb28)).mono ?_
  rintro e w29 ⟨rfl, b29⟩
  unfold momV
  have hb30 := hb28.trans (b29.mono hb28.size)
  have M0x30 := Lib.hid (M0x28.out.later b29)
  have M1x30 := Lib.hid (M1x28.out.later b29)
  have M2x30 := Lib.hid (M2x28.out.later b29)
  have bn31 : Below w29.heap.size w29 (w29.alloc (.cells #[.int .i64 2023, .int .i64 2, .int .i64 28, .int .i64 0, .int .i64 0, .string ⟨#[48]⟩, .int .i64 0, .bool false] 24)) := (Below.refl _ _).alloc (Nat.le_refl _) _
  have mn31 := MomAt.new w29 2023 2 28 0 0 ⟨#[48]⟩ 0 false
  obtain ⟨V31, hV31⟩ : ∃ W, (w29.alloc (.cells #[.int .i64 2023, .int .i64 2, .int .i64 28, .int .i64 0, .int .i64 0, .string ⟨#[48]⟩, .int .i64 0, .bool false] 24)) = W := ⟨_, rfl⟩
  rw [hV31] at bn31 mn31
  have HV31 := Lib.hid hV31
  have hb32 := hb30.trans (bn31.mono hb30.size)
  have M0x32 := Lib.hid (M0x30.out.later bn31)
  have M1x32 := Lib.hid (M1x30.out.later bn31)
  have M2x32 := Lib.hid (M2x30.out.later bn31)
  have MN31 := Lib.hid mn31
  clear hV31 mn31
  go_upto_region 16 with fail
  try rw [HV31.out]
  go_wp2_with fail
  refine (at_ti 2024 2 28 23 59 ⟨#[53, 57, 46, 53]⟩ V31).mono ?_
  rintro e w33 ⟨rfl, b33⟩
  unfold momV
  have hb34 := hb32.trans (b33.mono hb32.size)
  have M0x34 := Lib.hid (M0x32.out.later b33)
  have M1x34 := Lib.hid (M1x32.out.later b33)
  have M2x34 := Lib.hid (M2x32.out.later b33)
  have M3x34 := Lib.hid (MN31.out.later b33)
  go_wp2_with fail
  refine (kn_a2 w33 (HG.out.later hb34)).mono ?_
  rintro e w35 ⟨rfl, b35⟩
  unfold momV
  have hb36 := hb34.trans (b35.mono hb34.size)
  have M0x36 := Lib.hid (M0x34.out.later b35)
  have M1x36 := Lib.hid (M1x34.out.later b35)
  have M2x36 := Lib.hid (M2x34.out.later b35)
  have M3x36 := Lib.hid (M3x34.out.later b35)
  have bn37 : Below w35.heap.size w35 (w35.alloc (.cells #[.int .i64 2024, .int .i64 2, .int .i64 29, .int .i64 0, .int .i64 0, .string ⟨#[48]⟩, .int .i64 0, .bool false] 24)) := (Below.refl _ _).alloc (Nat.le_refl _) _
  have mn37 := MomAt.new w35 2024 2 29 0 0 ⟨#[48]⟩ 0 false
  obtain ⟨V37, hV37⟩ : ∃ W, (w35.alloc (.cells #[.int .i64 2024, .int .i64 2, .int .i64 29, .int .i64 0, .int .i64 0, .string ⟨#[48]⟩, .int .i64 0, .bool false] 24)) = W := ⟨_, rfl⟩
  rw [hV37] at bn37 mn37
  have HV37 := Lib.hid hV37
  have hb38 := hb36.trans (bn37.mono hb36.size)
  have M0x38 := Lib.hid (M0x36.out.later bn37)
  have M1x38 := Lib.hid (M1x36.out.later bn37)
  have M2x38 := Lib.hid (M2x36.out.later bn37)
  have M3x38 := Lib.hid (M3x36.out.later bn37)
  have MN37 := Lib.hid mn37
  clear hV37 mn37
  go_upto_region 17 with fail
  try rw [HV37.out]
  have KN : Hid (∀ W', Below V37.heap.size V37 W' → (W'.cell? ⟨w29.heap.size, 0, none⟩ = some (.int .i64 2023) ∧ W'.cell? ⟨w29.heap.size, 1, none⟩ = some (.int .i64 2) ∧ W'.cell? ⟨w29.heap.size, 2, none⟩ = some (.int .i64 28) ∧ W'.cell? ⟨w29.heap.size, 3, none⟩ = some (.int .i64 0) ∧ W'.cell? ⟨w29.heap.size, 4, none⟩ = some (.int .i64 0) ∧ W'.cell? ⟨w29.heap.size, 5, none⟩ = some (.string ⟨#[48]⟩) ∧ W'.cell? ⟨w29.heap.size, 6, none⟩ = some (.int .i64 0) ∧ W'.cell? ⟨w29.heap.size, 7, none⟩ = some (.bool false)) ∧ (W'.cell? ⟨w35.heap.size, 0, none⟩ = some (.int .i64 2024) ∧ W'.cell? ⟨w35.heap.size, 1, none⟩ = some (.int .i64 2) ∧ W'.cell? ⟨w35.heap.size, 2, none⟩ = some (.int .i64 29) ∧ W'.cell? ⟨w35.heap.size, 3, none⟩ = some (.int .i64 0) ∧ W'.cell? ⟨w35.heap.size, 4, none⟩ = some (.int .i64 0) ∧ W'.cell? ⟨w35.heap.size, 5, none⟩ = some (.string ⟨#[48]⟩) ∧ W'.cell? ⟨w35.heap.size, 6, none⟩ = some (.int .i64 0) ∧ W'.cell? ⟨w35.heap.size, 7, none⟩ = some (.bool false))) := Lib.hid (fun W' hW => by have a := M3x38.out.later hW; have b := MN37.out.later hW; exact ⟨⟨a.c0, a.c1, a.c2, a.c3, a.c4, a.c5, a.c6, a.c7⟩, ⟨b.c0, b.c1, b.c2, b.c3, b.c4, b.c5, b.c6, b.c7⟩⟩)
  have cA : ∀ W', Below V37.heap.size V37 W' → Calls Tryz.prog 36 #[.int .i64 2023, .int .i64 2, .int .i64 28, .int .i64 0, .int .i64 0, .string ⟨#[48]⟩] W' fun e w' => e = .returned (.agg #[.int .i64 2023, .int .i64 2, .int .i64 28, .int .i64 0, .int .i64 0, .string ⟨#[48]⟩, .int .i64 0, .bool false]) ∧ Below V37.heap.size V37 w' := fun W' hW => (at_ti 2023 2 28 0 0 ⟨#[48]⟩ W').mono fun _ _ r => ⟨r.1, hW.trans (r.2.mono hW.size)⟩
  have cB : ∀ W', Below V37.heap.size V37 W' → Calls Tryz.prog 36 #[.int .i64 2024, .int .i64 2, .int .i64 29, .int .i64 0, .int .i64 0, .string ⟨#[48]⟩] W' fun e w' => e = .returned (.agg #[.int .i64 2024, .int .i64 2, .int .i64 29, .int .i64 0, .int .i64 0, .string ⟨#[48]⟩, .int .i64 0, .bool false]) ∧ Below V37.heap.size V37 w' := fun W' hW => (at_ti 2024 2 29 0 0 ⟨#[48]⟩ W').mono fun _ _ r => ⟨r.1, hW.trans (r.2.mono hW.size)⟩
  have bD0 : Below V37.heap.size V37 V37.drew := (Below.refl _ _).drew
  go_region_held3 (fun w' => (w'.cell? ⟨w29.heap.size, 0, none⟩ = some (.int .i64 2023) ∧ w'.cell? ⟨w29.heap.size, 1, none⟩ = some (.int .i64 2) ∧ w'.cell? ⟨w29.heap.size, 2, none⟩ = some (.int .i64 28) ∧ w'.cell? ⟨w29.heap.size, 3, none⟩ = some (.int .i64 0) ∧ w'.cell? ⟨w29.heap.size, 4, none⟩ = some (.int .i64 0) ∧ w'.cell? ⟨w29.heap.size, 5, none⟩ = some (.string ⟨#[48]⟩) ∧ w'.cell? ⟨w29.heap.size, 6, none⟩ = some (.int .i64 0) ∧ w'.cell? ⟨w29.heap.size, 7, none⟩ = some (.bool false)) ∧ (w'.cell? ⟨w35.heap.size, 0, none⟩ = some (.int .i64 2024) ∧ w'.cell? ⟨w35.heap.size, 1, none⟩ = some (.int .i64 2) ∧ w'.cell? ⟨w35.heap.size, 2, none⟩ = some (.int .i64 29) ∧ w'.cell? ⟨w35.heap.size, 3, none⟩ = some (.int .i64 0) ∧ w'.cell? ⟨w35.heap.size, 4, none⟩ = some (.int .i64 0) ∧ w'.cell? ⟨w35.heap.size, 5, none⟩ = some (.string ⟨#[48]⟩) ∧ w'.cell? ⟨w35.heap.size, 6, none⟩ = some (.int .i64 0) ∧ w'.cell? ⟨w35.heap.size, 7, none⟩ = some (.bool false))) (first | exact KN.out _ bY | exact KN.out _ bX | exact KN.out _ bD0 | exact KN.out _ (Below.refl _ _)) (first | (go_at_call 36; (with_reducible refine (cA _ bD0).mono ?_); rintro e wX ⟨rfl, bX⟩) | (go_at_call 36; (with_reducible refine (cB _ bX).mono ?_); rintro e wY ⟨rfl, bY⟩))
  have hb39 := hb38.trans (bY.mono hb38.size)
  have M0x39 := Lib.hid (M0x38.out.later bY)
  have M1x39 := Lib.hid (M1x38.out.later bY)
  have M2x39 := Lib.hid (M2x38.out.later bY)
  have M3x39 := Lib.hid (M3x38.out.later bY)
  have M4x39 := Lib.hid (MN37.out.later bY)
  go_wp2_with fail
  refine (at_ti 2026 11 16 20 0 ⟨#[48]⟩ wY).mono ?_
  rintro e w40 ⟨rfl, b40⟩
  unfold momV
  have hb41 := hb39.trans (b40.mono hb39.size)
  have M0x41 := Lib.hid (M0x39.out.later b40)
  have M1x41 := Lib.hid (M1x39.out.later b40)
  have M2x41 := Lib.hid (M2x39.out.later b40)
  have M3x41 := Lib.hid (M3x39.out.later b40)
  have M4x41 := Lib.hid (M4x39.out.later b40)
  have bn42 : Below w40.heap.size w40 (w40.alloc (.cells #[.int .i64 2026, .int .i64 11, .int .i64 16, .int .i64 20, .int .i64 0, .string ⟨#[48]⟩, .int .i64 (-480), .bool true] 24)) := (Below.refl _ _).alloc (Nat.le_refl _) _
  have mn42 := MomAt.new w40 2026 11 16 20 0 ⟨#[48]⟩ (-480) true
  obtain ⟨V42, hV42⟩ : ∃ W, (w40.alloc (.cells #[.int .i64 2026, .int .i64 11, .int .i64 16, .int .i64 20, .int .i64 0, .string ⟨#[48]⟩, .int .i64 (-480), .bool true] 24)) = W := ⟨_, rfl⟩
  rw [hV42] at bn42 mn42
  have HV42 := Lib.hid hV42
  have hb43 := hb41.trans (bn42.mono hb41.size)
  have M0x43 := Lib.hid (M0x41.out.later bn42)
  have M1x43 := Lib.hid (M1x41.out.later bn42)
  have M2x43 := Lib.hid (M2x41.out.later bn42)
  have M3x43 := Lib.hid (M3x41.out.later bn42)
  have M4x43 := Lib.hid (M4x41.out.later bn42)
  have MN42 := Lib.hid mn42
  clear hV42 mn42
  go_upto_region 21 with fail
  try rw [HV42.out]
  obtain ⟨q5c0, q5c1, q5c2, q5c3, q5c4, q5c5, q5c6, q5c7, q5l⟩ := MN42.out
  go_wp2_with fail
  refine (kn_j V42 (HG.out.later hb43)).mono ?_
  rintro e w44 ⟨rfl, b44⟩
  unfold momV
  clear q5c0 q5c1 q5c2 q5c3 q5c4 q5c5 q5c6 q5c7 q5l
  have hb45 := hb43.trans (b44.mono hb43.size)
  have M0x45 := Lib.hid (M0x43.out.later b44)
  have M1x45 := Lib.hid (M1x43.out.later b44)
  have M2x45 := Lib.hid (M2x43.out.later b44)
  have M3x45 := Lib.hid (M3x43.out.later b44)
  have M4x45 := Lib.hid (M4x43.out.later b44)
  have M5x45 := Lib.hid (MN42.out.later b44)
  have bn46 : Below w44.heap.size w44 (w44.alloc (.cells #[.int .i64 2026, .int .i64 11, .int .i64 17, .int .i64 5, .int .i64 0, .string ⟨#[48]⟩, .int .i64 60, .bool true] 24)) := (Below.refl _ _).alloc (Nat.le_refl _) _
  have mn46 := MomAt.new w44 2026 11 17 5 0 ⟨#[48]⟩ 60 true
  obtain ⟨V46, hV46⟩ : ∃ W, (w44.alloc (.cells #[.int .i64 2026, .int .i64 11, .int .i64 17, .int .i64 5, .int .i64 0, .string ⟨#[48]⟩, .int .i64 60, .bool true] 24)) = W := ⟨_, rfl⟩
  rw [hV46] at bn46 mn46
  have HV46 := Lib.hid hV46
  have hb47 := hb45.trans (bn46.mono hb45.size)
  have M0x47 := Lib.hid (M0x45.out.later bn46)
  have M1x47 := Lib.hid (M1x45.out.later bn46)
  have M2x47 := Lib.hid (M2x45.out.later bn46)
  have M3x47 := Lib.hid (M3x45.out.later bn46)
  have M4x47 := Lib.hid (M4x45.out.later bn46)
  have M5x47 := Lib.hid (M5x45.out.later bn46)
  have MN46 := Lib.hid mn46
  clear hV46 mn46
  go_upto_region 22 with fail
  try rw [HV46.out]
  obtain ⟨q6c0, q6c1, q6c2, q6c3, q6c4, q6c5, q6c6, q6c7, q6l⟩ := MN46.out
  go_wp2_with fail
  refine (kn_t3 V46 (HG.out.later hb47)).mono ?_
  rintro e w48 ⟨rfl, b48⟩
  clear q6c0 q6c1 q6c2 q6c3 q6c4 q6c5 q6c6 q6c7 q6l
  have hb49 := hb47.trans (b48.mono hb47.size)
  have M0x49 := Lib.hid (M0x47.out.later b48)
  have M1x49 := Lib.hid (M1x47.out.later b48)
  have M2x49 := Lib.hid (M2x47.out.later b48)
  have M3x49 := Lib.hid (M3x47.out.later b48)
  have M4x49 := Lib.hid (M4x47.out.later b48)
  have M5x49 := Lib.hid (M5x47.out.later b48)
  have M6x49 := Lib.hid (MN46.out.later b48)
  go_wp2_with fail
  refine (at_ti 2026 11 16 0 0 ⟨#[48]⟩ w48).mono ?_
  rintro e w50 ⟨rfl, b50⟩
  unfold momV
  have hb51 := hb49.trans (b50.mono hb49.size)
  have M0x51 := Lib.hid (M0x49.out.later b50)
  have M1x51 := Lib.hid (M1x49.out.later b50)
  have M2x51 := Lib.hid (M2x49.out.later b50)
  have M3x51 := Lib.hid (M3x49.out.later b50)
  have M4x51 := Lib.hid (M4x49.out.later b50)
  have M5x51 := Lib.hid (M5x49.out.later b50)
  have M6x51 := Lib.hid (M6x49.out.later b50)
  go_wp2_with fail
  refine (kn_w1 w50 (HG.out.later hb51)).mono ?_
  rintro e w52 ⟨rfl, b52⟩
  have hb53 := hb51.trans (b52.mono hb51.size)
  have M0x53 := Lib.hid (M0x51.out.later b52)
  have M1x53 := Lib.hid (M1x51.out.later b52)
  have M2x53 := Lib.hid (M2x51.out.later b52)
  have M3x53 := Lib.hid (M3x51.out.later b52)
  have M4x53 := Lib.hid (M4x51.out.later b52)
  have M5x53 := Lib.hid (M5x51.out.later b52)
  have M6x53 := Lib.hid (M6x51.out.later b52)
  go_wp2_with fail
  refine (at_ti 1 1 1 0 0 ⟨#[48]⟩ w52).mono ?_
  rintro e w54 ⟨rfl, b54⟩
  unfold momV
  have hb55 := hb53.trans (b54.mono hb53.size)
  have M0x55 := Lib.hid (M0x53.out.later b54)
  have M1x55 := Lib.hid (M1x53.out.later b54)
  have M2x55 := Lib.hid (M2x53.out.later b54)
  have M3x55 := Lib.hid (M3x53.out.later b54)
  have M4x55 := Lib.hid (M4x53.out.later b54)
  have M5x55 := Lib.hid (M5x53.out.later b54)
  have M6x55 := Lib.hid (M6x53.out.later b54)
  go_wp2_with fail
  refine (kn_w2 w54 (HG.out.later hb55)).mono ?_
  rintro e w56 ⟨rfl, b56⟩
  have hb57 := hb55.trans (b56.mono hb55.size)
  have M0x57 := Lib.hid (M0x55.out.later b56)
  have M1x57 := Lib.hid (M1x55.out.later b56)
  have M2x57 := Lib.hid (M2x55.out.later b56)
  have M3x57 := Lib.hid (M3x55.out.later b56)
  have M4x57 := Lib.hid (M4x55.out.later b56)
  have M5x57 := Lib.hid (M5x55.out.later b56)
  have M6x57 := Lib.hid (M6x55.out.later b56)
  go_wp2_with fail
  refine (kn_w3 w56 (HG.out.later hb57)).mono ?_
  rintro e w58 ⟨rfl, b58⟩
  have hb59 := hb57.trans (b58.mono hb57.size)
  have M0x59 := Lib.hid (M0x57.out.later b58)
  have M1x59 := Lib.hid (M1x57.out.later b58)
  have M2x59 := Lib.hid (M2x57.out.later b58)
  have M3x59 := Lib.hid (M3x57.out.later b58)
  have M4x59 := Lib.hid (M4x57.out.later b58)
  have M5x59 := Lib.hid (M5x57.out.later b58)
  have M6x59 := Lib.hid (M6x57.out.later b58)
  go_wp2_with fail
  refine (works_ti w58 (HG.out.later hb59)).mono ?_
  rintro e w60 ⟨rfl, b60⟩
  have hb61 := hb59.trans (b60.mono hb59.size)
  have M0x61 := Lib.hid (M0x59.out.later b60)
  have M1x61 := Lib.hid (M1x59.out.later b60)
  have M2x61 := Lib.hid (M2x59.out.later b60)
  have M3x61 := Lib.hid (M3x59.out.later b60)
  have M4x61 := Lib.hid (M4x59.out.later b60)
  have M5x61 := Lib.hid (M5x59.out.later b60)
  have M6x61 := Lib.hid (M6x59.out.later b60)
  go_wp2_with fail
  go_ret
  exact ⟨rfl, hb61⟩
end Go.Proofs.YtgmnjghbafbopaaGreatDoor

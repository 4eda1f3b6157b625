/- Dates: the examples of the chapter that all laws ask (works). -/
import Derived.Test.YtgmnjghbafbopaaGreatDoorMTiPars4
import Derived.Test.YtgmnjghbafbopaaGreatDoorMTiPars5
import Derived.Test.YtgmnjghbafbopaaGreatDoorMTiF
import Derived.Test.YtgmnjghbafbopaaGreatDoorMTiAddM
import Derived.Deep.RegionHeld3
import Derived.Deep.Cut
namespace Go.Proofs.YtgmnjghbafbopaaGreatDoor
open Go.RowKit Go.Lib

/-- What parts says, to be reckoned. -/
def partsIs (o : Option PartsT) (y mo d h mi : Nat) (sec zone : List UInt8) : Bool := match o with
  | none => false
  | some P => P.y == y && P.mo == mo && P.d == d && P.h == h && P.mi == mi && P.sec == sec && P.zone == zone
theorem parts_eq {k : Int} {s : List UInt8} {y mo d h mi : Nat} {sec zone : List UInt8} (h0 : partsIs (partsT k s) y mo d h mi sec zone = true) : partsT k s = some ⟨y, mo, d, h, mi, sec, zone⟩ := by
  cases hP : partsT k s with
  | none => rw [hP] at h0; cases h0
  | some P =>
    rw [hP] at h0
    unfold partsIs at h0
    simp only [Bool.and_eq_true, beq_iff_eq] at h0
    obtain ⟨⟨⟨⟨⟨⟨h1, h2⟩, h3⟩, h4⟩, h5⟩, h6⟩, h7⟩ := h0
    subst h1; subst h2; subst h3; subst h4; subst h5; subst h6; subst h7
    rfl
/-- 2026-11-16T24:00:00.000-08:00 -/
def exW : ByteArray := ⟨#[50, 48, 50, 54, 45, 49, 49, 45, 49, 54, 84, 50, 52, 58, 48, 48, 58, 48, 48, 46, 48, 48, 48, 45, 48, 56, 58, 48, 48]⟩
theorem exW_parts : partsT 8 exW.data.toList = some ⟨2026, 11, 16, 24, 0, [48], [45, 48, 56, 58, 48, 48]⟩ := parts_eq (by decide +kernel)
theorem exW_zone : zoneR [45, 48, 56, 58, 48, 48] = (-480, true, true) := by decide +kernel
theorem zero_sec : (⟨#[48]⟩ : ByteArray).data.toList = bodyL (0 * 10 ^ 14) := by decide +kernel
theorem mom_zero {y mo d : Nat} (h : DateOk y mo d) {z : Int} {has : Bool} (hz : zoneB z has = true) : MomOk y mo d 0 0 0 ⟨#[48]⟩ z has := ⟨h, by decide, by decide, by decide, zero_sec, hz⟩
theorem date_of {y mo d : Nat} (h : (decide (1 ≤ y ∧ y ≤ 9999) && decide (1 ≤ mo ∧ mo ≤ 12) && decide (1 ≤ d ∧ d ≤ dim y mo)) = true) : DateOk y mo d := by
  simp only [Bool.and_eq_true, decide_eq_true_eq] at h
  exact ⟨h.1.1.1, h.1.1.2, h.1.2.1, h.1.2.2, h.2.1, h.2.2⟩
theorem exW_ok (w : World) (hg : GrT w) : Calls Tryz.prog 16 #[.int .i64 8, .string exW] w fun e w' => e = .returned (.tuple #[momV 2026 11 17 0 0 ⟨#[48]⟩ (-480) true, .int .i64 0]) ∧ Below w.heap.size w w' := by
  have k16 : MomOk 2026 11 16 0 0 0 ⟨#[48]⟩ (-480) true := mom_zero (date_of (by decide)) (by decide)
  have k17 : MomOk 2026 11 17 0 0 0 ⟨#[48]⟩ (-480) true := mom_zero (date_of (by decide)) (by decide)
  refine (parse_later exW _ exW_parts (-480) true exW_zone ⟨rfl, rfl, rfl⟩ ⟨#[48]⟩ rfl 0 k16 (by decide) w hg).mono ?_
  rintro e w' ⟨Y, M, D, H, I, m6, S6, hk, hl, rfl, hb⟩
  obtain ⟨rfl, rfl, rfl, rfl, rfl, rfl, rfl⟩ := localN_inj hk k17 (hl.trans (by decide))
  exact ⟨rfl, hb⟩
set_option maxRecDepth 100000 in
set_option maxHeartbeats 4000000 in
theorem at_ti (y mo d h mi : Int) (S : ByteArray) (w : World) : Calls Tryz.prog 36 #[.int .i64 y, .int .i64 mo, .int .i64 d, .int .i64 h, .int .i64 mi, .string S] w fun e w' => e = .returned (momV y mo d h mi S 0 false) ∧ Below w.heap.size w w' := by
  unfold momV
  go_enter Tryz.func36, Tryz.ntmps36
  go_wp2_with fail
  exact bodyPost_ret (v := .agg #[.int .i64 y, .int .i64 mo, .int .i64 d, .int .i64 h, .int .i64 mi, .string S, .int .i64 0, .bool false]) (by simp [results, Tryz.results36, go_sem]) rfl ⟨rfl, (Below.refl _ _).alloc (Nat.le_refl _) _⟩
theorem exW_text (w : World) (hg : GrT w) : Calls Tryz.prog 19 #[.int .i64 7, momV 2026 11 17 0 0 ⟨#[48]⟩ (-480) true] w fun e w' => e = .returned (.tuple #[.string ⟨#[48, 48, 58, 48, 48, 58, 48, 48, 45, 48, 56, 58, 48, 48]⟩, .int .i64 0]) ∧ Below w.heap.size w w' :=
  text_ok 7 (.inr (.inl rfl)) 2026 11 17 0 0 0 ⟨#[48]⟩ (-480) true (mom_zero (date_of (by decide)) (by decide)) ⟨#[48, 48, 58, 48, 48, 58, 48, 48, 45, 48, 56, 58, 48, 48]⟩ (by decide +kernel) w hg
theorem exW_months (w : World) (hg : GrT w) : Calls Tryz.prog 25 #[momV 2024 1 31 0 0 ⟨#[48]⟩ 0 false, .int .i64 1] w fun e w' => e = .returned (.tuple #[momV 2024 2 29 0 0 ⟨#[48]⟩ 0 false, .int .i64 0]) ∧ Below w.heap.size w w' :=
  addMon_ok 2024 1 31 0 0 0 ⟨#[48]⟩ 0 false (mom_zero (date_of (by decide)) (by decide)) 1 24277 (by decide) (by decide) w hg
theorem exW_day (w : World) (hg : GrT w) : Calls Tryz.prog 23 #[momV 2026 11 17 0 0 ⟨#[48]⟩ (-480) true] w fun e w' => e = .returned (.int .i64 2) ∧ Below w.heap.size w w' :=
  weekday_ok 2026 11 17 0 0 0 ⟨#[48]⟩ (-480) true (mom_zero (date_of (by decide)) (by decide)) w hg
set_option maxRecDepth 100000 in
set_option maxHeartbeats 8000000 in
theorem works_ti (w : World) (hg : GrT w) : Calls Tryz.prog 15 #[] w fun e w' => e = .returned (.bool true) ∧ Below w.heap.size w w' := by
  have HG := Lib.hid hg
  have c1 := exW_ok w hg
  clear hg
  go_enter Tryz.func15, Tryz.ntmps15
  go_wp2_with fail
  refine c1.mono ?_
  rintro e w1 ⟨rfl, b1⟩
  unfold momV
  clear c1
  have mA := MomAt.new w1 2026 11 17 0 0 ⟨#[48]⟩ (-480) true
  have bA : Below w.heap.size w (w1.alloc (.cells #[.int .i64 2026, .int .i64 11, .int .i64 17, .int .i64 0, .int .i64 0, .string ⟨#[48]⟩, .int .i64 (-480), .bool true] 24)) := b1.alloc b1.size _
  obtain ⟨W2, hW2⟩ : ∃ W, w1.alloc (.cells #[.int .i64 2026, .int .i64 11, .int .i64 17, .int .i64 0, .int .i64 0, .string ⟨#[48]⟩, .int .i64 (-480), .bool true] 24) = W := ⟨_, rfl⟩
  rw [hW2] at mA bA
  have HW2 := Lib.hid hW2
  have MA := Lib.hid mA
  clear hW2 mA
  go_wp2_with fail
  rw [HW2.out]
  refine (at_ti 2026 11 17 0 0 ⟨#[48]⟩ W2).mono ?_
  rintro e w3 ⟨rfl, b3⟩
  unfold momV
  have bw3 := bA.trans (b3.mono bA.size)
  have mA3 := MA.out.later b3
  have mB := MomAt.new w3 2026 11 17 0 0 ⟨#[48]⟩ (-480) true
  have b4 : Below w3.heap.size w3 (w3.alloc (.cells #[.int .i64 2026, .int .i64 11, .int .i64 17, .int .i64 0, .int .i64 0, .string ⟨#[48]⟩, .int .i64 (-480), .bool true] 24)) := (Below.refl _ _).alloc (Nat.le_refl _) _
  obtain ⟨W4, hW4⟩ : ∃ W, w3.alloc (.cells #[.int .i64 2026, .int .i64 11, .int .i64 17, .int .i64 0, .int .i64 0, .string ⟨#[48]⟩, .int .i64 (-480), .bool true] 24) = W := ⟨_, rfl⟩
  rw [hW4] at mB b4
  have mA4 := mA3.later b4
  have bw4 := bw3.trans (b4.mono bw3.size)
  have HW4 := Lib.hid hW4
  have MB := Lib.hid mB
  have MA := Lib.hid mA4
  have cT := exW_text W4 (HG.out.later bw4)
  obtain ⟨ca0, ca1, ca2, ca3, ca4, ca5, ca6, ca7, _⟩ := mA4
  clear hW4 mB mA3 b3 b4
  go_upto_region 4 with fail
  rw [HW4.out]
  go_wp2_with fail
  refine cT.mono ?_
  rintro e w5 ⟨rfl, b5⟩
  have bw5 := bw4.trans (b5.mono bw4.size)
  have MA := Lib.hid (MA.out.later b5)
  have MB := Lib.hid (MB.out.later b5)
  clear cT b5 ca0 ca1 ca2 ca3 ca4 ca5 ca6 ca7
  go_wp2_with fail
  refine (at_ti 2024 1 31 0 0 ⟨#[48]⟩ w5).mono ?_
  rintro e w6 ⟨rfl, b6⟩
  have bw6 := bw5.trans (b6.mono bw5.size)
  have MA := Lib.hid (MA.out.later b6)
  have MB := Lib.hid (MB.out.later b6)
  have cM := exW_months w6 (HG.out.later bw6)
  go_wp2_with fail
  refine cM.mono ?_
  rintro e w7 ⟨rfl, b7⟩
  unfold momV
  have bw7 := bw6.trans (b7.mono bw6.size)
  have mA7 := MA.out.later b7
  have mB7 := MB.out.later b7
  have mC := MomAt.new w7 2024 2 29 0 0 ⟨#[48]⟩ 0 false
  have b8 : Below w7.heap.size w7 (w7.alloc (.cells #[.int .i64 2024, .int .i64 2, .int .i64 29, .int .i64 0, .int .i64 0, .string ⟨#[48]⟩, .int .i64 0, .bool false] 24)) := (Below.refl _ _).alloc (Nat.le_refl _) _
  obtain ⟨W8, hW8⟩ : ∃ W, w7.alloc (.cells #[.int .i64 2024, .int .i64 2, .int .i64 29, .int .i64 0, .int .i64 0, .string ⟨#[48]⟩, .int .i64 0, .bool false] 24) = W := ⟨_, rfl⟩
  rw [hW8] at mC b8
  have bw8 := bw7.trans (b8.mono bw7.size)
  have mA8 := mA7.later b8
  have mB8 := mB7.later b8
  have HW8 := Lib.hid hW8
  have MA := Lib.hid mA8
  have MB := Lib.hid mB8
  have MC := Lib.hid mC
  have hD := HG.out.later bw8
  have cA : ∀ W, Below W8.heap.size W8 W → Calls Tryz.prog 36 #[.int .i64 2024, .int .i64 2, .int .i64 29, .int .i64 0, .int .i64 0, .string ⟨#[48]⟩] W fun e w' => e = .returned (.agg #[.int .i64 2024, .int .i64 2, .int .i64 29, .int .i64 0, .int .i64 0, .string ⟨#[48]⟩, .int .i64 0, .bool false]) ∧ Below W8.heap.size W8 w' := fun W hW => (at_ti 2024 2 29 0 0 ⟨#[48]⟩ W).mono fun _ _ r => ⟨r.1, hW.trans (r.2.mono hW.size)⟩
  have cD : ∀ W, Below W8.heap.size W8 W → Calls Tryz.prog 23 #[.agg #[.int .i64 2026, .int .i64 11, .int .i64 17, .int .i64 0, .int .i64 0, .string ⟨#[48]⟩, .int .i64 (-480), .bool true]] W fun e w' => e = .returned (.int .i64 2) ∧ Below W8.heap.size W8 w' := fun W hW => (exW_day W (hD.later hW)).mono fun _ _ r => ⟨r.1, hW.trans (r.2.mono hW.size)⟩
  have bD0 : Below W8.heap.size W8 W8.drew := (Below.refl _ _).drew
  obtain ⟨ca0, ca1, ca2, ca3, ca4, ca5, ca6, ca7, _⟩ := mA8
  obtain ⟨cb0, cb1, cb2, cb3, cb4, cb5, cb6, cb7, _⟩ := mB8
  obtain ⟨cc0, cc1, cc2, cc3, cc4, cc5, cc6, cc7, _⟩ := mC
  clear hW8 mA7 mB7 cM b6 b7 b8 hD
  go_upto_region 6 with fail
  rw [HW8.out]
  go_region_held3 (fun w' => w'.cell? ⟨w1.heap.size, 0, none⟩ = some (.int .i64 2026) ∧ w'.cell? ⟨w1.heap.size, 1, none⟩ = some (.int .i64 11) ∧ w'.cell? ⟨w1.heap.size, 2, none⟩ = some (.int .i64 17) ∧ w'.cell? ⟨w1.heap.size, 3, none⟩ = some (.int .i64 0) ∧ w'.cell? ⟨w1.heap.size, 4, none⟩ = some (.int .i64 0) ∧ w'.cell? ⟨w1.heap.size, 5, none⟩ = some (.string ⟨#[48]⟩) ∧ w'.cell? ⟨w1.heap.size, 6, none⟩ = some (.int .i64 (-480)) ∧ w'.cell? ⟨w1.heap.size, 7, none⟩ = some (.bool true) ∧ w'.cell? ⟨w3.heap.size, 0, none⟩ = some (.int .i64 2026) ∧ w'.cell? ⟨w3.heap.size, 1, none⟩ = some (.int .i64 11) ∧ w'.cell? ⟨w3.heap.size, 2, none⟩ = some (.int .i64 17) ∧ w'.cell? ⟨w3.heap.size, 3, none⟩ = some (.int .i64 0) ∧ w'.cell? ⟨w3.heap.size, 4, none⟩ = some (.int .i64 0) ∧ w'.cell? ⟨w3.heap.size, 5, none⟩ = some (.string ⟨#[48]⟩) ∧ w'.cell? ⟨w3.heap.size, 6, none⟩ = some (.int .i64 (-480)) ∧ w'.cell? ⟨w3.heap.size, 7, none⟩ = some (.bool true) ∧ w'.cell? ⟨w7.heap.size, 0, none⟩ = some (.int .i64 2024) ∧ w'.cell? ⟨w7.heap.size, 1, none⟩ = some (.int .i64 2) ∧ w'.cell? ⟨w7.heap.size, 2, none⟩ = some (.int .i64 29) ∧ w'.cell? ⟨w7.heap.size, 3, none⟩ = some (.int .i64 0) ∧ w'.cell? ⟨w7.heap.size, 4, none⟩ = some (.int .i64 0) ∧ w'.cell? ⟨w7.heap.size, 5, none⟩ = some (.string ⟨#[48]⟩) ∧ w'.cell? ⟨w7.heap.size, 6, none⟩ = some (.int .i64 0) ∧ w'.cell? ⟨w7.heap.size, 7, none⟩ = some (.bool false)) (exact ⟨ca0, ca1, ca2, ca3, ca4, ca5, ca6, ca7, cb0, cb1, cb2, cb3, cb4, cb5, cb6, cb7, cc0, cc1, cc2, cc3, cc4, cc5, cc6, cc7⟩) (first | (go_at_call 36; (with_reducible refine (cA _ bD0).mono ?_); rintro e wX ⟨rfl, bX⟩; have ca0 := (MA.out.later bX).c0; have ca1 := (MA.out.later bX).c1; have ca2 := (MA.out.later bX).c2; have ca3 := (MA.out.later bX).c3; have ca4 := (MA.out.later bX).c4; have ca5 := (MA.out.later bX).c5; have ca6 := (MA.out.later bX).c6; have ca7 := (MA.out.later bX).c7; have cb0 := (MB.out.later bX).c0; have cb1 := (MB.out.later bX).c1; have cb2 := (MB.out.later bX).c2; have cb3 := (MB.out.later bX).c3; have cb4 := (MB.out.later bX).c4; have cb5 := (MB.out.later bX).c5; have cb6 := (MB.out.later bX).c6; have cb7 := (MB.out.later bX).c7; have cc0 := (MC.out.later bX).c0; have cc1 := (MC.out.later bX).c1; have cc2 := (MC.out.later bX).c2; have cc3 := (MC.out.later bX).c3; have cc4 := (MC.out.later bX).c4; have cc5 := (MC.out.later bX).c5; have cc6 := (MC.out.later bX).c6; have cc7 := (MC.out.later bX).c7) | (go_at_call 23; (with_reducible refine (cD _ bX).mono ?_); rintro e wY ⟨rfl, bY⟩; have ca0 := (MA.out.later bY).c0; have ca1 := (MA.out.later bY).c1; have ca2 := (MA.out.later bY).c2; have ca3 := (MA.out.later bY).c3; have ca4 := (MA.out.later bY).c4; have ca5 := (MA.out.later bY).c5; have ca6 := (MA.out.later bY).c6; have ca7 := (MA.out.later bY).c7; have cb0 := (MB.out.later bY).c0; have cb1 := (MB.out.later bY).c1; have cb2 := (MB.out.later bY).c2; have cb3 := (MB.out.later bY).c3; have cb4 := (MB.out.later bY).c4; have cb5 := (MB.out.later bY).c5; have cb6 := (MB.out.later bY).c6; have cb7 := (MB.out.later bY).c7; have cc0 := (MC.out.later bY).c0; have cc1 := (MC.out.later bY).c1; have cc2 := (MC.out.later bY).c2; have cc3 := (MC.out.later bY).c3; have cc4 := (MC.out.later bY).c4; have cc5 := (MC.out.later bY).c5; have cc6 := (MC.out.later bY).c6; have cc7 := (MC.out.later bY).c7))
  all_goals
    go_wp2_with fail
    go_ret
    exact ⟨rfl, bw8.trans (bY.mono bw8.size)⟩
end Go.Proofs.YtgmnjghbafbopaaGreatDoor

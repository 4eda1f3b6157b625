/- Dates: Parse where all is well. -/
import Derived.Test.YtgmnjghbafbopaaGreatDoorMTiPars
import Derived.Deep.Cut
import Derived.Deep.CutRange
namespace Go.Proofs.YtgmnjghbafbopaaGreatDoor
open Go.RowKit Go.Lib

set_option maxRecDepth 100000 in
set_option maxHeartbeats 16000000 in
theorem parse_ok (k : Int) (hk : k = 6 ∨ k = 7 ∨ k = 8) (s : ByteArray) (P : PartsT) (hP : partsT k s.data.toList = some P) (zn : Int) (has : Bool) (hz : zoneR P.zone = (zn, has, true)) (hmid : ¬ (P.h = 24 ∧ P.mi = 0 ∧ P.sec = [48])) (hv : validB (P.y : Int) (P.mo : Int) (P.d : Int) (P.h : Int) (P.mi : Int) P.sec zn has = true) (w : World) (hg : GrT w) :
    Calls Tryz.prog 16 #[.int .i64 k, .string s] w fun e w' => ∃ S : ByteArray, S.data.toList = P.sec ∧ e = .returned (.tuple #[momV (P.y : Int) (P.mo : Int) (P.d : Int) (P.h : Int) (P.mi : Int) S zn has, .int .i64 0]) ∧ Below w.heap.size w w' := by
  have hmf : ∀ (fn : Fn) (first cap : Array Value) (w : World), (Instr.makeFunc fn first cap).run Tryz.prog w = .ok (.func fn first cap) w := fun _ _ _ _ => rfl
  have cK := fun W => isKind_ti k true (decide_eq_true hk) W
  have p0 := PV.new w
  obtain ⟨V0, hV0⟩ : ∃ W, (w.alloc (.cells #[.int .i64 0, .int .i64 0, .int .i64 0, .int .i64 0, .int .i64 0, .string ⟨#[]⟩, .int .i64 0, .bool false] 24)).alloc (.cells #[.int .i64 0] 25) = W := ⟨_, rfl⟩
  rw [hV0] at p0
  have HV0 := Lib.hid hV0
  have P0 := Lib.hid p0
  have HG := Lib.hid hg
  have cP := parts_ti k hk s V0 (hg.later p0.b)
  clear hV0 hg p0
  obtain ⟨hzf, hsl⟩ := parts_props hP
  rw [hP] at cP
  obtain ⟨b1, hb1⟩ : ∃ b, decide (P.h = 24) = b := ⟨_, rfl⟩
  obtain ⟨b2, hb2⟩ : ∃ b, decide (P.mi = 0) = b := ⟨_, rfl⟩
  obtain ⟨b3, hb3⟩ : ∃ b, (P.sec == [48]) = b := ⟨_, rfl⟩
  have hbb : (b1 && b2 && b3) = false := by
    refine Bool.eq_false_iff.2 (fun q => hmid ?_)
    rw [Bool.and_eq_true, Bool.and_eq_true] at q
    obtain ⟨⟨q1, q2⟩, q3⟩ := q
    subst q1; subst q2; subst q3
    exact ⟨of_decide_eq_true hb1, of_decide_eq_true hb2, beq_iff_eq.1 hb3⟩
  have hz1 : ((P.h : Int) == 24) = b1 := by rw [← hb1]; exact beq24 _
  have hz2 : ((P.mi : Int) == 0) = b2 := by rw [← hb2]; exact beq00 _
  clear hmid hb1 hb2
  clear hk hP
  go_enter_defers Tryz.func16, Tryz.ntmps16
  go_wp2_with fail
  refine (cK _).mono ?_
  rintro e w1 ⟨rfl, rfl⟩
  go_wp2_with fail
  rw [HV0.out]
  refine cP.mono ?_
  rintro e w2 ⟨S, Z, hS, hZ, rfl, b2⟩
  unfold momV
  have p2 := P0.out.later b2
  have hS9 : S.size ≤ 1000 := by rw [← bsize, hS]; omega
  rw [← hZ] at hz hzf
  rw [← hS] at hv
  have sb : (S.toList == [48]) = b3 := by rw [ByteArray.toList_eq, hS]; exact hb3
  obtain ⟨y, ey⟩ : ∃ y, P.y = y := ⟨_, rfl⟩
  obtain ⟨mo, em⟩ : ∃ y, P.mo = y := ⟨_, rfl⟩
  obtain ⟨d, ed⟩ : ∃ y, P.d = y := ⟨_, rfl⟩
  obtain ⟨h, eh⟩ : ∃ y, P.h = y := ⟨_, rfl⟩
  obtain ⟨mi, ei⟩ : ∃ y, P.mi = y := ⟨_, rfl⟩
  rw [ey, em, ed, eh, ei] at hv
  rw [eh] at hz1
  rw [ei] at hz2
  rw [ey, em, ed, eh, ei]
  have HS := Lib.hid hS
  obtain ⟨V1, hV1, p1⟩ := p2.all (y : Int) (mo : Int) (d : Int) (h : Int) (mi : Int) S 0 false
  have HV1 := Lib.hid hV1
  have P1 := Lib.hid p1
  obtain ⟨c0, c1, c2, c3, c4, c5, c6, c7, f0, f1, f2, f3, f4, f5, f6, f7, lt0⟩ := p2.m
  clear hV1 p1 p2 P0 b2 cP hS hZ
  go_upto_region 5 with fail
  rw [HV1.out]
  clear c0 c1 c2 c3 c4 c5 c6 c7 f0 f1 f2 f3 f4 f5 f6 f7 lt0
  obtain ⟨c0, c1, c2, c3, c4, c5, c6, c7, f0, f1, f2, f3, f4, f5, f6, f7, lt0⟩ := P1.out.m
  go_cut [7] from 20 to 32 (fun s7 wx => s7 = .bool false ∧ wx = V1)
  case first =>
    cases b1 with
    | false => (go_wp2_with fail; go_meet; exact ⟨rfl, rfl⟩)
    | true =>
      cases b2 with
      | false => (go_wp2_with fail; go_meet; exact ⟨rfl, rfl⟩)
      | true =>
        cases b3 with
        | false => (go_wp2_with fail; go_meet; exact ⟨rfl, rfl⟩)
        | true => cases hbb
  case rest =>
  obtain ⟨rfl, hwc⟩ := hcut
  rw [hwc]
  clear hwc
  go_upto_region 8 with fail
  clear c0 c1 c2 c3 c4 c5 c6 c7 f0 f1 f2 f3 f4 f5 f6 f7 lt0
  have cZ := inZone_ti (y : Int) (mo : Int) (d : Int) (h : Int) (mi : Int) S Z hzf zn has true hz V1
  unfold momV at cZ
  obtain ⟨c0, c1, c2, c3, c4, c5, c6, c7, f0, f1, f2, f3, f4, f5, f6, f7, lt0⟩ := P1.out.m
  clear hz hzf
  go_wp2_with fail
  refine cZ.mono ?_
  rintro e w3 ⟨rfl, b3x⟩
  have p3 := P1.out.later b3x
  obtain ⟨V3, hV3, p4⟩ := p3.all (y : Int) (mo : Int) (d : Int) (h : Int) (mi : Int) S zn has
  have HV3 := Lib.hid hV3
  have P4 := Lib.hid p4
  clear c0 c1 c2 c3 c4 c5 c6 c7 f0 f1 f2 f3 f4 f5 f6 f7 lt0
  obtain ⟨c0, c1, c2, c3, c4, c5, c6, c7, f0, f1, f2, f3, f4, f5, f6, f7, lt0⟩ := p3.m
  clear hV3 p4 p3 b3x cZ
  go_upto_region 9 with fail
  rw [HV3.out]
  clear c0 c1 c2 c3 c4 c5 c6 c7 f0 f1 f2 f3 f4 f5 f6 f7 lt0
  have cV := isValid_ti (y : Int) (mo : Int) (d : Int) (h : Int) (mi : Int) S zn has hS9 V3 (HG.out.later P4.out.b)
  rw [hv] at cV
  unfold momV at cV
  obtain ⟨c0, c1, c2, c3, c4, c5, c6, c7, f0, f1, f2, f3, f4, f5, f6, f7, lt0⟩ := P4.out.m
  clear hv
  go_wp2_with fail
  refine cV.mono ?_
  rintro e w5 ⟨rfl, b5⟩
  have PQ := Lib.hid (P4.out.later b5)
  clear c0 c1 c2 c3 c4 c5 c6 c7 f0 f1 f2 f3 f4 f5 f6 f7 lt0
  clear b5 cV
  obtain ⟨X0, hX0, pX0⟩ := PQ.out.all (y : Int) (mo : Int) (d : Int) (h : Int) (mi : Int) S zn has
  have HX0 := Lib.hid hX0
  obtain ⟨X, hX⟩ : ∃ X, X0.setCell ⟨w.heap.size + 1, 0, none⟩ (.int .i64 0) = X := ⟨_, rfl⟩
  have pX := pX0.err 0
  rw [hX] at pX
  have HX := Lib.hid hX
  have PX := Lib.hid pX
  obtain ⟨c0, c1, c2, c3, c4, c5, c6, c7, f0, f1, f2, f3, f4, f5, f6, f7, lt0⟩ := PQ.out.m
  have pc := PQ.out.c
  have pf := PQ.out.f
  clear hX0 pX0 hX pX
  go_wp2_with fail
  try rw [HX0.out, HX.out]
  clear c0 c1 c2 c3 c4 c5 c6 c7 f0 f1 f2 f3 f4 f5 f6 f7 lt0 pc pf
  refine leaves_cons (f := 43) (args := #[.pointer (some ⟨w.heap.size, 0, none⟩), .pointer (some ⟨w.heap.size + 1, 0, none⟩)]) (by simp) (by simp [go_sem]) ?_
  refine (parse_idle _ _ _).mono ?_
  rintro e u' w'' ⟨rfl, rfl, rfl⟩
  try rw [HX0.out, HX.out]
  unfold momV
  obtain ⟨c0, c1, c2, c3, c4, c5, c6, c7, f0, f1, f2, f3, f4, f5, f6, f7, lt0⟩ := PX.out.m
  have pc := PX.out.c
  simp [Leaves, settle, results, Tryz.results16, go_sem, c0, c1, c2, c3, c4, c5, c6, c7, pc]
  exact ⟨S, HS.out, ⟨by rw [ey], by rw [em], by rw [ed], by rw [eh], by rw [ei], rfl⟩, PX.out.b⟩
set_option maxRecDepth 100000 in
set_option maxHeartbeats 16000000 in
theorem parse_ok0 (k : Int) (hk : k = 6 ∨ k = 7 ∨ k = 8) (s : ByteArray) (P : PartsT) (hP : partsT k s.data.toList = some P) (zn : Int) (has : Bool) (hz : zoneR P.zone = (zn, has, true)) (hmid : P.h = 24 ∧ P.mi = 0 ∧ P.sec = [48]) (hv : validB (P.y : Int) (P.mo : Int) (P.d : Int) 0 0 P.sec zn has = true) (hk8 : k ≠ 8) (w : World) (hg : GrT w) :
    Calls Tryz.prog 16 #[.int .i64 k, .string s] w fun e w' => ∃ S : ByteArray, S.data.toList = P.sec ∧ e = .returned (.tuple #[momV (P.y : Int) (P.mo : Int) (P.d : Int) 0 0 S zn has, .int .i64 0]) ∧ Below w.heap.size w w' := by
  have hmf : ∀ (fn : Fn) (first cap : Array Value) (w : World), (Instr.makeFunc fn first cap).run Tryz.prog w = .ok (.func fn first cap) w := fun _ _ _ _ => rfl
  have cK := fun W => isKind_ti k true (decide_eq_true hk) W
  have p0 := PV.new w
  obtain ⟨V0, hV0⟩ : ∃ W, (w.alloc (.cells #[.int .i64 0, .int .i64 0, .int .i64 0, .int .i64 0, .int .i64 0, .string ⟨#[]⟩, .int .i64 0, .bool false] 24)).alloc (.cells #[.int .i64 0] 25) = W := ⟨_, rfl⟩
  rw [hV0] at p0
  have HV0 := Lib.hid hV0
  have P0 := Lib.hid p0
  have HG := Lib.hid hg
  have cP := parts_ti k hk s V0 (hg.later p0.b)
  clear hV0 hg p0
  obtain ⟨hzf, hsl⟩ := parts_props hP
  rw [hP] at cP
  obtain ⟨hh, hm, hsc⟩ := hmid
  rw [hsc] at hv
  clear hk hP
  go_enter_defers Tryz.func16, Tryz.ntmps16
  go_wp2_with fail
  refine (cK _).mono ?_
  rintro e w1 ⟨rfl, rfl⟩
  go_wp2_with fail
  rw [HV0.out]
  refine cP.mono ?_
  rintro e w2 ⟨S, Z, hS, hZ, rfl, b2⟩
  unfold momV
  have p2 := P0.out.later b2
  have hS9 : S.size ≤ 1000 := by rw [← bsize, hS]; omega
  rw [← hZ] at hz hzf
  rw [← hsc, ← hS] at hv
  have sl : S.toList = [48] := by rw [ByteArray.toList_eq, hS, hsc]
  have sb : (S.toList == [48]) = true := by rw [sl]; rfl
  obtain ⟨y, ey⟩ : ∃ y, P.y = y := ⟨_, rfl⟩
  obtain ⟨mo, em⟩ : ∃ y, P.mo = y := ⟨_, rfl⟩
  obtain ⟨d, ed⟩ : ∃ y, P.d = y := ⟨_, rfl⟩
  obtain ⟨h, eh⟩ : ∃ y, P.h = y := ⟨_, rfl⟩
  obtain ⟨mi, ei⟩ : ∃ y, P.mi = y := ⟨_, rfl⟩
  rw [ey, em, ed] at hv
  rw [eh] at hh
  rw [ei] at hm
  subst hh
  subst hm
  rw [ey, em, ed, eh, ei]
  have HS := Lib.hid hS
  obtain ⟨V1, hV1, p1⟩ := p2.all (y : Int) (mo : Int) (d : Int) 24 0 S 0 false
  have HV1 := Lib.hid hV1
  have P1 := Lib.hid p1
  obtain ⟨c0, c1, c2, c3, c4, c5, c6, c7, f0, f1, f2, f3, f4, f5, f6, f7, lt0⟩ := p2.m
  clear hV1 p1 p2 P0 b2 cP hS hZ hsc
  go_upto_region 5 with fail
  rw [HV1.out]
  clear c0 c1 c2 c3 c4 c5 c6 c7 f0 f1 f2 f3 f4 f5 f6 f7 lt0
  obtain ⟨c0, c1, c2, c3, c4, c5, c6, c7, f0, f1, f2, f3, f4, f5, f6, f7, lt0⟩ := P1.out.m
  obtain ⟨V2, hV2, p2⟩ : ∃ X, V1.setCell ⟨w.heap.size, 3, none⟩ (.int .i64 0) = X ∧ PV w X (y : Int) (mo : Int) (d : Int) 0 0 S 0 false 0 := ⟨_, rfl, P1.out.hour 0⟩
  have HV2 := Lib.hid hV2
  have P2 := Lib.hid p2
  clear hV2 p2
  go_upto_region 8 with fail
  rw [HV2.out]
  clear c0 c1 c2 c3 c4 c5 c6 c7 f0 f1 f2 f3 f4 f5 f6 f7 lt0
  have cZ := inZone_ti (y : Int) (mo : Int) (d : Int) 0 0 S Z hzf zn has true hz V2
  unfold momV at cZ
  obtain ⟨c0, c1, c2, c3, c4, c5, c6, c7, f0, f1, f2, f3, f4, f5, f6, f7, lt0⟩ := P2.out.m
  clear hz hzf
  go_wp2_with fail
  refine cZ.mono ?_
  rintro e w3 ⟨rfl, b3x⟩
  have p3 := P2.out.later b3x
  obtain ⟨V3, hV3, p4⟩ := p3.all (y : Int) (mo : Int) (d : Int) 0 0 S zn has
  have HV3 := Lib.hid hV3
  have P4 := Lib.hid p4
  clear c0 c1 c2 c3 c4 c5 c6 c7 f0 f1 f2 f3 f4 f5 f6 f7 lt0
  obtain ⟨c0, c1, c2, c3, c4, c5, c6, c7, f0, f1, f2, f3, f4, f5, f6, f7, lt0⟩ := p3.m
  clear hV3 p4 p3 b3x cZ
  go_upto_region 9 with fail
  rw [HV3.out]
  clear c0 c1 c2 c3 c4 c5 c6 c7 f0 f1 f2 f3 f4 f5 f6 f7 lt0
  have cV := isValid_ti (y : Int) (mo : Int) (d : Int) 0 0 S zn has hS9 V3 (HG.out.later P4.out.b)
  rw [hv] at cV
  unfold momV at cV
  obtain ⟨c0, c1, c2, c3, c4, c5, c6, c7, f0, f1, f2, f3, f4, f5, f6, f7, lt0⟩ := P4.out.m
  clear hv
  go_wp2_with fail
  refine cV.mono ?_
  rintro e w5 ⟨rfl, b5⟩
  have PQ := Lib.hid (P4.out.later b5)
  clear c0 c1 c2 c3 c4 c5 c6 c7 f0 f1 f2 f3 f4 f5 f6 f7 lt0
  clear b5 cV
  obtain ⟨X0, hX0, pX0⟩ := PQ.out.all (y : Int) (mo : Int) (d : Int) 0 0 S zn has
  have HX0 := Lib.hid hX0
  obtain ⟨X, hX⟩ : ∃ X, X0.setCell ⟨w.heap.size + 1, 0, none⟩ (.int .i64 0) = X := ⟨_, rfl⟩
  have pX := pX0.err 0
  rw [hX] at pX
  have HX := Lib.hid hX
  have PX := Lib.hid pX
  obtain ⟨c0, c1, c2, c3, c4, c5, c6, c7, f0, f1, f2, f3, f4, f5, f6, f7, lt0⟩ := PQ.out.m
  have pc := PQ.out.c
  have pf := PQ.out.f
  have hk8b : (k == 8) = false := beq_eq_false_iff_ne.2 hk8
  clear hX0 pX0 hX pX
  go_wp2_with fail
  try rw [HX0.out, HX.out]
  clear c0 c1 c2 c3 c4 c5 c6 c7 f0 f1 f2 f3 f4 f5 f6 f7 lt0 pc pf
  refine leaves_cons (f := 43) (args := #[.pointer (some ⟨w.heap.size, 0, none⟩), .pointer (some ⟨w.heap.size + 1, 0, none⟩)]) (by simp) (by simp [go_sem]) ?_
  refine (parse_idle _ _ _).mono ?_
  rintro e u' w'' ⟨rfl, rfl, rfl⟩
  try rw [HX0.out, HX.out]
  unfold momV
  obtain ⟨c0, c1, c2, c3, c4, c5, c6, c7, f0, f1, f2, f3, f4, f5, f6, f7, lt0⟩ := PX.out.m
  have pc := PX.out.c
  simp [Leaves, settle, results, Tryz.results16, go_sem, c0, c1, c2, c3, c4, c5, c6, c7, pc]
  exact ⟨S, HS.out, ⟨by rw [ey], by rw [em], by rw [ed], rfl⟩, PX.out.b⟩
end Go.Proofs.YtgmnjghbafbopaaGreatDoor

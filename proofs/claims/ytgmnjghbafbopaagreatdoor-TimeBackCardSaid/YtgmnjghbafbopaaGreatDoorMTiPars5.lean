/- Dates: Parse at midnight of the next day. -/
import Derived.Test.YtgmnjghbafbopaaGreatDoorMTiPars
import Derived.Deep.Cut
import Derived.Deep.CutRange
namespace Go.Proofs.YtgmnjghbafbopaaGreatDoor
open Go.RowKit Go.Lib

set_option maxRecDepth 100000 in
set_option maxHeartbeats 16000000 in
theorem parse_range  (s : ByteArray) (P : PartsT) (hP : partsT 8 s.data.toList = some P) (zn : Int) (has : Bool) (hz : zoneR P.zone = (zn, has, true)) (hmid : P.h = 24 ∧ P.mi = 0 ∧ P.sec = [48]) (S0 : ByteArray) (hS0 : S0.data.toList = P.sec) (mu : Nat) (k8 : MomOk P.y P.mo P.d 0 0 mu S0 zn has) (hr : 315537897600000000 ≤ 86400000000 + localN P.y P.mo P.d 0 0 mu) (w : World) (hg : GrT w) :
    Calls Tryz.prog 16 #[.int .i64 8, .string s] w fun e w' => e = .returned (.tuple #[momZ, .int .i64 6]) ∧ Below w.heap.size w w' := by
  obtain ⟨k, hk, ke⟩ : ∃ k : Int, (k = 6 ∨ k = 7 ∨ k = 8) ∧ k = 8 := ⟨8, .inr (.inr rfl), rfl⟩
  rw [← ke] at hP ⊢
  have KE := Lib.hid ke
  clear ke
  have hmf : ∀ (fn : Fn) (first cap : Array Value) (w : World), (Instr.makeFunc fn first cap).run Tryz.prog w = .ok (.func fn first cap) w := fun _ _ _ _ => rfl
  have cK := fun W => isKind_ti k true (decide_eq_true hk) W
  have p0 := PV.new w
  obtain ⟨V0, hV0⟩ : ∃ W, (w.alloc (.cells #[.int .i64 0, .int .i64 0, .int .i64 0, .int .i64 0, .int .i64 0, .string ⟨#[]⟩, .int .i64 0, .bool false] 24)).alloc (.cells #[.int .i64 0] 25) = W := ⟨_, rfl⟩
  rw [hV0] at p0
  have HV0 := Lib.hid hV0
  have P0 := Lib.hid p0
  have HG := Lib.hid hg
  have cP := parts_ti k hk s V0 (hg.later p0.b)
  clear hV0 hg p0
  obtain ⟨hzf, hsl⟩ := parts_props hP
  rw [hP] at cP
  obtain ⟨hh, hm, hsc⟩ := hmid
  clear hk hP
  go_enter_defers Tryz.func16, Tryz.ntmps16
  go_wp2_with fail
  refine (cK _).mono ?_
  rintro e w1 ⟨rfl, rfl⟩
  go_wp2_with fail
  rw [HV0.out]
  refine cP.mono ?_
  rintro e w2 ⟨S, Z, hS, hZ, rfl, b2⟩
  unfold momV
  have p2 := P0.out.later b2
  have hS9 : S.size ≤ 1000 := by rw [← bsize, hS]; omega
  rw [← hZ] at hz hzf
  have e0 : S0 = S := ba_same (by rw [hS, hS0])
  rw [e0] at k8
  clear e0 hS0
  have sl : S.toList = [48] := by rw [ByteArray.toList_eq, hS, hsc]
  have sb : (S.toList == [48]) = true := by rw [sl]; rfl
  obtain ⟨y, ey⟩ : ∃ y, P.y = y := ⟨_, rfl⟩
  obtain ⟨mo, em⟩ : ∃ y, P.mo = y := ⟨_, rfl⟩
  obtain ⟨d, ed⟩ : ∃ y, P.d = y := ⟨_, rfl⟩
  obtain ⟨h, eh⟩ : ∃ y, P.h = y := ⟨_, rfl⟩
  obtain ⟨mi, ei⟩ : ∃ y, P.mi = y := ⟨_, rfl⟩
  rw [ey, em, ed] at k8 hr
  rw [eh] at hh
  rw [ei] at hm
  subst hh
  subst hm
  rw [ey, em, ed, eh, ei]
  obtain ⟨V1, hV1, p1⟩ := p2.all (y : Int) (mo : Int) (d : Int) 24 0 S 0 false
  have HV1 := Lib.hid hV1
  have P1 := Lib.hid p1
  obtain ⟨c0, c1, c2, c3, c4, c5, c6, c7, f0, f1, f2, f3, f4, f5, f6, f7, lt0⟩ := p2.m
  clear hV1 p1 p2 P0 b2 cP hS hZ hsc
  go_upto_region 5 with fail
  rw [HV1.out]
  clear c0 c1 c2 c3 c4 c5 c6 c7 f0 f1 f2 f3 f4 f5 f6 f7 lt0
  obtain ⟨c0, c1, c2, c3, c4, c5, c6, c7, f0, f1, f2, f3, f4, f5, f6, f7, lt0⟩ := P1.out.m
  obtain ⟨V2, hV2, p2⟩ : ∃ X, V1.setCell ⟨w.heap.size, 3, none⟩ (.int .i64 0) = X ∧ PV w X (y : Int) (mo : Int) (d : Int) 0 0 S 0 false 0 := ⟨_, rfl, P1.out.hour 0⟩
  have HV2 := Lib.hid hV2
  have P2 := Lib.hid p2
  clear hV2 p2
  go_upto_region 8 with fail
  rw [HV2.out]
  clear c0 c1 c2 c3 c4 c5 c6 c7 f0 f1 f2 f3 f4 f5 f6 f7 lt0
  have cZ := inZone_ti (y : Int) (mo : Int) (d : Int) 0 0 S Z hzf zn has true hz V2
  unfold momV at cZ
  obtain ⟨c0, c1, c2, c3, c4, c5, c6, c7, f0, f1, f2, f3, f4, f5, f6, f7, lt0⟩ := P2.out.m
  clear hz hzf
  go_wp2_with fail
  refine cZ.mono ?_
  rintro e w3 ⟨rfl, b3x⟩
  have p3 := P2.out.later b3x
  obtain ⟨V3, hV3, p4⟩ := p3.all (y : Int) (mo : Int) (d : Int) 0 0 S zn has
  have HV3 := Lib.hid hV3
  have P4 := Lib.hid p4
  clear c0 c1 c2 c3 c4 c5 c6 c7 f0 f1 f2 f3 f4 f5 f6 f7 lt0
  obtain ⟨c0, c1, c2, c3, c4, c5, c6, c7, f0, f1, f2, f3, f4, f5, f6, f7, lt0⟩ := p3.m
  clear hV3 p4 p3 b3x cZ
  go_upto_region 9 with fail
  rw [HV3.out]
  clear c0 c1 c2 c3 c4 c5 c6 c7 f0 f1 f2 f3 f4 f5 f6 f7 lt0
  have hv : validB (y : Int) (mo : Int) (d : Int) 0 0 S.data.toList zn has = true := k8.valid
  have cV := isValid_ti (y : Int) (mo : Int) (d : Int) 0 0 S zn has hS9 V3 (HG.out.later P4.out.b)
  rw [hv] at cV
  unfold momV at cV
  obtain ⟨c0, c1, c2, c3, c4, c5, c6, c7, f0, f1, f2, f3, f4, f5, f6, f7, lt0⟩ := P4.out.m
  clear hv
  go_wp2_with fail
  refine cV.mono ?_
  rintro e w5 ⟨rfl, b5⟩
  have PQ := Lib.hid (P4.out.later b5)
  clear c0 c1 c2 c3 c4 c5 c6 c7 f0 f1 f2 f3 f4 f5 f6 f7 lt0
  clear b5 cV
  have cT := later_bad y mo d 0 0 mu S zn has k8 86400000000 (.inr (by omega)) w5 (HG.out.later PQ.out.b)
  unfold momZ momV at cT
  obtain ⟨c0, c1, c2, c3, c4, c5, c6, c7, f0, f1, f2, f3, f4, f5, f6, f7, lt0⟩ := PQ.out.m
  have pc := PQ.out.c
  have pf := PQ.out.f
  have ke := KE.out
  subst ke
  clear k8 hr
  go_wp2_with fail
  refine cT.mono ?_
  rintro e w6 ⟨rfl, b6⟩
  have P6 := Lib.hid (PQ.out.later b6)
  clear c0 c1 c2 c3 c4 c5 c6 c7 f0 f1 f2 f3 f4 f5 f6 f7 lt0 pc pf cT b6
  obtain ⟨X0, hX0, pX0⟩ := P6.out.all 0 0 0 0 0 ⟨#[]⟩ 0 false
  have HX0 := Lib.hid hX0
  obtain ⟨X, hX⟩ : ∃ X, X0.setCell ⟨w.heap.size + 1, 0, none⟩ (.int .i64 6) = X := ⟨_, rfl⟩
  have pX := pX0.err 6
  rw [hX] at pX
  have HX := Lib.hid hX
  have PX := Lib.hid pX
  obtain ⟨c0, c1, c2, c3, c4, c5, c6, c7, f0, f1, f2, f3, f4, f5, f6, f7, lt0⟩ := P6.out.m
  have pc := P6.out.c
  have pf := P6.out.f
  clear hX0 pX0 hX pX
  go_wp2_with fail
  try rw [HX0.out, HX.out]
  clear c0 c1 c2 c3 c4 c5 c6 c7 f0 f1 f2 f3 f4 f5 f6 f7 lt0 pc pf
  refine leaves_cons (f := 43) (args := #[.pointer (some ⟨w.heap.size, 0, none⟩), .pointer (some ⟨w.heap.size + 1, 0, none⟩)]) (by simp) (by simp [go_sem]) ?_
  refine (parse_idle _ _ _).mono ?_
  rintro e u' w'' ⟨rfl, rfl, rfl⟩
  try rw [HX0.out, HX.out]
  unfold momZ momV
  obtain ⟨c0, c1, c2, c3, c4, c5, c6, c7, f0, f1, f2, f3, f4, f5, f6, f7, lt0⟩ := PX.out.m
  have pc := PX.out.c
  simp [Leaves, settle, results, Tryz.results16, go_sem, c0, c1, c2, c3, c4, c5, c6, c7, pc]
  exact PX.out.b
set_option maxRecDepth 100000 in
set_option maxHeartbeats 16000000 in
theorem parse_later  (s : ByteArray) (P : PartsT) (hP : partsT 8 s.data.toList = some P) (zn : Int) (has : Bool) (hz : zoneR P.zone = (zn, has, true)) (hmid : P.h = 24 ∧ P.mi = 0 ∧ P.sec = [48]) (S0 : ByteArray) (hS0 : S0.data.toList = P.sec) (mu : Nat) (k8 : MomOk P.y P.mo P.d 0 0 mu S0 zn has) (hr : 86400000000 + localN P.y P.mo P.d 0 0 mu < 315537897600000000) (w : World) (hg : GrT w) :
    Calls Tryz.prog 16 #[.int .i64 8, .string s] w fun e w' => LaterG w (86400000000 + localN P.y P.mo P.d 0 0 mu) zn has e w' := by
  obtain ⟨k, hk, ke⟩ : ∃ k : Int, (k = 6 ∨ k = 7 ∨ k = 8) ∧ k = 8 := ⟨8, .inr (.inr rfl), rfl⟩
  rw [← ke] at hP ⊢
  have KE := Lib.hid ke
  clear ke
  have hmf : ∀ (fn : Fn) (first cap : Array Value) (w : World), (Instr.makeFunc fn first cap).run Tryz.prog w = .ok (.func fn first cap) w := fun _ _ _ _ => rfl
  have cK := fun W => isKind_ti k true (decide_eq_true hk) W
  have p0 := PV.new w
  obtain ⟨V0, hV0⟩ : ∃ W, (w.alloc (.cells #[.int .i64 0, .int .i64 0, .int .i64 0, .int .i64 0, .int .i64 0, .string ⟨#[]⟩, .int .i64 0, .bool false] 24)).alloc (.cells #[.int .i64 0] 25) = W := ⟨_, rfl⟩
  rw [hV0] at p0
  have HV0 := Lib.hid hV0
  have P0 := Lib.hid p0
  have HG := Lib.hid hg
  have cP := parts_ti k hk s V0 (hg.later p0.b)
  clear hV0 hg p0
  obtain ⟨hzf, hsl⟩ := parts_props hP
  rw [hP] at cP
  obtain ⟨hh, hm, hsc⟩ := hmid
  clear hk hP
  go_enter_defers Tryz.func16, Tryz.ntmps16
  go_wp2_with fail
  refine (cK _).mono ?_
  rintro e w1 ⟨rfl, rfl⟩
  go_wp2_with fail
  rw [HV0.out]
  refine cP.mono ?_
  rintro e w2 ⟨S, Z, hS, hZ, rfl, b2⟩
  unfold momV
  have p2 := P0.out.later b2
  have hS9 : S.size ≤ 1000 := by rw [← bsize, hS]; omega
  rw [← hZ] at hz hzf
  have e0 : S0 = S := ba_same (by rw [hS, hS0])
  rw [e0] at k8
  clear e0 hS0
  have sl : S.toList = [48] := by rw [ByteArray.toList_eq, hS, hsc]
  have sb : (S.toList == [48]) = true := by rw [sl]; rfl
  obtain ⟨y, ey⟩ : ∃ y, P.y = y := ⟨_, rfl⟩
  obtain ⟨mo, em⟩ : ∃ y, P.mo = y := ⟨_, rfl⟩
  obtain ⟨d, ed⟩ : ∃ y, P.d = y := ⟨_, rfl⟩
  obtain ⟨h, eh⟩ : ∃ y, P.h = y := ⟨_, rfl⟩
  obtain ⟨mi, ei⟩ : ∃ y, P.mi = y := ⟨_, rfl⟩
  rw [ey, em, ed] at k8 hr
  rw [eh] at hh
  rw [ei] at hm
  subst hh
  subst hm
  rw [ey, em, ed, eh, ei]
  obtain ⟨V1, hV1, p1⟩ := p2.all (y : Int) (mo : Int) (d : Int) 24 0 S 0 false
  have HV1 := Lib.hid hV1
  have P1 := Lib.hid p1
  obtain ⟨c0, c1, c2, c3, c4, c5, c6, c7, f0, f1, f2, f3, f4, f5, f6, f7, lt0⟩ := p2.m
  clear hV1 p1 p2 P0 b2 cP hS hZ hsc
  go_upto_region 5 with fail
  rw [HV1.out]
  clear c0 c1 c2 c3 c4 c5 c6 c7 f0 f1 f2 f3 f4 f5 f6 f7 lt0
  obtain ⟨c0, c1, c2, c3, c4, c5, c6, c7, f0, f1, f2, f3, f4, f5, f6, f7, lt0⟩ := P1.out.m
  obtain ⟨V2, hV2, p2⟩ : ∃ X, V1.setCell ⟨w.heap.size, 3, none⟩ (.int .i64 0) = X ∧ PV w X (y : Int) (mo : Int) (d : Int) 0 0 S 0 false 0 := ⟨_, rfl, P1.out.hour 0⟩
  have HV2 := Lib.hid hV2
  have P2 := Lib.hid p2
  clear hV2 p2
  go_upto_region 8 with fail
  rw [HV2.out]
  clear c0 c1 c2 c3 c4 c5 c6 c7 f0 f1 f2 f3 f4 f5 f6 f7 lt0
  have cZ := inZone_ti (y : Int) (mo : Int) (d : Int) 0 0 S Z hzf zn has true hz V2
  unfold momV at cZ
  obtain ⟨c0, c1, c2, c3, c4, c5, c6, c7, f0, f1, f2, f3, f4, f5, f6, f7, lt0⟩ := P2.out.m
  clear hz hzf
  go_wp2_with fail
  refine cZ.mono ?_
  rintro e w3 ⟨rfl, b3x⟩
  have p3 := P2.out.later b3x
  obtain ⟨V3, hV3, p4⟩ := p3.all (y : Int) (mo : Int) (d : Int) 0 0 S zn has
  have HV3 := Lib.hid hV3
  have P4 := Lib.hid p4
  clear c0 c1 c2 c3 c4 c5 c6 c7 f0 f1 f2 f3 f4 f5 f6 f7 lt0
  obtain ⟨c0, c1, c2, c3, c4, c5, c6, c7, f0, f1, f2, f3, f4, f5, f6, f7, lt0⟩ := p3.m
  clear hV3 p4 p3 b3x cZ
  go_upto_region 9 with fail
  rw [HV3.out]
  clear c0 c1 c2 c3 c4 c5 c6 c7 f0 f1 f2 f3 f4 f5 f6 f7 lt0
  have hv : validB (y : Int) (mo : Int) (d : Int) 0 0 S.data.toList zn has = true := k8.valid
  have cV := isValid_ti (y : Int) (mo : Int) (d : Int) 0 0 S zn has hS9 V3 (HG.out.later P4.out.b)
  rw [hv] at cV
  unfold momV at cV
  obtain ⟨c0, c1, c2, c3, c4, c5, c6, c7, f0, f1, f2, f3, f4, f5, f6, f7, lt0⟩ := P4.out.m
  clear hv
  go_wp2_with fail
  refine cV.mono ?_
  rintro e w5 ⟨rfl, b5⟩
  have PQ := Lib.hid (P4.out.later b5)
  clear c0 c1 c2 c3 c4 c5 c6 c7 f0 f1 f2 f3 f4 f5 f6 f7 lt0
  clear b5 cV
  obtain ⟨t, ht⟩ : ∃ t, 86400000000 + localN y mo d 0 0 mu = t := ⟨_, rfl⟩
  rw [ht] at hr
  have HT := Lib.hid (show t = 86400000000 + localN P.y P.mo P.d 0 0 mu by rw [ey, em, ed]; exact ht.symm)
  have cT := later_ok y mo d 0 0 mu S zn has k8 86400000000 t (by omega) hr w5 (HG.out.later PQ.out.b)
  unfold momV at cT
  obtain ⟨c0, c1, c2, c3, c4, c5, c6, c7, f0, f1, f2, f3, f4, f5, f6, f7, lt0⟩ := PQ.out.m
  have pc := PQ.out.c
  have pf := PQ.out.f
  have ke := KE.out
  subst ke
  clear k8 hr ht
  go_wp2_with fail
  refine cT.mono ?_
  rintro e w6 ⟨Y, M, D, H, I, m6, S6, hk6, hl6, rfl, b6⟩
  unfold momV
  have HK6 := Lib.hid (And.intro hk6 hl6)
  have P6 := Lib.hid (PQ.out.later b6)
  clear c0 c1 c2 c3 c4 c5 c6 c7 f0 f1 f2 f3 f4 f5 f6 f7 lt0 pc pf cT b6 hk6 hl6
  obtain ⟨X0, hX0, pX0⟩ := P6.out.all (Y : Int) (M : Int) (D : Int) (H : Int) (I : Int) S6 zn has
  have HX0 := Lib.hid hX0
  obtain ⟨X, hX⟩ : ∃ X, X0.setCell ⟨w.heap.size + 1, 0, none⟩ (.int .i64 0) = X := ⟨_, rfl⟩
  have pX := pX0.err 0
  rw [hX] at pX
  have HX := Lib.hid hX
  have PX := Lib.hid pX
  obtain ⟨c0, c1, c2, c3, c4, c5, c6, c7, f0, f1, f2, f3, f4, f5, f6, f7, lt0⟩ := P6.out.m
  have pc := P6.out.c
  have pf := P6.out.f
  clear hX0 pX0 hX pX
  go_wp2_with fail
  try rw [HX0.out, HX.out]
  clear c0 c1 c2 c3 c4 c5 c6 c7 f0 f1 f2 f3 f4 f5 f6 f7 lt0 pc pf
  refine leaves_cons (f := 43) (args := #[.pointer (some ⟨w.heap.size, 0, none⟩), .pointer (some ⟨w.heap.size + 1, 0, none⟩)]) (by simp) (by simp [go_sem]) ?_
  refine (parse_idle _ _ _).mono ?_
  rintro e u' w'' ⟨rfl, rfl, rfl⟩
  try rw [HX0.out, HX.out]
  obtain ⟨c0, c1, c2, c3, c4, c5, c6, c7, f0, f1, f2, f3, f4, f5, f6, f7, lt0⟩ := PX.out.m
  have pc := PX.out.c
  simp [Leaves, settle, results, Tryz.results16, go_sem, c0, c1, c2, c3, c4, c5, c6, c7, pc]
  exact ⟨Y, M, D, H, I, m6, S6, HK6.out.1, HK6.out.2.trans HT.out, rfl, PX.out.b⟩
end Go.Proofs.YtgmnjghbafbopaaGreatDoor

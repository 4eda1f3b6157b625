/- Dates: the contract of Adjust. Dates: the contract of Adjust where the zone changes. Dates: the contract of Adjust where the zone changes. -/
import Derived.Test.YtgmnjghbafbopaaGreatDoorMTiAdd
import Derived.Deep.Cut
namespace Go.Proofs.YtgmnjghbafbopaaGreatDoor
open Go.RowKit Go.Lib

set_option maxRecDepth 100000 in
set_option maxHeartbeats 8000000 in
theorem adjust_bad (y mo d h mi : Int) (S : ByteArray) (z : Int) (has : Bool) (hs : S.size ≤ 1000) (hv : validB y mo d h mi S.data.toList z has = false) (zn : Int) (hs2 : Bool) (w : World) (hg : GrT w) :
    Calls Tryz.prog 29 #[momV y mo d h mi S z has, .int .i64 zn, .bool hs2] w fun e w' => e = .returned (.tuple #[momZ, .int .i64 1]) ∧ Below w.heap.size w w' := by
  have cV := fun W hW => isValid_ti y mo d h mi S z has hs W hW
  rw [hv] at cV
  unfold momZ
  unfold momV at cV ⊢
  have b0 : Below w.heap.size w (w.alloc (.cells #[.int .i64 y, .int .i64 mo, .int .i64 d, .int .i64 h, .int .i64 mi, .string S, .int .i64 z, .bool has] 24)) := (Below.refl _ _).alloc (Nat.le_refl _) _
  have m1 := (MomW.new w y mo d h mi S z has).later ((Below.refl _ _).alloc (Nat.le_refl _) (.cells #[.int .i64 0, .int .i64 0, .int .i64 0, .int .i64 0, .int .i64 0, .string ⟨#[]⟩, .int .i64 0, .bool false] 24))
  have r1 := MomW.new (w.alloc (.cells #[.int .i64 y, .int .i64 mo, .int .i64 d, .int .i64 h, .int .i64 mi, .string S, .int .i64 z, .bool has] 24)) 0 0 0 0 0 ⟨#[]⟩ 0 false
  have bw1 : Below w.heap.size w ((w.alloc (.cells #[.int .i64 y, .int .i64 mo, .int .i64 d, .int .i64 h, .int .i64 mi, .string S, .int .i64 z, .bool has] 24)).alloc (.cells #[.int .i64 0, .int .i64 0, .int .i64 0, .int .i64 0, .int .i64 0, .string ⟨#[]⟩, .int .i64 0, .bool false] 24)) := b0.alloc (by simp) _
  obtain ⟨W1, hW1⟩ : ∃ W, (w.alloc (.cells #[.int .i64 y, .int .i64 mo, .int .i64 d, .int .i64 h, .int .i64 mi, .string S, .int .i64 z, .bool has] 24)).alloc (.cells #[.int .i64 0, .int .i64 0, .int .i64 0, .int .i64 0, .int .i64 0, .string ⟨#[]⟩, .int .i64 0, .bool false] 24) = W := ⟨_, rfl⟩
  rw [World.size_alloc] at r1
  rw [hW1] at m1 r1 bw1
  have HW1 := Lib.hid hW1
  clear b0 hW1
  have cV := cV W1 (hg.later bw1)
  have HM := Lib.hid r1
  obtain ⟨c0, c1, c2, c3, c4, c5, c6, c7, f0, f1, f2, f3, f4, f5, f6, f7, _⟩ := m1
  clear hg hv r1
  go_enter Tryz.func29, Tryz.ntmps29
  go_wp2_with fail
  try rw [HW1.out]
  refine cV.mono ?_
  rintro e w2 ⟨rfl, b2⟩
  have r2 := HM.out.later b2
  have bw2 := bw1.trans (b2.mono bw1.size)
  clear c0 c1 c2 c3 c4 c5 c6 c7 f0 f1 f2 f3 f4 f5 f6 f7
  obtain ⟨X, hX, rX, keep, _, _⟩ := (r2).setAll 0 0 0 0 0 ⟨#[]⟩ 0 false
  have bX := keep bw2 (Nat.le_succ _)
  have HX := Lib.hid hX
  have RX := Lib.hid rX
  obtain ⟨j0, j1, j2, j3, j4, j5, j6, j7, g0, g1, g2, g3, g4, g5, g6, g7, _⟩ := r2
  clear hX rX keep
  go_wp2_with fail
  rw [HX.out]
  obtain ⟨i0, i1, i2, i3, i4, i5, i6, i7, _⟩ := RX.out.at
  refine bodyPost_ret (v := .tuple #[.agg #[.int .i64 0, .int .i64 0, .int .i64 0, .int .i64 0, .int .i64 0, .string ⟨#[]⟩, .int .i64 0, .bool false], .int .i64 1]) (by simp [results, Tryz.results29, go_sem, i0, i1, i2, i3, i4, i5, i6, i7]) rfl ⟨rfl, bX⟩
set_option maxRecDepth 100000 in
set_option maxHeartbeats 8000000 in
theorem adjust_zone (y mo d h mi mu : Nat) (S : ByteArray) (z : Int) (has : Bool) (k : MomOk y mo d h mi mu S z has) (zn : Int) (hz : ¬ (-840 ≤ zn ∧ zn ≤ 840)) (w : World) (hg : GrT w) :
    Calls Tryz.prog 29 #[momV (y : Int) (mo : Int) (d : Int) (h : Int) (mi : Int) S z has, .int .i64 zn, .bool true] w (fun e w' => e = .returned (.tuple #[momZ, .int .i64 1]) ∧ Below w.heap.size w w') := by
  have cV := fun W hW => isValid_ti (y : Int) (mo : Int) (d : Int) (h : Int) (mi : Int) S z has (by have := k.size; omega) W hW
  rw [k.valid] at cV
  have cZ := fun W => isZone_ti zn W
  rw [show (decide (-840 ≤ zn) && decide (zn ≤ 840)) = false from Bool.eq_false_iff.2 (fun q => hz (by rw [Bool.and_eq_true] at q; exact ⟨of_decide_eq_true q.1, of_decide_eq_true q.2⟩))] at cZ
  have HG := Lib.hid hg
  try unfold momZ
  unfold momV at cV ⊢
  have b0 : Below w.heap.size w (w.alloc (.cells #[.int .i64 (y : Int), .int .i64 (mo : Int), .int .i64 (d : Int), .int .i64 (h : Int), .int .i64 (mi : Int), .string S, .int .i64 z, .bool has] 24)) := (Below.refl _ _).alloc (Nat.le_refl _) _
  have m1 := (MomW.new w (y : Int) (mo : Int) (d : Int) (h : Int) (mi : Int) S z has).later ((Below.refl _ _).alloc (Nat.le_refl _) (.cells #[.int .i64 0, .int .i64 0, .int .i64 0, .int .i64 0, .int .i64 0, .string ⟨#[]⟩, .int .i64 0, .bool false] 24))
  have r1 := MomW.new (w.alloc (.cells #[.int .i64 (y : Int), .int .i64 (mo : Int), .int .i64 (d : Int), .int .i64 (h : Int), .int .i64 (mi : Int), .string S, .int .i64 z, .bool has] 24)) 0 0 0 0 0 ⟨#[]⟩ 0 false
  have bw1 : Below w.heap.size w ((w.alloc (.cells #[.int .i64 (y : Int), .int .i64 (mo : Int), .int .i64 (d : Int), .int .i64 (h : Int), .int .i64 (mi : Int), .string S, .int .i64 z, .bool has] 24)).alloc (.cells #[.int .i64 0, .int .i64 0, .int .i64 0, .int .i64 0, .int .i64 0, .string ⟨#[]⟩, .int .i64 0, .bool false] 24)) := b0.alloc (by simp) _
  obtain ⟨W1, hW1⟩ : ∃ W, (w.alloc (.cells #[.int .i64 (y : Int), .int .i64 (mo : Int), .int .i64 (d : Int), .int .i64 (h : Int), .int .i64 (mi : Int), .string S, .int .i64 z, .bool has] 24)).alloc (.cells #[.int .i64 0, .int .i64 0, .int .i64 0, .int .i64 0, .int .i64 0, .string ⟨#[]⟩, .int .i64 0, .bool false] 24) = W := ⟨_, rfl⟩
  rw [World.size_alloc] at r1
  rw [hW1] at m1 r1 bw1
  have HW1 := Lib.hid hW1
  clear b0 hW1
  have cV := cV W1 (hg.later bw1)
  have HM := Lib.hid r1
  have ML := Lib.hid m1
  obtain ⟨c0, c1, c2, c3, c4, c5, c6, c7, f0, f1, f2, f3, f4, f5, f6, f7, lt0⟩ := m1
  clear hg r1 k hz
  go_enter Tryz.func29, Tryz.ntmps29
  go_wp2_with fail
  try rw [HW1.out]
  refine cV.mono ?_
  rintro e w2 ⟨rfl, b2⟩
  have r2 := HM.out.later b2
  have m2 := ML.out.later b2
  have bw2 := bw1.trans (b2.mono bw1.size)
  clear c0 c1 c2 c3 c4 c5 c6 c7 f0 f1 f2 f3 f4 f5 f6 f7 lt0 HM ML b2
  obtain ⟨c0, c1, c2, c3, c4, c5, c6, c7, f0, f1, f2, f3, f4, f5, f6, f7, lt0⟩ := id m2
  go_wp2_with fail
  refine (cZ w2).mono ?_
  rintro e w3 ⟨rfl, rfl⟩
  obtain ⟨X, hX, rX, keep, _, _⟩ := (r2).setAll 0 0 0 0 0 ⟨#[]⟩ 0 false
  have bX := keep bw2 (Nat.le_succ _)
  have HX := Lib.hid hX
  have RX := Lib.hid rX
  obtain ⟨j0, j1, j2, j3, j4, j5, j6, j7, g0, g1, g2, g3, g4, g5, g6, g7, _⟩ := r2
  clear hX rX keep
  go_wp2_with fail
  rw [HX.out]
  obtain ⟨i0, i1, i2, i3, i4, i5, i6, i7, _⟩ := RX.out.at
  refine bodyPost_ret (v := .tuple #[.agg #[.int .i64 0, .int .i64 0, .int .i64 0, .int .i64 0, .int .i64 0, .string ⟨#[]⟩, .int .i64 0, .bool false], .int .i64 1]) (by simp [results, Tryz.results29, go_sem, i0, i1, i2, i3, i4, i5, i6, i7]) rfl ⟨rfl, bX⟩
set_option maxRecDepth 100000 in
set_option maxHeartbeats 8000000 in
theorem adjust_bare (y mo d h mi mu : Nat) (S : ByteArray) (z : Int) (has : Bool) (k : MomOk y mo d h mi mu S z has) (zn : Int)  (w : World) (hg : GrT w) :
    Calls Tryz.prog 29 #[momV (y : Int) (mo : Int) (d : Int) (h : Int) (mi : Int) S z has, .int .i64 zn, .bool false] w (fun e w' => e = .returned (.tuple #[momV (y : Int) (mo : Int) (d : Int) (h : Int) (mi : Int) S 0 false, .int .i64 0]) ∧ Below w.heap.size w w') := by
  have cV := fun W hW => isValid_ti (y : Int) (mo : Int) (d : Int) (h : Int) (mi : Int) S z has (by have := k.size; omega) W hW
  rw [k.valid] at cV
  have HG := Lib.hid hg
  try unfold momZ
  unfold momV at cV ⊢
  have b0 : Below w.heap.size w (w.alloc (.cells #[.int .i64 (y : Int), .int .i64 (mo : Int), .int .i64 (d : Int), .int .i64 (h : Int), .int .i64 (mi : Int), .string S, .int .i64 z, .bool has] 24)) := (Below.refl _ _).alloc (Nat.le_refl _) _
  have m1 := (MomW.new w (y : Int) (mo : Int) (d : Int) (h : Int) (mi : Int) S z has).later ((Below.refl _ _).alloc (Nat.le_refl _) (.cells #[.int .i64 0, .int .i64 0, .int .i64 0, .int .i64 0, .int .i64 0, .string ⟨#[]⟩, .int .i64 0, .bool false] 24))
  have r1 := MomW.new (w.alloc (.cells #[.int .i64 (y : Int), .int .i64 (mo : Int), .int .i64 (d : Int), .int .i64 (h : Int), .int .i64 (mi : Int), .string S, .int .i64 z, .bool has] 24)) 0 0 0 0 0 ⟨#[]⟩ 0 false
  have bw1 : Below w.heap.size w ((w.alloc (.cells #[.int .i64 (y : Int), .int .i64 (mo : Int), .int .i64 (d : Int), .int .i64 (h : Int), .int .i64 (mi : Int), .string S, .int .i64 z, .bool has] 24)).alloc (.cells #[.int .i64 0, .int .i64 0, .int .i64 0, .int .i64 0, .int .i64 0, .string ⟨#[]⟩, .int .i64 0, .bool false] 24)) := b0.alloc (by simp) _
  obtain ⟨W1, hW1⟩ : ∃ W, (w.alloc (.cells #[.int .i64 (y : Int), .int .i64 (mo : Int), .int .i64 (d : Int), .int .i64 (h : Int), .int .i64 (mi : Int), .string S, .int .i64 z, .bool has] 24)).alloc (.cells #[.int .i64 0, .int .i64 0, .int .i64 0, .int .i64 0, .int .i64 0, .string ⟨#[]⟩, .int .i64 0, .bool false] 24) = W := ⟨_, rfl⟩
  rw [World.size_alloc] at r1
  rw [hW1] at m1 r1 bw1
  have HW1 := Lib.hid hW1
  clear b0 hW1
  have cV := cV W1 (hg.later bw1)
  have HM := Lib.hid r1
  have ML := Lib.hid m1
  obtain ⟨c0, c1, c2, c3, c4, c5, c6, c7, f0, f1, f2, f3, f4, f5, f6, f7, lt0⟩ := m1
  clear hg r1 k
  go_enter Tryz.func29, Tryz.ntmps29
  go_wp2_with fail
  try rw [HW1.out]
  refine cV.mono ?_
  rintro e w2 ⟨rfl, b2⟩
  have r2 := HM.out.later b2
  have m2 := ML.out.later b2
  have bw2 := bw1.trans (b2.mono bw1.size)
  clear c0 c1 c2 c3 c4 c5 c6 c7 f0 f1 f2 f3 f4 f5 f6 f7 lt0 HM ML b2
  obtain ⟨c0, c1, c2, c3, c4, c5, c6, c7, f0, f1, f2, f3, f4, f5, f6, f7, lt0⟩ := id m2
  obtain ⟨V, hV, v3, keepV, othV, szV⟩ := m2.setZone 0 false
  have rV := r2.other (othV _ (by simp)) (Nat.le_of_eq szV.symm)
  have bV := keepV bw2 (Nat.le_refl _)
  have HV := Lib.hid hV
  obtain ⟨X, hX, rX, keep, _, _⟩ := rV.setAll (y : Int) (mo : Int) (d : Int) (h : Int) (mi : Int) S 0 false
  have bX := keep bV (Nat.le_succ _)
  have HX := Lib.hid hX
  have RX := Lib.hid rX
  obtain ⟨j0, j1, j2, j3, j4, j5, j6, j7, g0, g1, g2, g3, g4, g5, g6, g7, lt1⟩ := r2
  clear hV v3 keepV othV szV rV hX rX keep m2 bV
  go_wp2_with fail
  rw [HV.out, HX.out]
  obtain ⟨i0, i1, i2, i3, i4, i5, i6, i7, _⟩ := RX.out.at
  refine bodyPost_ret (v := .tuple #[.agg #[.int .i64 (y : Int), .int .i64 (mo : Int), .int .i64 (d : Int), .int .i64 (h : Int), .int .i64 (mi : Int), .string S, .int .i64 0, .bool false], .int .i64 0]) (by simp [results, Tryz.results29, go_sem, i0, i1, i2, i3, i4, i5, i6, i7]) rfl ⟨rfl, bX⟩
set_option maxRecDepth 100000 in
set_option maxHeartbeats 8000000 in
theorem adjust_set (y mo d h mi mu : Nat) (S : ByteArray) (z : Int) (k : MomOk y mo d h mi mu S z false) (zn : Int) (hz : -840 ≤ zn ∧ zn ≤ 840) (w : World) (hg : GrT w) :
    Calls Tryz.prog 29 #[momV (y : Int) (mo : Int) (d : Int) (h : Int) (mi : Int) S z false, .int .i64 zn, .bool true] w (fun e w' => e = .returned (.tuple #[momV (y : Int) (mo : Int) (d : Int) (h : Int) (mi : Int) S zn true, .int .i64 0]) ∧ Below w.heap.size w w') := by
  have cV := fun W hW => isValid_ti (y : Int) (mo : Int) (d : Int) (h : Int) (mi : Int) S z false (by have := k.size; omega) W hW
  rw [k.valid] at cV
  have cZ := fun W => isZone_ti zn W
  rw [show (decide (-840 ≤ zn) && decide (zn ≤ 840)) = true by rw [decide_eq_true hz.1, decide_eq_true hz.2]; rfl] at cZ
  have HG := Lib.hid hg
  try unfold momZ
  unfold momV at cV ⊢
  have b0 : Below w.heap.size w (w.alloc (.cells #[.int .i64 (y : Int), .int .i64 (mo : Int), .int .i64 (d : Int), .int .i64 (h : Int), .int .i64 (mi : Int), .string S, .int .i64 z, .bool false] 24)) := (Below.refl _ _).alloc (Nat.le_refl _) _
  have m1 := (MomW.new w (y : Int) (mo : Int) (d : Int) (h : Int) (mi : Int) S z false).later ((Below.refl _ _).alloc (Nat.le_refl _) (.cells #[.int .i64 0, .int .i64 0, .int .i64 0, .int .i64 0, .int .i64 0, .string ⟨#[]⟩, .int .i64 0, .bool false] 24))
  have r1 := MomW.new (w.alloc (.cells #[.int .i64 (y : Int), .int .i64 (mo : Int), .int .i64 (d : Int), .int .i64 (h : Int), .int .i64 (mi : Int), .string S, .int .i64 z, .bool false] 24)) 0 0 0 0 0 ⟨#[]⟩ 0 false
  have bw1 : Below w.heap.size w ((w.alloc (.cells #[.int .i64 (y : Int), .int .i64 (mo : Int), .int .i64 (d : Int), .int .i64 (h : Int), .int .i64 (mi : Int), .string S, .int .i64 z, .bool false] 24)).alloc (.cells #[.int .i64 0, .int .i64 0, .int .i64 0, .int .i64 0, .int .i64 0, .string ⟨#[]⟩, .int .i64 0, .bool false] 24)) := b0.alloc (by simp) _
  obtain ⟨W1, hW1⟩ : ∃ W, (w.alloc (.cells #[.int .i64 (y : Int), .int .i64 (mo : Int), .int .i64 (d : Int), .int .i64 (h : Int), .int .i64 (mi : Int), .string S, .int .i64 z, .bool false] 24)).alloc (.cells #[.int .i64 0, .int .i64 0, .int .i64 0, .int .i64 0, .int .i64 0, .string ⟨#[]⟩, .int .i64 0, .bool false] 24) = W := ⟨_, rfl⟩
  rw [World.size_alloc] at r1
  rw [hW1] at m1 r1 bw1
  have HW1 := Lib.hid hW1
  clear b0 hW1
  have cV := cV W1 (hg.later bw1)
  have HM := Lib.hid r1
  have ML := Lib.hid m1
  obtain ⟨c0, c1, c2, c3, c4, c5, c6, c7, f0, f1, f2, f3, f4, f5, f6, f7, lt0⟩ := m1
  clear hg r1 k hz
  go_enter Tryz.func29, Tryz.ntmps29
  go_wp2_with fail
  try rw [HW1.out]
  refine cV.mono ?_
  rintro e w2 ⟨rfl, b2⟩
  have r2 := HM.out.later b2
  have m2 := ML.out.later b2
  have bw2 := bw1.trans (b2.mono bw1.size)
  clear c0 c1 c2 c3 c4 c5 c6 c7 f0 f1 f2 f3 f4 f5 f6 f7 lt0 HM ML b2
  obtain ⟨c0, c1, c2, c3, c4, c5, c6, c7, f0, f1, f2, f3, f4, f5, f6, f7, lt0⟩ := id m2
  go_wp2_with fail
  refine (cZ w2).mono ?_
  rintro e w3 ⟨rfl, rfl⟩
  obtain ⟨V, hV, v3, keepV, othV, szV⟩ := m2.setZone zn true
  have rV := r2.other (othV _ (by simp)) (Nat.le_of_eq szV.symm)
  have bV := keepV bw2 (Nat.le_refl _)
  have HV := Lib.hid hV
  obtain ⟨X, hX, rX, keep, _, _⟩ := rV.setAll (y : Int) (mo : Int) (d : Int) (h : Int) (mi : Int) S zn true
  have bX := keep bV (Nat.le_succ _)
  have HX := Lib.hid hX
  have RX := Lib.hid rX
  obtain ⟨j0, j1, j2, j3, j4, j5, j6, j7, g0, g1, g2, g3, g4, g5, g6, g7, lt1⟩ := r2
  clear hV v3 keepV othV szV rV hX rX keep m2 bV
  go_wp2_with fail
  rw [HV.out, HX.out]
  obtain ⟨i0, i1, i2, i3, i4, i5, i6, i7, _⟩ := RX.out.at
  refine bodyPost_ret (v := .tuple #[.agg #[.int .i64 (y : Int), .int .i64 (mo : Int), .int .i64 (d : Int), .int .i64 (h : Int), .int .i64 (mi : Int), .string S, .int .i64 zn, .bool true], .int .i64 0]) (by simp [results, Tryz.results29, go_sem, i0, i1, i2, i3, i4, i5, i6, i7]) rfl ⟨rfl, bX⟩
end Go.Proofs.YtgmnjghbafbopaaGreatDoor
namespace Go.Proofs.YtgmnjghbafbopaaGreatDoor
open Go.RowKit Go.Lib

/-- The same moment in another zone. -/
def AdjG (w : World) (t : Nat) (zn : Int) (e : Ending) (w' : World) : Prop :=
  ∃ (Y M D H I mu : Nat) (S : ByteArray), MomOk Y M D H I mu S zn true ∧ localN Y M D H I mu = t ∧ e = .returned (.tuple #[momV (Y : Int) (M : Int) (D : Int) (H : Int) (I : Int) S zn true, .int .i64 0]) ∧ Below w.heap.size w w'
set_option maxRecDepth 100000 in
set_option maxHeartbeats 8000000 in
theorem adjust_ok (y mo d h mi mu : Nat) (S : ByteArray) (z : Int) (k : MomOk y mo d h mi mu S z true) (zn : Int) (hz : -840 ≤ zn ∧ zn ≤ 840) (t : Nat) (hnt : (zn - z) * 60000000 + (localN y mo d h mi mu : Int) = (t : Int)) (ht : t < 315537897600000000) (w : World) (hg : GrT w) :
    Calls Tryz.prog 29 #[momV (y : Int) (mo : Int) (d : Int) (h : Int) (mi : Int) S z true, .int .i64 zn, .bool true] w (AdjG w t zn) := by
  have cV := fun W hW => isValid_ti (y : Int) (mo : Int) (d : Int) (h : Int) (mi : Int) S z true (by have := k.size; omega) W hW
  rw [k.valid] at cV
  have cZ := fun W => isZone_ti zn W
  rw [show (decide (-840 ≤ zn) && decide (zn ≤ 840)) = true by rw [decide_eq_true hz.1, decide_eq_true hz.2]; rfl] at cZ
  have hzz := zone_in k.zone
  have cT := fun W hW => later_ok y mo d h mi mu S z true k ((zn - z) * 60000000) t hnt ht W hW
  unfold momV at cT
  have hz1 := hz.1
  have hz2 := hz.2
  have hz3 := hzz.1
  have hz4 := hzz.2
  have HZ := Lib.hid hz
  have HG := Lib.hid hg
  try unfold momZ
  unfold momV at cV ⊢
  have b0 : Below w.heap.size w (w.alloc (.cells #[.int .i64 (y : Int), .int .i64 (mo : Int), .int .i64 (d : Int), .int .i64 (h : Int), .int .i64 (mi : Int), .string S, .int .i64 z, .bool true] 24)) := (Below.refl _ _).alloc (Nat.le_refl _) _
  have m1 := (MomW.new w (y : Int) (mo : Int) (d : Int) (h : Int) (mi : Int) S z true).later ((Below.refl _ _).alloc (Nat.le_refl _) (.cells #[.int .i64 0, .int .i64 0, .int .i64 0, .int .i64 0, .int .i64 0, .string ⟨#[]⟩, .int .i64 0, .bool false] 24))
  have r1 := MomW.new (w.alloc (.cells #[.int .i64 (y : Int), .int .i64 (mo : Int), .int .i64 (d : Int), .int .i64 (h : Int), .int .i64 (mi : Int), .string S, .int .i64 z, .bool true] 24)) 0 0 0 0 0 ⟨#[]⟩ 0 false
  have bw1 : Below w.heap.size w ((w.alloc (.cells #[.int .i64 (y : Int), .int .i64 (mo : Int), .int .i64 (d : Int), .int .i64 (h : Int), .int .i64 (mi : Int), .string S, .int .i64 z, .bool true] 24)).alloc (.cells #[.int .i64 0, .int .i64 0, .int .i64 0, .int .i64 0, .int .i64 0, .string ⟨#[]⟩, .int .i64 0, .bool false] 24)) := b0.alloc (by simp) _
  obtain ⟨W1, hW1⟩ : ∃ W, (w.alloc (.cells #[.int .i64 (y : Int), .int .i64 (mo : Int), .int .i64 (d : Int), .int .i64 (h : Int), .int .i64 (mi : Int), .string S, .int .i64 z, .bool true] 24)).alloc (.cells #[.int .i64 0, .int .i64 0, .int .i64 0, .int .i64 0, .int .i64 0, .string ⟨#[]⟩, .int .i64 0, .bool false] 24) = W := ⟨_, rfl⟩
  rw [World.size_alloc] at r1
  rw [hW1] at m1 r1 bw1
  have HW1 := Lib.hid hW1
  clear b0 hW1
  have cV := cV W1 (hg.later bw1)
  have HM := Lib.hid r1
  have ML := Lib.hid m1
  obtain ⟨c0, c1, c2, c3, c4, c5, c6, c7, f0, f1, f2, f3, f4, f5, f6, f7, lt0⟩ := m1
  clear hg r1 k hz hnt ht hzz
  go_enter Tryz.func29, Tryz.ntmps29
  go_wp2_with fail
  try rw [HW1.out]
  refine cV.mono ?_
  rintro e w2 ⟨rfl, b2⟩
  have r2 := HM.out.later b2
  have m2 := ML.out.later b2
  have bw2 := bw1.trans (b2.mono bw1.size)
  clear c0 c1 c2 c3 c4 c5 c6 c7 f0 f1 f2 f3 f4 f5 f6 f7 lt0 HM ML b2
  obtain ⟨c0, c1, c2, c3, c4, c5, c6, c7, f0, f1, f2, f3, f4, f5, f6, f7, lt0⟩ := id m2
  go_wp2_with fail
  refine (cZ w2).mono ?_
  rintro e w3 ⟨rfl, rfl⟩
  have M2 := Lib.hid m2
  have R2 := Lib.hid r2
  clear m2 r2
  go_wp2_with fail
  refine (cT _ (HG.out.later bw2)).mono ?_
  rintro e w4 ⟨Y, M, D, H, I, mu2, S2, hk2, hl2, rfl, b4⟩
  have m4 := M2.out.later b4
  have r4 := R2.out.later b4
  have bw4 := bw2.trans (b4.mono bw2.size)
  have HK := Lib.hid (And.intro hk2 hl2)
  clear c0 c1 c2 c3 c4 c5 c6 c7 f0 f1 f2 f3 f4 f5 f6 f7 lt0 M2 R2 cT b4 hk2 hl2
  unfold momV
  obtain ⟨V, hV, v5, keepV, othV, szV⟩ := m4.setAll (Y : Int) (M : Int) (D : Int) (H : Int) (I : Int) S2 z true
  have rV := r4.other (othV _ (by simp)) (Nat.le_of_eq szV.symm)
  have bV := keepV bw4 (Nat.le_refl _)
  obtain ⟨V6, hV6, v6, keep6, oth6, sz6⟩ := v5.setZone zn true
  have r6 := rV.other (oth6 _ (by simp)) (Nat.le_of_eq sz6.symm)
  have b6 := keep6 bV (Nat.le_refl _)
  obtain ⟨X, hX, rX, keep, _, _⟩ := r6.setAll (Y : Int) (M : Int) (D : Int) (H : Int) (I : Int) S2 zn true
  have bX := keep b6 (Nat.le_succ _)
  have HV := Lib.hid hV
  have HV6 := Lib.hid hV6
  have HX := Lib.hid hX
  have RX := Lib.hid rX
  obtain ⟨c0, c1, c2, c3, c4, c5, c6, c7, f0, f1, f2, f3, f4, f5, f6, f7, lt0⟩ := m4
  have H5 := Lib.hid v5
  have H6 := Lib.hid (And.intro v6 r6)
  clear hV v5 keepV othV szV rV hX rX keep bV v6 keep6 oth6 sz6 r6 b6 hV6 r4
  go_upto_region 9 with fail
  rw [HV.out]
  clear c0 c1 c2 c3 c4 c5 c6 c7 f0 f1 f2 f3 f4 f5 f6 f7 lt0
  obtain ⟨c0, c1, c2, c3, c4, c5, c6, c7, f0, f1, f2, f3, f4, f5, f6, f7, lt0⟩ := H5.out
  go_upto_region 12 with fail
  rw [HV6.out]
  clear c0 c1 c2 c3 c4 c5 c6 c7 f0 f1 f2 f3 f4 f5 f6 f7 lt0
  obtain ⟨c0, c1, c2, c3, c4, c5, c6, c7, f0, f1, f2, f3, f4, f5, f6, f7, lt0⟩ := H6.out.1
  obtain ⟨j0, j1, j2, j3, j4, j5, j6, j7, g0, g1, g2, g3, g4, g5, g6, g7, lt1⟩ := H6.out.2
  go_wp2_with fail
  rw [HX.out]
  obtain ⟨i0, i1, i2, i3, i4, i5, i6, i7, _⟩ := RX.out.at
  refine bodyPost_ret (v := .tuple #[.agg #[.int .i64 (Y : Int), .int .i64 (M : Int), .int .i64 (D : Int), .int .i64 (H : Int), .int .i64 (I : Int), .string S2, .int .i64 zn, .bool true], .int .i64 0]) (by simp [results, Tryz.results29, go_sem, i0, i1, i2, i3, i4, i5, i6, i7]) rfl ⟨Y, M, D, H, I, mu2, S2, ⟨HK.out.1.date, HK.out.1.hour, HK.out.1.minute, HK.out.1.micro, HK.out.1.sec, by unfold zoneB; rw [if_pos rfl, decide_eq_true HZ.out.1, decide_eq_true HZ.out.2]; rfl⟩, HK.out.2, rfl, bX⟩
end Go.Proofs.YtgmnjghbafbopaaGreatDoor
namespace Go.Proofs.YtgmnjghbafbopaaGreatDoor
open Go.RowKit Go.Lib

set_option maxRecDepth 100000 in
set_option maxHeartbeats 8000000 in
theorem adjust_far (y mo d h mi mu : Nat) (S : ByteArray) (z : Int) (k : MomOk y mo d h mi mu S z true) (zn : Int) (hz : -840 ≤ zn ∧ zn ≤ 840) (hn : (zn - z) * 60000000 < -(localN y mo d h mi mu : Int) ∨ 315537897600000000 - (localN y mo d h mi mu : Int) ≤ (zn - z) * 60000000) (w : World) (hg : GrT w) :
    Calls Tryz.prog 29 #[momV (y : Int) (mo : Int) (d : Int) (h : Int) (mi : Int) S z true, .int .i64 zn, .bool true] w (fun e w' => e = .returned (.tuple #[momZ, .int .i64 6]) ∧ Below w.heap.size w w') := by
  have cV := fun W hW => isValid_ti (y : Int) (mo : Int) (d : Int) (h : Int) (mi : Int) S z true (by have := k.size; omega) W hW
  rw [k.valid] at cV
  have cZ := fun W => isZone_ti zn W
  rw [show (decide (-840 ≤ zn) && decide (zn ≤ 840)) = true by rw [decide_eq_true hz.1, decide_eq_true hz.2]; rfl] at cZ
  have hzz := zone_in k.zone
  have cT := fun W hW => later_bad y mo d h mi mu S z true k ((zn - z) * 60000000) hn W hW
  unfold momZ momV at cT
  have hz1 := hz.1
  have hz2 := hz.2
  have hz3 := hzz.1
  have hz4 := hzz.2
  have HG := Lib.hid hg
  try unfold momZ
  unfold momV at cV ⊢
  have b0 : Below w.heap.size w (w.alloc (.cells #[.int .i64 (y : Int), .int .i64 (mo : Int), .int .i64 (d : Int), .int .i64 (h : Int), .int .i64 (mi : Int), .string S, .int .i64 z, .bool true] 24)) := (Below.refl _ _).alloc (Nat.le_refl _) _
  have m1 := (MomW.new w (y : Int) (mo : Int) (d : Int) (h : Int) (mi : Int) S z true).later ((Below.refl _ _).alloc (Nat.le_refl _) (.cells #[.int .i64 0, .int .i64 0, .int .i64 0, .int .i64 0, .int .i64 0, .string ⟨#[]⟩, .int .i64 0, .bool false] 24))
  have r1 := MomW.new (w.alloc (.cells #[.int .i64 (y : Int), .int .i64 (mo : Int), .int .i64 (d : Int), .int .i64 (h : Int), .int .i64 (mi : Int), .string S, .int .i64 z, .bool true] 24)) 0 0 0 0 0 ⟨#[]⟩ 0 false
  have bw1 : Below w.heap.size w ((w.alloc (.cells #[.int .i64 (y : Int), .int .i64 (mo : Int), .int .i64 (d : Int), .int .i64 (h : Int), .int .i64 (mi : Int), .string S, .int .i64 z, .bool true] 24)).alloc (.cells #[.int .i64 0, .int .i64 0, .int .i64 0, .int .i64 0, .int .i64 0, .string ⟨#[]⟩, .int .i64 0, .bool false] 24)) := b0.alloc (by simp) _
  obtain ⟨W1, hW1⟩ : ∃ W, (w.alloc (.cells #[.int .i64 (y : Int), .int .i64 (mo : Int), .int .i64 (d : Int), .int .i64 (h : Int), .int .i64 (mi : Int), .string S, .int .i64 z, .bool true] 24)).alloc (.cells #[.int .i64 0, .int .i64 0, .int .i64 0, .int .i64 0, .int .i64 0, .string ⟨#[]⟩, .int .i64 0, .bool false] 24) = W := ⟨_, rfl⟩
  rw [World.size_alloc] at r1
  rw [hW1] at m1 r1 bw1
  have HW1 := Lib.hid hW1
  clear b0 hW1
  have cV := cV W1 (hg.later bw1)
  have HM := Lib.hid r1
  have ML := Lib.hid m1
  obtain ⟨c0, c1, c2, c3, c4, c5, c6, c7, f0, f1, f2, f3, f4, f5, f6, f7, lt0⟩ := m1
  clear hg r1 k hz hn hzz
  go_enter Tryz.func29, Tryz.ntmps29
  go_wp2_with fail
  try rw [HW1.out]
  refine cV.mono ?_
  rintro e w2 ⟨rfl, b2⟩
  have r2 := HM.out.later b2
  have m2 := ML.out.later b2
  have bw2 := bw1.trans (b2.mono bw1.size)
  clear c0 c1 c2 c3 c4 c5 c6 c7 f0 f1 f2 f3 f4 f5 f6 f7 lt0 HM ML b2
  obtain ⟨c0, c1, c2, c3, c4, c5, c6, c7, f0, f1, f2, f3, f4, f5, f6, f7, lt0⟩ := id m2
  go_wp2_with fail
  refine (cZ w2).mono ?_
  rintro e w3 ⟨rfl, rfl⟩
  have M2 := Lib.hid m2
  have R2 := Lib.hid r2
  clear m2 r2
  go_wp2_with fail
  refine (cT _ (HG.out.later bw2)).mono ?_
  rintro e w4 ⟨rfl, b4⟩
  have m4 := M2.out.later b4
  have r4 := R2.out.later b4
  have bw4 := bw2.trans (b4.mono bw2.size)
  clear c0 c1 c2 c3 c4 c5 c6 c7 f0 f1 f2 f3 f4 f5 f6 f7 lt0 M2 R2 cT b4
  obtain ⟨V, hV, v5, keepV, othV, szV⟩ := m4.setAll 0 0 0 0 0 ⟨#[]⟩ 0 false
  have rV := r4.other (othV _ (by simp)) (Nat.le_of_eq szV.symm)
  have bV := keepV bw4 (Nat.le_refl _)
  have HV := Lib.hid hV
  obtain ⟨X, hX, rX, keep, _, _⟩ := rV.setAll 0 0 0 0 0 ⟨#[]⟩ 0 false
  have bX := keep bV (Nat.le_succ _)
  have HX := Lib.hid hX
  have RX := Lib.hid rX
  obtain ⟨c0, c1, c2, c3, c4, c5, c6, c7, f0, f1, f2, f3, f4, f5, f6, f7, lt0⟩ := m4
  have RV := Lib.hid rV
  clear hV v5 keepV othV szV rV hX rX keep bV r4
  go_upto_region 9 with fail
  rw [HV.out]
  clear c0 c1 c2 c3 c4 c5 c6 c7 f0 f1 f2 f3 f4 f5 f6 f7 lt0
  obtain ⟨j0, j1, j2, j3, j4, j5, j6, j7, g0, g1, g2, g3, g4, g5, g6, g7, lt1⟩ := RV.out
  go_wp2_with fail
  rw [HX.out]
  obtain ⟨i0, i1, i2, i3, i4, i5, i6, i7, _⟩ := RX.out.at
  refine bodyPost_ret (v := .tuple #[.agg #[.int .i64 0, .int .i64 0, .int .i64 0, .int .i64 0, .int .i64 0, .string ⟨#[]⟩, .int .i64 0, .bool false], .int .i64 6]) (by simp [results, Tryz.results29, go_sem, i0, i1, i2, i3, i4, i5, i6, i7]) rfl ⟨rfl, bX⟩
end Go.Proofs.YtgmnjghbafbopaaGreatDoor

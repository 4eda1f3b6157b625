/- Dates: the contract of AddSeconds. -/
import Derived.Test.YtgmnjghbafbopaaGreatDoorMTiD
namespace Go.Proofs.YtgmnjghbafbopaaGreatDoor
open Go.RowKit Go.Lib

set_option maxRecDepth 100000 in
set_option maxHeartbeats 8000000 in
theorem addSec_bad (y mo d h mi : Int) (S : ByteArray) (z : Int) (has : Bool) (hs : S.size ≤ 1000) (hv : validB y mo d h mi S.data.toList z has = false) (N : ByteArray) (w : World) (hg : GrT w) :
    Calls Tryz.prog 27 #[momV y mo d h mi S z has, .string N] w fun e w' => e = .returned (.tuple #[momZ, .int .i64 1]) ∧ Below w.heap.size w w' := by
  have cV := fun W hW => isValid_ti y mo d h mi S z has hs W hW
  rw [hv] at cV
  unfold momZ
  unfold momV at cV ⊢
  have b0 : Below w.heap.size w (w.alloc (.cells #[.int .i64 y, .int .i64 mo, .int .i64 d, .int .i64 h, .int .i64 mi, .string S, .int .i64 z, .bool has] 24)) := (Below.refl _ _).alloc (Nat.le_refl _) _
  have m1 := (MomW.new w y mo d h mi S z has).later ((Below.refl _ _).alloc (Nat.le_refl _) (.cells #[.int .i64 0, .int .i64 0, .int .i64 0, .int .i64 0, .int .i64 0, .string ⟨#[]⟩, .int .i64 0, .bool false] 24))
  have r1 := MomW.new (w.alloc (.cells #[.int .i64 y, .int .i64 mo, .int .i64 d, .int .i64 h, .int .i64 mi, .string S, .int .i64 z, .bool has] 24)) 0 0 0 0 0 ⟨#[]⟩ 0 false
  have bw1 : Below w.heap.size w ((w.alloc (.cells #[.int .i64 y, .int .i64 mo, .int .i64 d, .int .i64 h, .int .i64 mi, .string S, .int .i64 z, .bool has] 24)).alloc (.cells #[.int .i64 0, .int .i64 0, .int .i64 0, .int .i64 0, .int .i64 0, .string ⟨#[]⟩, .int .i64 0, .bool false] 24)) := b0.alloc (by simp) _
  obtain ⟨W1, hW1⟩ : ∃ W, (w.alloc (.cells #[.int .i64 y, .int .i64 mo, .int .i64 d, .int .i64 h, .int .i64 mi, .string S, .int .i64 z, .bool has] 24)).alloc (.cells #[.int .i64 0, .int .i64 0, .int .i64 0, .int .i64 0, .int .i64 0, .string ⟨#[]⟩, .int .i64 0, .bool false] 24) = W := ⟨_, rfl⟩
  rw [World.size_alloc] at r1
  rw [hW1] at m1 r1 bw1
  have HW1 := Lib.hid hW1
  clear b0 hW1
  have cV := cV W1 (hg.later bw1)
  have HM := Lib.hid r1
  obtain ⟨c0, c1, c2, c3, c4, c5, c6, c7, f0, f1, f2, f3, f4, f5, f6, f7, _⟩ := m1
  clear hg hv r1
  go_enter Tryz.func27, Tryz.ntmps27
  go_wp2_with fail
  try rw [HW1.out]
  refine cV.mono ?_
  rintro e w2 ⟨rfl, b2⟩
  have r2 := HM.out.later b2
  have bw2 := bw1.trans (b2.mono bw1.size)
  clear c0 c1 c2 c3 c4 c5 c6 c7 f0 f1 f2 f3 f4 f5 f6 f7
  obtain ⟨X, hX, rX, keep, _, _⟩ := (r2).setAll 0 0 0 0 0 ⟨#[]⟩ 0 false
  have bX := keep bw2 (Nat.le_succ _)
  have HX := Lib.hid hX
  have RX := Lib.hid rX
  obtain ⟨j0, j1, j2, j3, j4, j5, j6, j7, g0, g1, g2, g3, g4, g5, g6, g7, _⟩ := r2
  clear hX rX keep
  go_wp2_with fail
  rw [HX.out]
  obtain ⟨i0, i1, i2, i3, i4, i5, i6, i7, _⟩ := RX.out.at
  refine bodyPost_ret (v := .tuple #[.agg #[.int .i64 0, .int .i64 0, .int .i64 0, .int .i64 0, .int .i64 0, .string ⟨#[]⟩, .int .i64 0, .bool false], .int .i64 1]) (by simp [results, Tryz.results27, go_sem, i0, i1, i2, i3, i4, i5, i6, i7]) rfl ⟨rfl, bX⟩
set_option maxRecDepth 100000 in
set_option maxHeartbeats 8000000 in
theorem addSec_parse (y mo d h mi mu : Nat) (S : ByteArray) (z : Int) (has : Bool) (k : MomOk y mo d h mi mu S z has) (N : ByteArray) (hN : N.size ≤ 1000) (e9 : Int) (h9 : readR N.data.toList = ([], e9)) (e0 : e9 ≠ 0) (w : World) (hg : GrT w) :
    Calls Tryz.prog 27 #[momV (y : Int) (mo : Int) (d : Int) (h : Int) (mi : Int) S z has, .string N] w fun e w' => e = .returned (.tuple #[momZ, .int .i64 e9]) ∧ Below w.heap.size w w' := by
  have cV := fun W hW => isValid_ti (y : Int) (mo : Int) (d : Int) (h : Int) (mi : Int) S z has (by have := k.size; omega) W hW
  rw [k.valid] at cV
  have cP := fun W (hW : GrN W) => (parse_on hW N ⟨#[]⟩ e9 (by omega) h9).use W (Below.refl _ _)
  have HG := Lib.hid hg
  unfold momZ
  unfold momV at cV ⊢
  have b0 : Below w.heap.size w (w.alloc (.cells #[.int .i64 (y : Int), .int .i64 (mo : Int), .int .i64 (d : Int), .int .i64 (h : Int), .int .i64 (mi : Int), .string S, .int .i64 z, .bool has] 24)) := (Below.refl _ _).alloc (Nat.le_refl _) _
  have m1 := (MomW.new w (y : Int) (mo : Int) (d : Int) (h : Int) (mi : Int) S z has).later ((Below.refl _ _).alloc (Nat.le_refl _) (.cells #[.int .i64 0, .int .i64 0, .int .i64 0, .int .i64 0, .int .i64 0, .string ⟨#[]⟩, .int .i64 0, .bool false] 24))
  have r1 := MomW.new (w.alloc (.cells #[.int .i64 (y : Int), .int .i64 (mo : Int), .int .i64 (d : Int), .int .i64 (h : Int), .int .i64 (mi : Int), .string S, .int .i64 z, .bool has] 24)) 0 0 0 0 0 ⟨#[]⟩ 0 false
  have bw1 : Below w.heap.size w ((w.alloc (.cells #[.int .i64 (y : Int), .int .i64 (mo : Int), .int .i64 (d : Int), .int .i64 (h : Int), .int .i64 (mi : Int), .string S, .int .i64 z, .bool has] 24)).alloc (.cells #[.int .i64 0, .int .i64 0, .int .i64 0, .int .i64 0, .int .i64 0, .string ⟨#[]⟩, .int .i64 0, .bool false] 24)) := b0.alloc (by simp) _
  obtain ⟨W1, hW1⟩ : ∃ W, (w.alloc (.cells #[.int .i64 (y : Int), .int .i64 (mo : Int), .int .i64 (d : Int), .int .i64 (h : Int), .int .i64 (mi : Int), .string S, .int .i64 z, .bool has] 24)).alloc (.cells #[.int .i64 0, .int .i64 0, .int .i64 0, .int .i64 0, .int .i64 0, .string ⟨#[]⟩, .int .i64 0, .bool false] 24) = W := ⟨_, rfl⟩
  rw [World.size_alloc] at r1
  rw [hW1] at m1 r1 bw1
  have HW1 := Lib.hid hW1
  clear b0 hW1
  have cV := cV W1 (hg.later bw1)
  have HM := Lib.hid r1
  have hzb : (e9 == 0) = false := beq_eq_false_iff_ne.2 e0
  have hzc : (e9 != 0) = true := by simp [e0]
  obtain ⟨c0, c1, c2, c3, c4, c5, c6, c7, f0, f1, f2, f3, f4, f5, f6, f7, _⟩ := m1
  clear hg k r1 e0 h9
  go_enter Tryz.func27, Tryz.ntmps27
  go_wp2_with fail
  try rw [HW1.out]
  refine cV.mono ?_
  rintro e w2 ⟨rfl, b2⟩
  have r2 := HM.out.later b2
  have bw2 := bw1.trans (b2.mono bw1.size)
  clear c0 c1 c2 c3 c4 c5 c6 c7 f0 f1 f2 f3 f4 f5 f6 f7
  go_wp2_with fail
  refine (cP w2 (HG.out.num.later bw2)).mono ?_
  rintro e w3 ⟨rfl, b3⟩
  have r3 := r2.later b3
  have bw3 := bw2.trans (b3.mono bw2.size)
  obtain ⟨X, hX, rX, keep, _, _⟩ := (r3).setAll 0 0 0 0 0 ⟨#[]⟩ 0 false
  have bX := keep bw3 (Nat.le_succ _)
  have HX := Lib.hid hX
  have RX := Lib.hid rX
  obtain ⟨j0, j1, j2, j3, j4, j5, j6, j7, g0, g1, g2, g3, g4, g5, g6, g7, _⟩ := r3
  clear hX rX keep
  go_wp2_with fail
  rw [HX.out]
  obtain ⟨i0, i1, i2, i3, i4, i5, i6, i7, _⟩ := RX.out.at
  refine bodyPost_ret (v := .tuple #[.agg #[.int .i64 0, .int .i64 0, .int .i64 0, .int .i64 0, .int .i64 0, .string ⟨#[]⟩, .int .i64 0, .bool false], .int .i64 e9]) (by simp [results, Tryz.results27, go_sem, i0, i1, i2, i3, i4, i5, i6, i7]) rfl ⟨rfl, bX⟩
theorem canonR_can {x : List UInt8} (h : CanonR (x, 0)) : ∃ p n, canonL x = some (p, n) := by
  rcases h with ⟨h, _⟩ | ⟨_, h, _⟩
  · exact absurd rfl h
  · exact canon_of_read h
set_option maxRecDepth 100000 in
set_option maxHeartbeats 8000000 in
theorem addSec_micro (y mo d h mi mu : Nat) (S : ByteArray) (z : Int) (has : Bool) (k : MomOk y mo d h mi mu S z has) (N : ByteArray) (hN : N.size ≤ 1000) (R : ByteArray) (hR : readR N.data.toList = (R.data.toList, 0)) (hm : micR R.data.toList = (0, false)) (w : World) (hg : GrT w) :
    Calls Tryz.prog 27 #[momV (y : Int) (mo : Int) (d : Int) (h : Int) (mi : Int) S z has, .string N] w (fun e w' => e = .returned (.tuple #[momZ, .int .i64 6]) ∧ Below w.heap.size w w') := by
  have cV := fun W hW => isValid_ti (y : Int) (mo : Int) (d : Int) (h : Int) (mi : Int) S z has (by have := k.size; omega) W hW
  rw [k.valid] at cV
  have cP := fun W (hW : GrN W) => (parse_on hW N R 0 (by omega) hR).use W (Below.refl _ _)
  have sR := resR_size (readR_canonR _) hR
  obtain ⟨bb, kk, hcR⟩ := canonR_can (by have := readR_canonR N.data.toList; rwa [hR] at this)
  have cM := fun W hW => microseconds_ti R (by omega) bb kk hcR 0 false hm W hW
  have HG := Lib.hid hg
  try unfold momZ
  unfold momV at cV ⊢
  have b0 : Below w.heap.size w (w.alloc (.cells #[.int .i64 (y : Int), .int .i64 (mo : Int), .int .i64 (d : Int), .int .i64 (h : Int), .int .i64 (mi : Int), .string S, .int .i64 z, .bool has] 24)) := (Below.refl _ _).alloc (Nat.le_refl _) _
  have m1 := (MomW.new w (y : Int) (mo : Int) (d : Int) (h : Int) (mi : Int) S z has).later ((Below.refl _ _).alloc (Nat.le_refl _) (.cells #[.int .i64 0, .int .i64 0, .int .i64 0, .int .i64 0, .int .i64 0, .string ⟨#[]⟩, .int .i64 0, .bool false] 24))
  have r1 := MomW.new (w.alloc (.cells #[.int .i64 (y : Int), .int .i64 (mo : Int), .int .i64 (d : Int), .int .i64 (h : Int), .int .i64 (mi : Int), .string S, .int .i64 z, .bool has] 24)) 0 0 0 0 0 ⟨#[]⟩ 0 false
  have bw1 : Below w.heap.size w ((w.alloc (.cells #[.int .i64 (y : Int), .int .i64 (mo : Int), .int .i64 (d : Int), .int .i64 (h : Int), .int .i64 (mi : Int), .string S, .int .i64 z, .bool has] 24)).alloc (.cells #[.int .i64 0, .int .i64 0, .int .i64 0, .int .i64 0, .int .i64 0, .string ⟨#[]⟩, .int .i64 0, .bool false] 24)) := b0.alloc (by simp) _
  obtain ⟨W1, hW1⟩ : ∃ W, (w.alloc (.cells #[.int .i64 (y : Int), .int .i64 (mo : Int), .int .i64 (d : Int), .int .i64 (h : Int), .int .i64 (mi : Int), .string S, .int .i64 z, .bool has] 24)).alloc (.cells #[.int .i64 0, .int .i64 0, .int .i64 0, .int .i64 0, .int .i64 0, .string ⟨#[]⟩, .int .i64 0, .bool false] 24) = W := ⟨_, rfl⟩
  rw [World.size_alloc] at r1
  rw [hW1] at m1 r1 bw1
  have HW1 := Lib.hid hW1
  clear b0 hW1
  have cV := cV W1 (hg.later bw1)
  have HM := Lib.hid r1
  have ML := Lib.hid m1
  obtain ⟨c0, c1, c2, c3, c4, c5, c6, c7, f0, f1, f2, f3, f4, f5, f6, f7, _⟩ := m1
  clear hg k r1 hR hm hcR sR
  go_enter Tryz.func27, Tryz.ntmps27
  go_wp2_with fail
  try rw [HW1.out]
  refine cV.mono ?_
  rintro e w2 ⟨rfl, b2⟩
  have r2 := HM.out.later b2
  have m2 := ML.out.later b2
  have bw2 := bw1.trans (b2.mono bw1.size)
  clear c0 c1 c2 c3 c4 c5 c6 c7 f0 f1 f2 f3 f4 f5 f6 f7 HM ML b2
  go_wp2_with fail
  refine (cP w2 (HG.out.num.later bw2)).mono ?_
  rintro e w3 ⟨rfl, b3⟩
  have r3 := r2.later b3
  have m3 := m2.later b3
  have bw3 := bw2.trans (b3.mono bw2.size)
  clear m2 r2 b3
  go_wp2_with fail
  refine (cM w3 (HG.out.later bw3)).mono ?_
  rintro e w4 ⟨rfl, b4⟩
  have r4 := r3.later b4
  have bw4 := bw3.trans (b4.mono bw3.size)
  obtain ⟨X, hX, rX, keep, _, _⟩ := (r4).setAll 0 0 0 0 0 ⟨#[]⟩ 0 false
  have bX := keep bw4 (Nat.le_succ _)
  have HX := Lib.hid hX
  have RX := Lib.hid rX
  obtain ⟨j0, j1, j2, j3, j4, j5, j6, j7, g0, g1, g2, g3, g4, g5, g6, g7, _⟩ := r4
  clear hX rX keep
  go_wp2_with fail
  rw [HX.out]
  obtain ⟨i0, i1, i2, i3, i4, i5, i6, i7, _⟩ := RX.out.at
  refine bodyPost_ret (v := .tuple #[.agg #[.int .i64 0, .int .i64 0, .int .i64 0, .int .i64 0, .int .i64 0, .string ⟨#[]⟩, .int .i64 0, .bool false], .int .i64 6]) (by simp [results, Tryz.results27, go_sem, i0, i1, i2, i3, i4, i5, i6, i7]) rfl ⟨rfl, bX⟩
set_option maxRecDepth 100000 in
set_option maxHeartbeats 8000000 in
theorem addSec_range (y mo d h mi mu : Nat) (S : ByteArray) (z : Int) (has : Bool) (k : MomOk y mo d h mi mu S z has) (N : ByteArray) (hN : N.size ≤ 1000) (R : ByteArray) (hR : readR N.data.toList = (R.data.toList, 0)) (v : Int) (hm : micR R.data.toList = (v, true)) (hn : v < -(localN y mo d h mi mu : Int) ∨ 315537897600000000 - (localN y mo d h mi mu : Int) ≤ v) (w : World) (hg : GrT w) :
    Calls Tryz.prog 27 #[momV (y : Int) (mo : Int) (d : Int) (h : Int) (mi : Int) S z has, .string N] w (fun e w' => e = .returned (.tuple #[momZ, .int .i64 6]) ∧ Below w.heap.size w w') := by
  have cV := fun W hW => isValid_ti (y : Int) (mo : Int) (d : Int) (h : Int) (mi : Int) S z has (by have := k.size; omega) W hW
  rw [k.valid] at cV
  have cP := fun W (hW : GrN W) => (parse_on hW N R 0 (by omega) hR).use W (Below.refl _ _)
  have sR := resR_size (readR_canonR _) hR
  obtain ⟨bb, kk, hcR⟩ := canonR_can (by have := readR_canonR N.data.toList; rwa [hR] at this)
  have cM := fun W hW => microseconds_ti R (by omega) bb kk hcR v true hm W hW
  have cT := fun W hW => later_bad y mo d h mi mu S z has k v hn W hW
  unfold momZ momV at cT
  have HG := Lib.hid hg
  try unfold momZ
  unfold momV at cV ⊢
  have b0 : Below w.heap.size w (w.alloc (.cells #[.int .i64 (y : Int), .int .i64 (mo : Int), .int .i64 (d : Int), .int .i64 (h : Int), .int .i64 (mi : Int), .string S, .int .i64 z, .bool has] 24)) := (Below.refl _ _).alloc (Nat.le_refl _) _
  have m1 := (MomW.new w (y : Int) (mo : Int) (d : Int) (h : Int) (mi : Int) S z has).later ((Below.refl _ _).alloc (Nat.le_refl _) (.cells #[.int .i64 0, .int .i64 0, .int .i64 0, .int .i64 0, .int .i64 0, .string ⟨#[]⟩, .int .i64 0, .bool false] 24))
  have r1 := MomW.new (w.alloc (.cells #[.int .i64 (y : Int), .int .i64 (mo : Int), .int .i64 (d : Int), .int .i64 (h : Int), .int .i64 (mi : Int), .string S, .int .i64 z, .bool has] 24)) 0 0 0 0 0 ⟨#[]⟩ 0 false
  have bw1 : Below w.heap.size w ((w.alloc (.cells #[.int .i64 (y : Int), .int .i64 (mo : Int), .int .i64 (d : Int), .int .i64 (h : Int), .int .i64 (mi : Int), .string S, .int .i64 z, .bool has] 24)).alloc (.cells #[.int .i64 0, .int .i64 0, .int .i64 0, .int .i64 0, .int .i64 0, .string ⟨#[]⟩, .int .i64 0, .bool false] 24)) := b0.alloc (by simp) _
  obtain ⟨W1, hW1⟩ : ∃ W, (w.alloc (.cells #[.int .i64 (y : Int), .int .i64 (mo : Int), .int .i64 (d : Int), .int .i64 (h : Int), .int .i64 (mi : Int), .string S, .int .i64 z, .bool has] 24)).alloc (.cells #[.int .i64 0, .int .i64 0, .int .i64 0, .int .i64 0, .int .i64 0, .string ⟨#[]⟩, .int .i64 0, .bool false] 24) = W := ⟨_, rfl⟩
  rw [World.size_alloc] at r1
  rw [hW1] at m1 r1 bw1
  have HW1 := Lib.hid hW1
  clear b0 hW1
  have cV := cV W1 (hg.later bw1)
  have HM := Lib.hid r1
  have ML := Lib.hid m1
  obtain ⟨c0, c1, c2, c3, c4, c5, c6, c7, f0, f1, f2, f3, f4, f5, f6, f7, _⟩ := m1
  clear hg k r1 hR hm hcR sR hn
  go_enter Tryz.func27, Tryz.ntmps27
  go_wp2_with fail
  try rw [HW1.out]
  refine cV.mono ?_
  rintro e w2 ⟨rfl, b2⟩
  have r2 := HM.out.later b2
  have m2 := ML.out.later b2
  have bw2 := bw1.trans (b2.mono bw1.size)
  clear c0 c1 c2 c3 c4 c5 c6 c7 f0 f1 f2 f3 f4 f5 f6 f7 HM ML b2
  go_wp2_with fail
  refine (cP w2 (HG.out.num.later bw2)).mono ?_
  rintro e w3 ⟨rfl, b3⟩
  have r3 := r2.later b3
  have m3 := m2.later b3
  have bw3 := bw2.trans (b3.mono bw2.size)
  clear m2 r2 b3
  go_wp2_with fail
  refine (cM w3 (HG.out.later bw3)).mono ?_
  rintro e w4 ⟨rfl, b4⟩
  have r4 := r3.later b4
  have m4 := m3.later b4
  have bw4 := bw3.trans (b4.mono bw3.size)
  clear m3 r3 b4
  obtain ⟨c0, c1, c2, c3, c4, c5, c6, c7, f0, f1, f2, f3, f4, f5, f6, f7, _⟩ := m4
  go_wp2_with fail
  refine (cT w4 (HG.out.later bw4)).mono ?_
  rintro e w5 ⟨rfl, b5⟩
  have r5 := r4.later b5
  have bw5 := bw4.trans (b5.mono bw4.size)
  obtain ⟨X, hX, rX, keep, _, _⟩ := (r5).setAll 0 0 0 0 0 ⟨#[]⟩ 0 false
  have bX := keep bw5 (Nat.le_succ _)
  have HX := Lib.hid hX
  have RX := Lib.hid rX
  obtain ⟨j0, j1, j2, j3, j4, j5, j6, j7, g0, g1, g2, g3, g4, g5, g6, g7, _⟩ := r5
  clear hX rX keep
  go_wp2_with fail
  rw [HX.out]
  obtain ⟨i0, i1, i2, i3, i4, i5, i6, i7, _⟩ := RX.out.at
  refine bodyPost_ret (v := .tuple #[.agg #[.int .i64 0, .int .i64 0, .int .i64 0, .int .i64 0, .int .i64 0, .string ⟨#[]⟩, .int .i64 0, .bool false], .int .i64 6]) (by simp [results, Tryz.results27, go_sem, i0, i1, i2, i3, i4, i5, i6, i7]) rfl ⟨rfl, bX⟩
set_option maxRecDepth 100000 in
set_option maxHeartbeats 8000000 in
theorem addSec_ok (y mo d h mi mu : Nat) (S : ByteArray) (z : Int) (has : Bool) (k : MomOk y mo d h mi mu S z has) (N : ByteArray) (hN : N.size ≤ 1000) (R : ByteArray) (hR : readR N.data.toList = (R.data.toList, 0)) (v : Int) (hm : micR R.data.toList = (v, true)) (t : Nat) (hnt : v + (localN y mo d h mi mu : Int) = (t : Int)) (ht : t < 315537897600000000) (w : World) (hg : GrT w) :
    Calls Tryz.prog 27 #[momV (y : Int) (mo : Int) (d : Int) (h : Int) (mi : Int) S z has, .string N] w (LaterG w t z has) := by
  have cV := fun W hW => isValid_ti (y : Int) (mo : Int) (d : Int) (h : Int) (mi : Int) S z has (by have := k.size; omega) W hW
  rw [k.valid] at cV
  have cP := fun W (hW : GrN W) => (parse_on hW N R 0 (by omega) hR).use W (Below.refl _ _)
  have sR := resR_size (readR_canonR _) hR
  obtain ⟨bb, kk, hcR⟩ := canonR_can (by have := readR_canonR N.data.toList; rwa [hR] at this)
  have cM := fun W hW => microseconds_ti R (by omega) bb kk hcR v true hm W hW
  have cT := fun W hW => later_ok y mo d h mi mu S z has k v t hnt ht W hW
  unfold momV at cT
  have HG := Lib.hid hg
  try unfold momZ
  unfold momV at cV ⊢
  have b0 : Below w.heap.size w (w.alloc (.cells #[.int .i64 (y : Int), .int .i64 (mo : Int), .int .i64 (d : Int), .int .i64 (h : Int), .int .i64 (mi : Int), .string S, .int .i64 z, .bool has] 24)) := (Below.refl _ _).alloc (Nat.le_refl _) _
  have m1 := (MomW.new w (y : Int) (mo : Int) (d : Int) (h : Int) (mi : Int) S z has).later ((Below.refl _ _).alloc (Nat.le_refl _) (.cells #[.int .i64 0, .int .i64 0, .int .i64 0, .int .i64 0, .int .i64 0, .string ⟨#[]⟩, .int .i64 0, .bool false] 24))
  have r1 := MomW.new (w.alloc (.cells #[.int .i64 (y : Int), .int .i64 (mo : Int), .int .i64 (d : Int), .int .i64 (h : Int), .int .i64 (mi : Int), .string S, .int .i64 z, .bool has] 24)) 0 0 0 0 0 ⟨#[]⟩ 0 false
  have bw1 : Below w.heap.size w ((w.alloc (.cells #[.int .i64 (y : Int), .int .i64 (mo : Int), .int .i64 (d : Int), .int .i64 (h : Int), .int .i64 (mi : Int), .string S, .int .i64 z, .bool has] 24)).alloc (.cells #[.int .i64 0, .int .i64 0, .int .i64 0, .int .i64 0, .int .i64 0, .string ⟨#[]⟩, .int .i64 0, .bool false] 24)) := b0.alloc (by simp) _
  obtain ⟨W1, hW1⟩ : ∃ W, (w.alloc (.cells #[.int .i64 (y : Int), .int .i64 (mo : Int), .int .i64 (d : Int), .int .i64 (h : Int), .int .i64 (mi : Int), .string S, .int .i64 z, .bool has] 24)).alloc (.cells #[.int .i64 0, .int .i64 0, .int .i64 0, .int .i64 0, .int .i64 0, .string ⟨#[]⟩, .int .i64 0, .bool false] 24) = W := ⟨_, rfl⟩
  rw [World.size_alloc] at r1
  rw [hW1] at m1 r1 bw1
  have HW1 := Lib.hid hW1
  clear b0 hW1
  have cV := cV W1 (hg.later bw1)
  have HM := Lib.hid r1
  have ML := Lib.hid m1
  obtain ⟨c0, c1, c2, c3, c4, c5, c6, c7, f0, f1, f2, f3, f4, f5, f6, f7, _⟩ := m1
  clear hg k r1 hR hm hcR sR hnt ht
  go_enter Tryz.func27, Tryz.ntmps27
  go_wp2_with fail
  try rw [HW1.out]
  refine cV.mono ?_
  rintro e w2 ⟨rfl, b2⟩
  have r2 := HM.out.later b2
  have m2 := ML.out.later b2
  have bw2 := bw1.trans (b2.mono bw1.size)
  clear c0 c1 c2 c3 c4 c5 c6 c7 f0 f1 f2 f3 f4 f5 f6 f7 HM ML b2
  go_wp2_with fail
  refine (cP w2 (HG.out.num.later bw2)).mono ?_
  rintro e w3 ⟨rfl, b3⟩
  have r3 := r2.later b3
  have m3 := m2.later b3
  have bw3 := bw2.trans (b3.mono bw2.size)
  clear m2 r2 b3
  go_wp2_with fail
  refine (cM w3 (HG.out.later bw3)).mono ?_
  rintro e w4 ⟨rfl, b4⟩
  have r4 := r3.later b4
  have m4 := m3.later b4
  have bw4 := bw3.trans (b4.mono bw3.size)
  clear m3 r3 b4
  obtain ⟨c0, c1, c2, c3, c4, c5, c6, c7, f0, f1, f2, f3, f4, f5, f6, f7, _⟩ := m4
  go_wp2_with fail
  refine (cT w4 (HG.out.later bw4)).mono ?_
  rintro e w5 ⟨Y, M, D, H, I, mu2, S2, hk2, hl2, rfl, b5⟩
  have r5 := r4.later b5
  have bw5 := bw4.trans (b5.mono bw4.size)
  have HK := Lib.hid (And.intro hk2 hl2)
  clear hk2 hl2
  unfold momV
  obtain ⟨X, hX, rX, keep, _, _⟩ := (r5).setAll (Y : Int) (M : Int) (D : Int) (H : Int) (I : Int) S2 z has
  have bX := keep bw5 (Nat.le_succ _)
  have HX := Lib.hid hX
  have RX := Lib.hid rX
  obtain ⟨j0, j1, j2, j3, j4, j5, j6, j7, g0, g1, g2, g3, g4, g5, g6, g7, _⟩ := r5
  clear hX rX keep
  go_wp2_with fail
  rw [HX.out]
  obtain ⟨i0, i1, i2, i3, i4, i5, i6, i7, _⟩ := RX.out.at
  refine bodyPost_ret (v := .tuple #[.agg #[.int .i64 (Y : Int), .int .i64 (M : Int), .int .i64 (D : Int), .int .i64 (H : Int), .int .i64 (I : Int), .string S2, .int .i64 z, .bool has], .int .i64 0]) (by simp [results, Tryz.results27, go_sem, i0, i1, i2, i3, i4, i5, i6, i7]) rfl ⟨Y, M, D, H, I, mu2, S2, HK.out.1, HK.out.2, rfl, bX⟩
end Go.Proofs.YtgmnjghbafbopaaGreatDoor

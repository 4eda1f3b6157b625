/- Dates: the contract of AddMonths. -/
import Derived.Test.YtgmnjghbafbopaaGreatDoorMTiAdd
import Derived.StillTailTactics
namespace Go.Proofs.YtgmnjghbafbopaaGreatDoor
open Go.RowKit Go.Lib

set_option maxRecDepth 100000 in
set_option maxHeartbeats 8000000 in
theorem addMon_bad (y mo d h mi : Int) (S : ByteArray) (z : Int) (has : Bool) (hs : S.size ≤ 1000) (hv : validB y mo d h mi S.data.toList z has = false) (n : Int) (w : World) (hg : GrT w) :
    Calls Tryz.prog 25 #[momV y mo d h mi S z has, .int .i64 n] w fun e w' => e = .returned (.tuple #[momZ, .int .i64 1]) ∧ Below w.heap.size w w' := by
  have cV := fun W hW => isValid_ti y mo d h mi S z has hs W hW
  rw [hv] at cV
  unfold momZ
  unfold momV at cV ⊢
  have b0 : Below w.heap.size w (w.alloc (.cells #[.int .i64 y, .int .i64 mo, .int .i64 d, .int .i64 h, .int .i64 mi, .string S, .int .i64 z, .bool has] 24)) := (Below.refl _ _).alloc (Nat.le_refl _) _
  have m1 := (MomW.new w y mo d h mi S z has).later ((Below.refl _ _).alloc (Nat.le_refl _) (.cells #[.int .i64 0, .int .i64 0, .int .i64 0, .int .i64 0, .int .i64 0, .string ⟨#[]⟩, .int .i64 0, .bool false] 24))
  have r1 := MomW.new (w.alloc (.cells #[.int .i64 y, .int .i64 mo, .int .i64 d, .int .i64 h, .int .i64 mi, .string S, .int .i64 z, .bool has] 24)) 0 0 0 0 0 ⟨#[]⟩ 0 false
  have bw1 : Below w.heap.size w ((w.alloc (.cells #[.int .i64 y, .int .i64 mo, .int .i64 d, .int .i64 h, .int .i64 mi, .string S, .int .i64 z, .bool has] 24)).alloc (.cells #[.int .i64 0, .int .i64 0, .int .i64 0, .int .i64 0, .int .i64 0, .string ⟨#[]⟩, .int .i64 0, .bool false] 24)) := b0.alloc (by simp) _
  obtain ⟨W1, hW1⟩ : ∃ W, (w.alloc (.cells #[.int .i64 y, .int .i64 mo, .int .i64 d, .int .i64 h, .int .i64 mi, .string S, .int .i64 z, .bool has] 24)).alloc (.cells #[.int .i64 0, .int .i64 0, .int .i64 0, .int .i64 0, .int .i64 0, .string ⟨#[]⟩, .int .i64 0, .bool false] 24) = W := ⟨_, rfl⟩
  rw [World.size_alloc] at r1
  rw [hW1] at m1 r1 bw1
  have HW1 := Lib.hid hW1
  clear b0 hW1
  have cV := cV W1 (hg.later bw1)
  have HM := Lib.hid r1
  obtain ⟨c0, c1, c2, c3, c4, c5, c6, c7, f0, f1, f2, f3, f4, f5, f6, f7, _⟩ := m1
  clear hg hv r1
  go_enter Tryz.func25, Tryz.ntmps25
  go_wp2_with fail
  try rw [HW1.out]
  refine cV.mono ?_
  rintro e w2 ⟨rfl, b2⟩
  have r2 := HM.out.later b2
  have bw2 := bw1.trans (b2.mono bw1.size)
  clear c0 c1 c2 c3 c4 c5 c6 c7 f0 f1 f2 f3 f4 f5 f6 f7
  obtain ⟨X, hX, rX, keep, _, _⟩ := (r2).setAll 0 0 0 0 0 ⟨#[]⟩ 0 false
  have bX := keep bw2 (Nat.le_succ _)
  have HX := Lib.hid hX
  have RX := Lib.hid rX
  obtain ⟨j0, j1, j2, j3, j4, j5, j6, j7, g0, g1, g2, g3, g4, g5, g6, g7, _⟩ := r2
  clear hX rX keep
  go_wp2_with fail
  rw [HX.out]
  obtain ⟨i0, i1, i2, i3, i4, i5, i6, i7, _⟩ := RX.out.at
  refine bodyPost_ret (v := .tuple #[.agg #[.int .i64 0, .int .i64 0, .int .i64 0, .int .i64 0, .int .i64 0, .string ⟨#[]⟩, .int .i64 0, .bool false], .int .i64 1]) (by simp [results, Tryz.results25, go_sem, i0, i1, i2, i3, i4, i5, i6, i7]) rfl ⟨rfl, bX⟩
set_option maxRecDepth 100000 in
set_option maxHeartbeats 8000000 in
theorem addMon_range (y mo d h mi mu : Nat) (S : ByteArray) (z : Int) (has : Bool) (k : MomOk y mo d h mi mu S z has) (n : Int) (hn : n < -(12 * ((y : Int) - 1) + (mo : Int) - 1) ∨ 119988 - (12 * ((y : Int) - 1) + (mo : Int) - 1) ≤ n) (w : World) (hg : GrT w) :
    Calls Tryz.prog 25 #[momV (y : Int) (mo : Int) (d : Int) (h : Int) (mi : Int) S z has, .int .i64 n] w fun e w' => e = .returned (.tuple #[momZ, .int .i64 6]) ∧ Below w.heap.size w w' := by
  have cV := fun W hW => isValid_ti (y : Int) (mo : Int) (d : Int) (h : Int) (mi : Int) S z has (by have := k.size; omega) W hW
  rw [k.valid] at cV
  have y1 := k.date.y1
  have y2 := k.date.y2
  have mo1 := k.date.m1
  have mo2 := k.date.m2
  have HG := Lib.hid hg
  try unfold momZ
  unfold momV at cV ⊢
  have b0 : Below w.heap.size w (w.alloc (.cells #[.int .i64 (y : Int), .int .i64 (mo : Int), .int .i64 (d : Int), .int .i64 (h : Int), .int .i64 (mi : Int), .string S, .int .i64 z, .bool has] 24)) := (Below.refl _ _).alloc (Nat.le_refl _) _
  have m1 := (MomW.new w (y : Int) (mo : Int) (d : Int) (h : Int) (mi : Int) S z has).later ((Below.refl _ _).alloc (Nat.le_refl _) (.cells #[.int .i64 0, .int .i64 0, .int .i64 0, .int .i64 0, .int .i64 0, .string ⟨#[]⟩, .int .i64 0, .bool false] 24))
  have r1 := MomW.new (w.alloc (.cells #[.int .i64 (y : Int), .int .i64 (mo : Int), .int .i64 (d : Int), .int .i64 (h : Int), .int .i64 (mi : Int), .string S, .int .i64 z, .bool has] 24)) 0 0 0 0 0 ⟨#[]⟩ 0 false
  have bw1 : Below w.heap.size w ((w.alloc (.cells #[.int .i64 (y : Int), .int .i64 (mo : Int), .int .i64 (d : Int), .int .i64 (h : Int), .int .i64 (mi : Int), .string S, .int .i64 z, .bool has] 24)).alloc (.cells #[.int .i64 0, .int .i64 0, .int .i64 0, .int .i64 0, .int .i64 0, .string ⟨#[]⟩, .int .i64 0, .bool false] 24)) := b0.alloc (by simp) _
  obtain ⟨W1, hW1⟩ : ∃ W, (w.alloc (.cells #[.int .i64 (y : Int), .int .i64 (mo : Int), .int .i64 (d : Int), .int .i64 (h : Int), .int .i64 (mi : Int), .string S, .int .i64 z, .bool has] 24)).alloc (.cells #[.int .i64 0, .int .i64 0, .int .i64 0, .int .i64 0, .int .i64 0, .string ⟨#[]⟩, .int .i64 0, .bool false] 24) = W := ⟨_, rfl⟩
  rw [World.size_alloc] at r1
  rw [hW1] at m1 r1 bw1
  have HW1 := Lib.hid hW1
  clear b0 hW1
  have cV := cV W1 (hg.later bw1)
  have HM := Lib.hid r1
  have ML := Lib.hid m1
  obtain ⟨c0, c1, c2, c3, c4, c5, c6, c7, f0, f1, f2, f3, f4, f5, f6, f7, _⟩ := m1
  clear hg k r1
  obtain ⟨K, hK⟩ : ∃ K : Nat, 12 * ((y : Int) - 1) + (mo : Int) - 1 = (K : Int) := ⟨12 * (y - 1) + (mo - 1), by omega⟩
  rw [hK] at hn
  have K9 : (K : Int) ≤ 200000 := by omega
  by_cases hlo : n < -(K : Int)
  · clear hn
    go_enter Tryz.func25, Tryz.ntmps25
    go_wp2_with fail
    try rw [HW1.out]
    refine cV.mono ?_
    rintro e w2 ⟨rfl, b2⟩
    have r2 := HM.out.later b2
    have m2 := ML.out.later b2
    have bw2 := bw1.trans (b2.mono bw1.size)
    clear c0 c1 c2 c3 c4 c5 c6 c7 f0 f1 f2 f3 f4 f5 f6 f7 HM ML b2
    obtain ⟨c0, c1, c2, c3, c4, c5, c6, c7, f0, f1, f2, f3, f4, f5, f6, f7, lt0⟩ := id m2
    obtain ⟨X, hX, rX, keep, _, _⟩ := (r2).setAll 0 0 0 0 0 ⟨#[]⟩ 0 false
    have bX := keep bw2 (Nat.le_succ _)
    have HX := Lib.hid hX
    have RX := Lib.hid rX
    obtain ⟨j0, j1, j2, j3, j4, j5, j6, j7, g0, g1, g2, g3, g4, g5, g6, g7, _⟩ := r2
    clear hX rX keep
    go_wp2_with fail
    rw [HX.out]
    obtain ⟨i0, i1, i2, i3, i4, i5, i6, i7, _⟩ := RX.out.at
    refine bodyPost_ret (v := .tuple #[.agg #[.int .i64 0, .int .i64 0, .int .i64 0, .int .i64 0, .int .i64 0, .string ⟨#[]⟩, .int .i64 0, .bool false], .int .i64 6]) (by simp [results, Tryz.results25, go_sem, i0, i1, i2, i3, i4, i5, i6, i7]) rfl ⟨rfl, bX⟩
  · have hhi : 119988 - (K : Int) ≤ n := hn.resolve_left hlo
    clear hn
    go_enter Tryz.func25, Tryz.ntmps25
    go_wp2_with fail
    try rw [HW1.out]
    refine cV.mono ?_
    rintro e w2 ⟨rfl, b2⟩
    have r2 := HM.out.later b2
    have m2 := ML.out.later b2
    have bw2 := bw1.trans (b2.mono bw1.size)
    clear c0 c1 c2 c3 c4 c5 c6 c7 f0 f1 f2 f3 f4 f5 f6 f7 HM ML b2
    obtain ⟨c0, c1, c2, c3, c4, c5, c6, c7, f0, f1, f2, f3, f4, f5, f6, f7, lt0⟩ := id m2
    obtain ⟨X, hX, rX, keep, _, _⟩ := (r2).setAll 0 0 0 0 0 ⟨#[]⟩ 0 false
    have bX := keep bw2 (Nat.le_succ _)
    have HX := Lib.hid hX
    have RX := Lib.hid rX
    obtain ⟨j0, j1, j2, j3, j4, j5, j6, j7, g0, g1, g2, g3, g4, g5, g6, g7, _⟩ := r2
    clear hX rX keep
    go_wp2_with fail
    rw [HX.out]
    obtain ⟨i0, i1, i2, i3, i4, i5, i6, i7, _⟩ := RX.out.at
    refine bodyPost_ret (v := .tuple #[.agg #[.int .i64 0, .int .i64 0, .int .i64 0, .int .i64 0, .int .i64 0, .string ⟨#[]⟩, .int .i64 0, .bool false], .int .i64 6]) (by simp [results, Tryz.results25, go_sem, i0, i1, i2, i3, i4, i5, i6, i7]) rfl ⟨rfl, bX⟩
set_option maxRecDepth 100000 in
set_option maxHeartbeats 8000000 in
theorem addMon_ok (y mo d h mi mu : Nat) (S : ByteArray) (z : Int) (has : Bool) (k : MomOk y mo d h mi mu S z has) (n : Int) (t : Nat) (hnt : n + (12 * ((y : Int) - 1) + (mo : Int) - 1) = (t : Int)) (ht : t < 119988) (w : World) (hg : GrT w) :
    Calls Tryz.prog 25 #[momV (y : Int) (mo : Int) (d : Int) (h : Int) (mi : Int) S z has, .int .i64 n] w fun e w' => e = .returned (.tuple #[momV ((t / 12 + 1 : Nat) : Int) ((t % 12 + 1 : Nat) : Int) ((min d (dim (t / 12 + 1) (t % 12 + 1)) : Nat) : Int) (h : Int) (mi : Int) S z has, .int .i64 0]) ∧ Below w.heap.size w w' := by
  have cV := fun W hW => isValid_ti (y : Int) (mo : Int) (d : Int) (h : Int) (mi : Int) S z has (by have := k.size; omega) W hW
  rw [k.valid] at cV
  have y1 := k.date.y1
  have y2 := k.date.y2
  have mo1 := k.date.m1
  have mo2 := k.date.m2
  have cD := fun W hW => daysOf_ti (t / 12 + 1) (t % 12 + 1) (by omega) (by omega) (by omega) W hW
  have hdm := dim_le (t / 12 + 1) (t % 12 + 1)
  have HG := Lib.hid hg
  try unfold momZ
  unfold momV at cV ⊢
  have b0 : Below w.heap.size w (w.alloc (.cells #[.int .i64 (y : Int), .int .i64 (mo : Int), .int .i64 (d : Int), .int .i64 (h : Int), .int .i64 (mi : Int), .string S, .int .i64 z, .bool has] 24)) := (Below.refl _ _).alloc (Nat.le_refl _) _
  have m1 := (MomW.new w (y : Int) (mo : Int) (d : Int) (h : Int) (mi : Int) S z has).later ((Below.refl _ _).alloc (Nat.le_refl _) (.cells #[.int .i64 0, .int .i64 0, .int .i64 0, .int .i64 0, .int .i64 0, .string ⟨#[]⟩, .int .i64 0, .bool false] 24))
  have r1 := MomW.new (w.alloc (.cells #[.int .i64 (y : Int), .int .i64 (mo : Int), .int .i64 (d : Int), .int .i64 (h : Int), .int .i64 (mi : Int), .string S, .int .i64 z, .bool has] 24)) 0 0 0 0 0 ⟨#[]⟩ 0 false
  have bw1 : Below w.heap.size w ((w.alloc (.cells #[.int .i64 (y : Int), .int .i64 (mo : Int), .int .i64 (d : Int), .int .i64 (h : Int), .int .i64 (mi : Int), .string S, .int .i64 z, .bool has] 24)).alloc (.cells #[.int .i64 0, .int .i64 0, .int .i64 0, .int .i64 0, .int .i64 0, .string ⟨#[]⟩, .int .i64 0, .bool false] 24)) := b0.alloc (by simp) _
  obtain ⟨W1, hW1⟩ : ∃ W, (w.alloc (.cells #[.int .i64 (y : Int), .int .i64 (mo : Int), .int .i64 (d : Int), .int .i64 (h : Int), .int .i64 (mi : Int), .string S, .int .i64 z, .bool has] 24)).alloc (.cells #[.int .i64 0, .int .i64 0, .int .i64 0, .int .i64 0, .int .i64 0, .string ⟨#[]⟩, .int .i64 0, .bool false] 24) = W := ⟨_, rfl⟩
  rw [World.size_alloc] at r1
  rw [hW1] at m1 r1 bw1
  have HW1 := Lib.hid hW1
  clear b0 hW1
  have cV := cV W1 (hg.later bw1)
  have HM := Lib.hid r1
  have ML := Lib.hid m1
  obtain ⟨c0, c1, c2, c3, c4, c5, c6, c7, f0, f1, f2, f3, f4, f5, f6, f7, _⟩ := m1
  clear hg k r1
  obtain ⟨K, hK⟩ : ∃ K : Nat, 12 * ((y : Int) - 1) + (mo : Int) - 1 = (K : Int) := ⟨12 * (y - 1) + (mo - 1), by omega⟩
  rw [hK] at hnt
  obtain ⟨DM, hDM⟩ : ∃ D, dim (t / 12 + 1) (t % 12 + 1) = D := ⟨_, rfl⟩
  rw [hDM] at cD hdm
  rw [hDM]
  have HNT := Lib.hid hnt
  simp only [Int.natCast_ediv, Int.natCast_emod, Int.natCast_add, Int.cast_ofNat_Int] at cD
  rw [← hnt] at cD
  have K9 : (K : Int) ≤ 200000 := by omega
  have t0 : (0 : Int) ≤ n + (K : Int) := by omega
  have t9 : n + (K : Int) < 119988 := by omega
  have hlo : ¬ n < -(K : Int) := by omega
  have hhi : ¬ 119988 - (K : Int) ≤ n := by omega
  have HDM := Lib.hid hDM
  have HMIN := Lib.hid (show ((min d DM : Nat) : Int) = min (d : Int) (DM : Int) by omega)
  clear hnt ht hDM
  go_enter Tryz.func25, Tryz.ntmps25
  go_wp2_with fail
  try rw [HW1.out]
  refine cV.mono ?_
  rintro e w2 ⟨rfl, b2⟩
  have r2 := HM.out.later b2
  have m2 := ML.out.later b2
  have bw2 := bw1.trans (b2.mono bw1.size)
  clear c0 c1 c2 c3 c4 c5 c6 c7 f0 f1 f2 f3 f4 f5 f6 f7 HM ML b2
  obtain ⟨c0, c1, c2, c3, c4, c5, c6, c7, f0, f1, f2, f3, f4, f5, f6, f7, lt0⟩ := id m2
  obtain ⟨V, hV, v3, keepV, othV, szV⟩ := m2.setYM ((n + (K : Int)) / 12 + 1) ((n + (K : Int)) % 12 + 1)
  have rV := r2.other (othV _ (by simp)) (Nat.le_of_eq szV.symm)
  have bV := keepV bw2 (Nat.le_refl _)
  have HV := Lib.hid hV
  have vd : MomW V.drew w.heap.size ((n + (K : Int)) / 12 + 1) ((n + (K : Int)) % 12 + 1) (d : Int) (h : Int) (mi : Int) S z has := v3.other rfl (Nat.le_refl _)
  have rd : MomW V.drew (w.heap.size + 1) 0 0 0 0 0 ⟨#[]⟩ 0 false := rV.other rfl (Nat.le_refl _)
  have bd := bV.drew
  have u3 : MomW (V.setCell ⟨w.heap.size, 2, none⟩ (.int .i64 (min (d : Int) (DM : Int)))).drew w.heap.size ((n + (K : Int)) / 12 + 1) ((n + (K : Int)) % 12 + 1) (min (d : Int) (DM : Int)) (h : Int) (mi : Int) S z has := (v3.set2 (min (d : Int) (DM : Int))).other rfl (Nat.le_refl _)
  have uR : MomW (V.setCell ⟨w.heap.size, 2, none⟩ (.int .i64 (min (d : Int) (DM : Int)))).drew (w.heap.size + 1) 0 0 0 0 0 ⟨#[]⟩ 0 false := rV.other (Below.heap_setCell _ _ _ _ (by simp)) (by simp [World.setCell])
  have bU : Below w.heap.size w (V.setCell ⟨w.heap.size, 2, none⟩ (.int .i64 (min (d : Int) (DM : Int)))).drew := (bV.setCell (p := ⟨w.heap.size, 2, none⟩) (Nat.le_refl _) _).drew
  obtain ⟨U, hU⟩ : ∃ U, (V.setCell ⟨w.heap.size, 2, none⟩ (.int .i64 (min (d : Int) (DM : Int)))).drew = U := ⟨_, rfl⟩
  rw [hU] at u3 uR bU
  have HU := Lib.hid hU
  have U3 := Lib.hid u3
  have UR := Lib.hid uR
  obtain ⟨X, hX, rX, keepX, _, _⟩ := uR.setAll ((n + (K : Int)) / 12 + 1) ((n + (K : Int)) % 12 + 1) (min (d : Int) (DM : Int)) (h : Int) (mi : Int) S z has
  have bX := keepX bU (Nat.le_succ _)
  have HX := Lib.hid hX
  have RX := Lib.hid rX
  have BX := Lib.hid bX
  clear hU u3 uR bU hX rX keepX bX
  have v3h := Lib.hid v3
  have cDo := cD
  have tV := HG.out.tab.later bV
  have tD := HG.out.tab.later bd
  clear cD
  clear hV v3 keepV othV szV rV vd rd bd m2 r2 bV
  go_wp2_with fail
  rw [HV.out]
  clear c0 c1 c2 c3 c4 c5 c6 c7 f0 f1 f2 f3 f4 f5 f6 f7 lt0
  obtain ⟨c0, c1, c2, c3, c4, c5, c6, c7, f0, f1, f2, f3, f4, f5, f6, f7, lt0⟩ := v3h.out
  go_region_with ((go_at_call 64; refine (cDo _ (by first | exact tV | exact tD)).mono ?_; rintro e wX ⟨rfl, rfl⟩))
  all_goals
    rw [HU.out]
    clear c0 c1 c2 c3 c4 c5 c6 c7 f0 f1 f2 f3 f4 f5 f6 f7 lt0 tV tD cDo
    obtain ⟨c0, c1, c2, c3, c4, c5, c6, c7, f0, f1, f2, f3, f4, f5, f6, f7, lt0⟩ := U3.out
    obtain ⟨j0, j1, j2, j3, j4, j5, j6, j7, g0, g1, g2, g3, g4, g5, g6, g7, lt1⟩ := UR.out
    go_wp2_with fail
    rw [HX.out]
    obtain ⟨i0, i1, i2, i3, i4, i5, i6, i7, _⟩ := RX.out.at
    refine bodyPost_ret (v := .tuple #[.agg #[.int .i64 ((n + (K : Int)) / 12 + 1), .int .i64 ((n + (K : Int)) % 12 + 1), .int .i64 (min (d : Int) (DM : Int)), .int .i64 (h : Int), .int .i64 (mi : Int), .string S, .int .i64 z, .bool has], .int .i64 0]) (by simp [results, Tryz.results25, go_sem, i0, i1, i2, i3, i4, i5, i6, i7]) rfl ⟨?_, BX.out⟩
    rw [HNT.out]
    simp only [Int.natCast_ediv, Int.natCast_emod, Int.natCast_add, Int.cast_ofNat_Int]
    rw [HMIN.out]
end Go.Proofs.YtgmnjghbafbopaaGreatDoor

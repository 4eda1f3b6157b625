/- Dates: the contract of parts for kind 6. -/
import Derived.Test.YtgmnjghbafbopaaGreatDoorMTiH
import Derived.Deep.Cut
namespace Go.Proofs.YtgmnjghbafbopaaGreatDoor
open Go.RowKit Go.Lib

set_option maxRecDepth 100000 in
set_option maxHeartbeats 8000000 in
theorem parts_date (s : ByteArray) (w : World) (hg : GrT w) :
    Calls Tryz.prog 44 #[.int .i64 6, .string s] w (PartsG w (partsD s.data.toList)) := by
  obtain ⟨G, hG⟩ : ∃ G, PartsG w (partsD s.data.toList) = G := ⟨_, rfl⟩
  have HG := Lib.hid hG
  rw [hG]
  have m0 := (MomW.new w 1972 12 31 0 0 ⟨#[48]⟩ 0 false).later ((Below.refl _ _).alloc (Nat.le_refl _) (.cells #[.string s] 9))
  have x0 := BoxS.new (w.alloc (.cells #[.int .i64 1972, .int .i64 12, .int .i64 31, .int .i64 0, .int .i64 0, .string ⟨#[48]⟩, .int .i64 0, .bool false] 24)) s
  rw [World.size_alloc] at x0
  have b0 : Below w.heap.size w ((w.alloc (.cells #[.int .i64 1972, .int .i64 12, .int .i64 31, .int .i64 0, .int .i64 0, .string ⟨#[48]⟩, .int .i64 0, .bool false] 24)).alloc (.cells #[.string s] 9)) := ((Below.refl _ _).alloc (Nat.le_refl _) _).alloc (by simp) _
  obtain ⟨V0, hV0⟩ : ∃ W, (w.alloc (.cells #[.int .i64 1972, .int .i64 12, .int .i64 31, .int .i64 0, .int .i64 0, .string ⟨#[48]⟩, .int .i64 0, .bool false] 24)).alloc (.cells #[.string s] 9) = W := ⟨_, rfl⟩
  rw [hV0] at m0 x0 b0
  have s0 : PS w V0 1972 12 31 0 0 ⟨#[48]⟩ s := ⟨m0, x0, b0⟩
  have HV0 := Lib.hid hV0
  have HZ0 : Hid (V0.heap.size = w.heap.size + 1 + 1) := Lib.hid (by rw [← hV0]; simp)
  have HGR := Lib.hid hg
  have cR := (reading_ti s (w.alloc (.cells #[.int .i64 0, .int .i64 0, .int .i64 0, .int .i64 0, .int .i64 0, .string ⟨#[]⟩, .int .i64 0, .bool false] 24)))
  rw [World.size_alloc] at cR
  clear hV0 m0 x0 b0 hG hg
  go_enter Tryz.func44, Tryz.ntmps44
  go_wp2_with fail
  refine cR.mono ?_
  rintro e w00 ⟨rfl, rfl⟩
  clear cR
  go_wp2_with fail
  try rw [HV0.out]
  have hc1 := read_Y V0 _ s s0.x (w.heap.size + 1 + 1) HZ0.out
  refine hc1.mono ?_
  intro e w1 hr1
  cases hx1 : readL s.data.toList [fY] with
  | none =>
    rw [hx1] at hr1
    obtain ⟨rfl, kb1⟩ := hr1
    have HF := (show partsD s.data.toList = none by unfold partsD; unfold dateP; rw [hx1])
    have bF := kb1.below _ _ (by omega) s0.b
    first | (refine ⟨rfl, ?_⟩; rw [← HG.out, HF]; exact ⟨rfl, bF⟩) | (rw [← HG.out, HF]; exact ⟨rfl, bF⟩) | (simp [bodyPost]; rw [← HG.out, HF]; exact ⟨rfl, bF⟩)
  | some x1 =>
    rw [hx1] at hr1
    obtain ⟨P1, R1, rfl, hP1, hR1, bx1, kb1⟩ := hr1
    have hf1 := (read1_fits hx1).1
    have s0r1 := s0.read kb1 bx1
    have hR1' := hR1.symm
    clear hc1 kb1 bx1
    obtain ⟨l2, d2⟩ := fits_Y hf1
    have hn2 := number_ti P1 x1.1 d2 (by intro e; rw [e] at l2; cases l2) (by omega) (.inl hP1)
    obtain ⟨v2, hv2⟩ : ∃ v, valD x1.1 0 = v := ⟨_, rfl⟩
    rw [hv2] at hn2
    go_wp2_with fail
    refine (hn2 _).mono ?_
    rintro e w2 ⟨rfl, hb2⟩
    have s0r1n2 := s0r1.later hb2
    clear hn2 hb2
    go_wp2_with fail
    have hc3 := read_M w2 _ R1 s0r1n2.x _ rfl
    refine hc3.mono ?_
    intro e w3 hr3
    cases hx3 : readL R1.data.toList [fM] with
    | none =>
      rw [hx3] at hr3
      obtain ⟨rfl, kb3⟩ := hr3
      have HF := (show partsD s.data.toList = none by unfold partsD; unfold dateP; rw [hx1]; simp only; rw [hR1']; rw [hx3])
      have bF := kb3.below _ _ (by omega) s0r1n2.b
      first | (refine ⟨rfl, ?_⟩; rw [← HG.out, HF]; exact ⟨rfl, bF⟩) | (rw [← HG.out, HF]; exact ⟨rfl, bF⟩) | (simp [bodyPost]; rw [← HG.out, HF]; exact ⟨rfl, bF⟩)
    | some x3 =>
      rw [hx3] at hr3
      obtain ⟨P3, R3, rfl, hP3, hR3, bx3, kb3⟩ := hr3
      have hf3 := (read1_fits hx3).1
      have s0r1n2r3 := s0r1n2.read kb3 bx3
      have hR3' := hR3.symm
      clear hc3 kb3 bx3
      obtain ⟨q4, e4, l4, d4⟩ := fits_M hf3
      have hn4 := number_ti P3 q4 d4 (by intro e; rw [e] at l4; cases l4) (by omega) (.inr (.inl (hP3.trans e4)))
      have ev4 : valD q4 0 = tailV x3.1 := by unfold tailV; rw [e4]; rfl
      rw [ev4] at hn4
      obtain ⟨v4, hv4⟩ : ∃ v, tailV x3.1 = v := ⟨_, rfl⟩
      rw [hv4] at hn4
      go_wp2_with fail
      refine (hn4 _).mono ?_
      rintro e w4 ⟨rfl, hb4⟩
      have s0r1n2r3n4 := s0r1n2r3.later hb4
      clear hn4 hb4
      go_wp2_with fail
      have hc5 := read_M w4 _ R3 s0r1n2r3n4.x _ rfl
      refine hc5.mono ?_
      intro e w5 hr5
      cases hx5 : readL R3.data.toList [fM] with
      | none =>
        rw [hx5] at hr5
        obtain ⟨rfl, kb5⟩ := hr5
        have HF := (show partsD s.data.toList = none by unfold partsD; unfold dateP; rw [hx1]; simp only; rw [hR1']; rw [hx3]; simp only; rw [hR3']; rw [hx5])
        have bF := kb5.below _ _ (by omega) s0r1n2r3n4.b
        first | (refine ⟨rfl, ?_⟩; rw [← HG.out, HF]; exact ⟨rfl, bF⟩) | (rw [← HG.out, HF]; exact ⟨rfl, bF⟩) | (simp [bodyPost]; rw [← HG.out, HF]; exact ⟨rfl, bF⟩)
      | some x5 =>
        rw [hx5] at hr5
        obtain ⟨P5, R5, rfl, hP5, hR5, bx5, kb5⟩ := hr5
        have hf5 := (read1_fits hx5).1
        have s0r1n2r3n4r5 := s0r1n2r3n4.read kb5 bx5
        have hR5' := hR5.symm
        clear hc5 kb5 bx5
        obtain ⟨q6, e6, l6, d6⟩ := fits_M hf5
        have hn6 := number_ti P5 q6 d6 (by intro e; rw [e] at l6; cases l6) (by omega) (.inr (.inl (hP5.trans e6)))
        have ev6 : valD q6 0 = tailV x5.1 := by unfold tailV; rw [e6]; rfl
        rw [ev6] at hn6
        obtain ⟨v6, hv6⟩ : ∃ v, tailV x5.1 = v := ⟨_, rfl⟩
        rw [hv6] at hn6
        go_wp2_with fail
        refine (hn6 _).mono ?_
        rintro e w6 ⟨rfl, hb6⟩
        have s0r1n2r3n4r5n6 := s0r1n2r3n4r5.later hb6
        clear hn6 hb6
        obtain ⟨V1, hV1, sD⟩ := s0r1n2r3n4r5n6.setDate (v2 : Int) (v4 : Int) (v6 : Int)
        have HV1 := Lib.hid hV1
        have m7 := s0r1n2r3n4r5n6.m
        obtain ⟨c0, c1, c2, c3, c4, c5, c6, c7, f0, f1, f2, f3, f4, f5, f6, f7, lt0⟩ := m7
        have HD : Hid (dateP s.data.toList = some ((v2, v4, v6), R5.data.toList)) := Lib.hid (by unfold dateP; rw [hx1]; simp only; rw [hR1', hx3]; simp only; rw [hR3', hx5]; simp only; rw [hv2, hv4, hv6, hR5'])
        clear hV1 hx1 hP1 hR1 hR1' hf1 hx3 hP3 hR3 hR3' hf3 hx5 hP5 hR5 hR5' hf5
        go_upto_region 5 with fail
        rw [HV1.out]
        clear c0 c1 c2 c3 c4 c5 c6 c7 f0 f1 f2 f3 f4 f5 f6 f7 lt0
        clear HV1
        go_wp2_with fail
        have hc8 := read_Z V1 _ R5 sD.x _ rfl
        refine hc8.mono ?_
        intro e w8 hr8
        obtain ⟨x8, hx8⟩ := readZ_some R5.data.toList
        rw [hx8] at hr8
        obtain ⟨P8, R8, rfl, hP8, hR8, bx8, kb8⟩ := hr8
        have HZr := Lib.hid hx8
        have sDr8 := sD.read kb8 bx8
        have hR8' := hR8.symm
        clear hc8 kb8 bx8
        by_cases hend : R8.data.toList = []
        · have HZ : Hid (zoneP R5.data.toList = some P8.data.toList) := Lib.hid (by unfold zoneP; rw [HZr.out]; simp only; rw [hP8, ← hR8, if_pos hend])
          obtain ⟨X, hX, sX, keepX, _, _⟩ := sDr8.m.setAll (v2 : Int) (v4 : Int) (v6 : Int) (0 : Int) (0 : Int) ⟨#[48]⟩ 0 false
          have bX := keepX sDr8.b (Nat.le_refl _)
          have HX := Lib.hid hX
          have SX := Lib.hid sX
          have cE := end_ok _ R8 hend _ sDr8.x
          have m9 := sDr8.m
          obtain ⟨c0, c1, c2, c3, c4, c5, c6, c7, f0, f1, f2, f3, f4, f5, f6, f7, lt0⟩ := m9
          clear hX sX keepX hend
          go_wp2_with fail
          refine cE.mono ?_
          rintro e wE ⟨rfl, rfl⟩
          clear cE
          go_wp2_with fail
          rw [HX.out]
          obtain ⟨i0, i1, i2, i3, i4, i5, i6, i7, _⟩ := SX.out.at
          have HP : partsD s.data.toList = some ⟨v2, v4, v6, 0, 0, [48], P8.data.toList⟩ := by unfold partsD; rw [HD.out]; simp only; rw [HZ.out]
          refine bodyPost_ret (v := .tuple #[.agg #[.int .i64 (v2 : Int), .int .i64 (v4 : Int), .int .i64 (v6 : Int), .int .i64 (0 : Int), .int .i64 (0 : Int), .string ⟨#[48]⟩, .int .i64 0, .bool false], .string P8]) (by simp [results, Tryz.results44, go_sem, i0, i1, i2, i3, i4, i5, i6, i7]) rfl ?_
          rw [← HG.out, HP]
          exact ⟨⟨#[48]⟩, P8, rfl, rfl, rfl, bX⟩
        · have HZ : Hid (zoneP R5.data.toList = none) := Lib.hid (by unfold zoneP; rw [HZr.out]; simp only; rw [← hR8, if_neg hend])
          have cE := end_no _ R8 hend _ sDr8.x
          have bF := sDr8.b
          clear hend
          go_wp2_with fail
          refine cE.mono ?_
          rintro e wE ⟨rfl, rfl⟩
          have HF : partsD s.data.toList = none := by unfold partsD; rw [HD.out]; simp only; rw [HZ.out]
          first | (refine ⟨rfl, ?_⟩; rw [← HG.out, HF]; exact ⟨rfl, bF⟩) | (rw [← HG.out, HF]; exact ⟨rfl, bF⟩) | (simp [bodyPost]; rw [← HG.out, HF]; exact ⟨rfl, bF⟩)
end Go.Proofs.YtgmnjghbafbopaaGreatDoor

/- Dates: the contract of parts for kind 7. -/
import Derived.Test.YtgmnjghbafbopaaGreatDoorMTiH
import Derived.Deep.Cut
namespace Go.Proofs.YtgmnjghbafbopaaGreatDoor
open Go.RowKit Go.Lib

set_option maxRecDepth 100000 in
set_option maxHeartbeats 8000000 in
theorem parts_time (s : ByteArray) (w : World) (hg : GrT w) :
    Calls Tryz.prog 44 #[.int .i64 7, .string s] w (PartsG w (partsC s.data.toList)) := by
  obtain ⟨G, hG⟩ : ∃ G, PartsG w (partsC s.data.toList) = G := ⟨_, rfl⟩
  have HG := Lib.hid hG
  rw [hG]
  have m0 := (MomW.new w 1972 12 31 0 0 ⟨#[48]⟩ 0 false).later ((Below.refl _ _).alloc (Nat.le_refl _) (.cells #[.string s] 9))
  have x0 := BoxS.new (w.alloc (.cells #[.int .i64 1972, .int .i64 12, .int .i64 31, .int .i64 0, .int .i64 0, .string ⟨#[48]⟩, .int .i64 0, .bool false] 24)) s
  rw [World.size_alloc] at x0
  have b0 : Below w.heap.size w ((w.alloc (.cells #[.int .i64 1972, .int .i64 12, .int .i64 31, .int .i64 0, .int .i64 0, .string ⟨#[48]⟩, .int .i64 0, .bool false] 24)).alloc (.cells #[.string s] 9)) := ((Below.refl _ _).alloc (Nat.le_refl _) _).alloc (by simp) _
  obtain ⟨V0, hV0⟩ : ∃ W, (w.alloc (.cells #[.int .i64 1972, .int .i64 12, .int .i64 31, .int .i64 0, .int .i64 0, .string ⟨#[48]⟩, .int .i64 0, .bool false] 24)).alloc (.cells #[.string s] 9) = W := ⟨_, rfl⟩
  rw [hV0] at m0 x0 b0
  have s0 : PS w V0 1972 12 31 0 0 ⟨#[48]⟩ s := ⟨m0, x0, b0⟩
  have HV0 := Lib.hid hV0
  have HZ0 : Hid (V0.heap.size = w.heap.size + 1 + 1) := Lib.hid (by rw [← hV0]; simp)
  have HGR := Lib.hid hg
  have cR := (reading_ti s (w.alloc (.cells #[.int .i64 0, .int .i64 0, .int .i64 0, .int .i64 0, .int .i64 0, .string ⟨#[]⟩, .int .i64 0, .bool false] 24)))
  rw [World.size_alloc] at cR
  clear hV0 m0 x0 b0 hG hg
  go_enter Tryz.func44, Tryz.ntmps44
  go_wp2_with fail
  refine cR.mono ?_
  rintro e w00 ⟨rfl, rfl⟩
  clear cR
  go_wp2_with fail
  try rw [HV0.out]
  have hc1 := read_H V0 _ s s0.x (w.heap.size + 1 + 1) HZ0.out
  refine hc1.mono ?_
  intro e w1 hr1
  cases hx1 : readL s.data.toList [fH] with
  | none =>
    rw [hx1] at hr1
    obtain ⟨rfl, kb1⟩ := hr1
    have HF := (show partsC s.data.toList = none by unfold partsC; unfold timeP; rw [hx1])
    have bF := kb1.below _ _ (by omega) s0.b
    first | (refine ⟨rfl, ?_⟩; rw [← HG.out, HF]; exact ⟨rfl, bF⟩) | (rw [← HG.out, HF]; exact ⟨rfl, bF⟩) | (simp [bodyPost]; rw [← HG.out, HF]; exact ⟨rfl, bF⟩)
  | some x1 =>
    rw [hx1] at hr1
    obtain ⟨P1, R1, rfl, hP1, hR1, bx1, kb1⟩ := hr1
    have hf1 := (read1_fits hx1).1
    have s0r1 := s0.read kb1 bx1
    have hR1' := hR1.symm
    clear hc1 kb1 bx1
    obtain ⟨l2, d2⟩ := fits_H hf1
    have hn2 := number_ti P1 x1.1 d2 (by intro e; rw [e] at l2; cases l2) (by omega) (.inl hP1)
    obtain ⟨v2, hv2⟩ : ∃ v, valD x1.1 0 = v := ⟨_, rfl⟩
    rw [hv2] at hn2
    go_wp2_with fail
    refine (hn2 _).mono ?_
    rintro e w2 ⟨rfl, hb2⟩
    have s0r1n2 := s0r1.later hb2
    clear hn2 hb2
    go_wp2_with fail
    have hc3 := read_C w2 _ R1 s0r1n2.x _ rfl
    refine hc3.mono ?_
    intro e w3 hr3
    cases hx3 : readL R1.data.toList [fC] with
    | none =>
      rw [hx3] at hr3
      obtain ⟨rfl, kb3⟩ := hr3
      have HF := (show partsC s.data.toList = none by unfold partsC; unfold timeP; rw [hx1]; simp only; rw [hR1']; rw [hx3])
      have bF := kb3.below _ _ (by omega) s0r1n2.b
      first | (refine ⟨rfl, ?_⟩; rw [← HG.out, HF]; exact ⟨rfl, bF⟩) | (rw [← HG.out, HF]; exact ⟨rfl, bF⟩) | (simp [bodyPost]; rw [← HG.out, HF]; exact ⟨rfl, bF⟩)
    | some x3 =>
      rw [hx3] at hr3
      obtain ⟨P3, R3, rfl, hP3, hR3, bx3, kb3⟩ := hr3
      have hf3 := (read1_fits hx3).1
      have s0r1n2r3 := s0r1n2.read kb3 bx3
      have hR3' := hR3.symm
      clear hc3 kb3 bx3
      obtain ⟨q4, e4, l4, d4⟩ := fits_C hf3
      have hn4 := number_ti P3 q4 d4 (by intro e; rw [e] at l4; cases l4) (by omega) (.inr (.inr (hP3.trans e4)))
      have ev4 : valD q4 0 = tailV x3.1 := by unfold tailV; rw [e4]; rfl
      rw [ev4] at hn4
      obtain ⟨v4, hv4⟩ : ∃ v, tailV x3.1 = v := ⟨_, rfl⟩
      rw [hv4] at hn4
      go_wp2_with fail
      refine (hn4 _).mono ?_
      rintro e w4 ⟨rfl, hb4⟩
      have s0r1n2r3n4 := s0r1n2r3.later hb4
      clear hn4 hb4
      obtain ⟨V2, hV2, sH⟩ := s0r1n2r3n4.setHM (v2 : Int) (v4 : Int)
      have HV2 := Lib.hid hV2
      have m5 := s0r1n2r3n4.m
      obtain ⟨c0, c1, c2, c3, c4, c5, c6, c7, f0, f1, f2, f3, f4, f5, f6, f7, lt0⟩ := m5
      clear hV2
      go_upto_region 9 with fail
      rw [HV2.out]
      clear c0 c1 c2 c3 c4 c5 c6 c7 f0 f1 f2 f3 f4 f5 f6 f7 lt0
      clear HV2
      go_wp2_with fail
      have hc6 := read_C V2 _ R3 sH.x _ rfl
      refine hc6.mono ?_
      intro e w6 hr6
      cases hx6 : readL R3.data.toList [fC] with
      | none =>
        rw [hx6] at hr6
        obtain ⟨rfl, kb6⟩ := hr6
        have HF := (show partsC s.data.toList = none by unfold partsC; unfold timeP; rw [hx1]; simp only; rw [hR1']; rw [hx3]; simp only; rw [hR3']; rw [hx6])
        have bF := kb6.below _ _ (by omega) sH.b
        first | (refine ⟨rfl, ?_⟩; rw [← HG.out, HF]; exact ⟨rfl, bF⟩) | (rw [← HG.out, HF]; exact ⟨rfl, bF⟩) | (simp [bodyPost]; rw [← HG.out, HF]; exact ⟨rfl, bF⟩)
      | some x6 =>
        rw [hx6] at hr6
        obtain ⟨P6, R6, rfl, hP6, hR6, bx6, kb6⟩ := hr6
        have hf6 := (read1_fits hx6).1
        have sHr6 := sH.read kb6 bx6
        have hR6' := hR6.symm
        clear hc6 kb6 bx6
        obtain ⟨q7, e7, l7, d7⟩ := fits_C hf6
        obtain ⟨D7, hD7, hDl7⟩ := ba_ex q7
        have cTP := Tryz.strings_TrimPrefix P6 ⟨#[58]⟩
        rw [hP6, e7, show Lib.trimPrefix (58 :: q7) (⟨#[58]⟩ : ByteArray).data.toList = q7 by simp [Lib.trimPrefix, Lib.hasPrefix], hD7] at cTP
        go_wp2_with fail
        refine (cTP _).mono ?_
        rintro e w7 ⟨rfl, hw7⟩
        rw [hw7]
        clear cTP hw7 w7
        go_wp2_with fail
        have hc8 := read_F w6 _ R6 sHr6.x _ rfl
        refine hc8.mono ?_
        intro e w8 hr8
        obtain ⟨x8, hx8⟩ := readF_some R6.data.toList
        rw [hx8] at hr8
        obtain ⟨P8, R8, rfl, hP8, hR8, bx8, kb8⟩ := hr8
        have HFr := Lib.hid hx8
        have sHr6r8 := sHr6.read kb8 bx8
        have hR8' := hR8.symm
        clear hc8 kb8 bx8
        obtain ⟨_, ff, hff, hfit⟩ := readL_len hx8
        have lF := fits_len hfit
        have lF7 := fF_len ff hff
        have sD1 : D7.size = 2 := by rw [← bsize, hDl7, l7]
        have sF1 : P8.size ≤ 7 := by rw [← bsize, hP8]; omega
        obtain ⟨J, hJ⟩ : ∃ J, D7 ++ P8 = J := ⟨_, rfl⟩
        have hJs : J.size ≤ 9 := by rw [← hJ, ByteArray.size_append]; omega
        have hJl : J.data.toList = q7 ++ x8.1 := by rw [← hJ, ByteArray.data_append, Array.toList_append, hDl7, hP8]
        obtain ⟨SC, z9, hSC⟩ := res_ex (readR J.data.toList)
        have cNP := (parse_on (HGR.out.later sHr6r8.b).num J SC z9 (by omega) hSC).use w8 (Below.refl _ _)
        clear lF lF7 hff hfit
        go_wp2_with fail
        refine cNP.mono ?_
        rintro e wN ⟨rfl, hbN⟩
        have sN := sHr6r8.later hbN
        obtain ⟨V3, hV3, sS⟩ := sN.setSec SC
        have HV3 := Lib.hid hV3
        have m9 := sN.m
        obtain ⟨c0, c1, c2, c3, c4, c5, c6, c7, f0, f1, f2, f3, f4, f5, f6, f7, lt0⟩ := m9
        clear hV3 cNP hbN
        go_upto_region 12 with fail
        rw [HV3.out]
        clear c0 c1 c2 c3 c4 c5 c6 c7 f0 f1 f2 f3 f4 f5 f6 f7 lt0
        clear HV3
        have HC : Hid (timeP s.data.toList = some ((v2, v4, SC.data.toList), R8.data.toList)) := Lib.hid (by unfold timeP; rw [hx1]; simp only; rw [hR1', hx3]; simp only; rw [hR3', hx6]; simp only; rw [hR6', HFr.out]; simp only; rw [hv2, hv4, hR8', show x6.1.drop 1 = q7 by rw [e7]; rfl, ← hJl, hSC])
        clear hx1 hP1 hR1 hR1' hx3 hP3 hR3 hR3' hx6 hP6 hR6 hR6' hx8 hP8 hR8 hR8' hf1 hf3 hf6 HFr hJ hJl hSC hD7 hDl7
        go_wp2_with fail
        have hc10 := read_Z V3 _ R8 sS.x _ rfl
        refine hc10.mono ?_
        intro e w10 hr10
        obtain ⟨x10, hx10⟩ := readZ_some R8.data.toList
        rw [hx10] at hr10
        obtain ⟨P10, R10, rfl, hP10, hR10, bx10, kb10⟩ := hr10
        have HZr := Lib.hid hx10
        have sSr10 := sS.read kb10 bx10
        have hR10' := hR10.symm
        clear hc10 kb10 bx10
        by_cases hend : R10.data.toList = []
        · have HZ : Hid (zoneP R8.data.toList = some P10.data.toList) := Lib.hid (by unfold zoneP; rw [HZr.out]; simp only; rw [hP10, ← hR10, if_pos hend])
          obtain ⟨X, hX, sX, keepX, _, _⟩ := sSr10.m.setAll (1972 : Int) (12 : Int) (31 : Int) (v2 : Int) (v4 : Int) SC 0 false
          have bX := keepX sSr10.b (Nat.le_refl _)
          have HX := Lib.hid hX
          have SX := Lib.hid sX
          have cE := end_ok _ R10 hend _ sSr10.x
          have m11 := sSr10.m
          obtain ⟨c0, c1, c2, c3, c4, c5, c6, c7, f0, f1, f2, f3, f4, f5, f6, f7, lt0⟩ := m11
          clear hX sX keepX hend
          go_wp2_with fail
          refine cE.mono ?_
          rintro e wE ⟨rfl, rfl⟩
          clear cE
          go_wp2_with fail
          rw [HX.out]
          obtain ⟨i0, i1, i2, i3, i4, i5, i6, i7, _⟩ := SX.out.at
          have HP : partsC s.data.toList = some ⟨1972, 12, 31, v2, v4, SC.data.toList, P10.data.toList⟩ := by unfold partsC; rw [HC.out]; simp only; rw [HZ.out]
          refine bodyPost_ret (v := .tuple #[.agg #[.int .i64 (1972 : Int), .int .i64 (12 : Int), .int .i64 (31 : Int), .int .i64 (v2 : Int), .int .i64 (v4 : Int), .string SC, .int .i64 0, .bool false], .string P10]) (by simp [results, Tryz.results44, go_sem, i0, i1, i2, i3, i4, i5, i6, i7]) rfl ?_
          rw [← HG.out, HP]
          exact ⟨SC, P10, rfl, rfl, rfl, bX⟩
        · have HZ : Hid (zoneP R8.data.toList = none) := Lib.hid (by unfold zoneP; rw [HZr.out]; simp only; rw [← hR10, if_neg hend])
          have cE := end_no _ R10 hend _ sSr10.x
          have bF := sSr10.b
          clear hend
          go_wp2_with fail
          refine cE.mono ?_
          rintro e wE ⟨rfl, rfl⟩
          have HF : partsC s.data.toList = none := by unfold partsC; rw [HC.out]; simp only; rw [HZ.out]
          first | (refine ⟨rfl, ?_⟩; rw [← HG.out, HF]; exact ⟨rfl, bF⟩) | (rw [← HG.out, HF]; exact ⟨rfl, bF⟩) | (simp [bodyPost]; rw [← HG.out, HF]; exact ⟨rfl, bF⟩)
end Go.Proofs.YtgmnjghbafbopaaGreatDoor

/- Dates: the contract of parts for kind 8. -/
import Derived.Test.YtgmnjghbafbopaaGreatDoorMTiH
import Derived.Deep.Cut
namespace Go.Proofs.YtgmnjghbafbopaaGreatDoor
open Go.RowKit Go.Lib

set_option maxRecDepth 100000 in
set_option maxHeartbeats 8000000 in
theorem parts_both (s : ByteArray) (w : World) (hg : GrT w) :
    Calls Tryz.prog 44 #[.int .i64 8, .string s] w (PartsG w (partsM s.data.toList)) := by
  obtain ⟨G, hG⟩ : ∃ G, PartsG w (partsM s.data.toList) = G := ⟨_, rfl⟩
  have HG := Lib.hid hG
  rw [hG]
  have m0 := (MomW.new w 1972 12 31 0 0 ⟨#[48]⟩ 0 false).later ((Below.refl _ _).alloc (Nat.le_refl _) (.cells #[.string s] 9))
  have x0 := BoxS.new (w.alloc (.cells #[.int .i64 1972, .int .i64 12, .int .i64 31, .int .i64 0, .int .i64 0, .string ⟨#[48]⟩, .int .i64 0, .bool false] 24)) s
  rw [World.size_alloc] at x0
  have b0 : Below w.heap.size w ((w.alloc (.cells #[.int .i64 1972, .int .i64 12, .int .i64 31, .int .i64 0, .int .i64 0, .string ⟨#[48]⟩, .int .i64 0, .bool false] 24)).alloc (.cells #[.string s] 9)) := ((Below.refl _ _).alloc (Nat.le_refl _) _).alloc (by simp) _
  obtain ⟨V0, hV0⟩ : ∃ W, (w.alloc (.cells #[.int .i64 1972, .int .i64 12, .int .i64 31, .int .i64 0, .int .i64 0, .string ⟨#[48]⟩, .int .i64 0, .bool false] 24)).alloc (.cells #[.string s] 9) = W := ⟨_, rfl⟩
  rw [hV0] at m0 x0 b0
  have s0 : PS w V0 1972 12 31 0 0 ⟨#[48]⟩ s := ⟨m0, x0, b0⟩
  have HV0 := Lib.hid hV0
  have HZ0 : Hid (V0.heap.size = w.heap.size + 1 + 1) := Lib.hid (by rw [← hV0]; simp)
  have HGR := Lib.hid hg
  have cR := (reading_ti s (w.alloc (.cells #[.int .i64 0, .int .i64 0, .int .i64 0, .int .i64 0, .int .i64 0, .string ⟨#[]⟩, .int .i64 0, .bool false] 24)))
  rw [World.size_alloc] at cR
  clear hV0 m0 x0 b0 hG hg
  go_enter Tryz.func44, Tryz.ntmps44
  go_wp2_with fail
  refine cR.mono ?_
  rintro e w00 ⟨rfl, rfl⟩
  clear cR
  go_wp2_with fail
  try rw [HV0.out]
  have hc1 := read_Y V0 _ s s0.x (w.heap.size + 1 + 1) HZ0.out
  refine hc1.mono ?_
  intro e w1 hr1
  cases hx1 : readL s.data.toList [fY] with
  | none =>
    rw [hx1] at hr1
    obtain ⟨rfl, kb1⟩ := hr1
    have HF := (show partsM s.data.toList = none by unfold partsM; unfold dateP; rw [hx1])
    have bF := kb1.below _ _ (by omega) s0.b
    first | (refine ⟨rfl, ?_⟩; rw [← HG.out, HF]; exact ⟨rfl, bF⟩) | (rw [← HG.out, HF]; exact ⟨rfl, bF⟩) | (simp [bodyPost]; rw [← HG.out, HF]; exact ⟨rfl, bF⟩)
  | some x1 =>
    rw [hx1] at hr1
    obtain ⟨P1, R1, rfl, hP1, hR1, bx1, kb1⟩ := hr1
    have hf1 := (read1_fits hx1).1
    have s0r1 := s0.read kb1 bx1
    have hR1' := hR1.symm
    clear hc1 kb1 bx1
    obtain ⟨l2, d2⟩ := fits_Y hf1
    have hn2 := number_ti P1 x1.1 d2 (by intro e; rw [e] at l2; cases l2) (by omega) (.inl hP1)
    obtain ⟨v2, hv2⟩ : ∃ v, valD x1.1 0 = v := ⟨_, rfl⟩
    rw [hv2] at hn2
    go_wp2_with fail
    refine (hn2 _).mono ?_
    rintro e w2 ⟨rfl, hb2⟩
    have s0r1n2 := s0r1.later hb2
    clear hn2 hb2
    go_wp2_with fail
    have hc3 := read_M w2 _ R1 s0r1n2.x _ rfl
    refine hc3.mono ?_
    intro e w3 hr3
    cases hx3 : readL R1.data.toList [fM] with
    | none =>
      rw [hx3] at hr3
      obtain ⟨rfl, kb3⟩ := hr3
      have HF := (show partsM s.data.toList = none by unfold partsM; unfold dateP; rw [hx1]; simp only; rw [hR1']; rw [hx3])
      have bF := kb3.below _ _ (by omega) s0r1n2.b
      first | (refine ⟨rfl, ?_⟩; rw [← HG.out, HF]; exact ⟨rfl, bF⟩) | (rw [← HG.out, HF]; exact ⟨rfl, bF⟩) | (simp [bodyPost]; rw [← HG.out, HF]; exact ⟨rfl, bF⟩)
    | some x3 =>
      rw [hx3] at hr3
      obtain ⟨P3, R3, rfl, hP3, hR3, bx3, kb3⟩ := hr3
      have hf3 := (read1_fits hx3).1
      have s0r1n2r3 := s0r1n2.read kb3 bx3
      have hR3' := hR3.symm
      clear hc3 kb3 bx3
      obtain ⟨q4, e4, l4, d4⟩ := fits_M hf3
      have hn4 := number_ti P3 q4 d4 (by intro e; rw [e] at l4; cases l4) (by omega) (.inr (.inl (hP3.trans e4)))
      have ev4 : valD q4 0 = tailV x3.1 := by unfold tailV; rw [e4]; rfl
      rw [ev4] at hn4
      obtain ⟨v4, hv4⟩ : ∃ v, tailV x3.1 = v := ⟨_, rfl⟩
      rw [hv4] at hn4
      go_wp2_with fail
      refine (hn4 _).mono ?_
      rintro e w4 ⟨rfl, hb4⟩
      have s0r1n2r3n4 := s0r1n2r3.later hb4
      clear hn4 hb4
      go_wp2_with fail
      have hc5 := read_M w4 _ R3 s0r1n2r3n4.x _ rfl
      refine hc5.mono ?_
      intro e w5 hr5
      cases hx5 : readL R3.data.toList [fM] with
      | none =>
        rw [hx5] at hr5
        obtain ⟨rfl, kb5⟩ := hr5
        have HF := (show partsM s.data.toList = none by unfold partsM; unfold dateP; rw [hx1]; simp only; rw [hR1']; rw [hx3]; simp only; rw [hR3']; rw [hx5])
        have bF := kb5.below _ _ (by omega) s0r1n2r3n4.b
        first | (refine ⟨rfl, ?_⟩; rw [← HG.out, HF]; exact ⟨rfl, bF⟩) | (rw [← HG.out, HF]; exact ⟨rfl, bF⟩) | (simp [bodyPost]; rw [← HG.out, HF]; exact ⟨rfl, bF⟩)
      | some x5 =>
        rw [hx5] at hr5
        obtain ⟨P5, R5, rfl, hP5, hR5, bx5, kb5⟩ := hr5
        have hf5 := (read1_fits hx5).1
        have s0r1n2r3n4r5 := s0r1n2r3n4.read kb5 bx5
        have hR5' := hR5.symm
        clear hc5 kb5 bx5
        obtain ⟨q6, e6, l6, d6⟩ := fits_M hf5
        have hn6 := number_ti P5 q6 d6 (by intro e; rw [e] at l6; cases l6) (by omega) (.inr (.inl (hP5.trans e6)))
        have ev6 : valD q6 0 = tailV x5.1 := by unfold tailV; rw [e6]; rfl
        rw [ev6] at hn6
        obtain ⟨v6, hv6⟩ : ∃ v, tailV x5.1 = v := ⟨_, rfl⟩
        rw [hv6] at hn6
        go_wp2_with fail
        refine (hn6 _).mono ?_
        rintro e w6 ⟨rfl, hb6⟩
        have s0r1n2r3n4r5n6 := s0r1n2r3n4r5.later hb6
        clear hn6 hb6
        obtain ⟨V1, hV1, sD⟩ := s0r1n2r3n4r5n6.setDate (v2 : Int) (v4 : Int) (v6 : Int)
        have HV1 := Lib.hid hV1
        have m7 := s0r1n2r3n4r5n6.m
        obtain ⟨c0, c1, c2, c3, c4, c5, c6, c7, f0, f1, f2, f3, f4, f5, f6, f7, lt0⟩ := m7
        have HD : Hid (dateP s.data.toList = some ((v2, v4, v6), R5.data.toList)) := Lib.hid (by unfold dateP; rw [hx1]; simp only; rw [hR1', hx3]; simp only; rw [hR3', hx5]; simp only; rw [hv2, hv4, hv6, hR5'])
        clear hV1 hx1 hP1 hR1 hR1' hf1 hx3 hP3 hR3 hR3' hf3 hx5 hP5 hR5 hR5' hf5
        go_upto_region 5 with fail
        rw [HV1.out]
        clear c0 c1 c2 c3 c4 c5 c6 c7 f0 f1 f2 f3 f4 f5 f6 f7 lt0
        clear HV1
        go_wp2_with fail
        have hc8 := read_T V1 _ R5 sD.x _ rfl
        refine hc8.mono ?_
        intro e w8 hr8
        cases hx8 : readL R5.data.toList [fT] with
        | none =>
          rw [hx8] at hr8
          obtain ⟨rfl, kb8⟩ := hr8
          have HF := (show partsM s.data.toList = none by unfold partsM; rw [HD.out]; simp only; rw [hx8])
          have bF := kb8.below _ _ (by omega) sD.b
          first | (refine ⟨rfl, ?_⟩; rw [← HG.out, HF]; exact ⟨rfl, bF⟩) | (rw [← HG.out, HF]; exact ⟨rfl, bF⟩) | (simp [bodyPost]; rw [← HG.out, HF]; exact ⟨rfl, bF⟩)
        | some x8 =>
          rw [hx8] at hr8
          obtain ⟨P8, R8, rfl, hP8, hR8, bx8, kb8⟩ := hr8
          have hf8 := (read1_fits hx8).1
          have sDr8 := sD.read kb8 bx8
          have hR8' := hR8.symm
          clear hc8 kb8 bx8
          have HT : Hid (readL R5.data.toList [fT] = some x8) := Lib.hid hx8
          clear hx8 hP8 hR8 hf8
          go_wp2_with fail
          have hc9 := read_H w8 _ R8 sDr8.x _ rfl
          refine hc9.mono ?_
          intro e w9 hr9
          cases hx9 : readL R8.data.toList [fH] with
          | none =>
            rw [hx9] at hr9
            obtain ⟨rfl, kb9⟩ := hr9
            have HF := (show partsM s.data.toList = none by unfold partsM; rw [HD.out]; simp only; rw [HT.out]; simp only; rw [hR8']; unfold timeP; rw [hx9])
            have bF := kb9.below _ _ (by omega) sDr8.b
            first | (refine ⟨rfl, ?_⟩; rw [← HG.out, HF]; exact ⟨rfl, bF⟩) | (rw [← HG.out, HF]; exact ⟨rfl, bF⟩) | (simp [bodyPost]; rw [← HG.out, HF]; exact ⟨rfl, bF⟩)
          | some x9 =>
            rw [hx9] at hr9
            obtain ⟨P9, R9, rfl, hP9, hR9, bx9, kb9⟩ := hr9
            have hf9 := (read1_fits hx9).1
            have sDr8r9 := sDr8.read kb9 bx9
            have hR9' := hR9.symm
            clear hc9 kb9 bx9
            obtain ⟨l10, d10⟩ := fits_H hf9
            have hn10 := number_ti P9 x9.1 d10 (by intro e; rw [e] at l10; cases l10) (by omega) (.inl hP9)
            obtain ⟨v10, hv10⟩ : ∃ v, valD x9.1 0 = v := ⟨_, rfl⟩
            rw [hv10] at hn10
            go_wp2_with fail
            refine (hn10 _).mono ?_
            rintro e w10 ⟨rfl, hb10⟩
            have sDr8r9n10 := sDr8r9.later hb10
            clear hn10 hb10
            go_wp2_with fail
            have hc11 := read_C w10 _ R9 sDr8r9n10.x _ rfl
            refine hc11.mono ?_
            intro e w11 hr11
            cases hx11 : readL R9.data.toList [fC] with
            | none =>
              rw [hx11] at hr11
              obtain ⟨rfl, kb11⟩ := hr11
              have HF := (show partsM s.data.toList = none by unfold partsM; rw [HD.out]; simp only; rw [HT.out]; simp only; rw [hR8']; unfold timeP; rw [hx9]; simp only; rw [hR9']; rw [hx11])
              have bF := kb11.below _ _ (by omega) sDr8r9n10.b
              first | (refine ⟨rfl, ?_⟩; rw [← HG.out, HF]; exact ⟨rfl, bF⟩) | (rw [← HG.out, HF]; exact ⟨rfl, bF⟩) | (simp [bodyPost]; rw [← HG.out, HF]; exact ⟨rfl, bF⟩)
            | some x11 =>
              rw [hx11] at hr11
              obtain ⟨P11, R11, rfl, hP11, hR11, bx11, kb11⟩ := hr11
              have hf11 := (read1_fits hx11).1
              have sDr8r9n10r11 := sDr8r9n10.read kb11 bx11
              have hR11' := hR11.symm
              clear hc11 kb11 bx11
              obtain ⟨q12, e12, l12, d12⟩ := fits_C hf11
              have hn12 := number_ti P11 q12 d12 (by intro e; rw [e] at l12; cases l12) (by omega) (.inr (.inr (hP11.trans e12)))
              have ev12 : valD q12 0 = tailV x11.1 := by unfold tailV; rw [e12]; rfl
              rw [ev12] at hn12
              obtain ⟨v12, hv12⟩ : ∃ v, tailV x11.1 = v := ⟨_, rfl⟩
              rw [hv12] at hn12
              go_wp2_with fail
              refine (hn12 _).mono ?_
              rintro e w12 ⟨rfl, hb12⟩
              have sDr8r9n10r11n12 := sDr8r9n10r11.later hb12
              clear hn12 hb12
              obtain ⟨V2, hV2, sH⟩ := sDr8r9n10r11n12.setHM (v10 : Int) (v12 : Int)
              have HV2 := Lib.hid hV2
              have m13 := sDr8r9n10r11n12.m
              obtain ⟨c0, c1, c2, c3, c4, c5, c6, c7, f0, f1, f2, f3, f4, f5, f6, f7, lt0⟩ := m13
              clear hV2
              go_upto_region 9 with fail
              rw [HV2.out]
              clear c0 c1 c2 c3 c4 c5 c6 c7 f0 f1 f2 f3 f4 f5 f6 f7 lt0
              clear HV2
              go_wp2_with fail
              have hc14 := read_C V2 _ R11 sH.x _ rfl
              refine hc14.mono ?_
              intro e w14 hr14
              cases hx14 : readL R11.data.toList [fC] with
              | none =>
                rw [hx14] at hr14
                obtain ⟨rfl, kb14⟩ := hr14
                have HF := (show partsM s.data.toList = none by unfold partsM; rw [HD.out]; simp only; rw [HT.out]; simp only; rw [hR8']; unfold timeP; rw [hx9]; simp only; rw [hR9']; rw [hx11]; simp only; rw [hR11']; rw [hx14])
                have bF := kb14.below _ _ (by omega) sH.b
                first | (refine ⟨rfl, ?_⟩; rw [← HG.out, HF]; exact ⟨rfl, bF⟩) | (rw [← HG.out, HF]; exact ⟨rfl, bF⟩) | (simp [bodyPost]; rw [← HG.out, HF]; exact ⟨rfl, bF⟩)
              | some x14 =>
                rw [hx14] at hr14
                obtain ⟨P14, R14, rfl, hP14, hR14, bx14, kb14⟩ := hr14
                have hf14 := (read1_fits hx14).1
                have sHr14 := sH.read kb14 bx14
                have hR14' := hR14.symm
                clear hc14 kb14 bx14
                obtain ⟨q15, e15, l15, d15⟩ := fits_C hf14
                obtain ⟨D15, hD15, hDl15⟩ := ba_ex q15
                have cTP := Tryz.strings_TrimPrefix P14 ⟨#[58]⟩
                rw [hP14, e15, show Lib.trimPrefix (58 :: q15) (⟨#[58]⟩ : ByteArray).data.toList = q15 by simp [Lib.trimPrefix, Lib.hasPrefix], hD15] at cTP
                go_wp2_with fail
                refine (cTP _).mono ?_
                rintro e w15 ⟨rfl, hw15⟩
                rw [hw15]
                clear cTP hw15 w15
                go_wp2_with fail
                have hc16 := read_F w14 _ R14 sHr14.x _ rfl
                refine hc16.mono ?_
                intro e w16 hr16
                obtain ⟨x16, hx16⟩ := readF_some R14.data.toList
                rw [hx16] at hr16
                obtain ⟨P16, R16, rfl, hP16, hR16, bx16, kb16⟩ := hr16
                have HFr := Lib.hid hx16
                have sHr14r16 := sHr14.read kb16 bx16
                have hR16' := hR16.symm
                clear hc16 kb16 bx16
                obtain ⟨_, ff, hff, hfit⟩ := readL_len hx16
                have lF := fits_len hfit
                have lF7 := fF_len ff hff
                have sD1 : D15.size = 2 := by rw [← bsize, hDl15, l15]
                have sF1 : P16.size ≤ 7 := by rw [← bsize, hP16]; omega
                obtain ⟨J, hJ⟩ : ∃ J, D15 ++ P16 = J := ⟨_, rfl⟩
                have hJs : J.size ≤ 9 := by rw [← hJ, ByteArray.size_append]; omega
                have hJl : J.data.toList = q15 ++ x16.1 := by rw [← hJ, ByteArray.data_append, Array.toList_append, hDl15, hP16]
                obtain ⟨SC, z9, hSC⟩ := res_ex (readR J.data.toList)
                have cNP := (parse_on (HGR.out.later sHr14r16.b).num J SC z9 (by omega) hSC).use w16 (Below.refl _ _)
                clear lF lF7 hff hfit
                go_wp2_with fail
                refine cNP.mono ?_
                rintro e wN ⟨rfl, hbN⟩
                have sN := sHr14r16.later hbN
                obtain ⟨V3, hV3, sS⟩ := sN.setSec SC
                have HV3 := Lib.hid hV3
                have m17 := sN.m
                obtain ⟨c0, c1, c2, c3, c4, c5, c6, c7, f0, f1, f2, f3, f4, f5, f6, f7, lt0⟩ := m17
                clear hV3 cNP hbN
                go_upto_region 12 with fail
                rw [HV3.out]
                clear c0 c1 c2 c3 c4 c5 c6 c7 f0 f1 f2 f3 f4 f5 f6 f7 lt0
                clear HV3
                have HC : Hid (timeP R8.data.toList = some ((v10, v12, SC.data.toList), R16.data.toList)) := Lib.hid (by unfold timeP; rw [hx9]; simp only; rw [hR9', hx11]; simp only; rw [hR11', hx14]; simp only; rw [hR14', HFr.out]; simp only; rw [hv10, hv12, hR16', show x14.1.drop 1 = q15 by rw [e15]; rfl, ← hJl, hSC])
                clear hx9 hP9 hR9 hR9' hx11 hP11 hR11 hR11' hx14 hP14 hR14 hR14' hx16 hP16 hR16 hR16' hf9 hf11 hf14 HFr hJ hJl hSC hD15 hDl15
                go_wp2_with fail
                have hc18 := read_Z V3 _ R16 sS.x _ rfl
                refine hc18.mono ?_
                intro e w18 hr18
                obtain ⟨x18, hx18⟩ := readZ_some R16.data.toList
                rw [hx18] at hr18
                obtain ⟨P18, R18, rfl, hP18, hR18, bx18, kb18⟩ := hr18
                have HZr := Lib.hid hx18
                have sSr18 := sS.read kb18 bx18
                have hR18' := hR18.symm
                clear hc18 kb18 bx18
                by_cases hend : R18.data.toList = []
                · have HZ : Hid (zoneP R16.data.toList = some P18.data.toList) := Lib.hid (by unfold zoneP; rw [HZr.out]; simp only; rw [hP18, ← hR18, if_pos hend])
                  obtain ⟨X, hX, sX, keepX, _, _⟩ := sSr18.m.setAll (v2 : Int) (v4 : Int) (v6 : Int) (v10 : Int) (v12 : Int) SC 0 false
                  have bX := keepX sSr18.b (Nat.le_refl _)
                  have HX := Lib.hid hX
                  have SX := Lib.hid sX
                  have cE := end_ok _ R18 hend _ sSr18.x
                  have m19 := sSr18.m
                  obtain ⟨c0, c1, c2, c3, c4, c5, c6, c7, f0, f1, f2, f3, f4, f5, f6, f7, lt0⟩ := m19
                  clear hX sX keepX hend
                  go_wp2_with fail
                  refine cE.mono ?_
                  rintro e wE ⟨rfl, rfl⟩
                  clear cE
                  go_wp2_with fail
                  rw [HX.out]
                  obtain ⟨i0, i1, i2, i3, i4, i5, i6, i7, _⟩ := SX.out.at
                  have HP : partsM s.data.toList = some ⟨v2, v4, v6, v10, v12, SC.data.toList, P18.data.toList⟩ := by unfold partsM; rw [HD.out]; simp only; rw [HT.out]; simp only; rw [hR8']; rw [HC.out]; simp only; rw [HZ.out]
                  refine bodyPost_ret (v := .tuple #[.agg #[.int .i64 (v2 : Int), .int .i64 (v4 : Int), .int .i64 (v6 : Int), .int .i64 (v10 : Int), .int .i64 (v12 : Int), .string SC, .int .i64 0, .bool false], .string P18]) (by simp [results, Tryz.results44, go_sem, i0, i1, i2, i3, i4, i5, i6, i7]) rfl ?_
                  rw [← HG.out, HP]
                  exact ⟨SC, P18, rfl, rfl, rfl, bX⟩
                · have HZ : Hid (zoneP R16.data.toList = none) := Lib.hid (by unfold zoneP; rw [HZr.out]; simp only; rw [← hR18, if_neg hend])
                  have cE := end_no _ R18 hend _ sSr18.x
                  have bF := sSr18.b
                  clear hend
                  go_wp2_with fail
                  refine cE.mono ?_
                  rintro e wE ⟨rfl, rfl⟩
                  have HF : partsM s.data.toList = none := by unfold partsM; rw [HD.out]; simp only; rw [HT.out]; simp only; rw [hR8']; rw [HC.out]; simp only; rw [HZ.out]
                  first | (refine ⟨rfl, ?_⟩; rw [← HG.out, HF]; exact ⟨rfl, bF⟩) | (rw [← HG.out, HF]; exact ⟨rfl, bF⟩) | (simp [bodyPost]; rw [← HG.out, HF]; exact ⟨rfl, bF⟩)
end Go.Proofs.YtgmnjghbafbopaaGreatDoor

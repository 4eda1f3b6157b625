/- Numbers as they are written: the contract of split: with a sign. -/
import Derived.Test.YtgmnjghbafbopaaGreatDoorMNuE
namespace Go.Proofs.YtgmnjghbafbopaaGreatDoor
open Go.RowKit Go.Lib

set_option maxRecDepth 100000 in
set_option maxHeartbeats 8000000 in
theorem split_sign (s : ByteArray) (m : Int) (hs : s.size < 4294967281) (w : World) (hm : w.cell? ⟨3, 0, none⟩ = some (.int .i64 m)) (h0n : 0 < s.size) (h1 : s[0].toNat = 43 ∨ s[0].toNat = 45) :
    Calls Tryz.prog 75 #[.string s] w fun e w' => e = .returned (.tuple (splitR (s.extract 0 1) ⟨(dotL (s.extract 1 s.size).data.toList).1.toArray⟩ ⟨(dotL (s.extract 1 s.size).data.toList).2.1.toArray⟩ (dotL (s.extract 1 s.size).data.toList).2.2)) ∧ Below w.heap.size w w' := by
  have hxs : (s.extract 1 s.size).size < 4294967281 := by rw [ByteArray.size_extract]; omega
  have cC := fun W (hW : Below w.heap.size w W) => Tryz.strings_Cut (s.extract 1 s.size) ⟨#[46]⟩ m W hxs ((hW.cell (p := ⟨3, 0, none⟩) (lt_of_cell hm)).trans hm)
  rw [show (⟨#[46]⟩ : ByteArray).data.toList = [46] from rfl, cut_dot] at cC
  generalize dotL (s.extract 1 s.size).data.toList = D at cC ⊢
  obtain ⟨bf, hbf⟩ : ∃ bf : ByteArray, (⟨D.1.toArray⟩ : ByteArray) = bf := ⟨_, rfl⟩
  obtain ⟨af, haf⟩ : ∃ af : ByteArray, (⟨D.2.1.toArray⟩ : ByteArray) = af := ⟨_, rfl⟩
  obtain ⟨pt, hpt⟩ : ∃ pt, D.2.2 = pt := ⟨_, rfl⟩
  rw [hbf, haf, hpt]
  rw [hbf, haf, hpt] at cC
  clear hbf haf hpt
  have cD1 := fun W => isDigits_any bf W
  have cD2 := fun W => isDigits_any af W
  obtain ⟨R, hR⟩ : ∃ R, splitR (s.extract 0 1) bf af pt = R := ⟨_, rfl⟩
  rw [hR]
  obtain ⟨V1, hV1⟩ : ∃ V, bf.data.toList.all isDg = V := ⟨_, rfl⟩
  obtain ⟨V2, hV2⟩ : ∃ V, af.data.toList.all isDg = V := ⟨_, rfl⟩
  rw [hV1] at cD1
  rw [hV2] at cD2
  have HR := Lib.hid hR
  have HV := Lib.hid (And.intro hV1 hV2)
  clear hR hV1 hV2
  have hne : s.toList.isEmpty = false := by
    rw [List.isEmpty_eq_false_iff, ByteArray.toList_eq]
    intro h
    have := congrArg List.length h
    rw [Array.length_toList] at this
    exact absurd (show s.size = 0 from this) (by omega)
  have h0i : (0 : Int) < (s.size : Int) := by omega
  have h0j : (1 : Int) ≤ (s.size : Int) := by omega
  obtain ⟨W0, hW0⟩ : ∃ W0, w.alloc (.cells #[.string ⟨#[]⟩, .string ⟨#[]⟩, .string ⟨#[]⟩, .bool false] 94) = W0 := ⟨_, rfl⟩
  have hW : WrAt W0 w.heap.size ⟨#[]⟩ ⟨#[]⟩ ⟨#[]⟩ false := by
    rw [← hW0]
    exact ⟨by simp [go_sem], by simp [go_sem], by simp [go_sem], by simp [go_sem], by simp [go_sem], by simp [go_sem], by simp [go_sem], by simp [go_sem], by simp⟩
  have hb0 : Below w.heap.size w W0 := by rw [← hW0]; exact (Below.refl _ w).alloc (Nat.le_refl _) _
  have HW0 := Lib.hid hW0
  clear hW0
  rcases h1 with h1 | h1
  · have q1 : ((s[0].toNat : Int) == 43) = true := by rw [h1]; rfl
    clear h1
    go_enter Tryz.func75, Tryz.ntmps75
    go_wp2_with fail
    rw [HW0.out]
    clear HW0
    obtain ⟨c0, c1, c2, c3, f0, f1, f2, f3, hl⟩ := id hW
    go_region_held3 (fun _ => True) (first | trivial) (first | fail)
    clear c0 c1 c2 c3 f0 f1 f2 f3 hl
    have hdr : Below (W0.setCell ⟨w.heap.size, 0, none⟩ (.string (s.extract 0 1))).heap.size (W0.setCell ⟨w.heap.size, 0, none⟩ (.string (s.extract 0 1))) (W0.setCell ⟨w.heap.size, 0, none⟩ (.string (s.extract 0 1))).drew := (Below.refl _ _).drew
    have hW := (hW.set0 (s.extract 0 1)).below hdr
    have hb1 := (hb0.setCell (p := ⟨w.heap.size, 0, none⟩) (Nat.le_refl _) (.string (s.extract 0 1))).drew
    clear hdr
    generalize (W0.setCell ⟨w.heap.size, 0, none⟩ (.string (s.extract 0 1))).drew = W1 at hW hb1 ⊢
    go_wp2_with fail
    refine (cC _ hb1).mono ?_
    rintro e w2 ⟨rfl, n, rfl⟩
    have hWd : WrAt (W1.drewN n) w.heap.size (s.extract 0 1) ⟨#[]⟩ ⟨#[]⟩ false := hW.below (below_drewN (Below.refl _ _) n)
    have hbd : Below w.heap.size w (W1.drewN n) := below_drewN hb1 n
    have HW5 := Lib.hid (hWd.set bf af pt)
    have HB5 := Lib.hid (set3_below hbd (Nat.le_refl _) (.string bf) (.string af) (.bool pt))
    obtain ⟨c0, c1, c2, c3, f0, f1, f2, f3, hl⟩ := hWd
    clear hW hb1 hbd cC
    cases E1 : bf.toList.isEmpty <;> cases E2 : af.toList.isEmpty
    · cases V1
      · go_wp2_with fail
        refine (cD1 _).mono ?_
        rintro e w5 ⟨rfl, hb5⟩
        have HN := Lib.hid (HW5.out.below hb5)
        have HM := Lib.hid (HB5.out.trans (hb5.mono HB5.out.size))
        clear hb5 c0 c1 c2 c3 f0 f1 f2 f3 hl
        obtain ⟨c0, c1, c2, c3, f0, f1, f2, f3, hl⟩ := HN.out
        go_wp2_with fail
        have hW6 := (HN.out.set0 ⟨#[]⟩).set ⟨#[]⟩ ⟨#[]⟩ false
        have hb6 := set3_below (HM.out.setCell (p := ⟨w.heap.size, 0, none⟩) (Nat.le_refl _) (.string ⟨#[]⟩)) (Nat.le_refl _) (.string ⟨#[]⟩) (.string ⟨#[]⟩) (.bool false)
        exact bodyPost_ret (v := .tuple #[.agg #[.string ⟨#[]⟩, .string ⟨#[]⟩, .string ⟨#[]⟩, .bool false], .bool false]) (by simp [results, Tryz.results75, go_sem, hW6.c0, hW6.c1, hW6.c2, hW6.c3]) rfl ⟨by rw [← HR.out]; unfold splitR; rw [HV.out.1, HV.out.2, E1, E2]; rfl, hb6⟩
      · go_wp2_with fail
        refine (cD1 _).mono ?_
        rintro e w5 ⟨rfl, hb5⟩
        have h5 := HW5.out.below hb5
        have HM5 := Lib.hid (HB5.out.trans (hb5.mono HB5.out.size))
        clear c0 c1 c2 c3 f0 f1 f2 f3 hl hb5
        obtain ⟨c0, c1, c2, c3, f0, f1, f2, f3, hl⟩ := id h5
        have H5 := Lib.hid h5
        clear h5
        cases V2
        · go_wp2_with fail
          refine (cD2 _).mono ?_
          rintro e w6 ⟨rfl, hb6⟩
          have HN := Lib.hid (H5.out.below hb6)
          have HM := Lib.hid (HM5.out.trans (hb6.mono HM5.out.size))
          clear hb6 c0 c1 c2 c3 f0 f1 f2 f3 hl
          obtain ⟨c0, c1, c2, c3, f0, f1, f2, f3, hl⟩ := HN.out
          go_wp2_with fail
          have hW6 := (HN.out.set0 ⟨#[]⟩).set ⟨#[]⟩ ⟨#[]⟩ false
          have hb6 := set3_below (HM.out.setCell (p := ⟨w.heap.size, 0, none⟩) (Nat.le_refl _) (.string ⟨#[]⟩)) (Nat.le_refl _) (.string ⟨#[]⟩) (.string ⟨#[]⟩) (.bool false)
          exact bodyPost_ret (v := .tuple #[.agg #[.string ⟨#[]⟩, .string ⟨#[]⟩, .string ⟨#[]⟩, .bool false], .bool false]) (by simp [results, Tryz.results75, go_sem, hW6.c0, hW6.c1, hW6.c2, hW6.c3]) rfl ⟨by rw [← HR.out]; unfold splitR; rw [HV.out.1, HV.out.2, E1, E2]; rfl, hb6⟩
        · go_wp2_with fail
          refine (cD2 _).mono ?_
          rintro e w6 ⟨rfl, hb6⟩
          have h6 := H5.out.below hb6
          have hm6 := HM5.out.trans (hb6.mono HM5.out.size)
          clear hb6 c0 c1 c2 c3 f0 f1 f2 f3 hl
          have hW7 := (h6.set0 (s.extract 0 1)).set bf af pt
          have hb7 := set3_below (hm6.setCell (p := ⟨w.heap.size, 0, none⟩) (Nat.le_refl _) (.string (s.extract 0 1))) (Nat.le_refl _) (.string bf) (.string af) (.bool pt)
          obtain ⟨c0, c1, c2, c3, f0, f1, f2, f3, hl⟩ := h6
          have H7 := Lib.hid (And.intro hW7 hb7)
          clear hW7 hb7 hm6
          go_wp2_with fail
          obtain ⟨hW7, hb7⟩ := H7.out
          exact bodyPost_ret (v := .tuple #[.agg #[.string (s.extract 0 1), .string bf, .string af, .bool pt], .bool true]) (by simp [results, Tryz.results75, go_sem, hW7.c0, hW7.c1, hW7.c2, hW7.c3]) rfl ⟨by rw [← HR.out]; unfold splitR; rw [HV.out.1, HV.out.2, E1, E2]; rfl, hb7⟩
    · cases V1
      · go_wp2_with fail
        refine (cD1 _).mono ?_
        rintro e w5 ⟨rfl, hb5⟩
        have HN := Lib.hid (HW5.out.below hb5)
        have HM := Lib.hid (HB5.out.trans (hb5.mono HB5.out.size))
        clear hb5 c0 c1 c2 c3 f0 f1 f2 f3 hl
        obtain ⟨c0, c1, c2, c3, f0, f1, f2, f3, hl⟩ := HN.out
        go_wp2_with fail
        have hW6 := (HN.out.set0 ⟨#[]⟩).set ⟨#[]⟩ ⟨#[]⟩ false
        have hb6 := set3_below (HM.out.setCell (p := ⟨w.heap.size, 0, none⟩) (Nat.le_refl _) (.string ⟨#[]⟩)) (Nat.le_refl _) (.string ⟨#[]⟩) (.string ⟨#[]⟩) (.bool false)
        exact bodyPost_ret (v := .tuple #[.agg #[.string ⟨#[]⟩, .string ⟨#[]⟩, .string ⟨#[]⟩, .bool false], .bool false]) (by simp [results, Tryz.results75, go_sem, hW6.c0, hW6.c1, hW6.c2, hW6.c3]) rfl ⟨by rw [← HR.out]; unfold splitR; rw [HV.out.1, HV.out.2, E1, E2]; rfl, hb6⟩
      · go_wp2_with fail
        refine (cD1 _).mono ?_
        rintro e w5 ⟨rfl, hb5⟩
        have h5 := HW5.out.below hb5
        have HM5 := Lib.hid (HB5.out.trans (hb5.mono HB5.out.size))
        clear c0 c1 c2 c3 f0 f1 f2 f3 hl hb5
        obtain ⟨c0, c1, c2, c3, f0, f1, f2, f3, hl⟩ := id h5
        have H5 := Lib.hid h5
        clear h5
        cases V2
        · go_wp2_with fail
          refine (cD2 _).mono ?_
          rintro e w6 ⟨rfl, hb6⟩
          have HN := Lib.hid (H5.out.below hb6)
          have HM := Lib.hid (HM5.out.trans (hb6.mono HM5.out.size))
          clear hb6 c0 c1 c2 c3 f0 f1 f2 f3 hl
          obtain ⟨c0, c1, c2, c3, f0, f1, f2, f3, hl⟩ := HN.out
          go_wp2_with fail
          have hW6 := (HN.out.set0 ⟨#[]⟩).set ⟨#[]⟩ ⟨#[]⟩ false
          have hb6 := set3_below (HM.out.setCell (p := ⟨w.heap.size, 0, none⟩) (Nat.le_refl _) (.string ⟨#[]⟩)) (Nat.le_refl _) (.string ⟨#[]⟩) (.string ⟨#[]⟩) (.bool false)
          exact bodyPost_ret (v := .tuple #[.agg #[.string ⟨#[]⟩, .string ⟨#[]⟩, .string ⟨#[]⟩, .bool false], .bool false]) (by simp [results, Tryz.results75, go_sem, hW6.c0, hW6.c1, hW6.c2, hW6.c3]) rfl ⟨by rw [← HR.out]; unfold splitR; rw [HV.out.1, HV.out.2, E1, E2]; rfl, hb6⟩
        · go_wp2_with fail
          refine (cD2 _).mono ?_
          rintro e w6 ⟨rfl, hb6⟩
          have h6 := H5.out.below hb6
          have hm6 := HM5.out.trans (hb6.mono HM5.out.size)
          clear hb6 c0 c1 c2 c3 f0 f1 f2 f3 hl
          have hW7 := (h6.set0 (s.extract 0 1)).set bf af pt
          have hb7 := set3_below (hm6.setCell (p := ⟨w.heap.size, 0, none⟩) (Nat.le_refl _) (.string (s.extract 0 1))) (Nat.le_refl _) (.string bf) (.string af) (.bool pt)
          obtain ⟨c0, c1, c2, c3, f0, f1, f2, f3, hl⟩ := h6
          have H7 := Lib.hid (And.intro hW7 hb7)
          clear hW7 hb7 hm6
          go_wp2_with fail
          obtain ⟨hW7, hb7⟩ := H7.out
          exact bodyPost_ret (v := .tuple #[.agg #[.string (s.extract 0 1), .string bf, .string af, .bool pt], .bool true]) (by simp [results, Tryz.results75, go_sem, hW7.c0, hW7.c1, hW7.c2, hW7.c3]) rfl ⟨by rw [← HR.out]; unfold splitR; rw [HV.out.1, HV.out.2, E1, E2]; rfl, hb7⟩
    · cases V1
      · go_wp2_with fail
        refine (cD1 _).mono ?_
        rintro e w5 ⟨rfl, hb5⟩
        have HN := Lib.hid (HW5.out.below hb5)
        have HM := Lib.hid (HB5.out.trans (hb5.mono HB5.out.size))
        clear hb5 c0 c1 c2 c3 f0 f1 f2 f3 hl
        obtain ⟨c0, c1, c2, c3, f0, f1, f2, f3, hl⟩ := HN.out
        go_wp2_with fail
        have hW6 := (HN.out.set0 ⟨#[]⟩).set ⟨#[]⟩ ⟨#[]⟩ false
        have hb6 := set3_below (HM.out.setCell (p := ⟨w.heap.size, 0, none⟩) (Nat.le_refl _) (.string ⟨#[]⟩)) (Nat.le_refl _) (.string ⟨#[]⟩) (.string ⟨#[]⟩) (.bool false)
        exact bodyPost_ret (v := .tuple #[.agg #[.string ⟨#[]⟩, .string ⟨#[]⟩, .string ⟨#[]⟩, .bool false], .bool false]) (by simp [results, Tryz.results75, go_sem, hW6.c0, hW6.c1, hW6.c2, hW6.c3]) rfl ⟨by rw [← HR.out]; unfold splitR; rw [HV.out.1, HV.out.2, E1, E2]; rfl, hb6⟩
      · go_wp2_with fail
        refine (cD1 _).mono ?_
        rintro e w5 ⟨rfl, hb5⟩
        have h5 := HW5.out.below hb5
        have HM5 := Lib.hid (HB5.out.trans (hb5.mono HB5.out.size))
        clear c0 c1 c2 c3 f0 f1 f2 f3 hl hb5
        obtain ⟨c0, c1, c2, c3, f0, f1, f2, f3, hl⟩ := id h5
        have H5 := Lib.hid h5
        clear h5
        cases V2
        · go_wp2_with fail
          refine (cD2 _).mono ?_
          rintro e w6 ⟨rfl, hb6⟩
          have HN := Lib.hid (H5.out.below hb6)
          have HM := Lib.hid (HM5.out.trans (hb6.mono HM5.out.size))
          clear hb6 c0 c1 c2 c3 f0 f1 f2 f3 hl
          obtain ⟨c0, c1, c2, c3, f0, f1, f2, f3, hl⟩ := HN.out
          go_wp2_with fail
          have hW6 := (HN.out.set0 ⟨#[]⟩).set ⟨#[]⟩ ⟨#[]⟩ false
          have hb6 := set3_below (HM.out.setCell (p := ⟨w.heap.size, 0, none⟩) (Nat.le_refl _) (.string ⟨#[]⟩)) (Nat.le_refl _) (.string ⟨#[]⟩) (.string ⟨#[]⟩) (.bool false)
          exact bodyPost_ret (v := .tuple #[.agg #[.string ⟨#[]⟩, .string ⟨#[]⟩, .string ⟨#[]⟩, .bool false], .bool false]) (by simp [results, Tryz.results75, go_sem, hW6.c0, hW6.c1, hW6.c2, hW6.c3]) rfl ⟨by rw [← HR.out]; unfold splitR; rw [HV.out.1, HV.out.2, E1, E2]; rfl, hb6⟩
        · go_wp2_with fail
          refine (cD2 _).mono ?_
          rintro e w6 ⟨rfl, hb6⟩
          have h6 := H5.out.below hb6
          have hm6 := HM5.out.trans (hb6.mono HM5.out.size)
          clear hb6 c0 c1 c2 c3 f0 f1 f2 f3 hl
          have hW7 := (h6.set0 (s.extract 0 1)).set bf af pt
          have hb7 := set3_below (hm6.setCell (p := ⟨w.heap.size, 0, none⟩) (Nat.le_refl _) (.string (s.extract 0 1))) (Nat.le_refl _) (.string bf) (.string af) (.bool pt)
          obtain ⟨c0, c1, c2, c3, f0, f1, f2, f3, hl⟩ := h6
          have H7 := Lib.hid (And.intro hW7 hb7)
          clear hW7 hb7 hm6
          go_wp2_with fail
          obtain ⟨hW7, hb7⟩ := H7.out
          exact bodyPost_ret (v := .tuple #[.agg #[.string (s.extract 0 1), .string bf, .string af, .bool pt], .bool true]) (by simp [results, Tryz.results75, go_sem, hW7.c0, hW7.c1, hW7.c2, hW7.c3]) rfl ⟨by rw [← HR.out]; unfold splitR; rw [HV.out.1, HV.out.2, E1, E2]; rfl, hb7⟩
    · have HN := Lib.hid HW5.out
      have HM := Lib.hid HB5.out
      go_wp2_with fail
      have hW6 := (HN.out.set0 ⟨#[]⟩).set ⟨#[]⟩ ⟨#[]⟩ false
      have hb6 := set3_below (HM.out.setCell (p := ⟨w.heap.size, 0, none⟩) (Nat.le_refl _) (.string ⟨#[]⟩)) (Nat.le_refl _) (.string ⟨#[]⟩) (.string ⟨#[]⟩) (.bool false)
      exact bodyPost_ret (v := .tuple #[.agg #[.string ⟨#[]⟩, .string ⟨#[]⟩, .string ⟨#[]⟩, .bool false], .bool false]) (by simp [results, Tryz.results75, go_sem, hW6.c0, hW6.c1, hW6.c2, hW6.c3]) rfl ⟨by rw [← HR.out]; unfold splitR; rw [E1, E2]; rfl, hb6⟩
  · have q1 : ((s[0].toNat : Int) == 43) = false := by rw [h1]; rfl
    have q2 : ((s[0].toNat : Int) == 45) = true := by rw [h1]; rfl
    clear h1
    go_enter Tryz.func75, Tryz.ntmps75
    go_wp2_with fail
    rw [HW0.out]
    clear HW0
    obtain ⟨c0, c1, c2, c3, f0, f1, f2, f3, hl⟩ := id hW
    go_region_held3 (fun _ => True) (first | trivial) (first | fail)
    clear c0 c1 c2 c3 f0 f1 f2 f3 hl
    have hdr : Below (W0.setCell ⟨w.heap.size, 0, none⟩ (.string (s.extract 0 1))).heap.size (W0.setCell ⟨w.heap.size, 0, none⟩ (.string (s.extract 0 1))) (W0.setCell ⟨w.heap.size, 0, none⟩ (.string (s.extract 0 1))).drew := (Below.refl _ _).drew
    have hW := (hW.set0 (s.extract 0 1)).below hdr
    have hb1 := (hb0.setCell (p := ⟨w.heap.size, 0, none⟩) (Nat.le_refl _) (.string (s.extract 0 1))).drew
    clear hdr
    generalize (W0.setCell ⟨w.heap.size, 0, none⟩ (.string (s.extract 0 1))).drew = W1 at hW hb1 ⊢
    go_wp2_with fail
    refine (cC _ hb1).mono ?_
    rintro e w2 ⟨rfl, n, rfl⟩
    have hWd : WrAt (W1.drewN n) w.heap.size (s.extract 0 1) ⟨#[]⟩ ⟨#[]⟩ false := hW.below (below_drewN (Below.refl _ _) n)
    have hbd : Below w.heap.size w (W1.drewN n) := below_drewN hb1 n
    have HW5 := Lib.hid (hWd.set bf af pt)
    have HB5 := Lib.hid (set3_below hbd (Nat.le_refl _) (.string bf) (.string af) (.bool pt))
    obtain ⟨c0, c1, c2, c3, f0, f1, f2, f3, hl⟩ := hWd
    clear hW hb1 hbd cC
    cases E1 : bf.toList.isEmpty <;> cases E2 : af.toList.isEmpty
    · cases V1
      · go_wp2_with fail
        refine (cD1 _).mono ?_
        rintro e w5 ⟨rfl, hb5⟩
        have HN := Lib.hid (HW5.out.below hb5)
        have HM := Lib.hid (HB5.out.trans (hb5.mono HB5.out.size))
        clear hb5 c0 c1 c2 c3 f0 f1 f2 f3 hl
        obtain ⟨c0, c1, c2, c3, f0, f1, f2, f3, hl⟩ := HN.out
        go_wp2_with fail
        have hW6 := (HN.out.set0 ⟨#[]⟩).set ⟨#[]⟩ ⟨#[]⟩ false
        have hb6 := set3_below (HM.out.setCell (p := ⟨w.heap.size, 0, none⟩) (Nat.le_refl _) (.string ⟨#[]⟩)) (Nat.le_refl _) (.string ⟨#[]⟩) (.string ⟨#[]⟩) (.bool false)
        exact bodyPost_ret (v := .tuple #[.agg #[.string ⟨#[]⟩, .string ⟨#[]⟩, .string ⟨#[]⟩, .bool false], .bool false]) (by simp [results, Tryz.results75, go_sem, hW6.c0, hW6.c1, hW6.c2, hW6.c3]) rfl ⟨by rw [← HR.out]; unfold splitR; rw [HV.out.1, HV.out.2, E1, E2]; rfl, hb6⟩
      · go_wp2_with fail
        refine (cD1 _).mono ?_
        rintro e w5 ⟨rfl, hb5⟩
        have h5 := HW5.out.below hb5
        have HM5 := Lib.hid (HB5.out.trans (hb5.mono HB5.out.size))
        clear c0 c1 c2 c3 f0 f1 f2 f3 hl hb5
        obtain ⟨c0, c1, c2, c3, f0, f1, f2, f3, hl⟩ := id h5
        have H5 := Lib.hid h5
        clear h5
        cases V2
        · go_wp2_with fail
          refine (cD2 _).mono ?_
          rintro e w6 ⟨rfl, hb6⟩
          have HN := Lib.hid (H5.out.below hb6)
          have HM := Lib.hid (HM5.out.trans (hb6.mono HM5.out.size))
          clear hb6 c0 c1 c2 c3 f0 f1 f2 f3 hl
          obtain ⟨c0, c1, c2, c3, f0, f1, f2, f3, hl⟩ := HN.out
          go_wp2_with fail
          have hW6 := (HN.out.set0 ⟨#[]⟩).set ⟨#[]⟩ ⟨#[]⟩ false
          have hb6 := set3_below (HM.out.setCell (p := ⟨w.heap.size, 0, none⟩) (Nat.le_refl _) (.string ⟨#[]⟩)) (Nat.le_refl _) (.string ⟨#[]⟩) (.string ⟨#[]⟩) (.bool false)
          exact bodyPost_ret (v := .tuple #[.agg #[.string ⟨#[]⟩, .string ⟨#[]⟩, .string ⟨#[]⟩, .bool false], .bool false]) (by simp [results, Tryz.results75, go_sem, hW6.c0, hW6.c1, hW6.c2, hW6.c3]) rfl ⟨by rw [← HR.out]; unfold splitR; rw [HV.out.1, HV.out.2, E1, E2]; rfl, hb6⟩
        · go_wp2_with fail
          refine (cD2 _).mono ?_
          rintro e w6 ⟨rfl, hb6⟩
          have h6 := H5.out.below hb6
          have hm6 := HM5.out.trans (hb6.mono HM5.out.size)
          clear hb6 c0 c1 c2 c3 f0 f1 f2 f3 hl
          have hW7 := (h6.set0 (s.extract 0 1)).set bf af pt
          have hb7 := set3_below (hm6.setCell (p := ⟨w.heap.size, 0, none⟩) (Nat.le_refl _) (.string (s.extract 0 1))) (Nat.le_refl _) (.string bf) (.string af) (.bool pt)
          obtain ⟨c0, c1, c2, c3, f0, f1, f2, f3, hl⟩ := h6
          have H7 := Lib.hid (And.intro hW7 hb7)
          clear hW7 hb7 hm6
          go_wp2_with fail
          obtain ⟨hW7, hb7⟩ := H7.out
          exact bodyPost_ret (v := .tuple #[.agg #[.string (s.extract 0 1), .string bf, .string af, .bool pt], .bool true]) (by simp [results, Tryz.results75, go_sem, hW7.c0, hW7.c1, hW7.c2, hW7.c3]) rfl ⟨by rw [← HR.out]; unfold splitR; rw [HV.out.1, HV.out.2, E1, E2]; rfl, hb7⟩
    · cases V1
      · go_wp2_with fail
        refine (cD1 _).mono ?_
        rintro e w5 ⟨rfl, hb5⟩
        have HN := Lib.hid (HW5.out.below hb5)
        have HM := Lib.hid (HB5.out.trans (hb5.mono HB5.out.size))
        clear hb5 c0 c1 c2 c3 f0 f1 f2 f3 hl
        obtain ⟨c0, c1, c2, c3, f0, f1, f2, f3, hl⟩ := HN.out
        go_wp2_with fail
        have hW6 := (HN.out.set0 ⟨#[]⟩).set ⟨#[]⟩ ⟨#[]⟩ false
        have hb6 := set3_below (HM.out.setCell (p := ⟨w.heap.size, 0, none⟩) (Nat.le_refl _) (.string ⟨#[]⟩)) (Nat.le_refl _) (.string ⟨#[]⟩) (.string ⟨#[]⟩) (.bool false)
        exact bodyPost_ret (v := .tuple #[.agg #[.string ⟨#[]⟩, .string ⟨#[]⟩, .string ⟨#[]⟩, .bool false], .bool false]) (by simp [results, Tryz.results75, go_sem, hW6.c0, hW6.c1, hW6.c2, hW6.c3]) rfl ⟨by rw [← HR.out]; unfold splitR; rw [HV.out.1, HV.out.2, E1, E2]; rfl, hb6⟩
      · go_wp2_with fail
        refine (cD1 _).mono ?_
        rintro e w5 ⟨rfl, hb5⟩
        have h5 := HW5.out.below hb5
        have HM5 := Lib.hid (HB5.out.trans (hb5.mono HB5.out.size))
        clear c0 c1 c2 c3 f0 f1 f2 f3 hl hb5
        obtain ⟨c0, c1, c2, c3, f0, f1, f2, f3, hl⟩ := id h5
        have H5 := Lib.hid h5
        clear h5
        cases V2
        · go_wp2_with fail
          refine (cD2 _).mono ?_
          rintro e w6 ⟨rfl, hb6⟩
          have HN := Lib.hid (H5.out.below hb6)
          have HM := Lib.hid (HM5.out.trans (hb6.mono HM5.out.size))
          clear hb6 c0 c1 c2 c3 f0 f1 f2 f3 hl
          obtain ⟨c0, c1, c2, c3, f0, f1, f2, f3, hl⟩ := HN.out
          go_wp2_with fail
          have hW6 := (HN.out.set0 ⟨#[]⟩).set ⟨#[]⟩ ⟨#[]⟩ false
          have hb6 := set3_below (HM.out.setCell (p := ⟨w.heap.size, 0, none⟩) (Nat.le_refl _) (.string ⟨#[]⟩)) (Nat.le_refl _) (.string ⟨#[]⟩) (.string ⟨#[]⟩) (.bool false)
          exact bodyPost_ret (v := .tuple #[.agg #[.string ⟨#[]⟩, .string ⟨#[]⟩, .string ⟨#[]⟩, .bool false], .bool false]) (by simp [results, Tryz.results75, go_sem, hW6.c0, hW6.c1, hW6.c2, hW6.c3]) rfl ⟨by rw [← HR.out]; unfold splitR; rw [HV.out.1, HV.out.2, E1, E2]; rfl, hb6⟩
        · go_wp2_with fail
          refine (cD2 _).mono ?_
          rintro e w6 ⟨rfl, hb6⟩
          have h6 := H5.out.below hb6
          have hm6 := HM5.out.trans (hb6.mono HM5.out.size)
          clear hb6 c0 c1 c2 c3 f0 f1 f2 f3 hl
          have hW7 := (h6.set0 (s.extract 0 1)).set bf af pt
          have hb7 := set3_below (hm6.setCell (p := ⟨w.heap.size, 0, none⟩) (Nat.le_refl _) (.string (s.extract 0 1))) (Nat.le_refl _) (.string bf) (.string af) (.bool pt)
          obtain ⟨c0, c1, c2, c3, f0, f1, f2, f3, hl⟩ := h6
          have H7 := Lib.hid (And.intro hW7 hb7)
          clear hW7 hb7 hm6
          go_wp2_with fail
          obtain ⟨hW7, hb7⟩ := H7.out
          exact bodyPost_ret (v := .tuple #[.agg #[.string (s.extract 0 1), .string bf, .string af, .bool pt], .bool true]) (by simp [results, Tryz.results75, go_sem, hW7.c0, hW7.c1, hW7.c2, hW7.c3]) rfl ⟨by rw [← HR.out]; unfold splitR; rw [HV.out.1, HV.out.2, E1, E2]; rfl, hb7⟩
    · cases V1
      · go_wp2_with fail
        refine (cD1 _).mono ?_
        rintro e w5 ⟨rfl, hb5⟩
        have HN := Lib.hid (HW5.out.below hb5)
        have HM := Lib.hid (HB5.out.trans (hb5.mono HB5.out.size))
        clear hb5 c0 c1 c2 c3 f0 f1 f2 f3 hl
        obtain ⟨c0, c1, c2, c3, f0, f1, f2, f3, hl⟩ := HN.out
        go_wp2_with fail
        have hW6 := (HN.out.set0 ⟨#[]⟩).set ⟨#[]⟩ ⟨#[]⟩ false
        have hb6 := set3_below (HM.out.setCell (p := ⟨w.heap.size, 0, none⟩) (Nat.le_refl _) (.string ⟨#[]⟩)) (Nat.le_refl _) (.string ⟨#[]⟩) (.string ⟨#[]⟩) (.bool false)
        exact bodyPost_ret (v := .tuple #[.agg #[.string ⟨#[]⟩, .string ⟨#[]⟩, .string ⟨#[]⟩, .bool false], .bool false]) (by simp [results, Tryz.results75, go_sem, hW6.c0, hW6.c1, hW6.c2, hW6.c3]) rfl ⟨by rw [← HR.out]; unfold splitR; rw [HV.out.1, HV.out.2, E1, E2]; rfl, hb6⟩
      · go_wp2_with fail
        refine (cD1 _).mono ?_
        rintro e w5 ⟨rfl, hb5⟩
        have h5 := HW5.out.below hb5
        have HM5 := Lib.hid (HB5.out.trans (hb5.mono HB5.out.size))
        clear c0 c1 c2 c3 f0 f1 f2 f3 hl hb5
        obtain ⟨c0, c1, c2, c3, f0, f1, f2, f3, hl⟩ := id h5
        have H5 := Lib.hid h5
        clear h5
        cases V2
        · go_wp2_with fail
          refine (cD2 _).mono ?_
          rintro e w6 ⟨rfl, hb6⟩
          have HN := Lib.hid (H5.out.below hb6)
          have HM := Lib.hid (HM5.out.trans (hb6.mono HM5.out.size))
          clear hb6 c0 c1 c2 c3 f0 f1 f2 f3 hl
          obtain ⟨c0, c1, c2, c3, f0, f1, f2, f3, hl⟩ := HN.out
          go_wp2_with fail
          have hW6 := (HN.out.set0 ⟨#[]⟩).set ⟨#[]⟩ ⟨#[]⟩ false
          have hb6 := set3_below (HM.out.setCell (p := ⟨w.heap.size, 0, none⟩) (Nat.le_refl _) (.string ⟨#[]⟩)) (Nat.le_refl _) (.string ⟨#[]⟩) (.string ⟨#[]⟩) (.bool false)
          exact bodyPost_ret (v := .tuple #[.agg #[.string ⟨#[]⟩, .string ⟨#[]⟩, .string ⟨#[]⟩, .bool false], .bool false]) (by simp [results, Tryz.results75, go_sem, hW6.c0, hW6.c1, hW6.c2, hW6.c3]) rfl ⟨by rw [← HR.out]; unfold splitR; rw [HV.out.1, HV.out.2, E1, E2]; rfl, hb6⟩
        · go_wp2_with fail
          refine (cD2 _).mono ?_
          rintro e w6 ⟨rfl, hb6⟩
          have h6 := H5.out.below hb6
          have hm6 := HM5.out.trans (hb6.mono HM5.out.size)
          clear hb6 c0 c1 c2 c3 f0 f1 f2 f3 hl
          have hW7 := (h6.set0 (s.extract 0 1)).set bf af pt
          have hb7 := set3_below (hm6.setCell (p := ⟨w.heap.size, 0, none⟩) (Nat.le_refl _) (.string (s.extract 0 1))) (Nat.le_refl _) (.string bf) (.string af) (.bool pt)
          obtain ⟨c0, c1, c2, c3, f0, f1, f2, f3, hl⟩ := h6
          have H7 := Lib.hid (And.intro hW7 hb7)
          clear hW7 hb7 hm6
          go_wp2_with fail
          obtain ⟨hW7, hb7⟩ := H7.out
          exact bodyPost_ret (v := .tuple #[.agg #[.string (s.extract 0 1), .string bf, .string af, .bool pt], .bool true]) (by simp [results, Tryz.results75, go_sem, hW7.c0, hW7.c1, hW7.c2, hW7.c3]) rfl ⟨by rw [← HR.out]; unfold splitR; rw [HV.out.1, HV.out.2, E1, E2]; rfl, hb7⟩
    · have HN := Lib.hid HW5.out
      have HM := Lib.hid HB5.out
      go_wp2_with fail
      have hW6 := (HN.out.set0 ⟨#[]⟩).set ⟨#[]⟩ ⟨#[]⟩ false
      have hb6 := set3_below (HM.out.setCell (p := ⟨w.heap.size, 0, none⟩) (Nat.le_refl _) (.string ⟨#[]⟩)) (Nat.le_refl _) (.string ⟨#[]⟩) (.string ⟨#[]⟩) (.bool false)
      exact bodyPost_ret (v := .tuple #[.agg #[.string ⟨#[]⟩, .string ⟨#[]⟩, .string ⟨#[]⟩, .bool false], .bool false]) (by simp [results, Tryz.results75, go_sem, hW6.c0, hW6.c1, hW6.c2, hW6.c3]) rfl ⟨by rw [← HR.out]; unfold splitR; rw [E1, E2]; rfl, hb6⟩
end Go.Proofs.YtgmnjghbafbopaaGreatDoor

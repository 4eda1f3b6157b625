/- Numbers as they are written: the contract of split: whole. -/
import Derived.Test.YtgmnjghbafbopaaGreatDoorMNuSplitS
namespace Go.Proofs.YtgmnjghbafbopaaGreatDoor
open Go.RowKit Go.Lib

set_option maxRecDepth 100000 in
set_option maxHeartbeats 4000000 in
theorem split_empty (s : ByteArray) (m : Int) (hs : s.size < 4294967281) (w : World) (hm : w.cell? ⟨3, 0, none⟩ = some (.int .i64 m)) (h0n : s.size = 0) :
    Calls Tryz.prog 75 #[.string s] w fun e w' => e = .returned (.tuple (splitR ⟨#[]⟩ ⟨(dotL s.data.toList).1.toArray⟩ ⟨(dotL s.data.toList).2.1.toArray⟩ (dotL s.data.toList).2.2)) ∧ Below w.heap.size w w' := by
  have cC := fun W (hW : Below w.heap.size w W) => Tryz.strings_Cut s ⟨#[46]⟩ m W hs ((hW.cell (p := ⟨3, 0, none⟩) (lt_of_cell hm)).trans hm)
  rw [show (⟨#[46]⟩ : ByteArray).data.toList = [46] from rfl, cut_dot] at cC
  generalize dotL s.data.toList = D at cC ⊢
  obtain ⟨bf, hbf⟩ : ∃ bf : ByteArray, (⟨D.1.toArray⟩ : ByteArray) = bf := ⟨_, rfl⟩
  obtain ⟨af, haf⟩ : ∃ af : ByteArray, (⟨D.2.1.toArray⟩ : ByteArray) = af := ⟨_, rfl⟩
  obtain ⟨pt, hpt⟩ : ∃ pt, D.2.2 = pt := ⟨_, rfl⟩
  rw [hbf, haf, hpt]
  rw [hbf, haf, hpt] at cC
  clear hbf haf hpt
  have cD1 := fun W => isDigits_any bf W
  have cD2 := fun W => isDigits_any af W
  obtain ⟨R, hR⟩ : ∃ R, splitR ⟨#[]⟩ bf af pt = R := ⟨_, rfl⟩
  rw [hR]
  obtain ⟨V1, hV1⟩ : ∃ V, bf.data.toList.all isDg = V := ⟨_, rfl⟩
  obtain ⟨V2, hV2⟩ : ∃ V, af.data.toList.all isDg = V := ⟨_, rfl⟩
  rw [hV1] at cD1
  rw [hV2] at cD2
  have HR := Lib.hid hR
  have HV := Lib.hid (And.intro hV1 hV2)
  clear hR hV1 hV2
  have hne : s.toList.isEmpty = true := by
    rw [List.isEmpty_iff, ByteArray.toList_eq]
    exact List.eq_nil_of_length_eq_zero (by rw [Array.length_toList]; exact h0n)
  obtain ⟨W1, hW1⟩ : ∃ W1, w.alloc (.cells #[.string ⟨#[]⟩, .string ⟨#[]⟩, .string ⟨#[]⟩, .bool false] 94) = W1 := ⟨_, rfl⟩
  have hW : WrAt W1 w.heap.size ⟨#[]⟩ ⟨#[]⟩ ⟨#[]⟩ false := by
    rw [← hW1]
    exact ⟨by simp [go_sem], by simp [go_sem], by simp [go_sem], by simp [go_sem], by simp [go_sem], by simp [go_sem], by simp [go_sem], by simp [go_sem], by simp⟩
  have hb1 : Below w.heap.size w W1 := by rw [← hW1]; exact (Below.refl _ w).alloc (Nat.le_refl _) _
  have HW1 := Lib.hid hW1
  clear hW1
  go_enter Tryz.func75, Tryz.ntmps75
  go_wp2_with fail
  rw [HW1.out]
  clear HW1
  refine (cC _ hb1).mono ?_
  rintro e w2 ⟨rfl, n, rfl⟩
  have hWd : WrAt (W1.drewN n) w.heap.size ⟨#[]⟩ ⟨#[]⟩ ⟨#[]⟩ false := hW.below (below_drewN (Below.refl _ _) n)
  have hbd : Below w.heap.size w (W1.drewN n) := below_drewN hb1 n
  have HW5 := Lib.hid (hWd.set bf af pt)
  have HB5 := Lib.hid (set3_below hbd (Nat.le_refl _) (.string bf) (.string af) (.bool pt))
  obtain ⟨c0, c1, c2, c3, f0, f1, f2, f3, hl⟩ := hWd
  clear hW hb1 hbd cC
  cases E1 : bf.toList.isEmpty <;> cases E2 : af.toList.isEmpty
  · cases V1
    · go_wp2_with fail
      refine (cD1 _).mono ?_
      rintro e w5 ⟨rfl, hb5⟩
      have HN := Lib.hid (HW5.out.below hb5)
      have HM := Lib.hid (HB5.out.trans (hb5.mono HB5.out.size))
      clear hb5 c0 c1 c2 c3 f0 f1 f2 f3 hl
      obtain ⟨c0, c1, c2, c3, f0, f1, f2, f3, hl⟩ := HN.out
      go_wp2_with fail
      have hW6 := (HN.out.set0 ⟨#[]⟩).set ⟨#[]⟩ ⟨#[]⟩ false
      have hb6 := set3_below (HM.out.setCell (p := ⟨w.heap.size, 0, none⟩) (Nat.le_refl _) (.string ⟨#[]⟩)) (Nat.le_refl _) (.string ⟨#[]⟩) (.string ⟨#[]⟩) (.bool false)
      exact bodyPost_ret (v := .tuple #[.agg #[.string ⟨#[]⟩, .string ⟨#[]⟩, .string ⟨#[]⟩, .bool false], .bool false]) (by simp [results, Tryz.results75, go_sem, hW6.c0, hW6.c1, hW6.c2, hW6.c3]) rfl ⟨by rw [← HR.out]; unfold splitR; rw [HV.out.1, HV.out.2, E1, E2]; rfl, hb6⟩
    · go_wp2_with fail
      refine (cD1 _).mono ?_
      rintro e w5 ⟨rfl, hb5⟩
      have h5 := HW5.out.below hb5
      have HM5 := Lib.hid (HB5.out.trans (hb5.mono HB5.out.size))
      clear c0 c1 c2 c3 f0 f1 f2 f3 hl hb5
      obtain ⟨c0, c1, c2, c3, f0, f1, f2, f3, hl⟩ := id h5
      have H5 := Lib.hid h5
      clear h5
      cases V2
      · go_wp2_with fail
        refine (cD2 _).mono ?_
        rintro e w6 ⟨rfl, hb6⟩
        have HN := Lib.hid (H5.out.below hb6)
        have HM := Lib.hid (HM5.out.trans (hb6.mono HM5.out.size))
        clear hb6 c0 c1 c2 c3 f0 f1 f2 f3 hl
        obtain ⟨c0, c1, c2, c3, f0, f1, f2, f3, hl⟩ := HN.out
        go_wp2_with fail
        have hW6 := (HN.out.set0 ⟨#[]⟩).set ⟨#[]⟩ ⟨#[]⟩ false
        have hb6 := set3_below (HM.out.setCell (p := ⟨w.heap.size, 0, none⟩) (Nat.le_refl _) (.string ⟨#[]⟩)) (Nat.le_refl _) (.string ⟨#[]⟩) (.string ⟨#[]⟩) (.bool false)
        exact bodyPost_ret (v := .tuple #[.agg #[.string ⟨#[]⟩, .string ⟨#[]⟩, .string ⟨#[]⟩, .bool false], .bool false]) (by simp [results, Tryz.results75, go_sem, hW6.c0, hW6.c1, hW6.c2, hW6.c3]) rfl ⟨by rw [← HR.out]; unfold splitR; rw [HV.out.1, HV.out.2, E1, E2]; rfl, hb6⟩
      · go_wp2_with fail
        refine (cD2 _).mono ?_
        rintro e w6 ⟨rfl, hb6⟩
        have h6 := H5.out.below hb6
        have hm6 := HM5.out.trans (hb6.mono HM5.out.size)
        clear hb6 c0 c1 c2 c3 f0 f1 f2 f3 hl
        have hW7 := (h6.set0 ⟨#[]⟩).set bf af pt
        have hb7 := set3_below (hm6.setCell (p := ⟨w.heap.size, 0, none⟩) (Nat.le_refl _) (.string ⟨#[]⟩)) (Nat.le_refl _) (.string bf) (.string af) (.bool pt)
        obtain ⟨c0, c1, c2, c3, f0, f1, f2, f3, hl⟩ := h6
        have H7 := Lib.hid (And.intro hW7 hb7)
        clear hW7 hb7 hm6
        go_wp2_with fail
        obtain ⟨hW7, hb7⟩ := H7.out
        exact bodyPost_ret (v := .tuple #[.agg #[.string ⟨#[]⟩, .string bf, .string af, .bool pt], .bool true]) (by simp [results, Tryz.results75, go_sem, hW7.c0, hW7.c1, hW7.c2, hW7.c3]) rfl ⟨by rw [← HR.out]; unfold splitR; rw [HV.out.1, HV.out.2, E1, E2]; rfl, hb7⟩
  · cases V1
    · go_wp2_with fail
      refine (cD1 _).mono ?_
      rintro e w5 ⟨rfl, hb5⟩
      have HN := Lib.hid (HW5.out.below hb5)
      have HM := Lib.hid (HB5.out.trans (hb5.mono HB5.out.size))
      clear hb5 c0 c1 c2 c3 f0 f1 f2 f3 hl
      obtain ⟨c0, c1, c2, c3, f0, f1, f2, f3, hl⟩ := HN.out
      go_wp2_with fail
      have hW6 := (HN.out.set0 ⟨#[]⟩).set ⟨#[]⟩ ⟨#[]⟩ false
      have hb6 := set3_below (HM.out.setCell (p := ⟨w.heap.size, 0, none⟩) (Nat.le_refl _) (.string ⟨#[]⟩)) (Nat.le_refl _) (.string ⟨#[]⟩) (.string ⟨#[]⟩) (.bool false)
      exact bodyPost_ret (v := .tuple #[.agg #[.string ⟨#[]⟩, .string ⟨#[]⟩, .string ⟨#[]⟩, .bool false], .bool false]) (by simp [results, Tryz.results75, go_sem, hW6.c0, hW6.c1, hW6.c2, hW6.c3]) rfl ⟨by rw [← HR.out]; unfold splitR; rw [HV.out.1, HV.out.2, E1, E2]; rfl, hb6⟩
    · go_wp2_with fail
      refine (cD1 _).mono ?_
      rintro e w5 ⟨rfl, hb5⟩
      have h5 := HW5.out.below hb5
      have HM5 := Lib.hid (HB5.out.trans (hb5.mono HB5.out.size))
      clear c0 c1 c2 c3 f0 f1 f2 f3 hl hb5
      obtain ⟨c0, c1, c2, c3, f0, f1, f2, f3, hl⟩ := id h5
      have H5 := Lib.hid h5
      clear h5
      cases V2
      · go_wp2_with fail
        refine (cD2 _).mono ?_
        rintro e w6 ⟨rfl, hb6⟩
        have HN := Lib.hid (H5.out.below hb6)
        have HM := Lib.hid (HM5.out.trans (hb6.mono HM5.out.size))
        clear hb6 c0 c1 c2 c3 f0 f1 f2 f3 hl
        obtain ⟨c0, c1, c2, c3, f0, f1, f2, f3, hl⟩ := HN.out
        go_wp2_with fail
        have hW6 := (HN.out.set0 ⟨#[]⟩).set ⟨#[]⟩ ⟨#[]⟩ false
        have hb6 := set3_below (HM.out.setCell (p := ⟨w.heap.size, 0, none⟩) (Nat.le_refl _) (.string ⟨#[]⟩)) (Nat.le_refl _) (.string ⟨#[]⟩) (.string ⟨#[]⟩) (.bool false)
        exact bodyPost_ret (v := .tuple #[.agg #[.string ⟨#[]⟩, .string ⟨#[]⟩, .string ⟨#[]⟩, .bool false], .bool false]) (by simp [results, Tryz.results75, go_sem, hW6.c0, hW6.c1, hW6.c2, hW6.c3]) rfl ⟨by rw [← HR.out]; unfold splitR; rw [HV.out.1, HV.out.2, E1, E2]; rfl, hb6⟩
      · go_wp2_with fail
        refine (cD2 _).mono ?_
        rintro e w6 ⟨rfl, hb6⟩
        have h6 := H5.out.below hb6
        have hm6 := HM5.out.trans (hb6.mono HM5.out.size)
        clear hb6 c0 c1 c2 c3 f0 f1 f2 f3 hl
        have hW7 := (h6.set0 ⟨#[]⟩).set bf af pt
        have hb7 := set3_below (hm6.setCell (p := ⟨w.heap.size, 0, none⟩) (Nat.le_refl _) (.string ⟨#[]⟩)) (Nat.le_refl _) (.string bf) (.string af) (.bool pt)
        obtain ⟨c0, c1, c2, c3, f0, f1, f2, f3, hl⟩ := h6
        have H7 := Lib.hid (And.intro hW7 hb7)
        clear hW7 hb7 hm6
        go_wp2_with fail
        obtain ⟨hW7, hb7⟩ := H7.out
        exact bodyPost_ret (v := .tuple #[.agg #[.string ⟨#[]⟩, .string bf, .string af, .bool pt], .bool true]) (by simp [results, Tryz.results75, go_sem, hW7.c0, hW7.c1, hW7.c2, hW7.c3]) rfl ⟨by rw [← HR.out]; unfold splitR; rw [HV.out.1, HV.out.2, E1, E2]; rfl, hb7⟩
  · cases V1
    · go_wp2_with fail
      refine (cD1 _).mono ?_
      rintro e w5 ⟨rfl, hb5⟩
      have HN := Lib.hid (HW5.out.below hb5)
      have HM := Lib.hid (HB5.out.trans (hb5.mono HB5.out.size))
      clear hb5 c0 c1 c2 c3 f0 f1 f2 f3 hl
      obtain ⟨c0, c1, c2, c3, f0, f1, f2, f3, hl⟩ := HN.out
      go_wp2_with fail
      have hW6 := (HN.out.set0 ⟨#[]⟩).set ⟨#[]⟩ ⟨#[]⟩ false
      have hb6 := set3_below (HM.out.setCell (p := ⟨w.heap.size, 0, none⟩) (Nat.le_refl _) (.string ⟨#[]⟩)) (Nat.le_refl _) (.string ⟨#[]⟩) (.string ⟨#[]⟩) (.bool false)
      exact bodyPost_ret (v := .tuple #[.agg #[.string ⟨#[]⟩, .string ⟨#[]⟩, .string ⟨#[]⟩, .bool false], .bool false]) (by simp [results, Tryz.results75, go_sem, hW6.c0, hW6.c1, hW6.c2, hW6.c3]) rfl ⟨by rw [← HR.out]; unfold splitR; rw [HV.out.1, HV.out.2, E1, E2]; rfl, hb6⟩
    · go_wp2_with fail
      refine (cD1 _).mono ?_
      rintro e w5 ⟨rfl, hb5⟩
      have h5 := HW5.out.below hb5
      have HM5 := Lib.hid (HB5.out.trans (hb5.mono HB5.out.size))
      clear c0 c1 c2 c3 f0 f1 f2 f3 hl hb5
      obtain ⟨c0, c1, c2, c3, f0, f1, f2, f3, hl⟩ := id h5
      have H5 := Lib.hid h5
      clear h5
      cases V2
      · go_wp2_with fail
        refine (cD2 _).mono ?_
        rintro e w6 ⟨rfl, hb6⟩
        have HN := Lib.hid (H5.out.below hb6)
        have HM := Lib.hid (HM5.out.trans (hb6.mono HM5.out.size))
        clear hb6 c0 c1 c2 c3 f0 f1 f2 f3 hl
        obtain ⟨c0, c1, c2, c3, f0, f1, f2, f3, hl⟩ := HN.out
        go_wp2_with fail
        have hW6 := (HN.out.set0 ⟨#[]⟩).set ⟨#[]⟩ ⟨#[]⟩ false
        have hb6 := set3_below (HM.out.setCell (p := ⟨w.heap.size, 0, none⟩) (Nat.le_refl _) (.string ⟨#[]⟩)) (Nat.le_refl _) (.string ⟨#[]⟩) (.string ⟨#[]⟩) (.bool false)
        exact bodyPost_ret (v := .tuple #[.agg #[.string ⟨#[]⟩, .string ⟨#[]⟩, .string ⟨#[]⟩, .bool false], .bool false]) (by simp [results, Tryz.results75, go_sem, hW6.c0, hW6.c1, hW6.c2, hW6.c3]) rfl ⟨by rw [← HR.out]; unfold splitR; rw [HV.out.1, HV.out.2, E1, E2]; rfl, hb6⟩
      · go_wp2_with fail
        refine (cD2 _).mono ?_
        rintro e w6 ⟨rfl, hb6⟩
        have h6 := H5.out.below hb6
        have hm6 := HM5.out.trans (hb6.mono HM5.out.size)
        clear hb6 c0 c1 c2 c3 f0 f1 f2 f3 hl
        have hW7 := (h6.set0 ⟨#[]⟩).set bf af pt
        have hb7 := set3_below (hm6.setCell (p := ⟨w.heap.size, 0, none⟩) (Nat.le_refl _) (.string ⟨#[]⟩)) (Nat.le_refl _) (.string bf) (.string af) (.bool pt)
        obtain ⟨c0, c1, c2, c3, f0, f1, f2, f3, hl⟩ := h6
        have H7 := Lib.hid (And.intro hW7 hb7)
        clear hW7 hb7 hm6
        go_wp2_with fail
        obtain ⟨hW7, hb7⟩ := H7.out
        exact bodyPost_ret (v := .tuple #[.agg #[.string ⟨#[]⟩, .string bf, .string af, .bool pt], .bool true]) (by simp [results, Tryz.results75, go_sem, hW7.c0, hW7.c1, hW7.c2, hW7.c3]) rfl ⟨by rw [← HR.out]; unfold splitR; rw [HV.out.1, HV.out.2, E1, E2]; rfl, hb7⟩
  · have HN := Lib.hid HW5.out
    have HM := Lib.hid HB5.out
    go_wp2_with fail
    have hW6 := (HN.out.set0 ⟨#[]⟩).set ⟨#[]⟩ ⟨#[]⟩ false
    have hb6 := set3_below (HM.out.setCell (p := ⟨w.heap.size, 0, none⟩) (Nat.le_refl _) (.string ⟨#[]⟩)) (Nat.le_refl _) (.string ⟨#[]⟩) (.string ⟨#[]⟩) (.bool false)
    exact bodyPost_ret (v := .tuple #[.agg #[.string ⟨#[]⟩, .string ⟨#[]⟩, .string ⟨#[]⟩, .bool false], .bool false]) (by simp [results, Tryz.results75, go_sem, hW6.c0, hW6.c1, hW6.c2, hW6.c3]) rfl ⟨by rw [← HR.out]; unfold splitR; rw [E1, E2]; rfl, hb6⟩

/-- What split gives. -/
def splitV (l : List UInt8) : Array Value := match splitL l with | some x => #[wrV x, .bool true] | none => #[wrV noWr, .bool false]
theorem splitR_V (sg t s : List UInt8) (hs : signOf s = (sg, t)) : splitR ⟨sg.toArray⟩ ⟨(dotL t).1.toArray⟩ ⟨(dotL t).2.1.toArray⟩ (dotL t).2.2 = splitV s := by
  rw [splitR_eq sg t s hs]
  unfold splitV
  cases splitL s <;> rfl

theorem split_any (s : ByteArray) (m : Int) (hs : s.size < 4294967281) (w : World) (hm : w.cell? ⟨3, 0, none⟩ = some (.int .i64 m)) :
    Calls Tryz.prog 75 #[.string s] w fun e w' => e = .returned (.tuple (splitV s.data.toList)) ∧ Below w.heap.size w w' := by
  by_cases h0 : s.size = 0
  · have hd : s.data.toList = [] := List.eq_nil_of_length_eq_zero (by rw [Array.length_toList]; exact h0)
    have h := split_empty s m hs w hm h0
    rw [hd] at h ⊢
    rw [← splitR_V [] [] [] rfl]
    exact h
  · have hp : 0 < s.size := by omega
    have hpl : 0 < s.data.toList.length := by rw [Array.length_toList]; exact hp
    have hd : s.data.toList = s[0] :: s.data.toList.drop 1 := by
      have := List.drop_eq_getElem_cons hpl
      rw [List.drop_zero] at this
      exact this
    by_cases h1 : s[0].toNat = 43 ∨ s[0].toNat = 45
    · have h := split_sign s m hs w hm hp h1
      have hb : s[0] = 43 ∨ s[0] = 45 := h1.imp (fun e => UInt8.toNat.inj e) (fun e => UInt8.toNat.inj e)
      have e1 : (s.extract 0 1 : ByteArray) = ⟨[s[0]].toArray⟩ := by
        apply ByteArray.ext
        apply Array.toList_inj.1
        rw [ByteArray.data_extract, Array.toList_extract, hd]
        rfl
      have e2 : (s.extract 1 s.size).data.toList = s.data.toList.drop 1 := by
        rw [ByteArray.data_extract, Array.toList_extract, List.extract_eq_take_drop]
        exact List.take_of_length_le (by rw [List.length_drop, Array.length_toList]; exact Nat.le_refl _)
      rw [e1, e2] at h
      rw [← splitR_V [s[0]] (s.data.toList.drop 1) s.data.toList (by rw [hd, signOf, if_pos hb]; rfl)]
      exact h
    · have h := split_plain s m hs w hm hp (fun e => h1 (.inl e)) (fun e => h1 (.inr e))
      have hb : ¬ (s[0] = 43 ∨ s[0] = 45) := fun e => h1 (e.imp (fun e => by rw [e]; rfl) (fun e => by rw [e]; rfl))
      rw [← splitR_V [] s.data.toList s.data.toList (by
        conv => lhs; rw [hd]
        rw [signOf, if_neg hb, ← hd])]
      exact h
end Go.Proofs.YtgmnjghbafbopaaGreatDoor

/- (*strings.Replacer).Replace at a Replacer that is not built yet, out of the contract of its table (HT). -/
import Derived.Test.YtaieapldokkdnabGreatDoorCharsTabWalk
namespace Go.Proofs.YtaieapldokkdnabGreatDoor
open Go.RowKit Go.Lib

theorem RepAt.later {w w' : World} {g : Nat} {c0 c1 c2 c3 c4 : Value} (h : RepAt w g c0 c1 c2 c3 c4) {B : Nat} (hb : Below B w w') (hg : g < B) : RepAt w' g c0 c1 c2 c3 c4 := by
  have e : ∀ i : Nat, w'.cell? ⟨g, i, none⟩ = w.cell? ⟨g, i, none⟩ := fun i => hb.cell (p := ⟨g, i, none⟩) hg
  obtain ⟨h0, h1, h2, h3, h4, hf⟩ := h
  exact ⟨(e _).trans h0, (e _).trans h1, (e _).trans h2, (e _).trans h3, (e _).trans h4, fun i => (hb.frozen (p := ⟨g, i, none⟩) hg).trans (hf i)⟩
theorem RepAt.set3 {w : World} {g : Nat} {c0 c1 c2 c3 c4 v : Value} (h : RepAt w g c0 c1 c2 c3 c4) : RepAt (w.setCell ⟨g, 3, none⟩ v) g c0 c1 c2 v c4 :=
  ⟨(World.cell?_setCell_other _ _ _ _ (by simp)).trans h.1, (World.cell?_setCell_other _ _ _ _ (by simp)).trans h.2.1, (World.cell?_setCell_other _ _ _ _ (by simp)).trans h.2.2.1, World.cell?_setCell_same _ _ _ h.2.2.2.1, (World.cell?_setCell_other _ _ _ _ (by simp)).trans h.2.2.2.2.1, fun i => by rw [World.frozen?_setCell]; exact h.2.2.2.2.2 i⟩
theorem RepAt.set4 {w : World} {g : Nat} {c0 c1 c2 c3 c4 v : Value} (h : RepAt w g c0 c1 c2 c3 c4) : RepAt (w.setCell ⟨g, 4, none⟩ v) g c0 c1 c2 c3 v :=
  ⟨(World.cell?_setCell_other _ _ _ _ (by simp)).trans h.1, (World.cell?_setCell_other _ _ _ _ (by simp)).trans h.2.1, (World.cell?_setCell_other _ _ _ _ (by simp)).trans h.2.2.1, (World.cell?_setCell_other _ _ _ _ (by simp)).trans h.2.2.2.1, World.cell?_setCell_same _ _ _ h.2.2.2.2.1, fun i => by rw [World.frozen?_setCell]; exact h.2.2.2.2.2 i⟩
theorem TabAt.drew {W : World} {q t : Nat} {D : List UInt8} (h : TabAt W q t D) : TabAt W.drew q t D := h
theorem TabAt.other {W : World} {q t : Nat} {D : List UInt8} (h : TabAt W q t D) (g i : Nat) (v : Value) (hq : g ≠ q) (ht : g ≠ t) : TabAt (W.setCell ⟨g, i, none⟩ v) q t D := by
  obtain ⟨h1, h2, h3, h4, h5, h6, h7, h8, h9⟩ := h
  have eq : ∀ j : Nat, (W.setCell ⟨g, i, none⟩ v).cell? ⟨q, j, none⟩ = W.cell? ⟨q, j, none⟩ := fun j => World.cell?_setCell_other _ _ _ _ (fun e => hq (congrArg Addr.block e))
  have et : ∀ j : Nat, (W.setCell ⟨g, i, none⟩ v).cell? ⟨t, j, none⟩ = W.cell? ⟨t, j, none⟩ := fun j => World.cell?_setCell_other _ _ _ _ (fun e => ht (congrArg Addr.block e))
  refine ⟨by simpa [World.setCell] using h1, by simpa [World.setCell] using h2, fun c hc hd => (eq _).trans (h3 c hc hd), fun c hc => ?_, (eq _).trans h5, fun j c hj => (et _).trans (h6 j c hj), fun j hj => ?_, fun i => by rw [World.frozen?_setCell]; exact h8 i, fun i => by rw [World.frozen?_setCell]; exact h9 i⟩
  · obtain ⟨a, k, hk⟩ := h4 c hc; exact ⟨a, k, (eq _).trans hk⟩
  · obtain ⟨x, hx⟩ := h7 j hj; exact ⟨x, (et _).trans hx⟩
set_option maxHeartbeats 1600000 in
theorem once_is (g b cap : Nat) (W : World) (h : RepAt W g (.int .u32 0) (.int .i32 1) (.int .u32 0) .nilIface (.slice (some ⟨b, 0, none⟩) 8 cap)) (hP : Pairs W b) (hb : b < W.heap.size) (hg : g < W.heap.size) :
    Calls Tryz.prog 34 #[.pointer (some ⟨g, 0, none⟩)] W fun e w' => e = .returned (.tuple #[]) ∧ ∃ d3, RepAt w' g (.int .u32 0) (.int .i32 1) (.int .u32 0) d3 (.slice none 0 0) ∧
      ∃ q t, d3 = .iface 173 (.pointer (some ⟨q, 0, none⟩)) ∧ g < q ∧ g < t ∧ TabAt w' q t [13, 10, 9, 32] ∧ ∀ B, B ≤ g → Below B W w' := by
  have cB := build_is g b cap W h.2.2.2.2.1 hP hb
  have H := Lib.hid h
  clear h hP
  go_enter Tryz.func34, Tryz.ntmps34
  go_wp2_with fail
  refine cB.mono ?_
  rintro e w1 ⟨q, t, rfl, hq, ht, hT, hb1⟩
  have hR := H.out.later hb1 hg
  have r3 := hR.2.2.2.1
  have r4 := (hR.set3 (v := .iface 173 (.pointer (some ⟨q, 0, none⟩)))).2.2.2.2.1
  have z3 := hR.2.2.2.2.2 3
  have z4 := hR.2.2.2.2.2 4
  have HR := Lib.hid hR
  have HT := Lib.hid hT
  clear hR hT cB
  go_wp2_with fail
  go_end0
  refine ⟨rfl, _, HR.out.set3.set4, q, t, rfl, by omega, by omega, (HT.out.other g 3 _ (by omega) (by omega)).other g 4 _ (by omega) (by omega), fun B hB => ?_⟩
  exact ((hb1.mono (by omega)).setCell hB _).setCell hB _
set_option maxRecDepth 100000 in
set_option maxHeartbeats 1600000 in
theorem replace_is (g b cap : Nat) (s r : ByteArray) (W : World) (h : RepAt W g (.int .u32 0) (.int .i32 0) (.int .u32 0) .nilIface (.slice (some ⟨b, 0, none⟩) 8 cap)) (hP : Pairs W b) (hb : b < W.heap.size) (hg : g < W.heap.size) (hbg : b ≠ g)
    (HTab : ∀ (q t : Nat) (w : World), TabAt w q t [13, 10, 9, 32] → Calls Tryz.prog 272 #[.pointer (some ⟨q, 0, none⟩), .string s] w fun e w' => e = .returned (.string r) ∧ Below w.heap.size w w') :
    Calls Tryz.prog 14 #[.pointer (some ⟨g, 0, none⟩), .string s] W fun e w' => e = .returned (.string r) ∧ ∀ B, B ≤ g → Below B W w' := by
  have hP1 : Pairs (W.setCell ⟨g, 1, none⟩ (.int .i32 1)) b := by
    have e : ∀ i : Nat, (W.setCell ⟨g, 1, none⟩ (.int .i32 1)).cell? ⟨b, i, none⟩ = W.cell? ⟨b, i, none⟩ := fun i => World.cell?_setCell_other _ _ _ _ (fun e => hbg (congrArg Addr.block e).symm)
    obtain ⟨h0, h1, h2, h3, h4, h5, h6, h7⟩ := hP
    exact ⟨(e _).trans h0, (e _).trans h1, (e _).trans h2, (e _).trans h3, (e _).trans h4, (e _).trans h5, (e _).trans h6, (e _).trans h7⟩
  have hs1 : (W.setCell ⟨g, 1, none⟩ (.int .i32 1)).heap.size = W.heap.size := by simp [World.setCell]
  have cD := do_is g 34 _ _ _ (.int .u32 0) (.slice none 0 0) W h _ (fun args w => enters_of Tryz.func34 (by kernel_rfl) rfl args w) (once_is g b cap _ h.set1 hP1 (by rw [hs1]; exact hb) (by rw [hs1]; exact hg))
  have hgs := hg
  clear h hP hP1
  go_enter Tryz.func14, Tryz.ntmps14
  go_wp2_with fail
  refine cD.mono ?_
  rintro e w2 ⟨rfl, w1, d3, ⟨q, t, rfl, hq, ht, hT, hbel⟩, hR, rfl⟩
  have hR2 := (hR.drew.set0 (v := .int .u32 1)).set1 (v := .int .i32 0)
  have hT2 := ((hT.drew).other g 0 (.int .u32 1) (by omega) (by omega)).other g 1 (.int .i32 0) (by omega) (by omega)
  have hB2 : ∀ B, B ≤ g → Below B W ((w1.drew.setCell ⟨g, 0, none⟩ (.int .u32 1)).setCell ⟨g, 1, none⟩ (.int .i32 0)) := fun B hB =>
    ((((Below.refl B W).setCell hB _).trans (hbel B hB)).drew.setCell hB _).setCell hB _
  generalize (w1.drew.setCell ⟨g, 0, none⟩ (.int .u32 1)).setCell ⟨g, 1, none⟩ (.int .i32 0) = w3 at hR2 hT2 hB2 ⊢
  have cT := HTab q t w3 hT2
  have r3 := hR2.2.2.2.1
  have hgw : g < w3.heap.size := lt_of_cell r3
  clear cD hR hT hbel hR2 hT2 HTab
  go_wp2_with fail
  refine cT.mono ?_
  rintro e w4 ⟨rfl, hb4⟩
  go_wp2_with fail
  go_ret
  exact ⟨rfl, fun B hB => (hB2 B hB).trans (hb4.mono (by omega))⟩
end Go.Proofs.YtaieapldokkdnabGreatDoor

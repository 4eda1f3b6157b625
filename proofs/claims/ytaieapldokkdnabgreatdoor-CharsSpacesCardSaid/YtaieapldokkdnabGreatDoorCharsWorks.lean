/- The contract of the statements' own examples of package chars ('works'): it answers true. -/
import Derived.Test.YtaieapldokkdnabGreatDoorCharsCut
namespace Go.Proofs.YtaieapldokkdnabGreatDoor
open Go.RowKit Go.Lib

theorem text_ae : text [97, 195, 169] = true := by decide
theorem codes_ae : codes [97, 195, 169] = [97, 233] := by decide
theorem own_two {w : World} {B : Nat} {v : Value} (h : w.ownsRow B 3 1 v 2 (intCells [97, 233])) : ∃ g cap, v = .slice (some ⟨g, 0, none⟩) 2 cap ∧ w.cell? ⟨g, 1, none⟩ = some (.int .i64 233) ∧ g < w.heap.size := by
  rcases h.2 with ⟨_, h0⟩ | ⟨g, cap, cur, rfl, _⟩
  · cases h0
  · exact ⟨g, cap, rfl, h.cellAt 1 (by omega), (h.lt g rfl).2⟩
theorem wk_points (W : World) (hg : Gr W) : Calls Tryz.prog 18 #[.string ⟨#[97, 195, 169]⟩] W fun e w' => ∃ g cap, e = .returned (.tuple #[.slice (some ⟨g, 0, none⟩) 2 cap, .int .i64 0]) ∧ w'.cell? ⟨g, 1, none⟩ = some (.int .i64 233) ∧ g < w'.heap.size ∧ Below W.heap.size W w' := by
  refine (points_yes ⟨#[97, 195, 169]⟩ W (by decide) hg text_ae).mono ?_
  rintro e w' ⟨v, rfl, hown, _, hb⟩
  rw [show codes (⟨#[97, 195, 169]⟩ : ByteArray).data.toList = [97, 233] from codes_ae] at hown
  obtain ⟨g, cap, rfl, hc, hl⟩ := own_two hown
  exact ⟨g, cap, rfl, hc, hl, hb⟩
theorem wk_from (W : World) (t : TypeId) : Calls Tryz.prog 19 #[.slice (some ⟨W.heap.size, 0, none⟩) 2 2] (W.alloc (.cells #[.int .i64 97, .int .i64 233] t)) fun e w' => e = .returned (.tuple #[.string ⟨#[97, 195, 169]⟩, .int .i64 0]) ∧ Below W.heap.size W w' := by
  have hb : Below W.heap.size W (W.alloc (.cells #[.int .i64 97, .int .i64 233] t)) := (Below.refl _ W).alloc (Nat.le_refl _) _
  refine (from_some W.heap.size 0 2 [97, 233] _ (by decide) (by decide) (fun j z hj => ?_)).mono ?_
  · match j, hj with
    | 0, hj => simp at hj; subst hj; simp
    | 1, hj => simp at hj; subst hj; simp
  · rintro e w' ⟨rfl, hb2⟩
    refine ⟨?_, hb.trans (hb2.mono hb.size)⟩
    rw [fromV_yes _ (by decide)]
    have : formZ [97, 233] = [97, 195, 169] := by decide
    rw [this]
theorem wk_text1 (W : World) (hg : Gr W) : Calls Tryz.prog 20 #[.string ⟨#[97, 195, 169]⟩] W fun e w' => e = .returned (.bool true) ∧ Below W.heap.size W w' := by
  have := isText_any ⟨#[97, 195, 169]⟩ W (by decide) hg
  rw [show text (⟨#[97, 195, 169]⟩ : ByteArray).data.toList = true from by decide] at this; exact this
theorem wk_text2 (W : World) (hg : Gr W) : Calls Tryz.prog 20 #[.string ⟨#[255]⟩] W fun e w' => e = .returned (.bool false) ∧ Below W.heap.size W w' := by
  have := isText_any ⟨#[255]⟩ W (by decide) hg
  rw [show text (⟨#[255]⟩ : ByteArray).data.toList = false from by decide] at this; exact this
theorem wk_name1 (W : World) (hg : Gr W) : Calls Tryz.prog 21 #[.string ⟨#[120, 58, 121]⟩] W fun e w' => e = .returned (.bool true) ∧ Below W.heap.size W w' := by
  have := isName_any ⟨#[120, 58, 121]⟩ W (by decide) hg
  rw [show nameL (⟨#[120, 58, 121]⟩ : ByteArray).data.toList = true from by decide] at this; exact this
theorem wk_name2 (W : World) (hg : Gr W) : Calls Tryz.prog 21 #[.string ⟨#[97, 58]⟩] W fun e w' => e = .returned (.bool false) ∧ Below W.heap.size W w' := by
  have := isName_any ⟨#[97, 58]⟩ W (by decide) hg
  rw [show nameL (⟨#[97, 58]⟩ : ByteArray).data.toList = false from by decide] at this; exact this
theorem wk_norm (W : World) : Calls Tryz.prog 6 #[.string ⟨#[32, 32, 97, 10, 9, 98, 32]⟩] W fun e w' => e = .returned (.string ⟨#[97, 32, 98]⟩) ∧ Below W.heap.size W w' := by
  have := norm_any ⟨#[32, 32, 97, 10, 9, 98, 32]⟩ W (by decide)
  rw [show normL (⟨#[32, 32, 97, 10, 9, 98, 32]⟩ : ByteArray).data.toList = [97, 32, 98] from by decide] at this; exact this
theorem wk_len (W : World) (hg : Gr W) : Calls Tryz.prog 22 #[.string ⟨#[97, 195, 169]⟩] W fun e w' => e = .returned (.int .i64 2) ∧ Below W.heap.size W w' := by
  have := len_any ⟨#[97, 195, 169]⟩ W (by decide) hg
  rw [show text (⟨#[97, 195, 169]⟩ : ByteArray).data.toList = true from text_ae, show codes (⟨#[97, 195, 169]⟩ : ByteArray).data.toList = [97, 233] from codes_ae] at this; exact this
theorem wk_cut (W : World) (hg : Gr W) : Calls Tryz.prog 23 #[.string ⟨#[97, 195, 169, 98]⟩, .int .i64 1, .int .i64 2] W fun e w' => e = .returned (.string ⟨#[195, 169]⟩) ∧ Below W.heap.size W w' := by
  have := cut_any ⟨#[97, 195, 169, 98]⟩ 1 2 W (by decide) hg (by decide)
  rw [show cutL (⟨#[97, 195, 169, 98]⟩ : ByteArray).data.toList 1 2 = [195, 169] from by decide] at this; exact this

set_option maxHeartbeats 2000000 in
set_option maxRecDepth 100000 in
theorem works_any (w : World) (hg : Gr w) :
    Calls Tryz.prog 5 #[] w fun e w' => e = .returned (.bool true) ∧ Below w.heap.size w w' := by
  go_enter Tryz.func5, Tryz.ntmps5
  go_wp2_with fail
  refine (wk_points _ hg).mono ?_
  rintro e w1 ⟨g, cap, rfl, hc, hgl, hb1⟩
  have hg1 := hg.later hb1
  go_wp2_with fail
  refine (wk_from w1 _).mono ?_
  rintro e w2 ⟨rfl, hb2'⟩
  have hc2 := (hb2'.cell (p := ⟨g, 1, none⟩) hgl).trans hc
  have hgl2 := Nat.lt_of_lt_of_le hgl hb2'.size
  have hb2 := hb1.trans (hb2'.mono hb1.size)
  clear hb1 hb2' hc hgl hg1
  have hg2 := hg.later hb2
  go_wp2_with fail
  refine (wk_text1 _ hg2).mono ?_
  rintro e w3 ⟨rfl, hb3'⟩
  have hc3 := (hb3'.cell (p := ⟨g, 1, none⟩) hgl2).trans hc2
  have hgl3 := Nat.lt_of_lt_of_le hgl2 hb3'.size
  have hb3 := hb2.trans (hb3'.mono hb2.size)
  clear hb2 hb3' hc2 hgl2 hg2
  have hg3 := hg.later hb3
  go_wp2_with fail
  refine (wk_text2 _ hg3).mono ?_
  rintro e w4 ⟨rfl, hb4'⟩
  have hc4 := (hb4'.cell (p := ⟨g, 1, none⟩) hgl3).trans hc3
  have hgl4 := Nat.lt_of_lt_of_le hgl3 hb4'.size
  have hb4 := hb3.trans (hb4'.mono hb3.size)
  clear hb3 hb4' hc3 hgl3 hg3
  have hg4 := hg.later hb4
  go_wp2_with fail
  refine (wk_name1 _ hg4).mono ?_
  rintro e w5 ⟨rfl, hb5'⟩
  have hc5 := (hb5'.cell (p := ⟨g, 1, none⟩) hgl4).trans hc4
  have hgl5 := Nat.lt_of_lt_of_le hgl4 hb5'.size
  have hb5 := hb4.trans (hb5'.mono hb4.size)
  clear hb4 hb5' hc4 hgl4 hg4
  have hg5 := hg.later hb5
  go_wp2_with fail
  refine (wk_name2 _ hg5).mono ?_
  rintro e w6 ⟨rfl, hb6'⟩
  have hc6 := (hb6'.cell (p := ⟨g, 1, none⟩) hgl5).trans hc5
  have hgl6 := Nat.lt_of_lt_of_le hgl5 hb6'.size
  have hb6 := hb5.trans (hb6'.mono hb5.size)
  clear hb5 hb6' hc5 hgl5 hg5
  go_wp2_with fail
  refine (wk_norm _).mono ?_
  rintro e w7 ⟨rfl, hb7'⟩
  have hc7 := (hb7'.cell (p := ⟨g, 1, none⟩) hgl6).trans hc6
  have hb7 := hb6.trans (hb7'.mono hb6.size)
  clear hb6 hb7' hc6 hgl6
  have hg7 := hg.later hb7
  go_wp2_with fail
  refine (wk_len _ hg7).mono ?_
  rintro e w8 ⟨rfl, hb8'⟩
  have hb8 := hb7.trans (hb8'.mono hb7.size)
  clear hb7 hb8' hc7 hg7
  have hg8 := hg.later hb8
  go_wp2_with fail
  refine (wk_cut _ hg8).mono ?_
  rintro e w9 ⟨rfl, hb9'⟩
  have hb9 := hb8.trans (hb9'.mono hb8.size)
  clear hb8 hb9' hg8
  go_wp2
  go_ret
  exact ⟨rfl, hb9⟩
end Go.Proofs.YtaieapldokkdnabGreatDoor

/- CharsSpaces: the law's closure: the bytes that are no white space. -/
import Derived.Test.YtaieapldokkdnabGreatDoorCharsSwap
namespace Go.Proofs.YtaieapldokkdnabGreatDoor
open Go.RowKit Go.Lib

theorem new_some (B : Nat) (w : World) (h : Pairs w B) :
    Calls Tryz.prog 13 #[.slice (some ⟨B, 0, none⟩) 8 8] w fun e w' => ∃ g b cap, e = .returned (.pointer (some ⟨g, 0, none⟩)) ∧ w.heap.size ≤ g ∧ b ≠ g ∧ b < w'.heap.size ∧ g < w'.heap.size ∧ RepAt w' g (.int .u32 0) (.int .i32 0) (.int .u32 0) .nilIface (.slice (some ⟨b, 0, none⟩) 8 cap) ∧ Pairs w' b ∧ Below w.heap.size w w' := by
  refine (new_is B w h).mono ?_
  rintro e w' ⟨rfl, ⟨cap, hR⟩, hP, hb, hs⟩
  exact ⟨_, _, cap, rfl, by omega, by omega, by omega, hs, hR, hP, hb⟩
theorem table_is (s r : ByteArray) (hs : s.size ≤ 4000) (h : bare s.data.toList = r.data.toList) (q t : Nat) (w : World) (hT : TabAt w q t [13, 10, 9, 32]) :
    Calls Tryz.prog 272 #[.pointer (some ⟨q, 0, none⟩), .string s] w fun e w' => e = .returned (.string r) ∧ Below w.heap.size w w' := by
  by_cases h32 : 32 ≤ s.size
  · exact swap_long q t s r w h32 hs hT (Lib.hid h)
  · exact swap_short q t s r w (by omega) hT (Lib.hid h)
set_option maxHeartbeats 1000000 in
theorem without_is (s r : ByteArray) (W : World) (hs : s.size ≤ 4000) (h : bare s.data.toList = r.data.toList) :
    Calls Tryz.prog 12 #[.string s] W fun e w' => e = .returned (.string r) ∧ Below W.heap.size W w' := by
  have hP : Pairs (W.alloc (.cells #[.string ⟨#[32]⟩, .string ⟨#[]⟩, .string ⟨#[9]⟩, .string ⟨#[]⟩, .string ⟨#[10]⟩, .string ⟨#[]⟩, .string ⟨#[13]⟩, .string ⟨#[]⟩] 9)) W.heap.size := by
    have e : (W.alloc (.cells #[.string ⟨#[32]⟩, .string ⟨#[]⟩, .string ⟨#[9]⟩, .string ⟨#[]⟩, .string ⟨#[10]⟩, .string ⟨#[]⟩, .string ⟨#[13]⟩, .string ⟨#[]⟩] 9)).heap[W.heap.size]? = some (.cells #[.string ⟨#[32]⟩, .string ⟨#[]⟩, .string ⟨#[9]⟩, .string ⟨#[]⟩, .string ⟨#[10]⟩, .string ⟨#[]⟩, .string ⟨#[13]⟩, .string ⟨#[]⟩] 9) := by
      show (W.heap.push _)[W.heap.size]? = _
      simp
    exact ⟨cell_of e 0, cell_of e 1, cell_of e 2, cell_of e 3, cell_of e 4, cell_of e 5, cell_of e 6, cell_of e 7⟩
  have hb0 := (Below.refl W.heap.size W).alloc (Nat.le_refl _) (.cells #[.string ⟨#[32]⟩, .string ⟨#[]⟩, .string ⟨#[9]⟩, .string ⟨#[]⟩, .string ⟨#[10]⟩, .string ⟨#[]⟩, .string ⟨#[13]⟩, .string ⟨#[]⟩] 9)
  have cN := new_some W.heap.size _ hP
  have HH := Lib.hid h
  clear hP h
  go_enter Tryz.func12, Tryz.ntmps12
  go_wp2_with fail
  refine cN.mono ?_
  rintro e w1 ⟨g, b, cap, rfl, hg, hbg, hbs, hgs, hR, hP1, hb1⟩
  have cR := replace_is g b cap s r w1 hR hP1 hbs hgs hbg (fun q t w hT => table_is s r hs HH.out q t w hT)
  have hb2 := hb0.trans (hb1.mono hb0.size)
  have hWg : W.heap.size ≤ g := Nat.le_trans hb0.size hg
  clear cN hR hP1 hb0 hb1 hg
  go_wp2_with fail
  refine cR.mono ?_
  rintro e w2 ⟨rfl, hb3⟩
  go_wp2_with fail
  go_ret
  exact ⟨rfl, hb2.trans (hb3 _ hWg)⟩
end Go.Proofs.YtaieapldokkdnabGreatDoor

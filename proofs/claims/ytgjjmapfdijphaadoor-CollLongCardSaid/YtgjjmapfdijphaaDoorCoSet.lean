/- The contract of (*coll.description).setStrength. -/
import Derived.Test.YtgjjmapfdijphaaDoorCoKeep
import Derived.Test.YtgjjmapfdijphaaDoorCoWord
namespace Go.Proofs.YtgjjmapfdijphaaDoor
open Go.RowKit Go.Lib

/-- A slice of strings in memory. -/
def StrsAt (w : World) (v : Value) (ws : List (List UInt8)) : Prop :=
  ∃ a cap, v = .slice a ws.length cap ∧ (ws ≠ [] → ∃ A off, a = some ⟨A, off, none⟩ ∧ ∀ (j : Nat) x, ws[j]? = some x → w.cell? ⟨A, off + j, none⟩ = some (.string ⟨x.toArray⟩))
theorem StrsAt.later {w w' : World} {v : Value} {ws : List (List UInt8)} (h : StrsAt w v ws) (hb : Below w.heap.size w w') : StrsAt w' v ws := by
  obtain ⟨a, cap, rfl, h⟩ := h
  refine ⟨a, cap, rfl, fun hn => ?_⟩
  obtain ⟨A, off, rfl, h2⟩ := h hn
  exact ⟨A, off, rfl, fun j x hj => (hb.cell (p := ⟨A, off + j, none⟩) (lt_of_cell (h2 j x hj))).trans (h2 j x hj)⟩
theorem DsAt.setStr {w : World} {p mb : Nat} {d : Ds} (h : DsAt w p mb d) (n : Nat) : DsAt (w.setCell ⟨p, 4, none⟩ (.int .i64 (n : Int))) p mb { d with str := n } := by
  refine ⟨?_, h.ne, h.map.setCell (by show mb ≠ p; exact h.ne) _⟩
  have hb := h.blk
  have hp := h.lt.1
  simp [World.setCell, Array.getElem?_modify, hb]
theorem idx_three (x : List UInt8) : Lib.idxOfS [⟨#[49]⟩, ⟨#[50]⟩, ⟨#[51]⟩] ⟨x.toArray⟩ = (strOf x : Int) - 1 := by
  unfold strOf
  by_cases h1 : x = [49]
  · subst h1; rfl
  · by_cases h2 : x = [50]
    · subst h2; rfl
    · by_cases h3 : x = [51]
      · subst h3; rfl
      · rw [if_neg h1, if_neg h2, if_neg h3]
        have hne : ∀ y : List UInt8, x ≠ y → ¬ (⟨y.toArray⟩ : ByteArray) = ⟨x.toArray⟩ := fun y hy e => hy (by
          have := congrArg (fun b : ByteArray => b.data.toList) e
          simpa using this.symm)
        have n1 := hne [49] h1
        have n2 := hne [50] h2
        have n3 := hne [51] h3
        simp only [List.toArray] at n1 n2 n3
        unfold Lib.idxOfS
        simp only [Lib.idxFromS]
        rw [if_neg n1, if_neg n2, if_neg n3]; rfl
theorem strOf_le (x : List UInt8) : strOf x ≤ 3 := by unfold strOf; split <;> (try omega); split <;> (try omega); split <;> omega
set_option maxHeartbeats 2000000 in
set_option maxRecDepth 100000 in
theorem setStrength_any (p mb : Nat) (d : Ds) (v : Value) (ws : List (List UInt8)) (w : World) (hd : DsAt w p mb d) (hv : StrsAt w v ws) (hl : ws.length ≤ 2000000) :
    Calls Tryd.prog 50 #[.pointer (some ⟨p, 0, none⟩), v] w (KeepGives w p mb (setStr ws d)) := by
  obtain ⟨a, cap, rfl, hv⟩ := hv
  match ws, hv with
  | [], _ =>
    go_enter Tryd.func50, Tryd.ntmps50
    go_wp2_with fail
    go_ret
    exact ⟨Ch.refl _ _, rfl⟩
  | x :: y :: t, _ =>
    have q1 : (((x :: y :: t).length : Int) != 1) = true := by rw [bne_iff_ne]; simp; omega
    have he : setStr (x :: y :: t) d = .error 5 := rfl
    rw [he]
    generalize (x :: y :: t).length = n at q1 hl
    go_enter Tryd.func50, Tryd.ntmps50
    go_wp2_with fail
    go_ret
    exact ⟨Ch.refl _ _, rfl⟩
  | [x], hv =>
    obtain ⟨A, off, rfl, hc⟩ := hv (by simp)
    have c0 := hc 0 x rfl
    have hcl := lt_of_cell c0
    obtain ⟨W1, hW1⟩ : ∃ W1, w.alloc (.cells #[.string ⟨#[49]⟩, .string ⟨#[50]⟩, .string ⟨#[51]⟩] 9) = W1 := ⟨_, rfl⟩
    have hb1 : Below w.heap.size w W1 := by rw [← hW1]; exact (Below.refl _ w).alloc (Nat.le_refl _) _
    have c1 := (hb1.cell (p := ⟨A, off + 0, none⟩) hcl).trans c0
    have cI := Tryd.slices_Index_string w.heap.size 0 3 3 [⟨#[49]⟩, ⟨#[50]⟩, ⟨#[51]⟩] ⟨x.toArray⟩ W1 (by simp) (by omega) (fun j hj => by
      rw [← hW1, Nat.zero_add, cell_of_row _ w.heap.size j _ _ (0, 0) (heap_alloc_new w _)]
      rcases (show j = 0 ∨ j = 1 ∨ j = 2 by simp at hj; omega) with rfl | rfl | rfl <;> rfl)
    rw [show List.take 3 [(⟨#[49]⟩ : ByteArray), ⟨#[50]⟩, ⟨#[51]⟩] = [⟨#[49]⟩, ⟨#[50]⟩, ⟨#[51]⟩] from rfl, idx_three] at cI
    have hd1 := hd.below hb1
    obtain ⟨_, _, _, _, e4, ef⟩ := hd1.cells
    have ef4 := ef 4
    have c1w : (w.alloc (.cells #[.string ⟨#[49]⟩, .string ⟨#[50]⟩, .string ⟨#[51]⟩] 9)).cell? ⟨A, off, none⟩ = some (.string ⟨x.toArray⟩) := by rw [hW1]; exact c1
    have HW1 := Lib.hid hW1
    have hs3 := strOf_le x
    have hr : setStr [x] d = if strOf x = 0 then .error 5 else if d.str ≠ 0 then .error 4 else .ok { d with str := strOf x } := rfl
    rw [hr]
    generalize strOf x = n at cI hs3 hr ⊢
    clear hW1 hr hc
    by_cases hn : n = 0
    · subst hn
      rw [if_pos rfl]
      have cI : Calls Tryd.prog 69 #[.slice (some ⟨w.heap.size, 0, none⟩) 3 3, .string ⟨x.toArray⟩] W1 fun e w' => e = .returned (.int .i64 (-1)) ∧ w' = W1 := cI
      go_enter Tryd.func50, Tryd.ntmps50
      go_wp2_with fail
      rw [HW1.out]
      refine cI.mono ?_
      rintro e w' ⟨rfl, rfl⟩
      go_wp2_with fail
      go_ret
      exact ⟨Ch.of_below hb1, rfl⟩
    · rw [if_neg hn]
      have q1 : ((n : Int) == 0) = false := by rw [beq_eq_false_iff_ne]; omega
      by_cases hs : d.str = 0
      · rw [if_neg (fun h => h hs)]
        have q2 : (((d.str : Nat) : Int) != 0) = false := by rw [hs]; rfl
        go_enter Tryd.func50, Tryd.ntmps50
        go_wp2_with fail
        rw [HW1.out]
        refine cI.mono ?_
        rintro e w' ⟨rfl, rfl⟩
        go_wp2_with fail
        go_ret
        exact ⟨(Ch.of_below hb1).setCell (.inl (.inl rfl)) _, rfl, hd1.setStr n⟩
      · rw [if_pos hs]
        have q2 : (((d.str : Nat) : Int) != 0) = true := by rw [bne_iff_ne]; omega
        go_enter Tryd.func50, Tryd.ntmps50
        go_wp2_with fail
        rw [HW1.out]
        refine cI.mono ?_
        rintro e w' ⟨rfl, rfl⟩
        go_wp2_with fail
        go_ret
        exact ⟨Ch.of_below hb1, rfl⟩
end Go.Proofs.YtgjjmapfdijphaaDoor

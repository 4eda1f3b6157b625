/- strings.NewReplacer at the law's own pairs, and the building of its table. -/
import Derived.Test.YtaieapldokkdnabGreatDoorCharsSlow
namespace Go.Proofs.YtaieapldokkdnabGreatDoor
open Go.RowKit Go.Lib

/-- The pairs lie at block b. -/
def Pairs (w : World) (b : Nat) : Prop :=
  w.cell? ⟨b, 0, none⟩ = some (.string ⟨#[32]⟩) ∧ w.cell? ⟨b, 1, none⟩ = some (.string ⟨#[]⟩) ∧ w.cell? ⟨b, 2, none⟩ = some (.string ⟨#[9]⟩) ∧ w.cell? ⟨b, 3, none⟩ = some (.string ⟨#[]⟩) ∧ w.cell? ⟨b, 4, none⟩ = some (.string ⟨#[10]⟩) ∧ w.cell? ⟨b, 5, none⟩ = some (.string ⟨#[]⟩) ∧ w.cell? ⟨b, 6, none⟩ = some (.string ⟨#[13]⟩) ∧ w.cell? ⟨b, 7, none⟩ = some (.string ⟨#[]⟩)
theorem Pairs.at {w : World} {b : Nat} (h : Pairs w b) (i : Nat) (hi : i < 4) : w.cell? ⟨b, 2 * i, none⟩ = some (.string ⟨#[([32, 9, 10, 13] : List UInt8).getD i 0]⟩) ∧ w.cell? ⟨b, 2 * i + 1, none⟩ = some (.string ⟨#[]⟩) := by
  obtain ⟨h0, h1, h2, h3, h4, h5, h6, h7⟩ := h
  match i, hi with
  | 0, _ => exact ⟨h0, h1⟩
  | 1, _ => exact ⟨h2, h3⟩
  | 2, _ => exact ⟨h4, h5⟩
  | 3, _ => exact ⟨h6, h7⟩
theorem Pairs.later {w w' : World} {B b : Nat} (h : Pairs w b) (hb : Below B w w') (hl : b < B) : Pairs w' b := by
  have e : ∀ i : Nat, w'.cell? ⟨b, i, none⟩ = w.cell? ⟨b, i, none⟩ := fun i => hb.cell (p := ⟨b, i, none⟩) hl
  obtain ⟨h0, h1, h2, h3, h4, h5, h6, h7⟩ := h
  exact ⟨(e _).trans h0, (e _).trans h1, (e _).trans h2, (e _).trans h3, (e _).trans h4, (e _).trans h5, (e _).trans h6, (e _).trans h7⟩
theorem cell_of {w : World} {b : Nat} {cs : Array Value} {T : TypeId} (h : w.heap[b]? = some (.cells cs T)) (i : Nat) : w.cell? ⟨b, i, none⟩ = cs[i]? := by
  unfold World.cell?
  rw [h]
  rfl
theorem frozen_of {w : World} {b : Nat} {cs : Array Value} {T : TypeId} (h : w.heap[b]? = some (.cells cs T)) (i : Nat) : w.frozen? ⟨b, i, none⟩ = false := by
  unfold World.frozen?
  rw [h]
  simp
theorem two_first (w : World) (o1 o2 : Obj) : ((w.alloc o1).alloc o2).drew.heap[w.heap.size]? = some o1 := by
  show ((w.heap.push o1).push o2)[w.heap.size]? = _
  rw [Array.getElem?_push, if_neg (by simp), Array.getElem?_push, if_pos rfl]
theorem two_last (w : World) (o1 o2 : Obj) : ((w.alloc o1).alloc o2).drew.heap[w.heap.size + 1]? = some o2 := by
  show ((w.heap.push o1).push o2)[w.heap.size + 1]? = _
  rw [Array.getElem?_push, if_pos (by simp)]
set_option maxHeartbeats 2000000 in
theorem new_is (B : Nat) (w : World) (h : Pairs w B) :
    Calls Tryz.prog 13 #[.slice (some ⟨B, 0, none⟩) 8 8] w fun e w' => e = .returned (.pointer (some ⟨w.heap.size + 1, 0, none⟩)) ∧ (∃ cap, RepAt w' (w.heap.size + 1) (.int .u32 0) (.int .i32 0) (.int .u32 0) .nilIface (.slice (some ⟨w.heap.size, 0, none⟩) 8 cap)) ∧ Pairs w' w.heap.size ∧ Below w.heap.size w w' ∧ w.heap.size + 1 < w'.heap.size := by
  obtain ⟨h0, h1, h2, h3, h4, h5, h6, h7⟩ := h
  go_enter Tryz.func13, Tryz.ntmps13
  go_wp2_with fail
  go_ret
  refine ⟨rfl, ⟨(Question.appendCap 8 0 9).cut (w.tape w.drawn (Question.appendCap 8 0 9)), ?_⟩, ?_, ?_, ?_⟩
  · have e := two_last w (.cells (#[.string ⟨#[32]⟩, .string ⟨#[]⟩, .string ⟨#[9]⟩, .string ⟨#[]⟩, .string ⟨#[10]⟩, .string ⟨#[]⟩, .string ⟨#[13]⟩, .string ⟨#[]⟩] ++ Builtin.zeroCells #[.string ⟨#[]⟩] ((Question.appendCap 8 0 9).cut (w.tape w.drawn (Question.appendCap 8 0 9)) - 8)) 9) (.cells #[.int .u32 0, .int .i32 0, .int .u32 0, .nilIface, .slice (some ⟨w.heap.size, 0, none⟩) 8 ((Question.appendCap 8 0 9).cut (w.tape w.drawn (Question.appendCap 8 0 9)))] 65)
    exact ⟨cell_of e 0, cell_of e 1, cell_of e 2, cell_of e 3, cell_of e 4, fun i => frozen_of e i⟩
  · have e := two_first w (.cells (#[.string ⟨#[32]⟩, .string ⟨#[]⟩, .string ⟨#[9]⟩, .string ⟨#[]⟩, .string ⟨#[10]⟩, .string ⟨#[]⟩, .string ⟨#[13]⟩, .string ⟨#[]⟩] ++ Builtin.zeroCells #[.string ⟨#[]⟩] ((Question.appendCap 8 0 9).cut (w.tape w.drawn (Question.appendCap 8 0 9)) - 8)) 9) (.cells #[.int .u32 0, .int .i32 0, .int .u32 0, .nilIface, .slice (some ⟨w.heap.size, 0, none⟩) 8 ((Question.appendCap 8 0 9).cut (w.tape w.drawn (Question.appendCap 8 0 9)))] 65)
    have q : ∀ (i : Nat) (v : Value) (xs ys : Array Value), xs[i]? = some v → (xs ++ ys)[i]? = some v := fun i v xs ys h => by
      have hi := (Array.getElem?_eq_some_iff.1 h).1
      rw [Array.getElem?_append_left hi]; exact h
    exact ⟨(cell_of e 0).trans (q _ _ _ _ rfl), (cell_of e 1).trans (q _ _ _ _ rfl), (cell_of e 2).trans (q _ _ _ _ rfl), (cell_of e 3).trans (q _ _ _ _ rfl), (cell_of e 4).trans (q _ _ _ _ rfl), (cell_of e 5).trans (q _ _ _ _ rfl), (cell_of e 6).trans (q _ _ _ _ rfl), (cell_of e 7).trans (q _ _ _ _ rfl)⟩
  · exact (((Below.refl _ w).alloc (Nat.le_refl _) _).alloc (by simp) _).drew
  · simp
end Go.Proofs.YtaieapldokkdnabGreatDoor

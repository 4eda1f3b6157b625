/- A string is turned into runes: what the new block holds. -/
import Derived.Test.YtgjjmapfdijphaaDoorCharsGround
import Derived.Laws.IdiomStrings
import Derived.Laws.Pointers
namespace Go.Proofs.YtgjjmapfdijphaaDoor
open Go.RowKit Go.Lib

theorem runesFrom_steps (s : ByteArray) : ∀ (bound pos : Nat) (acc : Array Value), s.size ≤ pos + bound →
    (Conv.runesFrom s bound pos acc).toList = acc.toList ++ (steps (s.data.toList.drop pos)).map (fun x => Value.int .i32 (x.1 : Int))
  | 0, pos, acc, h => by
    rw [steps_end s pos (by omega)]
    simp [Conv.runesFrom]
  | bound + 1, pos, acc, h => by
    unfold Conv.runesFrom
    by_cases hlt : pos < s.size
    · rw [if_pos hlt, runesFrom_steps s bound _ _ (by have := width_pos s pos; omega), steps_at s pos hlt]
      simp
    · rw [if_neg hlt, steps_end s pos hlt]
      simp
/-- A string's code points, as the reader has them. -/
def runesZ (s : ByteArray) : List Int := (steps s.data.toList).map (fun x => (x.1 : Int))
theorem runesFrom_eq (s : ByteArray) : Conv.runesFrom s s.size 0 #[] = ((runesZ s).map (Value.int .i32)).toArray := by
  apply Array.toList_inj.1
  rw [runesFrom_steps s s.size 0 #[] (by omega)]
  simp [runesZ, List.map_map, Function.comp]
theorem runesZ_len (s : ByteArray) : (runesZ s).length ≤ s.size := by
  unfold runesZ
  rw [List.length_map, size_eq]
  exact steps_len _
/-- The conversion of a string to runes: a new block that holds them. -/
theorem conv_runes (s : ByteArray) (w : World) (hs : s.size ≤ 4000) : ∃ (cap : Nat) (w' : World), (convert 9 38 (.string s)).run Tryd.prog w = .ok (.slice (some ⟨w.heap.size, 0, none⟩) (runesZ s).length cap) w' ∧ Below w.heap.size w w' ∧ w'.heap.size = w.heap.size + 1 ∧
    ∀ i c, (runesZ s)[i]? = some c → w'.cell? ⟨w.heap.size, i, none⟩ = some (.int .i32 c) := by
  have hl := runesZ_len s
  have hsz : (Conv.runesFrom s s.size 0 #[]).size = (runesZ s).length := by rw [runesFrom_eq]; simp
  have hrun := run_runes_of_string (P := Tryd.prog) w 9 38 21 s Tryd.underlying9 Tryd.underlying38 Tryd.underlying21 (by rw [hsz]; omega)
  rw [hsz] at hrun
  refine ⟨_, _, hrun, ?_, ?_, ?_⟩
  · exact (Below.refl _ _).drew.alloc (Nat.le_refl _) _
  · simp
  · intro i c hi
    rw [cell_of_row _ w.heap.size _ _ _ (0, 0) (heap_alloc_new w.drew _), runesFrom_eq]
    have hlt : i < (runesZ s).length := by
      rcases Nat.lt_or_ge i (runesZ s).length with h | h
      · exact h
      · rw [List.getElem?_eq_none h] at hi; cases hi
    rw [List.getElem?_eq_getElem hlt] at hi
    simp [Array.getElem?_append, hlt, Option.some.inj hi]

end Go.Proofs.YtgjjmapfdijphaaDoor

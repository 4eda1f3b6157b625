/- The contracts of chars.Points and chars.Len. -/
import Derived.Test.YtgjjmapfdijphaaDoorCharsSpace
import Derived.Laws.MakeOwn
import Derived.Laws.OwnMore
import Derived.Maps.AppendAt
import Derived.Deep.DeepMust
namespace Go.Proofs.YtgjjmapfdijphaaDoor
open Go.RowKit Go.Lib

theorem infoInt : (Tryd.prog.info? 3).map (fun i => (i.zero, i.size, i.bytes)) = some (some (.int .i64 0), 1, 8) := by kernel_rfl
def intCells (p : List Nat) : List Value := p.map fun (c : Nat) => Value.int .i64 (c : Int)
theorem intCells_len (p : List Nat) : (intCells p).length = p.length := List.length_map _
theorem intCells_snoc (p : List Nat) (c : Nat) : intCells (p ++ [c]) = intCells p ++ [Value.int .i64 (c : Int)] := by simp [intCells]

set_option maxHeartbeats 1000000 in
theorem len_any (s : ByteArray) (w : World) (hs : s.size < 9223372036854775807) (hg : Gr w) :
    Calls Tryd.prog 17 #[.string s] w fun e w' => e = .returned (.int .i64 (if text s.data.toList then ((codes s.data.toList).length : Int) else 0)) ∧ Below w.heap.size w w' := by
  have cT := isText_any s w (by omega) hg
  cases hT : text s.data.toList <;> rw [hT] at cT <;> clear hT
  · go_enter Tryd.func17, Tryd.ntmps17
    go_wp2_with (go_at_call 16; refine cT.mono ?_; rintro e w' ⟨rfl, hb⟩)
    go_ret
    exact ⟨by simp, hb⟩
  · have cR : ∀ W, Calls Tryd.prog _ _ W _ := fun W => Tryd.utf8_RuneCountInString s W hs
    rw [runeCount_steps] at cR
    rw [show (codes s.data.toList).length = (steps s.data.toList).length from List.length_map _]
    generalize (steps s.data.toList).length = n at cR ⊢
    go_enter Tryd.func17, Tryd.ntmps17
    go_wp2_with (go_at_call 16; refine cT.mono ?_; rintro e w1 ⟨rfl, hb⟩)
    go_wp2_with (go_at_call 36; refine (cR _).mono ?_; rintro e w2 ⟨rfl, p, rfl⟩)
    go_ret
    exact ⟨by simp, hb.trans ((iter_below w1 s p).mono hb.size)⟩


/-- What Points hands back of a text: a row of its own that holds the code points. -/
def PointsGive (w : World) (p : List Nat) (e : Ending) (w' : World) : Prop :=
  ∃ v, e = .returned (.tuple #[v, .int .i64 0]) ∧ w'.ownsRow w.heap.size 3 1 v p.length (intCells p) ∧ v ≠ .slice none 0 0 ∧ Below w.heap.size w w'

end Go.Proofs.YtgjjmapfdijphaaDoor

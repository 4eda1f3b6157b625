/- The contract of chisellaw06.DurSecondTexts. -/
import Derived.Test.YtdfgifnccghlmabGreatDoorMDuI
import Derived.Test.YtdfgifnccghlmabGreatDoorMDuRTextS
import Derived.Test.YtdfgifnccghlmabGreatDoorMRfG
namespace Go.Proofs.YtdfgifnccghlmabGreatDoor
open Go.RowKit Go.Lib

set_option maxRecDepth 100000 in
set_option maxHeartbeats 8000000 in
theorem durSecondTexts_law (n : ByteArray) (hn : n.size < 4294967281) (w : World) (hg : GrD w) :
    Calls Tryz.prog 6 #[.string n] w fun e w' => e = .returned (.bool true) ∧ Below w.heap.size w w' := by
  have cw := (works_du hg).use
  obtain ⟨r, z, h⟩ := res_ex (textS n.data.toList)
  have c1 := (textS_on hg n r z hn h).use
  have e2 : ∀ W, Calls Tryz.prog 19 #[.string n] W fun e w' => e = .returned (.tuple #[.string r, .int .i64 z]) ∧ Below W.heap.size W w' := fun W => by
    have := textSeconds6 n W
    rw [resV_on h] at this
    exact this
  have c2 := (R.onR (w := w) e2).use
  clear hg h e2
  go_enter Tryz.func6, Tryz.ntmps6
  go_wp2_with fail
  refine (c1 w (Below.refl _ _)).mono ?_
  rintro e w1 ⟨rfl, b1⟩
  go_wp2_with fail
  refine (c2 w1 b1).mono ?_
  rintro e w2 ⟨rfl, b2⟩
  go_wp2_with fail
  refine (cw w2 b2).mono ?_
  rintro e w3 ⟨rfl, b3⟩
  go_wp2_with fail
  go_ret
  exact ⟨by simp, b3⟩
end Go.Proofs.YtdfgifnccghlmabGreatDoor

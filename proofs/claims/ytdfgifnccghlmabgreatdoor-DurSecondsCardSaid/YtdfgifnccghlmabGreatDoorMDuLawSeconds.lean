/- The contract of chisellaw06.DurSeconds. -/
import Derived.Test.YtdfgifnccghlmabGreatDoorMDuUse
import Derived.Test.YtdfgifnccghlmabGreatDoorMDuRSec
import Derived.Test.YtdfgifnccghlmabGreatDoorMRfG
namespace Go.Proofs.YtdfgifnccghlmabGreatDoor
open Go.RowKit Go.Lib

set_option maxRecDepth 100000 in
set_option maxHeartbeats 8000000 in
theorem durSeconds_law (s : ByteArray) (w : World) (hg : GrD w) :
    Calls Tryz.prog 5 #[.string s] w fun e w' => e = .returned (.bool true) ∧ Below w.heap.size w w' := by
  have cw := (works_du hg).use
  obtain ⟨r, z, h⟩ := res_ex (parseS s.data.toList)
  have c1 := (parseS_on hg s r z h).use
  have e2 : ∀ W, Calls Tryz.prog 17 #[.string s] W fun e w' => e = .returned (.tuple #[.string r, .int .i64 z]) ∧ Below W.heap.size W w' := fun W => by
    have := parseSeconds6 s W
    rw [← refS_eq, resV_on h] at this
    exact this
  have c2 := (R.onR (w := w) e2).use
  clear hg h e2
  go_enter Tryz.func5, Tryz.ntmps5
  go_wp2_with fail
  refine (c1 w (Below.refl _ _)).mono ?_
  rintro e w1 ⟨rfl, b1⟩
  go_wp2_with fail
  refine (c2 w1 b1).mono ?_
  rintro e w2 ⟨rfl, b2⟩
  go_wp2_with fail
  refine (cw w2 b2).mono ?_
  rintro e w3 ⟨rfl, b3⟩
  go_wp2_with fail
  go_ret
  exact ⟨by simp, b3⟩
end Go.Proofs.YtdfgifnccghlmabGreatDoor

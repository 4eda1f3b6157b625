/- The contract of chisellaw06.DurMonthTexts. -/
import Derived.Test.YtdfgifnccghlmabGreatDoorMDuI
import Derived.Test.YtdfgifnccghlmabGreatDoorMDuH
import Derived.Test.YtdfgifnccghlmabGreatDoorMRfG
namespace Go.Proofs.YtdfgifnccghlmabGreatDoor
open Go.RowKit Go.Lib

set_option maxRecDepth 100000 in
set_option maxHeartbeats 8000000 in
theorem durMonthTexts_law (n : Int) (h1 : -9223372036854775808 ≤ n) (h2 : n ≤ 9223372036854775807) (w : World) (hg : GrD w) :
    Calls Tryz.prog 4 #[.int .i64 n] w fun e w' => e = .returned (.bool true) ∧ Below w.heap.size w w' := by
  have cw := (works_du hg).use
  obtain ⟨r, z, h⟩ := res_ex (textM n)
  have c1 := (textM_on hg n h1 h2 r z h).use
  have e2 : ∀ W, Calls Tryz.prog 15 #[.int .i64 n] W fun e w' => e = .returned (.tuple #[.string r, .int .i64 z]) ∧ Below W.heap.size W w' := fun W => by
    have := textMonths6 n h1 h2 W
    rw [resV_on h] at this
    exact this.mono fun _ _ k => ⟨k.1, by rw [k.2]; exact Below.refl _ _⟩
  have c2 := (R.onR (w := w) e2).use
  clear hg h e2
  go_enter Tryz.func4, Tryz.ntmps4
  go_wp2_with fail
  refine (c1 w (Below.refl _ _)).mono ?_
  rintro e w1 ⟨rfl, b1⟩
  go_wp2_with fail
  refine (c2 w1 b1).mono ?_
  rintro e w2 ⟨rfl, b2⟩
  go_wp2_with fail
  refine (cw w2 b2).mono ?_
  rintro e w3 ⟨rfl, b3⟩
  go_wp2_with fail
  go_ret
  exact ⟨by simp, b3⟩
end Go.Proofs.YtdfgifnccghlmabGreatDoor

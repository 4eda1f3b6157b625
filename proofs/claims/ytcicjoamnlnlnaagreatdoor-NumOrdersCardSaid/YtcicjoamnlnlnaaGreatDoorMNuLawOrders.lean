/- The contract of chisellaw04.NumOrders. -/
import Derived.Test.YtcicjoamnlnlnaaGreatDoorMNuUse
import Derived.Test.YtcicjoamnlnlnaaGreatDoorMRfG
import Derived.Test.YtcicjoamnlnlnaaGreatDoorMRfOps2
namespace Go.Proofs.YtcicjoamnlnlnaaGreatDoor
open Go.RowKit Go.Lib

set_option maxRecDepth 100000 in
set_option maxHeartbeats 8000000 in
theorem orders_law (a b : ByteArray) (w : World) (hg : GrN w) :
    Calls Tryz.prog 6 #[.string a, .string b] w fun e w' => e = .returned (.bool true) ∧ Below w.heap.size w w' := by
  have cw := (works_on hg).use
  have cl := (long_on hg a b).use
  by_cases hL : 300 < (a.size : Int) ∨ 300 < (b.size : Int)
  · rw [show (decide (300 < (a.size : Int)) || decide (300 < (b.size : Int))) = true by simpa using hL] at cl
    clear hg hL
    go_enter Tryz.func6, Tryz.ntmps6
    go_wp2_with fail
    refine (cl w (Below.refl _ _)).mono ?_
    rintro e w1 ⟨rfl, b1⟩
    go_wp2_with fail
    refine (cw w1 b1).mono ?_
    rintro e w2 ⟨rfl, b2⟩
    go_wp2_with fail
    go_ret
    exact ⟨rfl, b2⟩
  rw [show (decide (300 < (a.size : Int)) || decide (300 < (b.size : Int))) = false by simp; omega] at cl
  obtain ⟨r0, y0, h0⟩ : ∃ n z, cmpR a.data.toList b.data.toList = (n, z) := ⟨_, _, rfl⟩
  have c0 := (cmp_on hg a b r0 y0 (by omega) (by omega) h0).use
  have e0 := fun W => R.cmp_of a b W
  simp only [h0, R.cmpV] at e0
  have d0 := (R.onR (w := w) e0).use
  clear hg hL h0 e0
  go_enter Tryz.func6, Tryz.ntmps6
  go_wp2_with fail
  refine (cl w (Below.refl _ _)).mono ?_
  rintro e w1 ⟨rfl, b1⟩
  go_wp2_with fail
  refine (c0 w1 b1).mono ?_
  rintro e w2 ⟨rfl, b2⟩
  go_wp2_with fail
  refine (d0 w2 b2).mono ?_
  rintro e w3 ⟨rfl, b3⟩
  go_wp2_with fail
  refine (cw w3 b3).mono ?_
  rintro e w4 ⟨rfl, b4⟩
  go_wp2_with fail
  go_ret
  exact ⟨by simp, b4⟩
end Go.Proofs.YtcicjoamnlnlnaaGreatDoor

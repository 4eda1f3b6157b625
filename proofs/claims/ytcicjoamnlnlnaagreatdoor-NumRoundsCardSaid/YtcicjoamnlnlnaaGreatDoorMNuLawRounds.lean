/- The contract of chisellaw04.NumRounds. -/
import Derived.Test.YtcicjoamnlnlnaaGreatDoorMNuUse
import Derived.Test.YtcicjoamnlnlnaaGreatDoorMRfG
import Derived.Test.YtcicjoamnlnlnaaGreatDoorMRfOps4
namespace Go.Proofs.YtcicjoamnlnlnaaGreatDoor
open Go.RowKit Go.Lib

set_option maxRecDepth 100000 in
set_option maxHeartbeats 8000000 in
theorem rounds_law (a : ByteArray) (d : Int) (how : ByteArray) (w : World) (hg : GrN w) :
    Calls Tryz.prog 7 #[.string a, .int .i64 d, .string how] w fun e w' => e = .returned (.bool true) ∧ Below w.heap.size w w' := by
  have cw := (works_on hg).use
  have cl := (long_on hg a how).use
  by_cases hL : 300 < (a.size : Int) ∨ 300 < (how.size : Int)
  · rw [show (decide (300 < (a.size : Int)) || decide (300 < (how.size : Int))) = true by simpa using hL] at cl
    clear hg hL
    go_enter Tryz.func7, Tryz.ntmps7
    go_wp2_with fail
    refine (cl w (Below.refl _ _)).mono ?_
    rintro e w1 ⟨rfl, b1⟩
    go_wp2_with fail
    refine (cw w1 b1).mono ?_
    rintro e w2 ⟨rfl, b2⟩
    go_wp2_with fail
    go_ret
    exact ⟨rfl, b2⟩
  rw [show (decide (300 < (a.size : Int)) || decide (300 < (how.size : Int))) = false by simp; omega] at cl
  obtain ⟨r0, y0, h0⟩ := res_ex (roundR a.data.toList d how.data.toList)
  have c0 := (round_on hg a how r0 d y0 (by omega) h0).use
  have e0 := fun W => R.round_of a how d W
  simp only [resV_on h0] at e0
  have d0 := (R.onR (w := w) e0).use
  clear hg hL h0 e0
  go_enter Tryz.func7, Tryz.ntmps7
  go_wp2_with fail
  refine (cl w (Below.refl _ _)).mono ?_
  rintro e w1 ⟨rfl, b1⟩
  go_wp2_with fail
  refine (c0 w1 b1).mono ?_
  rintro e w2 ⟨rfl, b2⟩
  go_wp2_with fail
  refine (d0 w2 b2).mono ?_
  rintro e w3 ⟨rfl, b3⟩
  go_wp2_with fail
  refine (cw w3 b3).mono ?_
  rintro e w4 ⟨rfl, b4⟩
  go_wp2_with fail
  go_ret
  exact ⟨by simp, b4⟩
end Go.Proofs.YtcicjoamnlnlnaaGreatDoor

/- The contract of chisellaw04.NumReads. -/
import Derived.Test.YtcicjoamnlnlnaaGreatDoorMNuUse
import Derived.Test.YtcicjoamnlnlnaaGreatDoorMRfG
import Derived.Test.YtcicjoamnlnlnaaGreatDoorMRfOps4
namespace Go.Proofs.YtcicjoamnlnlnaaGreatDoor
open Go.RowKit Go.Lib

set_option maxRecDepth 100000 in
set_option maxHeartbeats 8000000 in
theorem reads_law (a : ByteArray) (w : World) (hg : GrN w) :
    Calls Tryz.prog 3 #[.string a] w fun e w' => e = .returned (.bool true) ∧ Below w.heap.size w w' := by
  have cw := (works_on hg).use
  by_cases hL : 300 < (a.size : Int)
  · clear hg
    go_enter Tryz.func3, Tryz.ntmps3
    go_wp2_with fail
    refine (cw w (Below.refl _ _)).mono ?_
    rintro e w1 ⟨rfl, b1⟩
    go_wp2_with fail
    go_ret
    exact ⟨rfl, b1⟩
  obtain ⟨r0, y0, h0⟩ := res_ex (readR a.data.toList)
  have c0 := (parse_on hg a r0 y0 (by omega) h0).use
  have e0 := fun W => R.parse_any a W
  simp only [resV_on h0] at e0
  have d0 := (R.onR (w := w) e0).use
  obtain ⟨i1, h1⟩ : ∃ i, isIntR a.data.toList = i := ⟨_, rfl⟩
  have c1 := (isInt_on hg a i1 (by omega) h1).use
  have e1 := fun W => R.isInt_of a W
  simp only [h1] at e1
  have d1 := (R.onR (w := w) e1).use
  clear hg h0 h1 e0 e1
  go_enter Tryz.func3, Tryz.ntmps3
  go_wp2_with fail
  refine (c0 w (Below.refl _ _)).mono ?_
  rintro e w1 ⟨rfl, b1⟩
  go_wp2_with fail
  refine (d0 w1 b1).mono ?_
  rintro e w2 ⟨rfl, b2⟩
  go_wp2_with fail
  refine (c1 w2 b2).mono ?_
  rintro e w3 ⟨rfl, b3⟩
  go_wp2_with fail
  refine (d1 w3 b3).mono ?_
  rintro e w4 ⟨rfl, b4⟩
  go_wp2_with fail
  refine (cw w4 b4).mono ?_
  rintro e w5 ⟨rfl, b5⟩
  go_wp2_with fail
  go_ret
  exact ⟨by simp, b5⟩
end Go.Proofs.YtcicjoamnlnlnaaGreatDoor

/- The contract of chisellaw04.NumQuotients. -/
import Derived.Test.YtcicjoamnlnlnaaGreatDoorMNuUse
import Derived.Test.YtcicjoamnlnlnaaGreatDoorMRfG
import Derived.Test.YtcicjoamnlnlnaaGreatDoorMRfOps3
namespace Go.Proofs.YtcicjoamnlnlnaaGreatDoor
open Go.RowKit Go.Lib

set_option maxRecDepth 100000 in
set_option maxHeartbeats 8000000 in
theorem quotients_law (a b : ByteArray) (w : World) (hg : GrN w) :
    Calls Tryz.prog 5 #[.string a, .string b] w fun e w' => e = .returned (.bool true) ∧ Below w.heap.size w w' := by
  have cw := (works_on hg).use
  have cl := (long_on hg a b).use
  by_cases hL : 300 < (a.size : Int) ∨ 300 < (b.size : Int)
  · rw [show (decide (300 < (a.size : Int)) || decide (300 < (b.size : Int))) = true by simpa using hL] at cl
    clear hg hL
    go_enter Tryz.func5, Tryz.ntmps5
    go_wp2_with fail
    refine (cl w (Below.refl _ _)).mono ?_
    rintro e w1 ⟨rfl, b1⟩
    go_wp2_with fail
    refine (cw w1 b1).mono ?_
    rintro e w2 ⟨rfl, b2⟩
    go_wp2_with fail
    go_ret
    exact ⟨rfl, b2⟩
  rw [show (decide (300 < (a.size : Int)) || decide (300 < (b.size : Int))) = false by simp; omega] at cl
  obtain ⟨r0, y0, h0⟩ := res_ex (quoR a.data.toList b.data.toList)
  have c0 := (quo_on hg a b r0 y0 (by omega) (by omega) h0).use
  have e0 := fun W => R.quo_of a b W
  simp only [resV_on h0] at e0
  have d0 := (R.onR (w := w) e0).use
  obtain ⟨r1, y1, h1⟩ := res_ex (idivR a.data.toList b.data.toList)
  have c1 := (idiv_on hg a b r1 y1 (by omega) (by omega) h1).use
  have e1 := fun W => R.idiv_of a b W
  simp only [resV_on h1] at e1
  have d1 := (R.onR (w := w) e1).use
  obtain ⟨r2, y2, h2⟩ := res_ex (modR a.data.toList b.data.toList)
  have c2 := (mod_on hg a b r2 y2 (by omega) (by omega) h2).use
  have e2 := fun W => R.mod_of a b W
  simp only [resV_on h2] at e2
  have d2 := (R.onR (w := w) e2).use
  clear hg hL h0 h1 h2 e0 e1 e2
  go_enter Tryz.func5, Tryz.ntmps5
  go_wp2_with fail
  refine (cl w (Below.refl _ _)).mono ?_
  rintro e w1 ⟨rfl, b1⟩
  go_wp2_with fail
  refine (c0 w1 b1).mono ?_
  rintro e w2 ⟨rfl, b2⟩
  go_wp2_with fail
  refine (d0 w2 b2).mono ?_
  rintro e w3 ⟨rfl, b3⟩
  go_wp2_with fail
  refine (c1 w3 b3).mono ?_
  rintro e w4 ⟨rfl, b4⟩
  go_wp2_with fail
  refine (d1 w4 b4).mono ?_
  rintro e w5 ⟨rfl, b5⟩
  go_wp2_with fail
  refine (c2 w5 b5).mono ?_
  rintro e w6 ⟨rfl, b6⟩
  go_wp2_with fail
  refine (d2 w6 b6).mono ?_
  rintro e w7 ⟨rfl, b7⟩
  go_wp2_with fail
  refine (cw w7 b7).mono ?_
  rintro e w8 ⟨rfl, b8⟩
  go_wp2_with fail
  go_ret
  exact ⟨by simp, b8⟩
end Go.Proofs.YtcicjoamnlnlnaaGreatDoor

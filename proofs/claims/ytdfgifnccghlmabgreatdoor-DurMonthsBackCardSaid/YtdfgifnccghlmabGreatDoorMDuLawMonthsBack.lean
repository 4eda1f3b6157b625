/- The contract of chisellaw06.DurMonthsBack. -/
import Derived.Test.YtdfgifnccghlmabGreatDoorMDuD
namespace Go.Proofs.YtdfgifnccghlmabGreatDoor
open Go.RowKit Go.Lib

set_option maxRecDepth 100000 in
set_option maxHeartbeats 8000000 in
theorem durMonthsBack_law (n : Int) (h1 : -9223372036854775808 ≤ n) (h2 : n ≤ 9223372036854775807) (w : World) (hg : GrD w) :
    Calls Tryz.prog 7 #[.int .i64 n] w fun e w' => e = .returned (.bool true) ∧ Below w.heap.size w w' := by
  have cw := (works_du hg).use
  by_cases hO : n < -9999999999 ∨ 9999999999 < n
  · have m1 := (textM_on hg n h1 h2 ⟨#[]⟩ 6 (by unfold textM; rw [if_pos hO])).use
    clear hg
    by_cases hA : n < -9999999999
    · clear hO
      go_enter Tryz.func7, Tryz.ntmps7
      go_wp2_with fail
      refine (m1 w (Below.refl _ _)).mono ?_
      rintro e w1 ⟨rfl, b1⟩
      go_wp2_with fail
      refine (cw w1 b1).mono ?_
      rintro e w2 ⟨rfl, b2⟩
      go_wp2_with fail
      go_ret
      exact ⟨rfl, b2⟩
    · have hB : 9999999999 < n := by omega
      clear hO
      go_enter Tryz.func7, Tryz.ntmps7
      go_wp2_with fail
      refine (m1 w (Below.refl _ _)).mono ?_
      rintro e w1 ⟨rfl, b1⟩
      go_wp2_with fail
      refine (cw w1 b1).mono ?_
      rintro e w2 ⟨rfl, b2⟩
      go_wp2_with fail
      go_ret
      exact ⟨rfl, b2⟩
  · obtain ⟨s, k1, k2, _⟩ := back_M n (by omega)
    obtain ⟨S, hS, hSl⟩ := ba_ex s
    have hA : ¬ n < -9999999999 := by omega
    have hB : ¬ 9999999999 < n := by omega
    have m1 := (textM_on hg n h1 h2 S 0 (by rw [hSl]; exact k1)).use
    have m2 := (parseM_on hg S n 0 (by rw [hSl]; exact k2)).use
    clear hg k1 k2 hS hSl hO
    go_enter Tryz.func7, Tryz.ntmps7
    go_wp2_with fail
    refine (m1 w (Below.refl _ _)).mono ?_
    rintro e w1 ⟨rfl, b1⟩
    go_wp2_with fail
    refine (m2 w1 b1).mono ?_
    rintro e w2 ⟨rfl, b2⟩
    go_wp2_with fail
    refine (cw w2 b2).mono ?_
    rintro e w3 ⟨rfl, b3⟩
    go_wp2_with fail
    go_ret
    exact ⟨rfl, b3⟩
end Go.Proofs.YtdfgifnccghlmabGreatDoor

/- The contracts of the specification's small functions. -/
import Derived.Test.YtpdgajjcapdjdaaDoorCharsWorks
namespace Go.Proofs.YtpdgajjcapdjdaaDoor
open Go.RowKit Go.Lib

set_option maxHeartbeats 2000000 in
theorem refIsChar_any (r : Int) (w : World) :
    Calls Tryd.prog 31 #[.int .i64 r] w fun e w' => e = .returned (.bool (chrZ r)) ∧ w = w' := by
  by_cases h1 : r = 9
  · subst h1
    go_enter Tryd.func31, Tryd.ntmps31
    go_wp2
    go_ret; exact ⟨ret_bool (by decide), rfl⟩
  · have b1 : (r == 9) = false := by simp [h1]
    by_cases h2 : r = 10
    · subst h2
      go_enter Tryd.func31, Tryd.ntmps31
      go_wp2
      go_ret; exact ⟨ret_bool (by decide), rfl⟩
    · have b2 : (r == 10) = false := by simp [h2]
      by_cases h3 : r = 13
      · subst h3
        go_enter Tryd.func31, Tryd.ntmps31
        go_wp2
        go_ret; exact ⟨ret_bool (by decide), rfl⟩
      · have b3 : (r == 13) = false := by simp [h3]
        go_enter Tryd.func31, Tryd.ntmps31
        go_wp2
        all_goals (go_ret; refine ⟨ret_bool ?_, rfl⟩; rw [Bool.eq_iff_iff]; simp [chrZ]; try omega)
set_option maxHeartbeats 2000000 in
theorem refLetter_any (r : Int) (w : World) :
    Calls Tryd.prog 41 #[.int .i64 r] w fun e w' => e = .returned (.bool (letZ r)) ∧ w = w' := by
  by_cases h95 : r = 95
  · subst h95
    go_enter Tryd.func41, Tryd.ntmps41
    go_wp2
    go_ret; exact ⟨ret_bool (by decide), rfl⟩
  · have hb : (r == 95) = false := by simp [h95]
    go_enter Tryd.func41, Tryd.ntmps41
    go_wp2
    all_goals (go_ret; refine ⟨ret_bool ?_, rfl⟩; rw [Bool.eq_iff_iff]; simp [letZ]; try omega)
set_option maxHeartbeats 2000000 in
theorem refInName_any (r : Int) (w : World) :
    Calls Tryd.prog 42 #[.int .i64 r] w fun e w' => e = .returned (.bool (letZ r || latZ r)) ∧ w = w' := by
  have c1 := refLetter_any r
  cases hl : letZ r <;> rw [hl] at c1
  · go_enter Tryd.func42, Tryd.ntmps42
    go_wp2_with (go_at_call 41; refine (c1 _).mono ?_; rintro e w' ⟨rfl, rfl⟩)
    all_goals (go_ret; refine ⟨ret_bool ?_, rfl⟩; rw [Bool.eq_iff_iff]; simp [latZ]; try omega)
  · go_enter Tryd.func42, Tryd.ntmps42
    go_wp2_with (go_at_call 41; refine (c1 _).mono ?_; rintro e w' ⟨rfl, rfl⟩)
    go_ret; exact ⟨ret_bool (by simp), rfl⟩
set_option maxHeartbeats 2000000 in
theorem refSpace_any (b : UInt8) (w : World) :
    Calls Tryd.prog 46 #[.int .u8 (b.toNat : Int)] w fun e w' => e = .returned (.bool (whiteB b)) ∧ w = w' := by
  have hw : whiteB b = decide ((b.toNat : Int) = 32 ∨ (b.toNat : Int) = 9 ∨ (b.toNat : Int) = 10 ∨ (b.toNat : Int) = 13) := by
    unfold whiteB white; rw [decide_eq_decide]; omega
  rw [hw]
  generalize (b.toNat : Int) = r
  clear hw
  go_enter Tryd.func46, Tryd.ntmps46
  go_wp2
  all_goals (go_ret; refine ⟨ret_bool ?_, rfl⟩; rw [Bool.eq_iff_iff]; simp; try omega)
end Go.Proofs.YtpdgajjcapdjdaaDoor

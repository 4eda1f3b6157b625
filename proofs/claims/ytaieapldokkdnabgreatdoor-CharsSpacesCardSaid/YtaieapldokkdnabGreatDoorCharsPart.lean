/- The contract of chars.isPart: a loop over the characters of a string. -/
import Derived.Test.YtaieapldokkdnabGreatDoorCharsPure
import Derived.Deep.LoopGhost
import Derived.Lib.OthersKept
import Derived.Below
namespace Go.Proofs.YtaieapldokkdnabGreatDoor
open Go.RowKit Go.Lib

/-- What isPart's loop asks of the steps that are left; 'first': none was taken yet. -/
def partS : Bool → List (Nat × Nat) → Bool
  | _, [] => true
  | first, x :: t => if letZ (x.1 : Int) = false ∧ (first = true ∨ latZ (x.1 : Int) = false) then false else partS false t
def partL (l : List UInt8) : Bool := partS true (steps l) && !l.isEmpty

theorem iter_below (w : World) (s : ByteArray) (p : Nat) : Below w.heap.size w (w.iter s p) := (Below.refl _ w).alloc (Nat.le_refl _) _

set_option maxHeartbeats 1000000 in
set_option maxRecDepth 100000 in
theorem isPart_any (s : ByteArray) (w : World) :
    Calls Tryz.prog 52 #[.string s] w fun e w' => e = .returned (.bool (partL s.data.toList)) ∧ Below w.heap.size w w' := by
  obtain ⟨ANS, hANS⟩ : ∃ ANS, partS true (steps s.data.toList) = ANS := ⟨_, rfl⟩
  have hANS0 : partS true (steps (s.data.toList.drop 0)) = ANS := by rw [List.drop_zero]; exact hANS
  unfold partL
  rw [hANS]
  clear hANS
  go_enter Tryz.func52, Tryz.ntmps52
  go_wp2
  go_loopg [] s.size (fun g wx => ∃ pos : Nat, wx = w.iter s pos ∧ partS (decide (pos = 0)) (steps (s.data.toList.drop pos)) = ANS ∧ s.size ≤ pos + g)
  case atStart => exact ⟨0, rfl, by simpa using hANS0, by omega⟩
  case round =>
    clear hANS0
    obtain ⟨pos, rfl, hp, hg⟩ := hrel
    by_cases hlt : pos < s.size
    · obtain ⟨g, rfl⟩ : ∃ g, gk = g + 1 := ⟨gk - 1, by omega⟩
      have hnx := fun ty => run_next_any (P := Tryz.prog) w s pos ty hlt
      have hw := width_pos s pos
      rw [steps_at s pos hlt] at hp
      unfold partS at hp
      obtain ⟨R, hR⟩ : ∃ R, (Utf8.decode s pos).1 = R := ⟨_, rfl⟩
      obtain ⟨K, hK⟩ : ∃ K, (Utf8.decode s pos).2 = K := ⟨_, rfl⟩
      rw [hR, hK] at hnx hp
      rw [hK] at hw
      clear hR hK
      have c1 : ∀ W, Calls Tryz.prog _ _ W _ := fun W => isLetter_any (R : Int) W
      have c2 : ∀ W, Calls Tryz.prog _ _ W _ := fun W => isLater_any (R : Int) W
      cases h1 : letZ (R : Int) <;> rw [h1] at c1 <;> simp only [h1] at hp
      · by_cases h0 : pos = 0
        · subst h0
          have hz : (((0 : Nat) : Int) == 0) = true := rfl
          simp at hp
          go_wp2_with (go_at_call 91; refine (c1 _).mono ?_; rintro e w' ⟨rfl, rfl⟩)
          go_ret
          exact ⟨ret_bool (by simp [hp]), iter_below _ _ _⟩
        · have hz : ((pos : Int) == 0) = false := by simp [h0]
          cases h2 : latZ (R : Int) <;> rw [h2] at c2 <;> simp [h2, h0] at hp
          · have Hp := Lib.hid hp
            clear hp
            go_wp2_with (first | (go_at_call 91; refine (c1 _).mono ?_; rintro e w' ⟨rfl, rfl⟩) | (go_at_call 92; refine (c2 _).mono ?_; rintro e w' ⟨rfl, rfl⟩))
            go_ret
            exact ⟨ret_bool (by simp [Hp.out]), iter_below _ _ _⟩
          · have Hp := Lib.hid hp
            clear hp
            go_wp2_with (first | (go_at_call 91; refine (c1 _).mono ?_; rintro e w' ⟨rfl, rfl⟩) | (go_at_call 92; refine (c2 _).mono ?_; rintro e w' ⟨rfl, rfl⟩))
            go_roundg g
            case measure => omega
            case rel => exact ⟨pos + K, rfl, by rw [decide_eq_false (by omega)]; exact Hp.out, by omega⟩
      · simp at hp
        have Hp := Lib.hid hp
        clear hp
        go_wp2_with (go_at_call 91; refine (c1 _).mono ?_; rintro e w' ⟨rfl, rfl⟩)
        go_roundg g
        case measure => omega
        case rel => exact ⟨pos + K, rfl, by rw [decide_eq_false (by omega)]; exact Hp.out, by omega⟩
    · have hnx := fun ty => run_next_end (P := Tryz.prog) w s pos ty hlt
      rw [steps_end s pos hlt] at hp
      have hp' : ANS = true := hp.symm
      clear hp
      subst hp'
      go_wp2
      go_ret
      exact ⟨ret_bool (by simp [ByteArray.toList_eq]), iter_below _ _ _⟩
end Go.Proofs.YtaieapldokkdnabGreatDoor

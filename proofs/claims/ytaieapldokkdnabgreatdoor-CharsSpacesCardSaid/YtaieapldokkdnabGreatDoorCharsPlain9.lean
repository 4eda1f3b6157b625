/- Facts about bytes that are left out (no program). -/
import Derived.Test.YtaieapldokkdnabGreatDoorCharsPlain8
namespace Go.Proofs.YtaieapldokkdnabGreatDoor
open Go.RowKit Go.Lib

theorem whiteB_in (b : UInt8) : whiteB b = ([13, 10, 9, 32] : List UInt8).contains b := by
  rw [Bool.eq_iff_iff]
  constructor
  · intro h
    unfold whiteB white at h
    rw [decide_eq_true_iff] at h
    have : b = 32 ∨ b = 9 ∨ b = 10 ∨ b = 13 := by
      rcases h with h | h | h | h
      · exact .inl (UInt8.toNat_inj.1 h)
      · exact .inr (.inl (UInt8.toNat_inj.1 h))
      · exact .inr (.inr (.inl (UInt8.toNat_inj.1 h)))
      · exact .inr (.inr (.inr (UInt8.toNat_inj.1 h)))
    rcases this with e | e | e | e <;> rw [e] <;> decide
  · intro h
    have : b = 13 ∨ b = 10 ∨ b = 9 ∨ b = 32 := by simpa using h
    rcases this with e | e | e | e <;> rw [e] <;> decide
theorem count_white (l : List UInt8) : l.count 13 + l.count 10 + l.count 9 + l.count 32 = l.countP whiteB := by
  induction l with
  | nil => rfl
  | cons b t ih =>
    rw [List.count_cons, List.count_cons, List.count_cons, List.count_cons, List.countP_cons, ← ih]
    by_cases h1 : b = 13
    · subst h1; have : whiteB 13 = true := by decide
      simp [this]; omega
    · by_cases h2 : b = 10
      · subst h2; have : whiteB 10 = true := by decide
        simp [this]; omega
      · by_cases h3 : b = 9
        · subst h3; have : whiteB 9 = true := by decide
          simp [this]; omega
        · by_cases h4 : b = 32
          · subst h4; have : whiteB 32 = true := by decide
            simp [this]; omega
          · have : whiteB b = false := by
              rw [whiteB_in]; simp [h1, h2, h3, h4]
            simp [h1, h2, h3, h4, this]
theorem bare_len (l : List UInt8) : (bare l).length + l.countP whiteB = l.length := by
  induction l with
  | nil => rfl
  | cons b t ih =>
    unfold bare at ih ⊢
    rw [List.countP_cons, List.filter_cons]
    cases whiteB b
    · simp; omega
    · simp; omega
theorem bare_same (l : List UInt8) (h : l.countP whiteB = 0) : bare l = l := by
  unfold bare
  rw [List.filter_eq_self]
  intro b hb
  have := List.countP_eq_zero.1 h b hb
  simpa using this
end Go.Proofs.YtaieapldokkdnabGreatDoor

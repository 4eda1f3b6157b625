/- Dates: what the laws ask of the calendar, in plain words. -/
import Derived.Test.YtgmnjghbafbopaaGreatDoorMTiC
namespace Go.Proofs.YtgmnjghbafbopaaGreatDoor
open Go.RowKit Go.Lib

theorem cumD_step {y m d : Nat} (h : DateOk y m d) : cumD y m = cumD y (m - 1) + dim y m := by
  obtain ⟨k, rfl⟩ : ∃ k, m = k + 1 := ⟨m - 1, by have := h.m1; omega⟩
  rfl
theorem dayN_lex {y m d y' m' d' : Nat} (h : DateOk y m d) (h' : DateOk y' m' d') (k : y < y' ∨ (y = y' ∧ (m < m' ∨ (m = m' ∧ d < d')))) : dayN y m d < dayN y' m' d' := by
  rcases k with k | ⟨rfl, k | ⟨rfl, k⟩⟩
  · have a := dayN_lt h
    have a' := dayN_lt h'
    have := dby_mono (a := y + 1) (b := y') (by omega) k
    omega
  · have k1 := cumD_mono y (a := m) (b := m' - 1) (by omega)
    have := cumD_step h
    have := h.d1
    have := h.d2
    have := h'.d1
    unfold dayN
    omega
  · have := h.d1
    unfold dayN
    omega
/-- Earlier by the clock and the calendar. -/
def befB (y mo d h mi mu y' mo' d' h' mi' mu' : Nat) : Bool :=
  if y ≠ y' then decide (y < y') else if mo ≠ mo' then decide (mo < mo') else if d ≠ d' then decide (d < d') else if h ≠ h' then decide (h < h') else if mi ≠ mi' then decide (mi < mi') else decide (mu < mu')
theorem local_day {y mo d h mi mu : Nat} (h1 : h ≤ 23) (h2 : mi ≤ 59) (h3 : mu < 60000000) : localN y mo d h mi mu / 86400000000 = dayN y mo d := by
  unfold localN
  omega
theorem befB_local {y mo d h mi mu y' mo' d' h' mi' mu' : Nat} {S S' : ByteArray} {z z' : Int} {has has' : Bool} (k : MomOk y mo d h mi mu S z has) (k' : MomOk y' mo' d' h' mi' mu' S' z' has') : befB y mo d h mi mu y' mo' d' h' mi' mu' = decide (localN y mo d h mi mu < localN y' mo' d' h' mi' mu') := by
  have a1 := k.hour
  have a2 := k.minute
  have a3 := k.micro
  have b1 := k'.hour
  have b2 := k'.minute
  have b3 := k'.micro
  have lex1 := fun q => dayN_lex k.date k'.date q
  have lex2 := fun q => dayN_lex k'.date k.date q
  unfold befB localN
  by_cases ey : y = y'
  · subst ey
    rw [if_neg (by simp)]
    by_cases em : mo = mo'
    · subst em
      rw [if_neg (by simp)]
      by_cases ed : d = d'
      · subst ed
        rw [if_neg (by simp)]
        generalize dayN y mo d = D
        by_cases eh : h = h'
        · subst eh
          rw [if_neg (by simp)]
          by_cases ei : mi = mi'
          · subst ei
            rw [if_neg (by simp)]
            exact decide_eq_decide.2 (by omega)
          · rw [if_pos ei]
            exact decide_eq_decide.2 (by omega)
        · rw [if_pos eh]
          exact decide_eq_decide.2 (by omega)
      · rw [if_pos ed]
        refine decide_eq_decide.2 ⟨fun q => ?_, fun q => ?_⟩
        · have := lex1 (.inr ⟨rfl, .inr ⟨rfl, q⟩⟩); omega
        · refine Classical.byContradiction fun c => ?_
          have := lex2 (.inr ⟨rfl, .inr ⟨rfl, by omega⟩⟩); omega
    · rw [if_pos em]
      refine decide_eq_decide.2 ⟨fun q => ?_, fun q => ?_⟩
      · have := lex1 (.inr ⟨rfl, .inl q⟩); omega
      · refine Classical.byContradiction fun c => ?_
        have := lex2 (.inr ⟨rfl, .inl (by omega)⟩); omega
  · rw [if_pos ey]
    refine decide_eq_decide.2 ⟨fun q => ?_, fun q => ?_⟩
    · have := lex1 (.inl q); omega
    · refine Classical.byContradiction fun c => ?_
      have := lex2 (.inl (by omega)); omega
theorem lp_400 (y : Nat) : lp (y + 400) = lp y := by
  unfold lp
  exact decide_eq_decide.2 (by omega)
theorem dim_400 (y m : Nat) : dim (y + 400) m = dim y m := by unfold dim lpN; rw [lp_400]
theorem cumD_400 (y : Nat) : ∀ m, cumD (y + 400) m = cumD y m
  | 0 => rfl
  | m + 1 => by
    show cumD (y + 400) m + dim (y + 400) (m + 1) = cumD y m + dim y (m + 1)
    rw [cumD_400 y m, dim_400]
theorem dby_400 (y : Nat) (h : 1 ≤ y) : dby (y + 400) = dby y + 146097 := by
  unfold dby
  omega
theorem dayN_400 (y m d : Nat) (h : 1 ≤ y) : dayN (y + 400) m d = dayN y m d + 146097 := by
  unfold dayN
  rw [dby_400 y h, cumD_400]
  omega
theorem dim_next {y m d : Nat} (h : DateOk y m d) : min d (dim (y + 1) m) = if m = 2 ∧ d = 29 then 28 else d := by
  have h2 := h.d2
  by_cases e : m = 2
  · subst e
    have e1 : dim y 2 = 28 + lpN y := rfl
    have e2 : dim (y + 1) 2 = 28 + lpN (y + 1) := rfl
    rw [e1] at h2
    rw [e2]
    have a := lpN_iff y
    have b := lpN_iff (y + 1)
    by_cases k : d = 29
    · rw [if_pos ⟨rfl, k⟩]
      have : lpN (y + 1) = 0 := by omega
      omega
    · rw [if_neg (by omega)]
      have := lpN_le y
      omega
  · rw [if_neg (by omega)]
    have : dim (y + 1) m = dim y m := by unfold dim; rw [if_neg e, if_neg e]
    omega
theorem dim28 (y m d : Nat) (h : d ≤ 28) : min d (dim y m) = d := by
  have := dim_le y m
  omega
end Go.Proofs.YtgmnjghbafbopaaGreatDoor

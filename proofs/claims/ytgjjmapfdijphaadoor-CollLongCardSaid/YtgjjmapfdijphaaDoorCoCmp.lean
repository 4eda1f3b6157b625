/- Plain facts: how lists of bytes are compared is a total order. No program in this text. -/
import Derived.Test.YtgjjmapfdijphaaDoorCoPure
namespace Go.Proofs.YtgjjmapfdijphaaDoor
open Go.Lib

theorem cmpL_cons (a b : UInt8) (s t : List UInt8) : cmpL (a :: s) (b :: t) = if a < b then -1 else if b < a then 1 else cmpL s t := rfl
theorem cmpL_self : ∀ l : List UInt8, cmpL l l = 0
  | [] => rfl
  | a :: s => by
    unfold cmpL
    rw [if_neg (UInt8.lt_irrefl a), if_neg (UInt8.lt_irrefl a)]
    exact cmpL_self s
theorem cmpL_three : ∀ a b : List UInt8, cmpL a b = -1 ∨ cmpL a b = 0 ∨ cmpL a b = 1
  | [], [] => .inr (.inl rfl)
  | [], _ :: _ => .inl rfl
  | _ :: _, [] => .inr (.inr rfl)
  | a :: s, b :: t => by
    unfold cmpL
    split
    · exact .inl rfl
    · split
      · exact .inr (.inr rfl)
      · exact cmpL_three s t
theorem cmpL_neg : ∀ a b : List UInt8, cmpL b a = - cmpL a b
  | [], [] => rfl
  | [], _ :: _ => rfl
  | _ :: _, [] => rfl
  | a :: s, b :: t => by
    unfold cmpL
    by_cases h1 : a < b
    · have h2 : ¬ b < a := fun h => UInt8.lt_asymm h1 h
      rw [if_pos h1, if_neg h2, if_pos h1]; rfl
    · by_cases h2 : b < a
      · simp only [if_neg h1, if_pos h2]
      · rw [if_neg h1, if_neg h2, if_neg h2, if_neg h1]
        exact cmpL_neg s t
theorem cmpL_eq : ∀ a b : List UInt8, cmpL a b = 0 → a = b
  | [], [], _ => rfl
  | [], _ :: _, h => by cases h
  | _ :: _, [], h => by cases h
  | a :: s, b :: t, h => by
    unfold cmpL at h
    by_cases h1 : a < b
    · rw [if_pos h1] at h; cases h
    · by_cases h2 : b < a
      · rw [if_neg h1, if_pos h2] at h; cases h
      · rw [if_neg h1, if_neg h2] at h
        have e : a = b := UInt8.le_antisymm (UInt8.not_lt.1 h2) (UInt8.not_lt.1 h1)
        rw [e, cmpL_eq s t h]
theorem cmpL_lt : ∀ a b c : List UInt8, cmpL a b = -1 → cmpL b c = -1 → cmpL a c = -1
  | [], [], _, h, _ => by cases h
  | [], _ :: _, [], _, h => by cases h
  | [], _ :: _, _ :: _, _, _ => rfl
  | _ :: _, [], _, h, _ => by cases h
  | _ :: _, _ :: _, [], _, h => by cases h
  | a :: s, b :: t, c :: u, h, k => by
    unfold cmpL at h k ⊢
    by_cases h1 : a < b
    · by_cases k1 : b < c
      · rw [if_pos (UInt8.lt_trans h1 k1)]
      · by_cases k2 : c < b
        · rw [if_neg k1, if_pos k2] at k; cases k
        · have e : b = c := UInt8.le_antisymm (UInt8.not_lt.1 k2) (UInt8.not_lt.1 k1)
          rw [← e, if_pos h1]
    · by_cases h2 : b < a
      · rw [if_neg h1, if_pos h2] at h; cases h
      · rw [if_neg h1, if_neg h2] at h
        have e : a = b := UInt8.le_antisymm (UInt8.not_lt.1 h2) (UInt8.not_lt.1 h1)
        rw [e]
        by_cases k1 : b < c
        · rw [if_pos k1]
        · by_cases k2 : c < b
          · rw [if_neg k1, if_pos k2] at k; cases k
          · rw [if_neg k1, if_neg k2] at k ⊢
            exact cmpL_lt s t u h k
theorem cmpL_le (a b c : List UInt8) (h : cmpL a b ≤ 0) (k : cmpL b c ≤ 0) : cmpL a c = max (-1) (cmpL a b + cmpL b c) := by
  rcases cmpL_three a b with h1 | h1 | h1
  · rcases cmpL_three b c with k1 | k1 | k1
    · rw [cmpL_lt a b c h1 k1, h1, k1]; rfl
    · rw [← cmpL_eq b c k1, h1, cmpL_self]; rfl
    · omega
  · rw [cmpL_eq a b h1, cmpL_self, Int.zero_add]
    rcases cmpL_three b c with k1 | k1 | k1 <;> omega
  · omega
theorem cmpL_ge (a b c : List UInt8) (h : 0 ≤ cmpL a b) (k : 0 ≤ cmpL b c) : cmpL a c = min 1 (cmpL a b + cmpL b c) := by
  have n1 := cmpL_neg b a
  have n2 := cmpL_neg c b
  have n3 := cmpL_neg c a
  have := cmpL_le c b a (by omega) (by omega)
  omega
/-- A list does not come after itself with further bytes. -/
theorem cmpL_app : ∀ a b : List UInt8, cmpL a (a ++ b) ≤ 0
  | [], [] => by decide
  | [], _ :: _ => by show (-1 : Int) ≤ 0; decide
  | a :: s, b => by
    rw [List.cons_append]
    unfold cmpL
    rw [if_neg (UInt8.lt_irrefl a), if_neg (UInt8.lt_irrefl a)]
    exact cmpL_app s b
theorem cmpL_same : ∀ p a b : List UInt8, cmpL (p ++ a) (p ++ b) = cmpL a b
  | [], _, _ => rfl
  | x :: p, a, b => by
    rw [List.cons_append, List.cons_append, cmpL_cons, if_neg (UInt8.lt_irrefl x), if_neg (UInt8.lt_irrefl x)]
    exact cmpL_same p a b
end Go.Proofs.YtgjjmapfdijphaaDoor

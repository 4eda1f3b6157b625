/- Natural numbers: what the two highest words tell of a quotient. -/
import Derived.Test.YtofpojlnfncpcaaGreatDoorNuAdd64
namespace Go.Proofs.YtofpojlnfncpcaaGreatDoor
open Go.RowKit Go.Lib

theorem val_cut (l : List Nat) (k : Nat) : val l = val (l.take k) + 1000000000 ^ k * val (l.drop k) := by
  by_cases h : k ≤ l.length
  · conv => lhs; rw [← List.take_append_drop k l, val_app]
    rw [List.length_take, Nat.min_eq_left h]
  · rw [List.take_of_length_le (by omega), List.drop_of_length_le (by omega)]
    simp [val]

theorem val_three (l : List Nat) (h : l.length ≤ 3) : val l = (l.getD 2 0 * 1000000000 + l.getD 1 0) * 1000000000 + l.getD 0 0 := by
  match l, h with
  | [], _ => rfl
  | [a], _ => simp [val]
  | [a, b], _ => simp [val]; omega
  | [a, b, c], _ => simp [val]; omega

theorem getD_drop (l : List Nat) (k i : Nat) : (l.drop k).getD i 0 = l.getD (k + i) 0 := by
  rw [List.getD_eq_getElem?_getD, List.getD_eq_getElem?_getD, List.getElem?_drop]

/-- The two highest words of b, the three of r at their place. -/
structure Two (r b : List Nat) (d1 d0 t2 t1 t0 : Nat) : Prop where
  bd1 : d1 < 1000000000
  bd0 : d0 < 1000000000
  bt2 : t2 < 1000000000
  bt1 : t1 < 1000000000
  bt0 : t0 < 1000000000
  one : 1 ≤ d1
  near : val r / val b ≤ ((t2 * 1000000000 + t1) * 1000000000 + t0) / (d1 * 1000000000 + d0) ∧ ((t2 * 1000000000 + t1) * 1000000000 + t0) / (d1 * 1000000000 + d0) ≤ val r / val b + 1

theorem two_one (r b : List Nat) (hr : Small r) (hb : Small b) (hn : b.length = 1) (hl : b.getD 0 0 ≠ 0) (hrl : r.length ≤ 2) :
    Two r b (b.getD 0 0) 0 (r.getD 1 0) (r.getD 0 0) 0 := by
  refine ⟨hb.getD 0, by omega, hr.getD 1, hr.getD 0, by omega, by omega, ?_⟩
  have e1 : val b = b.getD 0 0 := by
    rw [val_three b (by omega), show b.getD 2 0 = 0 by rw [List.getD_eq_getElem?_getD, List.getElem?_eq_none (by omega)]; rfl, show b.getD 1 0 = 0 by rw [List.getD_eq_getElem?_getD, List.getElem?_eq_none (by omega)]; rfl]
    omega
  have e2 : val r = r.getD 1 0 * 1000000000 + r.getD 0 0 := by
    rw [val_three r (by omega), show r.getD 2 0 = 0 by rw [List.getD_eq_getElem?_getD, List.getElem?_eq_none (by omega)]; rfl]
    omega
  rw [e1, e2, Nat.add_zero, Nat.add_zero, Nat.mul_div_mul_right _ _ (by omega)]
  omega

theorem two_more (r b : List Nat) (k : Nat) (hr : Small r) (hb : Small b) (hn : b.length = k + 2) (hl : b.getD (k + 1) 0 ≠ 0) (hrl : r.length ≤ k + 3) (hq : val r < 1000000000 * val b) :
    Two r b (b.getD (k + 1) 0) (b.getD k 0) (r.getD (k + 2) 0) (r.getD (k + 1) 0) (r.getD k 0) := by
  refine ⟨hb.getD _, hb.getD _, hr.getD _, hr.getD _, hr.getD _, by omega, ?_⟩
  have e1 : val b = (b.getD (k + 1) 0 * 1000000000 + b.getD k 0) * 1000000000 ^ k + val (b.take k) := by
    rw [val_cut b k, val_three (b.drop k) (by rw [List.length_drop]; omega), getD_drop, getD_drop, getD_drop, show b.getD (k + 2) 0 = 0 by rw [List.getD_eq_getElem?_getD, List.getElem?_eq_none (by omega)]; rfl, Nat.zero_mul, Nat.zero_add, Nat.mul_comm, Nat.add_comm]
    rfl
  have e2 : val r = ((r.getD (k + 2) 0 * 1000000000 + r.getD (k + 1) 0) * 1000000000 + r.getD k 0) * 1000000000 ^ k + val (r.take k) := by
    rw [val_cut r k, val_three (r.drop k) (by rw [List.length_drop]; omega), getD_drop, getD_drop, getD_drop, Nat.mul_comm, Nat.add_comm]
    rfl
  have hlow : ∀ l : List Nat, Small l → val (l.take k) < 1000000000 ^ k := fun l hs =>
    Nat.lt_of_lt_of_le (val_lt _ (hs.take k)) (Nat.pow_le_pow_right (by omega) (by rw [List.length_take]; omega))
  exact guess_near (1000000000 ^ k) _ _ (val b) (val r) (val (b.take k)) (val (r.take k)) (Nat.pow_pos (by omega)) e1 (hlow b hb) e2 (hlow r hr) (by omega) hq

theorem two_small (a b : Nat) (ha : a < 1000000000) (hb : b < 1000000000) : a * 1000000000 + b < 1000000000000000000 :=
  Nat.lt_of_lt_of_le (Nat.add_lt_add_left hb _) (by rw [← Nat.succ_mul]; exact Nat.mul_le_mul_right 1000000000 ha)

/-- The words of 64 bits in which a guess is reckoned. -/
theorem Two.words {r b : List Nat} {d1 d0 t2 t1 t0 : Nat} (h : Two r b d1 d0 t2 t1 t0) (hq : val r < 1000000000 * val b) :
    ∃ A M H L D G, t2 * 1000000000 + t1 = A ∧ A * 1000000000 = M ∧ (M / 18446744073709551616 + (M % 18446744073709551616 + t0) / 18446744073709551616) = H ∧ (M % 18446744073709551616 + t0) % 18446744073709551616 = L ∧ d1 * 1000000000 + d0 = D ∧ (H * 18446744073709551616 + L) / D = G
      ∧ A < 1000000000000000000 ∧ D < 1000000000000000000 ∧ H < D ∧ M / 18446744073709551616 < 1000000000 ∧ val r / val b ≤ G ∧ G ≤ val r / val b + 1 ∧ val r / val b < 1000000000 := by
  refine ⟨_, _, _, _, _, _, rfl, rfl, rfl, rfl, rfl, rfl, ?_⟩
  have := h.bd1
  have := h.bd0
  have := h.bt2
  have := h.bt1
  have := h.bt0
  have := h.one
  have a1 : t2 * 1000000000 + t1 < 1000000000000000000 := two_small _ _ h.bt2 h.bt1
  have a2 : d1 * 1000000000 + d0 < 1000000000000000000 := two_small _ _ h.bd1 h.bd0
  obtain ⟨n1, n2⟩ := h.near
  have hb : 0 < val b := by omega
  have hqq : val r / val b < 1000000000 := by rw [Nat.div_lt_iff_lt_mul hb]; exact hq
  generalize val r / val b = q at *
  have hT : (t2 * 1000000000 + t1) * 1000000000 + t0 < 1000000001 * (d1 * 1000000000 + d0) := by
    rw [← Nat.div_lt_iff_lt_mul (by omega)]
    omega
  have e : ((t2 * 1000000000 + t1) * 1000000000 / 18446744073709551616 + ((t2 * 1000000000 + t1) * 1000000000 % 18446744073709551616 + t0) / 18446744073709551616) * 18446744073709551616 + ((t2 * 1000000000 + t1) * 1000000000 % 18446744073709551616 + t0) % 18446744073709551616 = (t2 * 1000000000 + t1) * 1000000000 + t0 := by omega
  rw [e]
  exact ⟨a1, a2, by omega, by omega, n1, n2, hqq⟩
end Go.Proofs.YtofpojlnfncpcaaGreatDoor

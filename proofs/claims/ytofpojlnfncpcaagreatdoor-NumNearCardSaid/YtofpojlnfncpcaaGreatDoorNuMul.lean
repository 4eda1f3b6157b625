/- Natural numbers: the contract of multiply. -/
import Derived.Test.YtofpojlnfncpcaaGreatDoorNuSub
namespace Go.Proofs.YtofpojlnfncpcaaGreatDoor
open Go.RowKit Go.Lib

/-- The row of a product, behind i words of the first factor. -/
structure MulI (a b : List Nat) (i : Nat) (P : List Nat) : Prop where
  len : P.length = a.length + b.length
  small : Small P
  value : val P = val (a.take i) * val b
  zeros : ∀ j, i + b.length ≤ j → P.getD j 0 = 0
def mulNext (x : Nat) (b P : List Nat) (i : Nat) : List Nat := P.take i ++ mulRow x b (P.drop i) 0
theorem getD_drop' (l : List Nat) (i j : Nat) : (l.drop i).getD j 0 = l.getD (i + j) 0 := by rw [List.getD_eq_getElem?_getD, List.getD_eq_getElem?_getD, List.getElem?_drop]
theorem MulI.next {a b : List Nat} {i : Nat} {P : List Nat} (h : MulI a b i P) (ha : Small a) (hb : Small b) (hi : i < a.length) : MulI a b (i + 1) (mulNext (a.getD i 0) b P i) := by
  have hx := ha.getD i
  have hlen := h.len
  have hd : b.length < (P.drop i).length := by rw [List.length_drop]; omega
  have hz : (P.drop i).getD b.length 0 = 0 := by rw [getD_drop']; exact h.zeros _ (Nat.le_refl _)
  have hl := mulRow_len (a.getD i 0) b (P.drop i) 0 hd
  refine ⟨?_, ?_, ?_, fun j hj => ?_⟩
  · unfold mulNext
    rw [List.length_append, List.length_take, hl, List.length_drop]
    omega
  · exact Small.app (h.small.take i) (mulRow_small _ hx b _ 0 hb (h.small.drop i) (by omega))
  · have hP : val P = val (P.take i) + 1000000000 ^ i * val (P.drop i) := by
      conv => lhs; rw [← List.take_append_drop i P, val_app, List.length_take, Nat.min_eq_left (by omega)]
    unfold mulNext
    rw [val_app, mulRow_val _ b _ 0 hz, List.length_take, Nat.min_eq_left (by omega), take_snoc' a i hi, val_app, List.length_take, Nat.min_eq_left (by omega), Nat.add_zero, Nat.mul_add, ← Nat.add_assoc, ← hP, h.value, Nat.add_mul]
    show _ = _ + 1000000000 ^ i * (a.getD i 0 + 1000000000 * 0) * val b
    rw [Nat.mul_zero, Nat.add_zero, Nat.mul_assoc]
  · unfold mulNext
    rw [List.getD_eq_getElem?_getD, List.getElem?_append_right (by rw [List.length_take]; omega), ← List.getD_eq_getElem?_getD, List.length_take, Nat.min_eq_left (by omega), mulRow_behind _ _ _ _ _ (by omega), getD_drop', show i + (j - i) = j by omega]
    exact h.zeros j (by omega)
theorem MulI.start (a b : List Nat) : MulI a b 0 (List.replicate (a.length + b.length) 0) := by
  refine ⟨by simp, Small.zeros _, by rw [val_zeros]; simp [val], fun j _ => ?_⟩
  rw [List.getD_eq_getElem?_getD]
  cases h : (List.replicate (a.length + b.length) 0)[j]? with
  | none => rfl
  | some x => exact List.eq_of_mem_replicate (List.mem_of_getElem? h)
/-- Inside a row: k words of the second factor are done. -/
theorem row_step (x c : Nat) (b Q : List Nat) (i k : Nat) (hk : k < b.length) (hQ : i + k < Q.length) (R : List Nat) (h : Q.take (i + k) ++ mulRow x (b.drop k) (Q.drop (i + k)) c = R) :
    (Q.set (i + k) ((x * b.getD k 0 + Q.getD (i + k) 0 + c) % 1000000000)).take (i + (k + 1)) ++ mulRow x (b.drop (k + 1)) ((Q.set (i + k) ((x * b.getD k 0 + Q.getD (i + k) 0 + c) % 1000000000)).drop (i + (k + 1))) ((x * b.getD k 0 + Q.getD (i + k) 0 + c) / 1000000000) = R := by
  rw [← h]
  have e1 : b.drop k = b.getD k 0 :: b.drop (k + 1) := by
    rw [List.drop_eq_getElem_cons hk, List.getD_eq_getElem?_getD, List.getElem?_eq_getElem hk]; rfl
  have e2 : Q.drop (i + k) = Q.getD (i + k) 0 :: Q.drop (i + k + 1) := by
    rw [List.drop_eq_getElem_cons hQ, List.getD_eq_getElem?_getD, List.getElem?_eq_getElem hQ]; rfl
  conv => rhs; rw [e1, e2, mulRow]
  rw [List.headD_cons, List.tail_cons, ← Nat.add_assoc, List.drop_set_of_lt (by omega)]
  rw [List.take_add_one, List.getElem?_set_self hQ, List.take_set_of_le (by omega), List.append_assoc]
  rfl
theorem row_end (x c : Nat) (b Q : List Nat) (i : Nat) (hQ : i + b.length < Q.length) : Q.take (i + b.length) ++ mulRow x (b.drop b.length) (Q.drop (i + b.length)) c = Q.set (i + b.length) c := by
  rw [List.drop_length, mulRow, List.tail_drop, List.set_eq_take_append_cons_drop, if_pos hQ]
end Go.Proofs.YtofpojlnfncpcaaGreatDoor

/- Plain facts: whole numbers as decimal digits, the lowest first, as the specification of num has them. No program in this text. The specification of num: digits in memory, the highest first; the contracts of trim, at and cmp. The specification of num: the contract of cmp. The specification of num: rows of digits that a call makes; the contracts of add and sub. The specification of num: the contract of sub. The specification of num: rows of integers that a call appends to, and zeros behind them. The specification of num: digits that are appended; the contract of zeros. -/
import Derived.Test.YtdfgifnccghlmabGreatDoorMNuA
import Derived.Test.YtdfgifnccghlmabGreatDoorMNuB
import Derived.Laws.AppendOwn
import Derived.BigQuiet
import Derived.Lib.AppendZerosOnto
namespace Go.Proofs.YtdfgifnccghlmabGreatDoor.R
open Go.Proofs.YtdfgifnccghlmabGreatDoor (cmpD cmpD_app sgnN)

def val : List Nat → Nat
  | [] => 0
  | w :: t => w + 10 * val t
def Small (l : List Nat) : Prop := ∀ w ∈ l, w < 10
theorem Small.nil : Small [] := fun _ h => by cases h
theorem Small.head {w : Nat} {t : List Nat} (h : Small (w :: t)) : w < 10 := h w (by simp)
theorem Small.tail {w : Nat} {t : List Nat} (h : Small (w :: t)) : Small t := fun x hx => h x (by simp [hx])
theorem Small.cons {w : Nat} {t : List Nat} (h : w < 10) (k : Small t) : Small (w :: t) := fun x hx => by
  rcases List.mem_cons.1 hx with rfl | hx
  · exact h
  · exact k x hx
theorem Small.app {a b : List Nat} (h : Small a) (k : Small b) : Small (a ++ b) := fun x hx => (List.mem_append.1 hx).elim (h x) (k x)
theorem Small.left {a b : List Nat} (h : Small (a ++ b)) : Small a := fun x hx => h x (by simp [hx])
theorem Small.right {a b : List Nat} (h : Small (a ++ b)) : Small b := fun x hx => h x (by simp [hx])
theorem Small.drop {a : List Nat} (h : Small a) (i : Nat) : Small (a.drop i) := fun x hx => h x (List.mem_of_mem_drop hx)
theorem Small.take {a : List Nat} (h : Small a) (i : Nat) : Small (a.take i) := fun x hx => h x (List.mem_of_mem_take hx)
theorem Small.getD {a : List Nat} (h : Small a) (i : Nat) : a.getD i 0 < 10 := by
  rw [List.getD_eq_getElem?_getD]
  cases e : a[i]? with
  | none => simp
  | some x => exact h x (List.mem_of_getElem? e)
theorem val_app : ∀ a b : List Nat, val (a ++ b) = val a + 10 ^ a.length * val b
  | [], b => by simp [val]
  | w :: t, b => by
    rw [List.cons_append, val, val, val_app t b, List.length_cons, Nat.pow_succ, Nat.mul_add, ← Nat.mul_assoc, Nat.mul_comm (10 ^ t.length) 10]
    omega
theorem val_zeros : ∀ n : Nat, val (List.replicate n 0) = 0
  | 0 => rfl
  | n + 1 => by rw [List.replicate_succ, val, val_zeros n]
theorem Small.zeros (n : Nat) : Small (List.replicate n 0) := fun x hx => by rw [List.eq_of_mem_replicate hx]; omega
theorem val_lt : ∀ l : List Nat, Small l → val l < 10 ^ l.length
  | [], _ => by simp [val]
  | w :: t, h => by
    have h1 := h.head
    have h2 := val_lt t h.tail
    rw [val, List.length_cons, Nat.pow_succ]
    omega
/-- The words of a number, without a word 0 at the end. -/
def wordsN : Nat → Nat → List Nat
  | 0, _ => []
  | f + 1, n => if n = 0 then [] else n % 10 :: wordsN f (n / 10)
def wordsOf (n : Nat) : List Nat := wordsN n n
theorem wordsN_fuel : ∀ (f g n : Nat), n ≤ f → n ≤ g → wordsN f n = wordsN g n
  | 0, 0, n, _, _ => rfl
  | 0, g + 1, n, h, _ => by obtain rfl : n = 0 := by omega
                            simp [wordsN]
  | f + 1, 0, n, _, h => by obtain rfl : n = 0 := by omega
                            simp [wordsN]
  | f + 1, g + 1, n, h, k => by
    unfold wordsN
    split
    · rfl
    · rw [wordsN_fuel f g (n / 10) (by omega) (by omega)]
theorem wordsOf_zero : wordsOf 0 = [] := rfl
theorem wordsOf_pos (n : Nat) (h : n ≠ 0) : wordsOf n = n % 10 :: wordsOf (n / 10) := by
  unfold wordsOf
  obtain ⟨m, rfl⟩ : ∃ m, n = m + 1 := ⟨n - 1, by omega⟩
  rw [wordsN, if_neg h, wordsN_fuel m ((m + 1) / 10) ((m + 1) / 10) (by omega) (by omega)]
theorem val_wordsOf (n : Nat) : val (wordsOf n) = n := by
  induction n using Nat.strongRecOn with
  | ind n ih =>
    by_cases h : n = 0
    · subst h; rfl
    · rw [wordsOf_pos n h, val, ih (n / 10) (by omega)]
      omega
theorem small_wordsOf (n : Nat) : Small (wordsOf n) := by
  induction n using Nat.strongRecOn with
  | ind n ih =>
    by_cases h : n = 0
    · subst h; exact Small.nil
    · rw [wordsOf_pos n h]
      exact Small.cons (by omega) (ih (n / 10) (by omega))
theorem wordsOf_nil (n : Nat) : wordsOf n = [] ↔ n = 0 := by
  constructor
  · intro h
    have := val_wordsOf n
    rw [h] at this
    exact this.symm
  · rintro rfl; rfl
/-- A list is the words of its value if its last word is no 0. -/
theorem wordsOf_val : ∀ l : List Nat, Small l → (∀ w, l.getLast? = some w → w ≠ 0) → wordsOf (val l) = l
  | [], _, _ => rfl
  | w :: t, h, k => by
    have hw := h.head
    have hv : val (w :: t) ≠ 0 := by
      intro h0
      rw [val] at h0
      have h1 : w = 0 := by omega
      have h2 : val t = 0 := by omega
      cases t with
      | nil => exact k w (by simp) h1
      | cons x t =>
        have ht := wordsOf_val (x :: t) h.tail (fun y hy => k y (by rw [List.getLast?_cons_cons]; exact hy))
        rw [h2] at ht
        cases ht
    rw [wordsOf_pos _ hv, val]
    have e1 : (w + 10 * val t) % 10 = w := by omega
    have e2 : (w + 10 * val t) / 10 = val t := by omega
    rw [e1, e2]
    cases t with
    | nil => rfl
    | cons x t => rw [wordsOf_val (x :: t) h.tail (fun y hy => k y (by rw [List.getLast?_cons_cons]; exact hy))]
theorem wordsOf_last (n : Nat) : ∀ w, (wordsOf n).getLast? = some w → w ≠ 0 := by
  induction n using Nat.strongRecOn with
  | ind n ih =>
    by_cases h : n = 0
    · subst h; intro w hw; cases hw
    · rw [wordsOf_pos n h]
      intro w hw
      by_cases h2 : n / 10 = 0
      · rw [h2, wordsOf_zero] at hw
        simp at hw
        omega
      · have ih2 := ih (n / 10) (by omega) w
        rw [wordsOf_pos _ h2] at hw ih2
        rw [List.getLast?_cons_cons] at hw
        exact ih2 hw
/-- A list with further words 0 has the words of its value when these are taken away. -/
theorem wordsOf_snoc (l : List Nat) : wordsOf (val (l ++ [0])) = wordsOf (val l) := by rw [val_app]; simp [val]
theorem words_len (n k : Nat) (h : n < 10 ^ k) : (wordsOf n).length ≤ k := by
  induction k generalizing n with
  | zero => obtain rfl : n = 0 := by simpa using h
            simp [wordsOf_zero]
  | succ k ih =>
    by_cases h0 : n = 0
    · subst h0; simp [wordsOf_zero]
    · rw [wordsOf_pos n h0, List.length_cons]
      have := ih (n / 10) (by rw [Nat.pow_succ] at h; omega)
      omega
theorem words_lt (n : Nat) : n < 10 ^ (wordsOf n).length := by
  have := val_lt _ (small_wordsOf n)
  rwa [val_wordsOf] at this
/-- How two numbers are compared by their words. -/
theorem len_lt (a b : Nat) (h : (wordsOf a).length < (wordsOf b).length) : a < b := by
  refine Nat.lt_of_not_le fun hle => ?_
  have h1 := words_len b (wordsOf a).length (Nat.lt_of_le_of_lt hle (words_lt a))
  omega
theorem cmpD_val : ∀ s t : List Nat, Small s → Small t → s.length = t.length → cmpD s.reverse t.reverse = sgnN (val s) (val t)
  | [], [], _, _, _ => by simp [cmpD, sgnN, val]
  | [], _ :: _, _, _, h => by simp at h
  | _ :: _, [], _, _, h => by simp at h
  | a :: s, b :: t, hs, ht, h => by
    have ha := hs.head
    have hb := ht.head
    rw [List.reverse_cons, List.reverse_cons, cmpD_app a b s.reverse t.reverse (by simpa using h), cmpD_val s t hs.tail ht.tail (by simpa using h)]
    unfold sgnN
    rw [val, val]
    repeat' split
    all_goals first | rfl | omega | (exfalso; omega)

/-! ### sums and differences -/
def addW : Nat → List Nat → List Nat → Nat → List Nat
  | 0, _, _, _ => []
  | n + 1, a, b, c => (a.headD 0 + b.headD 0 + c) % 10 :: addW n a.tail b.tail ((a.headD 0 + b.headD 0 + c) / 10)
theorem val_ht (a : List Nat) : val a = a.headD 0 + 10 * val a.tail := by cases a <;> rfl
theorem addW_val : ∀ (n : Nat) (a b : List Nat) (c : Nat), val (addW n a b c) = (val a + val b + c) % 10 ^ n
  | 0, a, b, c => by simp [addW, val, Nat.mod_one]
  | n + 1, a, b, c => by
    rw [addW, val, addW_val n, Nat.pow_succ, Nat.mul_comm (10 ^ n), Nat.mod_mul, val_ht a, val_ht b]
    congr 1
    · omega
    · congr 2
      omega
theorem addW_small : ∀ (n : Nat) (a b : List Nat) (c : Nat), Small (addW n a b c)
  | 0, _, _, _ => Small.nil
  | n + 1, a, b, c => Small.cons (by omega) (addW_small n _ _ _)
theorem addW_len : ∀ (n : Nat) (a b : List Nat) (c : Nat), (addW n a b c).length = n
  | 0, _, _, _ => rfl
  | n + 1, a, b, c => by rw [addW, List.length_cons, addW_len n]
theorem addW_sum (a b : List Nat) (ha : Small a) (hb : Small b) : val (addW (max a.length b.length + 1) a b 0) = val a + val b := by
  rw [addW_val, Nat.add_zero, Nat.mod_eq_of_lt]
  have h1 := val_lt a ha
  have h2 := val_lt b hb
  have h3 : 10 ^ a.length ≤ 10 ^ (max a.length b.length) := Nat.pow_le_pow_right (by omega) (by omega)
  have h4 : 10 ^ b.length ≤ 10 ^ (max a.length b.length) := Nat.pow_le_pow_right (by omega) (by omega)
  rw [Nat.pow_succ]
  omega
def subW : Nat → List Nat → List Nat → Nat → List Nat
  | 0, _, _, _ => []
  | n + 1, a, b, c => (10 + a.headD 0 - b.headD 0 - c) % 10 :: subW n a.tail b.tail (1 - (10 + a.headD 0 - b.headD 0 - c) / 10)
theorem subW_small : ∀ (n : Nat) (a b : List Nat) (c : Nat), Small (subW n a b c)
  | 0, _, _, _ => Small.nil
  | n + 1, a, b, c => Small.cons (by omega) (subW_small n _ _ _)
theorem subW_len : ∀ (n : Nat) (a b : List Nat) (c : Nat), (subW n a b c).length = n
  | 0, _, _, _ => rfl
  | n + 1, a, b, c => by rw [subW, List.length_cons, subW_len n]
theorem Small.headD {a : List Nat} (h : Small a) : a.headD 0 < 10 := by cases a with
  | nil => simp
  | cons x t => exact h.head
theorem Small.tail' {a : List Nat} (h : Small a) : Small a.tail := by cases a with
  | nil => exact h
  | cons x t => exact h.tail
theorem subW_val : ∀ (n : Nat) (a b : List Nat) (c : Nat), Small a → Small b → c ≤ 1 → val b + c ≤ val a → val a < 10 ^ n → val (subW n a b c) + val b + c = val a
  | 0, a, b, c, _, _, _, h, k => by
    have : val a = 0 := by simpa using k
    simp [subW, val]; omega
  | n + 1, a, b, c, ha, hb, hc, h, k => by
    have h1 := ha.headD
    have h2 := hb.headD
    rw [val_ht a] at h k ⊢
    rw [val_ht b] at h ⊢
    rw [subW, val]
    rw [Nat.pow_succ] at k
    have ih := subW_val n a.tail b.tail (1 - (10 + a.headD 0 - b.headD 0 - c) / 10) ha.tail' hb.tail' (by omega) (by omega) (by omega)
    omega

/-! ### products -/
/-- A word times b is added to p, with what is carried. -/
def mulRow (x : Nat) : List Nat → List Nat → Nat → List Nat
  | [], p, c => c :: p.tail
  | y :: b, p, c => (x * y + p.headD 0 + c) % 10 :: mulRow x b p.tail ((x * y + p.headD 0 + c) / 10)
theorem mulRow_val (x : Nat) : ∀ (b p : List Nat) (c : Nat), p.getD b.length 0 = 0 → val (mulRow x b p c) = val p + x * val b + c
  | [], p, c, h => by
    rw [mulRow, val, val_ht p, val]
    have : p.headD 0 = 0 := by cases p with
      | nil => rfl
      | cons z p => simpa using h
    omega
  | y :: b, p, c, h => by
    have ht : p.tail.getD b.length 0 = 0 := by cases p with
      | nil => simp
      | cons z p => simpa using h
    have e : x * (y + 10 * val b) = x * y + 10 * (x * val b) := by rw [Nat.mul_add, Nat.mul_left_comm]
    rw [mulRow, val, mulRow_val x b p.tail _ ht, val_ht p, val, e]
    omega
theorem mulRow_small (x : Nat) (hx : x < 10) : ∀ (b p : List Nat) (c : Nat), Small b → Small p → c < 10 → Small (mulRow x b p c)
  | [], p, c, _, hp, hc => Small.cons hc hp.tail'
  | y :: b, p, c, hb, hp, hc => by
    have h1 := hb.head
    have h2 := hp.headD
    refine Small.cons (by omega) (mulRow_small x hx b p.tail _ hb.tail hp.tail' ?_)
    have h3 : x * y ≤ 9 * 9 := Nat.mul_le_mul (by omega) (by omega)
    omega
theorem mulRow_len (x : Nat) : ∀ (b p : List Nat) (c : Nat), b.length < p.length → (mulRow x b p c).length = p.length
  | [], p, c, h => by cases p with
    | nil => simp at h
    | cons z p => simp [mulRow]
  | y :: b, p, c, h => by cases p with
    | nil => simp at h
    | cons z p => rw [mulRow, List.length_cons, List.tail_cons, mulRow_len x b p _ (by simpa using h), List.length_cons]
theorem mulRow_behind (x : Nat) : ∀ (b p : List Nat) (c j : Nat), b.length < j → (mulRow x b p c).getD j 0 = p.getD j 0
  | [], p, c, j, h => by
    obtain ⟨j, rfl⟩ : ∃ k, j = k + 1 := ⟨j - 1, by simp at h; omega⟩
    cases p with
    | nil => simp [mulRow]
    | cons z p => simp [mulRow]
  | y :: b, p, c, j, h => by
    obtain ⟨j, rfl⟩ : ∃ k, j = k + 1 := ⟨j - 1, by simp at h; omega⟩
    rw [mulRow, List.getD_cons_succ, mulRow_behind x b p.tail _ j (by simpa using h)]
    cases p with
    | nil => simp
    | cons z p => simp

/-! ### quotients -/
end Go.Proofs.YtdfgifnccghlmabGreatDoor.R
namespace Go.Proofs.YtdfgifnccghlmabGreatDoor.R
open Go.RowKit Go.Lib
open Go.Proofs.YtdfgifnccghlmabGreatDoor (trimW trimW_snoc trimW_le take_snoc' lt_of_cell cmpD cmpD_app sgnN)

/-- A value is a slice whose integers are these digits, of which the lowest comes first here and last there. -/
def Digs (w : World) (v : Value) (l : List Nat) : Prop :=
  (l = [] ∧ ∃ a cap, v = .slice a 0 cap) ∨ ∃ b off cap, v = .slice (some ⟨b, off, none⟩) l.length cap ∧ l.length ≤ cap ∧ ∀ j, j < l.length → w.cell? ⟨b, off + (l.length - 1 - j), none⟩ = some (.int .i64 ((l.getD j 0 : Nat) : Int))
theorem Digs.later {w w' : World} {v : Value} {l : List Nat} (h : Digs w v l) (hb : Below w.heap.size w w') : Digs w' v l := by
  rcases h with h | ⟨b, off, cap, rfl, hc, h⟩
  · exact .inl h
  · exact .inr ⟨b, off, cap, rfl, hc, fun j hj => (hb.cell (p := ⟨b, off + (l.length - 1 - j), none⟩) (lt_of_cell (h j hj))).trans (h j hj)⟩
theorem Digs.nil (w : World) (a : Option Addr) (cap : Nat) : Digs w (.slice a 0 cap) [] := .inl ⟨rfl, a, cap, rfl⟩
theorem Digs.shape {w : World} {v : Value} {l : List Nat} (h : Digs w v l) : ∃ a cap, v = .slice a l.length cap := by
  rcases h with ⟨rfl, a, cap, rfl⟩ | ⟨b, off, cap, rfl, _, _⟩
  · exact ⟨a, cap, rfl⟩
  · exact ⟨_, cap, rfl⟩
/-- A digit's cell. -/
theorem Digs.at {w : World} {a : Option Addr} {n cap : Nat} {l : List Nat} (h : Digs w (.slice a n cap) l) (j : Nat) (hj : j < l.length) : ∃ b off, a = some ⟨b, off, none⟩ ∧ n = l.length ∧ n ≤ cap ∧ w.cell? ⟨b, off + (l.length - 1 - j), none⟩ = some (.int .i64 ((l.getD j 0 : Nat) : Int)) := by
  rcases h with ⟨rfl, _⟩ | ⟨b, off, cap', heq, hc, h⟩
  · simp at hj
  · injection heq with h1 h2 h3
    subst h1 h2 h3
    exact ⟨b, off, rfl, rfl, hc, h j hj⟩
/-- Without the highest digit. -/
theorem Digs.cut {w : World} {b off cap j : Nat} {l : List Nat} (h : Digs w (.slice (some ⟨b, off, none⟩) (j + 1) cap) (l.take (j + 1))) (hj : j < l.length) : Digs w (.slice (some ⟨b, off + 1, none⟩) j (cap - 1)) (l.take j) := by
  have e1 : (l.take (j + 1)).length = j + 1 := by rw [List.length_take]; omega
  have e2 : (l.take j).length = j := by rw [List.length_take]; omega
  rcases h with ⟨h, _⟩ | ⟨b', off', cap', heq, hcc, h⟩
  · rw [h] at e1; simp at e1
  · injection heq with h1 h2 h3
    injection h1 with h1
    injection h1 with h4 h5
    subst h4 h5 h3
    rw [e1] at hcc h
    refine .inr ⟨b, off + 1, cap - 1, by rw [e2], by rw [e2]; omega, fun i hi => ?_⟩
    rw [e2] at hi ⊢
    have := h i (by omega)
    rw [show off + 1 + (j - 1 - i) = off + (j + 1 - 1 - i) by omega, this]
    congr 2
    rw [List.getD_eq_getElem?_getD, List.getD_eq_getElem?_getD, List.getElem?_take_of_lt (by omega), List.getElem?_take_of_lt hi]
/-- What trim leaves: the digits of the value. -/
theorem trimW_words (l : List Nat) (h : Small l) : trimW l = wordsOf (val l) := by
  generalize hn : l.length = n
  induction n generalizing l with
  | zero => rw [List.eq_nil_of_length_eq_zero hn]; rfl
  | succ n ih =>
    have hne : l ≠ [] := by intro e; rw [e] at hn; simp at hn
    obtain ⟨t, x, rfl⟩ : ∃ t x, l = t ++ [x] := ⟨l.dropLast, l.getLast hne, (List.dropLast_concat_getLast hne).symm⟩
    rw [trimW_snoc]
    by_cases hx : x = 0
    · subst hx
      rw [if_pos rfl, wordsOf_snoc]
      exact ih t h.left (by simpa using hn)
    · rw [if_neg hx, wordsOf_val _ h (fun w hw => by simp at hw; omega)]
/-- A slice of the other one's block. -/
def From (u v : Value) : Prop := ∀ k, u.ownBlock = some k → v.ownBlock = some k
theorem Digs.other {w w' : World} {v : Value} {l : List Nat} (h : Digs w v l) (k : ∀ j, v.ownBlock = some j → w'.heap[j]? = w.heap[j]?) : Digs w' v l := by
  rcases h with h | ⟨b, off, cap, rfl, hc, h⟩
  · exact .inl h
  · exact .inr ⟨b, off, cap, rfl, hc, fun j hj => (World.cell?_of_block (k b rfl)).trans (h j hj)⟩
set_option maxHeartbeats 2000000 in
set_option maxRecDepth 100000 in
theorem trim_own (v : Value) (l : List Nat) (hl9 : l.length < 1000000000) (w : World) (h : Digs w v l) :
    Calls Tryz.prog 68 #[v] w fun e w' => ∃ u, e = .returned u ∧ Digs w' u (trimW l) ∧ w = w' ∧ From u v := by
  obtain ⟨R, hR⟩ : ∃ R, trimW l = R := ⟨_, rfl⟩
  rw [hR]
  have HR := Lib.hid (show trimW (l.take l.length) = R by rw [List.take_length]; exact hR)
  have HD := Lib.hid (show Digs w v (l.take l.length) by rw [List.take_length]; exact h)
  clear hR
  obtain ⟨V, hV⟩ : ∃ V, v = V := ⟨_, rfl⟩
  have HV := Lib.hid (show From v V from fun k h => hV ▸ h)
  rw [show (fun (e : Ending) (w' : World) => ∃ u, e = .returned u ∧ Digs w' u R ∧ w = w' ∧ From u v) = (fun (e : Ending) (w' : World) => ∃ u, e = .returned u ∧ Digs w' u R ∧ w = w' ∧ From u V) by rw [hV]]
  clear hV
  obtain ⟨a, cap, rfl⟩ := h.shape
  clear h
  go_enter Tryz.func68, Tryz.ntmps68
  go_wp2_with fail
  go_loopg [0] l.length (fun g s0 wx => ∃ k : Nat, k = g ∧ k ≤ l.length ∧ wx = w ∧ Hid (Digs w s0 (l.take k)) ∧ Hid (trimW (l.take k) = R) ∧ Hid (From s0 V))
  case atStart => exact ⟨l.length, rfl, Nat.le_refl _, rfl, HD, HR, HV⟩
  case round =>
    clear HR HD HV
    obtain ⟨k, rfl, hk, hw, HD, HK, HV⟩ := hrel
    replace hw := hw.symm
    subst hw
    obtain ⟨a, cap, hs⟩ := HD.out.shape
    have e1 : (l.take k).length = k := by rw [List.length_take]; omega
    rw [e1] at hs
    subst hs
    by_cases h0 : k = 0
    · subst h0
      have hr : R = [] := HK.out.symm
      subst hr
      go_wp2_with fail
      go_ret
      exact ⟨_, rfl, Digs.nil w a cap, rfl, HV.out⟩
    · obtain ⟨j, rfl⟩ : ∃ j, k = j + 1 := ⟨k - 1, by omega⟩
      have hjk : (0 : Int) < ((j + 1 : Nat) : Int) := by omega
      obtain ⟨b, off, rfl, hne, hjc, c0⟩ := HD.out.at j (by rw [e1]; omega)
      clear hne
      rw [e1, show off + (j + 1 - 1 - j) = off by omega] at c0
      have ex : (l.take (j + 1)).getD j 0 = l.getD j 0 := by rw [List.getD_eq_getElem?_getD, List.getD_eq_getElem?_getD, List.getElem?_take_of_lt (by omega)]
      rw [ex] at c0
      have hK := HK.out
      rw [take_snoc' l j (by omega), trimW_snoc] at hK
      by_cases hx : l.getD j 0 = 0
      · rw [if_pos hx] at hK
        rw [hx] at c0
        have HK2 := Lib.hid hK
        by_cases hc1 : cap = 1
        · subst hc1
          obtain rfl : j = 0 := by omega
          clear HK hK hx ex e1
          go_wp2_with fail
          go_roundg 0
          case rel => exact ⟨0, rfl, by omega, rfl, Lib.hid (Digs.nil w _ _), HK2, Lib.hid HV.out⟩
          all_goals omega
        · have HD2 := Lib.hid (HD.out.cut (by omega))
          clear HK hK hx ex e1
          go_wp2_with fail
          go_roundg j
          case rel => exact ⟨j, rfl, by omega, rfl, HD2, HK2, Lib.hid HV.out⟩
          all_goals omega
      · rw [if_neg hx] at hK
        have hxi : ¬ ((l.getD j 0 : Nat) : Int) = 0 := by omega
        have hxb : (((l.getD j 0 : Nat) : Int) == 0) = false := by rw [beq_eq_false_iff_ne]; exact hxi
        have HN := Lib.hid (show Digs w (.slice (some ⟨b, off, none⟩) (j + 1) cap) R by rw [← hK, ← take_snoc' l j (by omega)]; exact HD.out)
        clear HK hK HD ex e1
        generalize l.getD j 0 = x at *
        go_wp2_with fail
        go_ret
        exact ⟨_, rfl, HN.out, rfl, HV.out⟩
theorem trim_any (v : Value) (l : List Nat) (hl9 : l.length < 1000000000) (w : World) (h : Digs w v l) :
    Calls Tryz.prog 68 #[v] w fun e w' => ∃ u, e = .returned u ∧ Digs w' u (trimW l) ∧ w = w' :=
  (trim_own v l hl9 w h).mono fun _ _ ⟨u, h1, h2, h3, _⟩ => ⟨u, h1, h2, h3⟩
set_option maxHeartbeats 2000000 in
set_option maxRecDepth 100000 in
theorem at_any (v : Value) (l : List Nat) (p : Nat) (hp9 : p < 1000000000) (hl9 : l.length < 1000000000) (w : World) (h : Digs w v l) :
    Calls Tryz.prog 137 #[v, .int .i64 (p : Int)] w fun e w' => e = .returned (.int .i64 ((l.getD p 0 : Nat) : Int)) ∧ w = w' := by
  obtain ⟨a, cap, rfl⟩ := h.shape
  by_cases hp : p < l.length
  · have hpi : (p : Int) < (l.length : Int) := by omega
    obtain ⟨b, off, rfl, hne, hjc, c0⟩ := h.at p hp
    clear hne
    obtain ⟨q, hq⟩ : ∃ q, l.length - 1 - p = q := ⟨_, rfl⟩
    have hql : q < l.length := by omega
    have hqi : (l.length : Int) - 1 - (p : Int) = (q : Int) := by omega
    have hqw : wrap64 (wrap64 ((l.length : Int) - 1) - (p : Int)) = (q : Int) := by unfold wrap64; omega
    rw [hq] at c0
    clear h hq
    generalize l.getD p 0 = x at *
    generalize l.length = n at *
    go_enter Tryz.func137, Tryz.ntmps137
    go_wp2_with fail
    go_ret
    exact ⟨rfl, rfl⟩
  · have hpi : ¬ (p : Int) < (l.length : Int) := by omega
    have hx : l.getD p 0 = 0 := by rw [List.getD_eq_getElem?_getD, List.getElem?_eq_none (by omega)]; rfl
    rw [hx]
    clear h hx
    go_enter Tryz.func137, Tryz.ntmps137
    go_wp2_with fail
    go_ret
    exact ⟨rfl, rfl⟩
end Go.Proofs.YtdfgifnccghlmabGreatDoor.R
namespace Go.Proofs.YtdfgifnccghlmabGreatDoor.R
open Go.RowKit Go.Lib
open Go.Proofs.YtdfgifnccghlmabGreatDoor (trimW trimW_snoc trimW_le take_snoc' lt_of_cell cmpD cmpD_app sgnN below_drewN heap_drewN)

/-- A digit's cell, counted from the highest one. -/
theorem Digs.hi {w : World} {a : Option Addr} {n cap : Nat} {l : List Nat} (h : Digs w (.slice a n cap) l) (hn : n = l.length) (h0 : 0 < n) : ∃ b off, a = some ⟨b, off, none⟩ ∧ n ≤ cap ∧ ∀ i, i < n → w.cell? ⟨b, off + i, none⟩ = some (.int .i64 ((l.reverse.getD i 0 : Nat) : Int)) := by
  rcases h with ⟨rfl, _⟩ | ⟨b, off, cap', heq, hc, h⟩
  · simp at hn; omega
  · injection heq with h1 h2 h3
    subst h1 h3
    refine ⟨b, off, rfl, by omega, fun i hi => ?_⟩
    have k := h (l.length - 1 - i) (by omega)
    rw [show off + (l.length - 1 - (l.length - 1 - i)) = off + i by omega] at k
    rw [k]
    congr 2
    rw [List.getD_eq_getElem?_getD, List.getD_eq_getElem?_getD, List.getElem?_reverse (by omega)]
theorem trim_len (l : List Nat) (h : Small l) : (trimW l).length = (wordsOf (val l)).length := by rw [trimW_words l h]
theorem sgn_lt {a b : Nat} (h : a < b) : sgnN a b = -1 := by unfold sgnN; rw [if_pos h]
theorem sgn_gt {a b : Nat} (h : b < a) : sgnN a b = 1 := by unfold sgnN; rw [if_neg (by omega), if_pos h]
theorem cmpD_drop (L1 L2 : List Nat) (i : Nat) (h1 : i < L1.length) (h2 : i < L2.length) : cmpD (L1.drop i) (L2.drop i) = if L1.getD i 0 < L2.getD i 0 then -1 else if L2.getD i 0 < L1.getD i 0 then 1 else cmpD (L1.drop (i + 1)) (L2.drop (i + 1)) := by
  rw [List.drop_eq_getElem_cons h1, List.drop_eq_getElem_cons h2, List.getD_eq_getElem?_getD, List.getD_eq_getElem?_getD, List.getElem?_eq_getElem h1, List.getElem?_eq_getElem h2]
  rfl
set_option maxHeartbeats 4000000 in
set_option maxRecDepth 100000 in
theorem cmp_any (u v : Value) (a b : List Nat) (ha : Small a) (hb : Small b) (ha9 : a.length < 1000000000) (hb9 : b.length < 1000000000) (w : World) (hu : Digs w u a) (hv : Digs w v b) :
    Calls Tryz.prog 98 #[u, v] w fun e w' => e = .returned (.int .i64 (sgnN (val a) (val b))) ∧ Below w.heap.size w w' := by
  have c1 := trim_any u a ha9 w hu
  have c2 := trim_any v b hb9 w hv
  have eA := trimW_words a ha
  have eB := trimW_words b hb
  have vA : val (trimW a) = val a := by rw [eA, val_wordsOf]
  have vB : val (trimW b) = val b := by rw [eB, val_wordsOf]
  have sA : Small (trimW a) := by rw [eA]; exact small_wordsOf _
  have sB : Small (trimW b) := by rw [eB]; exact small_wordsOf _
  have lA := trimW_le a
  have lB := trimW_le b
  have hlt : (trimW a).length < (trimW b).length → sgnN (val a) (val b) = -1 := fun h => sgn_lt (by rw [eA, eB] at h; exact len_lt _ _ h)
  have hgt : (trimW b).length < (trimW a).length → sgnN (val a) (val b) = 1 := fun h => sgn_gt (by rw [eA, eB] at h; exact len_lt _ _ h)
  have heq : (trimW a).length = (trimW b).length → cmpD (trimW a).reverse (trimW b).reverse = sgnN (val a) (val b) := fun h => by rw [cmpD_val _ _ sA sB h, vA, vB]
  obtain ⟨R, hR⟩ : ∃ R, sgnN (val a) (val b) = R := ⟨_, rfl⟩
  rw [hR] at hlt hgt heq ⊢
  clear hR eA eB vA vB sA sB
  generalize trimW a = A at *
  generalize trimW b = B at *
  have HX := Lib.hid (And.intro hlt (And.intro hgt heq))
  obtain ⟨pa, ca, rfl⟩ := hu.shape
  obtain ⟨pb, cb, rfl⟩ := hv.shape
  clear hlt hgt heq hu hv ha hb
  go_enter Tryz.func98, Tryz.ntmps98
  go_wp2_with fail
  refine c1.mono ?_
  rintro e w1 ⟨u1, rfl, h1, rfl⟩
  clear c1
  go_wp2_with fail
  refine c2.mono ?_
  rintro e w2 ⟨u2, rfl, h2, rfl⟩
  clear c2
  obtain ⟨p1, c1, rfl⟩ := h1.shape
  obtain ⟨p2, c2, rfl⟩ := h2.shape
  obtain ⟨n1, hn1⟩ : ∃ n, A.length = n := ⟨_, rfl⟩
  obtain ⟨n2, hn2⟩ : ∃ n, B.length = n := ⟨_, rfl⟩
  rw [hn1] at h1 HX lA ⊢
  rw [hn2] at h2 HX lB ⊢
  by_cases hne : n1 = n2
  · subst hne
    have hc := HX.out.2.2 rfl
    have hr1 : A.reverse.length = n1 := by rw [List.length_reverse, hn1]
    have hr2 : B.reverse.length = n1 := by rw [List.length_reverse, hn2]
    have k1 := fun h0 => h1.hi hn1.symm h0
    have k2 := fun h0 => h2.hi hn2.symm h0
    clear h1 h2 HX hn1 hn2
    generalize A.reverse = L1 at *
    generalize B.reverse = L2 at *
    have HL := Lib.hid (And.intro hr1 hr2)
    have HK := Lib.hid (And.intro k1 k2)
    have HR := Lib.hid (show cmpD (L1.drop 0) (L2.drop 0) = R from hc)
    clear k1 k2 hr1 hr2 hc
    go_wp2_with fail
    go_loopg [5] n1 (fun g s5 wx => ∃ i : Nat, s5 = .int .i64 i ∧ i + g = n1 ∧ Below w.heap.size w wx ∧ Hid (cmpD (L1.drop i) (L2.drop i) = R))
    case atStart => exact ⟨0, rfl, by omega, Below.refl _ _, HR⟩
    case round =>
      clear HR
      obtain ⟨i, rfl, hig, hbx, HR⟩ := hrel
      by_cases hlt : i < n1
      · obtain ⟨g, rfl⟩ : ∃ g, gk = g + 1 := ⟨gk - 1, by omega⟩
        have hil : (i : Int) < (n1 : Int) := by omega
        obtain ⟨b1, o1, rfl, hc1, q1⟩ := HK.out.1 (by omega)
        obtain ⟨b2, o2, rfl, hc2, q2⟩ := HK.out.2 (by omega)
        have q1 := (hbx.cell (p := ⟨b1, o1 + i, none⟩) (lt_of_cell (q1 i hlt))).trans (q1 i hlt)
        have q2 := (hbx.cell (p := ⟨b2, o2 + i, none⟩) (lt_of_cell (q2 i hlt))).trans (q2 i hlt)
        have hD := cmpD_drop L1 L2 i (by rw [HL.out.1]; exact hlt) (by rw [HL.out.2]; exact hlt)
        rw [HR.out] at hD
        generalize L1.getD i 0 = x at *
        generalize L2.getD i 0 = y at *
        have HD := Lib.hid hD
        clear hD HR
        have z1 : ∀ q, (wr.drewN q).cell? ⟨b1, o1 + i, none⟩ = some (.int .i64 (x : Int)) := fun q => by simpa using q1
        have z2 : ∀ q, (wr.drewN q).cell? ⟨b2, o2 + i, none⟩ = some (.int .i64 (y : Int)) := fun q => by simpa using q2
        by_cases hxy : x = y
        · subst hxy
          have hD := HD.out
          rw [if_neg (by omega), if_neg (by omega)] at hD
          have HD2 := Lib.hid hD.symm
          clear hD HD z1 z2
          go_wp2_with fail
          go_quiet (fail)
          have hb7 := below_drewN hbx nq
          go_wp2_with fail
          go_roundg g
          case rel => exact ⟨i + 1, by congr 1, by omega, hb7, HD2⟩
          all_goals omega
        · have hxi : ¬ ((x : Int) = (y : Int)) := by omega
          have hxb : ((x : Int) == (y : Int)) = false := beq_eq_false_iff_ne.2 hxi
          by_cases hl : x < y
          · have hli : (x : Int) < (y : Int) := by omega
            have hr : R = -1 := HD.out.trans (if_pos hl)
            subst hr
            clear HD z2 z1
            go_wp2_with fail
            go_quiet (fail)
            have hb7 := below_drewN hbx nq
            have q1 : (wr.drewN nq).cell? ⟨b1, o1 + i, none⟩ = some (.int .i64 (x : Int)) := by simpa using q1
            have q2 : (wr.drewN nq).cell? ⟨b2, o2 + i, none⟩ = some (.int .i64 (y : Int)) := by simpa using q2
            obtain ⟨W7, hW7⟩ : ∃ W7, wr.drewN nq = W7 := ⟨_, rfl⟩
            rw [hW7] at hb7 q1 q2 ⊢
            clear hW7
            go_wp2_with fail
            go_quiet (fail)
            have hb8 := below_drewN hb7 nq
            go_wp2_with fail
            go_ret
            exact ⟨rfl, hb8⟩
          · have hli : ¬ (x : Int) < (y : Int) := by omega
            have hlb : decide ((x : Int) < (y : Int)) = false := decide_eq_false hli
            have hr : R = 1 := HD.out.trans ((if_neg hl).trans (if_pos (by omega)))
            subst hr
            clear HD z2 z1
            go_wp2_with fail
            go_quiet (fail)
            have hb7 := below_drewN hbx nq
            have q1 : (wr.drewN nq).cell? ⟨b1, o1 + i, none⟩ = some (.int .i64 (x : Int)) := by simpa using q1
            have q2 : (wr.drewN nq).cell? ⟨b2, o2 + i, none⟩ = some (.int .i64 (y : Int)) := by simpa using q2
            obtain ⟨W7, hW7⟩ : ∃ W7, wr.drewN nq = W7 := ⟨_, rfl⟩
            rw [hW7] at hb7 q1 q2 ⊢
            clear hW7
            go_wp2_with fail
            go_quiet (fail)
            have hb8 := below_drewN hb7 nq
            go_wp2_with fail
            go_ret
            exact ⟨rfl, hb8⟩
      · have hil : ¬ (i : Int) < (n1 : Int) := by omega
        have hr : R = 0 := by
          have := HR.out
          rw [List.drop_eq_nil_of_le (by rw [HL.out.1]; omega)] at this
          exact this.symm
        subst hr
        go_wp2_with fail
        go_ret
        exact ⟨rfl, hbx⟩
  · have hni : ¬ (n1 : Int) = (n2 : Int) := by omega
    have hnb : ((n1 : Int) == (n2 : Int)) = false := beq_eq_false_iff_ne.2 hni
    by_cases hl : n1 < n2
    · have hli : (n1 : Int) < (n2 : Int) := by omega
      have hr : R = -1 := HX.out.1 hl
      subst hr
      clear HX h1 h2 hn1 hn2
      go_wp2_with fail
      go_ret
      exact ⟨rfl, Below.refl _ _⟩
    · have hli : ¬ (n1 : Int) < (n2 : Int) := by omega
      have hr : R = 1 := HX.out.2.1 (by omega)
      subst hr
      clear HX h1 h2 hn1 hn2
      go_wp2_with fail
      go_ret
      exact ⟨rfl, Below.refl _ _⟩
end Go.Proofs.YtdfgifnccghlmabGreatDoor.R
namespace Go.Proofs.YtdfgifnccghlmabGreatDoor.R
open Go.RowKit Go.Lib
open Go.Proofs.YtdfgifnccghlmabGreatDoor (trimW trimW_snoc trimW_le take_snoc' lt_of_cell cmpD cmpD_app sgnN below_drewN heap_drewN getD_drop0 tail_drop)

def i64Cells (l : List Nat) : Array Value := (l.map fun (n : Nat) => Value.int .i64 (n : Int)).toArray
/-- Block B is a row of these integers, the first one first. -/
def RowI (w : World) (B : Nat) (l : List Nat) : Prop := w.heap[B]? = some (.cells (i64Cells l) 3 (0, 0))
theorem RowI.lt {w : World} {B : Nat} {l : List Nat} (h : RowI w B l) : B < w.heap.size := (Array.getElem?_eq_some_iff.1 h).1
theorem RowI.cell {w : World} {B : Nat} {l : List Nat} (h : RowI w B l) (i : Nat) (hi : i < l.length) : w.cell? ⟨B, i, none⟩ = some (.int .i64 ((l.getD i 0 : Nat) : Int)) := by
  unfold RowI at h
  have : w.cell? ⟨B, i, none⟩ = (i64Cells l)[i]? := by simp [World.cell?, h]
  rw [this]
  unfold i64Cells
  rw [List.getElem?_toArray, List.getElem?_map, List.getD_eq_getElem?_getD, List.getElem?_eq_getElem hi]
  rfl
theorem RowI.frozen {w : World} {B : Nat} {l : List Nat} (h : RowI w B l) (i : Nat) : w.frozen? ⟨B, i, none⟩ = false := by
  unfold RowI at h
  simp [World.frozen?, h]
theorem RowI.set {w : World} {B : Nat} {l : List Nat} (h : RowI w B l) (i x : Nat) : RowI (w.setCell ⟨B, i, none⟩ (.int .i64 (x : Int))) B (l.set i x) := by
  unfold RowI at h ⊢
  unfold World.setCell
  have e : i64Cells (l.set i x) = (i64Cells l).setIfInBounds i (.int .i64 (x : Int)) := by
    unfold i64Cells
    rw [List.map_set, List.setIfInBounds_toArray]
  simp [Array.getElem?_modify, h, e]
theorem RowI.later {w w' : World} {B : Nat} {l : List Nat} (h : RowI w B l) (hb : Below w.heap.size w w') : RowI w' B l := (hb.block B h.lt).trans h
theorem RowI.digs {w : World} {B : Nat} {l : List Nat} (h : RowI w B l.reverse) (cap : Nat) (hc : l.length ≤ cap) : Digs w (.slice (some ⟨B, 0, none⟩) l.length cap) l :=
  .inr ⟨B, 0, cap, rfl, hc, fun j hj => by
    rw [Nat.zero_add, h.cell (l.length - 1 - j) (by rw [List.length_reverse]; omega)]
    congr 2
    rw [List.getD_eq_getElem?_getD, List.getD_eq_getElem?_getD, List.getElem?_reverse (by omega), show l.length - 1 - (l.length - 1 - j) = j by omega]⟩
theorem infoInt : (Tryz.prog.info? 3).map (fun i => (i.zero, i.size, i.bytes)) = some (some (.int .i64 0), 1, 8) := by kernel_rfl
theorem made_zerosI (n : Nat) : madeCells #[.int .i64 0] n = i64Cells (List.replicate n 0) := by
  apply Array.toList_inj.1
  unfold madeCells i64Cells
  rw [Array.toList_map, Array.toList_range, List.map_replicate]
  apply List.ext_getElem
  · simp
  · intro i h1 h2
    simp [Nat.mod_one]
/-- make([]int, n). -/
theorem make_ints (n : Nat) (hn : n ≤ 1000000000) (w : World) :
    (Instr.makeSlice 84 (.int .i64 (n : Int)) (.int .i64 (n : Int))).run Tryz.prog w = .ok (.slice (some ⟨w.heap.size, 0, none⟩) n n) (w.alloc (.cells (i64Cells (List.replicate n 0)) 3)) := by
  obtain ⟨i, hi, hh⟩ := Option.map_eq_some_iff.1 infoInt
  simp only [Prod.mk.injEq] at hh
  have hmk := run_make (P := Tryz.prog) w 84 3 i (.int .i64 0) Tryz.underlying84 hi hh.1 .i64 .i64 (n : Int) (n : Int) (by omega) (by omega) (by rw [hh.2.2]; omega) (by omega)
  rw [Int.toNat_natCast, hh.2.1, Nat.mul_one, show (Value.int IntKind.i64 0).cells = #[Value.int IntKind.i64 0] from rfl, made_zerosI] at hmk
  exact hmk
theorem made_rowI (w : World) (n : Nat) : RowI (w.alloc (.cells (i64Cells (List.replicate n 0)) 3)) w.heap.size (List.replicate n 0) := heap_alloc_new _ _
/-- A row that is written from the back. -/
theorem set_back (done : List Nat) (k x : Nat) : (List.replicate (k + 1) 0 ++ done.reverse).set k x = List.replicate k 0 ++ (done ++ [x]).reverse := by
  rw [List.set_append_left _ _ (by simp), List.replicate_succ', List.set_append_right _ _ (by simp), List.length_replicate, Nat.sub_self, List.set_cons_zero, List.append_assoc, List.reverse_append]
  rfl
set_option maxHeartbeats 4000000 in
set_option maxRecDepth 100000 in
theorem add_lt (u v : Value) (a b : List Nat) (ha : Small a) (hb : Small b) (ha9 : a.length < 100000000) (hb9 : b.length < 100000000) (hab : a.length < b.length) (w : World) (hu : Digs w u a) (hv : Digs w v b) :
    Calls Tryz.prog 136 #[u, v] w fun e w' => ∃ x, e = .returned x ∧ Digs w' x (wordsOf (val a + val b)) ∧ Below w.heap.size w w' := by
  obtain ⟨p1, c1, rfl⟩ := hu.shape
  obtain ⟨p2, c2, rfl⟩ := hv.shape
  obtain ⟨n, hn⟩ : ∃ n, b.length + 1 = n := ⟨_, rfl⟩
  have hmax : max a.length b.length + 1 = n := by omega
  have hn9 : n ≤ 100000000 := by omega
  have hmk := make_ints n (by omega) w
  obtain ⟨W1, hW1⟩ : ∃ W1, w.alloc (.cells (i64Cells (List.replicate n 0)) 3) = W1 := ⟨_, rfl⟩
  have hR1 : RowI W1 w.heap.size (List.replicate n 0 ++ ([] : List Nat).reverse) := by rw [← hW1, List.reverse_nil, List.append_nil]; exact made_rowI w n
  have hb1 : Below w.heap.size w W1 := by rw [← hW1]; exact (Below.refl _ _).alloc (Nat.le_refl _) _
  rw [hW1] at hmk
  have hsum := addW_sum a b ha hb
  have hsm := addW_small n a b 0
  have htr := trimW_words _ hsm
  rw [hmax] at hsum
  rw [hsum] at htr
  obtain ⟨TOT, hTOT⟩ : ∃ T, addW n a b 0 = T := ⟨_, rfl⟩
  have htl : TOT.length = n := by rw [← hTOT]; exact addW_len n a b 0
  rw [hTOT] at htr
  have HT := Lib.hid (show [] ++ addW (n - 0) (a.drop 0) (b.drop 0) 0 = TOT from hTOT)
  clear hW1 hsum hsm hTOT hmax
  have cA := fun (i : Nat) (hi : i < 1000000000) W (hW : Below w.heap.size w W) => at_any _ a i hi (by omega) W (hu.later hW)
  have cB := fun (i : Nat) (hi : i < 1000000000) W (hW : Below w.heap.size w W) => at_any _ b i hi (by omega) W (hv.later hW)
  have hRT := fun W (hW : RowI W w.heap.size TOT.reverse) => trim_any _ TOT (by omega) W (hW.digs n (by omega))
  rw [htl] at hRT
  have hnz : (b.length : Int) + 1 = (n : Int) := by omega
  have hnw : wrap64 (b.length : Int) = (b.length : Int) := by unfold wrap64; omega
  have habz : (a.length : Int) < (b.length : Int) := by omega
  have habz2 : ¬ (b.length : Int) ≤ (a.length : Int) := by omega
  clear hu hv hn
  go_enter Tryz.func136, Tryz.ntmps136
  go_wp2_with fail
  go_loopg [7, 8] n (fun g s7 s8 wx => ∃ (i c : Nat) (done : List Nat), s8 = .int .i64 i ∧ i + g = n ∧ s7 = .int .i64 c ∧ c ≤ 1 ∧ done.length = i ∧ RowI wx w.heap.size (List.replicate g 0 ++ done.reverse) ∧ Below w.heap.size w wx ∧ Hid (done ++ addW (n - i) (a.drop i) (b.drop i) c = TOT))
  case atStart => exact ⟨0, 0, [], rfl, by omega, rfl, by omega, rfl, hR1, hb1, HT⟩
  case round =>
    clear hR1 hb1 HT
    obtain ⟨i, c, done, rfl, hig, rfl, hc1, hdl, hR, hbx, HK⟩ := hrel
    by_cases hlt : i < n
    · obtain ⟨g, rfl⟩ : ∃ g, gk = g + 1 := ⟨gk - 1, by omega⟩
      have hil : (i : Int) < (n : Int) := by omega
      have hk := HK.out
      rw [show n - i = (n - (i + 1)) + 1 by omega, addW, tail_drop, tail_drop, ← getD_drop0, ← getD_drop0] at hk
      have xs := ha.getD i
      have ys := hb.getD i
      have kA := cA i (by omega) wr hbx
      have kB := cB i (by omega) wr hbx
      generalize a.getD i 0 = x at *
      generalize b.getD i 0 = y at *
      have hcell : wr.cell? ⟨w.heap.size, g, none⟩ = some (.int .i64 0) := by
        have := hR.cell g (by rw [List.length_append, List.length_replicate]; omega)
        rw [this]
        congr 2
        rw [List.getD_eq_getElem?_getD, List.getElem?_append_left (by simp), List.getElem?_replicate]
        simp
      have hfr := hR.frozen g
      have hqi : (n : Int) - 1 - (i : Int) = (g : Int) := by omega
      have hgn : (g : Int) < (n : Int) := by omega
      have hcast : (((x + y + c) % 10 : Nat) : Int) = ((x : Int) + (y : Int) + (c : Int)) % 10 := by omega
      have hcast2 : (((x + y + c) / 10 : Nat) : Int) = ((x : Int) + (y : Int) + (c : Int)) / 10 := by omega
      obtain ⟨W2, hW2⟩ : ∃ W2, wr.setCell ⟨w.heap.size, g, none⟩ (.int .i64 (((x : Int) + (y : Int) + (c : Int)) % 10)) = W2 := ⟨_, rfl⟩
      have hR2 : RowI W2 w.heap.size (List.replicate g 0 ++ (done ++ [(x + y + c) % 10]).reverse) := by
        rw [← hW2, ← set_back, ← hcast]
        exact hR.set g _
      have hb2 : Below w.heap.size w W2 := by rw [← hW2]; exact hbx.setCell (p := ⟨w.heap.size, g, none⟩) (Nat.le_refl _) _
      have HK2 := Lib.hid (show (done ++ [(x + y + c) % 10]) ++ addW (n - (i + 1)) (a.drop (i + 1)) (b.drop (i + 1)) ((x + y + c) / 10) = TOT by rw [List.append_assoc]; exact hk)
      clear hk HK cA cB hRT
      go_wp2_with fail
      refine kA.mono ?_
      rintro e w3 ⟨rfl, rfl⟩
      go_wp2_with fail
      refine kB.mono ?_
      rintro e w3 ⟨rfl, rfl⟩
      have hc2 : (x + y + c) / 10 ≤ 1 := by omega
      go_wp2_with fail
      go_roundg g
      case rel => exact ⟨i + 1, (x + y + c) / 10, done ++ [(x + y + c) % 10], by congr 1, by omega, by rw [hcast2], hc2, by rw [List.length_append, hdl]; rfl, hR2, hb2, HK2⟩
      all_goals omega
    · have hil : ¬ (i : Int) < (n : Int) := by omega
      obtain rfl : i = n := by omega
      obtain rfl : gk = 0 := by omega
      have hk := HK.out
      rw [Nat.sub_self] at hk
      have e : done = TOT := by rw [← hk]; simp [addW]
      rw [e] at hR
      have k := hRT wr (by simpa using hR)
      rw [htr] at k
      clear cA cB hRT HK hk e hR
      go_wp2_with fail
      refine k.mono ?_
      rintro e w3 ⟨x, rfl, hx, rfl⟩
      go_wp2_with fail
      go_ret
      exact ⟨x, rfl, hx, hbx⟩
set_option maxHeartbeats 4000000 in
set_option maxRecDepth 100000 in
theorem add_ge (u v : Value) (a b : List Nat) (ha : Small a) (hb : Small b) (ha9 : a.length < 100000000) (hb9 : b.length < 100000000) (hab : ¬ a.length < b.length) (w : World) (hu : Digs w u a) (hv : Digs w v b) :
    Calls Tryz.prog 136 #[u, v] w fun e w' => ∃ x, e = .returned x ∧ Digs w' x (wordsOf (val a + val b)) ∧ Below w.heap.size w w' := by
  obtain ⟨p1, c1, rfl⟩ := hu.shape
  obtain ⟨p2, c2, rfl⟩ := hv.shape
  obtain ⟨n, hn⟩ : ∃ n, a.length + 1 = n := ⟨_, rfl⟩
  have hmax : max a.length b.length + 1 = n := by omega
  have hn9 : n ≤ 100000000 := by omega
  have hmk := make_ints n (by omega) w
  obtain ⟨W1, hW1⟩ : ∃ W1, w.alloc (.cells (i64Cells (List.replicate n 0)) 3) = W1 := ⟨_, rfl⟩
  have hR1 : RowI W1 w.heap.size (List.replicate n 0 ++ ([] : List Nat).reverse) := by rw [← hW1, List.reverse_nil, List.append_nil]; exact made_rowI w n
  have hb1 : Below w.heap.size w W1 := by rw [← hW1]; exact (Below.refl _ _).alloc (Nat.le_refl _) _
  rw [hW1] at hmk
  have hsum := addW_sum a b ha hb
  have hsm := addW_small n a b 0
  have htr := trimW_words _ hsm
  rw [hmax] at hsum
  rw [hsum] at htr
  obtain ⟨TOT, hTOT⟩ : ∃ T, addW n a b 0 = T := ⟨_, rfl⟩
  have htl : TOT.length = n := by rw [← hTOT]; exact addW_len n a b 0
  rw [hTOT] at htr
  have HT := Lib.hid (show [] ++ addW (n - 0) (a.drop 0) (b.drop 0) 0 = TOT from hTOT)
  clear hW1 hsum hsm hTOT hmax
  have cA := fun (i : Nat) (hi : i < 1000000000) W (hW : Below w.heap.size w W) => at_any _ a i hi (by omega) W (hu.later hW)
  have cB := fun (i : Nat) (hi : i < 1000000000) W (hW : Below w.heap.size w W) => at_any _ b i hi (by omega) W (hv.later hW)
  have hRT := fun W (hW : RowI W w.heap.size TOT.reverse) => trim_any _ TOT (by omega) W (hW.digs n (by omega))
  rw [htl] at hRT
  have hnz : (a.length : Int) + 1 = (n : Int) := by omega
  have hnw : wrap64 (a.length : Int) = (a.length : Int) := by unfold wrap64; omega
  have habz : ¬ (a.length : Int) < (b.length : Int) := by omega
  have habz2 : (b.length : Int) ≤ (a.length : Int) := by omega
  clear hu hv hn
  go_enter Tryz.func136, Tryz.ntmps136
  go_wp2_with fail
  go_loopg [7, 8] n (fun g s7 s8 wx => ∃ (i c : Nat) (done : List Nat), s8 = .int .i64 i ∧ i + g = n ∧ s7 = .int .i64 c ∧ c ≤ 1 ∧ done.length = i ∧ RowI wx w.heap.size (List.replicate g 0 ++ done.reverse) ∧ Below w.heap.size w wx ∧ Hid (done ++ addW (n - i) (a.drop i) (b.drop i) c = TOT))
  case atStart => exact ⟨0, 0, [], rfl, by omega, rfl, by omega, rfl, hR1, hb1, HT⟩
  case round =>
    clear hR1 hb1 HT
    obtain ⟨i, c, done, rfl, hig, rfl, hc1, hdl, hR, hbx, HK⟩ := hrel
    by_cases hlt : i < n
    · obtain ⟨g, rfl⟩ : ∃ g, gk = g + 1 := ⟨gk - 1, by omega⟩
      have hil : (i : Int) < (n : Int) := by omega
      have hk := HK.out
      rw [show n - i = (n - (i + 1)) + 1 by omega, addW, tail_drop, tail_drop, ← getD_drop0, ← getD_drop0] at hk
      have xs := ha.getD i
      have ys := hb.getD i
      have kA := cA i (by omega) wr hbx
      have kB := cB i (by omega) wr hbx
      generalize a.getD i 0 = x at *
      generalize b.getD i 0 = y at *
      have hcell : wr.cell? ⟨w.heap.size, g, none⟩ = some (.int .i64 0) := by
        have := hR.cell g (by rw [List.length_append, List.length_replicate]; omega)
        rw [this]
        congr 2
        rw [List.getD_eq_getElem?_getD, List.getElem?_append_left (by simp), List.getElem?_replicate]
        simp
      have hfr := hR.frozen g
      have hqi : (n : Int) - 1 - (i : Int) = (g : Int) := by omega
      have hgn : (g : Int) < (n : Int) := by omega
      have hcast : (((x + y + c) % 10 : Nat) : Int) = ((x : Int) + (y : Int) + (c : Int)) % 10 := by omega
      have hcast2 : (((x + y + c) / 10 : Nat) : Int) = ((x : Int) + (y : Int) + (c : Int)) / 10 := by omega
      obtain ⟨W2, hW2⟩ : ∃ W2, wr.setCell ⟨w.heap.size, g, none⟩ (.int .i64 (((x : Int) + (y : Int) + (c : Int)) % 10)) = W2 := ⟨_, rfl⟩
      have hR2 : RowI W2 w.heap.size (List.replicate g 0 ++ (done ++ [(x + y + c) % 10]).reverse) := by
        rw [← hW2, ← set_back, ← hcast]
        exact hR.set g _
      have hb2 : Below w.heap.size w W2 := by rw [← hW2]; exact hbx.setCell (p := ⟨w.heap.size, g, none⟩) (Nat.le_refl _) _
      have HK2 := Lib.hid (show (done ++ [(x + y + c) % 10]) ++ addW (n - (i + 1)) (a.drop (i + 1)) (b.drop (i + 1)) ((x + y + c) / 10) = TOT by rw [List.append_assoc]; exact hk)
      clear hk HK cA cB hRT
      go_wp2_with fail
      refine kA.mono ?_
      rintro e w3 ⟨rfl, rfl⟩
      go_wp2_with fail
      refine kB.mono ?_
      rintro e w3 ⟨rfl, rfl⟩
      have hc2 : (x + y + c) / 10 ≤ 1 := by omega
      go_wp2_with fail
      go_roundg g
      case rel => exact ⟨i + 1, (x + y + c) / 10, done ++ [(x + y + c) % 10], by congr 1, by omega, by rw [hcast2], hc2, by rw [List.length_append, hdl]; rfl, hR2, hb2, HK2⟩
      all_goals omega
    · have hil : ¬ (i : Int) < (n : Int) := by omega
      obtain rfl : i = n := by omega
      obtain rfl : gk = 0 := by omega
      have hk := HK.out
      rw [Nat.sub_self] at hk
      have e : done = TOT := by rw [← hk]; simp [addW]
      rw [e] at hR
      have k := hRT wr (by simpa using hR)
      rw [htr] at k
      clear cA cB hRT HK hk e hR
      go_wp2_with fail
      refine k.mono ?_
      rintro e w3 ⟨x, rfl, hx, rfl⟩
      go_wp2_with fail
      go_ret
      exact ⟨x, rfl, hx, hbx⟩
theorem add_any (u v : Value) (a b : List Nat) (ha : Small a) (hb : Small b) (ha9 : a.length < 100000000) (hb9 : b.length < 100000000) (w : World) (hu : Digs w u a) (hv : Digs w v b) :
    Calls Tryz.prog 136 #[u, v] w fun e w' => ∃ x, e = .returned x ∧ Digs w' x (wordsOf (val a + val b)) ∧ Below w.heap.size w w' := by
  by_cases h : a.length < b.length
  · exact add_lt u v a b ha hb ha9 hb9 h w hu hv
  · exact add_ge u v a b ha hb ha9 hb9 h w hu hv
end Go.Proofs.YtdfgifnccghlmabGreatDoor.R
namespace Go.Proofs.YtdfgifnccghlmabGreatDoor.R
open Go.RowKit Go.Lib
open Go.Proofs.YtdfgifnccghlmabGreatDoor (trimW trimW_snoc trimW_le take_snoc' lt_of_cell cmpD cmpD_app sgnN below_drewN heap_drewN getD_drop0 tail_drop)

/-- A slice of no block below this one. -/
def Since (N : Nat) (u : Value) : Prop := ∀ k, u.ownBlock = some k → N ≤ k
set_option maxHeartbeats 4000000 in
set_option maxRecDepth 100000 in
theorem sub_own (u v : Value) (a b : List Nat) (ha : Small a) (hb : Small b) (ha9 : a.length < 100000000) (hb9 : b.length < 100000000) (hle : val b ≤ val a) (w : World) (hu : Digs w u a) (hv : Digs w v b) :
    Calls Tryz.prog 99 #[u, v] w fun e w' => ∃ x, e = .returned x ∧ Digs w' x (wordsOf (val a - val b)) ∧ Below w.heap.size w w' ∧ Since w.heap.size x := by
  obtain ⟨p1, c1, rfl⟩ := hu.shape
  obtain ⟨p2, c2, rfl⟩ := hv.shape
  obtain ⟨n, hn⟩ : ∃ n, a.length = n := ⟨_, rfl⟩
  have hn9 : n ≤ 100000000 := by omega
  have hmk := make_ints n (by omega) w
  obtain ⟨W1, hW1⟩ : ∃ W1, w.alloc (.cells (i64Cells (List.replicate n 0)) 3) = W1 := ⟨_, rfl⟩
  have hR1 : RowI W1 w.heap.size (List.replicate n 0 ++ ([] : List Nat).reverse) := by rw [← hW1, List.reverse_nil, List.append_nil]; exact made_rowI w n
  have hb1 : Below w.heap.size w W1 := by rw [← hW1]; exact (Below.refl _ _).alloc (Nat.le_refl _) _
  rw [hW1] at hmk
  have hval := subW_val n a b 0 ha hb (by omega) (by omega) (by rw [← hn]; exact val_lt a ha)
  have hsum : val (subW n a b 0) = val a - val b := by omega
  have hsm := subW_small n a b 0
  have htr := trimW_words _ hsm
  rw [hsum] at htr
  obtain ⟨TOT, hTOT⟩ : ∃ T, subW n a b 0 = T := ⟨_, rfl⟩
  have htl : TOT.length = n := by rw [← hTOT]; exact subW_len n a b 0
  rw [hTOT] at htr
  have HT := Lib.hid (show [] ++ subW (n - 0) (a.drop 0) (b.drop 0) 0 = TOT from hTOT)
  clear hW1 hsum hsm hTOT hval hle
  have cA := fun (i : Nat) (hi : i < 1000000000) W (hW : Below w.heap.size w W) => at_any _ a i hi (by omega) W (hu.later hW)
  have cB := fun (i : Nat) (hi : i < 1000000000) W (hW : Below w.heap.size w W) => at_any _ b i hi (by omega) W (hv.later hW)
  have hRT := fun W (hW : RowI W w.heap.size TOT.reverse) => trim_own _ TOT (by omega) W (hW.digs n (by omega))
  rw [htl] at hRT
  rw [hn] at cA ⊢
  clear hu hv hn
  go_enter Tryz.func99, Tryz.ntmps99
  go_wp2_with fail
  go_loopg [6, 7] n (fun g s6 s7 wx => ∃ (i c : Nat) (done : List Nat), s7 = .int .i64 i ∧ i + g = n ∧ s6 = .int .i64 c ∧ c ≤ 1 ∧ done.length = i ∧ RowI wx w.heap.size (List.replicate g 0 ++ done.reverse) ∧ Below w.heap.size w wx ∧ Hid (done ++ subW (n - i) (a.drop i) (b.drop i) c = TOT))
  case atStart => exact ⟨0, 0, [], rfl, by omega, rfl, by omega, rfl, hR1, hb1, HT⟩
  case round =>
    clear hR1 hb1 HT
    obtain ⟨i, c, done, rfl, hig, rfl, hc1, hdl, hR, hbx, HK⟩ := hrel
    by_cases hlt : i < n
    · obtain ⟨g, rfl⟩ : ∃ g, gk = g + 1 := ⟨gk - 1, by omega⟩
      have hil : (i : Int) < (n : Int) := by omega
      have hk := HK.out
      rw [show n - i = (n - (i + 1)) + 1 by omega, subW, tail_drop, tail_drop, ← getD_drop0, ← getD_drop0] at hk
      have xs := ha.getD i
      have ys := hb.getD i
      have kA := cA i (by omega) wr hbx
      have kB := cB i (by omega) wr hbx
      generalize a.getD i 0 = x at *
      generalize b.getD i 0 = y at *
      have hcell : wr.cell? ⟨w.heap.size, g, none⟩ = some (.int .i64 0) := by
        have := hR.cell g (by rw [List.length_append, List.length_replicate]; omega)
        rw [this]
        congr 2
        rw [List.getD_eq_getElem?_getD, List.getElem?_append_left (by simp), List.getElem?_replicate]
        simp
      have hfr := hR.frozen g
      have hqi : (n : Int) - 1 - (i : Int) = (g : Int) := by omega
      have hgn : (g : Int) < (n : Int) := by omega
      by_cases hsb : x < y + c
      · have hs : x < y + c := hsb
        have hsi : (x : Int) - (y : Int) - (c : Int) < 0 := by omega
        obtain ⟨z, hz⟩ : ∃ z, x + 10 - y - c = z := ⟨_, rfl⟩
        have hzi : (x : Int) - (y : Int) - (c : Int) + 10 = (z : Int) := by omega
        have e1 : (10 + x - y - c) % 10 = z := by omega
        have e2 : 1 - (10 + x - y - c) / 10 = 1 := by omega
        rw [e1, e2] at hk
        obtain ⟨W2, hW2⟩ : ∃ W2, wr.setCell ⟨w.heap.size, g, none⟩ (.int .i64 (z : Int)) = W2 := ⟨_, rfl⟩
        have hR2 : RowI W2 w.heap.size (List.replicate g 0 ++ (done ++ [z]).reverse) := by
          rw [← hW2, ← set_back]
          exact hR.set g _
        have hb2 : Below w.heap.size w W2 := by rw [← hW2]; exact hbx.setCell (p := ⟨w.heap.size, g, none⟩) (Nat.le_refl _) _
        have HK2 := Lib.hid (show (done ++ [z]) ++ subW (n - (i + 1)) (a.drop (i + 1)) (b.drop (i + 1)) 1 = TOT by rw [List.append_assoc]; exact hk)
        clear hk HK cA cB hRT hz e1 e2
        go_wp2_with fail
        refine kA.mono ?_
        rintro e w3 ⟨rfl, rfl⟩
        go_wp2_with fail
        refine kB.mono ?_
        rintro e w3 ⟨rfl, rfl⟩
        go_wp2_with fail
        go_roundg g
        case rel => exact ⟨i + 1, 1, done ++ [z], by congr 1, by omega, rfl, by omega, by rw [List.length_append, hdl]; rfl, hR2, hb2, HK2⟩
        all_goals omega
      · have hsi : ¬ (x : Int) - (y : Int) - (c : Int) < 0 := by omega
        obtain ⟨z, hz⟩ : ∃ z, x - y - c = z := ⟨_, rfl⟩
        have hzi : (x : Int) - (y : Int) - (c : Int) = (z : Int) := by omega
        have e1 : (10 + x - y - c) % 10 = z := by omega
        have e2 : 1 - (10 + x - y - c) / 10 = 0 := by omega
        rw [e1, e2] at hk
        obtain ⟨W2, hW2⟩ : ∃ W2, wr.setCell ⟨w.heap.size, g, none⟩ (.int .i64 (z : Int)) = W2 := ⟨_, rfl⟩
        have hR2 : RowI W2 w.heap.size (List.replicate g 0 ++ (done ++ [z]).reverse) := by
          rw [← hW2, ← set_back]
          exact hR.set g _
        have hb2 : Below w.heap.size w W2 := by rw [← hW2]; exact hbx.setCell (p := ⟨w.heap.size, g, none⟩) (Nat.le_refl _) _
        have HK2 := Lib.hid (show (done ++ [z]) ++ subW (n - (i + 1)) (a.drop (i + 1)) (b.drop (i + 1)) 0 = TOT by rw [List.append_assoc]; exact hk)
        clear hk HK cA cB hRT hz e1 e2
        go_wp2_with fail
        refine kA.mono ?_
        rintro e w3 ⟨rfl, rfl⟩
        go_wp2_with fail
        refine kB.mono ?_
        rintro e w3 ⟨rfl, rfl⟩
        go_wp2_with fail
        go_roundg g
        case rel => exact ⟨i + 1, 0, done ++ [z], by congr 1, by omega, rfl, by omega, by rw [List.length_append, hdl]; rfl, hR2, hb2, HK2⟩
        all_goals omega
    · have hil : ¬ (i : Int) < (n : Int) := by omega
      obtain rfl : i = n := by omega
      obtain rfl : gk = 0 := by omega
      have hk := HK.out
      rw [Nat.sub_self] at hk
      have e : done = TOT := by rw [← hk]; simp [subW]
      rw [e] at hR
      have k := hRT wr (by simpa using hR)
      rw [htr] at k
      clear cA cB hRT HK hk e hR
      go_wp2_with fail
      refine k.mono ?_
      rintro e w3 ⟨x, rfl, hx, rfl, hf⟩
      go_wp2_with fail
      go_ret
      exact ⟨x, rfl, hx, hbx, fun k hk => by cases hf k hk; exact Nat.le_refl _⟩
theorem sub_any (u v : Value) (a b : List Nat) (ha : Small a) (hb : Small b) (ha9 : a.length < 100000000) (hb9 : b.length < 100000000) (hle : val b ≤ val a) (w : World) (hu : Digs w u a) (hv : Digs w v b) :
    Calls Tryz.prog 99 #[u, v] w fun e w' => ∃ x, e = .returned x ∧ Digs w' x (wordsOf (val a - val b)) ∧ Below w.heap.size w w' :=
  (sub_own u v a b ha hb ha9 hb9 hle w hu hv).mono fun _ _ ⟨x, h1, h2, h3, _⟩ => ⟨x, h1, h2, h3⟩
end Go.Proofs.YtdfgifnccghlmabGreatDoor.R
namespace Go.Proofs.YtdfgifnccghlmabGreatDoor.R
open Go.RowKit Go.Lib
open Go.Proofs.YtdfgifnccghlmabGreatDoor (trimW trimW_snoc trimW_le take_snoc' lt_of_cell cmpD cmpD_app sgnN below_drewN heap_drewN getD_drop0 tail_drop)

theorem zeroCells_int (k : Nat) : Builtin.zeroCells #[Value.int .i64 0] k = (List.replicate k (Value.int .i64 0)).toArray := by
  apply Array.toList_inj.1
  unfold Builtin.zeroCells
  rw [Array.toList_map, Array.toList_range]
  apply List.ext_getElem
  · simp
  · intro i h1 h2
    simp [Nat.mod_one]
theorem heap_alloc_old' (w : World) (j : Nat) (hj : j < w.heap.size) (o : Obj) : (w.drew.alloc o).heap[j]? = w.heap[j]? := by
  show (w.heap.push o)[j]? = w.heap[j]?
  rw [Array.getElem?_push, if_neg (by omega)]
/-- append(s, make([]int, k)...) at a row of one's own. -/
theorem append_zeros_own (base : Nat) (v : Value) (n : Nat) (xs : List Value) (k : Nat) (hnk : n + k ≤ 1000000000) (w : World) (hown : w.ownsRow base 3 1 v n xs) (hbase : base ≤ w.heap.size) (ty : TypeId) :
    ∃ v' w', (Builtin.append_ #[84, 3] ty #[v, .int .i64 (k : Int)]).run Tryz.prog w = .ok v' w' ∧ w'.ownsRow base 3 1 v' (n + k) (xs ++ List.replicate k (.int .i64 0)) ∧ w.grownBy w' v.ownBlock := by
  obtain ⟨i, hi, hh⟩ := Option.map_eq_some_iff.1 infoInt
  simp only [Prod.mk.injEq] at hh
  obtain ⟨hz, hs, hby⟩ := hh
  have ht := Tryz.underlying84
  have htn := Tryz.underlying3
  have hlx : xs.length = n := by have := hown.1; omega
  have hlen : (xs ++ List.replicate k (Value.int .i64 0)).length = n + k := by rw [List.length_append, hlx, List.length_replicate]
  have hzc : (Value.int IntKind.i64 0).cells = #[Value.int .i64 0] := rfl
  have grown : ∀ (old : Nat), ∀ (row : Option Nat),
      (w.drew.alloc (.cells (xs.toArray ++ Builtin.zeroCells #[Value.int .i64 0] k ++ Builtin.zeroCells #[Value.int .i64 0] (grownCap w (n + k) old 3 - (n + k))) 3)).ownsRow base 3 1
        (.slice (some ⟨w.heap.size, 0, none⟩) (n + k) (grownCap w (n + k) old 3)) (n + k) (xs ++ List.replicate k (.int .i64 0)) ∧
      w.grownBy (w.drew.alloc (.cells (xs.toArray ++ Builtin.zeroCells #[Value.int .i64 0] k ++ Builtin.zeroCells #[Value.int .i64 0] (grownCap w (n + k) old 3 - (n + k))) 3)) row := by
    intro old row
    have hge := grownCap_ge w (n + k) old 3
    have hcm : grownCap w (n + k) old 3 ≤ maxLen := grownCap_le_maxLen w (n + k) old 3 (by unfold maxLen; omega)
    refine ⟨⟨by rw [hlen, Nat.mul_one], .inr ⟨w.heap.size, _, _, rfl, hbase, heap_alloc_new w.drew _, hge, hcm, ?_, ?_⟩⟩, ⟨rfl, rfl, rfl, by simp, fun j hj _ => heap_alloc_old' w j hj _⟩⟩
    · simp only [Array.size_append, List.size_toArray, size_zeroCells, hlx]
      simp
      omega
    · rw [zeroCells_int]
      simp only [Array.toList_append, List.append_assoc]
      rw [← List.append_assoc, ← hlen, Nat.mul_one]
      exact List.take_left
  rcases hown.2 with ⟨rfl, rfl⟩ | ⟨g, cap, cur, rfl, hbg, hg, hnc, hcm, hcs, htake⟩
  · have hx : xs = [] := List.eq_nil_of_length_eq_zero hlx
    subst hx
    by_cases hk0 : k = 0
    · subst hk0
      refine ⟨.slice none 0 0, w, ?_, World.ownsRow_nil w base _ _, ⟨rfl, rfl, rfl, Nat.le_refl _, fun _ _ _ => rfl⟩⟩
      have hw : IntKind.i64.wrap (0 : Int) = 0 := by rw [IntKind.wrap_i64]; omega
      simp [Builtin.append_, run_underlying ht, run_underlying htn, sizeOf, typeInfo, hi, asInt, asIntOf, hw]
    · have hr := run_append_nil_zeros (P := Tryz.prog) w 84 3 ty 3 i _ .i64 .i64 ht htn hi hz k (by omega) (by omega) (by omega) (by rw [hby]; omega)
      have hgr := grown 0 (Value.ownBlock (.slice none 0 0))
      simp only [Nat.zero_add, List.nil_append, Array.empty_append] at hgr ⊢
      exact ⟨_, _, hr, hgr.1, hgr.2⟩
  · by_cases hroom : n + k ≤ cap
    · have hw : IntKind.i64.wrap (k : Int) = k := by rw [IntKind.wrap_i64]; omega
      have hneg : ¬ ((k : Int) < 0) := by omega
      have h48 : ¬ (281474976710656 < (k : Int) * 8) := by omega
      have hst := run_storeCells_at Tryz.prog g n 3 (List.replicate k (Value.int .i64 0)) 0 cur w hg (by simp; omega) (fun u hu => by rw [List.eq_of_mem_replicate hu]; rfl)
      simp only [Nat.add_zero] at hst
      have hnz : Value.int .i64 0 = Value.int .i64 0 := rfl
      have hr : (Builtin.append_ #[84, 3] ty #[.slice (some ⟨g, 0, none⟩) n cap, .int .i64 (k : Int)]).run Tryz.prog w = .ok (.slice (some ⟨g, 0, none⟩) (n + k) cap) (w.setRow g (cur.toList.take n ++ List.replicate k (Value.int .i64 0) ++ cur.toList.drop (n + (List.replicate k (Value.int .i64 0)).length)).toArray) := by
        by_cases hk0 : k = 0
        · subst hk0
          simp at hst
          have hw0 : IntKind.i64.wrap (0 : Int) = 0 := by rw [IntKind.wrap_i64]; omega
          simp [Builtin.append_, run_underlying ht, run_underlying htn, sizeOf, typeInfo, zeroValue, hi, hz, hs, hby, asInt, asIntOf, hw0, Addr.add_lit, hst, hnc]
        · simp [Builtin.append_, run_underlying ht, run_underlying htn, sizeOf, typeInfo, zeroValue, hi, hz, hs, hby, hzc, asInt, asIntOf, hw, hneg, h48, hk0, hroom, Addr.add_lit, zeroCells_int, hst]
      refine ⟨_, _, hr, ⟨by rw [hlen, Nat.mul_one], .inr ⟨g, cap, _, rfl, hbg, setRow_heap w g cur _ _ _ hg, hroom, hcm, ?_, ?_⟩⟩, ⟨rfl, rfl, rfl, by simp, fun j _ hj => setRow_other w g j _ (fun e => hj (by simp [Value.ownBlock, e]))⟩⟩
      · simp only [List.size_toArray, List.length_append, List.length_take, List.length_drop, Array.length_toList, List.length_replicate]
        omega
      · rw [Nat.mul_one] at htake
        rw [htake, Nat.mul_one, ← hlen]
        exact List.take_left
    · have holds : ∀ j u, xs[j]? = some u → w.drew.cell? ((⟨g, 0, none⟩ : Addr).add j) = some u := fun j u hj => (hown.cells (g := g) rfl j u hj)
      have hfc := run_firstCells_some (P := Tryz.prog) w.drew i.size n ⟨g, 0, none⟩ n cap xs (by rw [hs]; omega) holds
      have hfit := growslice_fits (need := n + k) (old := cap) (bytes := 8) (by omega) (by omega)
      have hr := run_append_grow_zeros (P := Tryz.prog) w 84 3 ty 3 i _ .i64 .i64 ht htn hi hz (some ⟨g, 0, none⟩) n cap xs hfc k (by omega) (by omega) (by omega) (by omega) (by rw [hby]; omega) (by rw [hby]; exact hfit)
      have hgr := grown cap (Value.ownBlock (.slice (some ⟨g, 0, none⟩) n cap))
      exact ⟨_, _, hr, hgr.1, hgr.2⟩
end Go.Proofs.YtdfgifnccghlmabGreatDoor.R
namespace Go.Proofs.YtdfgifnccghlmabGreatDoor.R
open Go.RowKit Go.Lib
open Go.Proofs.YtdfgifnccghlmabGreatDoor (trimW trimW_snoc trimW_le take_snoc' lt_of_cell cmpD cmpD_app sgnN below_drewN heap_drewN getD_drop0 tail_drop)

/-- Digits as values, the highest first. -/
def iL (l : List Nat) : List Value := l.reverse.map fun (n : Nat) => Value.int .i64 (n : Int)
theorem iL_len (l : List Nat) : (iL l).length = l.length := by simp [iL]
theorem iL_app (a b : List Nat) : iL (a ++ b) = iL b ++ iL a := by simp [iL]
theorem iL_zeros (k : Nat) : iL (List.replicate k 0) = List.replicate k (.int .i64 0) := by simp [iL]
theorem Digs.of_owns {w : World} {B : Nat} {v : Value} {l : List Nat} (h : w.ownsRow B 3 1 v l.length (iL l)) : Digs w v l := by
  rcases h.2 with ⟨rfl, h0⟩ | ⟨g, cap, cur, rfl, _, hgb, hc, _, hsz, htk⟩
  · exact .inl ⟨List.eq_nil_of_length_eq_zero h0, none, 0, rfl⟩
  · refine .inr ⟨g, 0, cap, rfl, hc, fun j hj => ?_⟩
    have hcur : w.cell? ⟨g, 0 + (l.length - 1 - j), none⟩ = cur[l.length - 1 - j]? := by simp [World.cell?, hgb]
    rw [hcur]
    have h1 : (cur.toList.take (l.length * 1))[l.length - 1 - j]? = cur[l.length - 1 - j]? := by rw [List.getElem?_take_of_lt (by omega), Array.getElem?_toList]
    rw [← h1, htk]
    unfold iL
    rw [List.getElem?_map, List.getElem?_reverse (by omega), show l.length - 1 - (l.length - 1 - j) = j by omega, List.getD_eq_getElem?_getD, List.getElem?_eq_getElem hj]
    rfl
theorem owns_belowI {a w w' : World} {B : Nat} {v : Value} {k : Nat} {xs : List Value} (h : Below B a w) (ho : w.ownsRow B 3 1 v k xs) (hg : w.grownBy w' v.ownBlock) (hB : B ≤ w.heap.size) : Below B a w' :=
  h.grown hg hB (fun j hj => (ho.lt j hj).1)
theorem owns_shapeI {w : World} {B k : Nat} {v : Value} {xs : List Value} (h : w.ownsRow B 3 1 v k xs) : ∃ a cap, v = .slice a k cap ∧ k ≤ cap := by
  rcases h.2 with ⟨rfl, h0⟩ | ⟨g, cap, cur, rfl, _, _, hc, _⟩
  · exact ⟨none, 0, by rw [h0], by omega⟩
  · exact ⟨_, cap, rfl, hc⟩
theorem owns_none (w : World) : (w.alloc (.cells #[] 3)).ownsRow w.heap.size 3 1 (.slice (some ⟨w.heap.size, 0, none⟩) 0 0) 0 (iL []) :=
  ⟨rfl, .inr ⟨w.heap.size, 0, #[], rfl, Nat.le_refl _, heap_alloc_new _ _, Nat.le_refl _, Nat.zero_le _, rfl, rfl⟩⟩
theorem owns_one (w : World) (x : Nat) : (w.alloc (.cells #[.int .i64 (x : Int)] 3)).ownsRow w.heap.size 3 1 (.slice (some ⟨w.heap.size, 0, none⟩) 1 1) 1 (iL [x]) :=
  ⟨rfl, .inr ⟨w.heap.size, 1, #[.int .i64 (x : Int)], rfl, Nat.le_refl _, heap_alloc_new _ _, Nat.le_refl _, (by unfold maxLen; omega), rfl, rfl⟩⟩
theorem digs_one (w : World) (x : Nat) : Digs (w.alloc (.cells #[.int .i64 (x : Int)] 3)) (.slice (some ⟨w.heap.size, 0, none⟩) 1 1) [x] := Digs.of_owns (l := [x]) (owns_one w x)
/-- append(s, d...) at a row of one's own. -/
theorem append_digs_own (base : Nat) (v u : Value) (n : Nat) (xs : List Value) (l : List Nat) (hnk : n + l.length ≤ 1000000000) (w : World) (hown : w.ownsRow base 3 1 v n xs) (hu : Digs w u l) (hbase : base ≤ w.heap.size) (ty : TypeId) :
    ∃ v' w', (Builtin.append_ #[84, 84] ty #[v, u]).run Tryz.prog w = .ok v' w' ∧ w'.ownsRow base 3 1 v' (n + l.length) (xs ++ iL l) ∧ w.grownBy w' v.ownBlock := by
  obtain ⟨i, hi, hh⟩ := Option.map_eq_some_iff.1 infoInt
  simp only [Prod.mk.injEq] at hh
  obtain ⟨hz, hs, hby⟩ := hh
  have ht := Tryz.underlying84
  have big : n + l.length ≤ maxLen := by unfold maxLen; omega
  have one : ∀ u ∈ iL l, u.oneCell' = true := fun u h => by
    unfold iL at h
    obtain ⟨x, _, rfl⟩ := List.mem_map.1 h
    rfl
  have go : ∀ (ad : Addr) (m c : Nat), u = .slice (some ad) m c → m = l.length → (∀ j x, (iL l)[j]? = some x → w.cell? (ad.add j) = some x) →
      ∃ v' w', (Builtin.append_ #[84, 84] ty #[v, u]).run Tryz.prog w = .ok v' w' ∧ w'.ownsRow base 3 1 v' (n + l.length) (xs ++ iL l) ∧ w.grownBy w' v.ownBlock := by
    rintro ad m c rfl rfl hcell
    obtain ⟨v', w', h1, h2, h3, _, _⟩ := run_append_own_at (P := Tryz.prog) w base 84 ty 3 i _ 1 8 ht hi hz hs hby rfl (by omega) v n xs hown ad l.length c (iL l) (by rw [iL_len]; omega) hcell one big (by omega) hbase
    exact ⟨v', w', h1, h2, h3⟩
  rcases hu with ⟨rfl, a, cap, rfl⟩ | ⟨b, off, cap, rfl, hc, h⟩
  · cases a with
    | some ad => exact go ad 0 cap rfl rfl (fun j x h => by simp [iL] at h)
    | none =>
      obtain ⟨a2, cap2, rfl, hcc⟩ := owns_shapeI hown
      refine ⟨.slice a2 n cap2, w, ?_, by simpa [iL] using hown, ⟨rfl, rfl, rfl, Nat.le_refl _, fun _ _ _ => rfl⟩⟩
      cases a2 with
      | none => simp [Builtin.append_, run_underlying ht, sizeOf, typeInfo, hi, Builtin.lenOf, Builtin.firstCells, hcc]
      | some a2 => simp [Builtin.append_, run_underlying ht, sizeOf, typeInfo, hi, Builtin.lenOf, Builtin.firstCells, hcc, storeCells]
  · refine go ⟨b, off, none⟩ l.length cap rfl rfl (fun j x hx => ?_)
    have hj : j < l.length := by
      have := (List.getElem?_eq_some_iff.1 hx).1
      rwa [iL_len] at this
    have k := h (l.length - 1 - j) (by omega)
    rw [show off + (l.length - 1 - (l.length - 1 - j)) = off + j by omega] at k
    have hadd : (⟨b, off, none⟩ : Addr).add j = ⟨b, off + j, none⟩ := by unfold Addr.add; split <;> simp_all
    rw [hadd, k, ← hx]
    unfold iL
    rw [List.getElem?_map, List.getElem?_reverse (by omega), List.getD_eq_getElem?_getD, List.getElem?_eq_getElem (by omega)]
    rfl
set_option maxHeartbeats 1000000 in
set_option maxRecDepth 100000 in
theorem zeros_any (v : Value) (l : List Nat) (n : Nat) (hl : l.length ≤ 1000000) (hn : n ≤ 1000000) (w : World) (hu : Digs w v l) :
    Calls Tryz.prog 69 #[v, .int .i64 (n : Int)] w fun e w' => ∃ x, e = .returned x ∧ Digs w' x (List.replicate n 0 ++ l) ∧ Below w.heap.size w w' := by
  obtain ⟨p1, c1, rfl⟩ := hu.shape
  have hb1 : Below w.heap.size w (w.alloc (.cells #[] 3)) := (Below.refl _ _).alloc (Nat.le_refl _) _
  obtain ⟨v1, w1, hr1, ho1, hg1⟩ := append_digs_own w.heap.size _ (.slice p1 l.length c1) 0 (iL []) l (by omega) (w.alloc (.cells #[] 3)) (owns_none w) (hu.later hb1) (by simp) 84
  have hb2 := owns_belowI hb1 (owns_none w) hg1 (by simp)
  obtain ⟨v2, w2, hr2, ho2, hg2⟩ := append_zeros_own w.heap.size v1 (0 + l.length) (iL [] ++ iL l) n (by omega) w1 ho1 (Nat.le_trans (by simp) hg1.size) 84
  have hb3 := owns_belowI hb2 ho1 hg2 (Nat.le_trans (by simp) hg1.size)
  have hD : Digs w2 v2 (List.replicate n 0 ++ l) := by
    refine Digs.of_owns (B := w.heap.size) ?_
    rw [iL_app, iL_zeros, List.length_append, List.length_replicate, Nat.add_comm]
    simpa [iL] using ho2
  have H1 := Lib.hid hr1
  have H2 := Lib.hid hr2
  have HD := Lib.hid hD
  clear hu hr1 hr2 ho1 ho2 hg1 hg2 hb1 hb2 hD
  go_enter Tryz.func69, Tryz.ntmps69
  go_wp2_with (first | (at_builtin; refine Lib.wpList_append_run _ rfl (.tmp 5) (.tmp 6) 84 84 rfl _ _ rfl rfl _ _ H1.out ?_) | (at_builtin; refine Lib.wpList_append_run _ rfl (.tmp 7) (.tmp 8) 84 3 rfl _ _ rfl rfl _ _ H2.out ?_))
  go_ret
  exact ⟨_, rfl, HD.out, hb3⟩
end Go.Proofs.YtdfgifnccghlmabGreatDoor.R

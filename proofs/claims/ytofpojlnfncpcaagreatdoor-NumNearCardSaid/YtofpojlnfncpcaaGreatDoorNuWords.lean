/- Plain facts: whole numbers as words of nine digits, the lowest first: trimmed, added, subtracted, multiplied, divided. No program in this text. -/
import Derived.Lib.RuneBytes
namespace Go.Proofs.YtofpojlnfncpcaaGreatDoor

def val : List Nat → Nat
  | [] => 0
  | w :: t => w + 1000000000 * val t
def Small (l : List Nat) : Prop := ∀ w ∈ l, w < 1000000000
theorem Small.nil : Small [] := fun _ h => by cases h
theorem Small.head {w : Nat} {t : List Nat} (h : Small (w :: t)) : w < 1000000000 := h w (by simp)
theorem Small.tail {w : Nat} {t : List Nat} (h : Small (w :: t)) : Small t := fun x hx => h x (by simp [hx])
theorem Small.cons {w : Nat} {t : List Nat} (h : w < 1000000000) (k : Small t) : Small (w :: t) := fun x hx => by
  rcases List.mem_cons.1 hx with rfl | hx
  · exact h
  · exact k x hx
theorem Small.app {a b : List Nat} (h : Small a) (k : Small b) : Small (a ++ b) := fun x hx => (List.mem_append.1 hx).elim (h x) (k x)
theorem Small.left {a b : List Nat} (h : Small (a ++ b)) : Small a := fun x hx => h x (by simp [hx])
theorem Small.right {a b : List Nat} (h : Small (a ++ b)) : Small b := fun x hx => h x (by simp [hx])
theorem Small.drop {a : List Nat} (h : Small a) (i : Nat) : Small (a.drop i) := fun x hx => h x (List.mem_of_mem_drop hx)
theorem Small.take {a : List Nat} (h : Small a) (i : Nat) : Small (a.take i) := fun x hx => h x (List.mem_of_mem_take hx)
theorem Small.getD {a : List Nat} (h : Small a) (i : Nat) : a.getD i 0 < 1000000000 := by
  rw [List.getD_eq_getElem?_getD]
  cases e : a[i]? with
  | none => simp
  | some x => exact h x (List.mem_of_getElem? e)
theorem val_app : ∀ a b : List Nat, val (a ++ b) = val a + 1000000000 ^ a.length * val b
  | [], b => by simp [val]
  | w :: t, b => by
    rw [List.cons_append, val, val, val_app t b, List.length_cons, Nat.pow_succ, Nat.mul_add, ← Nat.mul_assoc, Nat.mul_comm (1000000000 ^ t.length) 1000000000]
    omega
theorem val_zeros : ∀ n : Nat, val (List.replicate n 0) = 0
  | 0 => rfl
  | n + 1 => by rw [List.replicate_succ, val, val_zeros n]
theorem Small.zeros (n : Nat) : Small (List.replicate n 0) := fun x hx => by rw [List.eq_of_mem_replicate hx]; omega
theorem val_lt : ∀ l : List Nat, Small l → val l < 1000000000 ^ l.length
  | [], _ => by simp [val]
  | w :: t, h => by
    have h1 := h.head
    have h2 := val_lt t h.tail
    rw [val, List.length_cons, Nat.pow_succ]
    omega
/-- The words of a number, without a word 0 at the end. -/
def wordsN : Nat → Nat → List Nat
  | 0, _ => []
  | f + 1, n => if n = 0 then [] else n % 1000000000 :: wordsN f (n / 1000000000)
def wordsOf (n : Nat) : List Nat := wordsN n n
theorem wordsN_fuel : ∀ (f g n : Nat), n ≤ f → n ≤ g → wordsN f n = wordsN g n
  | 0, 0, n, _, _ => rfl
  | 0, g + 1, n, h, _ => by obtain rfl : n = 0 := by omega
                            simp [wordsN]
  | f + 1, 0, n, _, h => by obtain rfl : n = 0 := by omega
                            simp [wordsN]
  | f + 1, g + 1, n, h, k => by
    unfold wordsN
    split
    · rfl
    · rw [wordsN_fuel f g (n / 1000000000) (by omega) (by omega)]
theorem wordsOf_zero : wordsOf 0 = [] := rfl
theorem wordsOf_pos (n : Nat) (h : n ≠ 0) : wordsOf n = n % 1000000000 :: wordsOf (n / 1000000000) := by
  unfold wordsOf
  obtain ⟨m, rfl⟩ : ∃ m, n = m + 1 := ⟨n - 1, by omega⟩
  rw [wordsN, if_neg h, wordsN_fuel m ((m + 1) / 1000000000) ((m + 1) / 1000000000) (by omega) (by omega)]
theorem val_wordsOf (n : Nat) : val (wordsOf n) = n := by
  induction n using Nat.strongRecOn with
  | ind n ih =>
    by_cases h : n = 0
    · subst h; rfl
    · rw [wordsOf_pos n h, val, ih (n / 1000000000) (by omega)]
      omega
theorem small_wordsOf (n : Nat) : Small (wordsOf n) := by
  induction n using Nat.strongRecOn with
  | ind n ih =>
    by_cases h : n = 0
    · subst h; exact Small.nil
    · rw [wordsOf_pos n h]
      exact Small.cons (by omega) (ih (n / 1000000000) (by omega))
theorem wordsOf_nil (n : Nat) : wordsOf n = [] ↔ n = 0 := by
  constructor
  · intro h
    have := val_wordsOf n
    rw [h] at this
    exact this.symm
  · rintro rfl; rfl
/-- A list is the words of its value if its last word is no 0. -/
theorem wordsOf_val : ∀ l : List Nat, Small l → (∀ w, l.getLast? = some w → w ≠ 0) → wordsOf (val l) = l
  | [], _, _ => rfl
  | w :: t, h, k => by
    have hw := h.head
    have hv : val (w :: t) ≠ 0 := by
      intro h0
      rw [val] at h0
      have h1 : w = 0 := by omega
      have h2 : val t = 0 := by omega
      cases t with
      | nil => exact k w (by simp) h1
      | cons x t =>
        have ht := wordsOf_val (x :: t) h.tail (fun y hy => k y (by rw [List.getLast?_cons_cons]; exact hy))
        rw [h2] at ht
        cases ht
    rw [wordsOf_pos _ hv, val]
    have e1 : (w + 1000000000 * val t) % 1000000000 = w := by omega
    have e2 : (w + 1000000000 * val t) / 1000000000 = val t := by omega
    rw [e1, e2]
    cases t with
    | nil => rfl
    | cons x t => rw [wordsOf_val (x :: t) h.tail (fun y hy => k y (by rw [List.getLast?_cons_cons]; exact hy))]
theorem wordsOf_last (n : Nat) : ∀ w, (wordsOf n).getLast? = some w → w ≠ 0 := by
  induction n using Nat.strongRecOn with
  | ind n ih =>
    by_cases h : n = 0
    · subst h; intro w hw; cases hw
    · rw [wordsOf_pos n h]
      intro w hw
      by_cases h2 : n / 1000000000 = 0
      · rw [h2, wordsOf_zero] at hw
        simp at hw
        omega
      · have ih2 := ih (n / 1000000000) (by omega) w
        rw [wordsOf_pos _ h2] at hw ih2
        rw [List.getLast?_cons_cons] at hw
        exact ih2 hw
/-- A list with further words 0 has the words of its value when these are taken away. -/
theorem wordsOf_snoc (l : List Nat) : wordsOf (val (l ++ [0])) = wordsOf (val l) := by rw [val_app]; simp [val]
theorem words_len (n k : Nat) (h : n < 1000000000 ^ k) : (wordsOf n).length ≤ k := by
  induction k generalizing n with
  | zero => obtain rfl : n = 0 := by simpa using h
            simp [wordsOf_zero]
  | succ k ih =>
    by_cases h0 : n = 0
    · subst h0; simp [wordsOf_zero]
    · rw [wordsOf_pos n h0, List.length_cons]
      have := ih (n / 1000000000) (by rw [Nat.pow_succ] at h; omega)
      omega
theorem words_lt (n : Nat) : n < 1000000000 ^ (wordsOf n).length := by
  have := val_lt _ (small_wordsOf n)
  rwa [val_wordsOf] at this
/-- How two numbers are compared by their words. -/
theorem len_lt (a b : Nat) (h : (wordsOf a).length < (wordsOf b).length) : a < b := by
  refine Nat.lt_of_not_le fun hle => ?_
  have h1 := words_len b (wordsOf a).length (Nat.lt_of_le_of_lt hle (words_lt a))
  omega
/-- From the highest word on. -/
def cmpD : List Nat → List Nat → Int
  | [], _ => 0
  | _, [] => 0
  | a :: s, b :: t => if a < b then -1 else if b < a then 1 else cmpD s t
def sgnN (a b : Nat) : Int := if a < b then -1 else if b < a then 1 else 0
theorem cmpD_app (a b : Nat) : ∀ s t : List Nat, s.length = t.length → cmpD (s ++ [a]) (t ++ [b]) = if cmpD s t = 0 then (if a < b then -1 else if b < a then 1 else 0) else cmpD s t
  | [], [], _ => by simp [cmpD]
  | [], _ :: _, h => by simp at h
  | _ :: _, [], h => by simp at h
  | x :: s, y :: t, h => by
    rw [List.cons_append, List.cons_append]
    unfold cmpD
    rw [cmpD_app a b s t (by simpa using h)]
    by_cases h1 : x < y
    · simp [h1]
    · by_cases h2 : y < x
      · simp [h1, h2]
      · simp [h1, h2]
theorem cmpD_val : ∀ s t : List Nat, Small s → Small t → s.length = t.length → cmpD s.reverse t.reverse = sgnN (val s) (val t)
  | [], [], _, _, _ => by simp [cmpD, sgnN, val]
  | [], _ :: _, _, _, h => by simp at h
  | _ :: _, [], _, _, h => by simp at h
  | a :: s, b :: t, hs, ht, h => by
    have ha := hs.head
    have hb := ht.head
    rw [List.reverse_cons, List.reverse_cons, cmpD_app a b s.reverse t.reverse (by simpa using h), cmpD_val s t hs.tail ht.tail (by simpa using h)]
    unfold sgnN
    rw [val, val]
    repeat' split
    all_goals first | rfl | omega | (exfalso; omega)

/-! ### sums and differences -/
def addW : Nat → List Nat → List Nat → Nat → List Nat
  | 0, _, _, _ => []
  | n + 1, a, b, c => (a.headD 0 + b.headD 0 + c) % 1000000000 :: addW n a.tail b.tail ((a.headD 0 + b.headD 0 + c) / 1000000000)
theorem val_ht (a : List Nat) : val a = a.headD 0 + 1000000000 * val a.tail := by cases a <;> rfl
theorem addW_val : ∀ (n : Nat) (a b : List Nat) (c : Nat), val (addW n a b c) = (val a + val b + c) % 1000000000 ^ n
  | 0, a, b, c => by simp [addW, val, Nat.mod_one]
  | n + 1, a, b, c => by
    rw [addW, val, addW_val n, Nat.pow_succ, Nat.mul_comm (1000000000 ^ n), Nat.mod_mul, val_ht a, val_ht b]
    congr 1
    · omega
    · congr 2
      omega
theorem addW_small : ∀ (n : Nat) (a b : List Nat) (c : Nat), Small (addW n a b c)
  | 0, _, _, _ => Small.nil
  | n + 1, a, b, c => Small.cons (by omega) (addW_small n _ _ _)
theorem addW_len : ∀ (n : Nat) (a b : List Nat) (c : Nat), (addW n a b c).length = n
  | 0, _, _, _ => rfl
  | n + 1, a, b, c => by rw [addW, List.length_cons, addW_len n]
theorem addW_sum (a b : List Nat) (ha : Small a) (hb : Small b) : val (addW (max a.length b.length + 1) a b 0) = val a + val b := by
  rw [addW_val, Nat.add_zero, Nat.mod_eq_of_lt]
  have h1 := val_lt a ha
  have h2 := val_lt b hb
  have h3 : 1000000000 ^ a.length ≤ 1000000000 ^ (max a.length b.length) := Nat.pow_le_pow_right (by omega) (by omega)
  have h4 : 1000000000 ^ b.length ≤ 1000000000 ^ (max a.length b.length) := Nat.pow_le_pow_right (by omega) (by omega)
  rw [Nat.pow_succ]
  omega
def subW : Nat → List Nat → List Nat → Nat → List Nat
  | 0, _, _, _ => []
  | n + 1, a, b, c => (1000000000 + a.headD 0 - b.headD 0 - c) % 1000000000 :: subW n a.tail b.tail (1 - (1000000000 + a.headD 0 - b.headD 0 - c) / 1000000000)
theorem subW_small : ∀ (n : Nat) (a b : List Nat) (c : Nat), Small (subW n a b c)
  | 0, _, _, _ => Small.nil
  | n + 1, a, b, c => Small.cons (by omega) (subW_small n _ _ _)
theorem subW_len : ∀ (n : Nat) (a b : List Nat) (c : Nat), (subW n a b c).length = n
  | 0, _, _, _ => rfl
  | n + 1, a, b, c => by rw [subW, List.length_cons, subW_len n]
theorem Small.headD {a : List Nat} (h : Small a) : a.headD 0 < 1000000000 := by cases a with
  | nil => simp
  | cons x t => exact h.head
theorem Small.tail' {a : List Nat} (h : Small a) : Small a.tail := by cases a with
  | nil => exact h
  | cons x t => exact h.tail
theorem subW_val : ∀ (n : Nat) (a b : List Nat) (c : Nat), Small a → Small b → c ≤ 1 → val b + c ≤ val a → val a < 1000000000 ^ n → val (subW n a b c) + val b + c = val a
  | 0, a, b, c, _, _, _, h, k => by
    have : val a = 0 := by simpa using k
    simp [subW, val]; omega
  | n + 1, a, b, c, ha, hb, hc, h, k => by
    have h1 := ha.headD
    have h2 := hb.headD
    rw [val_ht a] at h k ⊢
    rw [val_ht b] at h ⊢
    rw [subW, val]
    rw [Nat.pow_succ] at k
    have ih := subW_val n a.tail b.tail (1 - (1000000000 + a.headD 0 - b.headD 0 - c) / 1000000000) ha.tail' hb.tail' (by omega) (by omega) (by omega)
    omega

/-! ### products -/
/-- A word times b is added to p, with what is carried. -/
def mulRow (x : Nat) : List Nat → List Nat → Nat → List Nat
  | [], p, c => c :: p.tail
  | y :: b, p, c => (x * y + p.headD 0 + c) % 1000000000 :: mulRow x b p.tail ((x * y + p.headD 0 + c) / 1000000000)
theorem mulRow_val (x : Nat) : ∀ (b p : List Nat) (c : Nat), p.getD b.length 0 = 0 → val (mulRow x b p c) = val p + x * val b + c
  | [], p, c, h => by
    rw [mulRow, val, val_ht p, val]
    have : p.headD 0 = 0 := by cases p with
      | nil => rfl
      | cons z p => simpa using h
    omega
  | y :: b, p, c, h => by
    have ht : p.tail.getD b.length 0 = 0 := by cases p with
      | nil => simp
      | cons z p => simpa using h
    have e : x * (y + 1000000000 * val b) = x * y + 1000000000 * (x * val b) := by rw [Nat.mul_add, Nat.mul_left_comm]
    rw [mulRow, val, mulRow_val x b p.tail _ ht, val_ht p, val, e]
    omega
theorem mulRow_small (x : Nat) (hx : x < 1000000000) : ∀ (b p : List Nat) (c : Nat), Small b → Small p → c < 1000000000 → Small (mulRow x b p c)
  | [], p, c, _, hp, hc => Small.cons hc hp.tail'
  | y :: b, p, c, hb, hp, hc => by
    have h1 := hb.head
    have h2 := hp.headD
    refine Small.cons (by omega) (mulRow_small x hx b p.tail _ hb.tail hp.tail' ?_)
    have h3 : x * y ≤ 999999999 * 999999999 := Nat.mul_le_mul (by omega) (by omega)
    omega
theorem mulRow_len (x : Nat) : ∀ (b p : List Nat) (c : Nat), b.length < p.length → (mulRow x b p c).length = p.length
  | [], p, c, h => by cases p with
    | nil => simp at h
    | cons z p => simp [mulRow]
  | y :: b, p, c, h => by cases p with
    | nil => simp at h
    | cons z p => rw [mulRow, List.length_cons, List.tail_cons, mulRow_len x b p _ (by simpa using h), List.length_cons]
theorem mulRow_behind (x : Nat) : ∀ (b p : List Nat) (c j : Nat), b.length < j → (mulRow x b p c).getD j 0 = p.getD j 0
  | [], p, c, j, h => by
    obtain ⟨j, rfl⟩ : ∃ k, j = k + 1 := ⟨j - 1, by simp at h; omega⟩
    cases p with
    | nil => simp [mulRow]
    | cons z p => simp [mulRow]
  | y :: b, p, c, j, h => by
    obtain ⟨j, rfl⟩ : ∃ k, j = k + 1 := ⟨j - 1, by simp at h; omega⟩
    rw [mulRow, List.getD_cons_succ, mulRow_behind x b p.tail _ j (by simpa using h)]
    cases p with
    | nil => simp
    | cons z p => simp

/-! ### quotients -/
/-- The two highest words tell the quotient, or one more. -/
theorem guess_near (X D T b r f g : Nat) (hX : 0 < X) (hb : b = D * X + f) (hf : f < X) (hr : r = T * X + g) (hg : g < X) (hD : 1000000000 ≤ D) (hq : r < 1000000000 * b) :
    r / b ≤ T / D ∧ T / D ≤ r / b + 1 := by
  have hDX : 0 < D * X := Nat.mul_pos (by omega) hX
  have hbp : 0 < b := by omega
  have hD0 : 0 < D := by omega
  constructor
  · rw [Nat.le_div_iff_mul_le hD0]
    have h1 : r / b * b ≤ r := Nat.div_mul_le_self r b
    have h2 : r / b * (D * X) ≤ r / b * b := Nat.mul_le_mul_left _ (by omega)
    have h3 : r / b * D * X < (T + 1) * X := by
      rw [Nat.mul_assoc, Nat.add_mul, Nat.one_mul]; omega
    have := Nat.lt_of_mul_lt_mul_right h3
    omega
  · refine Nat.le_of_not_lt fun hlt => ?_
    have hqB : r / b < 1000000000 := by rw [Nat.div_lt_iff_lt_mul hbp]; exact hq
    have h1 : (r / b + 2) * D ≤ T := by rw [← Nat.le_div_iff_mul_le hD0]; omega
    have h2 : r < (r / b + 1) * b := by
      have := Nat.lt_div_mul_add (a := r) hbp
      rw [Nat.add_mul, Nat.one_mul]; omega
    have h3 : b ≤ (D + 1) * X := by rw [Nat.add_mul, Nat.one_mul]; omega
    have h4 : (r / b + 1) * b ≤ (r / b + 1) * ((D + 1) * X) := Nat.mul_le_mul_left _ h3
    have h5 : (r / b + 2) * D * X ≤ T * X := Nat.mul_le_mul_right _ h1
    have h6 : (r / b + 2) * D * X < (r / b + 1) * (D + 1) * X := by
      rw [Nat.mul_assoc (r / b + 1)]; omega
    have h7 := Nat.lt_of_mul_lt_mul_right h6
    generalize r / b = q at *
    have e1 : (q + 2) * D = q * D + 2 * D := Nat.add_mul _ _ _
    have e2 : (q + 1) * (D + 1) = q * D + q + D + 1 := by rw [Nat.add_mul, Nat.mul_add, Nat.mul_one, Nat.one_mul]; omega
    omega
/-- One word of a quotient. -/
theorem div_step (b r w A : Nat) (hb : 0 < b) (hr : r = A % b) (hw : w < 1000000000) :
    (w + 1000000000 * A) / b = (w + 1000000000 * r) / b + 1000000000 * (A / b) ∧ (w + 1000000000 * A) % b = (w + 1000000000 * r) % b ∧ w + 1000000000 * r < 1000000000 * b := by
  have h1 := Nat.div_add_mod A b
  rw [← hr] at h1
  have hlt : r < b := by rw [hr]; exact Nat.mod_lt _ hb
  have e : w + 1000000000 * A = (w + 1000000000 * r) + b * (1000000000 * (A / b)) := by
    rw [show b * (1000000000 * (A / b)) = 1000000000 * (b * (A / b)) by rw [← Nat.mul_assoc, Nat.mul_comm b, Nat.mul_assoc]]
    omega
  refine ⟨?_, ?_, by omega⟩
  · rw [e, Nat.add_mul_div_left _ _ hb]
  · rw [e, Nat.add_mul_mod_self_left]
end Go.Proofs.YtofpojlnfncpcaaGreatDoor

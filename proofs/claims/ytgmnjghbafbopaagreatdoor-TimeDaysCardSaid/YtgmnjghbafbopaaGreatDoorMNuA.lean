/- Plain facts: whole numbers as words of nine digits, the lowest first: trimmed, added, subtracted, multiplied, divided. No program in this text. Plain facts: decimal digits of numbers, without and with zeros; canonical texts of multiples of 10^-20. No program in this text. Plain facts: how numbers are written and read; a canonical text and its number are each other's. No program in this text. Plain facts: what the program gives back for numbers: texts and errors; numbers as integers of units. No program in this text. Plain facts: quotients and remainders make the dividend. No program in this text. Plain facts: rounded numbers are near, on the right side, and stay when they are rounded again. No program in this text. -/
import Derived.Lib.RuneBytes
namespace Go.Proofs.YtgmnjghbafbopaaGreatDoor

def val : List Nat → Nat
  | [] => 0
  | w :: t => w + 1000000000 * val t
def Small (l : List Nat) : Prop := ∀ w ∈ l, w < 1000000000
theorem Small.nil : Small [] := fun _ h => by cases h
theorem Small.head {w : Nat} {t : List Nat} (h : Small (w :: t)) : w < 1000000000 := h w (by simp)
theorem Small.tail {w : Nat} {t : List Nat} (h : Small (w :: t)) : Small t := fun x hx => h x (by simp [hx])
theorem Small.cons {w : Nat} {t : List Nat} (h : w < 1000000000) (k : Small t) : Small (w :: t) := fun x hx => by
  rcases List.mem_cons.1 hx with rfl | hx
  · exact h
  · exact k x hx
theorem Small.app {a b : List Nat} (h : Small a) (k : Small b) : Small (a ++ b) := fun x hx => (List.mem_append.1 hx).elim (h x) (k x)
theorem Small.left {a b : List Nat} (h : Small (a ++ b)) : Small a := fun x hx => h x (by simp [hx])
theorem Small.right {a b : List Nat} (h : Small (a ++ b)) : Small b := fun x hx => h x (by simp [hx])
theorem Small.drop {a : List Nat} (h : Small a) (i : Nat) : Small (a.drop i) := fun x hx => h x (List.mem_of_mem_drop hx)
theorem Small.take {a : List Nat} (h : Small a) (i : Nat) : Small (a.take i) := fun x hx => h x (List.mem_of_mem_take hx)
theorem Small.getD {a : List Nat} (h : Small a) (i : Nat) : a.getD i 0 < 1000000000 := by
  rw [List.getD_eq_getElem?_getD]
  cases e : a[i]? with
  | none => simp
  | some x => exact h x (List.mem_of_getElem? e)
theorem val_app : ∀ a b : List Nat, val (a ++ b) = val a + 1000000000 ^ a.length * val b
  | [], b => by simp [val]
  | w :: t, b => by
    rw [List.cons_append, val, val, val_app t b, List.length_cons, Nat.pow_succ, Nat.mul_add, ← Nat.mul_assoc, Nat.mul_comm (1000000000 ^ t.length) 1000000000]
    omega
theorem val_zeros : ∀ n : Nat, val (List.replicate n 0) = 0
  | 0 => rfl
  | n + 1 => by rw [List.replicate_succ, val, val_zeros n]
theorem Small.zeros (n : Nat) : Small (List.replicate n 0) := fun x hx => by rw [List.eq_of_mem_replicate hx]; omega
theorem val_lt : ∀ l : List Nat, Small l → val l < 1000000000 ^ l.length
  | [], _ => by simp [val]
  | w :: t, h => by
    have h1 := h.head
    have h2 := val_lt t h.tail
    rw [val, List.length_cons, Nat.pow_succ]
    omega
/-- The words of a number, without a word 0 at the end. -/
def wordsN : Nat → Nat → List Nat
  | 0, _ => []
  | f + 1, n => if n = 0 then [] else n % 1000000000 :: wordsN f (n / 1000000000)
def wordsOf (n : Nat) : List Nat := wordsN n n
theorem wordsN_fuel : ∀ (f g n : Nat), n ≤ f → n ≤ g → wordsN f n = wordsN g n
  | 0, 0, n, _, _ => rfl
  | 0, g + 1, n, h, _ => by obtain rfl : n = 0 := by omega
                            simp [wordsN]
  | f + 1, 0, n, _, h => by obtain rfl : n = 0 := by omega
                            simp [wordsN]
  | f + 1, g + 1, n, h, k => by
    unfold wordsN
    split
    · rfl
    · rw [wordsN_fuel f g (n / 1000000000) (by omega) (by omega)]
theorem wordsOf_zero : wordsOf 0 = [] := rfl
theorem wordsOf_pos (n : Nat) (h : n ≠ 0) : wordsOf n = n % 1000000000 :: wordsOf (n / 1000000000) := by
  unfold wordsOf
  obtain ⟨m, rfl⟩ : ∃ m, n = m + 1 := ⟨n - 1, by omega⟩
  rw [wordsN, if_neg h, wordsN_fuel m ((m + 1) / 1000000000) ((m + 1) / 1000000000) (by omega) (by omega)]
theorem val_wordsOf (n : Nat) : val (wordsOf n) = n := by
  induction n using Nat.strongRecOn with
  | ind n ih =>
    by_cases h : n = 0
    · subst h; rfl
    · rw [wordsOf_pos n h, val, ih (n / 1000000000) (by omega)]
      omega
theorem small_wordsOf (n : Nat) : Small (wordsOf n) := by
  induction n using Nat.strongRecOn with
  | ind n ih =>
    by_cases h : n = 0
    · subst h; exact Small.nil
    · rw [wordsOf_pos n h]
      exact Small.cons (by omega) (ih (n / 1000000000) (by omega))
theorem wordsOf_nil (n : Nat) : wordsOf n = [] ↔ n = 0 := by
  constructor
  · intro h
    have := val_wordsOf n
    rw [h] at this
    exact this.symm
  · rintro rfl; rfl
/-- A list is the words of its value if its last word is no 0. -/
theorem wordsOf_val : ∀ l : List Nat, Small l → (∀ w, l.getLast? = some w → w ≠ 0) → wordsOf (val l) = l
  | [], _, _ => rfl
  | w :: t, h, k => by
    have hw := h.head
    have hv : val (w :: t) ≠ 0 := by
      intro h0
      rw [val] at h0
      have h1 : w = 0 := by omega
      have h2 : val t = 0 := by omega
      cases t with
      | nil => exact k w (by simp) h1
      | cons x t =>
        have ht := wordsOf_val (x :: t) h.tail (fun y hy => k y (by rw [List.getLast?_cons_cons]; exact hy))
        rw [h2] at ht
        cases ht
    rw [wordsOf_pos _ hv, val]
    have e1 : (w + 1000000000 * val t) % 1000000000 = w := by omega
    have e2 : (w + 1000000000 * val t) / 1000000000 = val t := by omega
    rw [e1, e2]
    cases t with
    | nil => rfl
    | cons x t => rw [wordsOf_val (x :: t) h.tail (fun y hy => k y (by rw [List.getLast?_cons_cons]; exact hy))]
theorem wordsOf_last (n : Nat) : ∀ w, (wordsOf n).getLast? = some w → w ≠ 0 := by
  induction n using Nat.strongRecOn with
  | ind n ih =>
    by_cases h : n = 0
    · subst h; intro w hw; cases hw
    · rw [wordsOf_pos n h]
      intro w hw
      by_cases h2 : n / 1000000000 = 0
      · rw [h2, wordsOf_zero] at hw
        simp at hw
        omega
      · have ih2 := ih (n / 1000000000) (by omega) w
        rw [wordsOf_pos _ h2] at hw ih2
        rw [List.getLast?_cons_cons] at hw
        exact ih2 hw
/-- A list with further words 0 has the words of its value when these are taken away. -/
theorem wordsOf_snoc (l : List Nat) : wordsOf (val (l ++ [0])) = wordsOf (val l) := by rw [val_app]; simp [val]
theorem words_len (n k : Nat) (h : n < 1000000000 ^ k) : (wordsOf n).length ≤ k := by
  induction k generalizing n with
  | zero => obtain rfl : n = 0 := by simpa using h
            simp [wordsOf_zero]
  | succ k ih =>
    by_cases h0 : n = 0
    · subst h0; simp [wordsOf_zero]
    · rw [wordsOf_pos n h0, List.length_cons]
      have := ih (n / 1000000000) (by rw [Nat.pow_succ] at h; omega)
      omega
theorem words_lt (n : Nat) : n < 1000000000 ^ (wordsOf n).length := by
  have := val_lt _ (small_wordsOf n)
  rwa [val_wordsOf] at this
/-- How two numbers are compared by their words. -/
theorem len_lt (a b : Nat) (h : (wordsOf a).length < (wordsOf b).length) : a < b := by
  refine Nat.lt_of_not_le fun hle => ?_
  have h1 := words_len b (wordsOf a).length (Nat.lt_of_le_of_lt hle (words_lt a))
  omega
/-- From the highest word on. -/
def cmpD : List Nat → List Nat → Int
  | [], _ => 0
  | _, [] => 0
  | a :: s, b :: t => if a < b then -1 else if b < a then 1 else cmpD s t
def sgnN (a b : Nat) : Int := if a < b then -1 else if b < a then 1 else 0
theorem cmpD_app (a b : Nat) : ∀ s t : List Nat, s.length = t.length → cmpD (s ++ [a]) (t ++ [b]) = if cmpD s t = 0 then (if a < b then -1 else if b < a then 1 else 0) else cmpD s t
  | [], [], _ => by simp [cmpD]
  | [], _ :: _, h => by simp at h
  | _ :: _, [], h => by simp at h
  | x :: s, y :: t, h => by
    rw [List.cons_append, List.cons_append]
    unfold cmpD
    rw [cmpD_app a b s t (by simpa using h)]
    by_cases h1 : x < y
    · simp [h1]
    · by_cases h2 : y < x
      · simp [h1, h2]
      · simp [h1, h2]
theorem cmpD_val : ∀ s t : List Nat, Small s → Small t → s.length = t.length → cmpD s.reverse t.reverse = sgnN (val s) (val t)
  | [], [], _, _, _ => by simp [cmpD, sgnN, val]
  | [], _ :: _, _, _, h => by simp at h
  | _ :: _, [], _, _, h => by simp at h
  | a :: s, b :: t, hs, ht, h => by
    have ha := hs.head
    have hb := ht.head
    rw [List.reverse_cons, List.reverse_cons, cmpD_app a b s.reverse t.reverse (by simpa using h), cmpD_val s t hs.tail ht.tail (by simpa using h)]
    unfold sgnN
    rw [val, val]
    repeat' split
    all_goals first | rfl | omega | (exfalso; omega)

/-! ### sums and differences -/
def addW : Nat → List Nat → List Nat → Nat → List Nat
  | 0, _, _, _ => []
  | n + 1, a, b, c => (a.headD 0 + b.headD 0 + c) % 1000000000 :: addW n a.tail b.tail ((a.headD 0 + b.headD 0 + c) / 1000000000)
theorem val_ht (a : List Nat) : val a = a.headD 0 + 1000000000 * val a.tail := by cases a <;> rfl
theorem addW_val : ∀ (n : Nat) (a b : List Nat) (c : Nat), val (addW n a b c) = (val a + val b + c) % 1000000000 ^ n
  | 0, a, b, c => by simp [addW, val, Nat.mod_one]
  | n + 1, a, b, c => by
    rw [addW, val, addW_val n, Nat.pow_succ, Nat.mul_comm (1000000000 ^ n), Nat.mod_mul, val_ht a, val_ht b]
    congr 1
    · omega
    · congr 2
      omega
theorem addW_small : ∀ (n : Nat) (a b : List Nat) (c : Nat), Small (addW n a b c)
  | 0, _, _, _ => Small.nil
  | n + 1, a, b, c => Small.cons (by omega) (addW_small n _ _ _)
theorem addW_len : ∀ (n : Nat) (a b : List Nat) (c : Nat), (addW n a b c).length = n
  | 0, _, _, _ => rfl
  | n + 1, a, b, c => by rw [addW, List.length_cons, addW_len n]
theorem addW_sum (a b : List Nat) (ha : Small a) (hb : Small b) : val (addW (max a.length b.length + 1) a b 0) = val a + val b := by
  rw [addW_val, Nat.add_zero, Nat.mod_eq_of_lt]
  have h1 := val_lt a ha
  have h2 := val_lt b hb
  have h3 : 1000000000 ^ a.length ≤ 1000000000 ^ (max a.length b.length) := Nat.pow_le_pow_right (by omega) (by omega)
  have h4 : 1000000000 ^ b.length ≤ 1000000000 ^ (max a.length b.length) := Nat.pow_le_pow_right (by omega) (by omega)
  rw [Nat.pow_succ]
  omega
def subW : Nat → List Nat → List Nat → Nat → List Nat
  | 0, _, _, _ => []
  | n + 1, a, b, c => (1000000000 + a.headD 0 - b.headD 0 - c) % 1000000000 :: subW n a.tail b.tail (1 - (1000000000 + a.headD 0 - b.headD 0 - c) / 1000000000)
theorem subW_small : ∀ (n : Nat) (a b : List Nat) (c : Nat), Small (subW n a b c)
  | 0, _, _, _ => Small.nil
  | n + 1, a, b, c => Small.cons (by omega) (subW_small n _ _ _)
theorem subW_len : ∀ (n : Nat) (a b : List Nat) (c : Nat), (subW n a b c).length = n
  | 0, _, _, _ => rfl
  | n + 1, a, b, c => by rw [subW, List.length_cons, subW_len n]
theorem Small.headD {a : List Nat} (h : Small a) : a.headD 0 < 1000000000 := by cases a with
  | nil => simp
  | cons x t => exact h.head
theorem Small.tail' {a : List Nat} (h : Small a) : Small a.tail := by cases a with
  | nil => exact h
  | cons x t => exact h.tail
theorem subW_val : ∀ (n : Nat) (a b : List Nat) (c : Nat), Small a → Small b → c ≤ 1 → val b + c ≤ val a → val a < 1000000000 ^ n → val (subW n a b c) + val b + c = val a
  | 0, a, b, c, _, _, _, h, k => by
    have : val a = 0 := by simpa using k
    simp [subW, val]; omega
  | n + 1, a, b, c, ha, hb, hc, h, k => by
    have h1 := ha.headD
    have h2 := hb.headD
    rw [val_ht a] at h k ⊢
    rw [val_ht b] at h ⊢
    rw [subW, val]
    rw [Nat.pow_succ] at k
    have ih := subW_val n a.tail b.tail (1 - (1000000000 + a.headD 0 - b.headD 0 - c) / 1000000000) ha.tail' hb.tail' (by omega) (by omega) (by omega)
    omega

/-! ### products -/
/-- A word times b is added to p, with what is carried. -/
def mulRow (x : Nat) : List Nat → List Nat → Nat → List Nat
  | [], p, c => c :: p.tail
  | y :: b, p, c => (x * y + p.headD 0 + c) % 1000000000 :: mulRow x b p.tail ((x * y + p.headD 0 + c) / 1000000000)
theorem mulRow_val (x : Nat) : ∀ (b p : List Nat) (c : Nat), p.getD b.length 0 = 0 → val (mulRow x b p c) = val p + x * val b + c
  | [], p, c, h => by
    rw [mulRow, val, val_ht p, val]
    have : p.headD 0 = 0 := by cases p with
      | nil => rfl
      | cons z p => simpa using h
    omega
  | y :: b, p, c, h => by
    have ht : p.tail.getD b.length 0 = 0 := by cases p with
      | nil => simp
      | cons z p => simpa using h
    have e : x * (y + 1000000000 * val b) = x * y + 1000000000 * (x * val b) := by rw [Nat.mul_add, Nat.mul_left_comm]
    rw [mulRow, val, mulRow_val x b p.tail _ ht, val_ht p, val, e]
    omega
theorem mulRow_small (x : Nat) (hx : x < 1000000000) : ∀ (b p : List Nat) (c : Nat), Small b → Small p → c < 1000000000 → Small (mulRow x b p c)
  | [], p, c, _, hp, hc => Small.cons hc hp.tail'
  | y :: b, p, c, hb, hp, hc => by
    have h1 := hb.head
    have h2 := hp.headD
    refine Small.cons (by omega) (mulRow_small x hx b p.tail _ hb.tail hp.tail' ?_)
    have h3 : x * y ≤ 999999999 * 999999999 := Nat.mul_le_mul (by omega) (by omega)
    omega
theorem mulRow_len (x : Nat) : ∀ (b p : List Nat) (c : Nat), b.length < p.length → (mulRow x b p c).length = p.length
  | [], p, c, h => by cases p with
    | nil => simp at h
    | cons z p => simp [mulRow]
  | y :: b, p, c, h => by cases p with
    | nil => simp at h
    | cons z p => rw [mulRow, List.length_cons, List.tail_cons, mulRow_len x b p _ (by simpa using h), List.length_cons]
theorem mulRow_behind (x : Nat) : ∀ (b p : List Nat) (c j : Nat), b.length < j → (mulRow x b p c).getD j 0 = p.getD j 0
  | [], p, c, j, h => by
    obtain ⟨j, rfl⟩ : ∃ k, j = k + 1 := ⟨j - 1, by simp at h; omega⟩
    cases p with
    | nil => simp [mulRow]
    | cons z p => simp [mulRow]
  | y :: b, p, c, j, h => by
    obtain ⟨j, rfl⟩ : ∃ k, j = k + 1 := ⟨j - 1, by simp at h; omega⟩
    rw [mulRow, List.getD_cons_succ, mulRow_behind x b p.tail _ j (by simpa using h)]
    cases p with
    | nil => simp
    | cons z p => simp

/-! ### quotients -/
/-- The two highest words tell the quotient, or one more. -/
theorem guess_near (X D T b r f g : Nat) (hX : 0 < X) (hb : b = D * X + f) (hf : f < X) (hr : r = T * X + g) (hg : g < X) (hD : 1000000000 ≤ D) (hq : r < 1000000000 * b) :
    r / b ≤ T / D ∧ T / D ≤ r / b + 1 := by
  have hDX : 0 < D * X := Nat.mul_pos (by omega) hX
  have hbp : 0 < b := by omega
  have hD0 : 0 < D := by omega
  constructor
  · rw [Nat.le_div_iff_mul_le hD0]
    have h1 : r / b * b ≤ r := Nat.div_mul_le_self r b
    have h2 : r / b * (D * X) ≤ r / b * b := Nat.mul_le_mul_left _ (by omega)
    have h3 : r / b * D * X < (T + 1) * X := by
      rw [Nat.mul_assoc, Nat.add_mul, Nat.one_mul]; omega
    have := Nat.lt_of_mul_lt_mul_right h3
    omega
  · refine Nat.le_of_not_lt fun hlt => ?_
    have hqB : r / b < 1000000000 := by rw [Nat.div_lt_iff_lt_mul hbp]; exact hq
    have h1 : (r / b + 2) * D ≤ T := by rw [← Nat.le_div_iff_mul_le hD0]; omega
    have h2 : r < (r / b + 1) * b := by
      have := Nat.lt_div_mul_add (a := r) hbp
      rw [Nat.add_mul, Nat.one_mul]; omega
    have h3 : b ≤ (D + 1) * X := by rw [Nat.add_mul, Nat.one_mul]; omega
    have h4 : (r / b + 1) * b ≤ (r / b + 1) * ((D + 1) * X) := Nat.mul_le_mul_left _ h3
    have h5 : (r / b + 2) * D * X ≤ T * X := Nat.mul_le_mul_right _ h1
    have h6 : (r / b + 2) * D * X < (r / b + 1) * (D + 1) * X := by
      rw [Nat.mul_assoc (r / b + 1)]; omega
    have h7 := Nat.lt_of_mul_lt_mul_right h6
    generalize r / b = q at *
    have e1 : (q + 2) * D = q * D + 2 * D := Nat.add_mul _ _ _
    have e2 : (q + 1) * (D + 1) = q * D + q + D + 1 := by rw [Nat.add_mul, Nat.mul_add, Nat.mul_one, Nat.one_mul]; omega
    omega
/-- One word of a quotient. -/
theorem div_step (b r w A : Nat) (hb : 0 < b) (hr : r = A % b) (hw : w < 1000000000) :
    (w + 1000000000 * A) / b = (w + 1000000000 * r) / b + 1000000000 * (A / b) ∧ (w + 1000000000 * A) % b = (w + 1000000000 * r) % b ∧ w + 1000000000 * r < 1000000000 * b := by
  have h1 := Nat.div_add_mod A b
  rw [← hr] at h1
  have hlt : r < b := by rw [hr]; exact Nat.mod_lt _ hb
  have e : w + 1000000000 * A = (w + 1000000000 * r) + b * (1000000000 * (A / b)) := by
    rw [show b * (1000000000 * (A / b)) = 1000000000 * (b * (A / b)) by rw [← Nat.mul_assoc, Nat.mul_comm b, Nat.mul_assoc]]
    omega
  refine ⟨?_, ?_, by omega⟩
  · rw [e, Nat.add_mul_div_left _ _ hb]
  · rw [e, Nat.add_mul_mod_self_left]
end Go.Proofs.YtgmnjghbafbopaaGreatDoor
namespace Go.Proofs.YtgmnjghbafbopaaGreatDoor

def dg (d : Nat) : UInt8 := (48 + d).toUInt8
def isDg (b : UInt8) : Bool := decide (48 ≤ b.toNat ∧ b.toNat ≤ 57)
theorem dg_nat (d : Nat) (h : d < 10) : (dg d).toNat = 48 + d := by unfold dg; simp [Nat.toUInt8, UInt8.toNat_ofNat']; omega
theorem dg_is (d : Nat) (h : d < 10) : isDg (dg d) = true := by unfold isDg; rw [dg_nat d h, decide_eq_true_iff]; omega
theorem isDg_iff (b : UInt8) : isDg b = true ↔ 48 ≤ b.toNat ∧ b.toNat ≤ 57 := by unfold isDg; rw [decide_eq_true_iff]
theorem dg_back (b : UInt8) (h : isDg b = true) : dg (b.toNat - 48) = b := by
  rw [isDg_iff] at h
  apply UInt8.toNat_inj.1
  rw [dg_nat _ (by omega)]; omega
theorem dg_zero (d : Nat) (h : d < 10) : dg d = 48 ↔ d = 0 := by
  constructor
  · intro e
    have := congrArg UInt8.toNat e
    rw [dg_nat d h] at this
    have h48 : (48 : UInt8).toNat = 48 := rfl
    omega
  · rintro rfl; rfl
def Dgs (l : List UInt8) : Prop := ∀ b ∈ l, isDg b = true
theorem Dgs.nil : Dgs [] := fun _ h => by cases h
theorem Dgs.cons {b : UInt8} {t : List UInt8} (h : isDg b = true) (k : Dgs t) : Dgs (b :: t) := fun x hx => by
  rcases List.mem_cons.1 hx with rfl | hx
  · exact h
  · exact k x hx
theorem Dgs.app {a b : List UInt8} (h : Dgs a) (k : Dgs b) : Dgs (a ++ b) := fun x hx => (List.mem_append.1 hx).elim (h x) (k x)
theorem Dgs.left {a b : List UInt8} (h : Dgs (a ++ b)) : Dgs a := fun x hx => h x (by simp [hx])
theorem Dgs.right {a b : List UInt8} (h : Dgs (a ++ b)) : Dgs b := fun x hx => h x (by simp [hx])
theorem Dgs.zeros (n : Nat) : Dgs (List.replicate n 48) := fun x hx => by rw [List.eq_of_mem_replicate hx]; rfl
/-- The number that digits write, behind another one. -/
def valD : List UInt8 → Nat → Nat
  | [], n => n
  | b :: t, n => valD t (10 * n + (b.toNat - 48))
theorem valD_app : ∀ (a b : List UInt8) (n : Nat), valD (a ++ b) n = valD b (valD a n)
  | [], _, _ => rfl
  | x :: a, b, n => by rw [List.cons_append, valD, valD, valD_app a b]
theorem valD_acc : ∀ (l : List UInt8) (n : Nat), valD l n = n * 10 ^ l.length + valD l 0
  | [], n => by simp [valD]
  | b :: t, n => by
    rw [valD, valD, valD_acc t (10 * n + (b.toNat - 48)), valD_acc t (10 * 0 + (b.toNat - 48)), List.length_cons, Nat.pow_succ, Nat.add_mul, Nat.mul_comm 10 n, Nat.mul_assoc n 10, Nat.mul_comm 10 (10 ^ t.length)]
    simp only [Nat.mul_zero, Nat.zero_add]
    omega
theorem valD_lt : ∀ l : List UInt8, Dgs l → valD l 0 < 10 ^ l.length
  | [], _ => by simp [valD]
  | b :: t, h => by
    have h1 := (isDg_iff b).1 (h b (by simp))
    have h2 := valD_lt t (fun x hx => h x (by simp [hx]))
    rw [valD, valD_acc, List.length_cons, Nat.pow_succ]
    have h3 : (10 * 0 + (b.toNat - 48)) * 10 ^ t.length ≤ 9 * 10 ^ t.length := Nat.mul_le_mul_right _ (by omega)
    omega
theorem valD_zeros : ∀ (k n : Nat), valD (List.replicate k 48) n = n * 10 ^ k
  | 0, n => by simp [valD]
  | k + 1, n => by
    rw [List.replicate_succ, valD, valD_zeros k, Nat.pow_succ]
    have h48 : (48 : UInt8).toNat = 48 := rfl
    rw [h48, Nat.sub_self, Nat.add_zero, Nat.mul_comm 10 n, Nat.mul_assoc, Nat.mul_comm 10]
/-- The last k digits of a number. -/
def fixed : Nat → Nat → List UInt8
  | 0, _ => []
  | k + 1, n => fixed k (n / 10) ++ [dg (n % 10)]
theorem fixed_len : ∀ k n : Nat, (fixed k n).length = k
  | 0, _ => rfl
  | k + 1, n => by rw [fixed, List.length_append, fixed_len k]; rfl
theorem fixed_dgs : ∀ k n : Nat, Dgs (fixed k n)
  | 0, _ => Dgs.nil
  | k + 1, n => Dgs.app (fixed_dgs k _) (Dgs.cons (dg_is _ (by omega)) Dgs.nil)
theorem valD_fixed : ∀ k n : Nat, valD (fixed k n) 0 = n % 10 ^ k
  | 0, n => by simp [fixed, valD, Nat.mod_one]
  | k + 1, n => by
    rw [fixed, valD_app, valD_fixed k, valD, valD, dg_nat _ (by omega), Nat.pow_succ, Nat.mul_comm (10 ^ k) 10, Nat.mod_mul]
    omega
theorem fixed_add : ∀ a b n : Nat, fixed (a + b) n = fixed a (n / 10 ^ b) ++ fixed b n
  | a, 0, n => by simp [fixed]
  | a, b + 1, n => by
    rw [← Nat.add_assoc, fixed, fixed_add a b (n / 10), fixed, List.append_assoc, Nat.div_div_eq_div_mul, Nat.pow_succ, Nat.mul_comm 10]
theorem fixed_mod : ∀ k n : Nat, fixed k (n % 10 ^ k) = fixed k n
  | 0, _ => rfl
  | k + 1, n => by
    have e1 : n % 10 ^ (k + 1) % 10 = n % 10 := Nat.mod_mod_of_dvd n ⟨10 ^ k, by rw [Nat.pow_succ, Nat.mul_comm]⟩
    have e2 : n % 10 ^ (k + 1) / 10 = n / 10 % 10 ^ k := by
      rw [Nat.pow_succ, Nat.mul_comm (10 ^ k) 10, Nat.mod_mul]
      omega
    rw [fixed, fixed, e1, e2, fixed_mod k]
theorem fixed_zero : ∀ k : Nat, fixed k 0 = List.replicate k 48
  | 0 => rfl
  | k + 1 => by rw [fixed, fixed_zero k, List.replicate_succ']; rfl
theorem fixed_mul (k x : Nat) : fixed k (x * 10 ^ k) = List.replicate k 48 := by rw [← fixed_mod, Nat.mul_mod_left, fixed_zero]
/-- Digits are those of their number. -/
theorem fixed_val : ∀ (l : List UInt8), Dgs l → fixed l.length (valD l 0) = l := by
  intro l
  generalize hn : l.length = n
  induction n generalizing l with
  | zero => intro _; rw [List.eq_nil_of_length_eq_zero hn]; rfl
  | succ n ih =>
    intro h
    have hne : l ≠ [] := by intro e; rw [e] at hn; simp at hn
    obtain ⟨t, b, rfl⟩ : ∃ t b, l = t ++ [b] := ⟨l.dropLast, l.getLast hne, (List.dropLast_concat_getLast hne).symm⟩
    have hb := (isDg_iff b).1 (h b (by simp))
    have ht := ih t (by simpa using hn) h.left
    rw [valD_app, valD, valD, fixed]
    have e1 : (10 * valD t 0 + (b.toNat - 48)) / 10 = valD t 0 := by omega
    have e2 : (10 * valD t 0 + (b.toNat - 48)) % 10 = b.toNat - 48 := by omega
    rw [e1, e2, ht, dg_back b (h b (by simp))]
/-- The digits of a number, none for 0. -/
def decN : Nat → Nat → List UInt8
  | 0, _ => []
  | f + 1, n => if n = 0 then [] else decN f (n / 10) ++ [dg (n % 10)]
def dec (n : Nat) : List UInt8 := decN n n
theorem decN_fuel : ∀ (f g n : Nat), n ≤ f → n ≤ g → decN f n = decN g n
  | 0, 0, n, _, _ => rfl
  | 0, g + 1, n, h, _ => by obtain rfl : n = 0 := by omega
                            simp [decN]
  | f + 1, 0, n, _, h => by obtain rfl : n = 0 := by omega
                            simp [decN]
  | f + 1, g + 1, n, h, k => by
    unfold decN
    split
    · rfl
    · rw [decN_fuel f g (n / 10) (by omega) (by omega)]
theorem dec_zero : dec 0 = [] := rfl
theorem dec_pos (n : Nat) (h : n ≠ 0) : dec n = dec (n / 10) ++ [dg (n % 10)] := by
  unfold dec
  obtain ⟨m, rfl⟩ : ∃ m, n = m + 1 := ⟨n - 1, by omega⟩
  rw [decN, if_neg h, decN_fuel m ((m + 1) / 10) ((m + 1) / 10) (by omega) (by omega)]
theorem dec_nil (n : Nat) : dec n = [] ↔ n = 0 := by
  constructor
  · intro h
    refine Classical.byContradiction fun h0 => ?_
    rw [dec_pos n h0] at h
    simp at h
  · rintro rfl; rfl
theorem dec_dgs (n : Nat) : Dgs (dec n) := by
  induction n using Nat.strongRecOn with
  | ind n ih =>
    by_cases h : n = 0
    · subst h; exact Dgs.nil
    · rw [dec_pos n h]
      exact Dgs.app (ih (n / 10) (by omega)) (Dgs.cons (dg_is _ (by omega)) Dgs.nil)
theorem valD_dec (n : Nat) : valD (dec n) 0 = n := by
  induction n using Nat.strongRecOn with
  | ind n ih =>
    by_cases h : n = 0
    · subst h; rfl
    · rw [dec_pos n h, valD_app, ih (n / 10) (by omega), valD, valD, dg_nat _ (by omega)]
      omega
theorem dec_len (n k : Nat) : (dec n).length ≤ k ↔ n < 10 ^ k := by
  induction k generalizing n with
  | zero =>
    rw [Nat.pow_zero, Nat.le_zero, List.length_eq_zero_iff, dec_nil]
    omega
  | succ k ih =>
    by_cases h : n = 0
    · subst h
      simp [dec_zero]
      exact Nat.pow_pos (by omega)
    · rw [dec_pos n h, List.length_append, List.length_singleton, Nat.add_le_add_iff_right, ih, Nat.pow_succ]
      omega
theorem dec_head (n : Nat) : ∀ b, (dec n).head? = some b → b ≠ 48 := by
  induction n using Nat.strongRecOn with
  | ind n ih =>
    intro b hb
    by_cases h : n = 0
    · subst h; cases hb
    · rw [dec_pos n h] at hb
      by_cases h2 : n / 10 = 0
      · rw [h2, dec_zero] at hb
        simp at hb
        rw [← hb]
        intro e
        rw [dg_zero _ (by omega)] at e
        omega
      · refine ih (n / 10) (by omega) b ?_
        cases hd : dec (n / 10) with
        | nil => rw [dec_nil] at hd; exact absurd hd h2
        | cons x t => rw [hd] at hb; simpa using hb
/-- Digits without zeros in front; without zeros at the end. -/
def trim0 (l : List UInt8) : List UInt8 := l.dropWhile fun b => b == 48
def trimE (l : List UInt8) : List UInt8 := (l.reverse.dropWhile fun b => b == 48).reverse
theorem trim_fixed : ∀ k m : Nat, m < 10 ^ k → trim0 (fixed k m) = dec m
  | 0, m, h => by obtain rfl : m = 0 := by simpa using h
                  rfl
  | k + 1, m, h => by
    have ih := trim_fixed k (m / 10) (by rw [Nat.pow_succ] at h; omega)
    unfold trim0 at ih ⊢
    rw [fixed, List.dropWhile_append, ih]
    by_cases h0 : m / 10 = 0
    · rw [h0, dec_zero, List.isEmpty_nil, if_pos rfl]
      by_cases h1 : m = 0
      · subst h1; rfl
      · rw [dec_pos m h1, h0, dec_zero, List.nil_append, List.dropWhile_cons, if_neg]
        rw [beq_iff_eq, dg_zero _ (by omega)]
        omega
    · have hne : (dec (m / 10)).isEmpty = false := by
        cases hd : dec (m / 10) with
        | nil => rw [dec_nil] at hd; exact absurd hd h0
        | cons x t => rfl
      rw [hne, if_neg (by decide), dec_pos m (by omega)]
theorem trimE_split (l : List UInt8) : ∃ k, l = trimE l ++ List.replicate k 48 := by
  have h : ∀ r : List UInt8, ∃ k, r = List.replicate k 48 ++ r.dropWhile fun b => b == 48 := by
    intro r
    induction r with
    | nil => exact ⟨0, rfl⟩
    | cons b t ih =>
      obtain ⟨k, hk⟩ := ih
      by_cases hb : b = 48
      · subst hb
        refine ⟨k + 1, ?_⟩
        rw [List.dropWhile_cons, if_pos (by simp), List.replicate_succ, List.cons_append, ← hk]
      · refine ⟨0, ?_⟩
        rw [List.dropWhile_cons, if_neg (by simpa using hb)]
        rfl
  obtain ⟨k, hk⟩ := h l.reverse
  refine ⟨k, ?_⟩
  have := congrArg List.reverse hk
  rw [List.reverse_reverse, List.reverse_append, List.reverse_replicate] at this
  exact this
theorem trimE_last (l : List UInt8) : ∀ b, (trimE l).getLast? = some b → b ≠ 48 := by
  intro b hb e
  unfold trimE at hb
  rw [List.getLast?_reverse] at hb
  have := List.head?_dropWhile_not (fun b : UInt8 => b == 48) l.reverse
  rw [hb] at this
  simp [e] at this
theorem trimE_of (a : List UInt8) (k : Nat) (h : ∀ b, a.getLast? = some b → b ≠ 48) : trimE (a ++ List.replicate k 48) = a := by
  unfold trimE
  rw [List.reverse_append, List.reverse_replicate]
  have h1 : ∀ (k : Nat) (r : List UInt8), (List.replicate k 48 ++ r).dropWhile (fun b => b == 48) = r.dropWhile fun b => b == 48 := by
    intro k r
    induction k with
    | zero => rfl
    | succ k ih => rw [List.replicate_succ, List.cons_append, List.dropWhile_cons, if_pos (by simp), ih]
  rw [h1]
  have h2 : a.reverse.dropWhile (fun b => b == 48) = a.reverse := by
    cases hr : a.reverse with
    | nil => rfl
    | cons x t =>
      have hl : a.getLast? = some x := by rw [← List.head?_reverse, hr]; rfl
      rw [List.dropWhile_cons, if_neg]
      simpa using h x hl
  rw [h2, List.reverse_reverse]
end Go.Proofs.YtgmnjghbafbopaaGreatDoor
namespace Go.Proofs.YtgmnjghbafbopaaGreatDoor
open Go.Lib

/-- A number as it is written. -/
structure Wr where
  sign : List UInt8
  before : List UInt8
  after : List UInt8
  point : Bool
def dotL : List UInt8 → List UInt8 × List UInt8 × Bool
  | [] => ([], [], false)
  | b :: t => if b = 46 then ([], t, true) else (b :: (dotL t).1, (dotL t).2)
theorem dot_at : ∀ a t : List UInt8, (46 : UInt8) ∉ a → dotL (a ++ 46 :: t) = (a, t, true)
  | [], t, _ => rfl
  | b :: a, t, h => by
    have hb : b ≠ 46 := fun e => h (by simp [e])
    rw [List.cons_append, dotL, if_neg hb, dot_at a t (fun e => h (by simp [e]))]
theorem dot_none : ∀ a : List UInt8, (46 : UInt8) ∉ a → dotL a = (a, [], false)
  | [], _ => rfl
  | b :: a, h => by
    have hb : b ≠ 46 := fun e => h (by simp [e])
    rw [dotL, if_neg hb, dot_none a (fun e => h (by simp [e]))]
theorem dot_back : ∀ l : List UInt8, l = (dotL l).1 ++ (if (dotL l).2.2 = true then 46 :: (dotL l).2.1 else []) ∧ ((dotL l).2.2 = false → (dotL l).2.1 = [])
  | [] => ⟨rfl, fun _ => rfl⟩
  | b :: t => by
    obtain ⟨h1, h2⟩ := dot_back t
    unfold dotL
    by_cases hb : b = 46
    · subst hb
      rw [if_pos rfl]
      exact ⟨rfl, fun h => by cases h⟩
    · rw [if_neg hb]
      refine ⟨?_, h2⟩
      rw [List.cons_append, ← h1]
def signOf : List UInt8 → List UInt8 × List UInt8
  | [] => ([], [])
  | b :: t => if b = 43 ∨ b = 45 then ([b], t) else ([], b :: t)
def wrOf (x : List UInt8 × List UInt8) : Wr := ⟨x.1, (dotL x.2).1, (dotL x.2).2.1, (dotL x.2).2.2⟩
def splitOk (w : Wr) : Bool := !(w.before.isEmpty && w.after.isEmpty) && (w.before.all isDg && w.after.all isDg)
def splitL (s : List UInt8) : Option Wr := if splitOk (wrOf (signOf s)) = true then some (wrOf (signOf s)) else none
def canonW (w : Wr) : Bool :=
  if w.sign = [43] ∨ w.before = [] ∨ 30 < w.before.length ∨ 20 < w.after.length then false
  else if w.before.head? = some 48 ∧ w.before ≠ [48] then false
  else if w.point = true then decide (w.after ≠ [] ∧ w.after.getLast? ≠ some 48)
  else decide (w.sign = [] ∨ w.before ≠ [48])
/-- What is cut off from a number. -/
structure Ct where
  below : Bool
  odd : Bool
  none : Bool
  half : Int
def divW (way : Ct → Bool) (below : Bool) (a b : Nat) : Nat :=
  if way ⟨below, decide (a / b % 2 = 1), decide (a % b = 0), sgnN (2 * (a % b)) b⟩ = true then a / b + 1 else a / b
def evenW (c : Ct) : Bool := decide (0 < c.half) || (decide (c.half = 0) && c.odd)
def halfW (c : Ct) : Bool := decide (0 < c.half) || (decide (c.half = 0) && !c.below)
def floorW (c : Ct) : Bool := c.below && !c.none
def ceilW (c : Ct) : Bool := !c.below && !c.none
def cutW (_ : Ct) : Bool := false
def numL (w : Wr) : Bool × Nat :=
  (decide (w.sign = [45]), if 20 < w.after.length then divW evenW (decide (w.sign = [45])) (valD (w.before ++ w.after) 0) (10 ^ (w.after.length - 20)) else valD (w.before ++ w.after) 0 * 10 ^ (20 - w.after.length))
def bodyL (n : Nat) : List UInt8 := (if dec (n / 10 ^ 20) = [] then [48] else dec (n / 10 ^ 20)) ++ (if trimE (fixed 20 n) = [] then [] else 46 :: trimE (fixed 20 n))
/-- The text of a number of units of 10^-20; none: it is too large. -/
def textL (below : Bool) (n : Nat) : Option (List UInt8) :=
  if 30 < (dec (n / 10 ^ 20)).length then none else some ((if below = true ∧ bodyL n ≠ [48] then [45] else []) ++ bodyL n)
def canonL (s : List UInt8) : Option (Bool × Nat) := match splitL s with
  | some w => if canonW w = true then some (numL w) else none
  | none => none

theorem dgs_all (l : List UInt8) : l.all isDg = true ↔ Dgs l := by rw [List.all_eq_true]; exact Iff.rfl
theorem dgs_dot {l : List UInt8} (h : Dgs l) : (46 : UInt8) ∉ l := fun hm => by
  have := h 46 hm
  exact absurd this (by decide)
theorem body_parts (n : Nat) : ∃ B A : List UInt8, bodyL n = B ++ (if A = [] then [] else 46 :: A) ∧ B = (if dec (n / 10 ^ 20) = [] then [48] else dec (n / 10 ^ 20)) ∧ A = trimE (fixed 20 n) ∧ B ≠ [] ∧ Dgs B ∧ Dgs A ∧ valD B 0 = n / 10 ^ 20 ∧ A.length ≤ 20 ∧ A.getLast? ≠ some 48 ∧ valD A 0 * 10 ^ (20 - A.length) = n % 10 ^ 20 ∧ ¬ (B.head? = some 48 ∧ B ≠ [48]) := by
  refine ⟨_, _, rfl, rfl, rfl, ?_, ?_, ?_, ?_, ?_, ?_, ?_, ?_⟩
  · split
    · simp
    · assumption
  · split
    · intro b hb
      rw [List.mem_singleton.1 hb]; rfl
    · exact dec_dgs _
  · obtain ⟨k, hk⟩ := trimE_split (fixed 20 n)
    have := fixed_dgs 20 n
    rw [hk] at this
    exact this.left
  · split
    · rename_i h
      rw [dec_nil] at h
      rw [h]; rfl
    · exact valD_dec _
  · obtain ⟨k, hk⟩ := trimE_split (fixed 20 n)
    have := congrArg List.length hk
    rw [fixed_len, List.length_append] at this
    omega
  · exact fun h => trimE_last _ _ h rfl
  · obtain ⟨k, hk⟩ := trimE_split (fixed 20 n)
    have h1 := congrArg List.length hk
    rw [fixed_len, List.length_append, List.length_replicate] at h1
    have h2 : valD (fixed 20 n) 0 = valD (trimE (fixed 20 n) ++ List.replicate k 48) 0 := congrArg (fun l => valD l 0) hk
    rw [valD_fixed, valD_app, valD_zeros] at h2
    rw [h2, show 20 - (trimE (fixed 20 n)).length = k by omega]
  · rintro ⟨h1, h2⟩
    split at h1
    · rename_i h
      rw [if_pos h] at h2
      exact h2 rfl
    · exact dec_head _ _ h1 rfl
theorem body_zero (n : Nat) : bodyL n = [48] ↔ n = 0 := by
  constructor
  · intro h
    obtain ⟨B, A, e, _, _, h1, h2, h3, h4, h5, h6, h7, _⟩ := body_parts n
    rw [e] at h
    have hA : A = [] := by
      cases A with
      | nil => rfl
      | cons a t =>
        cases B with
        | nil => exact absurd rfl h1
        | cons b u => simp at h
    subst hA
    rw [if_pos rfl, List.append_nil] at h
    subst h
    have e1 : valD [48] 0 = 0 := rfl
    have e2 : valD [] 0 = 0 := rfl
    rw [e1] at h4
    rw [e2, Nat.zero_mul] at h7
    have h9 := Nat.div_add_mod n (10 ^ 20)
    rw [← h4, ← h7] at h9
    exact h9.symm
  · rintro rfl
    have h1 : trimE (fixed 20 0) = [] := by rw [fixed_zero]; exact trimE_of [] 20 (fun b h => by cases h)
    unfold bodyL
    rw [h1, Nat.zero_div, dec_zero]
    rfl
theorem split_of (sg B A : List UInt8) (p : Bool) (hs : sg = [] ∨ sg = [43] ∨ sg = [45]) (hB : B ≠ []) (dB : Dgs B) (dA : Dgs A) (hp : p = false → A = []) :
    splitL (sg ++ (B ++ (if p = true then 46 :: A else []))) = some ⟨sg, B, A, p⟩ := by
  have hsg : signOf (sg ++ (B ++ (if p = true then 46 :: A else []))) = (sg, B ++ (if p = true then 46 :: A else [])) := by
    rcases hs with rfl | rfl | rfl
    · cases B with
      | nil => exact absurd rfl hB
      | cons b t =>
        have hb := (isDg_iff b).1 (dB b (by simp))
        rw [List.nil_append, List.cons_append, signOf, if_neg]
        rintro (rfl | rfl)
        · exact absurd hb.1 (by decide)
        · exact absurd hb.1 (by decide)
    · rfl
    · rfl
  have hd : dotL (B ++ (if p = true then 46 :: A else [])) = (B, A, p) := by
    cases p with
    | true => rw [if_pos rfl, dot_at B A (dgs_dot dB)]
    | false =>
      rw [if_neg (by decide), List.append_nil, dot_none B (dgs_dot dB), hp rfl]
  unfold splitL
  rw [hsg]
  have hw : wrOf (sg, B ++ (if p = true then 46 :: A else [])) = ⟨sg, B, A, p⟩ := by
    unfold wrOf
    simp only [hd]
  rw [hw, if_pos]
  unfold splitOk
  have e1 : B.isEmpty = false := by cases B with
    | nil => exact absurd rfl hB
    | cons _ _ => rfl
  simp only [e1, (dgs_all B).2 dB, (dgs_all A).2 dA]
  rfl
/-- A text of a number is read as this number. -/
theorem canon_text (b : Bool) (n : Nat) (t : List UInt8) (h : textL b n = some t) : canonL t = some (b && decide (n ≠ 0), n) := by
  unfold textL at h
  split at h
  · cases h
  · rename_i hlen
    cases h
    have hz := body_zero n
    obtain ⟨B, A, e, eB, eA, h1, h2, h3, h4, h5, h6, h7, h8⟩ := body_parts n
    obtain ⟨p, hp⟩ : ∃ p : Bool, p = decide (A ≠ []) := ⟨_, rfl⟩
    have e2 : bodyL n = B ++ (if p = true then 46 :: A else []) := by
      rw [e, hp]
      refine congrArg (B ++ ·) ?_
      by_cases hA : A = []
      · simp [hA]
      · simp [hA]
    have hpA : p = false → A = [] := by
      intro h0
      rw [hp, decide_eq_false_iff_not] at h0
      exact Classical.not_not.1 h0
    obtain ⟨sg, hsg⟩ : ∃ sg, sg = (if b = true ∧ bodyL n ≠ [48] then [45] else ([] : List UInt8)) := ⟨_, rfl⟩
    have hs3 : sg = [] ∨ sg = [43] ∨ sg = [45] := by
      rw [hsg]
      split
      · exact .inr (.inr rfl)
      · exact .inl rfl
    rw [← hsg, e2]
    unfold canonL
    rw [split_of sg B A p hs3 h1 h2 h3 hpA]
    have hBl : B.length ≤ 30 := by
      rw [eB]
      split
      · simp
      · omega
    have hne43 : sg ≠ [43] := by
      rw [hsg]
      split
      · decide
      · decide
    have hc : canonW ⟨sg, B, A, p⟩ = true := by
      unfold canonW
      simp only
      rw [if_neg (by rintro (h | h | h | h); exact hne43 h; exact h1 h; omega; omega), if_neg h8]
      cases hpp : p with
      | true =>
        rw [if_pos rfl, decide_eq_true_iff]
        rw [hpp] at hp
        exact ⟨by simpa using hp.symm, h6⟩
      | false =>
        rw [if_neg (by decide), decide_eq_true_iff]
        rw [hsg]
        by_cases h0 : bodyL n = [48]
        · left
          rw [if_neg (fun h => h.2 h0)]
        · right
          intro hB
          apply h0
          rw [e2, hpp, hB]
          rfl
    simp only
    rw [if_pos hc]
    unfold numL
    simp only
    congr 1
    refine Prod.ext ?_ ?_
    · simp only
      rw [hsg]
      by_cases h0 : n = 0
      · rw [if_neg (fun h => h.2 (hz.2 h0))]
        simp [h0]
      · cases b with
        | true => rw [if_pos ⟨rfl, fun h => h0 (hz.1 h)⟩]; simp [h0]
        | false => rw [if_neg (fun h => by cases h.1)]; simp
    · simp only
      rw [if_neg (by omega), valD_app, valD_acc, h4, Nat.add_mul, h7, Nat.mul_assoc, ← Nat.pow_add, show A.length + (20 - A.length) = 20 by omega]
      omega
theorem split_back (s : List UInt8) (w : Wr) (h : splitL s = some w) :
    s = w.sign ++ (w.before ++ (if w.point = true then 46 :: w.after else [])) ∧ (w.point = false → w.after = []) ∧ Dgs w.before ∧ Dgs w.after ∧ (w.sign = [] ∨ w.sign = [43] ∨ w.sign = [45]) ∧ (w.before ≠ [] ∨ w.after ≠ []) := by
  unfold splitL at h
  split at h
  · rename_i hk
    cases h
    unfold splitOk at hk
    simp only [Bool.and_eq_true, dgs_all] at hk
    obtain ⟨k1, k2, k3⟩ := hk
    obtain ⟨d1, d2⟩ := dot_back (signOf s).2
    refine ⟨?_, d2, k2, k3, ?_, ?_⟩
    · show s = (signOf s).1 ++ ((dotL (signOf s).2).1 ++ (if (dotL (signOf s).2).2.2 = true then 46 :: (dotL (signOf s).2).2.1 else []))
      rw [← d1]
      cases s with
      | nil => rfl
      | cons b t =>
        simp only [signOf]
        split <;> rfl
    · show (signOf s).1 = [] ∨ (signOf s).1 = [43] ∨ (signOf s).1 = [45]
      cases s with
      | nil => exact .inl rfl
      | cons b t =>
        simp only [signOf]
        split
        · rename_i hb
          rcases hb with rfl | rfl
          · exact .inr (.inl rfl)
          · exact .inr (.inr rfl)
        · exact .inl rfl
    · by_cases hb : (wrOf (signOf s)).before = []
      · right
        intro ha
        rw [hb, ha] at k1
        cases k1
      · exact .inl hb
  · cases h
set_option maxHeartbeats 2000000 in
/-- A canonical text is the text of its number. -/
theorem text_canon (s : List UInt8) (b : Bool) (n : Nat) (h : canonL s = some (b, n)) : textL b n = some s ∧ n < 10 ^ 50 ∧ (b = true → n ≠ 0) := by
  unfold canonL at h
  split at h
  · rename_i w hw
    split at h
    · rename_i hc
      obtain ⟨hs, hpA, dB, dA, h3, _⟩ := split_back s w hw
      unfold canonW at hc
      split at hc
      · cases hc
      · rename_i k1
        split at hc
        · cases hc
        · rename_i k2
          simp only [not_or, Nat.not_lt] at k1
          obtain ⟨n43, nB, lB, lA⟩ := k1
          unfold numL at h
          simp only [Option.some.injEq, Prod.mk.injEq] at h
          obtain ⟨hb, hn⟩ := h
          rw [if_neg (by omega), valD_app, valD_acc, Nat.add_mul, Nat.mul_assoc, ← Nat.pow_add, show w.after.length + (20 - w.after.length) = 20 by omega] at hn
          have hx : valD w.after 0 * 10 ^ (20 - w.after.length) < 10 ^ 20 := by
            have h1 := valD_lt w.after dA
            have h2 : 10 ^ w.after.length * 10 ^ (20 - w.after.length) = 10 ^ 20 := by rw [← Nat.pow_add, show w.after.length + (20 - w.after.length) = 20 by omega]
            rw [← h2]
            exact Nat.mul_lt_mul_of_pos_right h1 (Nat.pow_pos (by omega))
          have hm := valD_lt w.before dB
          have hdiv : n / 10 ^ 20 = valD w.before 0 := by omega
          have hmod : n % 10 ^ 20 = valD w.after 0 * 10 ^ (20 - w.after.length) := by omega
          have hfix : fixed 20 n = w.after ++ List.replicate (20 - w.after.length) 48 := by
            rw [← fixed_mod, hmod]
            have : fixed 20 (valD w.after 0 * 10 ^ (20 - w.after.length)) = fixed (w.after.length + (20 - w.after.length)) (valD w.after 0 * 10 ^ (20 - w.after.length)) := by rw [show w.after.length + (20 - w.after.length) = 20 by omega]
            rw [this, fixed_add, Nat.mul_div_cancel _ (Nat.pow_pos (by omega)), fixed_val _ dA, fixed_mul]
          have hlast : ∀ x, w.after.getLast? = some x → x ≠ 48 := by
            intro x hx e
            subst e
            by_cases hp : w.point = true
            · rw [if_pos hp, decide_eq_true_iff] at hc
              exact hc.2 hx
            · rw [hpA (by simpa using hp)] at hx; cases hx
          have htE : trimE (fixed 20 n) = w.after := by rw [hfix]; exact trimE_of _ _ hlast
          have hdec : dec (n / 10 ^ 20) = trim0 w.before := by
            rw [hdiv, ← trim_fixed w.before.length _ hm, fixed_val _ dB]
          have hB : (if dec (n / 10 ^ 20) = [] then [48] else dec (n / 10 ^ 20)) = w.before := by
            by_cases h0 : w.before = [48]
            · rw [hdec, h0]; rfl
            · have hh : trim0 w.before = w.before := by
                cases hbb : w.before with
                | nil => exact absurd hbb nB
                | cons x t =>
                  unfold trim0
                  rw [List.dropWhile_cons, if_neg]
                  intro e
                  have e : x = 48 := by simpa using e
                  exact k2 ⟨by rw [hbb, e]; rfl, h0⟩
              rw [hdec, hh, if_neg nB]
          have hbody : bodyL n = w.before ++ (if w.point = true then 46 :: w.after else []) := by
            unfold bodyL
            rw [hB, htE]
            refine congrArg (w.before ++ ·) ?_
            by_cases hp : w.point = true
            · rw [if_pos hp, decide_eq_true_iff] at hc
              rw [if_neg hc.1, if_pos hp]
            · rw [hpA (by simpa using hp), if_pos rfl, if_neg hp]
          have hlen : ¬ 30 < (dec (n / 10 ^ 20)).length := by
            have : (dec (n / 10 ^ 20)).length ≤ w.before.length := by
              rw [dec_len, hdiv]; exact hm
            omega
          have hz := body_zero n
          have hneg : w.sign = [45] → bodyL n ≠ [48] := by
            intro h45 hb0
            rw [hbody] at hb0
            by_cases hp : w.point = true
            · rw [if_pos hp] at hb0
              have hlen2 := congrArg List.length hb0
              have hBp : 0 < w.before.length := List.length_pos_iff.2 nB
              rw [List.length_append, List.length_cons, List.length_singleton] at hlen2
              omega
            · rw [if_neg hp, decide_eq_true_iff] at hc
              rw [if_neg hp, List.append_nil] at hb0
              rcases hc with hc | hc
              · rw [h45] at hc; cases hc
              · exact hc hb0
          refine ⟨?_, ?_, ?_⟩
          · unfold textL
            rw [if_neg hlen, hbody]
            conv => rhs; rw [hs]
            refine congrArg (fun x => some (x ++ (w.before ++ (if w.point = true then 46 :: w.after else [])))) ?_
            rw [← hb]
            rcases h3 with h3 | h3 | h3
            · rw [h3]; rfl
            · exact absurd h3 n43
            · rw [if_pos ⟨by rw [h3]; rfl, by rw [← hbody]; exact hneg h3⟩, h3]
          · have : n / 10 ^ 20 < 10 ^ 30 := by rw [hdiv]; exact Nat.lt_of_lt_of_le hm (Nat.pow_le_pow_right (by omega) lB)
            omega
          · intro hbt h0
            rw [← hb, decide_eq_true_iff] at hbt
            exact hneg hbt (hz.2 h0)
    · cases h
  · cases h
end Go.Proofs.YtgmnjghbafbopaaGreatDoor
namespace Go.Proofs.YtgmnjghbafbopaaGreatDoor
open Go.Lib

/-- The integer of a sign and an absolute value. -/
def toZ (b : Bool) (n : Nat) : Int := if b = true then -(n : Int) else (n : Int)
/-- What a sum is below 0, and its absolute value. -/
def plusB (bx by_ : Bool) (a b : Nat) : Bool := if bx = by_ then bx else if a < b then by_ else bx
def plusN (bx by_ : Bool) (a b : Nat) : Nat := if bx = by_ then a + b else if a < b then b - a else a - b
/-- How two numbers compare. -/
def cmpN (bx by_ : Bool) (a b : Nat) : Int := if bx = true ∧ by_ = true then sgnN b a else if bx = true then -1 else if by_ = true then 1 else sgnN a b
theorem toZ_plus (bx by_ : Bool) (a b : Nat) : toZ (plusB bx by_ a b) (plusN bx by_ a b) = toZ bx a + toZ by_ b := by
  unfold toZ plusB plusN
  by_cases h : a < b
  · cases bx <;> cases by_ <;> simp [h] <;> omega
  · cases bx <;> cases by_ <;> simp [h] <;> omega
theorem toZ_not (b : Bool) (n : Nat) : toZ (!b) n = - toZ b n := by
  unfold toZ
  cases b <;> simp
theorem toZ_inj {b b' : Bool} {n n' : Nat} (h : toZ b n = toZ b' n') : n = n' ∧ (b = b' ∨ n = 0) := by
  unfold toZ at h
  cases b <;> cases b' <;> simp at h ⊢ <;> omega
theorem textL_zero (b : Bool) : textL b 0 = some [48] := by
  have h := (body_zero 0).2 rfl
  unfold textL
  rw [h, Nat.zero_div, dec_zero, if_neg (by decide)]
  simp
theorem textL_toZ {b b' : Bool} {n n' : Nat} (h : toZ b n = toZ b' n') : textL b n = textL b' n' := by
  have ⟨e, k⟩ := toZ_inj h
  subst e
  rcases k with k | k
  · rw [k]
  · rw [k, textL_zero, textL_zero]
theorem textL_big (b : Bool) (n : Nat) : textL b n = none ↔ 10 ^ 50 ≤ n := by
  unfold textL
  have h := dec_len (n / 10 ^ 20) 30
  split
  · simp; omega
  · simp; omega
theorem textL_some (b : Bool) (n : Nat) (h : n < 10 ^ 50) : ∃ t, textL b n = some t := by
  cases e : textL b n with
  | none => rw [textL_big] at e; omega
  | some t => exact ⟨t, rfl⟩
theorem textL_lt {b : Bool} {n : Nat} {t : List UInt8} (h : textL b n = some t) : n < 10 ^ 50 := by
  refine Classical.byContradiction fun hn => ?_
  rw [(textL_big b n).2 (by omega)] at h
  cases h
theorem canonL_lt {s : List UInt8} {b : Bool} {n : Nat} (h : canonL s = some (b, n)) : n < 10 ^ 50 := (text_canon s b n h).2.1
theorem canonL_same {s s' : List UInt8} {b b' : Bool} {n n' : Nat} (h : canonL s = some (b, n)) (h' : canonL s' = some (b', n')) (e : toZ b n = toZ b' n') : s = s' := by
  have h1 := (text_canon s b n h).1
  have h2 := (text_canon s' b' n' h').1
  rw [textL_toZ e, h2] at h1
  exact (Option.some.inj h1).symm
/-- A result: a text and the error OK, or no text and the error that it is too large. -/
def resR (b : Bool) (n : Nat) : List UInt8 × Int := match textL b n with
  | some t => (t, 0)
  | none => ([], 40)
theorem resR_toZ {b b' : Bool} {n n' : Nat} (h : toZ b n = toZ b' n') : resR b n = resR b' n' := by unfold resR; rw [textL_toZ h]
theorem resR_lt (b : Bool) (n : Nat) (h : n < 10 ^ 50) : ∃ t, resR b n = (t, 0) ∧ textL b n = some t := by
  obtain ⟨t, ht⟩ := textL_some b n h
  exact ⟨t, by unfold resR; rw [ht], ht⟩
theorem resR_ge (b : Bool) (n : Nat) (h : 10 ^ 50 ≤ n) : resR b n = ([], 40) := by
  unfold resR; rw [(textL_big b n).2 h]
theorem resR_text {b : Bool} {n : Nat} {s : List UInt8} (h : textL b n = some s) : resR b n = (s, 0) := by unfold resR; rw [h]
theorem resR_canon {s : List UInt8} {b : Bool} {n : Nat} (h : canonL s = some (b, n)) {b' : Bool} {n' : Nat} (e : toZ b' n' = toZ b n) : resR b' n' = (s, 0) := by
  rw [resR_toZ e, resR_text (text_canon s b n h).1]
/-- A text that a number has: how long it is. -/
theorem textL_len {b : Bool} {n : Nat} {t : List UInt8} (h : textL b n = some t) : t.length ≤ 52 := by
  have hn := textL_lt h
  unfold textL at h
  rw [if_neg (by have := dec_len (n / 10 ^ 20) 30; omega)] at h
  cases h
  obtain ⟨B, A, e, hB, hA, h1, _, _, _, h5, _⟩ := body_parts n
  have hBl : B.length ≤ 30 := by
    rw [hB]
    split
    · simp
    · have := dec_len (n / 10 ^ 20) 30; omega
  have hbl : (bodyL n).length ≤ 51 := by
    rw [e, List.length_append]
    split
    · simp; omega
    · simp; omega
  rw [List.length_append]
  split
  · simp; omega
  · simp; omega

/-- What Parse gives. -/
def readR (s : List UInt8) : List UInt8 × Int := if 200 < s.length then ([], 2) else match splitL s with
  | none => ([], 5)
  | some w => resR (numL w).1 (numL w).2
theorem canonL_split {s : List UInt8} {x : Bool × Nat} (h : canonL s = some x) : ∃ w, splitL s = some w ∧ canonW w = true ∧ numL w = x := by
  unfold canonL at h
  split at h
  · rename_i w hw
    split at h
    · rename_i hc
      exact ⟨w, hw, hc, Option.some.inj h⟩
    · cases h
  · cases h
theorem readR_text {b : Bool} {n : Nat} {t : List UInt8} (h : textL b n = some t) : readR t = (t, 0) := by
  have hl := textL_len h
  have hc := canon_text b n t h
  obtain ⟨w, h1, _, h3⟩ := canonL_split hc
  unfold readR
  rw [if_neg (by omega), h1]
  show resR (numL w).1 (numL w).2 = _
  rw [h3]
  exact resR_text (text_canon t _ _ hc).1
/-- What a function of the package gives: an error and no text, or a text that Parse gives back. -/
def CanonR (r : List UInt8 × Int) : Prop := (r.2 ≠ 0 ∧ r.1 = []) ∨ (r.2 = 0 ∧ readR r.1 = (r.1, 0) ∧ r.1.length ≤ 52)
theorem resR_canonR (b : Bool) (n : Nat) : CanonR (resR b n) := by
  cases e : textL b n with
  | none => exact .inl (by unfold resR; rw [e]; exact ⟨by decide, rfl⟩)
  | some t => exact .inr (by unfold resR; rw [e]; exact ⟨rfl, readR_text e, textL_len e⟩)
theorem errL_canonR (z : Int) (h : z ≠ 0) : CanonR ([], z) := .inl ⟨h, rfl⟩
theorem readR_canonR (s : List UInt8) : CanonR (readR s) := by
  unfold readR
  split
  · exact errL_canonR _ (by decide)
  · split
    · exact errL_canonR _ (by decide)
    · exact resR_canonR _ _

/-- A function of one number, and of two. -/
def on1 (a : List UInt8) (f : Bool → Nat → List UInt8 × Int) : List UInt8 × Int := match canonL a with
  | none => ([], 1)
  | some x => f x.1 x.2
def on2 (a b : List UInt8) (f : Bool → Nat → Bool → Nat → List UInt8 × Int) : List UInt8 × Int := on1 a fun bx x => on1 b fun by_ y => f bx x by_ y
def onD (a b : List UInt8) (f : Bool → Nat → Bool → Nat → List UInt8 × Int) : List UInt8 × Int := on2 a b fun bx x by_ y => if y = 0 then ([], 41) else f bx x by_ y
def addR (a b : List UInt8) := on2 a b fun bx x by_ y => resR (plusB bx by_ x y) (plusN bx by_ x y)
def subR (a b : List UInt8) := on2 a b fun bx x by_ y => resR (plusB bx (!by_) x y) (plusN bx (!by_) x y)
def mulR (a b : List UInt8) := on2 a b fun bx x by_ y => resR (bx != by_) (divW evenW (bx != by_) (x * y) (10 ^ 20))
def quoR (a b : List UInt8) := onD a b fun bx x by_ y => resR (bx != by_) (divW evenW (bx != by_) (x * 10 ^ 20) y)
def idivR (a b : List UInt8) := onD a b fun bx x by_ y => resR (bx != by_) (x / y * 10 ^ 20)
def modR (a b : List UInt8) := onD a b fun bx x _ y => resR bx (x % y)
def negR (a : List UInt8) := on1 a fun bx x => resR (!bx) x
def wayL (how : List UInt8) : Option (Ct → Bool) :=
  if how = [104, 97, 108, 102] then some halfW else if how = [101, 118, 101, 110] then some evenW else if how = [102, 108, 111, 111, 114] then some floorW
  else if how = [99, 101, 105, 108, 105, 110, 103] then some ceilW else if how = [99, 117, 116] then some cutW else none
def roundR (a : List UInt8) (digits : Int) (how : List UInt8) := on1 a fun bx x =>
  if digits < -30 ∨ 20 < digits then ([], 6) else match wayL how with
    | none => ([], 1)
    | some way => resR bx (divW way bx x (10 ^ (20 - digits).toNat) * 10 ^ (20 - digits).toNat)
def cmpR (a b : List UInt8) : Int × Int := match canonL a, canonL b with
  | some x, some y => (cmpN x.1 y.1 x.2 y.2, 0)
  | _, _ => (0, 1)
def isIntR (a : List UInt8) : Bool := match splitL a with
  | some w => canonW w && !w.point
  | none => false
theorem on1_canonR {a : List UInt8} {f : Bool → Nat → List UInt8 × Int} (h : ∀ b n, CanonR (f b n)) : CanonR (on1 a f) := by
  unfold on1
  split
  · exact errL_canonR _ (by decide)
  · exact h _ _
theorem on2_canonR {a b : List UInt8} {f : Bool → Nat → Bool → Nat → List UInt8 × Int} (h : ∀ b n c m, CanonR (f b n c m)) : CanonR (on2 a b f) := on1_canonR fun _ _ => on1_canonR fun _ _ => h _ _ _ _
theorem onD_canonR {a b : List UInt8} {f : Bool → Nat → Bool → Nat → List UInt8 × Int} (h : ∀ b n c m, CanonR (f b n c m)) : CanonR (onD a b f) := on2_canonR fun _ _ _ _ => by
  split
  · exact errL_canonR _ (by decide)
  · exact h _ _ _ _
theorem addR_canonR (a b : List UInt8) : CanonR (addR a b) := on2_canonR fun _ _ _ _ => resR_canonR _ _
theorem subR_canonR (a b : List UInt8) : CanonR (subR a b) := on2_canonR fun _ _ _ _ => resR_canonR _ _
theorem mulR_canonR (a b : List UInt8) : CanonR (mulR a b) := on2_canonR fun _ _ _ _ => resR_canonR _ _
theorem quoR_canonR (a b : List UInt8) : CanonR (quoR a b) := onD_canonR fun _ _ _ _ => resR_canonR _ _
theorem idivR_canonR (a b : List UInt8) : CanonR (idivR a b) := onD_canonR fun _ _ _ _ => resR_canonR _ _
theorem modR_canonR (a b : List UInt8) : CanonR (modR a b) := onD_canonR fun _ _ _ _ => resR_canonR _ _
theorem negR_canonR (a : List UInt8) : CanonR (negR a) := on1_canonR fun _ _ => resR_canonR _ _
theorem roundR_canonR (a : List UInt8) (d : Int) (how : List UInt8) : CanonR (roundR a d how) := on1_canonR fun _ _ => by
  split
  · exact errL_canonR _ (by decide)
  · split
    · exact errL_canonR _ (by decide)
    · exact resR_canonR _ _
theorem on1_some {a : List UInt8} {b : Bool} {n : Nat} (h : canonL a = some (b, n)) (f : Bool → Nat → List UInt8 × Int) : on1 a f = f b n := by unfold on1; rw [h]
theorem on1_none {a : List UInt8} (h : canonL a = none) (f : Bool → Nat → List UInt8 × Int) : on1 a f = ([], 1) := by unfold on1; rw [h]
theorem on2_some {a b : List UInt8} {bx by_ : Bool} {x y : Nat} (h : canonL a = some (bx, x)) (k : canonL b = some (by_, y)) (f : Bool → Nat → Bool → Nat → List UInt8 × Int) : on2 a b f = f bx x by_ y := by
  unfold on2; rw [on1_some h, on1_some k]
theorem on2_none {a b : List UInt8} (h : canonL a = none ∨ canonL b = none) (f : Bool → Nat → Bool → Nat → List UInt8 × Int) : on2 a b f = ([], 1) := by
  unfold on2
  rcases h with h | h
  · rw [on1_none h]
  · cases e : canonL a with
    | none => rw [on1_none e]
    | some x => rw [on1_some (b := x.1) (n := x.2) e, on1_none h]

/-! ### sums and products -/
theorem addR_comm (a b : List UInt8) : addR a b = addR b a := by
  unfold addR
  cases ha : canonL a with
  | none => rw [on2_none (.inl ha), on2_none (.inr ha)]
  | some x => cases hb : canonL b with
    | none => rw [on2_none (.inr hb), on2_none (.inl hb)]
    | some y =>
      rw [on2_some (bx := x.1) (x := x.2) (by_ := y.1) (y := y.2) ha hb, on2_some (bx := y.1) (x := y.2) (by_ := x.1) (y := x.2) hb ha]
      exact resR_toZ (by rw [toZ_plus, toZ_plus, Int.add_comm])
theorem mulR_comm (a b : List UInt8) : mulR a b = mulR b a := by
  unfold mulR
  cases ha : canonL a with
  | none => rw [on2_none (.inl ha), on2_none (.inr ha)]
  | some x => cases hb : canonL b with
    | none => rw [on2_none (.inr hb), on2_none (.inl hb)]
    | some y =>
      rw [on2_some (bx := x.1) (x := x.2) (by_ := y.1) (y := y.2) ha hb, on2_some (bx := y.1) (x := y.2) (by_ := x.1) (y := x.2) hb ha, Nat.mul_comm, show (x.1 != y.1) = (y.1 != x.1) by cases x.1 <;> cases y.1 <;> rfl]
/-- A text that was given back is canonical: its number. -/
theorem resR_back {b : Bool} {n : Nat} {t : List UInt8} (h : resR b n = (t, 0)) : ∃ c, canonL t = some (c, n) ∧ toZ c n = toZ b n := by
  cases e : textL b n with
  | none => unfold resR at h; rw [e] at h; cases h
  | some u =>
    rw [resR_text e] at h
    cases h
    refine ⟨_, canon_text b n t e, ?_⟩
    unfold toZ
    by_cases h0 : n = 0
    · subst h0; simp
    · simp [h0]
theorem subR_addR (a b x : List UInt8) (h : addR a b = (x, 0)) : subR x b = (a, 0) := by
  unfold addR at h
  cases ha : canonL a with
  | none => rw [on2_none (.inl ha)] at h; cases h
  | some p => cases hb : canonL b with
    | none => rw [on2_none (.inr hb)] at h; cases h
    | some q =>
      obtain ⟨bx, m⟩ := p
      obtain ⟨by_, n⟩ := q
      rw [on2_some ha hb] at h
      obtain ⟨c, hc, hz⟩ := resR_back h
      unfold subR
      rw [on2_some hc hb]
      refine resR_canon ha ?_
      rw [toZ_plus, hz, toZ_plus, toZ_not]
      omega
theorem negR_none (a : List UInt8) (h : canonL a = none) : negR a = ([], 1) := on1_none h _
theorem negR_negR (a : List UInt8) (b : Bool) (n : Nat) (h : canonL a = some (b, n)) : ∃ t, negR a = (t, 0) ∧ negR t = (a, 0) := by
  unfold negR
  rw [on1_some h]
  obtain ⟨t, ht, _⟩ := resR_lt (!b) n (canonL_lt h)
  refine ⟨t, ht, ?_⟩
  obtain ⟨c, hc, hz⟩ := resR_back ht
  rw [on1_some hc]
  refine resR_canon h ?_
  rw [toZ_not, hz, toZ_not]
  omega
end Go.Proofs.YtgmnjghbafbopaaGreatDoor
namespace Go.Proofs.YtgmnjghbafbopaaGreatDoor
open Go.Lib

theorem canon_parts {s : List UInt8} {b : Bool} {n : Nat} (h : canonL s = some (b, n)) : s = (if b = true then [45] else []) ++ bodyL n := by
  obtain ⟨h1, h2, h3⟩ := text_canon s b n h
  have hz := body_zero n
  unfold textL at h1
  split at h1
  · cases h1
  · cases h1
    refine congrArg (· ++ bodyL n) ?_
    by_cases hb : b = true
    · rw [if_pos hb, if_pos ⟨hb, fun e => h3 hb (hz.1 e)⟩]
    · rw [if_neg hb, if_neg (fun e => hb e.1)]
theorem body_head (n : Nat) : ∃ d t, bodyL n = d :: t ∧ isDg d = true := by
  obtain ⟨B, A, e, _, _, h1, h2, _⟩ := body_parts n
  cases B with
  | nil => exact absurd rfl h1
  | cons d t => exact ⟨d, _, e, h2 d (by simp)⟩
theorem dg_not45 {d : UInt8} (h : isDg d = true) : d ≠ 45 := by rintro rfl; exact absurd h (by decide)
/-- A text without the sign. -/
def absL : List UInt8 → List UInt8
  | [] => []
  | b :: t => if b = 45 then t else b :: t
theorem absL_canon {s : List UInt8} {b : Bool} {n : Nat} (h : canonL s = some (b, n)) : canonL (absL s) = some (false, n) := by
  have hs := canon_parts h
  obtain ⟨d, t, e, hd⟩ := body_head n
  have ha : absL s = bodyL n := by
    rw [hs, e]
    cases b with
    | true => rfl
    | false =>
      show (if d = 45 then t else d :: t) = d :: t
      rw [if_neg (dg_not45 hd)]
  have ht : textL false n = some (bodyL n) := by
    obtain ⟨u, hu⟩ := textL_some false n (canonL_lt h)
    rw [hu]
    unfold textL at hu
    split at hu
    · cases hu
    · cases hu; simp
  have := canon_text false n _ ht
  rw [ha]
  simpa using this
theorem head_neg {s : List UInt8} {b : Bool} {n : Nat} (h : canonL s = some (b, n)) : ∃ d t, s = d :: t ∧ decide (d = 45) = b := by
  have hs := canon_parts h
  obtain ⟨d, t, e, hd⟩ := body_head n
  cases b with
  | true => exact ⟨45, bodyL n, hs, by decide⟩
  | false => exact ⟨d, t, hs.trans e, by simpa using dg_not45 hd⟩
theorem canon_zero {s : List UInt8} {b : Bool} {n : Nat} (h : canonL s = some (b, n)) : s = [48] ↔ n = 0 := by
  have hz := body_zero n
  have hs := canon_parts h
  have hb := (text_canon s b n h).2.2
  constructor
  · intro e
    obtain ⟨d, t, e2, hd⟩ := head_neg h
    rw [e] at e2
    cases e2
    have hbf : b = false := by rw [← hd]; rfl
    subst hbf
    rw [e] at hs
    exact hz.1 (by simpa using hs.symm)
  · rintro rfl
    have hbf : b = false := by
      cases b with
      | true => exact absurd rfl (hb rfl)
      | false => rfl
    subst hbf
    rw [hs, hz.2 rfl]; rfl
theorem toZ_add (b : Bool) (m n : Nat) : toZ b m + toZ b n = toZ b (m + n) := by
  unfold toZ
  cases b <;> simp <;> omega
theorem toZ_zero (b : Bool) : toZ b 0 = 0 := by unfold toZ; cases b <;> rfl
/-- A way that changes nothing where nothing is cut off. -/
def Calm (way : Ct → Bool) : Prop := ∀ c : Ct, c.none = true → c.half = -1 → way c = false
theorem even_calm : Calm evenW := fun c h k => by unfold evenW; rw [k]; rfl
theorem half_calm : Calm halfW := fun c h k => by unfold halfW; rw [k]; rfl
theorem floor_calm : Calm floorW := fun c h k => by unfold floorW; rw [h]; cases c.below <;> rfl
theorem ceil_calm : Calm ceilW := fun c h k => by unfold ceilW; rw [h]; cases c.below <;> rfl
theorem cut_calm : Calm cutW := fun _ _ _ => rfl
theorem divW_exact {way : Ct → Bool} (hw : Calm way) (below : Bool) (k U : Nat) (hU : 0 < U) : divW way below (k * U) U = k := by
  unfold divW
  rw [Nat.mul_mod_left, Nat.mul_div_cancel _ hU, if_neg]
  rw [hw _ (by simp) (by simp only [Nat.mul_zero]; unfold sgnN; rw [if_pos hU])]
  decide

/-! ### a remainder and a quotient -/
theorem onD_some {a b : List UInt8} {bx by_ : Bool} {x y : Nat} (ha : canonL a = some (bx, x)) (hb : canonL b = some (by_, y)) (hy : y ≠ 0) (f : Bool → Nat → Bool → Nat → List UInt8 × Int) : onD a b f = f bx x by_ y := by
  unfold onD; rw [on2_some ha hb, if_neg hy]
theorem onD_zero {a b : List UInt8} {bx by_ : Bool} {x : Nat} (ha : canonL a = some (bx, x)) (hb : canonL b = some (by_, 0)) (f : Bool → Nat → Bool → Nat → List UInt8 × Int) : onD a b f = ([], 41) := by
  unfold onD; rw [on2_some ha hb, if_pos rfl]
theorem onD_none {a b : List UInt8} (h : canonL a = none ∨ canonL b = none) (f : Bool → Nat → Bool → Nat → List UInt8 × Int) : onD a b f = ([], 1) := on2_none h _
theorem mod_is {a b : List UInt8} {bx by_ : Bool} {x y : Nat} (ha : canonL a = some (bx, x)) (hb : canonL b = some (by_, y)) (hy : y ≠ 0) :
    ∃ r c, modR a b = (r, 0) ∧ canonL r = some (c, x % y) ∧ toZ c (x % y) = toZ bx (x % y) := by
  unfold modR
  rw [onD_some ha hb hy]
  obtain ⟨r, hr, _⟩ := resR_lt bx (x % y) (Nat.lt_of_le_of_lt (Nat.mod_le _ _) (canonL_lt ha))
  obtain ⟨c, h1, h2⟩ := resR_back hr
  exact ⟨r, c, hr, h1, h2⟩
theorem cmpR_some {a b : List UInt8} {bx by_ : Bool} {x y : Nat} (ha : canonL a = some (bx, x)) (hb : canonL b = some (by_, y)) : cmpR a b = (cmpN bx by_ x y, 0) := by
  unfold cmpR; rw [ha, hb]
theorem idiv_is {a b : List UInt8} {bx by_ : Bool} {x y : Nat} (ha : canonL a = some (bx, x)) (hb : canonL b = some (by_, y)) (hy : y ≠ 0) :
    idivR a b = ([], 40) ∨ ∃ q c, idivR a b = (q, 0) ∧ canonL q = some (c, x / y * 10 ^ 20) ∧ toZ c (x / y * 10 ^ 20) = toZ (bx != by_) (x / y * 10 ^ 20) := by
  unfold idivR
  rw [onD_some ha hb hy]
  rcases Nat.lt_or_ge (x / y * 10 ^ 20) (10 ^ 50) with h | h
  · obtain ⟨q, hq, _⟩ := resR_lt (bx != by_) _ h
    obtain ⟨c, h1, h2⟩ := resR_back hq
    exact .inr ⟨q, c, hq, h1, h2⟩
  · exact .inl (resR_ge _ _ h)
theorem mul_back {b q : List UInt8} {bx by_ c : Bool} {x y : Nat} (hb : canonL b = some (by_, y)) (hx : x < 10 ^ 50) (hq : canonL q = some (c, x / y * 10 ^ 20)) (hc : toZ c (x / y * 10 ^ 20) = toZ (bx != by_) (x / y * 10 ^ 20)) :
    ∃ p d, mulR b q = (p, 0) ∧ canonL p = some (d, y * (x / y)) ∧ toZ d (y * (x / y)) = toZ bx (y * (x / y)) := by
  unfold mulR
  rw [on2_some hb hq, ← Nat.mul_assoc, divW_exact even_calm _ _ _ (by decide)]
  obtain ⟨p, hp, _⟩ := resR_lt (by_ != c) (y * (x / y)) (Nat.lt_of_le_of_lt (Nat.mul_div_le _ _) hx)
  obtain ⟨d, h1, h2⟩ := resR_back hp
  refine ⟨p, d, hp, h1, h2.trans ?_⟩
  by_cases h0 : x / y = 0
  · rw [h0, Nat.mul_zero, toZ_zero, toZ_zero]
  · have hne : x / y * 10 ^ 20 ≠ 0 := Nat.mul_ne_zero h0 (by decide)
    obtain ⟨_, h3⟩ := toZ_inj hc
    rcases h3 with rfl | h3
    · congr 1
      cases by_ <;> cases bx <;> rfl
    · exact absurd h3 hne
theorem add_back {a p r : List UInt8} {bx c d : Bool} {x y : Nat} (ha : canonL a = some (bx, x)) (hp : canonL p = some (d, y * (x / y))) (hd : toZ d (y * (x / y)) = toZ bx (y * (x / y))) (hr : canonL r = some (c, x % y)) (hc : toZ c (x % y) = toZ bx (x % y)) :
    addR p r = (a, 0) := by
  unfold addR
  rw [on2_some hp hr]
  refine resR_canon ha ?_
  rw [toZ_plus, hd, hc, toZ_add, Nat.div_add_mod]
theorem canon_after {s : List UInt8} {b : Bool} {n : Nat} (h : canonL s = some (b, n)) (h0 : n % 10 ^ 20 = 0) : isIntR s = true := by
  obtain ⟨w, hw, hc, hn⟩ := canonL_split h
  obtain ⟨hs, hpA, dB, dA, h3, _⟩ := split_back s w hw
  unfold isIntR
  rw [hw]
  simp only
  rw [hc]
  cases hp : w.point with
  | false => rfl
  | true =>
    exfalso
    have hc2 := hc
    unfold canonW at hc2
    split at hc2
    · cases hc2
    · rename_i k1
      split at hc2
      · cases hc2
      · try rw [if_pos hp] at hc2
        rw [decide_eq_true_iff] at hc2
        obtain ⟨hA, hl⟩ := hc2
        simp only [not_or, Nat.not_lt] at k1
        obtain ⟨_, _, _, lA⟩ := k1
        unfold numL at hn
        simp only [Prod.mk.injEq] at hn
        obtain ⟨_, hn⟩ := hn
        rw [if_neg (by omega), valD_app, valD_acc, Nat.add_mul, Nat.mul_assoc, ← Nat.pow_add, show w.after.length + (20 - w.after.length) = 20 by omega] at hn
        have hx : valD w.after 0 * 10 ^ (20 - w.after.length) < 10 ^ 20 := by
          have h1 := valD_lt w.after dA
          have h2 : 10 ^ w.after.length * 10 ^ (20 - w.after.length) = 10 ^ 20 := by rw [← Nat.pow_add, show w.after.length + (20 - w.after.length) = 20 by omega]
          rw [← h2]
          exact Nat.mul_lt_mul_of_pos_right h1 (Nat.pow_pos (by omega))
        have hz : valD w.after 0 * 10 ^ (20 - w.after.length) = 0 := by
          rw [← hn, Nat.mul_comm _ (10 ^ 20), Nat.mul_add_mod, Nat.mod_eq_of_lt hx] at h0
          exact h0
        have hz2 : valD w.after 0 = 0 := by
          rcases Nat.mul_eq_zero.1 hz with h | h
          · exact h
          · exact absurd h (Nat.ne_of_gt (Nat.pow_pos (by omega)))
        have hf := fixed_val _ dA
        rw [hz2, fixed_zero] at hf
        have hAl : 0 < w.after.length := List.length_pos_iff.2 hA
        apply hl
        rw [← hf]
        obtain ⟨k, hk⟩ : ∃ k, w.after.length = k + 1 := ⟨w.after.length - 1, by omega⟩
        rw [hk, List.replicate_succ']
        simp
end Go.Proofs.YtgmnjghbafbopaaGreatDoor
namespace Go.Proofs.YtgmnjghbafbopaaGreatDoor
open Go.Lib

def sgnZ (a b : Int) : Int := if a < b then -1 else if b < a then 1 else 0
theorem cmpN_toZ (bx by_ : Bool) (x y : Nat) (hx : bx = true → x ≠ 0) (hy : by_ = true → y ≠ 0) : cmpN bx by_ x y = sgnZ (toZ bx x) (toZ by_ y) := by
  cases bx <;> cases by_
  · show sgnN x y = sgnZ (x : Int) (y : Int)
    unfold sgnN sgnZ
    simp only [Int.ofNat_lt]
  · have := hy rfl
    show (1 : Int) = sgnZ (x : Int) (-(y : Int))
    unfold sgnZ
    rw [if_neg (by omega), if_pos (by omega)]
  · have := hx rfl
    show (-1 : Int) = sgnZ (-(x : Int)) (y : Int)
    unfold sgnZ
    rw [if_pos (by omega)]
  · show sgnN y x = sgnZ (-(x : Int)) (-(y : Int))
    unfold sgnN sgnZ
    by_cases h1 : y < x
    · have k1 : -(x : Int) < -(y : Int) := by omega
      simp only [h1, k1, if_true]
    · have k1 : ¬ -(x : Int) < -(y : Int) := by omega
      simp only [h1, k1, if_false]
      by_cases h2 : x < y
      · have k2 : -(y : Int) < -(x : Int) := by omega
        simp only [h2, k2, if_true]
      · have k2 : ¬ -(y : Int) < -(x : Int) := by omega
        simp only [h2, k2, if_false]
/-- What a rounded number is. -/
theorem round_is {a how : List UInt8} {bx : Bool} {x : Nat} {d : Int} {way : Ct → Bool} {U : Nat} (ha : canonL a = some (bx, x)) (h1 : -30 ≤ d) (h2 : d ≤ 20) (hw : wayL how = some way) (hU : 10 ^ (20 - d).toNat = U) :
    roundR a d how = resR bx (divW way bx x U * U) := by
  unfold roundR
  rw [on1_some ha, if_neg (by omega), hw]
  simp only [hU]
theorem round_none {a how : List UInt8} {d : Int} (ha : canonL a = none) : roundR a d how = ([], 1) := on1_none ha _
theorem res_two (b : Bool) (n : Nat) : resR b n = ([], 40) ∨ ∃ t c, resR b n = (t, 0) ∧ canonL t = some (c, n) ∧ toZ c n = toZ b n := by
  rcases Nat.lt_or_ge n (10 ^ 50) with h | h
  · obtain ⟨t, ht, _⟩ := resR_lt b n h
    obtain ⟨c, h1, h2⟩ := resR_back ht
    exact .inr ⟨t, c, ht, h1, h2⟩
  · exact .inl (resR_ge b n h)
theorem round_again {r how : List UInt8} {c : Bool} {m U : Nat} {d : Int} {way : Ct → Bool} (hr : canonL r = some (c, m * U)) (h1 : -30 ≤ d) (h2 : d ≤ 20) (hw : wayL how = some way) (hU : 10 ^ (20 - d).toNat = U) (hU0 : 0 < U) (hc : Calm way) :
    roundR r d how = (r, 0) := by
  rw [round_is hr h1 h2 hw hU, divW_exact hc _ _ _ hU0]
  exact resR_canon hr rfl
/-- How far a number is from the rounded one. -/
theorem divW_near {way : Ct → Bool} (hc : Calm way) (b : Bool) (x U : Nat) (hU : 0 < U) : (divW way b x U * U ≤ x ∧ x - divW way b x U * U < U) ∨ (x < divW way b x U * U ∧ divW way b x U * U - x < U) := by
  have h1 := Nat.div_add_mod x U
  have h2 := Nat.mod_lt x hU
  unfold divW
  split
  · rename_i hw
    right
    have h3 : x % U ≠ 0 := by
      intro h0
      rw [h0, hc _ (by simp) (by simp only [Nat.mul_zero]; unfold sgnN; rw [if_pos hU])] at hw
      cases hw
    rw [Nat.add_mul, Nat.one_mul, Nat.mul_comm (x / U) U]
    omega
  · left
    rw [Nat.mul_comm (x / U) U]
    omega
def Nearest (way : Ct → Bool) : Prop := ∀ c : Ct, (way c = true → 0 ≤ c.half) ∧ (way c = false → c.half ≤ 0)
theorem even_nearest : Nearest evenW := fun c => by
  unfold evenW
  constructor
  · intro h
    simp at h
    omega
  · intro h
    simp at h
    omega
theorem half_nearest : Nearest halfW := fun c => by
  unfold halfW
  constructor
  · intro h
    simp at h
    omega
  · intro h
    simp at h
    omega
theorem divW_half {way : Ct → Bool} (hn : Nearest way) (b : Bool) (x U : Nat) (hU : 0 < U) : 2 * (x - divW way b x U * U) ≤ U ∧ 2 * (divW way b x U * U - x) ≤ U := by
  have h1 := Nat.div_add_mod x U
  have h2 := Nat.mod_lt x hU
  have h3 := hn ⟨b, decide (x / U % 2 = 1), decide (x % U = 0), sgnN (2 * (x % U)) U⟩
  unfold divW
  split
  · rename_i hw
    have h4 := h3.1 hw
    have h5 : U ≤ 2 * (x % U) := by
      refine Nat.le_of_not_lt fun hlt => ?_
      simp only at h4
      unfold sgnN at h4
      rw [if_pos hlt] at h4
      omega
    rw [Nat.add_mul, Nat.one_mul, Nat.mul_comm (x / U) U]
    omega
  · rename_i hw
    have h4 := h3.2 (by simpa using hw)
    have h5 : 2 * (x % U) ≤ U := by
      refine Nat.le_of_not_lt fun hlt => ?_
      simp only at h4
      unfold sgnN at h4
      rw [if_neg (by omega), if_pos hlt] at h4
      omega
    rw [Nat.mul_comm (x / U) U]
    omega
/-- The difference of a number and the rounded one. -/
theorem near_sub {a r : List UInt8} {bx c : Bool} {x M D : Nat} (ha : canonL a = some (bx, x)) (hr : canonL r = some (c, M)) (hc : toZ c M = toZ bx M) (hD : D = (x - M) + (M - x)) (hlt : D < 10 ^ 50) :
    ∃ s e, subR a r = (s, 0) ∧ canonL s = some (e, D) := by
  unfold subR
  rw [on2_some ha hr]
  obtain ⟨b', hb'⟩ : ∃ b', toZ (plusB bx (!c) x M) (plusN bx (!c) x M) = toZ b' D := by
    rw [toZ_plus, toZ_not, hc, hD]
    rcases Nat.le_total x M with h | h
    · refine ⟨!bx, ?_⟩
      unfold toZ
      cases bx <;> simp <;> omega
    · refine ⟨bx, ?_⟩
      unfold toZ
      cases bx <;> simp <;> omega
  rw [resR_toZ hb']
  obtain ⟨s, hs, _⟩ := resR_lt b' D hlt
  obtain ⟨e, h1, _⟩ := resR_back hs
  exact ⟨s, e, hs, h1⟩
/-- The text of 10 to the power -d. -/
def unitL (d : Int) : List UInt8 := if 0 < d then [48, 46] ++ List.replicate (d - 1).toNat 48 ++ [49] else 49 :: List.replicate (-d).toNat 48
theorem unit_canon (d : Int) (h1 : -29 ≤ d) (h2 : d ≤ 20) : canonL (unitL d) = some (false, 10 ^ (20 - d).toNat) := by
  have key : ∀ k : Fin 50, canonL (unitL ((k.val : Int) - 29)) = some (false, 10 ^ (20 - ((k.val : Int) - 29)).toNat) := by decide
  have := key ⟨(d + 29).toNat, by omega⟩
  have e : (((⟨(d + 29).toNat, by omega⟩ : Fin 50).val : Int) - 29) = d := by simp only; omega
  rwa [e] at this
/-- What the tests of a difference say. -/
theorem near_less {s : List UInt8} {e : Bool} {D U : Nat} {d : Int} (hs : canonL s = some (e, D)) (h1 : -29 ≤ d) (h2 : d ≤ 20) (hU : 10 ^ (20 - d).toNat = U) (hD : D < U) : cmpR (absL s) (unitL d) = (-1, 0) := by
  rw [cmpR_some (absL_canon hs) (unit_canon d h1 h2), hU]
  unfold cmpN sgnN
  rw [if_neg (by simp), if_neg (by decide), if_neg (by decide), if_pos hD]
theorem near_half {s : List UInt8} {e : Bool} {D U : Nat} {d : Int} (hs : canonL s = some (e, D)) (h1 : -29 ≤ d) (h2 : d ≤ 20) (hU : 10 ^ (20 - d).toNat = U) (hD : 2 * D ≤ U) :
    addR (absL s) (absL s) = ([], 40) ∨ ∃ t z, addR (absL s) (absL s) = (t, 0) ∧ cmpR t (unitL d) = (z, 0) ∧ z ≤ 0 := by
  have ha := absL_canon hs
  have e1 : addR (absL s) (absL s) = resR false (D + D) := by unfold addR; rw [on2_some ha ha]; rfl
  rw [e1]
  rcases res_two false (D + D) with h | ⟨t, c, h, hc, hz⟩
  · exact .inl h
  · obtain ⟨_, h3⟩ := toZ_inj hz
    refine .inr ⟨t, _, h, by rw [cmpR_some hc (unit_canon d h1 h2)], ?_⟩
    rw [hU]
    have hcf : c = false := by
      rcases h3 with h3 | h3
      · exact h3
      · have := (text_canon _ _ _ hc).2.2
        cases c with
        | true => exact absurd h3 (this rfl)
        | false => rfl
    rw [hcf]
    unfold cmpN sgnN
    rw [if_neg (by simp), if_neg (by decide), if_neg (by decide)]
    split
    · omega
    · rw [if_neg (by omega)]; omega
/-- Floor and ceiling are on their side. -/
theorem floor_side {a r : List UInt8} {bx c : Bool} {x U : Nat} (ha : canonL a = some (bx, x)) (hU : 0 < U) (hr : canonL r = some (c, divW floorW bx x U * U)) (hc : toZ c (divW floorW bx x U * U) = toZ bx (divW floorW bx x U * U)) : ∃ z, cmpR r a = (z, 0) ∧ z ≤ 0 := by
  refine ⟨_, cmpR_some hr ha, ?_⟩
  have h1 := Nat.div_add_mod x U
  have h2 := Nat.mod_lt x hU
  rw [cmpN_toZ _ _ _ _ (text_canon _ _ _ hr).2.2 (text_canon _ _ _ ha).2.2, hc]
  have hq : divW floorW bx x U * U = if bx = true ∧ x % U ≠ 0 then U * (x / U) + U else U * (x / U) := by
    unfold divW floorW
    rw [Nat.mul_comm]
    cases bx <;> by_cases h : x % U = 0 <;> simp [h, Nat.mul_add]
  have hle : toZ bx (divW floorW bx x U * U) ≤ toZ bx x := by
    rw [hq]
    generalize U * (x / U) = P at *
    unfold toZ
    cases bx with
    | false => simp; omega
    | true =>
      by_cases h : x % U = 0
      · simp [h]; omega
      · simp [h]; omega
  unfold sgnZ
  split
  · omega
  · rw [if_neg (by omega)]; omega
theorem ceil_side {a r : List UInt8} {bx c : Bool} {x U : Nat} (ha : canonL a = some (bx, x)) (hU : 0 < U) (hr : canonL r = some (c, divW ceilW bx x U * U)) (hc : toZ c (divW ceilW bx x U * U) = toZ bx (divW ceilW bx x U * U)) : ∃ z, cmpR r a = (z, 0) ∧ 0 ≤ z := by
  refine ⟨_, cmpR_some hr ha, ?_⟩
  have h1 := Nat.div_add_mod x U
  have h2 := Nat.mod_lt x hU
  rw [cmpN_toZ _ _ _ _ (text_canon _ _ _ hr).2.2 (text_canon _ _ _ ha).2.2, hc]
  have hq : divW ceilW bx x U * U = if bx = false ∧ x % U ≠ 0 then U * (x / U) + U else U * (x / U) := by
    unfold divW ceilW
    rw [Nat.mul_comm]
    cases bx <;> by_cases h : x % U = 0 <;> simp [h, Nat.mul_add]
  have hle : toZ bx x ≤ toZ bx (divW ceilW bx x U * U) := by
    rw [hq]
    generalize U * (x / U) = P at *
    unfold toZ
    cases bx with
    | true => simp; omega
    | false =>
      by_cases h : x % U = 0
      · simp [h]; omega
      · simp [h]; omega
  unfold sgnZ
  rw [if_neg (by omega)]
  split <;> omega
theorem cmp_any2 {a r : List UInt8} {bx c : Bool} {x M : Nat} (ha : canonL a = some (bx, x)) (hr : canonL r = some (c, M)) : ∃ z, cmpR r a = (z, 0) := ⟨_, cmpR_some hr ha⟩
/-- Floor and ceiling are each other's mirror. -/
theorem floor_ceil {bx c : Bool} {x : Nat} (U : Nat) (hz : toZ c x = toZ (!bx) x) (hb : bx = true → x ≠ 0) : divW ceilW c x U = divW floorW bx x U := by
  obtain ⟨_, h⟩ := toZ_inj hz
  unfold divW ceilW floorW
  rcases h with rfl | rfl
  · cases bx <;> simp
  · have : bx = false := by cases bx with
      | true => exact absurd rfl (hb rfl)
      | false => rfl
    subst this
    simp
theorem mirror {a how1 how2 : List UInt8} {bx : Bool} {x U : Nat} {d : Int} (ha : canonL a = some (bx, x)) (h1 : -30 ≤ d) (h2 : d ≤ 20) (hw1 : wayL how1 = some floorW) (hw2 : wayL how2 = some ceilW) (hU : 10 ^ (20 - d).toNat = U) :
    ∃ m, negR a = (m, 0) ∧ ((roundR a d how1 = ([], 40) ∧ roundR m d how2 = ([], 40)) ∨ ∃ l h, roundR a d how1 = (l, 0) ∧ roundR m d how2 = (h, 0) ∧ negR l = (h, 0)) := by
  have e1 : negR a = resR (!bx) x := by unfold negR; rw [on1_some ha]
  obtain ⟨m, hm, _⟩ := resR_lt (!bx) x (canonL_lt ha)
  obtain ⟨c, hc, hz⟩ := resR_back hm
  refine ⟨m, e1.trans hm, ?_⟩
  rw [round_is ha h1 h2 hw1 hU, round_is hc h1 h2 hw2 hU, floor_ceil U hz (text_canon _ _ _ ha).2.2]
  have hM0 : x = 0 → divW floorW bx x U * U = 0 := by
    rintro rfl
    unfold divW floorW
    simp
  generalize divW floorW bx x U * U = M at *
  rcases res_two bx M with h | ⟨l, e, h, he, hze⟩
  · refine .inl ⟨h, resR_ge _ _ ?_⟩
    refine Nat.le_of_not_lt fun hlt => ?_
    obtain ⟨t, ht, _⟩ := resR_lt bx M hlt
    rw [ht] at h
    cases h
  · refine .inr ?_
    obtain ⟨t, ht, _⟩ := resR_lt c M (canonL_lt he)
    refine ⟨l, t, h, ht, ?_⟩
    unfold negR
    rw [on1_some he]
    obtain ⟨c2, hc2, hz2⟩ := resR_back ht
    refine resR_canon hc2 ?_
    rw [toZ_not, hze, hz2]
    obtain ⟨_, h3⟩ := toZ_inj hz
    rcases h3 with rfl | rfl
    · rw [toZ_not]
    · rw [hM0 rfl, toZ_zero, toZ_zero]; rfl
end Go.Proofs.YtgmnjghbafbopaaGreatDoor

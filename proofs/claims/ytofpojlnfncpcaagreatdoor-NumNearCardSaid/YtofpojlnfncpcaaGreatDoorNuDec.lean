/- Plain facts: decimal digits of numbers, without and with zeros; canonical texts of multiples of 10^-20. No program in this text. -/
import Derived.Test.YtofpojlnfncpcaaGreatDoorNuWords
namespace Go.Proofs.YtofpojlnfncpcaaGreatDoor

def dg (d : Nat) : UInt8 := (48 + d).toUInt8
def isDg (b : UInt8) : Bool := decide (48 ≤ b.toNat ∧ b.toNat ≤ 57)
theorem dg_nat (d : Nat) (h : d < 10) : (dg d).toNat = 48 + d := by unfold dg; simp [Nat.toUInt8, UInt8.toNat_ofNat']; omega
theorem dg_is (d : Nat) (h : d < 10) : isDg (dg d) = true := by unfold isDg; rw [dg_nat d h, decide_eq_true_iff]; omega
theorem isDg_iff (b : UInt8) : isDg b = true ↔ 48 ≤ b.toNat ∧ b.toNat ≤ 57 := by unfold isDg; rw [decide_eq_true_iff]
theorem dg_back (b : UInt8) (h : isDg b = true) : dg (b.toNat - 48) = b := by
  rw [isDg_iff] at h
  apply UInt8.toNat_inj.1
  rw [dg_nat _ (by omega)]; omega
theorem dg_zero (d : Nat) (h : d < 10) : dg d = 48 ↔ d = 0 := by
  constructor
  · intro e
    have := congrArg UInt8.toNat e
    rw [dg_nat d h] at this
    have h48 : (48 : UInt8).toNat = 48 := rfl
    omega
  · rintro rfl; rfl
def Dgs (l : List UInt8) : Prop := ∀ b ∈ l, isDg b = true
theorem Dgs.nil : Dgs [] := fun _ h => by cases h
theorem Dgs.cons {b : UInt8} {t : List UInt8} (h : isDg b = true) (k : Dgs t) : Dgs (b :: t) := fun x hx => by
  rcases List.mem_cons.1 hx with rfl | hx
  · exact h
  · exact k x hx
theorem Dgs.app {a b : List UInt8} (h : Dgs a) (k : Dgs b) : Dgs (a ++ b) := fun x hx => (List.mem_append.1 hx).elim (h x) (k x)
theorem Dgs.left {a b : List UInt8} (h : Dgs (a ++ b)) : Dgs a := fun x hx => h x (by simp [hx])
theorem Dgs.right {a b : List UInt8} (h : Dgs (a ++ b)) : Dgs b := fun x hx => h x (by simp [hx])
theorem Dgs.zeros (n : Nat) : Dgs (List.replicate n 48) := fun x hx => by rw [List.eq_of_mem_replicate hx]; rfl
/-- The number that digits write, behind another one. -/
def valD : List UInt8 → Nat → Nat
  | [], n => n
  | b :: t, n => valD t (10 * n + (b.toNat - 48))
theorem valD_app : ∀ (a b : List UInt8) (n : Nat), valD (a ++ b) n = valD b (valD a n)
  | [], _, _ => rfl
  | x :: a, b, n => by rw [List.cons_append, valD, valD, valD_app a b]
theorem valD_acc : ∀ (l : List UInt8) (n : Nat), valD l n = n * 10 ^ l.length + valD l 0
  | [], n => by simp [valD]
  | b :: t, n => by
    rw [valD, valD, valD_acc t (10 * n + (b.toNat - 48)), valD_acc t (10 * 0 + (b.toNat - 48)), List.length_cons, Nat.pow_succ, Nat.add_mul, Nat.mul_comm 10 n, Nat.mul_assoc n 10, Nat.mul_comm 10 (10 ^ t.length)]
    simp only [Nat.mul_zero, Nat.zero_add]
    omega
theorem valD_lt : ∀ l : List UInt8, Dgs l → valD l 0 < 10 ^ l.length
  | [], _ => by simp [valD]
  | b :: t, h => by
    have h1 := (isDg_iff b).1 (h b (by simp))
    have h2 := valD_lt t (fun x hx => h x (by simp [hx]))
    rw [valD, valD_acc, List.length_cons, Nat.pow_succ]
    have h3 : (10 * 0 + (b.toNat - 48)) * 10 ^ t.length ≤ 9 * 10 ^ t.length := Nat.mul_le_mul_right _ (by omega)
    omega
theorem valD_zeros : ∀ (k n : Nat), valD (List.replicate k 48) n = n * 10 ^ k
  | 0, n => by simp [valD]
  | k + 1, n => by
    rw [List.replicate_succ, valD, valD_zeros k, Nat.pow_succ]
    have h48 : (48 : UInt8).toNat = 48 := rfl
    rw [h48, Nat.sub_self, Nat.add_zero, Nat.mul_comm 10 n, Nat.mul_assoc, Nat.mul_comm 10]
/-- The last k digits of a number. -/
def fixed : Nat → Nat → List UInt8
  | 0, _ => []
  | k + 1, n => fixed k (n / 10) ++ [dg (n % 10)]
theorem fixed_len : ∀ k n : Nat, (fixed k n).length = k
  | 0, _ => rfl
  | k + 1, n => by rw [fixed, List.length_append, fixed_len k]; rfl
theorem fixed_dgs : ∀ k n : Nat, Dgs (fixed k n)
  | 0, _ => Dgs.nil
  | k + 1, n => Dgs.app (fixed_dgs k _) (Dgs.cons (dg_is _ (by omega)) Dgs.nil)
theorem valD_fixed : ∀ k n : Nat, valD (fixed k n) 0 = n % 10 ^ k
  | 0, n => by simp [fixed, valD, Nat.mod_one]
  | k + 1, n => by
    rw [fixed, valD_app, valD_fixed k, valD, valD, dg_nat _ (by omega), Nat.pow_succ, Nat.mul_comm (10 ^ k) 10, Nat.mod_mul]
    omega
theorem fixed_add : ∀ a b n : Nat, fixed (a + b) n = fixed a (n / 10 ^ b) ++ fixed b n
  | a, 0, n => by simp [fixed]
  | a, b + 1, n => by
    rw [← Nat.add_assoc, fixed, fixed_add a b (n / 10), fixed, List.append_assoc, Nat.div_div_eq_div_mul, Nat.pow_succ, Nat.mul_comm 10]
theorem fixed_mod : ∀ k n : Nat, fixed k (n % 10 ^ k) = fixed k n
  | 0, _ => rfl
  | k + 1, n => by
    have e1 : n % 10 ^ (k + 1) % 10 = n % 10 := Nat.mod_mod_of_dvd n ⟨10 ^ k, by rw [Nat.pow_succ, Nat.mul_comm]⟩
    have e2 : n % 10 ^ (k + 1) / 10 = n / 10 % 10 ^ k := by
      rw [Nat.pow_succ, Nat.mul_comm (10 ^ k) 10, Nat.mod_mul]
      omega
    rw [fixed, fixed, e1, e2, fixed_mod k]
theorem fixed_zero : ∀ k : Nat, fixed k 0 = List.replicate k 48
  | 0 => rfl
  | k + 1 => by rw [fixed, fixed_zero k, List.replicate_succ']; rfl
theorem fixed_mul (k x : Nat) : fixed k (x * 10 ^ k) = List.replicate k 48 := by rw [← fixed_mod, Nat.mul_mod_left, fixed_zero]
/-- Digits are those of their number. -/
theorem fixed_val : ∀ (l : List UInt8), Dgs l → fixed l.length (valD l 0) = l := by
  intro l
  generalize hn : l.length = n
  induction n generalizing l with
  | zero => intro _; rw [List.eq_nil_of_length_eq_zero hn]; rfl
  | succ n ih =>
    intro h
    have hne : l ≠ [] := by intro e; rw [e] at hn; simp at hn
    obtain ⟨t, b, rfl⟩ : ∃ t b, l = t ++ [b] := ⟨l.dropLast, l.getLast hne, (List.dropLast_concat_getLast hne).symm⟩
    have hb := (isDg_iff b).1 (h b (by simp))
    have ht := ih t (by simpa using hn) h.left
    rw [valD_app, valD, valD, fixed]
    have e1 : (10 * valD t 0 + (b.toNat - 48)) / 10 = valD t 0 := by omega
    have e2 : (10 * valD t 0 + (b.toNat - 48)) % 10 = b.toNat - 48 := by omega
    rw [e1, e2, ht, dg_back b (h b (by simp))]
/-- The digits of a number, none for 0. -/
def decN : Nat → Nat → List UInt8
  | 0, _ => []
  | f + 1, n => if n = 0 then [] else decN f (n / 10) ++ [dg (n % 10)]
def dec (n : Nat) : List UInt8 := decN n n
theorem decN_fuel : ∀ (f g n : Nat), n ≤ f → n ≤ g → decN f n = decN g n
  | 0, 0, n, _, _ => rfl
  | 0, g + 1, n, h, _ => by obtain rfl : n = 0 := by omega
                            simp [decN]
  | f + 1, 0, n, _, h => by obtain rfl : n = 0 := by omega
                            simp [decN]
  | f + 1, g + 1, n, h, k => by
    unfold decN
    split
    · rfl
    · rw [decN_fuel f g (n / 10) (by omega) (by omega)]
theorem dec_zero : dec 0 = [] := rfl
theorem dec_pos (n : Nat) (h : n ≠ 0) : dec n = dec (n / 10) ++ [dg (n % 10)] := by
  unfold dec
  obtain ⟨m, rfl⟩ : ∃ m, n = m + 1 := ⟨n - 1, by omega⟩
  rw [decN, if_neg h, decN_fuel m ((m + 1) / 10) ((m + 1) / 10) (by omega) (by omega)]
theorem dec_nil (n : Nat) : dec n = [] ↔ n = 0 := by
  constructor
  · intro h
    refine Classical.byContradiction fun h0 => ?_
    rw [dec_pos n h0] at h
    simp at h
  · rintro rfl; rfl
theorem dec_dgs (n : Nat) : Dgs (dec n) := by
  induction n using Nat.strongRecOn with
  | ind n ih =>
    by_cases h : n = 0
    · subst h; exact Dgs.nil
    · rw [dec_pos n h]
      exact Dgs.app (ih (n / 10) (by omega)) (Dgs.cons (dg_is _ (by omega)) Dgs.nil)
theorem valD_dec (n : Nat) : valD (dec n) 0 = n := by
  induction n using Nat.strongRecOn with
  | ind n ih =>
    by_cases h : n = 0
    · subst h; rfl
    · rw [dec_pos n h, valD_app, ih (n / 10) (by omega), valD, valD, dg_nat _ (by omega)]
      omega
theorem dec_len (n k : Nat) : (dec n).length ≤ k ↔ n < 10 ^ k := by
  induction k generalizing n with
  | zero =>
    rw [Nat.pow_zero, Nat.le_zero, List.length_eq_zero_iff, dec_nil]
    omega
  | succ k ih =>
    by_cases h : n = 0
    · subst h
      simp [dec_zero]
      exact Nat.pow_pos (by omega)
    · rw [dec_pos n h, List.length_append, List.length_singleton, Nat.add_le_add_iff_right, ih, Nat.pow_succ]
      omega
theorem dec_head (n : Nat) : ∀ b, (dec n).head? = some b → b ≠ 48 := by
  induction n using Nat.strongRecOn with
  | ind n ih =>
    intro b hb
    by_cases h : n = 0
    · subst h; cases hb
    · rw [dec_pos n h] at hb
      by_cases h2 : n / 10 = 0
      · rw [h2, dec_zero] at hb
        simp at hb
        rw [← hb]
        intro e
        rw [dg_zero _ (by omega)] at e
        omega
      · refine ih (n / 10) (by omega) b ?_
        cases hd : dec (n / 10) with
        | nil => rw [dec_nil] at hd; exact absurd hd h2
        | cons x t => rw [hd] at hb; simpa using hb
/-- Digits without zeros in front; without zeros at the end. -/
def trim0 (l : List UInt8) : List UInt8 := l.dropWhile fun b => b == 48
def trimE (l : List UInt8) : List UInt8 := (l.reverse.dropWhile fun b => b == 48).reverse
theorem trim_fixed : ∀ k m : Nat, m < 10 ^ k → trim0 (fixed k m) = dec m
  | 0, m, h => by obtain rfl : m = 0 := by simpa using h
                  rfl
  | k + 1, m, h => by
    have ih := trim_fixed k (m / 10) (by rw [Nat.pow_succ] at h; omega)
    unfold trim0 at ih ⊢
    rw [fixed, List.dropWhile_append, ih]
    by_cases h0 : m / 10 = 0
    · rw [h0, dec_zero, List.isEmpty_nil, if_pos rfl]
      by_cases h1 : m = 0
      · subst h1; rfl
      · rw [dec_pos m h1, h0, dec_zero, List.nil_append, List.dropWhile_cons, if_neg]
        rw [beq_iff_eq, dg_zero _ (by omega)]
        omega
    · have hne : (dec (m / 10)).isEmpty = false := by
        cases hd : dec (m / 10) with
        | nil => rw [dec_nil] at hd; exact absurd hd h0
        | cons x t => rfl
      rw [hne, if_neg (by decide), dec_pos m (by omega)]
theorem trimE_split (l : List UInt8) : ∃ k, l = trimE l ++ List.replicate k 48 := by
  have h : ∀ r : List UInt8, ∃ k, r = List.replicate k 48 ++ r.dropWhile fun b => b == 48 := by
    intro r
    induction r with
    | nil => exact ⟨0, rfl⟩
    | cons b t ih =>
      obtain ⟨k, hk⟩ := ih
      by_cases hb : b = 48
      · subst hb
        refine ⟨k + 1, ?_⟩
        rw [List.dropWhile_cons, if_pos (by simp), List.replicate_succ, List.cons_append, ← hk]
      · refine ⟨0, ?_⟩
        rw [List.dropWhile_cons, if_neg (by simpa using hb)]
        rfl
  obtain ⟨k, hk⟩ := h l.reverse
  refine ⟨k, ?_⟩
  have := congrArg List.reverse hk
  rw [List.reverse_reverse, List.reverse_append, List.reverse_replicate] at this
  exact this
theorem trimE_last (l : List UInt8) : ∀ b, (trimE l).getLast? = some b → b ≠ 48 := by
  intro b hb e
  unfold trimE at hb
  rw [List.getLast?_reverse] at hb
  have := List.head?_dropWhile_not (fun b : UInt8 => b == 48) l.reverse
  rw [hb] at this
  simp [e] at this
theorem trimE_of (a : List UInt8) (k : Nat) (h : ∀ b, a.getLast? = some b → b ≠ 48) : trimE (a ++ List.replicate k 48) = a := by
  unfold trimE
  rw [List.reverse_append, List.reverse_replicate]
  have h1 : ∀ (k : Nat) (r : List UInt8), (List.replicate k 48 ++ r).dropWhile (fun b => b == 48) = r.dropWhile fun b => b == 48 := by
    intro k r
    induction k with
    | zero => rfl
    | succ k ih => rw [List.replicate_succ, List.cons_append, List.dropWhile_cons, if_pos (by simp), ih]
  rw [h1]
  have h2 : a.reverse.dropWhile (fun b => b == 48) = a.reverse := by
    cases hr : a.reverse with
    | nil => rfl
    | cons x t =>
      have hl : a.getLast? = some x := by rw [← List.head?_reverse, hr]; rfl
      rw [List.dropWhile_cons, if_neg]
      simpa using h x hl
  rw [h2, List.reverse_reverse]
end Go.Proofs.YtofpojlnfncpcaaGreatDoor

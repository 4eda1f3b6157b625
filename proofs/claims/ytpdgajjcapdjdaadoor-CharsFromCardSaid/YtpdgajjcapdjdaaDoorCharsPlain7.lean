/- Plain facts on the specification's decoder ('next'): where it takes a character it takes the one of the model's decoder. No program in this text. -/
import Derived.Test.YtpdgajjcapdjdaaDoorCharsPlain2
import Derived.Test.YtpdgajjcapdjdaaDoorCharsPure
namespace Go.Proofs.YtpdgajjcapdjdaaDoor
open Go.Lib

/-- The continuation bytes. -/
def cont : List UInt8 → Nat → Int → Option Int
  | _, 0, c => some c
  | [], _ + 1, _ => none
  | b :: t, m + 1, c => if 128 ≤ b.toNat ∧ b.toNat < 192 then cont t m (c * 64 + (b.toNat : Int) - 128) else none
def fin (S : Nat) (least : Int) (x : Option Int) : Int × Int :=
  match x with
  | none => (0, 0)
  | some c => if c < least then (0, 0) else (c, S)
def nextL : List UInt8 → Int × Int
  | [] => (0, 0)
  | b :: t =>
    if b.toNat < 128 then ((b.toNat : Int), 1)
    else if 192 ≤ b.toNat ∧ b.toNat < 224 then fin 2 128 (cont t 1 ((b.toNat : Int) - 192))
    else if 224 ≤ b.toNat ∧ b.toNat < 240 then fin 3 2048 (cont t 2 ((b.toNat : Int) - 224))
    else if 240 ≤ b.toNat ∧ b.toNat < 248 then fin 4 65536 (cont t 3 ((b.toNat : Int) - 240))
    else (0, 0)
theorem cont_one (t : List UInt8) (c : Int) : cont t 1 c = if 1 ≤ t.length ∧ 128 ≤ (t.getD 0 0).toNat ∧ (t.getD 0 0).toNat < 192 then some (c * 64 + ((t.getD 0 0).toNat : Int) - 128) else none := by
  match t with
  | [] => simp [cont]
  | b :: t => simp [cont]
theorem cont_step (t : List UInt8) (m : Nat) (c : Int) : cont t (m + 1) c = if 1 ≤ t.length ∧ 128 ≤ (t.getD 0 0).toNat ∧ (t.getD 0 0).toNat < 192 then cont (t.drop 1) m (c * 64 + ((t.getD 0 0).toNat : Int) - 128) else none := by
  match t with
  | [] => simp [cont]
  | b :: t => simp [cont]
theorem getD_drop1 (t : List UInt8) (k : Nat) : (t.drop 1).getD k 0 = t.getD (k + 1) 0 := by
  match t with
  | [] => simp
  | b :: t => simp
/-- A step that is a character. -/
def good (x : Nat × Nat) : Bool := !bad x && chr x.1
def nextN (n b0 b1 b2 b3 : Nat) : Int × Int :=
  if b0 < 128 then ((b0 : Int), 1)
  else if 192 ≤ b0 ∧ b0 < 224 ∧ 1 < n ∧ 128 ≤ b1 ∧ b1 < 192 ∧ 128 ≤ ((b0 : Int) - 192) * 64 + (b1 : Int) - 128 then (((b0 : Int) - 192) * 64 + (b1 : Int) - 128, 2)
  else if 224 ≤ b0 ∧ b0 < 240 ∧ 2 < n ∧ 128 ≤ b1 ∧ b1 < 192 ∧ 128 ≤ b2 ∧ b2 < 192 ∧ 2048 ≤ (((b0 : Int) - 224) * 64 + (b1 : Int) - 128) * 64 + (b2 : Int) - 128 then ((((b0 : Int) - 224) * 64 + (b1 : Int) - 128) * 64 + (b2 : Int) - 128, 3)
  else if 240 ≤ b0 ∧ b0 < 248 ∧ 3 < n ∧ 128 ≤ b1 ∧ b1 < 192 ∧ 128 ≤ b2 ∧ b2 < 192 ∧ 128 ≤ b3 ∧ b3 < 192 ∧ 65536 ≤ ((((b0 : Int) - 240) * 64 + (b1 : Int) - 128) * 64 + (b2 : Int) - 128) * 64 + (b3 : Int) - 128 then (((((b0 : Int) - 240) * 64 + (b1 : Int) - 128) * 64 + (b2 : Int) - 128) * 64 + (b3 : Int) - 128, 4)
  else (0, 0)
theorem fin_if (S : Nat) (least c : Int) (p : Prop) [Decidable p] : fin S least (if p then some c else none) = if p ∧ least ≤ c then (c, (S : Int)) else (0, 0) := by
  by_cases hp : p
  · simp only [hp, if_true, true_and, fin]
    by_cases hc : c < least
    · rw [if_pos hc, if_neg (by omega)]
    · rw [if_neg hc, if_pos (by omega)]
  · simp [hp, fin]
theorem if_some {p q : Prop} [Decidable p] [Decidable q] (c : Int) : (if p then (if q then some c else none) else none) = if p ∧ q then some c else none := by
  by_cases hp : p <;> by_cases hq : q <;> simp [hp, hq]
set_option maxRecDepth 100000 in
theorem nextL_N (b : UInt8) (t : List UInt8) : nextL (b :: t) = nextN (t.length + 1) b.toNat (t.getD 0 0).toNat (t.getD 1 0).toNat (t.getD 2 0).toNat := by
  unfold nextL
  simp only [cont_step, cont, if_some, fin_if, List.length_drop, getD_drop1, Nat.zero_add, Nat.reduceAdd]
  unfold nextN
  generalize (t.getD 0 0).toNat = b1
  generalize (t.getD 1 0).toNat = b2
  generalize (t.getD 2 0).toNat = b3
  generalize b.toNat = b0
  generalize t.length = n
  repeat' split
  all_goals first | rfl | (exfalso; omega)
set_option maxHeartbeats 4000000 in
set_option maxRecDepth 100000 in
theorem next_good (b : UInt8) (t : List UInt8) (h : good (decodeL (b :: t)) = true) : nextL (b :: t) = (((decodeL (b :: t)).1 : Int), ((decodeL (b :: t)).2 : Int)) := by
  rw [nextL_N]
  rw [decode_one] at h ⊢
  have l1 := (t.getD 0 0).toNat_lt; have l2 := (t.getD 1 0).toNat_lt; have l3 := (t.getD 2 0).toNat_lt; have l0 := b.toNat_lt
  generalize (t.getD 0 0).toNat = b1 at h l1 ⊢
  generalize (t.getD 1 0).toNat = b2 at h l2 ⊢
  generalize (t.getD 2 0).toNat = b3 at h l3 ⊢
  generalize b.toNat = b0 at h l0 ⊢
  unfold good bad at h
  rw [Bool.and_eq_true, Bool.not_eq_true', decide_eq_false_iff_not, chr_iff] at h
  unfold decodeN at h ⊢
  unfold nextN
  repeat' split at h
  all_goals simp only at h
  all_goals try (exfalso; first | exact h.1 ⟨rfl, rfl⟩ | exact h.1 ⟨trivial, trivial⟩)
  all_goals repeat' split
  all_goals first | rfl | (exfalso; omega) | (apply Prod.ext <;> simp only <;> omega)
set_option maxHeartbeats 4000000 in
set_option maxRecDepth 100000 in
theorem next_bad (b : UInt8) (t : List UInt8) (h : good (decodeL (b :: t)) = false) : (nextL (b :: t)).2 = 0 ∨ chrZ (nextL (b :: t)).1 = false := by
  rw [nextL_N]
  rw [decode_one] at h
  have l1 := (t.getD 0 0).toNat_lt; have l2 := (t.getD 1 0).toNat_lt; have l3 := (t.getD 2 0).toNat_lt; have l0 := b.toNat_lt
  generalize (t.getD 0 0).toNat = b1 at h l1 ⊢
  generalize (t.getD 1 0).toNat = b2 at h l2 ⊢
  generalize (t.getD 2 0).toNat = b3 at h l3 ⊢
  generalize b.toNat = b0 at h l0 ⊢
  have h' : (decodeN (t.length + 1) b0 b1 b2 b3).1 = 65533 ∧ (decodeN (t.length + 1) b0 b1 b2 b3).2 = 1 ∨ ¬ chr (decodeN (t.length + 1) b0 b1 b2 b3).1 = true := by
    unfold good bad at h
    by_cases hb : (decodeN (t.length + 1) b0 b1 b2 b3).1 = 65533 ∧ (decodeN (t.length + 1) b0 b1 b2 b3).2 = 1
    · exact .inl hb
    · rw [decide_eq_false hb] at h
      simp at h
      exact .inr (by simp [h])
  clear h
  rw [chr_iff] at h'
  have hz : ∀ z : Int, chrZ z = false ↔ ¬ (z = 9 ∨ z = 10 ∨ z = 13 ∨ (32 ≤ z ∧ z ≤ 55295) ∨ (57344 ≤ z ∧ z ≤ 65533) ∨ (65536 ≤ z ∧ z ≤ 1114111)) := fun z => by unfold chrZ; exact decide_eq_false_iff_not
  rw [hz]
  unfold decodeN at h'
  unfold nextN
  repeat' split at h'
  all_goals simp only at h'
  all_goals repeat' split
  all_goals simp only
  all_goals omega
end Go.Proofs.YtpdgajjcapdjdaaDoor

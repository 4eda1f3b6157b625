/- Durations: how they are read and written, as functions of lists. No program in this text. -/
import Derived.Test.YtdfgifnccghlmabGreatDoorMNuA
import Derived.Lib.SlTrimSet
import Derived.Lib.IndexMore
import Derived.Lib.Strings
namespace Go.Proofs.YtdfgifnccghlmabGreatDoor
open Go.Lib

/-- A text cut at the first place of a byte. -/
def splitC (c : UInt8) : List UInt8 → List UInt8 × List UInt8 × Bool
  | [] => ([], [], false)
  | b :: t => if b = c then ([], t, true) else (b :: (splitC c t).1, (splitC c t).2)
theorem cut_byte (c : UInt8) : ∀ s : List UInt8, Lib.cut s [c] = splitC c s
  | [] => rfl
  | b :: t => by
    have ih := cut_byte c t
    have hg := index_ge t [c]
    unfold Lib.cut at ih ⊢
    rw [splitC, index]
    by_cases hb : b = c
    · subst hb
      rw [if_pos (show List.isPrefixOf [b] (b :: t) = true by simp [List.isPrefixOf]), if_pos rfl]
      simp
    · have hp : ¬ List.isPrefixOf [c] (b :: t) = true := by simp [List.isPrefixOf]; exact fun e => hb e.symm
      rw [if_neg hp, if_neg hb, ← ih]
      by_cases hi : index t [c] = -1
      · rw [hi]; simp
      · have h0 : 0 ≤ index t [c] := by omega
        have hbq : (index t [c] == -1) = false := by rw [beq_eq_false_iff_ne]; exact hi
        rw [hbq, if_pos h0]
        have e : (index t [c] + 1).toNat = (index t [c]).toNat + 1 := by omega
        simp only [Bool.false_eq_true, if_false]
        rw [if_pos (by omega), e, List.take_succ_cons, Nat.add_right_comm, List.drop_succ_cons]
theorem splitC_dot : ∀ s : List UInt8, splitC 46 s = dotL s
  | [] => rfl
  | b :: t => by rw [splitC, dotL, splitC_dot t]
theorem splitC_at (c : UInt8) : ∀ a t : List UInt8, c ∉ a → splitC c (a ++ c :: t) = (a, t, true)
  | [], t, _ => by rw [List.nil_append, splitC, if_pos rfl]
  | b :: a, t, h => by
    have hb : b ≠ c := fun e => h (by simp [e])
    rw [List.cons_append, splitC, if_neg hb, splitC_at c a t (fun e => h (by simp [e]))]
theorem splitC_back (c : UInt8) : ∀ s : List UInt8, (splitC c s).2.2 = true → s = (splitC c s).1 ++ c :: (splitC c s).2.1 ∧ c ∉ (splitC c s).1
  | [], h => by cases h
  | b :: t, h => by
    rw [splitC] at h ⊢
    by_cases hb : b = c
    · subst hb
      rw [if_pos rfl]
      exact ⟨rfl, by simp⟩
    · rw [if_neg hb] at h ⊢
      obtain ⟨h1, h2⟩ := splitC_back c t h
      refine ⟨by rw [List.cons_append, ← h1], ?_⟩
      simp only [List.mem_cons, not_or]
      exact ⟨fun e => hb e.symm, h2⟩
theorem splitC_len (c : UInt8) : ∀ s : List UInt8, (splitC c s).1.length ≤ s.length ∧ (splitC c s).2.1.length ≤ s.length
  | [] => ⟨Nat.le_refl _, Nat.le_refl _⟩
  | b :: t => by
    obtain ⟨h1, h2⟩ := splitC_len c t
    rw [splitC]
    split
    · exact ⟨Nat.zero_le _, by simp⟩
    · exact ⟨by simpa using h1, by simp; omega⟩
/-- Digits, one at least. -/
def dgs1 (l : List UInt8) : Bool := !l.isEmpty && l.all isDg
theorem dg_set (b : UInt8) : [48, 49, 50, 51, 52, 53, 54, 55, 56, 57].contains b = isDg b := by
  unfold isDg
  have h := UInt8.toNat_lt b
  rw [Bool.eq_iff_iff]
  simp only [List.contains_iff_mem, List.mem_cons, List.not_mem_nil, or_false, decide_eq_true_iff, ← UInt8.toNat_inj]
  simp only [show (48 : UInt8).toNat = 48 from rfl, show (49 : UInt8).toNat = 49 from rfl, show (50 : UInt8).toNat = 50 from rfl, show (51 : UInt8).toNat = 51 from rfl, show (52 : UInt8).toNat = 52 from rfl, show (53 : UInt8).toNat = 53 from rfl, show (54 : UInt8).toNat = 54 from rfl, show (55 : UInt8).toNat = 55 from rfl, show (56 : UInt8).toNat = 56 from rfl, show (57 : UInt8).toNat = 57 from rfl]
  omega
theorem dropWhile_nil {α : Type} (p : α → Bool) : ∀ l : List α, l.dropWhile p = [] ↔ l.all p = true
  | [] => by simp
  | a :: t => by
    rw [List.dropWhile_cons, List.all_cons]
    by_cases h : p a = true
    · rw [if_pos h, h, Bool.true_and]; exact dropWhile_nil p t
    · rw [if_neg h]; simp [h]
theorem trimS_digits (l : List UInt8) : Lib.trimS l [48, 49, 50, 51, 52, 53, 54, 55, 56, 57] = [] ↔ l.all isDg = true := by
  have e : (fun b : UInt8 => [48, 49, 50, 51, 52, 53, 54, 55, 56, 57].contains b) = isDg := funext dg_set
  unfold Lib.trimS Lib.trimLeftS Lib.trimRightS
  rw [e, dropWhile_nil, List.all_reverse]
  constructor
  · intro h
    have key : ∀ m : List UInt8, (m.dropWhile isDg).all isDg = true → m.all isDg = true := by
      intro m
      induction m with
      | nil => intro _; rfl
      | cons a t ih =>
        intro k
        rw [List.dropWhile_cons] at k
        rw [List.all_cons]
        by_cases ha : isDg a = true
        · rw [if_pos ha] at k
          rw [ha, Bool.true_and]
          exact ih k
        · rw [if_neg ha, List.all_cons] at k
          exact k
    have := key l.reverse h
    rwa [List.all_reverse] at this
  · intro h
    have : l.reverse.dropWhile isDg = [] := (dropWhile_nil isDg _).2 (by rw [List.all_reverse]; exact h)
    rw [this]
    rfl
/-- A part of a form: its number, and what follows it. -/
def partL (c : UInt8) (s : List UInt8) : Option (List UInt8 × List UInt8) :=
  if ((splitC c s).2.2 && dgs1 (dotL (splitC c s).1).1 && (!(dotL (splitC c s).1).2.2 || (decide (c = 83) && dgs1 (dotL (splitC c s).1).2.1))) = true then some ((splitC c s).1, (splitC c s).2.1) else none
theorem partL_len {c : UInt8} {s n r : List UInt8} (h : partL c s = some (n, r)) : n.length ≤ s.length ∧ r.length ≤ s.length := by
  unfold partL at h
  split at h
  · cases h
    exact splitC_len c s
  · cases h
/-- The parts with these letters: how many there are, their numbers, and what is left. -/
def partsL (marked : Bool) : List UInt8 → List UInt8 → Nat × List (List UInt8) × List UInt8
  | [], s => (0, [], s)
  | c :: cs, s => match (if marked = true then partL c s else none) with
    | some x => ((partsL marked cs x.2).1 + 1, x.1 :: (partsL marked cs x.2).2.1, (partsL marked cs x.2).2.2)
    | none => ((partsL marked cs s).1, [48] :: (partsL marked cs s).2.1, (partsL marked cs s).2.2)
/-- A section: whether its mark is there, and its parts. -/
def secL (mark : UInt8) (letters s : List UInt8) : Bool × Nat × List (List UInt8) × List UInt8 :=
  (Lib.hasPrefix s [mark], partsL (Lib.hasPrefix s [mark]) letters (Lib.trimPrefix s [mark]))
/-- Numbers times units, added up. -/
def sumR (below : Bool) : List UInt8 → List (List UInt8) → List (List UInt8) → List UInt8 × Int
  | t, n :: ns, u :: us =>
    if (readR n).2 ≠ 0 then ([], (readR n).2)
    else if (mulR (readR n).1 u).2 ≠ 0 then ([], (mulR (readR n).1 u).2)
    else if (addR t (mulR (readR n).1 u).1).2 ≠ 0 then ([], (addR t (mulR (readR n).1 u).1).2)
    else sumR below (addR t (mulR (readR n).1 u).1).1 ns us
  | t, _, _ => if below = true then negR t else (t, 0)
def partT (n : List UInt8) (c : UInt8) : List UInt8 := if n = [48] then [] else n ++ [c]
end Go.Proofs.YtdfgifnccghlmabGreatDoor

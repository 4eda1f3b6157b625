/- Facts about normalised white space (no program): it is tidy, it is normalised already, its other bytes are those of the string. -/
import Derived.Test.YtaieapldokkdnabGreatDoorCharsPlain5
import Derived.Lib.Strings
import Derived.Lib.IndexAny
namespace Go.Proofs.YtaieapldokkdnabGreatDoor
open Go.RowKit Go.Lib

theorem whiteB_32 : whiteB 32 = true := by decide
/-- Behind a byte that is no white space: single blanks, each with another byte behind it. -/
def tidy : Bool → List UInt8 → Bool
  | pb, [] => !pb
  | pb, b :: t => if whiteB b then !pb && (b == 32) && tidy true t else tidy false t
/-- A whole string: empty, or tidy as it is behind a blank. -/
def tidyL (l : List UInt8) : Bool := l.isEmpty || tidy true l
theorem tidy_go (l : List UInt8) : ∀ p, tidy false (normGo p true l) = true := by
  induction l with
  | nil => intro p; rfl
  | cons b t ih =>
    intro p
    unfold normGo
    cases hw : whiteB b
    · have h1 := ih false
      cases p
      · simp [tidy, hw, h1]
      · simp [tidy, hw, h1, whiteB_32]
    · simpa using ih true
theorem tidy_norm (l : List UInt8) : tidyL (normL l) = true := by
  unfold normL
  induction l with
  | nil => rfl
  | cons b t ih =>
    unfold normGo
    cases hw : whiteB b
    · have h1 := tidy_go t false
      simp [tidyL, tidy, hw, h1]
    · simpa using ih
theorem go_tidy (l : List UInt8) : (tidy false l = true → normGo false true l = l) ∧ (tidy true l = true → normGo true true l = 32 :: l) := by
  induction l with
  | nil => exact ⟨fun _ => rfl, fun h => by cases h⟩
  | cons b t ih =>
    cases hw : whiteB b
    · refine ⟨fun h => ?_, fun h => ?_⟩
      · have h1 : tidy false t = true := by simpa [tidy, hw] using h
        simp [normGo, hw, ih.1 h1]
      · have h1 : tidy false t = true := by simpa [tidy, hw] using h
        simp [normGo, hw, ih.1 h1]
    · refine ⟨fun h => ?_, fun h => ?_⟩
      · have h1 : b = 32 ∧ tidy true t = true := by simpa [tidy, hw] using h
        obtain ⟨rfl, h2⟩ := h1
        simp [normGo, whiteB_32, ih.2 h2]
      · simp [tidy, hw] at h
theorem norm_tidy (l : List UInt8) (h : tidyL l = true) : normL l = l := by
  unfold normL
  cases l with
  | nil => rfl
  | cons b t =>
    have h' : tidy true (b :: t) = true := by simpa [tidyL] using h
    cases hw : whiteB b
    · have h1 : tidy false t = true := by simpa [tidy, hw] using h'
      simp [normGo, hw, (go_tidy t).1 h1]
    · simp [tidy, hw] at h'
theorem norm_norm (l : List UInt8) : normL (normL l) = normL l := norm_tidy _ (tidy_norm l)
/-- The other bytes. -/
def bare (l : List UInt8) : List UInt8 := l.filter fun b => !whiteB b
theorem bare_go (l : List UInt8) : ∀ p ne, bare (normGo p ne l) = bare l := by
  induction l with
  | nil => intro p ne; rfl
  | cons b t ih =>
    intro p ne
    unfold normGo
    cases hw : whiteB b
    · have h1 := ih false true
      unfold bare at h1 ⊢
      cases p
      · simp [hw, h1]
      · simp [hw, h1, whiteB_32]
    · have h1 := ih ne ne
      unfold bare at h1 ⊢
      simp [hw, h1]
theorem bare_norm (l : List UInt8) : bare (normL l) = bare l := bare_go l false false
theorem norm_nil (l : List UInt8) : normL l = [] ↔ l.all whiteB = true := by
  unfold normL
  induction l with
  | nil => simp [normGo]
  | cons b t ih =>
    unfold normGo
    cases hw : whiteB b
    · simp [hw]
    · simpa [hw] using ih
/-- Every white byte is a blank. -/
theorem tidy_white (l : List UInt8) : ∀ pb, tidy pb l = true → ∀ b ∈ l, whiteB b = true → b = 32 := by
  induction l with
  | nil => intro pb _ b hb; cases hb
  | cons c t ih =>
    intro pb h b hb hw
    cases hc : whiteB c
    · have h1 : tidy false t = true := by simpa [tidy, hc] using h
      rcases List.mem_cons.1 hb with e | e
      · rw [e, hc] at hw; cases hw
      · exact ih false h1 b e hw
    · have h1 : (pb = false ∧ c = 32) ∧ tidy true t = true := by simpa [tidy, hc] using h
      rcases List.mem_cons.1 hb with e | e
      · rw [e]; exact h1.1.2
      · exact ih true h1.2 b e hw
theorem norm_white (l : List UInt8) (b : UInt8) (hb : b ∈ normL l) (hw : whiteB b = true) : b = 32 := by
  have h := tidy_norm l
  unfold tidyL at h
  cases hn : normL l with
  | nil => rw [hn] at hb; cases hb
  | cons c t =>
    rw [hn] at h hb
    have h' : tidy true (c :: t) = true := by simpa using h
    exact tidy_white _ true h' b hb hw
/-- No two blanks stand together. -/
theorem tidy_two (l : List UInt8) : ∀ pb, tidy pb l = true → ∀ j, occAt l [32, 32] j = false := by
  induction l with
  | nil => intro pb _ j; cases j <;> rfl
  | cons c t ih =>
    intro pb h j
    cases hc : whiteB c
    · have h1 : tidy false t = true := by simpa [tidy, hc] using h
      have hne : c ≠ 32 := by intro e; rw [e, whiteB_32] at hc; cases hc
      cases j with
      | zero =>
        have : ((32 : UInt8) == c) = false := by rw [beq_eq_false_iff_ne]; exact fun e => hne e.symm
        simp [occAt, List.isPrefixOf, this]
      | succ j => have := ih false h1 j; simpa [occAt] using this
    · have h1 : (pb = false ∧ c = 32) ∧ tidy true t = true := by simpa [tidy, hc] using h
      cases j with
      | zero =>
        cases t with
        | nil => simp [occAt, List.isPrefixOf]
        | cons d u =>
          cases hd : whiteB d
          · have hne : d ≠ 32 := by intro e; rw [e, whiteB_32] at hd; cases hd
            have : ((32 : UInt8) == d) = false := by rw [beq_eq_false_iff_ne]; exact fun e => hne e.symm
            simp [occAt, List.isPrefixOf, this]
          · have := h1.2; simp [tidy, hd] at this
      | succ j => have := ih true h1.2 j; simpa [occAt] using this
theorem norm_two (l : List UInt8) : contains (normL l) [32, 32] = false := by
  have h := tidy_norm l
  unfold contains
  rw [decide_eq_false_iff_not, index_none (fun j _ => ?_)]
  · omega
  · unfold tidyL at h
    cases hn : normL l with
    | nil => cases j <;> rfl
    | cons c t =>
      rw [hn] at h
      exact tidy_two _ true (by simpa using h) j
theorem norm_front (l : List UInt8) : hasPrefix (normL l) [32] = false := by
  have h := tidy_norm l
  unfold hasPrefix
  cases hn : normL l with
  | nil => rfl
  | cons c t =>
    rw [hn] at h
    have h' : tidy true (c :: t) = true := by simpa [tidyL] using h
    cases hc : whiteB c
    · have hne : c ≠ 32 := by intro e; rw [e, whiteB_32] at hc; cases hc
      have : ((32 : UInt8) == c) = false := by rw [beq_eq_false_iff_ne]; exact fun e => hne e.symm
      simp [List.isPrefixOf, this]
    · simp [tidy, hc] at h'
theorem tidy_last (a : List UInt8) : ∀ pb, tidy pb (a ++ [32]) = false := by
  induction a with
  | nil => intro pb; cases pb <;> decide
  | cons c t ih =>
    intro pb
    simp only [List.cons_append, tidy, ih]
    cases whiteB c <;> simp
theorem norm_back (l : List UInt8) : hasSuffix (normL l) [32] = false := by
  have h := tidy_norm l
  cases hs : hasSuffix (normL l) [32]
  · rfl
  · unfold hasSuffix at hs
    obtain ⟨a, ha⟩ := List.isSuffixOf_iff_suffix.1 hs
    rw [← ha] at h
    unfold tidyL at h
    rw [tidy_last] at h
    simp at h
theorem indexAny_none (chars : List UInt8) : ∀ l : List UInt8, (∀ b ∈ l, chars.contains b = false) → indexAny l chars = -1
  | [], _ => rfl
  | b :: l, h => by
    have h1 := indexAny_none chars l (fun c hc => h c (by simp [hc]))
    unfold indexAny
    rw [h b (by simp), h1]
    simp
theorem norm_any3 (l : List UInt8) : containsAny (normL l) [9, 10, 13] = false := by
  unfold containsAny
  rw [indexAny_none _ _ (fun b hb => ?_)]
  · decide
  · cases hc : ([9, 10, 13] : List UInt8).contains b
    · rfl
    · have : b = 9 ∨ b = 10 ∨ b = 13 := by simpa using hc
      have e := norm_white l b hb (by rcases this with e | e | e <;> rw [e] <;> decide)
      rw [e] at this
      revert this; decide
end Go.Proofs.YtaieapldokkdnabGreatDoor

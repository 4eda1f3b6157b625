/- The specification of num: plain facts about how it reads a number, byte by byte. -/
import Derived.Test.YtdfgifnccghlmabGreatDoorMRfC
import Derived.Test.YtdfgifnccghlmabGreatDoorMNuA
namespace Go.Proofs.YtdfgifnccghlmabGreatDoor.R
open Go.Proofs.YtdfgifnccghlmabGreatDoor (isDg isDg_iff valD valD_app dotL signOf wrOf Wr splitOk splitL canonW canonL numL resR readR textL textL_len text_canon canon_text divW evenW canonL_split bodyL body_zero resR_toZ resR_lt resR_ge toZ resR_canon)

/-- Digits and a point, from the left. -/
def scanL : List UInt8 → List UInt8 → List UInt8 → Bool → Option (List UInt8 × List UInt8 × Bool)
  | [], B, A, p => some (B, A, p)
  | b :: t, B, A, p => if b = 46 ∧ p = false then scanL t B A true else if isDg b = true then (if p = true then scanL t B (A ++ [b]) p else scanL t (B ++ [b]) A p) else none
theorem scan_behind : ∀ (t B A : List UInt8), scanL t B A true = if t.all isDg = true then some (B, A ++ t, true) else none
  | [], B, A => by simp [scanL]
  | b :: t, B, A => by
    rw [scanL, if_neg (by rintro ⟨_, h⟩; cases h), scan_behind t B (A ++ [b])]
    by_cases hb : isDg b = true
    · rw [if_pos hb, if_pos rfl, List.all_cons, hb, Bool.true_and, List.append_assoc]; rfl
    · rw [if_neg hb, if_neg]
      rw [List.all_cons]
      simp [hb]
theorem scan_ahead : ∀ (t B : List UInt8), scanL t B [] false = if ((dotL t).1.all isDg && (dotL t).2.1.all isDg) = true then some (B ++ (dotL t).1, (dotL t).2.1, (dotL t).2.2) else none
  | [], B => by simp [scanL, dotL]
  | b :: t, B => by
    rw [scanL]
    by_cases hb : b = 46
    · subst hb
      rw [if_pos ⟨rfl, rfl⟩, scan_behind, dotL, if_pos rfl]
      simp
    · rw [if_neg (fun h => hb h.1), dotL, if_neg hb, if_neg (show ¬ false = true by decide), scan_ahead t (B ++ [b])]
      by_cases hd : isDg b = true
      · simp [hd]
      · simp [hd]
/-- What the bytes behind the sign say about the whole. -/
theorem scan_none (s : List UInt8) (h : scanL (signOf s).2 [] [] false = none) : splitL s = none := by
  rw [scan_ahead] at h
  unfold splitL
  rw [if_neg]
  intro k
  unfold splitOk wrOf at k
  simp only [Bool.and_eq_true] at k
  rw [if_pos (by rw [Bool.and_eq_true]; exact k.2)] at h
  cases h
theorem scan_empty (s B A : List UInt8) (p : Bool) (h : scanL (signOf s).2 [] [] false = some (B, A, p)) (h0 : B ++ A = []) : splitL s = none := by
  rw [scan_ahead] at h
  split at h
  · simp only [Option.some.injEq, Prod.mk.injEq, List.nil_append] at h
    obtain ⟨h1, h2, h3⟩ := h
    unfold splitL
    rw [if_neg]
    intro k
    unfold splitOk wrOf at k
    simp only [Bool.and_eq_true] at k
    have k1 := k.1
    rw [h1, h2, (List.append_eq_nil_iff.1 h0).1, (List.append_eq_nil_iff.1 h0).2] at k1
    cases k1
  · cases h
theorem scan_some (s B A : List UInt8) (p : Bool) (h : scanL (signOf s).2 [] [] false = some (B, A, p)) (h0 : B ++ A ≠ []) : splitL s = some ⟨(signOf s).1, B, A, p⟩ := by
  rw [scan_ahead] at h
  split at h
  · rename_i hd
    simp only [Option.some.injEq, Prod.mk.injEq, List.nil_append] at h
    obtain ⟨h1, h2, h3⟩ := h
    have hw : wrOf (signOf s) = ⟨(signOf s).1, B, A, p⟩ := by
      unfold wrOf
      rw [h1, h2, h3]
    unfold splitL
    rw [hw, if_pos]
    unfold splitOk
    rw [h1, h2] at hd
    simp only [hd, Bool.and_true, Bool.not_eq_true', Bool.and_eq_false_iff]
    cases B with
    | cons _ _ => exact .inl rfl
    | nil => cases A with
      | cons _ _ => exact .inr rfl
      | nil => exact absurd rfl h0
  · cases h
/-- The digits, the lowest first. -/
def dL (l : List UInt8) : List Nat := l.reverse.map fun b => b.toNat - 48
theorem dL_len (l : List UInt8) : (dL l).length = l.length := by simp [dL]
theorem dL_snoc (l : List UInt8) (b : UInt8) : dL (l ++ [b]) = (b.toNat - 48) :: dL l := by simp [dL]
theorem dL_val (l : List UInt8) : val (dL l) = valD l 0 := by
  generalize hn : l.length = n
  induction n generalizing l with
  | zero => rw [List.eq_nil_of_length_eq_zero hn]; rfl
  | succ n ih =>
    have hne : l ≠ [] := by intro e; rw [e] at hn; simp at hn
    obtain ⟨t, x, rfl⟩ : ∃ t x, l = t ++ [x] := ⟨l.dropLast, l.getLast hne, (List.dropLast_concat_getLast hne).symm⟩
    rw [dL_snoc, val, valD_app, valD, valD, ih t (by simpa using hn)]
    omega
theorem dL_small (l : List UInt8) (h : ∀ b ∈ l, isDg b = true) : Small (dL l) := fun x hx => by
  unfold dL at hx
  obtain ⟨b, hb, rfl⟩ := List.mem_map.1 hx
  have := (isDg_iff b).1 (h b (List.mem_reverse.1 hb))
  omega
theorem scan_dgs : ∀ (t B A B' A' : List UInt8) (p p' : Bool), scanL t B A p = some (B', A', p') → (∀ b ∈ B ++ A, isDg b = true) → (∀ b ∈ B' ++ A', isDg b = true) ∧ (B' ++ A').length ≤ (B ++ A).length + t.length
  | [], B, A, B', A', p, p', h, k => by
    rw [scanL] at h
    cases h
    exact ⟨k, by simp⟩
  | b :: t, B, A, B', A', p, p', h, k => by
    rw [scanL] at h
    split at h
    · obtain ⟨h1, h2⟩ := scan_dgs t _ _ _ _ _ _ h k
      exact ⟨h1, by rw [List.length_cons]; omega⟩
    · split at h
      · rename_i hb
        split at h
        · obtain ⟨h1, h2⟩ := scan_dgs t _ _ _ _ _ _ h (fun x hx => by
            rw [← List.append_assoc] at hx
            rcases List.mem_append.1 hx with hx | hx
            · exact k x hx
            · rw [List.mem_singleton.1 hx]; exact hb)
          refine ⟨h1, Nat.le_trans h2 ?_⟩
          simp only [List.length_append, List.length_cons, List.length_nil]
          omega
        · obtain ⟨h1, h2⟩ := scan_dgs t _ _ _ _ _ _ h (fun x hx => by
            rcases List.mem_append.1 hx with hx | hx
            · rcases List.mem_append.1 hx with hx | hx
              · exact k x (List.mem_append.2 (.inl hx))
              · rw [List.mem_singleton.1 hx]; exact hb
            · exact k x (List.mem_append.2 (.inr hx)))
          refine ⟨h1, Nat.le_trans h2 ?_⟩
          simp only [List.length_append, List.length_cons, List.length_nil]
          omega
      · cases h
/-- What read gives: an error, or a sign and an absolute value. -/
def readN (s : List UInt8) : Int ⊕ (Bool × Nat) := if 200 < s.length then .inl 2 else match splitL s with
  | none => .inl 5
  | some w => if (numL w).2 < 10 ^ 50 then .inr ((numL w).1 && decide ((numL w).2 ≠ 0), (numL w).2) else .inl 40
def resN : Int ⊕ (Bool × Nat) → List UInt8 × Int
  | .inl e => ([], e)
  | .inr x => resR x.1 x.2
theorem toZ_and (b : Bool) (n : Nat) : toZ (b && decide (n ≠ 0)) n = toZ b n := by
  unfold toZ
  by_cases h0 : n = 0
  · subst h0; simp
  · simp [h0]
theorem readN_res (s : List UInt8) : resN (readN s) = readR s := by
  unfold readN readR
  split
  · rfl
  · cases splitL s with
    | none => rfl
    | some w =>
      simp only
      split
      · exact resR_toZ (toZ_and _ _)
      · rw [resR_ge _ _ (by omega)]; rfl
/-- A canonical text is read as its number, and written again as it was. -/
theorem readN_canon {s : List UInt8} {b : Bool} {n : Nat} (h : canonL s = some (b, n)) : readN s = .inr (b, n) ∧ n < 10 ^ 50 ∧ resR b n = (s, 0) := by
  obtain ⟨h1, h2, h3⟩ := text_canon s b n h
  obtain ⟨w, k1, _, k3⟩ := canonL_split h
  have hl := textL_len h1
  refine ⟨?_, h2, resR_canon h rfl⟩
  unfold readN
  rw [if_neg (by omega), k1]
  show (if (numL w).2 < 10 ^ 50 then _ else _) = _
  rw [k3]
  simp only
  rw [if_pos h2]
  congr 2
  cases b with
  | false => rfl
  | true => simpa using h3 rfl
/-- What is read and written again as it was is canonical. -/
theorem canon_readN {s : List UInt8} {b : Bool} {n : Nat} (h : readN s = .inr (b, n)) : n < 10 ^ 50 ∧ (b = true → n ≠ 0) ∧ ∃ t, resR b n = (t, 0) ∧ (t = s → canonL s = some (b, n)) := by
  unfold readN at h
  split at h
  · cases h
  · split at h
    · cases h
    · split at h
      · rename_i hn
        simp only [Sum.inr.injEq, Prod.mk.injEq] at h
        obtain ⟨h1, h2⟩ := h
        rw [h2] at h1 hn
        obtain ⟨t, ht, ht2⟩ := resR_lt b n hn
        refine ⟨hn, ?_, t, ht, ?_⟩
        · intro hb
          rw [hb] at h1
          simp at h1
          exact h1.2
        · rintro rfl
          rw [canon_text b n t ht2]
          congr 2
          cases hb : b with
          | false => rfl
          | true =>
            rw [hb] at h1
            simp at h1
            simp [h1.2]
      · cases h
end Go.Proofs.YtdfgifnccghlmabGreatDoor.R

/- Plain facts on white space: by characters as by bytes; and that the fields of a string, joined by blanks, are its bytes with each run of white space made one blank. No program in this text. -/
import Derived.Test.YtgjjmapfdijphaaDoorCharsPlain2
import Derived.Lib.FieldsP
import Derived.Lib.Join
import Derived.Shelf.GgClosure.StringsIndexFunc
namespace Go.Proofs.YtgjjmapfdijphaaDoor
open Go.Lib

def whiteB (b : UInt8) : Bool := white b.toNat
theorem whiteB_lt (b : UInt8) (h : whiteB b = true) : b.toNat < 128 := by
  unfold whiteB white at h
  rw [decide_eq_true_iff] at h
  omega
theorem white_lt (c : Nat) (h : white c = true) : c < 128 := by
  unfold white at h
  rw [decide_eq_true_iff] at h
  omega
theorem mem_take_cons (b : UInt8) (t : List UInt8) (k : Nat) (x : UInt8) (h : x ∈ (b :: t).take k) : x = b ∨ ∃ i, i + 1 < k ∧ x = t.getD i 0 := by
  obtain ⟨i, hi, rfl⟩ := List.getElem_of_mem h
  rw [List.length_take] at hi
  rw [List.getElem_take]
  cases i with
  | zero => exact .inl rfl
  | succ i =>
    refine .inr ⟨i, by omega, ?_⟩
    rw [List.getElem_cons_succ, List.getD_eq_getElem?_getD, List.getElem?_eq_getElem (by simp at hi; omega)]
    rfl
set_option maxRecDepth 100000 in
/-- A step is either one byte below 128, or bytes of which none is below 128. -/
theorem step_bytes (b : UInt8) (t : List UInt8) : ((decodeL (b :: t)) = (b.toNat, 1) ∧ b.toNat < 128) ∨ (128 ≤ (decodeL (b :: t)).1 ∧ ∀ x ∈ (b :: t).take (decodeL (b :: t)).2, 128 ≤ x.toNat) := by
  by_cases h : b.toNat < 128
  · exact .inl ⟨decodeL_ascii b t h, h⟩
  · refine .inr ?_
    have key : ∀ k, k ≤ 4 → (1 < k → 128 ≤ (t.getD 0 0).toNat) → (2 < k → 128 ≤ (t.getD 1 0).toNat) → (3 < k → 128 ≤ (t.getD 2 0).toNat) → ∀ x ∈ (b :: t).take k, 128 ≤ x.toNat := by
      intro k hk h1 h2 h3 x hx
      rcases mem_take_cons b t k x hx with rfl | ⟨i, hi, rfl⟩
      · omega
      · have : i = 0 ∨ i = 1 ∨ i = 2 := by omega
        rcases this with rfl | rfl | rfl
        · exact h1 (by omega)
        · exact h2 (by omega)
        · exact h3 (by omega)
    rw [decode_one]
    generalize t.getD 0 0 = c1 at key ⊢
    generalize t.getD 1 0 = c2 at key ⊢
    generalize t.getD 2 0 = c3 at key ⊢
    unfold decodeN
    rw [if_neg h]
    repeat' split
    all_goals exact ⟨by simp only; omega, key _ (by simp) (by simp only; omega) (by simp only; omega) (by simp only; omega)⟩

/-- Whether all of it is white space: by bytes as by steps. -/
theorem space_steps (l : List UInt8) : (steps l).all (fun x => white x.1) = l.all whiteB := by
  refine steps_ind (P := fun l => (steps l).all (fun x => white x.1) = l.all whiteB) rfl (fun l hne ih => ?_) l
  rw [steps_cons l hne, List.all_cons, ih]
  match l, hne with
  | b :: t, _ =>
    rcases step_bytes b t with ⟨h, _⟩ | ⟨h, hx⟩
    · rw [h]; rfl
    · have h1 : white (decodeL (b :: t)).1 = false := by
        cases hw : white (decodeL (b :: t)).1 with
        | false => rfl
        | true => have := white_lt _ hw; omega
      have hb := hx b (by have := decodeL_width (b :: t); obtain ⟨k, hk⟩ : ∃ k, (decodeL (b :: t)).2 = k + 1 := ⟨(decodeL (b :: t)).2 - 1, by omega⟩; rw [hk]; simp)
      have h2 : whiteB b = false := by
        cases hw : whiteB b with
        | false => rfl
        | true => have := whiteB_lt _ hw; omega
      rw [h1, List.all_cons, h2]; rfl
theorem idxFunc_steps (p : Nat → Bool) (s : ByteArray) : decide (0 ≤ idxFunc p true s) = (steps s.data.toList).any (fun x => p x.1) := by
  have : ∀ fuel pos, s.size ≤ pos + fuel → decide (0 ≤ idxFuncFrom p true s fuel pos) = (steps (s.data.toList.drop pos)).any (fun x => p x.1) := by
    intro fuel
    induction fuel with
    | zero => intro pos h; rw [steps_end s pos (by omega)]; rfl
    | succ f ih =>
      intro pos h
      unfold idxFuncFrom
      by_cases hp : pos < s.size
      · have hw := width_pos s pos
        rw [if_pos hp, steps_at s pos hp, List.any_cons, ← ih _ (by omega)]
        cases hpr : p (Utf8.decode s pos).1
        · simp
        · simp
      · rw [if_neg hp, steps_end s pos hp]; rfl
  have := this s.size 0 (by omega)
  rw [List.drop_zero] at this
  exact this

/-- White space normalised, byte by byte: 'pend': a blank is due before the next byte; 'ne': a byte was written. -/
def normGo : Bool → Bool → List UInt8 → List UInt8
  | _, _, [] => []
  | pend, ne, b :: t => if whiteB b then normGo ne ne t else (if pend then [32] else []) ++ b :: normGo false true t
def normL (l : List UInt8) : List UInt8 := normGo false false l
/-- The words: runs of bytes that are no white space. -/
def words : List UInt8 → List UInt8 → List (List UInt8)
  | cur, [] => if cur = [] then [] else [cur]
  | cur, b :: t => if whiteB b then (if cur = [] then words [] t else cur :: words [] t) else words (cur ++ [b]) t
theorem words_run (cur u l : List UInt8) (hu : ∀ b ∈ u, whiteB b = false) : words cur (u ++ l) = words (cur ++ u) l := by
  induction u generalizing cur with
  | nil => simp
  | cons b t ih =>
    have hb := hu b (by simp)
    rw [List.cons_append, words, if_neg (by simp [hb]), ih _ (fun x hx => hu x (by simp [hx])), List.append_assoc]
    rfl
theorem join_words (l : List UInt8) : (∀ cur, cur ≠ [] → (words cur l).flatMap ([32] ++ ·) = [32] ++ cur ++ normGo false true l) ∧ (words [] l).flatMap ([32] ++ ·) = normGo true true l := by
  induction l with
  | nil => exact ⟨fun cur h => by simp [words, h, normGo], rfl⟩
  | cons b t ih =>
    refine ⟨fun cur h => ?_, ?_⟩
    · unfold words normGo
      cases hb : whiteB b
      · simp only [if_false, Bool.false_eq_true]
        rw [ih.1 _ (by simp)]; simp
      · simp only [if_true]
        rw [if_neg h, List.flatMap_cons, ih.2]
    · unfold words normGo
      cases hb : whiteB b
      · simp only [if_false, if_true, Bool.false_eq_true]
        rw [ih.1 _ (by simp)]; simp
      · simp only [if_true]
        exact ih.2
theorem join_cons' (x : List UInt8) (xs : List (List UInt8)) (sep : List UInt8) : join (x :: xs) sep = x ++ xs.flatMap (sep ++ ·) := join_cons x xs sep
theorem join_norm (l : List UInt8) : (∀ cur, cur ≠ [] → join (words cur l) [32] = cur ++ normGo false true l) ∧ join (words [] l) [32] = normGo false false l := by
  induction l with
  | nil => exact ⟨fun cur h => by simp [words, h, normGo, join_cons'], rfl⟩
  | cons b t ih =>
    refine ⟨fun cur h => ?_, ?_⟩
    · unfold words normGo
      cases hb : whiteB b
      · simp only [if_false, Bool.false_eq_true]
        rw [ih.1 _ (by simp)]; simp
      · simp only [if_true]
        rw [if_neg h, join_cons', (join_words t).2]
    · unfold words normGo
      cases hb : whiteB b
      · simp only [if_false, Bool.false_eq_true]
        rw [ih.1 _ (by simp)]; simp
      · simp only [if_true]
        exact ih.2

/-- The bytes from place a on and before place b. -/
def span (l : List UInt8) (x : Nat × Nat) : List UInt8 := (l.take x.2).drop x.1
theorem extract_span (s : ByteArray) (x : Nat × Nat) : (s.extract x.1 x.2).data.toList = span s.data.toList x := by
  rw [extract_data]; unfold span; rw [List.drop_take]
def curOf (l : List UInt8) (pos : Nat) : Option Nat → List UInt8
  | none => []
  | some a => span l (a, pos)
theorem span_more (l : List UInt8) (a p q : Nat) (h : a ≤ p) (hq : p ≤ l.length) : span l (a, p) ++ (l.drop p).take q = span l (a, p + q) := by
  unfold span
  have e : l.take (p + q) = l.take p ++ (l.drop p).take q := by rw [List.take_add]
  rw [e, List.drop_append_of_le_length (by rw [List.length_take]; omega)]
theorem fields_from (s : ByteArray) : ∀ (f pos : Nat) (st : Option Nat) (acc : List (Nat × Nat)), s.size ≤ pos + f → pos ≤ s.size → (∀ a, st = some a → a < pos) →
    (closeSpans s (spansFromP white s f pos st acc)).map (span s.data.toList) = acc.map (span s.data.toList) ++ words (curOf s.data.toList pos st) (s.data.toList.drop pos)
  | 0, pos, st, acc, hf, hp, ha => by
    have hpe : pos = s.size := by omega
    have hd : s.data.toList.drop pos = [] := List.drop_eq_nil_of_le (by rw [← size_eq]; omega)
    rw [hd]
    unfold spansFromP closeSpans words
    cases st with
    | none => simp [curOf]
    | some a =>
      have hlt := ha a rfl
      have hne : curOf s.data.toList pos (some a) ≠ [] := by
        intro h0
        have := congrArg List.length h0
        simp only [curOf, span, List.length_drop, List.length_take, List.length_nil, ← size_eq] at this
        omega
      rw [if_neg hne]
      simp [curOf, hpe]
  | f + 1, pos, st, acc, hf, hp, ha => by
    by_cases hlt : pos < s.size
    · have hdl : s.data.toList.drop pos = s.data.toList[pos]'(by rw [← size_eq]; exact hlt) :: s.data.toList.drop (pos + 1) := List.drop_eq_getElem_cons _
      have hsb := step_bytes (s.data.toList[pos]'(by rw [← size_eq]; exact hlt)) (s.data.toList.drop (pos + 1))
      rw [← hdl, decodeL_drop] at hsb
      have hw := width_pos s pos
      have hwn : pos + (Utf8.decode s pos).2 ≤ s.size := by
        have := decodeN_le_n' (s.size - pos) (s.get! pos).toNat (s.get! (pos + 1)).toNat (s.get! (pos + 2)).toNat (s.get! (pos + 3)).toNat (by omega)
        rw [← decode_at] at this
        omega
      unfold spansFromP
      rw [if_pos hlt]
      cases hwh : white (Utf8.decode s pos).1
      · -- no white space
        have hno : ∀ b ∈ (s.data.toList.drop pos).take (Utf8.decode s pos).2, whiteB b = false := by
          intro b hb
          cases hwb : whiteB b with
          | false => rfl
          | true =>
            have hb1 := whiteB_lt _ hwb
            rcases hsb with ⟨h, _⟩ | ⟨_, h⟩
            · rw [h] at hb hwh
              rw [hdl] at hb
              simp only [List.take_succ_cons, List.take_zero, List.mem_cons, List.not_mem_nil, or_false] at hb
              subst hb
              unfold whiteB at hwb
              rw [hwb] at hwh
              cases hwh
            · have := h b hb; omega
        have hsplit : s.data.toList.drop pos = (s.data.toList.drop pos).take (Utf8.decode s pos).2 ++ s.data.toList.drop (pos + (Utf8.decode s pos).2) := by
          rw [← List.drop_drop, List.take_append_drop]
        rw [hsplit, words_run _ _ _ hno]
        simp only [if_false, Bool.false_eq_true]
        cases st with
        | none =>
          rw [fields_from s f _ (some pos) acc (by omega) hwn (fun a h => by cases h; omega)]
          have : curOf s.data.toList (pos + (Utf8.decode s pos).2) (some pos) = curOf s.data.toList pos none ++ (s.data.toList.drop pos).take (Utf8.decode s pos).2 := by
            rw [curOf, curOf, ← span_more _ _ _ _ (Nat.le_refl _) (by rw [← size_eq]; exact hp)]
            simp [span]
          rw [this]
        | some a =>
          rw [fields_from s f _ (some a) acc (by omega) hwn (fun b h => by cases h; have := ha a rfl; omega)]
          have : curOf s.data.toList (pos + (Utf8.decode s pos).2) (some a) = curOf s.data.toList pos (some a) ++ (s.data.toList.drop pos).take (Utf8.decode s pos).2 := by
            rw [curOf, curOf, ← span_more _ _ _ _ (by have := ha a rfl; omega) (by rw [← size_eq]; exact hp)]
          rw [this]
      · -- white space: one byte
        have hone : (Utf8.decode s pos).2 = 1 ∧ whiteB (s.data.toList[pos]'(by rw [← size_eq]; exact hlt)) = true := by
          rcases hsb with ⟨h, _⟩ | ⟨h, _⟩
          · rw [h] at hwh ⊢; exact ⟨rfl, hwh⟩
          · have := white_lt _ hwh; omega
        rw [hone.1]
        simp only [if_true]
        rw [hdl, words, if_pos hone.2]
        cases st with
        | none =>
          rw [fields_from s f _ none acc (by omega) (by omega) (fun a h => by cases h)]
          simp [curOf]
        | some a =>
          have hap := ha a rfl
          have hne : curOf s.data.toList pos (some a) ≠ [] := by
            intro h0
            have := congrArg List.length h0
            simp only [curOf, span, List.length_drop, List.length_take, List.length_nil, ← size_eq] at this
            omega
          simp only
          rw [fields_from s f _ none (acc ++ [(a, pos)]) (by omega) (by omega) (fun a h => by cases h), if_neg hne]
          simp [curOf]
    · have hpe : pos = s.size := by omega
      rw [show spansFromP white s (f + 1) pos st acc = spansFromP white s 0 pos st acc from by rw [spansFromP_end _ _ _ _ _ _ hlt, spansFromP_end _ _ _ _ _ _ hlt]]
      exact fields_from s 0 pos st acc (by omega) hp ha
/-- The fields of a string, joined by blanks. -/
theorem fields_norm (s : ByteArray) : join ((goFieldsP white s).map (·.data.toList)) [32] = normL s.data.toList := by
  have h := fields_from s s.size 0 none [] (by omega) (Nat.zero_le _) (fun a h => by cases h)
  have e : (goFieldsP white s).map (·.data.toList) = (closeSpans s (spansFromP white s s.size 0 none [])).map (span s.data.toList) := by
    unfold goFieldsP spansOfP
    rw [List.map_map]
    exact List.map_congr_left fun x _ => extract_span s x
  rw [e, h]
  simp only [List.map_nil, List.nil_append, List.drop_zero, curOf]
  exact (join_norm _).2
theorem normGo_len (l : List UInt8) : (normGo true true l).length ≤ l.length + 1 ∧ (normGo false true l).length ≤ l.length ∧ (normGo false false l).length ≤ l.length := by
  induction l with
  | nil => simp [normGo]
  | cons b t ih =>
    unfold normGo
    cases whiteB b
    · simp; omega
    · simp; omega
theorem norm_len (l : List UInt8) : (normL l).length ≤ l.length := (normGo_len l).2.2
theorem words_len (l : List UInt8) : ∀ cur, (words cur l).length ≤ l.length + (if cur = [] then 0 else 1) := by
  induction l with
  | nil => intro cur; unfold words; split <;> simp
  | cons b t ih =>
    intro cur
    unfold words
    split
    · split
      · have := ih []; simp at this ⊢; omega
      · have := ih []; simp at this ⊢; omega
    · have := ih (cur ++ [b]); simp at this ⊢; split <;> omega
theorem fields_len (s : ByteArray) : (goFieldsP white s).length ≤ s.size := by
  have h := fields_from s s.size 0 none [] (by omega) (Nat.zero_le _) (fun a h => by cases h)
  have e : (goFieldsP white s).length = (words [] s.data.toList).length := by
    have h2 := congrArg List.length h
    simp only [List.length_map, List.map_nil, List.nil_append, List.drop_zero, curOf] at h2
    rw [← h2]
    unfold goFieldsP spansOfP
    rw [List.length_map]
  rw [e, size_eq]
  have := words_len s.data.toList []
  simpa using this
end Go.Proofs.YtgjjmapfdijphaaDoor

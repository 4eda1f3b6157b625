/- Plain facts: the fields of a string at the blanks are its words; and its lines. No program in this text. -/
import Derived.Test.YtgjjmapfdijphaaDoorCoPure
import Derived.Test.YtgjjmapfdijphaaDoorCharsPlain3
import Derived.Test.YtgjjmapfdijphaaDoorCharsPlain5
namespace Go.Proofs.YtgjjmapfdijphaaDoor
open Go.Lib

def blank (c : Nat) : Bool := decide (c = 32)
def blankB (b : UInt8) : Bool := decide (b = 32)
theorem blankB_lt (b : UInt8) (h : blankB b = true) : b.toNat < 128 := by
  unfold blankB at h; rw [decide_eq_true_iff] at h; subst h; decide
theorem blank_lt (c : Nat) (h : blank c = true) : c < 128 := by
  unfold blank at h; rw [decide_eq_true_iff] at h; omega
theorem blankB_nat (b : UInt8) : blankB b = blank b.toNat := by
  unfold blankB blank
  rw [Bool.eq_iff_iff, decide_eq_true_iff, decide_eq_true_iff]
  exact ⟨fun h => by rw [h]; rfl, fun h => UInt8.toNat_inj.1 (by rw [h]; rfl)⟩
def runsB : List UInt8 → List UInt8 → List (List UInt8)
  | cur, [] => if cur = [] then [] else [cur]
  | cur, b :: t => if blankB b then (if cur = [] then runsB [] t else cur :: runsB [] t) else runsB (cur ++ [b]) t
theorem runsB_run (cur u l : List UInt8) (hu : ∀ b ∈ u, blankB b = false) : runsB cur (u ++ l) = runsB (cur ++ u) l := by
  induction u generalizing cur with
  | nil => simp
  | cons b t ih =>
    have hb := hu b (by simp)
    rw [List.cons_append, runsB, if_neg (by simp [hb]), ih _ (fun x hx => hu x (by simp [hx])), List.append_assoc]
    rfl
theorem runsB_split : ∀ (l cur : List UInt8), runsB cur l = (splitB 32 cur l).filter fun w => !w.isEmpty
  | [], cur => by
    unfold runsB splitB
    cases cur <;> simp
  | b :: t, cur => by
    unfold runsB splitB blankB
    by_cases h : b = 32
    · rw [if_pos (by simpa using h), if_pos h, runsB_split t []]
      cases cur <;> simp
    · rw [if_neg (by simpa using h), if_neg h]
      exact runsB_split t _
theorem blanks_from (s : ByteArray) : ∀ (f pos : Nat) (st : Option Nat) (acc : List (Nat × Nat)), s.size ≤ pos + f → pos ≤ s.size → (∀ a, st = some a → a < pos) →
    (closeSpans s (spansFromP blank s f pos st acc)).map (span s.data.toList) = acc.map (span s.data.toList) ++ runsB (curOf s.data.toList pos st) (s.data.toList.drop pos)
  | 0, pos, st, acc, hf, hp, ha => by
    have hpe : pos = s.size := by omega
    have hd : s.data.toList.drop pos = [] := List.drop_eq_nil_of_le (by rw [← size_eq]; omega)
    rw [hd]
    unfold spansFromP closeSpans runsB
    cases st with
    | none => simp [curOf]
    | some a =>
      have hlt := ha a rfl
      have hne : curOf s.data.toList pos (some a) ≠ [] := by
        intro h0
        have := congrArg List.length h0
        simp only [curOf, span, List.length_drop, List.length_take, List.length_nil, ← size_eq] at this
        omega
      rw [if_neg hne]
      simp [curOf, hpe]
  | f + 1, pos, st, acc, hf, hp, ha => by
    by_cases hlt : pos < s.size
    · have hdl : s.data.toList.drop pos = s.data.toList[pos]'(by rw [← size_eq]; exact hlt) :: s.data.toList.drop (pos + 1) := List.drop_eq_getElem_cons _
      have hsb := step_bytes (s.data.toList[pos]'(by rw [← size_eq]; exact hlt)) (s.data.toList.drop (pos + 1))
      rw [← hdl, decodeL_drop] at hsb
      have hw := width_pos s pos
      have hwn : pos + (Utf8.decode s pos).2 ≤ s.size := by
        have := decodeN_le_n' (s.size - pos) (s.get! pos).toNat (s.get! (pos + 1)).toNat (s.get! (pos + 2)).toNat (s.get! (pos + 3)).toNat (by omega)
        rw [← decode_at] at this
        omega
      unfold spansFromP
      rw [if_pos hlt]
      cases hwh : blank (Utf8.decode s pos).1
      · -- no blank
        have hno : ∀ b ∈ (s.data.toList.drop pos).take (Utf8.decode s pos).2, blankB b = false := by
          intro b hb
          cases hwb : blankB b with
          | false => rfl
          | true =>
            have hb1 := blankB_lt _ hwb
            rcases hsb with ⟨h, _⟩ | ⟨_, h⟩
            · rw [h] at hb hwh
              rw [hdl] at hb
              simp only [List.take_succ_cons, List.take_zero, List.mem_cons, List.not_mem_nil, or_false] at hb
              subst hb
              rw [blankB_nat] at hwb
              have hwh2 : blank _ = false := hwh
              rw [hwb] at hwh2
              cases hwh2
            · have := h b hb; omega
        have hsplit : s.data.toList.drop pos = (s.data.toList.drop pos).take (Utf8.decode s pos).2 ++ s.data.toList.drop (pos + (Utf8.decode s pos).2) := by
          rw [← List.drop_drop, List.take_append_drop]
        rw [hsplit, runsB_run _ _ _ hno]
        simp only [if_false, Bool.false_eq_true]
        cases st with
        | none =>
          rw [blanks_from s f _ (some pos) acc (by omega) hwn (fun a h => by cases h; omega)]
          have : curOf s.data.toList (pos + (Utf8.decode s pos).2) (some pos) = curOf s.data.toList pos none ++ (s.data.toList.drop pos).take (Utf8.decode s pos).2 := by
            rw [curOf, curOf, ← span_more _ _ _ _ (Nat.le_refl _) (by rw [← size_eq]; exact hp)]
            simp [span]
          rw [this]
        | some a =>
          rw [blanks_from s f _ (some a) acc (by omega) hwn (fun b h => by cases h; have := ha a rfl; omega)]
          have : curOf s.data.toList (pos + (Utf8.decode s pos).2) (some a) = curOf s.data.toList pos (some a) ++ (s.data.toList.drop pos).take (Utf8.decode s pos).2 := by
            rw [curOf, curOf, ← span_more _ _ _ _ (by have := ha a rfl; omega) (by rw [← size_eq]; exact hp)]
          rw [this]
      · -- a blank: one byte
        have hone : (Utf8.decode s pos).2 = 1 ∧ blankB (s.data.toList[pos]'(by rw [← size_eq]; exact hlt)) = true := by
          rcases hsb with ⟨h, _⟩ | ⟨h, _⟩
          · rw [h] at hwh ⊢; exact ⟨rfl, by rw [blankB_nat]; exact hwh⟩
          · have := blank_lt _ hwh; omega
        rw [hone.1]
        simp only [if_true]
        rw [hdl, runsB, if_pos hone.2]
        cases st with
        | none =>
          rw [blanks_from s f _ none acc (by omega) (by omega) (fun a h => by cases h)]
          simp [curOf]
        | some a =>
          have hap := ha a rfl
          have hne : curOf s.data.toList pos (some a) ≠ [] := by
            intro h0
            have := congrArg List.length h0
            simp only [curOf, span, List.length_drop, List.length_take, List.length_nil, ← size_eq] at this
            omega
          simp only
          rw [blanks_from s f _ none (acc ++ [(a, pos)]) (by omega) (by omega) (fun a h => by cases h), if_neg hne]
          simp [curOf]
    · have hpe : pos = s.size := by omega
      rw [show spansFromP blank s (f + 1) pos st acc = spansFromP blank s 0 pos st acc from by rw [spansFromP_end _ _ _ _ _ _ hlt, spansFromP_end _ _ _ _ _ _ hlt]]
      exact blanks_from s 0 pos st acc (by omega) hp ha
/-- The fields of a string at the blanks are its words. -/
theorem fields_blank (s : ByteArray) : (goFieldsP blank s).map (·.data.toList) = wordsL s.data.toList := by
  have h := blanks_from s s.size 0 none [] (by omega) (Nat.zero_le _) (fun a h => by cases h)
  have e : (goFieldsP blank s).map (·.data.toList) = (closeSpans s (spansFromP blank s s.size 0 none [])).map (span s.data.toList) := by
    unfold goFieldsP spansOfP
    rw [List.map_map]
    exact List.map_congr_left fun x _ => extract_span s x
  rw [e, h]
  simp only [List.map_nil, List.nil_append, List.drop_zero, curOf]
  exact runsB_split _ _
theorem splitB_len (b : UInt8) : ∀ (l cur : List UInt8), (splitB b cur l).length ≤ l.length + 1
  | [], cur => by simp [splitB]
  | x :: t, cur => by
    unfold splitB
    split
    · have := splitB_len b t []; simp; omega
    · have := splitB_len b t (cur ++ [x]); simp; omega
theorem splitB_sum (b : UInt8) : ∀ (l cur : List UInt8), ((splitB b cur l).map List.length).sum ≤ l.length + cur.length
  | [], cur => by simp [splitB]
  | x :: t, cur => by
    unfold splitB
    split
    · have := splitB_sum b t []; simp at this ⊢; omega
    · have := splitB_sum b t (cur ++ [x]); simp at this ⊢; omega
theorem mem_le_sum (x : Nat) : ∀ L : List Nat, x ∈ L → x ≤ L.sum
  | y :: L, h => by
    rw [List.sum_cons]
    rcases List.mem_cons.1 h with rfl | h
    · omega
    · have := mem_le_sum x L h; omega
theorem splitB_mem (b : UInt8) (l cur x : List UInt8) (h : x ∈ splitB b cur l) : x.length ≤ l.length + cur.length := by
  have h1 : x.length ≤ ((splitB b cur l).map List.length).sum := by
    have : x.length ∈ (splitB b cur l).map List.length := List.mem_map.2 ⟨x, h, rfl⟩
    exact mem_le_sum _ _ this
  exact Nat.le_trans h1 (splitB_sum b l cur)
theorem words_short (l : List UInt8) : (wordsL l).length ≤ l.length + 1 := by
  unfold wordsL
  exact Nat.le_trans (List.length_filter_le _ _) (splitB_len 32 l [])
theorem word_short (l x : List UInt8) (h : x ∈ wordsL l) : x.length ≤ l.length := by
  have := splitB_mem 32 l [] x (List.mem_filter.1 h).1
  simpa using this
theorem words_sum (l : List UInt8) : (wordsL l).length ≤ l.length := by
  have h1 : ∀ L : List (List UInt8), (L.filter fun w => !w.isEmpty).length ≤ (L.map List.length).sum := by
    intro L
    induction L with
    | nil => simp
    | cons x L ih =>
      rw [List.filter_cons, List.map_cons, List.sum_cons]
      cases x with
      | nil => simpa using ih
      | cons y t => simp; omega
  have := splitB_sum 32 l []
  have h2 := h1 (splitB 32 [] l)
  unfold wordsL
  simp at this
  omega
/-- Lines: a text without a byte 10 is one; otherwise the first one ends there. -/
theorem splitB_cons (b x : UInt8) (cur t : List UInt8) : splitB b cur (x :: t) = if x = b then cur :: splitB b [] t else splitB b (cur ++ [x]) t := rfl
theorem splitB_none (b : UInt8) : ∀ (l cur : List UInt8), b ∉ l → splitB b cur l = [cur ++ l]
  | [], cur, _ => by simp [splitB]
  | x :: t, cur, h => by
    rw [List.mem_cons, not_or] at h
    unfold splitB
    rw [if_neg (fun e => h.1 e.symm), splitB_none b t _ h.2, List.append_assoc]; rfl
theorem splitB_at (b : UInt8) : ∀ (a t cur : List UInt8), b ∉ a → splitB b cur (a ++ b :: t) = (cur ++ a) :: splitB b [] t
  | [], t, cur, _ => by simp [splitB]
  | x :: a, t, cur, h => by
    rw [List.mem_cons, not_or] at h
    rw [List.cons_append, splitB_cons, if_neg (fun e => h.1 e.symm), splitB_at b a t _ h.2, List.append_assoc, List.singleton_append]
theorem linesL_none (l : List UInt8) (h : (10 : UInt8) ∉ l) : linesL l = [l] := splitB_none 10 l [] h
theorem linesL_at (a t : List UInt8) (h : (10 : UInt8) ∉ a) : linesL (a ++ 10 :: t) = a :: linesL t := splitB_at 10 a t [] h
theorem linesL_ne (l : List UInt8) : linesL l ≠ [] := by
  unfold linesL
  have : ∀ (l cur : List UInt8), splitB 10 cur l ≠ [] := by
    intro l
    induction l with
    | nil => intro cur h; simp [splitB] at h
    | cons x t ih => intro cur; unfold splitB; split <;> simp [ih]
  exact this l []
end Go.Proofs.YtgjjmapfdijphaaDoor

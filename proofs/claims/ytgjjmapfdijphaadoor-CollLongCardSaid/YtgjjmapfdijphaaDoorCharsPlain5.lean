/- Plain facts on names: what isPart and IsName compute, by code points. No program in this text. -/
import Derived.Test.YtgjjmapfdijphaaDoorCharsPlain4
import Derived.Test.YtgjjmapfdijphaaDoorCharsGround
import Derived.Lib.IndexLaws
namespace Go.Proofs.YtgjjmapfdijphaaDoor
open Go.Lib

def letC (c : Nat) : Bool := letZ (c : Int)
def nmC (c : Nat) : Bool := letZ (c : Int) || latZ (c : Int)
theorem letC_iff (c : Nat) : letC c = true ↔ ((65 ≤ c ∧ c ≤ 90) ∨ (97 ≤ c ∧ c ≤ 122) ∨ c = 95 ∨ (192 ≤ c ∧ c ≠ 215 ∧ c ≠ 247)) := by
  unfold letC letZ; rw [decide_eq_true_iff]; omega
theorem nmC_iff (c : Nat) : nmC c = true ↔ ((65 ≤ c ∧ c ≤ 90) ∨ (97 ≤ c ∧ c ≤ 122) ∨ c = 95 ∨ (192 ≤ c ∧ c ≠ 215 ∧ c ≠ 247) ∨ (48 ≤ c ∧ c ≤ 57) ∨ c = 45 ∨ c = 46 ∨ c = 183) := by
  unfold nmC letZ latZ; rw [Bool.or_eq_true, decide_eq_true_iff, decide_eq_true_iff]; omega
theorem nm_of_let (c : Nat) (h : letC c = true) : nmC c = true := by rw [letC_iff] at h; rw [nmC_iff]; omega
/-- A part of a name. -/
def partC : List Nat → Bool
  | [] => false
  | c :: t => letC c && t.all nmC
theorem partS_false (xs : List (Nat × Nat)) : partS false xs = (xs.map Prod.fst).all nmC := by
  induction xs with
  | nil => rfl
  | cons x t ih =>
    unfold partS
    rw [ih, List.map_cons, List.all_cons]
    unfold nmC
    cases letZ (x.1 : Int) <;> cases latZ (x.1 : Int) <;> simp
theorem partL_codes (l : List UInt8) : partL l = partC (codes l) := by
  unfold partL
  cases l with
  | nil => rfl
  | cons b t =>
    have hs := steps_cons (b :: t) (by simp)
    unfold codes
    rw [hs, List.map_cons]
    unfold partS partC
    rw [partS_false]
    unfold letC
    generalize (decodeL (b :: t)).1 = r
    generalize List.map Prod.fst (steps (List.drop (decodeL (b :: t)).2 (b :: t))) = v
    cases hl : letZ (r : Int) <;> simp [hl]

/-- What stands before the first colon, and behind it. -/
def splitC : List Nat → List Nat × Option (List Nat)
  | [] => ([], none)
  | c :: t => if c = 58 then ([], some t) else (c :: (splitC t).1, (splitC t).2)
def tailC : Option (List Nat) → Bool
  | none => true
  | some b => partC b
def nameC (p : List Nat) : Bool := decide (p.length ≤ 100) && (partC (splitC p).1 && tailC (splitC p).2)
theorem splitC_some (p b : List Nat) (h : (splitC p).2 = some b) : p = (splitC p).1 ++ 58 :: b := by
  induction p with
  | nil => simp [splitC] at h
  | cons c t ih =>
    unfold splitC at h ⊢
    by_cases hc : c = 58
    · simp [hc] at h ⊢; exact h
    · simp [hc] at h ⊢; exact ih h
theorem splitC_none (p : List Nat) (h : (splitC p).2 = none) : (splitC p).1 = p := by
  induction p with
  | nil => rfl
  | cons c t ih =>
    unfold splitC at h ⊢
    by_cases hc : c = 58
    · simp [hc] at h
    · simp [hc] at h ⊢; exact ih h
theorem splitC_no58 (p : List Nat) : 58 ∉ (splitC p).1 := by
  induction p with
  | nil => simp [splitC]
  | cons c t ih =>
    unfold splitC
    by_cases hc : c = 58
    · simp [hc]
    · simp only [hc, if_false, List.mem_cons, not_or]
      exact ⟨fun h => hc h.symm, ih⟩
theorem splitC_app (a b : List Nat) (h : 58 ∉ a) : splitC (a ++ 58 :: b) = (a, some b) := by
  induction a with
  | nil => simp [splitC]
  | cons c t ih =>
    have hc : c ≠ 58 := fun e => h (by simp [e])
    rw [List.cons_append, splitC, if_neg hc, ih (fun e => h (by simp [e]))]
theorem splitC_plain (a : List Nat) (h : 58 ∉ a) : splitC a = (a, none) := by
  induction a with
  | nil => rfl
  | cons c t ih =>
    have hc : c ≠ 58 := fun e => h (by simp [e])
    rw [splitC, if_neg hc, ih (fun e => h (by simp [e]))]

/-! ### bytes below 128 among the bytes of characters -/
theorem encode_low (c : Nat) (hc : chr c = true) (b : UInt8) (hb : b ∈ encodeRune (c : Int)) (hlt : b.toNat < 128) : c = b.toNat ∧ encodeRune (c : Int) = [b] := by
  have hd := decode_encode c hc []
  rw [List.append_nil] at hd
  match hE : encodeRune (c : Int), hb with
  | x :: t, hb =>
    rw [hE] at hd
    have hs := step_bytes x t
    rw [hd] at hs
    rcases hs with ⟨h1, h2⟩ | ⟨h1, h2⟩
    · simp only [Prod.mk.injEq, List.length_cons] at h1
      have ht : t = [] := List.eq_nil_of_length_eq_zero (by omega)
      subst ht
      simp at hb
      subst hb
      exact ⟨h1.1, rfl⟩
    · simp only at h1 h2
      have := h2 b (by rw [List.take_of_length_le (Nat.le_refl _)]; exact hb)
      omega
theorem encode_ascii (c : Nat) (h : c < 128) : encodeRune (c : Int) = [c.toUInt8] := by
  unfold encodeRune; rw [encodeRuneZ_one (by omega) (by omega)]; simp
theorem mem_form (p : List Nat) (hp : ∀ c ∈ p, chr c = true) (b : UInt8) (hlt : b.toNat < 128) : b ∈ form p ↔ b.toNat ∈ p := by
  induction p with
  | nil => simp [form]
  | cons c t ih =>
    have iht := ih (fun d hd => hp d (by simp [hd]))
    rw [form_cons, List.mem_append, iht, List.mem_cons]
    constructor
    · rintro (h | h)
      · exact .inl (encode_low c (hp c (by simp)) b h hlt).1.symm
      · exact .inr h
    · rintro (h | h)
      · refine .inl ?_
        rw [← h, encode_ascii _ hlt]
        have : b.toNat.toUInt8 = b := by
          apply UInt8.toNat_inj.1; rw [u8_nat _ (by omega)]
        rw [this]; simp
      · exact .inr h
theorem count_form (p : List Nat) (hp : ∀ c ∈ p, chr c = true) (b : UInt8) (hlt : b.toNat < 128) : (form p).count b = p.count b.toNat := by
  induction p with
  | nil => rfl
  | cons c t ih =>
    have iht := ih (fun d hd => hp d (by simp [hd]))
    rw [form_cons, List.count_append, iht, List.count_cons]
    by_cases h : c = b.toNat
    · rw [h, encode_ascii _ hlt]
      have : b.toNat.toUInt8 = b := by
        apply UInt8.toNat_inj.1; rw [u8_nat _ (by omega)]
      rw [this]; simp; omega
    · have : (encodeRune (c : Int)).count b = 0 := by
        rw [List.count_eq_zero]
        intro hb
        exact h (encode_low c (hp c (by simp)) b hb hlt).1
      rw [this]; simp [h]

/-! ### index, contains and cut at one byte -/
theorem index_one_none (l : List UInt8) (b : UInt8) (h : b ∉ l) : index l [b] = -1 := by
  induction l with
  | nil => rfl
  | cons c t ih =>
    have hc : b ≠ c := fun e => h (by simp [e])
    unfold index
    rw [ih (fun e => h (by simp [e]))]
    simp [hc]
theorem index_one_at (a t : List UInt8) (b : UInt8) (h : b ∉ a) : index (a ++ b :: t) [b] = a.length := by
  induction a with
  | nil => simp [index]
  | cons c a ih =>
    have hc : b ≠ c := fun e => h (by simp [e])
    rw [List.cons_append]
    unfold index
    rw [ih (fun e => h (by simp [e]))]
    have : ¬ ((a.length : Int) = -1) := by omega
    simp [hc, this]
theorem split_at (l : List UInt8) (b : UInt8) (h : b ∈ l) : ∃ a t, l = a ++ b :: t ∧ b ∉ a := by
  induction l with
  | nil => simp at h
  | cons c l ih =>
    by_cases hc : c = b
    · exact ⟨[], l, by simp [hc], by simp⟩
    · have : b ∈ l := by
        rcases List.mem_cons.1 h with h | h
        · exact absurd h.symm hc
        · exact h
      obtain ⟨a, t, rfl, ha⟩ := ih this
      exact ⟨c :: a, t, rfl, by simp [ha]; exact fun e => hc e.symm⟩
theorem contains_one (l : List UInt8) (b : UInt8) : contains l [b] = decide (b ∈ l) := by
  unfold contains
  by_cases h : b ∈ l
  · obtain ⟨a, t, rfl, ha⟩ := split_at l b h
    rw [index_one_at a t b ha, decide_eq_true h]; simp
  · rw [index_one_none l b h, decide_eq_false h]; simp
theorem cut_one_at (a t : List UInt8) (b : UInt8) (h : b ∉ a) : cut (a ++ b :: t) [b] = (a, t, true) := by
  unfold cut
  rw [index_one_at a t b h, if_pos (by omega), Int.toNat_natCast, List.take_left]
  rw [show a.length + [b].length = (a ++ [b]).length by simp, show a ++ b :: t = (a ++ [b]) ++ t by simp, List.drop_left]
theorem cut_one_none (l : List UInt8) (b : UInt8) (h : b ∉ l) : cut l [b] = (l, [], false) := by
  unfold cut
  rw [index_one_none l b h, if_neg (by omega)]
/-- What IsName computes, by code points. -/
theorem nameL_codes (l : List UInt8) (h : text l = true) : nameL l = nameC (codes l) := by
  have hp := text_chr l h
  have hl := (form_codes l h).symm
  unfold nameL nameC
  rw [h, Bool.true_and, show (codes l).length = (steps l).length from List.length_map _]
  congr 1
  cases hs : (splitC (codes l)).2 with
  | none =>
    have hpl := splitC_none _ hs
    have hno := splitC_no58 (codes l)
    rw [hpl] at hno
    have hb : (58 : UInt8) ∉ l := by
      intro hb
      rw [hl] at hb
      exact hno ((mem_form _ hp 58 (by decide)).1 hb)
    rw [cut_one_none l 58 hb, hpl, partL_codes]
    simp [tailC]
  | some b =>
    have hpl := splitC_some _ b hs
    have hno := splitC_no58 (codes l)
    generalize (splitC (codes l)).1 = a at hpl hno ⊢
    have ha : ∀ c ∈ a, chr c = true := fun c hc => hp c (by rw [hpl]; simp [hc])
    have hbb : ∀ c ∈ b, chr c = true := fun c hc => hp c (by rw [hpl]; simp [hc])
    have e : l = form a ++ 58 :: form b := by
      conv => lhs; rw [hl, hpl, form_append, form_cons]
      rw [show encodeRune ((58 : Nat) : Int) = [58] from by decide]; rfl
    have hna : (58 : UInt8) ∉ form a := fun hh => hno ((mem_form a ha 58 (by decide)).1 hh)
    rw [e, cut_one_at _ _ _ hna, partL_codes, partL_codes, codes_form a ha, codes_form b hbb]
    simp [tailC]
theorem nameL_text (l : List UInt8) (h : nameL l = true) : text l = true := by
  unfold nameL at h
  cases ht : text l with
  | true => rfl
  | false => rw [ht] at h; simp at h
end Go.Proofs.YtgjjmapfdijphaaDoor

/- Plain facts on the characters of a string: its steps by the model's own decoder, what a text is, and that a text is made again of its code points. No program in this text. -/
import Derived.Lib.MapLaws
import Derived.Lib.ValidLaws
import Derived.Lib.RuneCount
namespace Go.Proofs.YtgjjmapfdijphaaDoor
open Go.Lib

/-- White space, as code points. -/
def white (c : Nat) : Bool := decide (c = 32 ∨ c = 9 ∨ c = 10 ∨ c = 13)
/-- The characters. -/
def chr (c : Nat) : Bool := decide (c = 9 ∨ c = 10 ∨ c = 13 ∨ (32 ≤ c ∧ c ≤ 55295) ∨ (57344 ≤ c ∧ c ≤ 65533) ∨ (65536 ≤ c ∧ c ≤ 1114111))
theorem chr_iff (c : Nat) : chr c = true ↔ (c = 9 ∨ c = 10 ∨ c = 13 ∨ (32 ≤ c ∧ c ≤ 55295) ∨ (57344 ≤ c ∧ c ≤ 65533) ∨ (65536 ≤ c ∧ c ≤ 1114111)) := by
  unfold chr; exact decide_eq_true_iff

/-- The decoder's steps over a list of bytes: rune and width of each. -/
def stepsN : Nat → List UInt8 → List (Nat × Nat)
  | 0, _ => []
  | n + 1, l => if l = [] then [] else decodeL l :: stepsN n (l.drop (decodeL l).2)
def steps (l : List UInt8) : List (Nat × Nat) := stepsN l.length l

theorem stepsN_nil : ∀ n, stepsN n [] = []
  | 0 => rfl
  | _ + 1 => by simp [stepsN]
theorem stepsN_fuel : ∀ (n m : Nat) (l : List UInt8), l.length ≤ n → l.length ≤ m → stepsN n l = stepsN m l
  | 0, m, l, hn, _ => by
    have : l = [] := List.eq_nil_of_length_eq_zero (by omega)
    subst this
    rw [stepsN_nil, stepsN_nil]
  | n + 1, 0, l, _, hm => by
    have : l = [] := List.eq_nil_of_length_eq_zero (by omega)
    subst this
    rw [stepsN_nil, stepsN_nil]
  | n + 1, m + 1, l, hn, hm => by
    unfold stepsN
    by_cases hne : l = []
    · simp [hne]
    · have hw := decodeL_width l
      have hl : 0 < l.length := List.length_pos_iff.2 hne
      rw [if_neg hne, if_neg hne, stepsN_fuel n m (l.drop (decodeL l).2) (by rw [List.length_drop]; omega) (by rw [List.length_drop]; omega)]
theorem steps_nil : steps [] = [] := rfl
theorem steps_cons (l : List UInt8) (hne : l ≠ []) : steps l = decodeL l :: steps (l.drop (decodeL l).2) := by
  have hl : 0 < l.length := List.length_pos_iff.2 hne
  have hw := decodeL_width l
  obtain ⟨n, hn⟩ : ∃ n, l.length = n + 1 := ⟨l.length - 1, by omega⟩
  unfold steps
  rw [hn]
  show (if l = [] then [] else _) = _
  rw [if_neg hne, stepsN_fuel n (l.drop (decodeL l).2).length _ (by rw [List.length_drop]; omega) (Nat.le_refl _)]
/-- Induction over the decoder's steps. -/
theorem steps_ind {P : List UInt8 → Prop} (h0 : P []) (h1 : ∀ l, l ≠ [] → P (l.drop (decodeL l).2) → P l) (l : List UInt8) : P l := by
  have : ∀ n (l : List UInt8), l.length ≤ n → P l := by
    intro n
    induction n with
    | zero => intro l hl; have : l = [] := List.eq_nil_of_length_eq_zero (by omega); subst this; exact h0
    | succ n ih =>
      intro l hl
      by_cases hne : l = []
      · subst hne; exact h0
      · have hw := decodeL_width l
        have hl : 0 < l.length := List.length_pos_iff.2 hne
        exact h1 l hne (ih _ (by rw [List.length_drop]; omega))
  exact this l.length l (Nat.le_refl _)
/-- Induction that knows where a step at place pos of s stands. -/
theorem steps_at (s : ByteArray) (pos : Nat) (h : pos < s.size) : steps (s.data.toList.drop pos) = Utf8.decode s pos :: steps (s.data.toList.drop (pos + (Utf8.decode s pos).2)) := by
  have hne : s.data.toList.drop pos ≠ [] := by
    intro h0
    have := congrArg List.length h0
    rw [List.length_drop, ← size_eq] at this
    simp at this
    omega
  rw [steps_cons _ hne, decodeL_drop, List.drop_drop]
theorem steps_end (s : ByteArray) (pos : Nat) (h : ¬ pos < s.size) : steps (s.data.toList.drop pos) = [] := by
  rw [List.drop_eq_nil_of_le (by rw [← size_eq]; omega)]; rfl
theorem steps_len (l : List UInt8) : (steps l).length ≤ l.length := by
  refine steps_ind (P := fun l => (steps l).length ≤ l.length) (by simp [steps_nil]) (fun l hne ih => ?_) l
  have hw := decodeL_width l
  have hl : 0 < l.length := List.length_pos_iff.2 hne
  rw [steps_cons l hne, List.length_cons]
  rw [List.length_drop] at ih
  omega

/-- A step that is a byte of no valid form. -/
def bad (x : Nat × Nat) : Bool := decide (x.1 = 65533 ∧ x.2 = 1)
theorem validD_steps (l : List UInt8) : validD l = (steps l).all fun x => !bad x := by
  refine steps_ind (P := fun l => validD l = (steps l).all fun x => !bad x) rfl (fun l hne ih => ?_) l
  rw [validD_step l hne, steps_cons l hne, List.all_cons, ← ih]
  by_cases h : (decodeL l).1 = 65533 ∧ (decodeL l).2 = 1
  · simp [bad, h]
  · rw [if_neg h]; simp only [bad, h, decide_false, Bool.not_false, Bool.true_and]
theorem runeCount_steps (s : ByteArray) : runeCount s = (steps s.data.toList).length := by
  have : ∀ fuel pos, s.size ≤ pos + fuel → runeCountFrom s fuel pos = (steps (s.data.toList.drop pos)).length := by
    intro fuel
    induction fuel with
    | zero => intro pos h; rw [steps_end s pos (by omega)]; rfl
    | succ f ih =>
      intro pos h
      unfold runeCountFrom
      by_cases hp : pos < s.size
      · have hw := width_pos s pos
        rw [if_pos hp, steps_at s pos hp, ih _ (by omega), List.length_cons]; omega
      · rw [if_neg hp, steps_end s pos hp]; rfl
  have := this s.size 0 (by omega)
  rw [List.drop_zero] at this
  exact this

/-- A text: each step is a character. -/
def text (l : List UInt8) : Bool := (steps l).all fun x => !bad x && chr x.1
/-- Its code points (of a text). -/
def codes (l : List UInt8) : List Nat := (steps l).map Prod.fst
theorem codes_len (l : List UInt8) : (codes l).length ≤ l.length := by unfold codes; rw [List.length_map]; exact steps_len l
theorem text_split (l : List UInt8) : text l = (validD l && (steps l).all fun x => chr x.1) := by
  rw [validD_steps]; unfold text
  induction steps l with
  | nil => rfl
  | cons x t ih => simp only [List.all_cons, ih]; cases bad x <;> cases chr x.1 <;> simp
theorem text_chr (l : List UInt8) (h : text l = true) : ∀ c ∈ codes l, chr c = true := by
  intro c hc
  obtain ⟨x, hx, rfl⟩ := List.mem_map.1 hc
  have := List.all_eq_true.1 h x hx
  simp at this
  exact this.2

/-- The UTF-8 form of code points. -/
def form (p : List Nat) : List UInt8 := p.flatMap fun (c : Nat) => encodeRune (c : Int)
theorem form_nil : form [] = [] := rfl
theorem form_cons (c : Nat) (p : List Nat) : form (c :: p) = encodeRune (c : Int) ++ form p := rfl
theorem form_append (p q : List Nat) : form (p ++ q) = form p ++ form q := by unfold form; rw [List.flatMap_append]
/-- A text is made again of its code points. -/
theorem form_codes (l : List UInt8) (h : text l = true) : form (codes l) = l := by
  refine steps_ind (P := fun l => text l = true → form (codes l) = l) (fun _ => rfl) (fun l hne ih ht => ?_) l h
  unfold text codes at *
  rw [steps_cons l hne] at ht ⊢
  rw [List.all_cons, Bool.and_eq_true] at ht
  rw [List.map_cons, form_cons, ih ht.2]
  have hb : ¬ ((decodeL l).1 = 65533 ∧ (decodeL l).2 = 1) := by
    intro hb
    have := ht.1
    simp [bad, hb] at this
  rw [encode_decode l hne hb, List.take_append_drop]
end Go.Proofs.YtgjjmapfdijphaaDoor

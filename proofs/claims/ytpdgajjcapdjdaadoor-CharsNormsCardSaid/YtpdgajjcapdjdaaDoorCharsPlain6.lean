/- Plain facts on names: no white space, at most one colon; two of them with a colon between them; name characters behind them. No program in this text. -/
import Derived.Test.YtpdgajjcapdjdaaDoorCharsPlain5
namespace Go.Proofs.YtpdgajjcapdjdaaDoor
open Go.Lib

theorem partC_all (p : List Nat) (h : partC p = true) : p ≠ [] ∧ ∀ c ∈ p, nmC c = true := by
  match p, h with
  | c :: t, h =>
    unfold partC at h
    rw [Bool.and_eq_true] at h
    refine ⟨by simp, fun d hd => ?_⟩
    rcases List.mem_cons.1 hd with rfl | hd
    · exact nm_of_let _ h.1
    · exact List.all_eq_true.1 h.2 d hd
theorem nm58 : nmC 58 = false := by decide
theorem nm_white (c : Nat) (h : nmC c = true) : white c = false := by
  rw [nmC_iff] at h
  unfold white; rw [decide_eq_false_iff_not]; omega
theorem part58 (p : List Nat) (h : partC p = true) : 58 ∉ p := fun hm => by
  have := (partC_all p h).2 58 hm
  rw [nm58] at this; cases this
theorem nameC_all (p : List Nat) (h : nameC p = true) : p ≠ [] ∧ p.length ≤ 100 ∧ (∀ c ∈ p, nmC c = true ∨ c = 58) ∧ p.count 58 ≤ 1 := by
  unfold nameC at h
  rw [Bool.and_eq_true, Bool.and_eq_true, decide_eq_true_iff] at h
  obtain ⟨hl, h1, h2⟩ := h
  obtain ⟨hne, hall⟩ := partC_all _ h1
  have hno := splitC_no58 p
  cases hs : (splitC p).2 with
  | none =>
    rw [splitC_none p hs] at hne hall hno
    exact ⟨hne, hl, fun c hc => .inl (hall c hc), by rw [List.count_eq_zero.2 hno]; omega⟩
  | some b =>
    rw [hs] at h2
    have hb : partC b = true := h2
    have hpl := splitC_some p b hs
    generalize (splitC p).1 = a at hpl hne hall hno
    refine ⟨by rw [hpl]; simp, hl, fun c hc => ?_, ?_⟩
    · rw [hpl] at hc
      simp only [List.mem_append, List.mem_cons] at hc
      rcases hc with hc | hc | hc
      · exact .inl (hall c hc)
      · exact .inr hc
      · exact .inl ((partC_all b hb).2 c hc)
    · rw [hpl, List.count_append, List.count_cons, List.count_eq_zero.2 hno, List.count_eq_zero.2 (part58 b hb)]; simp
theorem name_facts (l : List UInt8) (h : nameL l = true) : text l = true ∧ (∀ b ∈ l, whiteB b = false) ∧ l.count 58 ≤ 1 ∧ 1 ≤ (codes l).length ∧ (codes l).length ≤ 100 := by
  have ht := nameL_text l h
  rw [nameL_codes l ht] at h
  obtain ⟨hne, hl, hall, hc⟩ := nameC_all _ h
  have hp := text_chr l ht
  have hf := form_codes l ht
  refine ⟨ht, fun b hb => ?_, ?_, ?_, hl⟩
  · cases hw : whiteB b with
    | false => rfl
    | true =>
      have hlt := whiteB_lt b hw
      rw [← hf] at hb
      have hm := (mem_form _ hp b hlt).1 hb
      unfold whiteB at hw
      rcases hall _ hm with h1 | h1
      · rw [nm_white _ h1] at hw; cases hw
      · rw [h1] at hw; cases hw
  · have := count_form _ hp 58 (by decide)
    rw [hf] at this
    rw [this]; exact hc
  · rcases Nat.eq_zero_or_pos (codes l).length with h0 | h0
    · exact absurd (List.eq_nil_of_length_eq_zero h0) hne
    · exact h0
theorem norm_same (l : List UInt8) (h : ∀ b ∈ l, whiteB b = false) : normL l = l := by
  have : ∀ (l : List UInt8) (ne : Bool), (∀ b ∈ l, whiteB b = false) → normGo false ne l = l := by
    intro l
    induction l with
    | nil => intro ne _; rfl
    | cons b t ih =>
      intro ne h
      unfold normGo
      rw [h b (by simp), ih true (fun c hc => h c (by simp [hc]))]
      simp
  exact this l false h
theorem no_blank (l : List UInt8) (h : ∀ b ∈ l, whiteB b = false) : contains l [32] = false := by
  rw [contains_one, decide_eq_false_iff_not]
  intro hm
  have := h 32 hm
  exact absurd this (by decide)
theorem name_blank (l : List UInt8) (h : (32 : UInt8) ∈ l) : nameL l = false := by
  cases hn : nameL l with
  | false => rfl
  | true => have := (name_facts l hn).2.1 32 h; exact absurd this (by decide)
theorem name_two (l : List UInt8) (h : 2 ≤ l.count 58) : nameL l = false := by
  cases hn : nameL l with
  | false => rfl
  | true => have := (name_facts l hn).2.2.1; omega

/-- A name without a colon. -/
def plainL (l : List UInt8) : Bool := nameL l && !contains l [58]
theorem plainL_iff (l : List UInt8) : plainL l = true ↔ text l = true ∧ partC (codes l) = true ∧ (codes l).length ≤ 100 := by
  unfold plainL
  rw [Bool.and_eq_true]
  constructor
  · rintro ⟨h, hc⟩
    have ht := nameL_text l h
    rw [nameL_codes l ht] at h
    have hno : 58 ∉ codes l := by
      intro hm
      have := (mem_form _ (text_chr l ht) 58 (by decide)).2 hm
      rw [form_codes l ht] at this
      rw [contains_one, decide_eq_true this] at hc
      cases hc
    unfold nameC at h
    rw [splitC_plain _ hno, Bool.and_eq_true, Bool.and_eq_true, decide_eq_true_iff] at h
    exact ⟨ht, h.2.1, h.1⟩
  · rintro ⟨ht, hp, hl⟩
    have hno := part58 _ hp
    refine ⟨?_, ?_⟩
    · rw [nameL_codes l ht]
      unfold nameC
      rw [splitC_plain _ hno, decide_eq_true hl, hp]; rfl
    · rw [contains_one, decide_eq_false]; · rfl
      intro hm
      rw [← form_codes l ht] at hm
      exact hno ((mem_form _ (text_chr l ht) 58 (by decide)).1 hm)
theorem first_unique (a b x y : List UInt8) (c : UInt8) (h : a ++ c :: b = x ++ c :: y) (ha : c ∉ a) (hx : c ∉ x) : a = x ∧ b = y := by
  have h1 := cut_one_at a b c ha
  rw [h, cut_one_at x y c hx] at h1
  simp only [Prod.mk.injEq, and_true] at h1
  exact ⟨h1.1.symm, h1.2.symm⟩
theorem text_colon : text [58] = true ∧ codes [58] = [58] := by decide
theorem name_join (l1 l2 : List UInt8) : nameL (l1 ++ 58 :: l2) = (plainL l1 && plainL l2 && decide ((codes l1).length + (codes l2).length < 100)) := by
  rw [Bool.eq_iff_iff, Bool.and_eq_true, Bool.and_eq_true, decide_eq_true_iff]
  constructor
  · intro h
    have hf := name_facts _ h
    have ht := hf.1
    have hp := text_chr _ ht
    have hl := form_codes _ ht
    have hcnt := hf.2.2.1
    have hn1 : (58 : UInt8) ∉ l1 := by
      intro hm
      have := List.count_pos_iff.2 hm
      rw [List.count_append, List.count_cons] at hcnt
      simp at hcnt
      omega
    rw [nameL_codes _ ht] at h
    have hlen := hf.2.2.2.2
    generalize hC : codes (l1 ++ 58 :: l2) = p at h hp hl hlen
    have hmem : 58 ∈ p := (mem_form p hp 58 (by decide)).1 (by rw [hl]; simp)
    unfold nameC at h
    rw [Bool.and_eq_true, Bool.and_eq_true] at h
    have hno := splitC_no58 p
    cases hs : (splitC p).2 with
    | none => rw [splitC_none p hs] at hno; exact absurd hmem hno
    | some b =>
      have hpl := splitC_some p b hs
      rw [hs] at h
      have hb : partC b = true := h.2.2
      have h1 := h.2.1
      generalize (splitC p).1 = a at hpl hno h1
      have ha' : ∀ c ∈ a, chr c = true := fun c hc => hp c (by rw [hpl]; simp [hc])
      have hb' : ∀ c ∈ b, chr c = true := fun c hc => hp c (by rw [hpl]; simp [hc])
      rw [hpl, form_append, form_cons, show encodeRune ((58 : Nat) : Int) = [58] from by decide] at hl
      have hna : (58 : UInt8) ∉ form a := fun hh => hno ((mem_form a ha' 58 (by decide)).1 hh)
      obtain ⟨e1, e2⟩ := first_unique (form a) (form b) l1 l2 58 hl hna hn1
      rw [hpl, List.length_append, List.length_cons] at hlen
      rw [plainL_iff, plainL_iff, ← e1, ← e2, codes_form a ha', codes_form b hb']
      exact ⟨⟨⟨text_form a ha', h1, by omega⟩, ⟨text_form b hb', hb, by omega⟩⟩, by omega⟩
  · rintro ⟨⟨h1, h2⟩, hlt⟩
    rw [plainL_iff] at h1 h2
    obtain ⟨e1, e2⟩ := text_append [58] l2 text_colon.1 h2.1
    obtain ⟨e3, e4⟩ := text_append l1 ([58] ++ l2) h1.1 e1
    rw [e2, text_colon.2] at e4
    have e5 : l1 ++ 58 :: l2 = l1 ++ ([58] ++ l2) := rfl
    rw [e5, nameL_codes _ e3, e4]
    unfold nameC
    rw [show codes l1 ++ ([58] ++ codes l2) = codes l1 ++ 58 :: codes l2 from rfl, splitC_app _ _ (part58 _ h1.2.1), h1.2.1, tailC, h2.2.1, decide_eq_true (by rw [List.length_append, List.length_cons]; omega)]; rfl
theorem partC_app (p q : List Nat) (h : partC p = true) (hq : q.all nmC = true) : partC (p ++ q) = true := by
  match p, h with
  | c :: t, h =>
    unfold partC at h
    rw [Bool.and_eq_true] at h
    show (letC c && (t ++ q).all nmC) = true
    rw [h.1, List.all_append, h.2, hq]; rfl
theorem text_more : text [45, 46, 194, 183, 57] = true ∧ codes [45, 46, 194, 183, 57] = [45, 46, 183, 57] := by decide
theorem name_more (l : List UInt8) (h : nameL l = true) (hl : (codes l).length ≤ 95) : nameL (l ++ [45, 46, 194, 183, 57]) = true := by
  have ht := nameL_text l h
  obtain ⟨e1, e2⟩ := text_append l [45, 46, 194, 183, 57] ht text_more.1
  rw [text_more.2] at e2
  rw [nameL_codes l ht] at h
  rw [nameL_codes _ e1, e2]
  unfold nameC at h ⊢
  rw [Bool.and_eq_true, Bool.and_eq_true] at h
  obtain ⟨_, h1, h2⟩ := h
  have hno := splitC_no58 (codes l)
  rw [decide_eq_true (by rw [List.length_append]; simp; omega), Bool.true_and]
  cases hs : (splitC (codes l)).2 with
  | none =>
    have hpl := splitC_none _ hs
    rw [hpl] at hno h1
    have hno2 : 58 ∉ codes l ++ [45, 46, 183, 57] := by simp [hno]
    rw [splitC_plain _ hno2, partC_app _ _ h1 (by decide)]; rfl
  | some b =>
    have hpl := splitC_some _ b hs
    rw [hs] at h2
    have hb : partC b = true := h2
    generalize (splitC (codes l)).1 = a at hpl hno h1
    rw [hpl, show (a ++ 58 :: b) ++ [45, 46, 183, 57] = a ++ 58 :: (b ++ [45, 46, 183, 57]) from by simp, splitC_app _ _ hno, h1, tailC, partC_app _ _ hb (by decide)]; rfl
end Go.Proofs.YtpdgajjcapdjdaaDoor

/- Plain facts: a description with one more character that is ignored, texts with it and without it; where a character's bytes stand in a text, the character stands; a text without the instances of an ignored character has the same key. No program in this text. -/
import Derived.Test.YtgjjmapfdijphaaDoorCoUtf
import Derived.Lib.Replace
import Derived.Lib.IndexMore
import Derived.Laws.Cover4
namespace Go.Proofs.YtgjjmapfdijphaaDoor
open Go.Lib

theorem level_without (T : Tb) (lv c : Nat) (hc : wtOf T c = (0, 0, 0)) (xs ys : List Nat) : levelL T lv (xs ++ c :: ys) = levelL T lv (xs ++ ys) := by
  rw [level_app, level_cons, if_pos hc, List.nil_append, level_app]
theorem key_without (T : Tb) (c : Nat) (hc : wtOf T c = (0, 0, 0)) (xs ys : List Nat) : keyC T (xs ++ c :: ys) = keyC T (xs ++ ys) := by
  unfold keyC restL
  rw [level_without T 0 c hc, level_without T 1 c hc, level_without T 2 c hc]
theorem level_filter (T : Tb) (lv c : Nat) (hc : wtOf T c = (0, 0, 0)) : ∀ xs : List Nat, levelL T lv (xs.filter fun d => decide (d ≠ c)) = levelL T lv xs
  | [] => rfl
  | d :: t => by
    by_cases h : d = c
    · subst h
      rw [List.filter_cons_of_neg (by simp), level_cons, if_pos hc, List.nil_append, level_filter T lv d hc t]
    · rw [List.filter_cons_of_pos (by simp [h]), level_cons, level_cons, level_filter T lv c hc t]
theorem key_filter (T : Tb) (c : Nat) (hc : wtOf T c = (0, 0, 0)) (xs : List Nat) : keyC T (xs.filter fun d => decide (d ≠ c)) = keyC T xs := by
  unfold keyC restL
  rw [level_filter T 0 c hc, level_filter T 1 c hc, level_filter T 2 c hc]
/-- The line that ignores what w writes. -/
def ignLine (w : List UInt8) : List UInt8 := ignoreW ++ 32 :: w
theorem ign_split (w : List UInt8) : splitB 32 [] (ignLine w) = ignoreW :: splitB 32 [] w := splitB_at 32 ignoreW w [] (by decide)
theorem ign_words (w : List UInt8) : wordsL (ignLine w) = ignoreW :: wordsL w := by
  unfold wordsL
  rw [ign_split, List.filter_cons_of_pos (by decide)]
theorem ign_add (w : List UInt8) (d : Ds) : addL (ignLine w) d = ignoreD (wordsL w) d := by
  unfold addL
  rw [ign_words]
  simp only
  rw [if_neg (by decide), if_neg (by decide), if_pos trivial]
theorem chr_form (c : Nat) : encodeRune (c : Int) = form [c] := by unfold form; simp
/-- A description whose last line ignores one character, taken: what it is, and that the character is ignored. -/
theorem ign_parse (l : List UInt8) (c : Nat) (hc : chr c = true) (T : Tb) (hl : l.length ≤ 2000) (h : parseL (l ++ 10 :: ignLine (form [c])) = .ok T) : wtOf T c = (0, 0, 0) := by
  by_cases h10 : c = 10
  · exfalso
    subst h10
    have e : (l ++ 10 :: ignLine (form [10])) = (l ++ 10 :: (ignoreW ++ [32])) ++ 10 :: [] := by
      rw [show ignLine (form [10]) = (ignoreW ++ [32]) ++ 10 :: [] from rfl]
      simp
    rw [e] at h
    obtain ⟨h1, _, d, d', hd, hp, ha, hT⟩ := parse_line (l ++ 10 :: (ignoreW ++ [32])) [] T (by simp [ignoreW]; omega) h (by simp)
    obtain ⟨_, _, d2, d3, _, _, ha2, _⟩ := parse_line l (ignoreW ++ [32]) (tbOf d) (by omega) hp (by decide)
    rw [show ignoreW ++ [32] = ignLine [] from rfl, ign_add] at ha2
    cases ha2
  · have hn10 : (10 : UInt8) ∉ ignLine (form [c]) := by
      intro hm
      unfold ignLine at hm
      rcases List.mem_append.1 hm with hm | hm
      · exact absurd hm (by decide)
      · rcases List.mem_cons.1 hm with hm | hm
        · exact absurd hm (by decide)
        · have := (mem_form [c] (by simpa using hc) 10 (by decide)).1 hm
          simp at this
          exact h10 this.symm
    obtain ⟨_, _, d, d', _, _, ha, hT⟩ := parse_line l (ignLine (form [c])) T (by omega) h hn10
    rw [ign_add] at ha
    by_cases h32 : c = 32
    · exfalso
      subst h32
      rw [show wordsL (form [32]) = [] from rfl] at ha
      cases ha
    · have hn32 : (32 : UInt8) ∉ form [c] := by
        intro hm
        have := (mem_form [c] (by simpa using hc) 32 (by decide)).1 hm
        simp at this
        exact h32 this.symm
      have hw : wordsL (form [c]) = [form [c]] := by
        obtain ⟨b, t, e⟩ := enc_ne c
        unfold wordsL
        rw [splitB_none 32 _ [] hn32, ← chr_form, e]
        rfl
      rw [hw] at ha
      unfold ignoreD at ha
      rw [if_neg (by simp)] at ha
      have ht2 : (form [c]).take 2 ≠ [85, 43] := by
        intro e
        have h85 : (85 : UInt8) ∈ form [c] := List.mem_of_mem_take (i := 2) (by rw [e]; simp)
        have h43 : (43 : UInt8) ∈ form [c] := List.mem_of_mem_take (i := 2) (by rw [e]; simp)
        have k1 := (mem_form [c] (by simpa using hc) 85 (by decide)).1 h85
        have k2 := (mem_form [c] (by simpa using hc) 43 (by decide)).1 h43
        simp at k1 k2
        omega
      have hcodes := codes_form [c] (by simpa using hc)
      have hch : charL (form [c]) = some c ∨ charL (form [c]) = none := by
        unfold charL
        rw [if_neg ht2]
        split
        · exact .inr rfl
        · rw [hcodes]; exact .inl rfl
      rcases hch with hch | hch
      · simp only [charsL, hch, List.map_cons, List.map_nil] at ha
        unfold keepD at ha
        simp only [keepL] at ha
        split at ha
        · cases ha
        · rename_i tab hk
          split at hk
          · cases hk
          · cases hk
            split at ha
            · cases ha
            · cases ha
              rw [hT]
              show (match lookL ((c, (0, 0, 0)) :: d.tab) c with | some w => w | none => _) = _
              unfold lookL
              rw [if_pos rfl]
      · simp only [charsL, hch] at ha
        cases ha
/-- The bytes of a code point behind its first one; its first one. -/
theorem enc_tail (d : Nat) (hd : chr d = true) (x : UInt8) (t : List UInt8) (h : encodeRune (d : Int) = x :: t) : (x.toNat < 128 ∨ 192 ≤ x.toNat) ∧ ∀ y ∈ t, 128 ≤ y.toNat ∧ y.toNat < 192 := by
  rcases enc_shape d hd with ⟨i, b0, e, f0⟩ | ⟨i, j, b0, b1, e, f0, f1⟩ | ⟨i, j, b0, b1, b2, e, f0, f1, f2⟩ | ⟨i, j, b0, b1, b2, b3, e, f0, f1, f2, f3⟩ <;> (rw [e] at h; cases h)
  · exact ⟨.inl (by omega), fun y hy => by cases hy⟩
  · refine ⟨.inr (by omega), fun y hy => ?_⟩
    simp at hy
    subst hy
    omega
  · refine ⟨.inr (by omega), fun y hy => ?_⟩
    simp at hy
    rcases hy with rfl | rfl <;> omega
  · refine ⟨.inr (by omega), fun y hy => ?_⟩
    simp at hy
    rcases hy with rfl | rfl | rfl <;> omega
theorem enc_inj (c d : Nat) (hc : chr c = true) (hd : chr d = true) (x y : List UInt8) (h : encodeRune (c : Int) ++ x = encodeRune (d : Int) ++ y) : c = d ∧ x = y := by
  have h1 := decode_encode c hc x
  have h2 := decode_encode d hd y
  rw [h, h2] at h1
  have e : c = d := (congrArg Prod.fst h1).symm
  subst e
  exact ⟨rfl, List.append_cancel_left h⟩
theorem form_sync (c : Nat) (hc : chr c = true) : ∀ (p : List Nat) (a b : List UInt8), (∀ d ∈ p, chr d = true) → form p = a ++ (encodeRune (c : Int) ++ b) → ∃ p1 p2, p = p1 ++ c :: p2 ∧ a = form p1 ∧ b = form p2
  | [], a, b, _, h => by
    obtain ⟨x, t, e⟩ := enc_ne c
    rw [e, form_nil] at h
    simp at h
  | d :: p, a, b, hp, h => by
    have hd := hp d (by simp)
    have hp' : ∀ e ∈ p, chr e = true := fun e he => hp e (by simp [he])
    rw [form_cons] at h
    cases a with
    | nil =>
      rw [List.nil_append] at h
      obtain ⟨rfl, e2⟩ := enc_inj d c hd hc _ _ h
      exact ⟨[], p, rfl, rfl, e2.symm⟩
    | cons z a =>
      rcases List.append_eq_append_iff.1 h with ⟨a', h1, h2⟩ | ⟨c', h1, h2⟩
      · obtain ⟨p1, p2, e1, e2, e3⟩ := form_sync c hc p a' b hp' h2
        exact ⟨d :: p1, p2, by rw [e1]; rfl, by rw [h1, e2]; rfl, e3⟩
      · cases c' with
        | nil =>
          rw [List.nil_append] at h2
          rw [List.append_nil] at h1
          obtain ⟨p1, p2, e1, e2, e3⟩ := form_sync c hc p [] b hp' h2.symm
          exact ⟨d :: p1, p2, by rw [e1]; rfl, by rw [← h1, form_cons, ← e2, List.append_nil], e3⟩
        | cons y c' =>
          exfalso
          obtain ⟨x, t, e⟩ := enc_ne c
          have k1 := (enc_tail c hc x t e).1
          rw [e, List.cons_append, List.cons_append] at h2
          injection h2 with h3 h4
          subst h3
          rw [List.cons_append] at h1
          have k2 := (enc_tail d hd z _ h1).2 x (by simp)
          omega
/-- Instances of an ignored character are taken away: a text whose levels are the same. -/
theorem without_levels (T : Tb) (c : Nat) (hc : chr c = true) (hw : wtOf T c = (0, 0, 0)) : ∀ (k : Nat) (p : List Nat), (∀ d ∈ p, chr d = true) →
    ∃ q, (∀ d ∈ q, chr d = true) ∧ replaceK (encodeRune (c : Int)) [] k (form p) = form q ∧ q.length ≤ p.length ∧ ∀ lv, levelL T lv q = levelL T lv p
  | 0, p, hp => ⟨p, hp, rfl, Nat.le_refl _, fun _ => rfl⟩
  | k + 1, p, hp => by
    rcases index_spec (form p) (encodeRune (c : Int)) with ⟨h1, _⟩ | ⟨i, h1, h2, h3, _⟩
    · refine ⟨p, hp, ?_, Nat.le_refl _, fun _ => rfl⟩
      rw [replaceK, if_pos (by rw [h1]; rfl)]
    · rw [replaceK_hit _ _ _ _ i h1]
      unfold occAt at h3
      rw [List.isPrefixOf_iff_prefix] at h3
      obtain ⟨b, hb⟩ := h3
      have hsplit : form p = (form p).take i ++ (encodeRune (c : Int) ++ b) := by rw [hb, List.take_append_drop]
      obtain ⟨p1, p2, e1, e2, e3⟩ := form_sync c hc p _ b hp hsplit
      rw [e1] at hp
      have hp1 : ∀ d ∈ p1, chr d = true := fun d hd => hp d (by simp [hd])
      have hp2 : ∀ d ∈ p2, chr d = true := fun d hd => hp d (by simp [hd])
      obtain ⟨q, g1, g2, g3, g4⟩ := without_levels T c hc hw k p2 hp2
      have hdrop : (form p).drop (i + (encodeRune (c : Int)).length) = form p2 := by
        rw [← List.drop_drop, ← hb, List.drop_left, e3]
      refine ⟨p1 ++ q, fun d hd => (List.mem_append.1 hd).elim (hp1 d) (g1 d), ?_, ?_, fun lv => ?_⟩
      · rw [hdrop, g2, e2, List.append_nil, form_append]
      · rw [e1, List.length_append, List.length_append, List.length_cons]; omega
      · rw [e1, level_without T lv c hw, level_app, level_app, g4]
theorem key_replaced (T : Tb) (c : Nat) (hc : chr c = true) (hw : wtOf T c = (0, 0, 0)) (l : List UInt8) (h : text l = true) : keyL T (replaceAll l (encodeRune (c : Int)) []) = keyL T l ∧ (replaceAll l (encodeRune (c : Int)) []).length ≤ 4 * l.length := by
  have hne : ¬ (encodeRune (c : Int) == []) = true := by
    obtain ⟨x, t, e⟩ := enc_ne c
    rw [e]; simp
  have hcc := text_chr l h
  have hf := form_codes l h
  obtain ⟨q, g1, g2, g3, g4⟩ := without_levels T c hc hw (replaceNum l (encodeRune (c : Int)) (-1)) (codes l) hcc
  rw [hf] at g2
  unfold replaceAll replace
  rw [if_neg hne, g2]
  have ht := text_form q g1
  refine ⟨?_, ?_⟩
  · rw [key_text _ _ ht, key_text _ _ h, codes_form q g1]
    unfold keyC restL
    rw [g4, g4, g4]
  · have h1 : ∀ r : List Nat, (form r).length ≤ 4 * r.length := by
      intro r
      induction r with
      | nil => simp [form_nil]
      | cons d r ih =>
        have := encode_len d
        rw [form_cons, List.length_append, List.length_cons]
        omega
    have h2 := h1 q
    have h3 := codes_len l
    omega
/-- A rune as a string: the bytes of a code point. -/
theorem enc_utf8 (z : Int) : ∃ n : Nat, n ≤ 1114111 ∧ ¬ (55296 ≤ n ∧ n ≤ 57343) ∧ (Utf8.encode z).data.toList = encodeRune (n : Int) ∧ (Utf8.valid z = true → (n : Int) = z) := by
  have key : ∀ n : Nat, n ≤ 1114111 → ¬ (55296 ≤ n ∧ n ≤ 57343) → (if n < 128 then (⟨#[UInt8.ofNat n]⟩ : ByteArray) else if n < 2048 then ⟨#[UInt8.ofNat (192 + n / 64), UInt8.ofNat (128 + n % 64)]⟩ else if n < 65536 then ⟨#[UInt8.ofNat (224 + n / 4096), UInt8.ofNat (128 + n / 64 % 64), UInt8.ofNat (128 + n % 64)]⟩ else ⟨#[UInt8.ofNat (240 + n / 262144), UInt8.ofNat (128 + n / 4096 % 64), UInt8.ofNat (128 + n / 64 % 64), UInt8.ofNat (128 + n % 64)]⟩).data.toList = encodeRune (n : Int) := by
    intro n h1 h2
    have tn : ∀ (z : Int) (m : Nat), z = (m : Int) → z.toNat.toUInt8 = UInt8.ofNat m := fun z m h => by subst h; rfl
    unfold encodeRune
    by_cases a1 : n < 128
    · rw [if_pos a1, encodeRuneZ_one (by omega) (by omega)]
      simp only [List.map_cons, List.map_nil]
      rw [tn _ n rfl]
    · by_cases a2 : n < 2048
      · rw [if_neg a1, if_pos a2, encodeRuneZ_two (by omega) (by omega)]
        simp only [List.map_cons, List.map_nil]
        rw [tn _ (192 + n / 64) (by omega), tn _ (128 + n % 64) (by omega)]
      · by_cases a3 : n < 65536
        · rw [if_neg a1, if_neg a2, if_pos a3, encodeRuneZ_three (by omega)]
          simp only [List.map_cons, List.map_nil]
          rw [tn _ (224 + n / 4096) (by omega), tn _ (128 + n / 64 % 64) (by omega), tn _ (128 + n % 64) (by omega)]
        · rw [if_neg a1, if_neg a2, if_neg a3, encodeRuneZ_four (by omega) (by omega)]
          simp only [List.map_cons, List.map_nil]
          rw [tn _ (240 + n / 262144) (by omega), tn _ (128 + n / 4096 % 64) (by omega), tn _ (128 + n / 64 % 64) (by omega), tn _ (128 + n % 64) (by omega)]
  by_cases hv : Utf8.valid z = true
  · have hv' := hv
    unfold Utf8.valid at hv'
    simp only [Bool.or_eq_true, Bool.and_eq_true, decide_eq_true_eq] at hv'
    refine ⟨z.toNat, by omega, by omega, ?_, fun _ => by omega⟩
    unfold Utf8.encode
    simp only [hv, if_true]
    exact key z.toNat (by omega) (by omega)
  · refine ⟨65533, by omega, by omega, ?_, fun h => absurd h hv⟩
    unfold Utf8.encode
    simp only [hv]
    exact key 65533 (by omega) (by omega)
theorem enc_chr (c : Nat) (h : chr c = true) : (Utf8.encode (c : Int)).data.toList = encodeRune (c : Int) := by
  obtain ⟨n, _, _, h3, h4⟩ := enc_utf8 (c : Int)
  rw [chr_iff] at h
  have hv : Utf8.valid (c : Int) = true := by
    unfold Utf8.valid
    simp only [Bool.or_eq_true, Bool.and_eq_true, decide_eq_true_eq]
    omega
  rw [h3, h4 hv]
theorem fold_enc : ∀ (p : List Nat) (s : ByteArray), (∀ c ∈ p, chr c = true) → ((p.map fun (c : Nat) => (c : Int)).foldl (fun r n => r ++ Utf8.encode n) s).data.toList = s.data.toList ++ form p
  | [], s, _ => by simp [form_nil]
  | c :: p, s, h => by
    rw [List.map_cons, List.foldl_cons, fold_enc p _ (fun d hd => h d (by simp [hd])), ByteArray.data_append, Array.toList_append, enc_chr c (h c (by simp)), form_cons, List.append_assoc]
theorem runesBytes_form (p : List Nat) (h : ∀ c ∈ p, chr c = true) : (runesBytes (p.map fun (c : Nat) => (c : Int))).data.toList = form p := by
  unfold runesBytes
  rw [fold_enc p _ h]
  rfl
end Go.Proofs.YtgjjmapfdijphaaDoor

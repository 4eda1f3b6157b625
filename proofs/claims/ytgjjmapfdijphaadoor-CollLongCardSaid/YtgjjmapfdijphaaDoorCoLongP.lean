/- Plain facts: the descriptions of CollLong: what Parse says of them. No program in this text. -/
import Derived.Test.YtgjjmapfdijphaaDoorCoUtf
namespace Go.Proofs.YtgjjmapfdijphaaDoor
open Go.Lib

theorem chr_form (c : Nat) : encodeRune (c : Int) = form [c] := by unfold form; simp
/-- The words of the description: characters that are listed, characters that are ignored. -/
def eW (i : Nat) : List UInt8 := encodeRune ((19968 + i : Nat) : Int)
def fW (i : Nat) : List UInt8 := encodeRune ((28160 + i : Nat) : Int)
def listB : Nat → List UInt8
  | 0 => []
  | n + 1 => if n = 0 then eW 0 else listB n ++ ([32, 60, 32] ++ eW n)
def ignB : Nat → List UInt8
  | 0 => []
  | m + 1 => (if m = 0 then ignoreW else ignB m) ++ (32 :: fW m)
def headB : List UInt8 := [35, 32, 99, 104, 97, 114, 97, 99, 116, 101, 114, 115]
def longB (n m : Nat) : List UInt8 := (headB ++ [10]) ++ (listB n ++ (10 :: ignB m))
theorem chr_mid (c : Nat) (h : 19968 ≤ c) (h2 : c ≤ 40000) : chr c = true := by rw [chr_iff]; omega
theorem word_facts (c : Nat) (h : 19968 ≤ c) (h2 : c ≤ 40000) : (∀ b ∈ encodeRune (c : Int), 128 ≤ b.toNat) ∧ charL (encodeRune (c : Int)) = some c ∧ encodeRune (c : Int) ≠ [] ∧ text (encodeRune (c : Int)) = true := by
  have hc := chr_mid c h h2
  have h128 : ∀ b ∈ encodeRune (c : Int), 128 ≤ b.toNat := by
    intro b hb
    refine Nat.le_of_not_lt fun hlt => ?_
    have := (encode_low c hc b hb hlt).1
    omega
  obtain ⟨x, t, e⟩ := enc_ne c
  have hne : encodeRune (c : Int) ≠ [] := by rw [e]; simp
  have ht : text (encodeRune (c : Int)) = true := by rw [chr_form]; exact text_form [c] (by simpa using hc)
  have hco : codes (encodeRune (c : Int)) = [c] := by rw [chr_form]; exact codes_form [c] (by simpa using hc)
  refine ⟨h128, ?_, hne, ht⟩
  unfold charL
  have h85 : (encodeRune (c : Int)).take 2 ≠ [85, 43] := by
    intro h0
    have := h128 85 (List.mem_of_mem_take (i := 2) (by rw [h0]; simp))
    exact absurd this (by decide)
  rw [if_neg h85, if_neg, hco]
  · rfl
  · rintro (hs | hs)
    · have : ∀ b : UInt8, b.toNat < 128 → encodeRune (c : Int) ≠ [b] := fun b hb h0 => by
        have := h128 b (by rw [h0]; simp)
        omega
      unfold signL at hs
      rw [if_neg (this 60 (by decide)), if_neg (this 44 (by decide)), if_neg (this 59 (by decide))] at hs
      cases hs
    · apply hs
      unfold lenL
      rw [if_pos ht, hco]; rfl
theorem no_low (l : List UInt8) (h : ∀ b ∈ l, 128 ≤ b.toNat) (x : UInt8) (hx : x.toNat < 128) : x ∉ l := fun hm => by have := h x hm; omega
theorem wordsL_cat (a t : List UInt8) : wordsL (a ++ 32 :: t) = wordsL a ++ wordsL t := by
  unfold wordsL
  rw [splitB_cat, List.filter_append]
theorem wordsL_one (l : List UInt8) (h : (32 : UInt8) ∉ l) (hne : l ≠ []) : wordsL l = [l] := by
  unfold wordsL
  rw [splitB_none 32 l [] h, List.nil_append, List.filter_cons_of_pos (by cases l with | nil => exact absurd rfl hne | cons _ _ => rfl)]
  rfl
theorem words_word (c : Nat) (h : 19968 ≤ c) (h2 : c ≤ 40000) : wordsL (encodeRune (c : Int)) = [encodeRune (c : Int)] := by
  obtain ⟨h1, _, h3, _⟩ := word_facts c h h2
  exact wordsL_one _ (no_low _ h1 32 (by decide)) h3
/-- The words of the list, with the sign for another first weight ahead. -/
def pairsL : Nat → List (List UInt8)
  | 0 => []
  | n + 1 => pairsL n ++ [[60], eW n]
theorem words_list : ∀ n, n + 1 ≤ 5000 → [60] :: wordsL (listB (n + 1)) = pairsL (n + 1)
  | 0, _ => by
    show [60] :: wordsL (eW 0) = _
    unfold eW
    rw [words_word _ (by omega) (by omega)]
    rfl
  | n + 1, h => by
    have ih := words_list n (by omega)
    rw [listB, if_neg (by omega)]
    have e : listB (n + 1) ++ ([32, 60, 32] ++ eW (n + 1)) = listB (n + 1) ++ 32 :: ([60] ++ 32 :: eW (n + 1)) := by simp
    rw [e, wordsL_cat, wordsL_cat, wordsL_one [60] (by decide) (by decide), ← List.cons_append, ih]
    unfold eW
    rw [words_word _ (by omega) (by omega)]
    rfl
theorem listGo_snoc (s c : List UInt8) (lv ch : Nat) (hs : signL s = some lv) (hc : charL c = some ch) : ∀ (ws : List (List UInt8)) (last last' : Wt) (acc acc' : List (Nat × Wt)), listGo last acc ws = some (last', acc') → listGo last acc (ws ++ [s, c]) = some (wtNext last' lv, acc' ++ [(ch, wtNext last' lv)])
  | [], last, last', acc, acc', h => by
    unfold listGo at h
    cases h
    rw [List.nil_append]
    show (match signL s, charL c with | some lv, some ch => listGo (wtNext last lv) (acc ++ [(ch, wtNext last lv)]) [] | _, _ => none) = _
    rw [hs, hc]
    rfl
  | [x], last, last', acc, acc', h => by unfold listGo at h; cases h
  | x :: y :: t, last, last', acc, acc', h => by
    rw [List.cons_append, List.cons_append]
    unfold listGo at h
    split at h
    · rename_i l1 c1 h1 h2
      show (match signL x, charL y with | some lv, some ch => listGo (wtNext last lv) (acc ++ [(ch, wtNext last lv)]) (t ++ [s, c]) | _, _ => none) = _
      rw [h1, h2]
      exact listGo_snoc s c lv ch hs hc t _ last' _ acc' h
    · cases h
def esL (n : Nat) : List (Nat × Wt) := (List.range n).map fun i => (19968 + i, ((i + 1, 1, 1) : Wt))
theorem esL_succ (n : Nat) : esL (n + 1) = esL n ++ [(19968 + n, (n + 1, 1, 1))] := by unfold esL; rw [List.range_succ, List.map_append]; rfl
theorem go_pairs : ∀ n, n ≤ 5000 → listGo (0, 0, 0) [] (pairsL n) = some ((if n = 0 then (0, 0, 0) else (n, 1, 1)), esL n)
  | 0, _ => by unfold pairsL listGo; rfl
  | n + 1, h => by
    have ih := go_pairs n (by omega)
    obtain ⟨_, h2, _, _⟩ := word_facts (19968 + n) (by omega) (by omega)
    rw [pairsL, listGo_snoc [60] (eW n) 0 (19968 + n) rfl h2 _ _ _ _ _ ih, esL_succ]
    by_cases h0 : n = 0
    · subst h0; rfl
    · rw [if_neg h0, if_neg (by omega)]
      rfl
theorem keepL_ok : ∀ (es tab : List (Nat × Wt)), (∀ x ∈ es, lookL tab x.1 = none) → (es.map Prod.fst).Nodup → keepL es tab = some (es.reverse ++ tab)
  | [], tab, _, _ => rfl
  | x :: r, tab, h, hn => by
    unfold keepL
    rw [h x (by simp), if_neg (by decide), List.reverse_cons, List.append_assoc]
    rw [List.map_cons, List.nodup_cons] at hn
    refine keepL_ok r (x :: tab) (fun y hy => ?_) hn.2
    unfold lookL
    rw [if_neg (fun e => hn.1 (by rw [e]; exact List.mem_map_of_mem hy))]
    exact h y (by simp [hy])
theorem lookL_none : ∀ (tab : List (Nat × Wt)) (c : Nat), (∀ x ∈ tab, x.1 ≠ c) → lookL tab c = none
  | [], _, _ => rfl
  | x :: r, c, h => by
    unfold lookL
    rw [if_neg (h x (by simp))]
    exact lookL_none r c (fun y hy => h y (by simp [hy]))
theorem esL_fst (n : Nat) : (esL n).map Prod.fst = (List.range n).map (19968 + ·) := by unfold esL; rw [List.map_map]; rfl
theorem nodup_shift (k n : Nat) : ((List.range n).map (k + ·)).Nodup := by
  rw [List.nodup_iff_pairwise_ne, List.pairwise_map]
  refine List.Pairwise.imp ?_ (List.nodup_iff_pairwise_ne.1 List.nodup_range)
  intro a b h e
  exact h (by omega)
def igL (m : Nat) : List (Nat × Wt) := ((List.range m).map (28160 + ·)).map fun c => (c, ((0, 0, 0) : Wt))
theorem igL_fst (m : Nat) : (igL m).map Prod.fst = (List.range m).map (28160 + ·) := by unfold igL; rw [List.map_map]; exact List.map_id _
theorem words_ign : ∀ m, m ≤ 5000 → wordsL (ignB (m + 1)) = ignoreW :: (List.range (m + 1)).map fW
  | 0, _ => by
    show wordsL (ignoreW ++ 32 :: fW 0) = _
    rw [wordsL_cat]
    unfold fW
    rw [words_word _ (by omega) (by omega)]
    rfl
  | m + 1, h => by
    have ih := words_ign m (by omega)
    rw [ignB, if_neg (by omega), wordsL_cat, ih, List.range_succ (n := m + 1), List.map_append]
    have : wordsL (fW (m + 1)) = [fW (m + 1)] := words_word _ (by omega) (by omega)
    rw [this]
    rfl
theorem charsL_ign : ∀ (l : List Nat), (∀ i ∈ l, i ≤ 5000) → charsL (l.map fW) = some (l.map (28160 + ·))
  | [], _ => rfl
  | i :: r, h => by
    have hi := h i (by simp)
    obtain ⟨_, h2, _, _⟩ := word_facts (28160 + i) (by omega) (by omega)
    rw [List.map_cons, List.map_cons]
    unfold charsL
    have h3 : charL (fW i) = some (28160 + i) := h2
    rw [h3, charsL_ign r (fun j hj => h j (by simp [hj]))]
def d0 : Ds := ⟨[], (0, 0, 0), 0⟩
def d1 (n : Nat) : Ds := ⟨(esL n).reverse, if n = 0 then (0, 0, 0) else (n, 1, 1), 0⟩
theorem esL_len (n : Nat) : (esL n).length = n := by unfold esL; simp
theorem igL_len (m : Nat) : (igL m).length = m := by unfold igL; simp
theorem first_word : ∀ n, n + 1 ≤ 5000 → ∃ t, wordsL (listB (n + 1)) = eW 0 :: t
  | 0, _ => by
    refine ⟨[], ?_⟩
    show wordsL (eW 0) = _
    exact words_word _ (by omega) (by omega)
  | n + 1, h => by
    obtain ⟨t, ht⟩ := first_word n (by omega)
    rw [listB, if_neg (by omega)]
    have e : listB (n + 1) ++ ([32, 60, 32] ++ eW (n + 1)) = listB (n + 1) ++ 32 :: ([60] ++ 32 :: eW (n + 1)) := by simp
    rw [e, wordsL_cat, ht]
    exact ⟨_, rfl⟩
theorem add_list (n : Nat) (hn : n ≤ 5000) : addL (listB n) d0 = if 4096 < n then .error 2 else .ok (d1 n) := by
  cases n with
  | zero => rfl
  | succ n =>
    obtain ⟨t, ht⟩ := first_word n hn
    have hp := words_list n hn
    obtain ⟨h1, _, h3, _⟩ := word_facts (19968 + 0) (by omega) (by omega)
    have hgo := go_pairs (n + 1) hn
    unfold addL
    rw [ht] at hp ⊢
    simp only
    have hh : (eW 0).head? ≠ some 35 := by
      intro e
      cases he : eW 0 with
      | nil => exact h3 he
      | cons x u =>
        rw [he] at e
        simp at e
        have := h1 x (by show x ∈ eW 0; rw [he]; simp)
        rw [e] at this
        exact absurd this (by decide)
    have hlow : ∀ (w : List UInt8) (b : UInt8), b ∈ w → b.toNat < 128 → eW 0 ≠ w := fun w b hb hlt e => by
      have := h1 b (by show b ∈ eW 0; rw [e]; exact hb)
      omega
    rw [if_neg hh, if_neg (hlow strengthW 115 (by decide) (by decide)), if_neg (hlow ignoreW 105 (by decide) (by decide))]
    unfold listD
    rw [hp]
    show (match listGo (0, 0, 0) [] (pairsL (n + 1)) with | none => _ | some (last, es) => _) = _
    rw [hgo]
    simp only
    unfold keepD
    show (match keepL (esL (n + 1)) [] with | none => _ | some tab => _) = _
    rw [keepL_ok (esL (n + 1)) [] (fun _ _ => rfl) (by rw [esL_fst]; exact nodup_shift _ _), List.append_nil]
    simp only [List.length_reverse, esL_len]
    rfl
theorem add_ign (n m : Nat) (hn : n ≤ 5000) (hm : m ≤ 5000) : ∃ d', addL (ignB m) (d1 n) = if 4096 < n + m ∧ m ≠ 0 then .error 2 else .ok d' := by
  cases m with
  | zero => exact ⟨d1 n, by rw [if_neg (fun h => h.2 rfl)]; rfl⟩
  | succ m =>
    unfold addL
    rw [words_ign m (by omega)]
    simp only
    rw [if_neg (by decide), if_neg (by decide), if_pos trivial]
    unfold ignoreD
    rw [if_neg (by rw [List.range_succ]; simp), charsL_ign _ (fun i hi => by have := List.mem_range.1 hi; omega)]
    simp only
    unfold keepD
    have hk : keepL (igL (m + 1)) (d1 n).tab = some ((igL (m + 1)).reverse ++ (d1 n).tab) := by
      refine keepL_ok _ _ (fun x hx => ?_) (by rw [igL_fst]; exact nodup_shift _ _)
      refine lookL_none _ _ (fun y hy => ?_)
      have h1 : x.1 ∈ (igL (m + 1)).map Prod.fst := List.mem_map_of_mem hx
      rw [igL_fst] at h1
      obtain ⟨i, _, hi⟩ := List.mem_map.1 h1
      have h2 : y.1 ∈ (esL n).map Prod.fst := List.mem_map_of_mem (List.mem_reverse.1 hy)
      rw [esL_fst] at h2
      obtain ⟨j, hj, hj2⟩ := List.mem_map.1 h2
      have := List.mem_range.1 hj
      omega
    unfold igL at hk
    rw [hk]
    rw [show List.map (fun c => (c, ((0, 0, 0) : Wt))) (List.map (28160 + ·) (List.range (m + 1))) = igL (m + 1) from rfl]
    simp only [List.length_append, List.length_reverse, igL_len]
    have hlen : (d1 n).tab.length = n := by unfold d1; rw [List.length_reverse, esL_len]
    rw [hlen]
    refine ⟨⟨(igL (m + 1)).reverse ++ (d1 n).tab, (d1 n).last, (d1 n).str⟩, ?_⟩
    by_cases h : 4096 < m + 1 + n
    · rw [if_pos h, if_pos ⟨by omega, by omega⟩]
    · rw [if_neg h, if_neg (fun h2 => h (by omega))]
theorem no10_list : ∀ n, n ≤ 5000 → (10 : UInt8) ∉ listB n
  | 0, _ => by simp [listB]
  | n + 1, h => by
    obtain ⟨h1, _, _, _⟩ := word_facts (19968 + n) (by omega) (by omega)
    have h2 : (10 : UInt8) ∉ eW n := no_low _ h1 10 (by decide)
    unfold listB
    split
    · rename_i h0; subst h0; exact h2
    · intro hm
      rcases List.mem_append.1 hm with hm | hm
      · exact no10_list n (by omega) hm
      · rcases List.mem_append.1 hm with hm | hm
        · exact absurd hm (by decide)
        · exact h2 hm
theorem no10_ign : ∀ m, m ≤ 5000 → (10 : UInt8) ∉ ignB m
  | 0, _ => by simp [ignB]
  | m + 1, h => by
    obtain ⟨h1, _, _, _⟩ := word_facts (28160 + m) (by omega) (by omega)
    have h2 : (10 : UInt8) ∉ fW m := no_low _ h1 10 (by decide)
    unfold ignB
    intro hm
    rcases List.mem_append.1 hm with hm | hm
    · split at hm
      · exact absurd hm (by decide)
      · exact no10_ign m (by omega) hm
    · rcases List.mem_cons.1 hm with hm | hm
      · exact absurd hm (by decide)
      · exact h2 hm
theorem text_list : ∀ n, n ≤ 5000 → text (listB n) = true ∧ (listB n).length ≤ 7 * n
  | 0, _ => by decide
  | n + 1, h => by
    obtain ⟨_, _, _, h1⟩ := word_facts (19968 + n) (by omega) (by omega)
    have h4 := encode_len (19968 + n)
    unfold listB
    split
    · rename_i h0
      subst h0
      exact ⟨h1, by unfold eW; omega⟩
    · obtain ⟨h2, h3⟩ := text_list n (by omega)
      refine ⟨(text_append _ _ h2 (text_append _ _ (by decide) h1).1).1, ?_⟩
      rw [List.length_append, List.length_append]
      unfold eW
      simp only [List.length_cons, List.length_nil]
      omega
theorem text_ign : ∀ m, m ≤ 5000 → text (ignB m) = true ∧ (ignB m).length ≤ 11 * m
  | 0, _ => by decide
  | m + 1, h => by
    obtain ⟨_, _, _, h1⟩ := word_facts (28160 + m) (by omega) (by omega)
    have h4 := encode_len (28160 + m)
    have h5 : text (32 :: fW m) = true := (text_append [32] _ (by decide) h1).1
    unfold ignB
    split
    · refine ⟨(text_append _ _ (by decide) h5).1, ?_⟩
      rw [List.length_append, List.length_cons]
      unfold fW
      have : ignoreW.length = 6 := rfl
      omega
    · obtain ⟨h2, h3⟩ := text_ign m (by omega)
      refine ⟨(text_append _ _ h2 h5).1, ?_⟩
      rw [List.length_append, List.length_cons]
      unfold fW
      omega
theorem long_len (n m : Nat) (hn : n ≤ 5000) (hm : m ≤ 5000) : (longB n m).length ≤ 14 + 7 * n + 11 * m := by
  have h1 := (text_list n hn).2
  have h2 := (text_ign m hm).2
  unfold longB
  rw [List.length_append, List.length_append, List.length_append, List.length_cons]
  have : headB.length = 12 := rfl
  simp only [List.length_cons, List.length_nil]
  omega
/-- What Parse says of the description with n characters listed and m ignored. -/
theorem parse_long (n m : Nat) (hn : n ≤ 5000) (hm : m ≤ 5000) :
    (4096 < n → parseL (longB n m) = .error (2, 2)) ∧ (n ≤ 4096 → 4096 < n + m → parseL (longB n m) = .error (3, 2)) ∧ (n + m ≤ 4096 → ∃ T, parseL (longB n m) = .ok T) := by
  obtain ⟨d', hd'⟩ := add_ign n m hn hm
  have hlen := long_len n m hn hm
  have htx : text (longB n m) = true := by
    unfold longB
    exact (text_append _ _ (by decide) (text_append _ _ (text_list n hn).1 (text_append [10] _ (by decide) (text_ign m hm).1).1).1).1
  have hlines : linesL (longB n m) = [headB, listB n, ignB m] := by
    unfold longB
    rw [List.append_assoc, List.singleton_append, linesL_cat, linesL_cat, linesL_none _ (no10_list n hn), linesL_none _ (no10_ign m hm), linesL_none _ (by decide)]
    rfl
  have hhead : addL headB d0 = .ok d0 := rfl
  have hp : parseL (longB n m) = match linesGo 0 d0 [headB, listB n, ignB m] with
      | .error x => .error x
      | .ok d => .ok (tbOf d) := by
    unfold parseL
    rw [if_neg (by omega), if_neg (by rw [htx]; decide), hlines]
    rfl
  rw [hp, linesGo_cons, hhead]
  simp only
  rw [linesGo_cons, add_list n hn]
  refine ⟨fun h => ?_, fun h h2 => ?_, fun h => ?_⟩
  · rw [if_pos h]
  · rw [if_neg (by omega)]
    simp only
    rw [linesGo_cons, hd', if_pos ⟨h2, by omega⟩]
  · rw [if_neg (by omega)]
    simp only
    rw [linesGo_cons, hd', if_neg (by omega)]
    exact ⟨_, rfl⟩
/-- A comment of any length. -/
def commB (k : Nat) : List UInt8 := 35 :: List.replicate k 120
theorem form_ascii : ∀ l : List UInt8, (∀ b ∈ l, b.toNat < 128) → form (l.map UInt8.toNat) = l
  | [], _ => rfl
  | b :: t, h => by
    rw [List.map_cons, form_cons, encode_ascii _ (h b (by simp)), form_ascii t (fun x hx => h x (by simp [hx]))]
    show [b.toNat.toUInt8] ++ t = b :: t
    rw [show b.toNat.toUInt8 = b by apply UInt8.toNat_inj.1; rw [u8_nat _ (UInt8.toNat_lt b)]]
    rfl
theorem parse_comm (k : Nat) : parseL (commB k) = if 1048575 < k then .error (0, 2) else .ok ⟨[], 0, 3⟩ := by
  have hlow : ∀ b ∈ commB k, b.toNat < 128 ∧ b ≠ 10 ∧ b ≠ 32 := by
    intro b hb
    rcases List.mem_cons.1 hb with rfl | hb
    · decide
    · rw [List.eq_of_mem_replicate hb]; decide
  have ht : text (commB k) = true := by
    rw [← form_ascii (commB k) (fun b hb => (hlow b hb).1)]
    refine text_form _ (fun c hc => ?_)
    obtain ⟨b, hb, rfl⟩ := List.mem_map.1 hc
    rcases List.mem_cons.1 hb with rfl | hb
    · rfl
    · rw [List.eq_of_mem_replicate hb]; rfl
  have hw : wordsL (commB k) = [commB k] := wordsL_one _ (fun h => (hlow 32 h).2.2 rfl) (by simp [commB])
  have ha : addL (commB k) d0 = .ok d0 := by
    unfold addL
    rw [hw]
    rfl
  have hlen : (commB k).length = k + 1 := by unfold commB; rw [List.length_cons, List.length_replicate]
  unfold parseL
  rw [hlen]
  by_cases h : 1048575 < k
  · rw [if_pos (by omega), if_pos h]
  · rw [if_neg (by omega), if_neg (by rw [ht]; decide), if_neg h, linesL_none _ (fun h => (hlow 10 h).2.1 rfl), linesGo_cons]
    have ha2 : addL (commB k) ⟨[], (0, 0, 0), 0⟩ = .ok ⟨[], (0, 0, 0), 0⟩ := ha
    rw [ha2]
    rfl
end Go.Proofs.YtgjjmapfdijphaaDoor

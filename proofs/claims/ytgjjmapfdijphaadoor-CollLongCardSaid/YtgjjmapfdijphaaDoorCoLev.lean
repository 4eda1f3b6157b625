/- Plain facts: how keys of several strengths go together; descriptions with one more line; characters that are neither listed nor ignored. No program in this text. -/
import Derived.Test.YtgjjmapfdijphaaDoorCoPos
import Derived.Test.YtgjjmapfdijphaaDoorCoWords
import Derived.Test.YtgjjmapfdijphaaDoorCharsPlain5
namespace Go.Proofs.YtgjjmapfdijphaaDoor
open Go.Lib

theorem cmp_more : ∀ a b x y : List UInt8, a.length = b.length → cmpL a b ≠ 0 → cmpL (a ++ x) (b ++ y) = cmpL a b
  | [], [], _, _, _, h => absurd rfl h
  | [], _ :: _, _, _, h, _ => by simp at h
  | _ :: _, [], _, _, h, _ => by simp at h
  | a :: s, b :: t, x, y, h, k => by
    rw [List.cons_append, List.cons_append, cmpL_cons, cmpL_cons]
    rw [cmpL_cons] at k
    by_cases h1 : a < b
    · rw [if_pos h1, if_pos h1]
    · by_cases h2 : b < a
      · rw [if_neg h1, if_pos h2, if_neg h1, if_pos h2]
      · rw [if_neg h1, if_neg h2] at k
        rw [if_neg h1, if_neg h2, if_neg h1, if_neg h2]
        exact cmp_more s t x y (by simpa using h) k
theorem byte_nat (k : Nat) : (k.toUInt8).toNat = k % 256 := by simp [Nat.toUInt8, UInt8.toNat_ofNat']
theorem three_cmp (m n : Nat) (hm : m < 16777216) (hn : n < 16777216) (a b : List UInt8) : cmpL (three m ++ a) (three n ++ b) = if m < n then -1 else if n < m then 1 else cmpL a b := by
  show cmpL ((m / 65536).toUInt8 :: (m / 256).toUInt8 :: m.toUInt8 :: a) ((n / 65536).toUInt8 :: (n / 256).toUInt8 :: n.toUInt8 :: b) = _
  rw [cmpL_cons, cmpL_cons, cmpL_cons]
  simp only [UInt8.lt_iff_toNat_lt, byte_nat]
  repeat' split
  all_goals first | rfl | (exfalso; omega)
/-- How lists of numbers are compared. -/
def cmpN : List Nat → List Nat → Int
  | [], [] => 0
  | [], _ :: _ => -1
  | _ :: _, [] => 1
  | a :: s, b :: t => if a < b then -1 else if b < a then 1 else cmpN s t
theorem cmpN_eq : ∀ p q : List Nat, cmpN p q = 0 → p = q
  | [], [], _ => rfl
  | [], _ :: _, h => by cases h
  | _ :: _, [], h => by cases h
  | a :: s, b :: t, h => by
    unfold cmpN at h
    by_cases h1 : a < b
    · rw [if_pos h1] at h; cases h
    · by_cases h2 : b < a
      · rw [if_neg h1, if_pos h2] at h; cases h
      · rw [if_neg h1, if_neg h2] at h
        rw [show a = b by omega, cmpN_eq s t h]
theorem cmpN_self : ∀ p : List Nat, cmpN p p = 0
  | [] => rfl
  | a :: s => by unfold cmpN; rw [if_neg (Nat.lt_irrefl a), if_neg (Nat.lt_irrefl a)]; exact cmpN_self s
/-- The weights of a level of what is not ignored. -/
def wl (T : Tb) (lv : Nat) (cs : List Nat) : List Nat := (cs.filter fun c => decide (wtOf T c ≠ (0, 0, 0))).map fun c => wtAt (wtOf T c) lv
theorem level_wl (T : Tb) (lv : Nat) : ∀ cs : List Nat, levelL T lv cs = (wl T lv cs).flatMap three
  | [] => rfl
  | c :: t => by
    rw [level_cons, level_wl T lv t]
    unfold wl
    by_cases h : wtOf T c = (0, 0, 0)
    · rw [if_pos h, List.filter_cons_of_neg (by simp [h])]; rfl
    · rw [if_neg h, List.filter_cons_of_pos (by simp [h])]; rfl
theorem wl_len (T : Tb) (lv lw : Nat) (cs : List Nat) : (wl T lv cs).length = (wl T lw cs).length := by unfold wl; rw [List.length_map, List.length_map]
theorem flat_three : ∀ p : List Nat, (p.flatMap three).length = 3 * p.length
  | [] => rfl
  | n :: t => by rw [List.flatMap_cons, List.length_append, flat_three t, List.length_cons]; simp [three]; omega
def Ends (A B : List UInt8) : Prop := (A = [] ∧ B = []) ∨ ∃ A' B', A = three 0 ++ A' ∧ B = three 0 ++ B'
def Wide (p : List Nat) : Prop := ∀ n ∈ p, 1 ≤ n ∧ n < 16777216
theorem lev_cmp (A B : List UInt8) (hE : Ends A B) : ∀ p q : List Nat, Wide p → Wide q → cmpN p q ≠ 0 → cmpL (p.flatMap three ++ A) (q.flatMap three ++ B) = cmpN p q
  | [], [], _, _, h => absurd rfl h
  | [], n :: t, _, hq, _ => by
    obtain ⟨h1, h2⟩ := hq n (by simp)
    rw [List.flatMap_cons, List.append_assoc, List.flatMap_nil, List.nil_append]
    rcases hE with ⟨rfl, rfl⟩ | ⟨A', B', rfl, rfl⟩
    · rfl
    · exact three_pos n h1 h2 _ _
  | n :: t, [], hp, _, _ => by
    obtain ⟨h1, h2⟩ := hp n (by simp)
    rw [List.flatMap_cons, List.append_assoc, List.flatMap_nil, List.nil_append]
    rcases hE with ⟨rfl, rfl⟩ | ⟨A', B', rfl, rfl⟩
    · rfl
    · rw [cmpL_neg, three_pos n h1 h2]; rfl
  | m :: s, n :: t, hp, hq, h => by
    obtain ⟨_, h1⟩ := hp m (by simp)
    obtain ⟨_, h2⟩ := hq n (by simp)
    rw [List.flatMap_cons, List.flatMap_cons, List.append_assoc, List.append_assoc, three_cmp m n h1 h2]
    unfold cmpN at h ⊢
    by_cases k1 : m < n
    · rw [if_pos k1, if_pos k1]
    · by_cases k2 : n < m
      · rw [if_neg k1, if_pos k2, if_neg k1, if_pos k2]
      · rw [if_neg k1, if_neg k2] at h
        rw [if_neg k1, if_neg k2, if_neg k1, if_neg k2]
        exact lev_cmp A B hE s t (fun x hx => hp x (by simp [hx])) (fun x hx => hq x (by simp [hx])) h
theorem wl_wide (T : Tb) (hT : Fits3 T) (cs : List Nat) (h : ∀ c ∈ cs, c ≤ 1114111) : Wide (wl T 0 cs) := by
  intro n hn
  unfold wl at hn
  obtain ⟨c, hc, rfl⟩ := List.mem_map.1 hn
  obtain ⟨hc1, hc2⟩ := List.mem_filter.1 hc
  rcases hT c (h c hc1) with h0 | h0
  · simp [h0] at hc2
  · exact h0
/-- A collation with another strength. -/
def withStr (T : Tb) (n : Nat) : Tb := { T with str := n }
theorem wt_str (T : Tb) (n c : Nat) : wtOf (withStr T n) c = wtOf T c := rfl
theorem level_str (T : Tb) (n lv : Nat) (cs : List Nat) : levelL (withStr T n) lv cs = levelL T lv cs := rfl
theorem fits_str (T : Tb) (n : Nat) (h : Fits3 T) : Fits3 (withStr T n) := h
theorem key_one (T : Tb) (cs : List Nat) : keyC (withStr T 1) cs = levelL T 0 cs := by
  unfold keyC withStr
  simp
  rfl
theorem key_two (T : Tb) (cs : List Nat) : keyC (withStr T 2) cs = levelL T 0 cs ++ restL T cs 1 := by
  unfold keyC withStr
  simp
  rfl
theorem key_three (T : Tb) (cs : List Nat) : keyC (withStr T 3) cs = (levelL T 0 cs ++ restL T cs 1) ++ restL T cs 2 := by
  unfold keyC withStr
  simp
  rfl
theorem cmpL_nil (l : List UInt8) : cmpL [] l = if l = [] then 0 else -1 := by
  cases l with
  | nil => rfl
  | cons a s => rfl
theorem cmpL_nil' (l : List UInt8) : cmpL l [] = if l = [] then 0 else 1 := by
  cases l with
  | nil => rfl
  | cons a s => rfl
/-- What differs for a strength differs in the same way for a greater one. -/
theorem levels_cmp (T : Tb) (hT : Fits3 T) (xs ys : List Nat) (hx : ∀ c ∈ xs, c ≤ 1114111) (hy : ∀ c ∈ ys, c ≤ 1114111) :
    (cmpL (keyC (withStr T 1) xs) (keyC (withStr T 1) ys) ≠ 0 → cmpL (keyC (withStr T 1) xs) (keyC (withStr T 1) ys) = cmpL (keyC (withStr T 2) xs) (keyC (withStr T 2) ys)) ∧
    (cmpL (keyC (withStr T 2) xs) (keyC (withStr T 2) ys) ≠ 0 → cmpL (keyC (withStr T 2) xs) (keyC (withStr T 2) ys) = cmpL (keyC (withStr T 3) xs) (keyC (withStr T 3) ys)) := by
  have wx := wl_wide T hT xs hx
  have wy := wl_wide T hT ys hy
  have c1 := lev_cmp [] [] (.inl ⟨rfl, rfl⟩) _ _ wx wy
  have c2 := lev_cmp (restL T xs 1) (restL T ys 1) (.inr ⟨_, _, rfl, rfl⟩) _ _ wx wy
  have c3 := lev_cmp (restL T xs 1 ++ restL T xs 2) (restL T ys 1 ++ restL T ys 2) (.inr ⟨levelL T 1 xs ++ restL T xs 2, levelL T 1 ys ++ restL T ys 2, by unfold restL; simp, by unfold restL; simp⟩) _ _ wx wy
  rw [← level_wl, ← level_wl] at c1 c2 c3
  rw [List.append_nil, List.append_nil] at c1
  rw [← List.append_assoc, ← List.append_assoc] at c3
  rw [key_one, key_one, key_two, key_two, key_three, key_three]
  by_cases h0 : cmpN (wl T 0 xs) (wl T 0 ys) = 0
  · have he := cmpN_eq _ _ h0
    have hl : levelL T 0 xs = levelL T 0 ys := by rw [level_wl, level_wl, he]
    refine ⟨fun h => absurd (by rw [hl]; exact cmpL_self _) h, fun h => ?_⟩
    refine (cmp_more _ _ _ _ ?_ h).symm
    have h1 : (wl T 1 xs).length = (wl T 1 ys).length := by rw [wl_len T 1 0, wl_len T 1 0, he]
    unfold restL
    rw [hl, List.length_append, List.length_append, List.length_append, List.length_append, level_wl T 1 xs, level_wl T 1 ys, flat_three, flat_three, h1]
  · exact ⟨fun _ => by rw [c1 h0, c2 h0], fun _ => by rw [c2 h0, c3 h0]⟩
theorem key_text (T : Tb) (l : List UInt8) (h : text l = true) : keyL T l = keyC T (codes l) := by unfold keyL; rw [if_pos h]
theorem key_none (T : Tb) (l : List UInt8) (h : text l = false) : keyL T l = [] := by unfold keyL; rw [if_neg (by rw [h]; decide)]
theorem code_le (l : List UInt8) (h : text l = true) : ∀ c ∈ codes l, c ≤ 1114111 := by
  intro c hc
  have h1 := text_chr l h c hc
  rw [chr_iff] at h1
  omega
/-- The keys of a string for the three strengths: each begins with the one before. -/
theorem keys_begin (T : Tb) (l : List UInt8) : ∃ r s, keyL (withStr T 2) l = keyL (withStr T 1) l ++ r ∧ keyL (withStr T 3) l = keyL (withStr T 2) l ++ s := by
  cases h : text l with
  | false => exact ⟨[], [], by rw [key_none _ l h, key_none _ l h]; rfl, by rw [key_none _ l h, key_none _ l h]; rfl⟩
  | true => exact ⟨restL T (codes l) 1, restL T (codes l) 2, by rw [key_text _ l h, key_text _ l h, key_one, key_two], by rw [key_text _ l h, key_text _ l h, key_two, key_three]⟩
theorem levels_str (T : Tb) (hT : Fits3 T) (a b : List UInt8) :
    (cmpL (keyL (withStr T 1) a) (keyL (withStr T 1) b) ≠ 0 → cmpL (keyL (withStr T 1) a) (keyL (withStr T 1) b) = cmpL (keyL (withStr T 2) a) (keyL (withStr T 2) b)) ∧
    (cmpL (keyL (withStr T 2) a) (keyL (withStr T 2) b) ≠ 0 → cmpL (keyL (withStr T 2) a) (keyL (withStr T 2) b) = cmpL (keyL (withStr T 3) a) (keyL (withStr T 3) b)) := by
  cases ha : text a with
  | false =>
    obtain ⟨r, s, h2, h3⟩ := keys_begin T b
    rw [h3, h2, key_none _ a ha, key_none _ a ha, key_none _ a ha, cmpL_nil, cmpL_nil, cmpL_nil]
    generalize keyL (withStr T 1) b = k
    cases k with
    | nil => cases r with
      | nil => simp
      | cons x r => simp
    | cons x k => simp
  | true =>
    cases hb : text b with
    | false =>
      obtain ⟨r, s, h2, h3⟩ := keys_begin T a
      rw [h3, h2, key_none _ b hb, key_none _ b hb, key_none _ b hb, cmpL_nil', cmpL_nil', cmpL_nil']
      generalize keyL (withStr T 1) a = k
      cases k with
      | nil => cases r with
        | nil => simp
        | cons x r => simp
      | cons x k => simp
    | true =>
      rw [key_text _ a ha, key_text _ a ha, key_text _ a ha, key_text _ b hb, key_text _ b hb, key_text _ b hb]
      exact levels_cmp T hT _ _ (code_le a ha) (code_le b hb)

/-! ### descriptions with one more line -/
theorem splitB_cat (b : UInt8) : ∀ a cur t : List UInt8, splitB b cur (a ++ b :: t) = splitB b cur a ++ splitB b [] t
  | [], cur, t => by rw [List.nil_append, splitB_cons, if_pos rfl]; rfl
  | x :: a, cur, t => by
    rw [List.cons_append, splitB_cons, splitB_cons]
    split
    · rw [splitB_cat b a [] t]; rfl
    · exact splitB_cat b a _ t
theorem linesL_cat (a t : List UInt8) : linesL (a ++ 10 :: t) = linesL a ++ linesL t := splitB_cat 10 a [] t
theorem linesGo_cons (n : Nat) (d : Ds) (x : List UInt8) (t : List (List UInt8)) : linesGo n d (x :: t) = match addL x d with
    | .error e => .error (n + 1, e)
    | .ok d' => linesGo (n + 1) d' t := rfl
theorem linesGo_nil (n : Nat) (d : Ds) : linesGo n d [] = .ok d := rfl
theorem linesGo_app : ∀ (l1 l2 : List (List UInt8)) (n : Nat) (d : Ds), linesGo n d (l1 ++ l2) = match linesGo n d l1 with
    | .error x => .error x
    | .ok d' => linesGo (n + l1.length) d' l2
  | [], l2, n, d => by rw [List.nil_append, linesGo_nil]; rfl
  | x :: t, l2, n, d => by
    rw [List.cons_append, linesGo_cons, linesGo_cons]
    cases hx : addL x d with
    | error e => rfl
    | ok d' =>
      simp only
      rw [linesGo_app t l2 (n + 1) d', List.length_cons, show n + 1 + t.length = n + (t.length + 1) by omega]
/-- A byte below 128 in the form of characters is one of them. -/
theorem form_at : ∀ (p : List Nat) (a b : List UInt8) (x : UInt8), (∀ c ∈ p, chr c = true) → x.toNat < 128 → form p = a ++ x :: b → ∃ p1 p2, p = p1 ++ x.toNat :: p2 ∧ a = form p1 ∧ b = form p2
  | [], a, b, x, _, _, h => by simp [form_nil] at h
  | c :: p, a, b, x, hp, hx, h => by
    rw [form_cons] at h
    have hc := hp c (by simp)
    have hp' : ∀ d ∈ p, chr d = true := fun d hd => hp d (by simp [hd])
    rcases List.append_eq_append_iff.1 h with ⟨a', h1, h2⟩ | ⟨c', h1, h2⟩
    · obtain ⟨p1, p2, e1, e2, e3⟩ := form_at p a' b x hp' hx h2
      exact ⟨c :: p1, p2, by rw [e1]; rfl, by rw [h1, e2]; rfl, e3⟩
    · cases c' with
      | nil =>
        rw [List.nil_append] at h2
        rw [List.append_nil] at h1
        obtain ⟨p1, p2, e1, e2, e3⟩ := form_at p [] b x hp' hx h2.symm
        exact ⟨c :: p1, p2, by rw [e1]; rfl, by rw [← h1, form_cons, ← e2, List.append_nil], e3⟩
      | cons y c' =>
        rw [List.cons_append] at h2
        injection h2 with h3 h4
        subst h3
        obtain ⟨e1, e2⟩ := encode_low c hc x (by rw [h1]; simp) hx
        rw [e2] at h1
        have ha : a = [] ∧ c' = [] := by
          cases a with
          | nil => simp at h1; exact ⟨rfl, h1⟩
          | cons z a => simp at h1
        obtain ⟨rfl, rfl⟩ := ha
        exact ⟨[], p, by rw [e1]; rfl, rfl, by rw [h4]; rfl⟩
/-- What stands before a byte below 128 in a text is a text. -/
theorem text_before (a b : List UInt8) (x : UInt8) (hx : x.toNat < 128) (h : text (a ++ x :: b) = true) : text a = true ∧ text b = true := by
  have hf := form_codes _ h
  have hc := text_chr _ h
  obtain ⟨p1, p2, e1, e2, e3⟩ := form_at _ a b x hc hx hf
  rw [e1] at hc
  exact ⟨by rw [e2]; exact text_form p1 (fun c h => hc c (by simp [h])), by rw [e3]; exact text_form p2 (fun c h => hc c (by simp [h]))⟩
/-- A description with one more line. -/
theorem parse_line (l x : List UInt8) (T : Tb) (hl : l.length ≤ 1000000) (h : parseL (l ++ 10 :: x) = .ok T) (hx : (10 : UInt8) ∉ x) :
    text l = true ∧ text x = true ∧ ∃ d d', linesGo 0 ⟨[], (0, 0, 0), 0⟩ (linesL l) = .ok d ∧ parseL l = .ok (tbOf d) ∧ addL x d = .ok d' ∧ T = tbOf d' := by
  unfold parseL at h
  split at h
  · cases h
  · split at h
    · cases h
    · rename_i h1 h2
      have h3 : text (l ++ 10 :: x) = true := by simpa using h2
      obtain ⟨h4, h5⟩ := text_before l x 10 (by decide) h3
      refine ⟨h4, h5, ?_⟩
      rw [linesL_cat, linesL_none x hx, linesGo_app] at h
      cases hd : linesGo 0 ⟨[], (0, 0, 0), 0⟩ (linesL l) with
      | error e => rw [hd] at h; cases h
      | ok d =>
        rw [hd] at h
        simp only at h
        cases ha : addL x d with
        | error e => rw [linesGo_cons, ha] at h; cases h
        | ok d' =>
          rw [linesGo_cons, ha] at h
          simp only [linesGo_nil] at h
          cases h
          refine ⟨d, d', rfl, ?_, ha, rfl⟩
          unfold parseL
          rw [if_neg (by omega), if_neg (by rw [h4]; decide), hd]
theorem parse_line_of (l x : List UInt8) (d d' : Ds) (hl : l.length + x.length ≤ 1000000) (h1 : text l = true) (h2 : text x = true) (hd : linesGo 0 ⟨[], (0, 0, 0), 0⟩ (linesL l) = .ok d) (ha : addL x d = .ok d') (hx : (10 : UInt8) ∉ x) : parseL (l ++ 10 :: x) = .ok (tbOf d') := by
  have h3 : text (10 :: x) = true := (text_append [10] x (by decide) h2).1
  unfold parseL
  rw [if_neg (by rw [List.length_append, List.length_cons]; omega), if_neg (by rw [(text_append l (10 :: x) h1 h3).1]; decide), linesL_cat, linesL_none x hx, linesGo_app, hd]
  simp only [linesGo_cons, linesGo_nil, ha]
/-- The line that says the strength. -/
def strLine (n : UInt8) : List UInt8 := [115, 116, 114, 101, 110, 103, 116, 104, 32, n]
theorem add_str1 (d : Ds) : addL (strLine 49) d = if d.str ≠ 0 then .error 4 else .ok { d with str := 1 } := by
  show setStr [[49]] d = _
  rfl
theorem add_str2 (d : Ds) : addL (strLine 50) d = if d.str ≠ 0 then .error 4 else .ok { d with str := 2 } := by
  show setStr [[50]] d = _
  rfl
theorem add_str3 (d : Ds) : addL (strLine 51) d = if d.str ≠ 0 then .error 4 else .ok { d with str := 3 } := by
  show setStr [[51]] d = _
  rfl
/-- A description takes one of the lines that say the strength, or none: what collations they make. -/
theorem three_levels (l : List UInt8) (hl : l.length ≤ 2000) :
    (∃ T : Tb, parseL l = .ok (withStr T 3) ∧ parseL (l ++ 10 :: strLine 49) = .ok (withStr T 1) ∧ parseL (l ++ 10 :: strLine 50) = .ok (withStr T 2) ∧ parseL (l ++ 10 :: strLine 51) = .ok (withStr T 3)) ∨
    (∃ x, parseL (l ++ 10 :: strLine 49) = .error x) := by
  cases h : parseL (l ++ 10 :: strLine 49) with
  | error x => exact .inr ⟨x, rfl⟩
  | ok T1 =>
    left
    obtain ⟨h1, _, d, d', hd, hp, ha, hT⟩ := parse_line l (strLine 49) T1 (by omega) h (by decide)
    rw [add_str1] at ha
    split at ha
    · cases ha
    · rename_i hz
      have hz : d.str = 0 := by simpa using hz
      cases ha
      refine ⟨tbOf d, ?_, ?_, ?_, ?_⟩
      · rw [hp]; unfold tbOf withStr; simp [hz]
      · rw [hT]; rfl
      · rw [parse_line_of l (strLine 50) d { d with str := 2 } (by simp [strLine]; omega) h1 (by decide) hd (by rw [add_str2, if_neg (by simp [hz])]) (by decide)]; rfl
      · rw [parse_line_of l (strLine 51) d { d with str := 3 } (by simp [strLine]; omega) h1 (by decide) hd (by rw [add_str3, if_neg (by simp [hz])]) (by decide)]; rfl
end Go.Proofs.YtgjjmapfdijphaaDoor

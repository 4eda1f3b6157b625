/- Plain facts: the order of code points is that of the bytes of UTF-8; characters that are neither listed nor ignored are in this order. No program in this text. -/
import Derived.Test.YtgjjmapfdijphaaDoorCoLev
namespace Go.Proofs.YtgjjmapfdijphaaDoor
open Go.Lib

theorem enc_shape (c : Nat) (h : chr c = true) :
    (c ≤ 127 ∧ ∃ b0, encodeRune (c : Int) = [b0] ∧ b0.toNat = c) ∨
    (128 ≤ c ∧ c ≤ 2047 ∧ ∃ b0 b1, encodeRune (c : Int) = [b0, b1] ∧ b0.toNat = 192 + c / 64 ∧ b1.toNat = 128 + c % 64) ∨
    (2048 ≤ c ∧ c ≤ 65535 ∧ ∃ b0 b1 b2, encodeRune (c : Int) = [b0, b1, b2] ∧ b0.toNat = 224 + c / 4096 ∧ b1.toNat = 128 + c / 64 % 64 ∧ b2.toNat = 128 + c % 64) ∨
    (65536 ≤ c ∧ c ≤ 1114111 ∧ ∃ b0 b1 b2 b3, encodeRune (c : Int) = [b0, b1, b2, b3] ∧ b0.toNat = 240 + c / 262144 ∧ b1.toNat = 128 + c / 4096 % 64 ∧ b2.toNat = 128 + c / 64 % 64 ∧ b3.toNat = 128 + c % 64) := by
  rw [chr_iff] at h
  unfold encodeRune
  by_cases h1 : c ≤ 127
  · left
    rw [encodeRuneZ_one (by omega) (by omega)]
    exact ⟨h1, _, rfl, (u8_int (c : Int) (by omega) (by omega)).trans (by omega)⟩
  · right
    by_cases h2 : c ≤ 2047
    · left
      rw [encodeRuneZ_two (by omega) (by omega)]
      exact ⟨by omega, h2, _, _, rfl, (u8_int (192 + (c : Int) / 64) (by omega) (by omega)).trans (by omega), (u8_int (128 + (c : Int) % 64) (by omega) (by omega)).trans (by omega)⟩
    · right
      by_cases h3 : c ≤ 65535
      · left
        rw [encodeRuneZ_three (by omega)]
        exact ⟨by omega, h3, _, _, _, rfl, (u8_int (224 + (c : Int) / 4096) (by omega) (by omega)).trans (by omega), (u8_int (128 + (c : Int) / 64 % 64) (by omega) (by omega)).trans (by omega), (u8_int (128 + (c : Int) % 64) (by omega) (by omega)).trans (by omega)⟩
      · right
        rw [encodeRuneZ_four (by omega) (by omega)]
        exact ⟨by omega, by omega, _, _, _, _, rfl, (u8_int (240 + (c : Int) / 262144) (by omega) (by omega)).trans (by omega), (u8_int (128 + (c : Int) / 4096 % 64) (by omega) (by omega)).trans (by omega), (u8_int (128 + (c : Int) / 64 % 64) (by omega) (by omega)).trans (by omega), (u8_int (128 + (c : Int) % 64) (by omega) (by omega)).trans (by omega)⟩
set_option maxHeartbeats 2000000 in
theorem enc_lt (c d : Nat) (hc : chr c = true) (hd : chr d = true) (h : c < d) (x y : List UInt8) : cmpL (encodeRune (c : Int) ++ x) (encodeRune (d : Int) ++ y) = -1 := by
  rcases enc_shape c hc with ⟨i, b0, e, f0⟩ | ⟨i, j, b0, b1, e, f0, f1⟩ | ⟨i, j, b0, b1, b2, e, f0, f1, f2⟩ | ⟨i, j, b0, b1, b2, b3, e, f0, f1, f2, f3⟩ <;>
  rcases enc_shape d hd with ⟨k, a0, e', g0⟩ | ⟨k, l, a0, a1, e', g0, g1⟩ | ⟨k, l, a0, a1, a2, e', g0, g1, g2⟩ | ⟨k, l, a0, a1, a2, a3, e', g0, g1, g2, g3⟩ <;>
  first
  | (exfalso; omega)
  | (rw [e, e']
     simp only [List.cons_append, List.nil_append, cmpL_cons, UInt8.lt_iff_toNat_lt]
     repeat' split
     all_goals first | rfl | (exfalso; omega))
theorem enc_cmp (c d : Nat) (hc : chr c = true) (hd : chr d = true) (x y : List UInt8) : cmpL (encodeRune (c : Int) ++ x) (encodeRune (d : Int) ++ y) = if c < d then -1 else if d < c then 1 else cmpL x y := by
  by_cases h1 : c < d
  · rw [if_pos h1, enc_lt c d hc hd h1]
  · by_cases h2 : d < c
    · rw [if_neg h1, if_pos h2, cmpL_neg, enc_lt d c hd hc h2]; rfl
    · rw [if_neg h1, if_neg h2, show c = d by omega, cmpL_same]
theorem enc_ne (c : Nat) : ∃ b t, encodeRune (c : Int) = b :: t := by
  cases h : encodeRune (c : Int) with
  | nil => have := encode_len c; rw [h] at this; simp at this
  | cons b t => exact ⟨b, t, rfl⟩
theorem form_cmp : ∀ p q : List Nat, (∀ c ∈ p, chr c = true) → (∀ c ∈ q, chr c = true) → cmpL (form p) (form q) = cmpN p q
  | [], [], _, _ => rfl
  | [], d :: t, _, _ => by
    obtain ⟨b, u, e⟩ := enc_ne d
    rw [form_nil, form_cons, e]; rfl
  | c :: s, [], _, _ => by
    obtain ⟨b, u, e⟩ := enc_ne c
    rw [form_nil, form_cons, e]; rfl
  | c :: s, d :: t, hp, hq => by
    rw [form_cons, form_cons, enc_cmp c d (hp c (by simp)) (hq d (by simp)), form_cmp s t (fun x hx => hp x (by simp [hx])) (fun x hx => hq x (by simp [hx]))]
    rfl
theorem cmpN_map (k : Nat) : ∀ p q : List Nat, cmpN (p.map (· + k)) (q.map (· + k)) = cmpN p q
  | [], [] => rfl
  | [], _ :: _ => rfl
  | _ :: _, [] => rfl
  | a :: s, b :: t => by
    rw [List.map_cons, List.map_cons]
    unfold cmpN
    rw [cmpN_map k s t]
    by_cases h1 : a < b
    · rw [if_pos h1, if_pos (by omega)]
    · by_cases h2 : b < a
      · rw [if_neg h1, if_pos h2, if_neg (by omega), if_pos (by omega)]
      · rw [if_neg h1, if_neg h2, if_neg (by omega), if_neg (by omega)]
def restsC (T : Tb) (cs : List Nat) : List UInt8 := (if 2 ≤ T.str then restL T cs 1 else []) ++ (if 3 ≤ T.str then restL T cs 2 else [])
theorem keyC_rest (T : Tb) (cs : List Nat) : keyC T cs = levelL T 0 cs ++ restsC T cs := rfl
theorem rests_ends (T : Tb) (p q : List Nat) : Ends (restsC T p) (restsC T q) := by
  unfold restsC
  by_cases h : 2 ≤ T.str
  · rw [if_pos h, if_pos h]
    right
    unfold restL
    rw [List.append_assoc, List.append_assoc]
    exact ⟨_, _, rfl, rfl⟩
  · rw [if_neg h, if_neg h, if_neg (by omega), if_neg (by omega)]
    exact .inl ⟨rfl, rfl⟩
/-- Keys are compared as the first weights are, if equal first weights make equal characters. -/
theorem key_first (T : Tb) (hT : Fits3 T) (p q : List Nat) (hp : ∀ c ∈ p, c ≤ 1114111) (hq : ∀ c ∈ q, c ≤ 1114111) (h : cmpN (wl T 0 p) (wl T 0 q) = 0 → p = q) :
    cmpL (keyC T p) (keyC T q) = cmpN (wl T 0 p) (wl T 0 q) := by
  by_cases h0 : cmpN (wl T 0 p) (wl T 0 q) = 0
  · obtain rfl := h h0
    rw [cmpL_self, cmpN_self]
  · rw [keyC_rest, keyC_rest, level_wl, level_wl]
    exact lev_cmp _ _ (rests_ends T p q) _ _ (wl_wide T hT p hp) (wl_wide T hT q hq) h0
/-- No character of a list is listed or ignored. -/
def Unlisted (T : Tb) (p : List Nat) : Prop := ∀ c ∈ p, lookL T.tab c = none
theorem wl_unlisted (T : Tb) : ∀ p : List Nat, Unlisted T p → wl T 0 p = p.map (· + (T.last + 1))
  | [], _ => rfl
  | c :: t, h => by
    have hw : wtOf T c = (c + T.last + 1, 1, 1) := by unfold wtOf; rw [h c (by simp)]
    have ih := wl_unlisted T t (fun x hx => h x (by simp [hx]))
    unfold wl at ih ⊢
    rw [List.filter_cons_of_pos (by simp [hw]), List.map_cons, List.map_cons, ih, hw]
    rfl
theorem points_cmp (T : Tb) (hT : Fits3 T) (a b : List UInt8) (ha : text a = true) (hb : text b = true) (ua : Unlisted T (codes a)) (ub : Unlisted T (codes b)) : cmpL (keyL T a) (keyL T b) = cmpL a b := by
  have ca := text_chr a ha
  have cb := text_chr b hb
  rw [key_text _ a ha, key_text _ b hb, key_first T hT _ _ (code_le a ha) (code_le b hb), wl_unlisted T _ ua, wl_unlisted T _ ub, cmpN_map, ← form_cmp _ _ ca cb, form_codes a ha, form_codes b hb]
  rw [wl_unlisted T _ ua, wl_unlisted T _ ub, cmpN_map]
  exact cmpN_eq _ _
/-- The description of the law, and its collation. -/
def ptsL : List UInt8 := [97, 10, 105, 103, 110, 111, 114, 101, 32, 45]
def ptsT : Tb := ⟨[(45, (0, 0, 0)), (97, (1, 1, 1))], 1, 3⟩
theorem pts_parse : parseL ptsL = .ok ptsT := by rfl
theorem pts_fits : Fits3 ptsT := fits_of ptsT (parse_pos _ _ pts_parse) (by decide) (fun c x h => by
  unfold ptsT lookL at h
  simp only at h
  split at h
  · cases h; decide
  · unfold lookL at h
    split at h
    · cases h; decide
    · cases h)
theorem nil_fits (n : Nat) : Fits3 ⟨[], 0, n⟩ := fits_of _ (fun x hx => by cases hx) (Nat.zero_le _) (fun c x hx => by cases hx)
theorem pts_unlisted (a : List UInt8) (ha : text a = true) (h1 : (97 : UInt8) ∉ a) (h2 : (45 : UInt8) ∉ a) : Unlisted ptsT (codes a) := by
  have ca := text_chr a ha
  have e := form_codes a ha
  intro c hc
  have k1 : c ≠ 97 := by
    intro h
    subst h
    exact h1 (by rw [← e]; exact (mem_form _ ca 97 (by decide)).2 hc)
  have k2 : c ≠ 45 := by
    intro h
    subst h
    exact h2 (by rw [← e]; exact (mem_form _ ca 45 (by decide)).2 hc)
  show lookL [(45, (0, 0, 0)), (97, (1, 1, 1))] c = none
  unfold lookL
  rw [if_neg (fun h => k2 h.symm)]
  unfold lookL
  rw [if_neg (fun h => k1 h.symm)]
  rfl
theorem nil_unlisted (n : Nat) (p : List Nat) : Unlisted ⟨[], 0, n⟩ p := fun _ _ => rfl
theorem listed_first (a x : List UInt8) (p : List Nat) (ha : text a = true) (hx : text x = true) (hp : codes x = 97 :: p) (hne : a ≠ []) (u : Unlisted ptsT (codes a)) : cmpL (keyL ptsT x) (keyL ptsT a) = -1 := by
  have hw := wl_unlisted ptsT _ u
  cases hc : codes a with
  | nil =>
    exfalso
    apply hne
    rw [← form_codes a ha, hc]; rfl
  | cons c t =>
    have hcc := text_chr a ha c (by rw [hc]; simp)
    rw [chr_iff] at hcc
    have h1 : cmpN (wl ptsT 0 (codes x)) (wl ptsT 0 (codes a)) = -1 := by
      rw [hw, hc, hp, List.map_cons]
      have : wl ptsT 0 (97 :: p) = 1 :: wl ptsT 0 p := rfl
      rw [this]
      unfold cmpN
      rw [if_pos (by show 1 < c + (1 + 1); omega)]
    rw [key_text _ x hx, key_text _ a ha, key_first ptsT pts_fits _ _ (code_le x hx) (code_le a ha) (by rw [h1]; intro h; cases h), h1]

/-! ### no collation, and the one with strength 1 -/
def oneL : List UInt8 := [115, 116, 114, 101, 110, 103, 116, 104, 32, 49]
theorem one_parse : parseL oneL = .ok ⟨[], 0, 1⟩ := by rfl
theorem key_nil_one (l : List UInt8) : keyL ⟨[], 0, 0⟩ l = keyL ⟨[], 0, 1⟩ l := rfl
theorem key_one_empty (l : List UInt8) : (decide ((keyL ⟨[], 0, 1⟩ l).length = 0)) = (l.isEmpty || !text l) := by
  cases h : text l with
  | false => rw [key_none _ l h]; simp
  | true =>
    rw [key_text _ l h]
    have e := form_codes l h
    cases hc : codes l with
    | nil => rw [hc] at e; rw [← e]; rfl
    | cons c t =>
      rw [hc, form_cons] at e
      have hl := encode_len c
      have : l.isEmpty = false := by
        cases l with
        | nil =>
          have := congrArg List.length e
          simp at this
          have h0 := this.1
          rw [h0] at hl; simp at hl
        | cons _ _ => rfl
      rw [this]
      have hk : keyC ⟨[], 0, 1⟩ (c :: t) = three (c + 0 + 1) ++ levelL ⟨[], 0, 1⟩ 0 t := by
        unfold keyC
        simp
        rfl
      rw [hk, List.length_append]
      simp [three]
end Go.Proofs.YtgjjmapfdijphaaDoor

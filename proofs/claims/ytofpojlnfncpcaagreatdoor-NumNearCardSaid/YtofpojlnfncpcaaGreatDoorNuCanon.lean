/- Plain facts: how numbers are written and read; a canonical text and its number are each other's. No program in this text. -/
import Derived.Test.YtofpojlnfncpcaaGreatDoorNuDec
namespace Go.Proofs.YtofpojlnfncpcaaGreatDoor
open Go.Lib

/-- A number as it is written. -/
structure Wr where
  sign : List UInt8
  before : List UInt8
  after : List UInt8
  point : Bool
def dotL : List UInt8 → List UInt8 × List UInt8 × Bool
  | [] => ([], [], false)
  | b :: t => if b = 46 then ([], t, true) else (b :: (dotL t).1, (dotL t).2)
theorem dot_at : ∀ a t : List UInt8, (46 : UInt8) ∉ a → dotL (a ++ 46 :: t) = (a, t, true)
  | [], t, _ => rfl
  | b :: a, t, h => by
    have hb : b ≠ 46 := fun e => h (by simp [e])
    rw [List.cons_append, dotL, if_neg hb, dot_at a t (fun e => h (by simp [e]))]
theorem dot_none : ∀ a : List UInt8, (46 : UInt8) ∉ a → dotL a = (a, [], false)
  | [], _ => rfl
  | b :: a, h => by
    have hb : b ≠ 46 := fun e => h (by simp [e])
    rw [dotL, if_neg hb, dot_none a (fun e => h (by simp [e]))]
theorem dot_back : ∀ l : List UInt8, l = (dotL l).1 ++ (if (dotL l).2.2 = true then 46 :: (dotL l).2.1 else []) ∧ ((dotL l).2.2 = false → (dotL l).2.1 = [])
  | [] => ⟨rfl, fun _ => rfl⟩
  | b :: t => by
    obtain ⟨h1, h2⟩ := dot_back t
    unfold dotL
    by_cases hb : b = 46
    · subst hb
      rw [if_pos rfl]
      exact ⟨rfl, fun h => by cases h⟩
    · rw [if_neg hb]
      refine ⟨?_, h2⟩
      rw [List.cons_append, ← h1]
def signOf : List UInt8 → List UInt8 × List UInt8
  | [] => ([], [])
  | b :: t => if b = 43 ∨ b = 45 then ([b], t) else ([], b :: t)
def wrOf (x : List UInt8 × List UInt8) : Wr := ⟨x.1, (dotL x.2).1, (dotL x.2).2.1, (dotL x.2).2.2⟩
def splitOk (w : Wr) : Bool := !(w.before.isEmpty && w.after.isEmpty) && (w.before.all isDg && w.after.all isDg)
def splitL (s : List UInt8) : Option Wr := if splitOk (wrOf (signOf s)) = true then some (wrOf (signOf s)) else none
def canonW (w : Wr) : Bool :=
  if w.sign = [43] ∨ w.before = [] ∨ 30 < w.before.length ∨ 20 < w.after.length then false
  else if w.before.head? = some 48 ∧ w.before ≠ [48] then false
  else if w.point = true then decide (w.after ≠ [] ∧ w.after.getLast? ≠ some 48)
  else decide (w.sign = [] ∨ w.before ≠ [48])
/-- What is cut off from a number. -/
structure Ct where
  below : Bool
  odd : Bool
  none : Bool
  half : Int
def divW (way : Ct → Bool) (below : Bool) (a b : Nat) : Nat :=
  if way ⟨below, decide (a / b % 2 = 1), decide (a % b = 0), sgnN (2 * (a % b)) b⟩ = true then a / b + 1 else a / b
def evenW (c : Ct) : Bool := decide (0 < c.half) || (decide (c.half = 0) && c.odd)
def halfW (c : Ct) : Bool := decide (0 < c.half) || (decide (c.half = 0) && !c.below)
def floorW (c : Ct) : Bool := c.below && !c.none
def ceilW (c : Ct) : Bool := !c.below && !c.none
def cutW (_ : Ct) : Bool := false
def numL (w : Wr) : Bool × Nat :=
  (decide (w.sign = [45]), if 20 < w.after.length then divW evenW (decide (w.sign = [45])) (valD (w.before ++ w.after) 0) (10 ^ (w.after.length - 20)) else valD (w.before ++ w.after) 0 * 10 ^ (20 - w.after.length))
def bodyL (n : Nat) : List UInt8 := (if dec (n / 10 ^ 20) = [] then [48] else dec (n / 10 ^ 20)) ++ (if trimE (fixed 20 n) = [] then [] else 46 :: trimE (fixed 20 n))
/-- The text of a number of units of 10^-20; none: it is too large. -/
def textL (below : Bool) (n : Nat) : Option (List UInt8) :=
  if 30 < (dec (n / 10 ^ 20)).length then none else some ((if below = true ∧ bodyL n ≠ [48] then [45] else []) ++ bodyL n)
def canonL (s : List UInt8) : Option (Bool × Nat) := match splitL s with
  | some w => if canonW w = true then some (numL w) else none
  | none => none

theorem dgs_all (l : List UInt8) : l.all isDg = true ↔ Dgs l := by rw [List.all_eq_true]; exact Iff.rfl
theorem dgs_dot {l : List UInt8} (h : Dgs l) : (46 : UInt8) ∉ l := fun hm => by
  have := h 46 hm
  exact absurd this (by decide)
theorem body_parts (n : Nat) : ∃ B A : List UInt8, bodyL n = B ++ (if A = [] then [] else 46 :: A) ∧ B = (if dec (n / 10 ^ 20) = [] then [48] else dec (n / 10 ^ 20)) ∧ A = trimE (fixed 20 n) ∧ B ≠ [] ∧ Dgs B ∧ Dgs A ∧ valD B 0 = n / 10 ^ 20 ∧ A.length ≤ 20 ∧ A.getLast? ≠ some 48 ∧ valD A 0 * 10 ^ (20 - A.length) = n % 10 ^ 20 ∧ ¬ (B.head? = some 48 ∧ B ≠ [48]) := by
  refine ⟨_, _, rfl, rfl, rfl, ?_, ?_, ?_, ?_, ?_, ?_, ?_, ?_⟩
  · split
    · simp
    · assumption
  · split
    · intro b hb
      rw [List.mem_singleton.1 hb]; rfl
    · exact dec_dgs _
  · obtain ⟨k, hk⟩ := trimE_split (fixed 20 n)
    have := fixed_dgs 20 n
    rw [hk] at this
    exact this.left
  · split
    · rename_i h
      rw [dec_nil] at h
      rw [h]; rfl
    · exact valD_dec _
  · obtain ⟨k, hk⟩ := trimE_split (fixed 20 n)
    have := congrArg List.length hk
    rw [fixed_len, List.length_append] at this
    omega
  · exact fun h => trimE_last _ _ h rfl
  · obtain ⟨k, hk⟩ := trimE_split (fixed 20 n)
    have h1 := congrArg List.length hk
    rw [fixed_len, List.length_append, List.length_replicate] at h1
    have h2 : valD (fixed 20 n) 0 = valD (trimE (fixed 20 n) ++ List.replicate k 48) 0 := congrArg (fun l => valD l 0) hk
    rw [valD_fixed, valD_app, valD_zeros] at h2
    rw [h2, show 20 - (trimE (fixed 20 n)).length = k by omega]
  · rintro ⟨h1, h2⟩
    split at h1
    · rename_i h
      rw [if_pos h] at h2
      exact h2 rfl
    · exact dec_head _ _ h1 rfl
theorem body_zero (n : Nat) : bodyL n = [48] ↔ n = 0 := by
  constructor
  · intro h
    obtain ⟨B, A, e, _, _, h1, h2, h3, h4, h5, h6, h7, _⟩ := body_parts n
    rw [e] at h
    have hA : A = [] := by
      cases A with
      | nil => rfl
      | cons a t =>
        cases B with
        | nil => exact absurd rfl h1
        | cons b u => simp at h
    subst hA
    rw [if_pos rfl, List.append_nil] at h
    subst h
    have e1 : valD [48] 0 = 0 := rfl
    have e2 : valD [] 0 = 0 := rfl
    rw [e1] at h4
    rw [e2, Nat.zero_mul] at h7
    have h9 := Nat.div_add_mod n (10 ^ 20)
    rw [← h4, ← h7] at h9
    exact h9.symm
  · rintro rfl
    have h1 : trimE (fixed 20 0) = [] := by rw [fixed_zero]; exact trimE_of [] 20 (fun b h => by cases h)
    unfold bodyL
    rw [h1, Nat.zero_div, dec_zero]
    rfl
theorem split_of (sg B A : List UInt8) (p : Bool) (hs : sg = [] ∨ sg = [43] ∨ sg = [45]) (hB : B ≠ []) (dB : Dgs B) (dA : Dgs A) (hp : p = false → A = []) :
    splitL (sg ++ (B ++ (if p = true then 46 :: A else []))) = some ⟨sg, B, A, p⟩ := by
  have hsg : signOf (sg ++ (B ++ (if p = true then 46 :: A else []))) = (sg, B ++ (if p = true then 46 :: A else [])) := by
    rcases hs with rfl | rfl | rfl
    · cases B with
      | nil => exact absurd rfl hB
      | cons b t =>
        have hb := (isDg_iff b).1 (dB b (by simp))
        rw [List.nil_append, List.cons_append, signOf, if_neg]
        rintro (rfl | rfl)
        · exact absurd hb.1 (by decide)
        · exact absurd hb.1 (by decide)
    · rfl
    · rfl
  have hd : dotL (B ++ (if p = true then 46 :: A else [])) = (B, A, p) := by
    cases p with
    | true => rw [if_pos rfl, dot_at B A (dgs_dot dB)]
    | false =>
      rw [if_neg (by decide), List.append_nil, dot_none B (dgs_dot dB), hp rfl]
  unfold splitL
  rw [hsg]
  have hw : wrOf (sg, B ++ (if p = true then 46 :: A else [])) = ⟨sg, B, A, p⟩ := by
    unfold wrOf
    simp only [hd]
  rw [hw, if_pos]
  unfold splitOk
  have e1 : B.isEmpty = false := by cases B with
    | nil => exact absurd rfl hB
    | cons _ _ => rfl
  simp only [e1, (dgs_all B).2 dB, (dgs_all A).2 dA]
  rfl
/-- A text of a number is read as this number. -/
theorem canon_text (b : Bool) (n : Nat) (t : List UInt8) (h : textL b n = some t) : canonL t = some (b && decide (n ≠ 0), n) := by
  unfold textL at h
  split at h
  · cases h
  · rename_i hlen
    cases h
    have hz := body_zero n
    obtain ⟨B, A, e, eB, eA, h1, h2, h3, h4, h5, h6, h7, h8⟩ := body_parts n
    obtain ⟨p, hp⟩ : ∃ p : Bool, p = decide (A ≠ []) := ⟨_, rfl⟩
    have e2 : bodyL n = B ++ (if p = true then 46 :: A else []) := by
      rw [e, hp]
      refine congrArg (B ++ ·) ?_
      by_cases hA : A = []
      · simp [hA]
      · simp [hA]
    have hpA : p = false → A = [] := by
      intro h0
      rw [hp, decide_eq_false_iff_not] at h0
      exact Classical.not_not.1 h0
    obtain ⟨sg, hsg⟩ : ∃ sg, sg = (if b = true ∧ bodyL n ≠ [48] then [45] else ([] : List UInt8)) := ⟨_, rfl⟩
    have hs3 : sg = [] ∨ sg = [43] ∨ sg = [45] := by
      rw [hsg]
      split
      · exact .inr (.inr rfl)
      · exact .inl rfl
    rw [← hsg, e2]
    unfold canonL
    rw [split_of sg B A p hs3 h1 h2 h3 hpA]
    have hBl : B.length ≤ 30 := by
      rw [eB]
      split
      · simp
      · omega
    have hne43 : sg ≠ [43] := by
      rw [hsg]
      split
      · decide
      · decide
    have hc : canonW ⟨sg, B, A, p⟩ = true := by
      unfold canonW
      simp only
      rw [if_neg (by rintro (h | h | h | h); exact hne43 h; exact h1 h; omega; omega), if_neg h8]
      cases hpp : p with
      | true =>
        rw [if_pos rfl, decide_eq_true_iff]
        rw [hpp] at hp
        exact ⟨by simpa using hp.symm, h6⟩
      | false =>
        rw [if_neg (by decide), decide_eq_true_iff]
        rw [hsg]
        by_cases h0 : bodyL n = [48]
        · left
          rw [if_neg (fun h => h.2 h0)]
        · right
          intro hB
          apply h0
          rw [e2, hpp, hB]
          rfl
    simp only
    rw [if_pos hc]
    unfold numL
    simp only
    congr 1
    refine Prod.ext ?_ ?_
    · simp only
      rw [hsg]
      by_cases h0 : n = 0
      · rw [if_neg (fun h => h.2 (hz.2 h0))]
        simp [h0]
      · cases b with
        | true => rw [if_pos ⟨rfl, fun h => h0 (hz.1 h)⟩]; simp [h0]
        | false => rw [if_neg (fun h => by cases h.1)]; simp
    · simp only
      rw [if_neg (by omega), valD_app, valD_acc, h4, Nat.add_mul, h7, Nat.mul_assoc, ← Nat.pow_add, show A.length + (20 - A.length) = 20 by omega]
      omega
theorem split_back (s : List UInt8) (w : Wr) (h : splitL s = some w) :
    s = w.sign ++ (w.before ++ (if w.point = true then 46 :: w.after else [])) ∧ (w.point = false → w.after = []) ∧ Dgs w.before ∧ Dgs w.after ∧ (w.sign = [] ∨ w.sign = [43] ∨ w.sign = [45]) ∧ (w.before ≠ [] ∨ w.after ≠ []) := by
  unfold splitL at h
  split at h
  · rename_i hk
    cases h
    unfold splitOk at hk
    simp only [Bool.and_eq_true, dgs_all] at hk
    obtain ⟨k1, k2, k3⟩ := hk
    obtain ⟨d1, d2⟩ := dot_back (signOf s).2
    refine ⟨?_, d2, k2, k3, ?_, ?_⟩
    · show s = (signOf s).1 ++ ((dotL (signOf s).2).1 ++ (if (dotL (signOf s).2).2.2 = true then 46 :: (dotL (signOf s).2).2.1 else []))
      rw [← d1]
      cases s with
      | nil => rfl
      | cons b t =>
        simp only [signOf]
        split <;> rfl
    · show (signOf s).1 = [] ∨ (signOf s).1 = [43] ∨ (signOf s).1 = [45]
      cases s with
      | nil => exact .inl rfl
      | cons b t =>
        simp only [signOf]
        split
        · rename_i hb
          rcases hb with rfl | rfl
          · exact .inr (.inl rfl)
          · exact .inr (.inr rfl)
        · exact .inl rfl
    · by_cases hb : (wrOf (signOf s)).before = []
      · right
        intro ha
        rw [hb, ha] at k1
        cases k1
      · exact .inl hb
  · cases h
set_option maxHeartbeats 2000000 in
/-- A canonical text is the text of its number. -/
theorem text_canon (s : List UInt8) (b : Bool) (n : Nat) (h : canonL s = some (b, n)) : textL b n = some s ∧ n < 10 ^ 50 ∧ (b = true → n ≠ 0) := by
  unfold canonL at h
  split at h
  · rename_i w hw
    split at h
    · rename_i hc
      obtain ⟨hs, hpA, dB, dA, h3, _⟩ := split_back s w hw
      unfold canonW at hc
      split at hc
      · cases hc
      · rename_i k1
        split at hc
        · cases hc
        · rename_i k2
          simp only [not_or, Nat.not_lt] at k1
          obtain ⟨n43, nB, lB, lA⟩ := k1
          unfold numL at h
          simp only [Option.some.injEq, Prod.mk.injEq] at h
          obtain ⟨hb, hn⟩ := h
          rw [if_neg (by omega), valD_app, valD_acc, Nat.add_mul, Nat.mul_assoc, ← Nat.pow_add, show w.after.length + (20 - w.after.length) = 20 by omega] at hn
          have hx : valD w.after 0 * 10 ^ (20 - w.after.length) < 10 ^ 20 := by
            have h1 := valD_lt w.after dA
            have h2 : 10 ^ w.after.length * 10 ^ (20 - w.after.length) = 10 ^ 20 := by rw [← Nat.pow_add, show w.after.length + (20 - w.after.length) = 20 by omega]
            rw [← h2]
            exact Nat.mul_lt_mul_of_pos_right h1 (Nat.pow_pos (by omega))
          have hm := valD_lt w.before dB
          have hdiv : n / 10 ^ 20 = valD w.before 0 := by omega
          have hmod : n % 10 ^ 20 = valD w.after 0 * 10 ^ (20 - w.after.length) := by omega
          have hfix : fixed 20 n = w.after ++ List.replicate (20 - w.after.length) 48 := by
            rw [← fixed_mod, hmod]
            have : fixed 20 (valD w.after 0 * 10 ^ (20 - w.after.length)) = fixed (w.after.length + (20 - w.after.length)) (valD w.after 0 * 10 ^ (20 - w.after.length)) := by rw [show w.after.length + (20 - w.after.length) = 20 by omega]
            rw [this, fixed_add, Nat.mul_div_cancel _ (Nat.pow_pos (by omega)), fixed_val _ dA, fixed_mul]
          have hlast : ∀ x, w.after.getLast? = some x → x ≠ 48 := by
            intro x hx e
            subst e
            by_cases hp : w.point = true
            · rw [if_pos hp, decide_eq_true_iff] at hc
              exact hc.2 hx
            · rw [hpA (by simpa using hp)] at hx; cases hx
          have htE : trimE (fixed 20 n) = w.after := by rw [hfix]; exact trimE_of _ _ hlast
          have hdec : dec (n / 10 ^ 20) = trim0 w.before := by
            rw [hdiv, ← trim_fixed w.before.length _ hm, fixed_val _ dB]
          have hB : (if dec (n / 10 ^ 20) = [] then [48] else dec (n / 10 ^ 20)) = w.before := by
            by_cases h0 : w.before = [48]
            · rw [hdec, h0]; rfl
            · have hh : trim0 w.before = w.before := by
                cases hbb : w.before with
                | nil => exact absurd hbb nB
                | cons x t =>
                  unfold trim0
                  rw [List.dropWhile_cons, if_neg]
                  intro e
                  have e : x = 48 := by simpa using e
                  exact k2 ⟨by rw [hbb, e]; rfl, h0⟩
              rw [hdec, hh, if_neg nB]
          have hbody : bodyL n = w.before ++ (if w.point = true then 46 :: w.after else []) := by
            unfold bodyL
            rw [hB, htE]
            refine congrArg (w.before ++ ·) ?_
            by_cases hp : w.point = true
            · rw [if_pos hp, decide_eq_true_iff] at hc
              rw [if_neg hc.1, if_pos hp]
            · rw [hpA (by simpa using hp), if_pos rfl, if_neg hp]
          have hlen : ¬ 30 < (dec (n / 10 ^ 20)).length := by
            have : (dec (n / 10 ^ 20)).length ≤ w.before.length := by
              rw [dec_len, hdiv]; exact hm
            omega
          have hz := body_zero n
          have hneg : w.sign = [45] → bodyL n ≠ [48] := by
            intro h45 hb0
            rw [hbody] at hb0
            by_cases hp : w.point = true
            · rw [if_pos hp] at hb0
              have hlen2 := congrArg List.length hb0
              have hBp : 0 < w.before.length := List.length_pos_iff.2 nB
              rw [List.length_append, List.length_cons, List.length_singleton] at hlen2
              omega
            · rw [if_neg hp, decide_eq_true_iff] at hc
              rw [if_neg hp, List.append_nil] at hb0
              rcases hc with hc | hc
              · rw [h45] at hc; cases hc
              · exact hc hb0
          refine ⟨?_, ?_, ?_⟩
          · unfold textL
            rw [if_neg hlen, hbody]
            conv => rhs; rw [hs]
            refine congrArg (fun x => some (x ++ (w.before ++ (if w.point = true then 46 :: w.after else [])))) ?_
            rw [← hb]
            rcases h3 with h3 | h3 | h3
            · rw [h3]; rfl
            · exact absurd h3 n43
            · rw [if_pos ⟨by rw [h3]; rfl, by rw [← hbody]; exact hneg h3⟩, h3]
          · have : n / 10 ^ 20 < 10 ^ 30 := by rw [hdiv]; exact Nat.lt_of_lt_of_le hm (Nat.pow_le_pow_right (by omega) lB)
            omega
          · intro hbt h0
            rw [← hb, decide_eq_true_iff] at hbt
            exact hneg hbt (hz.2 h0)
    · cases h
  · cases h
end Go.Proofs.YtofpojlnfncpcaaGreatDoor

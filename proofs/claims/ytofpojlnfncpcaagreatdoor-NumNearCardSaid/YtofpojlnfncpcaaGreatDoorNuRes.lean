/- Plain facts: what the program gives back for numbers: texts and errors; numbers as integers of units. No program in this text. -/
import Derived.Test.YtofpojlnfncpcaaGreatDoorNuCanon
namespace Go.Proofs.YtofpojlnfncpcaaGreatDoor
open Go.Lib

/-- The integer of a sign and an absolute value. -/
def toZ (b : Bool) (n : Nat) : Int := if b = true then -(n : Int) else (n : Int)
/-- What a sum is below 0, and its absolute value. -/
def plusB (bx by_ : Bool) (a b : Nat) : Bool := if bx = by_ then bx else if a < b then by_ else bx
def plusN (bx by_ : Bool) (a b : Nat) : Nat := if bx = by_ then a + b else if a < b then b - a else a - b
/-- How two numbers compare. -/
def cmpN (bx by_ : Bool) (a b : Nat) : Int := if bx = true ∧ by_ = true then sgnN b a else if bx = true then -1 else if by_ = true then 1 else sgnN a b
theorem toZ_plus (bx by_ : Bool) (a b : Nat) : toZ (plusB bx by_ a b) (plusN bx by_ a b) = toZ bx a + toZ by_ b := by
  unfold toZ plusB plusN
  by_cases h : a < b
  · cases bx <;> cases by_ <;> simp [h] <;> omega
  · cases bx <;> cases by_ <;> simp [h] <;> omega
theorem toZ_not (b : Bool) (n : Nat) : toZ (!b) n = - toZ b n := by
  unfold toZ
  cases b <;> simp
theorem toZ_inj {b b' : Bool} {n n' : Nat} (h : toZ b n = toZ b' n') : n = n' ∧ (b = b' ∨ n = 0) := by
  unfold toZ at h
  cases b <;> cases b' <;> simp at h ⊢ <;> omega
theorem textL_zero (b : Bool) : textL b 0 = some [48] := by
  have h := (body_zero 0).2 rfl
  unfold textL
  rw [h, Nat.zero_div, dec_zero, if_neg (by decide)]
  simp
theorem textL_toZ {b b' : Bool} {n n' : Nat} (h : toZ b n = toZ b' n') : textL b n = textL b' n' := by
  have ⟨e, k⟩ := toZ_inj h
  subst e
  rcases k with k | k
  · rw [k]
  · rw [k, textL_zero, textL_zero]
theorem textL_big (b : Bool) (n : Nat) : textL b n = none ↔ 10 ^ 50 ≤ n := by
  unfold textL
  have h := dec_len (n / 10 ^ 20) 30
  split
  · simp; omega
  · simp; omega
theorem textL_some (b : Bool) (n : Nat) (h : n < 10 ^ 50) : ∃ t, textL b n = some t := by
  cases e : textL b n with
  | none => rw [textL_big] at e; omega
  | some t => exact ⟨t, rfl⟩
theorem textL_lt {b : Bool} {n : Nat} {t : List UInt8} (h : textL b n = some t) : n < 10 ^ 50 := by
  refine Classical.byContradiction fun hn => ?_
  rw [(textL_big b n).2 (by omega)] at h
  cases h
theorem canonL_lt {s : List UInt8} {b : Bool} {n : Nat} (h : canonL s = some (b, n)) : n < 10 ^ 50 := (text_canon s b n h).2.1
theorem canonL_same {s s' : List UInt8} {b b' : Bool} {n n' : Nat} (h : canonL s = some (b, n)) (h' : canonL s' = some (b', n')) (e : toZ b n = toZ b' n') : s = s' := by
  have h1 := (text_canon s b n h).1
  have h2 := (text_canon s' b' n' h').1
  rw [textL_toZ e, h2] at h1
  exact (Option.some.inj h1).symm
/-- A result: a text and the error OK, or no text and the error that it is too large. -/
def resR (b : Bool) (n : Nat) : List UInt8 × Int := match textL b n with
  | some t => (t, 0)
  | none => ([], 40)
theorem resR_toZ {b b' : Bool} {n n' : Nat} (h : toZ b n = toZ b' n') : resR b n = resR b' n' := by unfold resR; rw [textL_toZ h]
theorem resR_lt (b : Bool) (n : Nat) (h : n < 10 ^ 50) : ∃ t, resR b n = (t, 0) ∧ textL b n = some t := by
  obtain ⟨t, ht⟩ := textL_some b n h
  exact ⟨t, by unfold resR; rw [ht], ht⟩
theorem resR_ge (b : Bool) (n : Nat) (h : 10 ^ 50 ≤ n) : resR b n = ([], 40) := by
  unfold resR; rw [(textL_big b n).2 h]
theorem resR_text {b : Bool} {n : Nat} {s : List UInt8} (h : textL b n = some s) : resR b n = (s, 0) := by unfold resR; rw [h]
theorem resR_canon {s : List UInt8} {b : Bool} {n : Nat} (h : canonL s = some (b, n)) {b' : Bool} {n' : Nat} (e : toZ b' n' = toZ b n) : resR b' n' = (s, 0) := by
  rw [resR_toZ e, resR_text (text_canon s b n h).1]
/-- A text that a number has: how long it is. -/
theorem textL_len {b : Bool} {n : Nat} {t : List UInt8} (h : textL b n = some t) : t.length ≤ 52 := by
  have hn := textL_lt h
  unfold textL at h
  rw [if_neg (by have := dec_len (n / 10 ^ 20) 30; omega)] at h
  cases h
  obtain ⟨B, A, e, hB, hA, h1, _, _, _, h5, _⟩ := body_parts n
  have hBl : B.length ≤ 30 := by
    rw [hB]
    split
    · simp
    · have := dec_len (n / 10 ^ 20) 30; omega
  have hbl : (bodyL n).length ≤ 51 := by
    rw [e, List.length_append]
    split
    · simp; omega
    · simp; omega
  rw [List.length_append]
  split
  · simp; omega
  · simp; omega

/-- What Parse gives. -/
def readR (s : List UInt8) : List UInt8 × Int := if 200 < s.length then ([], 2) else match splitL s with
  | none => ([], 5)
  | some w => resR (numL w).1 (numL w).2
theorem canonL_split {s : List UInt8} {x : Bool × Nat} (h : canonL s = some x) : ∃ w, splitL s = some w ∧ canonW w = true ∧ numL w = x := by
  unfold canonL at h
  split at h
  · rename_i w hw
    split at h
    · rename_i hc
      exact ⟨w, hw, hc, Option.some.inj h⟩
    · cases h
  · cases h
theorem readR_text {b : Bool} {n : Nat} {t : List UInt8} (h : textL b n = some t) : readR t = (t, 0) := by
  have hl := textL_len h
  have hc := canon_text b n t h
  obtain ⟨w, h1, _, h3⟩ := canonL_split hc
  unfold readR
  rw [if_neg (by omega), h1]
  show resR (numL w).1 (numL w).2 = _
  rw [h3]
  exact resR_text (text_canon t _ _ hc).1
/-- What a function of the package gives: an error and no text, or a text that Parse gives back. -/
def CanonR (r : List UInt8 × Int) : Prop := (r.2 ≠ 0 ∧ r.1 = []) ∨ (r.2 = 0 ∧ readR r.1 = (r.1, 0) ∧ r.1.length ≤ 52)
theorem resR_canonR (b : Bool) (n : Nat) : CanonR (resR b n) := by
  cases e : textL b n with
  | none => exact .inl (by unfold resR; rw [e]; exact ⟨by decide, rfl⟩)
  | some t => exact .inr (by unfold resR; rw [e]; exact ⟨rfl, readR_text e, textL_len e⟩)
theorem errL_canonR (z : Int) (h : z ≠ 0) : CanonR ([], z) := .inl ⟨h, rfl⟩
theorem readR_canonR (s : List UInt8) : CanonR (readR s) := by
  unfold readR
  split
  · exact errL_canonR _ (by decide)
  · split
    · exact errL_canonR _ (by decide)
    · exact resR_canonR _ _

/-- A function of one number, and of two. -/
def on1 (a : List UInt8) (f : Bool → Nat → List UInt8 × Int) : List UInt8 × Int := match canonL a with
  | none => ([], 1)
  | some x => f x.1 x.2
def on2 (a b : List UInt8) (f : Bool → Nat → Bool → Nat → List UInt8 × Int) : List UInt8 × Int := on1 a fun bx x => on1 b fun by_ y => f bx x by_ y
def onD (a b : List UInt8) (f : Bool → Nat → Bool → Nat → List UInt8 × Int) : List UInt8 × Int := on2 a b fun bx x by_ y => if y = 0 then ([], 41) else f bx x by_ y
def addR (a b : List UInt8) := on2 a b fun bx x by_ y => resR (plusB bx by_ x y) (plusN bx by_ x y)
def subR (a b : List UInt8) := on2 a b fun bx x by_ y => resR (plusB bx (!by_) x y) (plusN bx (!by_) x y)
def mulR (a b : List UInt8) := on2 a b fun bx x by_ y => resR (bx != by_) (divW evenW (bx != by_) (x * y) (10 ^ 20))
def quoR (a b : List UInt8) := onD a b fun bx x by_ y => resR (bx != by_) (divW evenW (bx != by_) (x * 10 ^ 20) y)
def idivR (a b : List UInt8) := onD a b fun bx x by_ y => resR (bx != by_) (x / y * 10 ^ 20)
def modR (a b : List UInt8) := onD a b fun bx x _ y => resR bx (x % y)
def negR (a : List UInt8) := on1 a fun bx x => resR (!bx) x
def wayL (how : List UInt8) : Option (Ct → Bool) :=
  if how = [104, 97, 108, 102] then some halfW else if how = [101, 118, 101, 110] then some evenW else if how = [102, 108, 111, 111, 114] then some floorW
  else if how = [99, 101, 105, 108, 105, 110, 103] then some ceilW else if how = [99, 117, 116] then some cutW else none
def roundR (a : List UInt8) (digits : Int) (how : List UInt8) := on1 a fun bx x =>
  if digits < -30 ∨ 20 < digits then ([], 6) else match wayL how with
    | none => ([], 1)
    | some way => resR bx (divW way bx x (10 ^ (20 - digits).toNat) * 10 ^ (20 - digits).toNat)
def cmpR (a b : List UInt8) : Int × Int := match canonL a, canonL b with
  | some x, some y => (cmpN x.1 y.1 x.2 y.2, 0)
  | _, _ => (0, 1)
def isIntR (a : List UInt8) : Bool := match splitL a with
  | some w => canonW w && !w.point
  | none => false
theorem on1_canonR {a : List UInt8} {f : Bool → Nat → List UInt8 × Int} (h : ∀ b n, CanonR (f b n)) : CanonR (on1 a f) := by
  unfold on1
  split
  · exact errL_canonR _ (by decide)
  · exact h _ _
theorem on2_canonR {a b : List UInt8} {f : Bool → Nat → Bool → Nat → List UInt8 × Int} (h : ∀ b n c m, CanonR (f b n c m)) : CanonR (on2 a b f) := on1_canonR fun _ _ => on1_canonR fun _ _ => h _ _ _ _
theorem onD_canonR {a b : List UInt8} {f : Bool → Nat → Bool → Nat → List UInt8 × Int} (h : ∀ b n c m, CanonR (f b n c m)) : CanonR (onD a b f) := on2_canonR fun _ _ _ _ => by
  split
  · exact errL_canonR _ (by decide)
  · exact h _ _ _ _
theorem addR_canonR (a b : List UInt8) : CanonR (addR a b) := on2_canonR fun _ _ _ _ => resR_canonR _ _
theorem subR_canonR (a b : List UInt8) : CanonR (subR a b) := on2_canonR fun _ _ _ _ => resR_canonR _ _
theorem mulR_canonR (a b : List UInt8) : CanonR (mulR a b) := on2_canonR fun _ _ _ _ => resR_canonR _ _
theorem quoR_canonR (a b : List UInt8) : CanonR (quoR a b) := onD_canonR fun _ _ _ _ => resR_canonR _ _
theorem idivR_canonR (a b : List UInt8) : CanonR (idivR a b) := onD_canonR fun _ _ _ _ => resR_canonR _ _
theorem modR_canonR (a b : List UInt8) : CanonR (modR a b) := onD_canonR fun _ _ _ _ => resR_canonR _ _
theorem negR_canonR (a : List UInt8) : CanonR (negR a) := on1_canonR fun _ _ => resR_canonR _ _
theorem roundR_canonR (a : List UInt8) (d : Int) (how : List UInt8) : CanonR (roundR a d how) := on1_canonR fun _ _ => by
  split
  · exact errL_canonR _ (by decide)
  · split
    · exact errL_canonR _ (by decide)
    · exact resR_canonR _ _
theorem on1_some {a : List UInt8} {b : Bool} {n : Nat} (h : canonL a = some (b, n)) (f : Bool → Nat → List UInt8 × Int) : on1 a f = f b n := by unfold on1; rw [h]
theorem on1_none {a : List UInt8} (h : canonL a = none) (f : Bool → Nat → List UInt8 × Int) : on1 a f = ([], 1) := by unfold on1; rw [h]
theorem on2_some {a b : List UInt8} {bx by_ : Bool} {x y : Nat} (h : canonL a = some (bx, x)) (k : canonL b = some (by_, y)) (f : Bool → Nat → Bool → Nat → List UInt8 × Int) : on2 a b f = f bx x by_ y := by
  unfold on2; rw [on1_some h, on1_some k]
theorem on2_none {a b : List UInt8} (h : canonL a = none ∨ canonL b = none) (f : Bool → Nat → Bool → Nat → List UInt8 × Int) : on2 a b f = ([], 1) := by
  unfold on2
  rcases h with h | h
  · rw [on1_none h]
  · cases e : canonL a with
    | none => rw [on1_none e]
    | some x => rw [on1_some (b := x.1) (n := x.2) e, on1_none h]

/-! ### sums and products -/
theorem addR_comm (a b : List UInt8) : addR a b = addR b a := by
  unfold addR
  cases ha : canonL a with
  | none => rw [on2_none (.inl ha), on2_none (.inr ha)]
  | some x => cases hb : canonL b with
    | none => rw [on2_none (.inr hb), on2_none (.inl hb)]
    | some y =>
      rw [on2_some (bx := x.1) (x := x.2) (by_ := y.1) (y := y.2) ha hb, on2_some (bx := y.1) (x := y.2) (by_ := x.1) (y := x.2) hb ha]
      exact resR_toZ (by rw [toZ_plus, toZ_plus, Int.add_comm])
theorem mulR_comm (a b : List UInt8) : mulR a b = mulR b a := by
  unfold mulR
  cases ha : canonL a with
  | none => rw [on2_none (.inl ha), on2_none (.inr ha)]
  | some x => cases hb : canonL b with
    | none => rw [on2_none (.inr hb), on2_none (.inl hb)]
    | some y =>
      rw [on2_some (bx := x.1) (x := x.2) (by_ := y.1) (y := y.2) ha hb, on2_some (bx := y.1) (x := y.2) (by_ := x.1) (y := x.2) hb ha, Nat.mul_comm, show (x.1 != y.1) = (y.1 != x.1) by cases x.1 <;> cases y.1 <;> rfl]
/-- A text that was given back is canonical: its number. -/
theorem resR_back {b : Bool} {n : Nat} {t : List UInt8} (h : resR b n = (t, 0)) : ∃ c, canonL t = some (c, n) ∧ toZ c n = toZ b n := by
  cases e : textL b n with
  | none => unfold resR at h; rw [e] at h; cases h
  | some u =>
    rw [resR_text e] at h
    cases h
    refine ⟨_, canon_text b n t e, ?_⟩
    unfold toZ
    by_cases h0 : n = 0
    · subst h0; simp
    · simp [h0]
theorem subR_addR (a b x : List UInt8) (h : addR a b = (x, 0)) : subR x b = (a, 0) := by
  unfold addR at h
  cases ha : canonL a with
  | none => rw [on2_none (.inl ha)] at h; cases h
  | some p => cases hb : canonL b with
    | none => rw [on2_none (.inr hb)] at h; cases h
    | some q =>
      obtain ⟨bx, m⟩ := p
      obtain ⟨by_, n⟩ := q
      rw [on2_some ha hb] at h
      obtain ⟨c, hc, hz⟩ := resR_back h
      unfold subR
      rw [on2_some hc hb]
      refine resR_canon ha ?_
      rw [toZ_plus, hz, toZ_plus, toZ_not]
      omega
theorem negR_none (a : List UInt8) (h : canonL a = none) : negR a = ([], 1) := on1_none h _
theorem negR_negR (a : List UInt8) (b : Bool) (n : Nat) (h : canonL a = some (b, n)) : ∃ t, negR a = (t, 0) ∧ negR t = (a, 0) := by
  unfold negR
  rw [on1_some h]
  obtain ⟨t, ht, _⟩ := resR_lt (!b) n (canonL_lt h)
  refine ⟨t, ht, ?_⟩
  obtain ⟨c, hc, hz⟩ := resR_back ht
  rw [on1_some hc]
  refine resR_canon h ?_
  rw [toZ_not, hz, toZ_not]
  omega
end Go.Proofs.YtofpojlnfncpcaaGreatDoor

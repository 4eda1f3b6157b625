/- Plain facts: quotients and remainders make the dividend. No program in this text. -/
import Derived.Test.YtofpojlnfncpcaaGreatDoorNuRes
namespace Go.Proofs.YtofpojlnfncpcaaGreatDoor
open Go.Lib

theorem canon_parts {s : List UInt8} {b : Bool} {n : Nat} (h : canonL s = some (b, n)) : s = (if b = true then [45] else []) ++ bodyL n := by
  obtain ⟨h1, h2, h3⟩ := text_canon s b n h
  have hz := body_zero n
  unfold textL at h1
  split at h1
  · cases h1
  · cases h1
    refine congrArg (· ++ bodyL n) ?_
    by_cases hb : b = true
    · rw [if_pos hb, if_pos ⟨hb, fun e => h3 hb (hz.1 e)⟩]
    · rw [if_neg hb, if_neg (fun e => hb e.1)]
theorem body_head (n : Nat) : ∃ d t, bodyL n = d :: t ∧ isDg d = true := by
  obtain ⟨B, A, e, _, _, h1, h2, _⟩ := body_parts n
  cases B with
  | nil => exact absurd rfl h1
  | cons d t => exact ⟨d, _, e, h2 d (by simp)⟩
theorem dg_not45 {d : UInt8} (h : isDg d = true) : d ≠ 45 := by rintro rfl; exact absurd h (by decide)
/-- A text without the sign. -/
def absL : List UInt8 → List UInt8
  | [] => []
  | b :: t => if b = 45 then t else b :: t
theorem absL_canon {s : List UInt8} {b : Bool} {n : Nat} (h : canonL s = some (b, n)) : canonL (absL s) = some (false, n) := by
  have hs := canon_parts h
  obtain ⟨d, t, e, hd⟩ := body_head n
  have ha : absL s = bodyL n := by
    rw [hs, e]
    cases b with
    | true => rfl
    | false =>
      show (if d = 45 then t else d :: t) = d :: t
      rw [if_neg (dg_not45 hd)]
  have ht : textL false n = some (bodyL n) := by
    obtain ⟨u, hu⟩ := textL_some false n (canonL_lt h)
    rw [hu]
    unfold textL at hu
    split at hu
    · cases hu
    · cases hu; simp
  have := canon_text false n _ ht
  rw [ha]
  simpa using this
theorem head_neg {s : List UInt8} {b : Bool} {n : Nat} (h : canonL s = some (b, n)) : ∃ d t, s = d :: t ∧ decide (d = 45) = b := by
  have hs := canon_parts h
  obtain ⟨d, t, e, hd⟩ := body_head n
  cases b with
  | true => exact ⟨45, bodyL n, hs, by decide⟩
  | false => exact ⟨d, t, hs.trans e, by simpa using dg_not45 hd⟩
theorem canon_zero {s : List UInt8} {b : Bool} {n : Nat} (h : canonL s = some (b, n)) : s = [48] ↔ n = 0 := by
  have hz := body_zero n
  have hs := canon_parts h
  have hb := (text_canon s b n h).2.2
  constructor
  · intro e
    obtain ⟨d, t, e2, hd⟩ := head_neg h
    rw [e] at e2
    cases e2
    have hbf : b = false := by rw [← hd]; rfl
    subst hbf
    rw [e] at hs
    exact hz.1 (by simpa using hs.symm)
  · rintro rfl
    have hbf : b = false := by
      cases b with
      | true => exact absurd rfl (hb rfl)
      | false => rfl
    subst hbf
    rw [hs, hz.2 rfl]; rfl
theorem toZ_add (b : Bool) (m n : Nat) : toZ b m + toZ b n = toZ b (m + n) := by
  unfold toZ
  cases b <;> simp <;> omega
theorem toZ_zero (b : Bool) : toZ b 0 = 0 := by unfold toZ; cases b <;> rfl
/-- A way that changes nothing where nothing is cut off. -/
def Calm (way : Ct → Bool) : Prop := ∀ c : Ct, c.none = true → c.half = -1 → way c = false
theorem even_calm : Calm evenW := fun c h k => by unfold evenW; rw [k]; rfl
theorem half_calm : Calm halfW := fun c h k => by unfold halfW; rw [k]; rfl
theorem floor_calm : Calm floorW := fun c h k => by unfold floorW; rw [h]; cases c.below <;> rfl
theorem ceil_calm : Calm ceilW := fun c h k => by unfold ceilW; rw [h]; cases c.below <;> rfl
theorem cut_calm : Calm cutW := fun _ _ _ => rfl
theorem divW_exact {way : Ct → Bool} (hw : Calm way) (below : Bool) (k U : Nat) (hU : 0 < U) : divW way below (k * U) U = k := by
  unfold divW
  rw [Nat.mul_mod_left, Nat.mul_div_cancel _ hU, if_neg]
  rw [hw _ (by simp) (by simp only [Nat.mul_zero]; unfold sgnN; rw [if_pos hU])]
  decide

/-! ### a remainder and a quotient -/
theorem onD_some {a b : List UInt8} {bx by_ : Bool} {x y : Nat} (ha : canonL a = some (bx, x)) (hb : canonL b = some (by_, y)) (hy : y ≠ 0) (f : Bool → Nat → Bool → Nat → List UInt8 × Int) : onD a b f = f bx x by_ y := by
  unfold onD; rw [on2_some ha hb, if_neg hy]
theorem onD_zero {a b : List UInt8} {bx by_ : Bool} {x : Nat} (ha : canonL a = some (bx, x)) (hb : canonL b = some (by_, 0)) (f : Bool → Nat → Bool → Nat → List UInt8 × Int) : onD a b f = ([], 41) := by
  unfold onD; rw [on2_some ha hb, if_pos rfl]
theorem onD_none {a b : List UInt8} (h : canonL a = none ∨ canonL b = none) (f : Bool → Nat → Bool → Nat → List UInt8 × Int) : onD a b f = ([], 1) := on2_none h _
theorem mod_is {a b : List UInt8} {bx by_ : Bool} {x y : Nat} (ha : canonL a = some (bx, x)) (hb : canonL b = some (by_, y)) (hy : y ≠ 0) :
    ∃ r c, modR a b = (r, 0) ∧ canonL r = some (c, x % y) ∧ toZ c (x % y) = toZ bx (x % y) := by
  unfold modR
  rw [onD_some ha hb hy]
  obtain ⟨r, hr, _⟩ := resR_lt bx (x % y) (Nat.lt_of_le_of_lt (Nat.mod_le _ _) (canonL_lt ha))
  obtain ⟨c, h1, h2⟩ := resR_back hr
  exact ⟨r, c, hr, h1, h2⟩
theorem cmpR_some {a b : List UInt8} {bx by_ : Bool} {x y : Nat} (ha : canonL a = some (bx, x)) (hb : canonL b = some (by_, y)) : cmpR a b = (cmpN bx by_ x y, 0) := by
  unfold cmpR; rw [ha, hb]
theorem idiv_is {a b : List UInt8} {bx by_ : Bool} {x y : Nat} (ha : canonL a = some (bx, x)) (hb : canonL b = some (by_, y)) (hy : y ≠ 0) :
    idivR a b = ([], 40) ∨ ∃ q c, idivR a b = (q, 0) ∧ canonL q = some (c, x / y * 10 ^ 20) ∧ toZ c (x / y * 10 ^ 20) = toZ (bx != by_) (x / y * 10 ^ 20) := by
  unfold idivR
  rw [onD_some ha hb hy]
  rcases Nat.lt_or_ge (x / y * 10 ^ 20) (10 ^ 50) with h | h
  · obtain ⟨q, hq, _⟩ := resR_lt (bx != by_) _ h
    obtain ⟨c, h1, h2⟩ := resR_back hq
    exact .inr ⟨q, c, hq, h1, h2⟩
  · exact .inl (resR_ge _ _ h)
theorem mul_back {b q : List UInt8} {bx by_ c : Bool} {x y : Nat} (hb : canonL b = some (by_, y)) (hx : x < 10 ^ 50) (hq : canonL q = some (c, x / y * 10 ^ 20)) (hc : toZ c (x / y * 10 ^ 20) = toZ (bx != by_) (x / y * 10 ^ 20)) :
    ∃ p d, mulR b q = (p, 0) ∧ canonL p = some (d, y * (x / y)) ∧ toZ d (y * (x / y)) = toZ bx (y * (x / y)) := by
  unfold mulR
  rw [on2_some hb hq, ← Nat.mul_assoc, divW_exact even_calm _ _ _ (by decide)]
  obtain ⟨p, hp, _⟩ := resR_lt (by_ != c) (y * (x / y)) (Nat.lt_of_le_of_lt (Nat.mul_div_le _ _) hx)
  obtain ⟨d, h1, h2⟩ := resR_back hp
  refine ⟨p, d, hp, h1, h2.trans ?_⟩
  by_cases h0 : x / y = 0
  · rw [h0, Nat.mul_zero, toZ_zero, toZ_zero]
  · have hne : x / y * 10 ^ 20 ≠ 0 := Nat.mul_ne_zero h0 (by decide)
    obtain ⟨_, h3⟩ := toZ_inj hc
    rcases h3 with rfl | h3
    · congr 1
      cases by_ <;> cases bx <;> rfl
    · exact absurd h3 hne
theorem add_back {a p r : List UInt8} {bx c d : Bool} {x y : Nat} (ha : canonL a = some (bx, x)) (hp : canonL p = some (d, y * (x / y))) (hd : toZ d (y * (x / y)) = toZ bx (y * (x / y))) (hr : canonL r = some (c, x % y)) (hc : toZ c (x % y) = toZ bx (x % y)) :
    addR p r = (a, 0) := by
  unfold addR
  rw [on2_some hp hr]
  refine resR_canon ha ?_
  rw [toZ_plus, hd, hc, toZ_add, Nat.div_add_mod]
theorem canon_after {s : List UInt8} {b : Bool} {n : Nat} (h : canonL s = some (b, n)) (h0 : n % 10 ^ 20 = 0) : isIntR s = true := by
  obtain ⟨w, hw, hc, hn⟩ := canonL_split h
  obtain ⟨hs, hpA, dB, dA, h3, _⟩ := split_back s w hw
  unfold isIntR
  rw [hw]
  simp only
  rw [hc]
  cases hp : w.point with
  | false => rfl
  | true =>
    exfalso
    have hc2 := hc
    unfold canonW at hc2
    split at hc2
    · cases hc2
    · rename_i k1
      split at hc2
      · cases hc2
      · try rw [if_pos hp] at hc2
        rw [decide_eq_true_iff] at hc2
        obtain ⟨hA, hl⟩ := hc2
        simp only [not_or, Nat.not_lt] at k1
        obtain ⟨_, _, _, lA⟩ := k1
        unfold numL at hn
        simp only [Prod.mk.injEq] at hn
        obtain ⟨_, hn⟩ := hn
        rw [if_neg (by omega), valD_app, valD_acc, Nat.add_mul, Nat.mul_assoc, ← Nat.pow_add, show w.after.length + (20 - w.after.length) = 20 by omega] at hn
        have hx : valD w.after 0 * 10 ^ (20 - w.after.length) < 10 ^ 20 := by
          have h1 := valD_lt w.after dA
          have h2 : 10 ^ w.after.length * 10 ^ (20 - w.after.length) = 10 ^ 20 := by rw [← Nat.pow_add, show w.after.length + (20 - w.after.length) = 20 by omega]
          rw [← h2]
          exact Nat.mul_lt_mul_of_pos_right h1 (Nat.pow_pos (by omega))
        have hz : valD w.after 0 * 10 ^ (20 - w.after.length) = 0 := by
          rw [← hn, Nat.mul_comm _ (10 ^ 20), Nat.mul_add_mod, Nat.mod_eq_of_lt hx] at h0
          exact h0
        have hz2 : valD w.after 0 = 0 := by
          rcases Nat.mul_eq_zero.1 hz with h | h
          · exact h
          · exact absurd h (Nat.ne_of_gt (Nat.pow_pos (by omega)))
        have hf := fixed_val _ dA
        rw [hz2, fixed_zero] at hf
        have hAl : 0 < w.after.length := List.length_pos_iff.2 hA
        apply hl
        rw [← hf]
        obtain ⟨k, hk⟩ : ∃ k, w.after.length = k + 1 := ⟨w.after.length - 1, by omega⟩
        rw [hk, List.replicate_succ']
        simp
end Go.Proofs.YtofpojlnfncpcaaGreatDoor

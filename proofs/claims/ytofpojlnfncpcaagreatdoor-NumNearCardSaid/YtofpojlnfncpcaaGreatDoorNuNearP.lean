/- Plain facts: rounded numbers are near, on the right side, and stay when they are rounded again. No program in this text. -/
import Derived.Test.YtofpojlnfncpcaaGreatDoorNuDivP
namespace Go.Proofs.YtofpojlnfncpcaaGreatDoor
open Go.Lib

def sgnZ (a b : Int) : Int := if a < b then -1 else if b < a then 1 else 0
theorem cmpN_toZ (bx by_ : Bool) (x y : Nat) (hx : bx = true → x ≠ 0) (hy : by_ = true → y ≠ 0) : cmpN bx by_ x y = sgnZ (toZ bx x) (toZ by_ y) := by
  cases bx <;> cases by_
  · show sgnN x y = sgnZ (x : Int) (y : Int)
    unfold sgnN sgnZ
    simp only [Int.ofNat_lt]
  · have := hy rfl
    show (1 : Int) = sgnZ (x : Int) (-(y : Int))
    unfold sgnZ
    rw [if_neg (by omega), if_pos (by omega)]
  · have := hx rfl
    show (-1 : Int) = sgnZ (-(x : Int)) (y : Int)
    unfold sgnZ
    rw [if_pos (by omega)]
  · show sgnN y x = sgnZ (-(x : Int)) (-(y : Int))
    unfold sgnN sgnZ
    by_cases h1 : y < x
    · have k1 : -(x : Int) < -(y : Int) := by omega
      simp only [h1, k1, if_true]
    · have k1 : ¬ -(x : Int) < -(y : Int) := by omega
      simp only [h1, k1, if_false]
      by_cases h2 : x < y
      · have k2 : -(y : Int) < -(x : Int) := by omega
        simp only [h2, k2, if_true]
      · have k2 : ¬ -(y : Int) < -(x : Int) := by omega
        simp only [h2, k2, if_false]
/-- What a rounded number is. -/
theorem round_is {a how : List UInt8} {bx : Bool} {x : Nat} {d : Int} {way : Ct → Bool} {U : Nat} (ha : canonL a = some (bx, x)) (h1 : -30 ≤ d) (h2 : d ≤ 20) (hw : wayL how = some way) (hU : 10 ^ (20 - d).toNat = U) :
    roundR a d how = resR bx (divW way bx x U * U) := by
  unfold roundR
  rw [on1_some ha, if_neg (by omega), hw]
  simp only [hU]
theorem round_none {a how : List UInt8} {d : Int} (ha : canonL a = none) : roundR a d how = ([], 1) := on1_none ha _
theorem res_two (b : Bool) (n : Nat) : resR b n = ([], 40) ∨ ∃ t c, resR b n = (t, 0) ∧ canonL t = some (c, n) ∧ toZ c n = toZ b n := by
  rcases Nat.lt_or_ge n (10 ^ 50) with h | h
  · obtain ⟨t, ht, _⟩ := resR_lt b n h
    obtain ⟨c, h1, h2⟩ := resR_back ht
    exact .inr ⟨t, c, ht, h1, h2⟩
  · exact .inl (resR_ge b n h)
theorem round_again {r how : List UInt8} {c : Bool} {m U : Nat} {d : Int} {way : Ct → Bool} (hr : canonL r = some (c, m * U)) (h1 : -30 ≤ d) (h2 : d ≤ 20) (hw : wayL how = some way) (hU : 10 ^ (20 - d).toNat = U) (hU0 : 0 < U) (hc : Calm way) :
    roundR r d how = (r, 0) := by
  rw [round_is hr h1 h2 hw hU, divW_exact hc _ _ _ hU0]
  exact resR_canon hr rfl
/-- How far a number is from the rounded one. -/
theorem divW_near {way : Ct → Bool} (hc : Calm way) (b : Bool) (x U : Nat) (hU : 0 < U) : (divW way b x U * U ≤ x ∧ x - divW way b x U * U < U) ∨ (x < divW way b x U * U ∧ divW way b x U * U - x < U) := by
  have h1 := Nat.div_add_mod x U
  have h2 := Nat.mod_lt x hU
  unfold divW
  split
  · rename_i hw
    right
    have h3 : x % U ≠ 0 := by
      intro h0
      rw [h0, hc _ (by simp) (by simp only [Nat.mul_zero]; unfold sgnN; rw [if_pos hU])] at hw
      cases hw
    rw [Nat.add_mul, Nat.one_mul, Nat.mul_comm (x / U) U]
    omega
  · left
    rw [Nat.mul_comm (x / U) U]
    omega
def Nearest (way : Ct → Bool) : Prop := ∀ c : Ct, (way c = true → 0 ≤ c.half) ∧ (way c = false → c.half ≤ 0)
theorem even_nearest : Nearest evenW := fun c => by
  unfold evenW
  constructor
  · intro h
    simp at h
    omega
  · intro h
    simp at h
    omega
theorem half_nearest : Nearest halfW := fun c => by
  unfold halfW
  constructor
  · intro h
    simp at h
    omega
  · intro h
    simp at h
    omega
theorem divW_half {way : Ct → Bool} (hn : Nearest way) (b : Bool) (x U : Nat) (hU : 0 < U) : 2 * (x - divW way b x U * U) ≤ U ∧ 2 * (divW way b x U * U - x) ≤ U := by
  have h1 := Nat.div_add_mod x U
  have h2 := Nat.mod_lt x hU
  have h3 := hn ⟨b, decide (x / U % 2 = 1), decide (x % U = 0), sgnN (2 * (x % U)) U⟩
  unfold divW
  split
  · rename_i hw
    have h4 := h3.1 hw
    have h5 : U ≤ 2 * (x % U) := by
      refine Nat.le_of_not_lt fun hlt => ?_
      simp only at h4
      unfold sgnN at h4
      rw [if_pos hlt] at h4
      omega
    rw [Nat.add_mul, Nat.one_mul, Nat.mul_comm (x / U) U]
    omega
  · rename_i hw
    have h4 := h3.2 (by simpa using hw)
    have h5 : 2 * (x % U) ≤ U := by
      refine Nat.le_of_not_lt fun hlt => ?_
      simp only at h4
      unfold sgnN at h4
      rw [if_neg (by omega), if_pos hlt] at h4
      omega
    rw [Nat.mul_comm (x / U) U]
    omega
/-- The difference of a number and the rounded one. -/
theorem near_sub {a r : List UInt8} {bx c : Bool} {x M D : Nat} (ha : canonL a = some (bx, x)) (hr : canonL r = some (c, M)) (hc : toZ c M = toZ bx M) (hD : D = (x - M) + (M - x)) (hlt : D < 10 ^ 50) :
    ∃ s e, subR a r = (s, 0) ∧ canonL s = some (e, D) := by
  unfold subR
  rw [on2_some ha hr]
  obtain ⟨b', hb'⟩ : ∃ b', toZ (plusB bx (!c) x M) (plusN bx (!c) x M) = toZ b' D := by
    rw [toZ_plus, toZ_not, hc, hD]
    rcases Nat.le_total x M with h | h
    · refine ⟨!bx, ?_⟩
      unfold toZ
      cases bx <;> simp <;> omega
    · refine ⟨bx, ?_⟩
      unfold toZ
      cases bx <;> simp <;> omega
  rw [resR_toZ hb']
  obtain ⟨s, hs, _⟩ := resR_lt b' D hlt
  obtain ⟨e, h1, _⟩ := resR_back hs
  exact ⟨s, e, hs, h1⟩
/-- The text of 10 to the power -d. -/
def unitL (d : Int) : List UInt8 := if 0 < d then [48, 46] ++ List.replicate (d - 1).toNat 48 ++ [49] else 49 :: List.replicate (-d).toNat 48
theorem unit_canon (d : Int) (h1 : -29 ≤ d) (h2 : d ≤ 20) : canonL (unitL d) = some (false, 10 ^ (20 - d).toNat) := by
  have key : ∀ k : Fin 50, canonL (unitL ((k.val : Int) - 29)) = some (false, 10 ^ (20 - ((k.val : Int) - 29)).toNat) := by decide
  have := key ⟨(d + 29).toNat, by omega⟩
  have e : (((⟨(d + 29).toNat, by omega⟩ : Fin 50).val : Int) - 29) = d := by simp only; omega
  rwa [e] at this
/-- What the tests of a difference say. -/
theorem near_less {s : List UInt8} {e : Bool} {D U : Nat} {d : Int} (hs : canonL s = some (e, D)) (h1 : -29 ≤ d) (h2 : d ≤ 20) (hU : 10 ^ (20 - d).toNat = U) (hD : D < U) : cmpR (absL s) (unitL d) = (-1, 0) := by
  rw [cmpR_some (absL_canon hs) (unit_canon d h1 h2), hU]
  unfold cmpN sgnN
  rw [if_neg (by simp), if_neg (by decide), if_neg (by decide), if_pos hD]
theorem near_half {s : List UInt8} {e : Bool} {D U : Nat} {d : Int} (hs : canonL s = some (e, D)) (h1 : -29 ≤ d) (h2 : d ≤ 20) (hU : 10 ^ (20 - d).toNat = U) (hD : 2 * D ≤ U) :
    addR (absL s) (absL s) = ([], 40) ∨ ∃ t z, addR (absL s) (absL s) = (t, 0) ∧ cmpR t (unitL d) = (z, 0) ∧ z ≤ 0 := by
  have ha := absL_canon hs
  have e1 : addR (absL s) (absL s) = resR false (D + D) := by unfold addR; rw [on2_some ha ha]; rfl
  rw [e1]
  rcases res_two false (D + D) with h | ⟨t, c, h, hc, hz⟩
  · exact .inl h
  · obtain ⟨_, h3⟩ := toZ_inj hz
    refine .inr ⟨t, _, h, by rw [cmpR_some hc (unit_canon d h1 h2)], ?_⟩
    rw [hU]
    have hcf : c = false := by
      rcases h3 with h3 | h3
      · exact h3
      · have := (text_canon _ _ _ hc).2.2
        cases c with
        | true => exact absurd h3 (this rfl)
        | false => rfl
    rw [hcf]
    unfold cmpN sgnN
    rw [if_neg (by simp), if_neg (by decide), if_neg (by decide)]
    split
    · omega
    · rw [if_neg (by omega)]; omega
/-- Floor and ceiling are on their side. -/
theorem floor_side {a r : List UInt8} {bx c : Bool} {x U : Nat} (ha : canonL a = some (bx, x)) (hU : 0 < U) (hr : canonL r = some (c, divW floorW bx x U * U)) (hc : toZ c (divW floorW bx x U * U) = toZ bx (divW floorW bx x U * U)) : ∃ z, cmpR r a = (z, 0) ∧ z ≤ 0 := by
  refine ⟨_, cmpR_some hr ha, ?_⟩
  have h1 := Nat.div_add_mod x U
  have h2 := Nat.mod_lt x hU
  rw [cmpN_toZ _ _ _ _ (text_canon _ _ _ hr).2.2 (text_canon _ _ _ ha).2.2, hc]
  have hq : divW floorW bx x U * U = if bx = true ∧ x % U ≠ 0 then U * (x / U) + U else U * (x / U) := by
    unfold divW floorW
    rw [Nat.mul_comm]
    cases bx <;> by_cases h : x % U = 0 <;> simp [h, Nat.mul_add]
  have hle : toZ bx (divW floorW bx x U * U) ≤ toZ bx x := by
    rw [hq]
    generalize U * (x / U) = P at *
    unfold toZ
    cases bx with
    | false => simp; omega
    | true =>
      by_cases h : x % U = 0
      · simp [h]; omega
      · simp [h]; omega
  unfold sgnZ
  split
  · omega
  · rw [if_neg (by omega)]; omega
theorem ceil_side {a r : List UInt8} {bx c : Bool} {x U : Nat} (ha : canonL a = some (bx, x)) (hU : 0 < U) (hr : canonL r = some (c, divW ceilW bx x U * U)) (hc : toZ c (divW ceilW bx x U * U) = toZ bx (divW ceilW bx x U * U)) : ∃ z, cmpR r a = (z, 0) ∧ 0 ≤ z := by
  refine ⟨_, cmpR_some hr ha, ?_⟩
  have h1 := Nat.div_add_mod x U
  have h2 := Nat.mod_lt x hU
  rw [cmpN_toZ _ _ _ _ (text_canon _ _ _ hr).2.2 (text_canon _ _ _ ha).2.2, hc]
  have hq : divW ceilW bx x U * U = if bx = false ∧ x % U ≠ 0 then U * (x / U) + U else U * (x / U) := by
    unfold divW ceilW
    rw [Nat.mul_comm]
    cases bx <;> by_cases h : x % U = 0 <;> simp [h, Nat.mul_add]
  have hle : toZ bx x ≤ toZ bx (divW ceilW bx x U * U) := by
    rw [hq]
    generalize U * (x / U) = P at *
    unfold toZ
    cases bx with
    | true => simp; omega
    | false =>
      by_cases h : x % U = 0
      · simp [h]; omega
      · simp [h]; omega
  unfold sgnZ
  rw [if_neg (by omega)]
  split <;> omega
theorem cmp_any2 {a r : List UInt8} {bx c : Bool} {x M : Nat} (ha : canonL a = some (bx, x)) (hr : canonL r = some (c, M)) : ∃ z, cmpR r a = (z, 0) := ⟨_, cmpR_some hr ha⟩
/-- Floor and ceiling are each other's mirror. -/
theorem floor_ceil {bx c : Bool} {x : Nat} (U : Nat) (hz : toZ c x = toZ (!bx) x) (hb : bx = true → x ≠ 0) : divW ceilW c x U = divW floorW bx x U := by
  obtain ⟨_, h⟩ := toZ_inj hz
  unfold divW ceilW floorW
  rcases h with rfl | rfl
  · cases bx <;> simp
  · have : bx = false := by cases bx with
      | true => exact absurd rfl (hb rfl)
      | false => rfl
    subst this
    simp
theorem mirror {a how1 how2 : List UInt8} {bx : Bool} {x U : Nat} {d : Int} (ha : canonL a = some (bx, x)) (h1 : -30 ≤ d) (h2 : d ≤ 20) (hw1 : wayL how1 = some floorW) (hw2 : wayL how2 = some ceilW) (hU : 10 ^ (20 - d).toNat = U) :
    ∃ m, negR a = (m, 0) ∧ ((roundR a d how1 = ([], 40) ∧ roundR m d how2 = ([], 40)) ∨ ∃ l h, roundR a d how1 = (l, 0) ∧ roundR m d how2 = (h, 0) ∧ negR l = (h, 0)) := by
  have e1 : negR a = resR (!bx) x := by unfold negR; rw [on1_some ha]
  obtain ⟨m, hm, _⟩ := resR_lt (!bx) x (canonL_lt ha)
  obtain ⟨c, hc, hz⟩ := resR_back hm
  refine ⟨m, e1.trans hm, ?_⟩
  rw [round_is ha h1 h2 hw1 hU, round_is hc h1 h2 hw2 hU, floor_ceil U hz (text_canon _ _ _ ha).2.2]
  have hM0 : x = 0 → divW floorW bx x U * U = 0 := by
    rintro rfl
    unfold divW floorW
    simp
  generalize divW floorW bx x U * U = M at *
  rcases res_two bx M with h | ⟨l, e, h, he, hze⟩
  · refine .inl ⟨h, resR_ge _ _ ?_⟩
    refine Nat.le_of_not_lt fun hlt => ?_
    obtain ⟨t, ht, _⟩ := resR_lt bx M hlt
    rw [ht] at h
    cases h
  · refine .inr ?_
    obtain ⟨t, ht, _⟩ := resR_lt c M (canonL_lt he)
    refine ⟨l, t, h, ht, ?_⟩
    unfold negR
    rw [on1_some he]
    obtain ⟨c2, hc2, hz2⟩ := resR_back ht
    refine resR_canon hc2 ?_
    rw [toZ_not, hze, hz2]
    obtain ⟨_, h3⟩ := toZ_inj hz
    rcases h3 with rfl | rfl
    · rw [toZ_not]
    · rw [hM0 rfl, toZ_zero, toZ_zero]; rfl
end Go.Proofs.YtofpojlnfncpcaaGreatDoor

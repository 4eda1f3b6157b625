/- The specification of num: the contracts of Cmp, IDiv, Div. -/
import Derived.Test.YtdfgifnccghlmabGreatDoorMRfG
import Derived.Deep.RegionHeld3
namespace Go.Proofs.YtdfgifnccghlmabGreatDoor.R
open Go.RowKit Go.Lib
open Go.Proofs.YtdfgifnccghlmabGreatDoor (divW evenW wayL VarAt Stored lt_of_cell trimW canonL bodyL resR resV readR bytes_eq on1 on2 onD on2_some on2_none onD_none onD_zero addR subR mulR quoR idivR modR negR cmpR cmpN sgnN plusB plusN canonL_lt resR_toZ toZ toZ_plus)

theorem cmpR_some {a b : List UInt8} {bx by_ : Bool} {x y : Nat} (h : canonL a = some (bx, x)) (k : canonL b = some (by_, y)) : cmpR a b = (cmpN bx by_ x y, 0) := by unfold cmpR; rw [h, k]
theorem cmpR_none {a b : List UInt8} (h : canonL a = none ∨ canonL b = none) : cmpR a b = (0, 1) := by
  unfold cmpR
  rcases h with h | h
  · rw [h]
  · cases e : canonL a with
    | none => rw [h]
    | some x => rw [h]
def cmpV (r : Int × Int) : Value := .tuple #[.int .i64 r.1, .int .i64 r.2]
theorem words_div_len (x y : Nat) : (wordsOf (x / y)).length ≤ (wordsOf x).length := words_len _ _ (Nat.lt_of_le_of_lt (Nat.div_le_self x y) (words_lt x))
theorem zeros_words (n k : Nat) : trimW (List.replicate k 0 ++ wordsOf n) = wordsOf (n * 10 ^ k) := by
  rw [trimW_words _ ((Small.zeros k).app (small_wordsOf n)), val_app, val_zeros, val_wordsOf, List.length_replicate, Nat.zero_add, Nat.mul_comm]
set_option maxRecDepth 100000 in
set_option maxHeartbeats 8000000 in
theorem idiv_of (a b : ByteArray) (w : World) :
    Calls Tryz.prog 39 #[.string a, .string b] w fun e w' => e = .returned (resV (idivR a.data.toList b.data.toList)) ∧ Below w.heap.size w w' := by
  have cT := two_any a b w
  go_enter Tryz.func39, Tryz.ntmps39
  go_wp2_with fail
  refine cT.mono ?_
  rintro e w1 ⟨v1, v2, ok, rfl, hv, hb1⟩
  clear cT
  rcases two_cases hv with ⟨rfl, bx, x, p1, c1, by_, y, p2, c2, hcx, hcy, rfl, rfl, hD1, hD2⟩ | ⟨rfl, hcc, ⟨bx, p1, l1, c1, rfl⟩, ⟨by_, p2, l2, c2, rfl⟩⟩
  · have hx6 := words_50 hcx
    have hy6 := words_50 hcy
    clear hv
    have hbw2 : Below w1.heap.size w1 ((w1.alloc (.cells #[.bool bx, .slice p1 (wordsOf x).length c1] 86)).alloc (.cells #[.bool by_, .slice p2 (wordsOf y).length c2] 86)) := ((Below.refl _ w1).alloc (Nat.le_refl _) _).alloc (by simp) _
    have vX : VarAt ((w1.alloc (.cells #[.bool bx, .slice p1 (wordsOf x).length c1] 86)).alloc (.cells #[.bool by_, .slice p2 (wordsOf y).length c2] 86)) w1.heap.size bx p1 (wordsOf x).length c1 := (var_new w1 _ _ _ _).below ((Below.refl _ _).alloc (Nat.le_refl _) _)
    have vY : VarAt ((w1.alloc (.cells #[.bool bx, .slice p1 (wordsOf x).length c1] 86)).alloc (.cells #[.bool by_, .slice p2 (wordsOf y).length c2] 86)) (w1.heap.size + 1) by_ p2 (wordsOf y).length c2 := by
      have := var_new (w1.alloc (.cells #[.bool bx, .slice p1 (wordsOf x).length c1] 86)) by_ p2 (wordsOf y).length c2
      rwa [World.size_alloc] at this
    obtain ⟨W2, hW2⟩ : ∃ W2, (w1.alloc (.cells #[.bool bx, .slice p1 (wordsOf x).length c1] 86)).alloc (.cells #[.bool by_, .slice p2 (wordsOf y).length c2] 86) = W2 := ⟨_, rfl⟩
    rw [hW2] at hbw2 vX vY
    have hM1 := hD1.later hbw2
    have hM2 := hD2.later hbw2
    have hbW2 : Below w.heap.size w W2 := hb1.trans (hbw2.mono hb1.size)
    by_cases hy0 : y = 0
    · subst hy0
      have HC := Lib.hid (show idivR a.data.toList b.data.toList = ([], 41) from onD_zero hcx hcy _)
      obtain ⟨y0, y1, y2, y3, s0⟩ := id vX
      obtain ⟨z0, z1, z2, z3, s1⟩ := id vY
      have hz : (wordsOf 0).length = 0 := rfl
      clear hcx hcy vX vY hM1 hM2 hD1 hD2 hbw2 hW2 y0 y1 y2 y3 z0 z1 z2 z3
      go_wp2_with fail
      go_ret2
      exact ⟨by rw [HC.out]; rfl, (hb1.alloc hb1.size _).alloc (by have := hb1.size; simp; omega) _⟩
    have hly : ¬ (wordsOf y).length = 0 := fun h => hy0 ((wordsOf_nil y).1 (List.eq_nil_of_length_eq_zero h))
    have hlyb : (((wordsOf y).length : Int) == 0) = false := beq_eq_false_iff_ne.2 (by omega)
    obtain ⟨R, hR⟩ : ∃ R, resR (!(bx == by_)) (x / y * 10 ^ 20) = R := ⟨_, rfl⟩
    have HR := Lib.hid (show idivR a.data.toList b.data.toList = R from (Go.Proofs.YtdfgifnccghlmabGreatDoor.onD_some hcx hcy hy0 _).trans hR)
    have cD := div_any _ _ (wordsOf x) y (small_wordsOf x) hy0 (by omega) (by omega) W2 hM1 hM2
    rw [val_wordsOf] at cD
    have hql := words_div_len x y
    have hQz := zeros_words (x / y) 20
    obtain ⟨Q, hQ⟩ : ∃ q, x / y = q := ⟨_, rfl⟩
    rw [hQ] at cD hR hQz hql
    obtain ⟨T, hT⟩ : ∃ t, Q * 10 ^ 20 = t := ⟨_, rfl⟩
    have hTl : (wordsOf T).length ≤ 1000 := by
      rw [← hT]
      refine Nat.le_trans (words_mul_len Q (10 ^ 20)) ?_
      have := words_len (10 ^ 20) 21 (by decide)
      omega
    rw [hT] at hR hQz
    have cE := fun W u (hu : Digs W u (wordsOf Q)) => zeros_any u (wordsOf Q) 20 (by omega) (by omega) W hu
    have cF := fun W u (hu : Digs W u (List.replicate 20 0 ++ wordsOf Q)) => trim_any u (List.replicate 20 0 ++ wordsOf Q) (by rw [List.length_append, List.length_replicate]; omega) W hu
    rw [hQz] at cF
    have cZ := fun W u (hu : Digs W u (wordsOf T)) => result_any (!(bx == by_)) u (wordsOf T) (small_wordsOf _) (by omega) W hu
    rw [val_wordsOf, hR] at cZ
    obtain ⟨LL, hLL⟩ : ∃ l, List.replicate 20 0 ++ wordsOf Q = l := ⟨_, rfl⟩
    rw [hLL] at cE cF
    obtain ⟨y0, y1, y2, y3, s0⟩ := id vX
    obtain ⟨z0, z1, z2, z3, s1⟩ := id vY
    have HX := Lib.hid vX
    have HY := Lib.hid vY
    clear hcx hcy vX vY hM1 hM2 hR hD1 hD2 hbw2 hy0 hly hQ hT hQz hLL
    unfold resV at cZ
    go_wp2_with fail
    try rw [hW2]
    clear hW2
    go_wp2_with fail
    refine cD.mono ?_
    rintro e w3 ⟨u3, r3, rfl, hu3, hr3, hb3⟩
    obtain ⟨q0, q1, _, _, s0⟩ := HX.out.below hb3
    obtain ⟨q2, q3, _, _, s1⟩ := HY.out.below hb3
    have bD : Below w3.heap.size w3 w3.drew := (Below.refl w3.heap.size w3).drew
    have cE2 := cE w3.drew u3 (hu3.later bD)
    have hbW3 := hbW2.trans (hb3.mono hbW2.size)
    obtain ⟨p3, c3, rfl⟩ := hu3.shape
    obtain ⟨p4, c4, rfl⟩ := hr3.shape
    clear cD hu3 hr3 cE y0 y1 y2 y3 z0 z1 z2 z3
    go_wp2_with fail
    go_region_held3 (fun w' => w'.cell? ⟨w1.heap.size, 0, none⟩ = some (.bool bx) ∧ w'.cell? ⟨w1.heap.size + 1, 0, none⟩ = some (.bool by_)) (first | exact ⟨Z0, Z2⟩ | exact ⟨A0, A2⟩ | exact ⟨q0, q2⟩) (first | (go_at_call 69; refine cE2.mono ?_; rintro e wA ⟨qA, rfl, hqA, hbA⟩; have bA : Below w3.heap.size w3 wA := bD.trans (hbA.mono bD.size); have A0 := (bA.cell (p := ⟨w1.heap.size, 0, none⟩) s0).trans q0; have A2 := (bA.cell (p := ⟨w1.heap.size + 1, 0, none⟩) s1).trans q2; have cF2 := cF wA qA hqA; obtain ⟨pA, cA2, rfl⟩ := hqA.shape) | (go_at_call 68; refine cF2.mono ?_; rintro e wB ⟨qB, rfl, hqB, rfl⟩; have cZ2 := cZ wA qB hqB; obtain ⟨pB, cB2, rfl⟩ := hqB.shape) | (go_at_call 67; refine cZ2.mono ?_; rintro e wZ ⟨rfl, hbZ⟩; have bZ : Below w3.heap.size w3 wZ := bA.trans (hbZ.mono bA.size); have Z0 := (bZ.cell (p := ⟨w1.heap.size, 0, none⟩) s0).trans q0; have Z2 := (bZ.cell (p := ⟨w1.heap.size + 1, 0, none⟩) s1).trans q2))
    all_goals
      go_wp2_with fail
      go_ret2
      exact ⟨by rw [HR.out]; rfl, hbW3.trans (bZ.mono hbW3.size)⟩
  · have HC := Lib.hid (show idivR a.data.toList b.data.toList = ([], 1) from onD_none hcc _)
    clear hcc hv
    go_wp2_with fail
    go_ret2
    exact ⟨by rw [HC.out]; rfl, (hb1.alloc hb1.size _).alloc (by have := hb1.size; simp; omega) _⟩
end Go.Proofs.YtdfgifnccghlmabGreatDoor.R

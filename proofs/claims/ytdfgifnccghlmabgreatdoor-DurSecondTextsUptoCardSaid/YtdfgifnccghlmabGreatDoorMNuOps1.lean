/- Numbers: the package's functions: Add, Cmp, Neg. -/
import Derived.Test.YtdfgifnccghlmabGreatDoorMNuA
import Derived.Test.YtdfgifnccghlmabGreatDoorMNuVar
import Derived.Test.YtdfgifnccghlmabGreatDoorMNuText
namespace Go.Proofs.YtdfgifnccghlmabGreatDoor
open Go.RowKit Go.Lib

theorem canon_words {s : List UInt8} {b : Bool} {n : Nat} (h : canonL s = some (b, n)) : (wordsOf n).length ≤ 6 := words_dec (n := 50) (canonL_lt h)
theorem words_add {a b k : Nat} (ha : (wordsOf a).length ≤ k) (hb : (wordsOf b).length ≤ k) : (wordsOf (a + b)).length ≤ k + 1 := words_len _ _ (by
  have h1 := Nat.lt_of_lt_of_le (words_lt a) (Nat.pow_le_pow_right (show 0 < 1000000000 by omega) ha)
  have h2 := Nat.lt_of_lt_of_le (words_lt b) (Nat.pow_le_pow_right (show 0 < 1000000000 by omega) hb)
  rw [Nat.pow_succ]
  omega)
theorem words_mul (a b : Nat) : (wordsOf (a * b)).length ≤ (wordsOf a).length + (wordsOf b).length := words_len _ _ (by
  rw [Nat.pow_add]
  exact Nat.mul_lt_mul_of_lt_of_le (words_lt a) (Nat.le_of_lt (words_lt b)) (Nat.pow_pos (by omega)))
theorem words_plus {bx by_ : Bool} {a b k : Nat} (ha : (wordsOf a).length ≤ k) (hb : (wordsOf b).length ≤ k) : (wordsOf (plusN bx by_ a b)).length ≤ k + 1 := by
  refine Nat.le_trans (words_mono ?_) (words_add ha hb)
  unfold plusN
  split
  · exact Nat.le_refl _
  · split <;> omega
theorem words_divW (way : Ct → Bool) (below : Bool) (a b : Nat) : (wordsOf (divW way below a b)).length ≤ (wordsOf a).length + 1 := by
  have h1 : divW way below a b ≤ a + 1 := by
    have := Nat.div_le_self a b
    unfold divW
    split <;> omega
  refine words_len _ _ ?_
  have := words_lt a
  rw [Nat.pow_succ]
  have hp : 0 < 1000000000 ^ (wordsOf a).length := Nat.pow_pos (by omega)
  omega
/-- text, with its result's two parts. -/
theorem text_two (R : List UInt8 × Int) (below : Bool) (v : Value) (n : Nat) (hn9 : (wordsOf n).length ≤ 10000) (hR : resR below n = R) (w : World) (hg : GrN w) (hN : NumAt w v below n) :
    Calls Tryz.prog 44 #[v] w fun e w' => e = .returned (.tuple #[.string ⟨R.1.toArray⟩, .int .i64 R.2]) ∧ Below w.heap.size w w' := by
  subst hR
  exact text_any below v n hn9 w hg hN
theorem cmpR_none {a b : List UInt8} (h : canonL a = none ∨ canonL b = none) : cmpR a b = (0, 1) := by
  unfold cmpR
  rcases h with h | h
  · rw [h]
  · rw [h]; cases canonL a <;> rfl
set_option maxRecDepth 100000 in
set_option maxHeartbeats 8000000 in
theorem add_of_any (a b : ByteArray) (ha : a.size < 4294967281) (hb : b.size < 4294967281) (w : World) (hg : GrN w) :
    Calls Tryz.prog 53 #[.string a, .string b] w fun e w' => e = .returned (resV (addR a.data.toList b.data.toList)) ∧ Below w.heap.size w w' := by
  have cT := operands_any a b ha hb w hg
  go_enter Tryz.func53, Tryz.ntmps53
  go_wp2_with fail
  refine cT.mono ?_
  rintro e w1 ⟨v1, v2, z, rfl, hv, hb1⟩
  clear cT
  rcases hv with ⟨rfl, bx, x, by_, y, hcx, hcy, ⟨p1, c1, rfl, hN1⟩, ⟨p2, c2, rfl, hN2⟩⟩ | ⟨rfl, hcc, ⟨bx, p1, l1, c1, rfl⟩, ⟨by_, p2, l2, c2, rfl⟩⟩
  · obtain ⟨R, hR⟩ : ∃ R, resR (plusB bx by_ x y) (plusN bx by_ x y) = R := ⟨_, rfl⟩
    have HR := Lib.hid (show addR a.data.toList b.data.toList = R from (on2_some hcx hcy _).trans hR)
    have hx6 := canon_words hcx
    have hy6 := canon_words hcy
    have hbw2 : Below w1.heap.size w1 ((w1.alloc (.cells #[.bool bx, .slice p1 (wordsOf x).length c1] 70)).alloc (.cells #[.bool by_, .slice p2 (wordsOf y).length c2] 70)) := ((Below.refl _ w1).alloc (Nat.le_refl _) _).alloc (by simp) _
    have vX : VarAt ((w1.alloc (.cells #[.bool bx, .slice p1 (wordsOf x).length c1] 70)).alloc (.cells #[.bool by_, .slice p2 (wordsOf y).length c2] 70)) w1.heap.size bx p1 (wordsOf x).length c1 := (VarAt.new w1 _ _ _ _).below ((Below.refl _ _).alloc (Nat.le_refl _) _)
    have vY : VarAt ((w1.alloc (.cells #[.bool bx, .slice p1 (wordsOf x).length c1] 70)).alloc (.cells #[.bool by_, .slice p2 (wordsOf y).length c2] 70)) (w1.heap.size + 1) by_ p2 (wordsOf y).length c2 := by
      have := VarAt.new (w1.alloc (.cells #[.bool bx, .slice p1 (wordsOf x).length c1] 70)) by_ p2 (wordsOf y).length c2
      rwa [World.size_alloc] at this
    obtain ⟨W2, hW2⟩ : ∃ W2, (w1.alloc (.cells #[.bool bx, .slice p1 (wordsOf x).length c1] 70)).alloc (.cells #[.bool by_, .slice p2 (wordsOf y).length c2] 70) = W2 := ⟨_, rfl⟩
    rw [hW2] at hbw2 vX vY
    have hM1 := hN1.later hbw2
    have hM2 := hN2.later hbw2
    have hbW2 : Below w.heap.size w W2 := hb1.trans (hbw2.mono hb1.size)
    clear hN1 hN2 hbw2
    have cP := plus_any (numV bx p1 (wordsOf x).length c1) (numV by_ p2 (wordsOf y).length c2) bx by_ x y (by omega) (by omega) W2 ⟨_, _, rfl, hM1⟩ ⟨_, _, rfl, hM2⟩
    have hw7 := words_plus (bx := bx) (by_ := by_) hx6 hy6
    obtain ⟨i0, i1, _, _, il⟩ := id vX
    obtain ⟨j0, j1, _, _, jl⟩ := id vY
    clear hcx hcy vX vY hM1 hM2
    unfold numV at cP ⊢
    go_wp2_with fail
    try rw [hW2]
    clear hW2
    refine cP.mono ?_
    rintro e w3 ⟨q, rfl, hq, hb3⟩
    have hbw3 := hbW2.trans (hb3.mono hbW2.size)
    have cX := text_two R _ q _ (by omega) hR w3 (hg.later hbw3) hq
    clear hR cP hq hb3
    go_wp2_with fail
    refine cX.mono ?_
    rintro e w4 ⟨rfl, hb4⟩
    go_wp2_with fail
    go_ret2
    exact ⟨by rw [HR.out]; rfl, hbw3.trans (hb4.mono hbw3.size)⟩
  · have HC := Lib.hid (show addR a.data.toList b.data.toList = ([], 1) from on2_none hcc _)
    clear hcc
    unfold numV
    go_wp2_with fail
    go_ret2
    exact ⟨by rw [HC.out]; rfl, (hb1.alloc hb1.size _).alloc (by have := hb1.size; simp; omega) _⟩
set_option maxRecDepth 100000 in
set_option maxHeartbeats 8000000 in
theorem neg_of_any (a : ByteArray) (ha : a.size < 4294967281) (w : World) (hg : GrN w) :
    Calls Tryz.prog 37 #[.string a] w fun e w' => e = .returned (resV (negR a.data.toList)) ∧ Below w.heap.size w w' := by
  have cT := operand_any a ha w hg
  go_enter Tryz.func37, Tryz.ntmps37
  go_wp2_with fail
  refine cT.mono ?_
  rintro e w1 ⟨v1, z, rfl, hv, hb1⟩
  clear cT
  rcases hv.err with ⟨rfl, bx, x, hcx, ⟨p1, c1, rfl, hN1⟩⟩ | ⟨rfl, hcc, rfl⟩
  · obtain ⟨R, hR⟩ : ∃ R, resR (!bx) x = R := ⟨_, rfl⟩
    have HR := Lib.hid (show negR a.data.toList = R from (on1_some hcx _).trans hR)
    have hx6 := canon_words hcx
    have hbw2 : Below w1.heap.size w1 (w1.alloc (.cells #[.bool bx, .slice p1 (wordsOf x).length c1] 70)) := (Below.refl _ w1).alloc (Nat.le_refl _) _
    have hM1 := hN1.later hbw2
    have hbW2 := hb1.trans (hbw2.mono hb1.size)
    have cP := negated_any bx p1 (wordsOf x).length c1 (w1.alloc (.cells #[.bool bx, .slice p1 (wordsOf x).length c1] 70))
    clear hcx hv hN1 hbw2
    unfold numV at cP ⊢
    go_wp2_with fail
    refine cP.mono ?_
    rintro e w3 ⟨rfl, hb3⟩
    have hbw3 := hbW2.trans (hb3.mono hbW2.size)
    have cX := text_two R (!bx) (numV (!bx) p1 (wordsOf x).length c1) x (by omega) hR w3 (hg.later hbw3) ⟨_, _, rfl, hM1.later hb3⟩
    clear hR cP hM1 hb3
    unfold numV at cX
    go_wp2_with fail
    refine cX.mono ?_
    rintro e w4 ⟨rfl, hb4⟩
    go_wp2_with fail
    go_ret2
    exact ⟨by rw [HR.out]; rfl, hbw3.trans (hb4.mono hbw3.size)⟩
  · have HC := Lib.hid (show negR a.data.toList = ([], 1) from on1_none hcc _)
    clear hcc hv
    unfold numV
    go_wp2_with fail
    go_ret2
    exact ⟨by rw [HC.out]; rfl, hb1.alloc hb1.size _⟩
end Go.Proofs.YtdfgifnccghlmabGreatDoor

/- Numbers: the package's functions: Add, Cmp, Neg. Numbers: the package's functions: Parse, IsInt, Mod. -/
import Derived.Test.YtgmnjghbafbopaaGreatDoorMNuA
import Derived.Test.YtgmnjghbafbopaaGreatDoorMNuVar
import Derived.Test.YtgmnjghbafbopaaGreatDoorMNuH
namespace Go.Proofs.YtgmnjghbafbopaaGreatDoor
open Go.RowKit Go.Lib

theorem canon_words {s : List UInt8} {b : Bool} {n : Nat} (h : canonL s = some (b, n)) : (wordsOf n).length ≤ 6 := words_dec (n := 50) (canonL_lt h)
theorem words_add {a b k : Nat} (ha : (wordsOf a).length ≤ k) (hb : (wordsOf b).length ≤ k) : (wordsOf (a + b)).length ≤ k + 1 := words_len _ _ (by
  have h1 := Nat.lt_of_lt_of_le (words_lt a) (Nat.pow_le_pow_right (show 0 < 1000000000 by omega) ha)
  have h2 := Nat.lt_of_lt_of_le (words_lt b) (Nat.pow_le_pow_right (show 0 < 1000000000 by omega) hb)
  rw [Nat.pow_succ]
  omega)
theorem words_mul (a b : Nat) : (wordsOf (a * b)).length ≤ (wordsOf a).length + (wordsOf b).length := words_len _ _ (by
  rw [Nat.pow_add]
  exact Nat.mul_lt_mul_of_lt_of_le (words_lt a) (Nat.le_of_lt (words_lt b)) (Nat.pow_pos (by omega)))
theorem words_plus {bx by_ : Bool} {a b k : Nat} (ha : (wordsOf a).length ≤ k) (hb : (wordsOf b).length ≤ k) : (wordsOf (plusN bx by_ a b)).length ≤ k + 1 := by
  refine Nat.le_trans (words_mono ?_) (words_add ha hb)
  unfold plusN
  split
  · exact Nat.le_refl _
  · split <;> omega
theorem words_divW (way : Ct → Bool) (below : Bool) (a b : Nat) : (wordsOf (divW way below a b)).length ≤ (wordsOf a).length + 1 := by
  have h1 : divW way below a b ≤ a + 1 := by
    have := Nat.div_le_self a b
    unfold divW
    split <;> omega
  refine words_len _ _ ?_
  have := words_lt a
  rw [Nat.pow_succ]
  have hp : 0 < 1000000000 ^ (wordsOf a).length := Nat.pow_pos (by omega)
  omega
/-- text, with its result's two parts. -/
theorem text_two (R : List UInt8 × Int) (below : Bool) (v : Value) (n : Nat) (hn9 : (wordsOf n).length ≤ 10000) (hR : resR below n = R) (w : World) (hg : GrN w) (hN : NumAt w v below n) :
    Calls Tryz.prog 77 #[v] w fun e w' => e = .returned (.tuple #[.string ⟨R.1.toArray⟩, .int .i64 R.2]) ∧ Below w.heap.size w w' := by
  subst hR
  exact text_any below v n hn9 w hg hN
theorem cmpR_none {a b : List UInt8} (h : canonL a = none ∨ canonL b = none) : cmpR a b = (0, 1) := by
  unfold cmpR
  rcases h with h | h
  · rw [h]
  · rw [h]; cases canonL a <;> rfl
set_option maxRecDepth 100000 in
set_option maxHeartbeats 8000000 in
theorem add_of_any (a b : ByteArray) (ha : a.size < 4294967281) (hb : b.size < 4294967281) (w : World) (hg : GrN w) :
    Calls Tryz.prog 35 #[.string a, .string b] w fun e w' => e = .returned (resV (addR a.data.toList b.data.toList)) ∧ Below w.heap.size w w' := by
  have cT := operands_any a b ha hb w hg
  go_enter Tryz.func35, Tryz.ntmps35
  go_wp2_with fail
  refine cT.mono ?_
  rintro e w1 ⟨v1, v2, z, rfl, hv, hb1⟩
  clear cT
  rcases hv with ⟨rfl, bx, x, by_, y, hcx, hcy, ⟨p1, c1, rfl, hN1⟩, ⟨p2, c2, rfl, hN2⟩⟩ | ⟨rfl, hcc, ⟨bx, p1, l1, c1, rfl⟩, ⟨by_, p2, l2, c2, rfl⟩⟩
  · obtain ⟨R, hR⟩ : ∃ R, resR (plusB bx by_ x y) (plusN bx by_ x y) = R := ⟨_, rfl⟩
    have HR := Lib.hid (show addR a.data.toList b.data.toList = R from (on2_some hcx hcy _).trans hR)
    have hx6 := canon_words hcx
    have hy6 := canon_words hcy
    have hbw2 : Below w1.heap.size w1 ((w1.alloc (.cells #[.bool bx, .slice p1 (wordsOf x).length c1] 88)).alloc (.cells #[.bool by_, .slice p2 (wordsOf y).length c2] 88)) := ((Below.refl _ w1).alloc (Nat.le_refl _) _).alloc (by simp) _
    have vX : VarAt ((w1.alloc (.cells #[.bool bx, .slice p1 (wordsOf x).length c1] 88)).alloc (.cells #[.bool by_, .slice p2 (wordsOf y).length c2] 88)) w1.heap.size bx p1 (wordsOf x).length c1 := (VarAt.new w1 _ _ _ _).below ((Below.refl _ _).alloc (Nat.le_refl _) _)
    have vY : VarAt ((w1.alloc (.cells #[.bool bx, .slice p1 (wordsOf x).length c1] 88)).alloc (.cells #[.bool by_, .slice p2 (wordsOf y).length c2] 88)) (w1.heap.size + 1) by_ p2 (wordsOf y).length c2 := by
      have := VarAt.new (w1.alloc (.cells #[.bool bx, .slice p1 (wordsOf x).length c1] 88)) by_ p2 (wordsOf y).length c2
      rwa [World.size_alloc] at this
    obtain ⟨W2, hW2⟩ : ∃ W2, (w1.alloc (.cells #[.bool bx, .slice p1 (wordsOf x).length c1] 88)).alloc (.cells #[.bool by_, .slice p2 (wordsOf y).length c2] 88) = W2 := ⟨_, rfl⟩
    rw [hW2] at hbw2 vX vY
    have hM1 := hN1.later hbw2
    have hM2 := hN2.later hbw2
    have hbW2 : Below w.heap.size w W2 := hb1.trans (hbw2.mono hb1.size)
    clear hN1 hN2 hbw2
    have cP := plus_any (numV bx p1 (wordsOf x).length c1) (numV by_ p2 (wordsOf y).length c2) bx by_ x y (by omega) (by omega) W2 ⟨_, _, rfl, hM1⟩ ⟨_, _, rfl, hM2⟩
    have hw7 := words_plus (bx := bx) (by_ := by_) hx6 hy6
    obtain ⟨i0, i1, _, _, il⟩ := id vX
    obtain ⟨j0, j1, _, _, jl⟩ := id vY
    clear hcx hcy vX vY hM1 hM2
    unfold numV at cP ⊢
    go_wp2_with fail
    try rw [hW2]
    clear hW2
    refine cP.mono ?_
    rintro e w3 ⟨q, rfl, hq, hb3⟩
    have hbw3 := hbW2.trans (hb3.mono hbW2.size)
    have cX := text_two R _ q _ (by omega) hR w3 (hg.later hbw3) hq
    clear hR cP hq hb3
    go_wp2_with fail
    refine cX.mono ?_
    rintro e w4 ⟨rfl, hb4⟩
    go_wp2_with fail
    go_ret2
    exact ⟨by rw [HR.out]; rfl, hbw3.trans (hb4.mono hbw3.size)⟩
  · have HC := Lib.hid (show addR a.data.toList b.data.toList = ([], 1) from on2_none hcc _)
    clear hcc
    unfold numV
    go_wp2_with fail
    go_ret2
    exact ⟨by rw [HC.out]; rfl, (hb1.alloc hb1.size _).alloc (by have := hb1.size; simp; omega) _⟩
set_option maxRecDepth 100000 in
set_option maxHeartbeats 8000000 in
theorem cmp_of_any (a b : ByteArray) (ha : a.size < 4294967281) (hb : b.size < 4294967281) (w : World) (hg : GrN w) :
    Calls Tryz.prog 31 #[.string a, .string b] w fun e w' => e = .returned (.tuple #[.int .i64 (cmpR a.data.toList b.data.toList).1, .int .i64 (cmpR a.data.toList b.data.toList).2]) ∧ Below w.heap.size w w' := by
  have cT := operands_any a b ha hb w hg
  go_enter Tryz.func31, Tryz.ntmps31
  go_wp2_with fail
  refine cT.mono ?_
  rintro e w1 ⟨v1, v2, z, rfl, hv, hb1⟩
  clear cT
  rcases hv with ⟨rfl, bx, x, by_, y, hcx, hcy, ⟨p1, c1, rfl, hN1⟩, ⟨p2, c2, rfl, hN2⟩⟩ | ⟨rfl, hcc, ⟨bx, p1, l1, c1, rfl⟩, ⟨by_, p2, l2, c2, rfl⟩⟩
  · have HR := Lib.hid (show cmpR a.data.toList b.data.toList = (cmpN bx by_ x y, 0) from cmpR_some hcx hcy)
    have hx6 := canon_words hcx
    have hy6 := canon_words hcy
    have hbw2 : Below w1.heap.size w1 ((w1.alloc (.cells #[.bool bx, .slice p1 (wordsOf x).length c1] 88)).alloc (.cells #[.bool by_, .slice p2 (wordsOf y).length c2] 88)) := ((Below.refl _ w1).alloc (Nat.le_refl _) _).alloc (by simp) _
    have vX : VarAt ((w1.alloc (.cells #[.bool bx, .slice p1 (wordsOf x).length c1] 88)).alloc (.cells #[.bool by_, .slice p2 (wordsOf y).length c2] 88)) w1.heap.size bx p1 (wordsOf x).length c1 := (VarAt.new w1 _ _ _ _).below ((Below.refl _ _).alloc (Nat.le_refl _) _)
    have vY : VarAt ((w1.alloc (.cells #[.bool bx, .slice p1 (wordsOf x).length c1] 88)).alloc (.cells #[.bool by_, .slice p2 (wordsOf y).length c2] 88)) (w1.heap.size + 1) by_ p2 (wordsOf y).length c2 := by
      have := VarAt.new (w1.alloc (.cells #[.bool bx, .slice p1 (wordsOf x).length c1] 88)) by_ p2 (wordsOf y).length c2
      rwa [World.size_alloc] at this
    obtain ⟨W2, hW2⟩ : ∃ W2, (w1.alloc (.cells #[.bool bx, .slice p1 (wordsOf x).length c1] 88)).alloc (.cells #[.bool by_, .slice p2 (wordsOf y).length c2] 88) = W2 := ⟨_, rfl⟩
    rw [hW2] at hbw2 vX vY
    have hM1 := hN1.later hbw2
    have hM2 := hN2.later hbw2
    have hbW2 : Below w.heap.size w W2 := hb1.trans (hbw2.mono hb1.size)
    clear hN1 hN2 hbw2
    have cP := numCompare_any bx by_ p1 p2 c1 c2 x y (by omega) (by omega) W2 hM1 hM2
    obtain ⟨i0, i1, _, _, il⟩ := id vX
    obtain ⟨j0, j1, _, _, jl⟩ := id vY
    clear hcx hcy vX vY hM1 hM2
    unfold numV at cP ⊢
    go_wp2_with fail
    try rw [hW2]
    clear hW2
    refine cP.mono ?_
    rintro e w3 ⟨rfl, hb3⟩
    have hbw3 := hbW2.trans (hb3.mono hbW2.size)
    go_wp2_with fail
    go_ret2
    exact ⟨by rw [HR.out]; rfl, hbw3⟩
  · have HC := Lib.hid (show cmpR a.data.toList b.data.toList = (0, 1) from cmpR_none hcc)
    clear hcc
    unfold numV
    go_wp2_with fail
    go_ret2
    exact ⟨by rw [HC.out]; rfl, (hb1.alloc hb1.size _).alloc (by have := hb1.size; simp; omega) _⟩
set_option maxRecDepth 100000 in
set_option maxHeartbeats 8000000 in
theorem neg_of_any (a : ByteArray) (ha : a.size < 4294967281) (w : World) (hg : GrN w) :
    Calls Tryz.prog 144 #[.string a] w fun e w' => e = .returned (resV (negR a.data.toList)) ∧ Below w.heap.size w w' := by
  have cT := operand_any a ha w hg
  go_enter Tryz.func144, Tryz.ntmps144
  go_wp2_with fail
  refine cT.mono ?_
  rintro e w1 ⟨v1, z, rfl, hv, hb1⟩
  clear cT
  rcases hv.err with ⟨rfl, bx, x, hcx, ⟨p1, c1, rfl, hN1⟩⟩ | ⟨rfl, hcc, rfl⟩
  · obtain ⟨R, hR⟩ : ∃ R, resR (!bx) x = R := ⟨_, rfl⟩
    have HR := Lib.hid (show negR a.data.toList = R from (on1_some hcx _).trans hR)
    have hx6 := canon_words hcx
    have hbw2 : Below w1.heap.size w1 (w1.alloc (.cells #[.bool bx, .slice p1 (wordsOf x).length c1] 88)) := (Below.refl _ w1).alloc (Nat.le_refl _) _
    have hM1 := hN1.later hbw2
    have hbW2 := hb1.trans (hbw2.mono hb1.size)
    have cP := negated_any bx p1 (wordsOf x).length c1 (w1.alloc (.cells #[.bool bx, .slice p1 (wordsOf x).length c1] 88))
    clear hcx hv hN1 hbw2
    unfold numV at cP ⊢
    go_wp2_with fail
    refine cP.mono ?_
    rintro e w3 ⟨rfl, hb3⟩
    have hbw3 := hbW2.trans (hb3.mono hbW2.size)
    have cX := text_two R (!bx) (numV (!bx) p1 (wordsOf x).length c1) x (by omega) hR w3 (hg.later hbw3) ⟨_, _, rfl, hM1.later hb3⟩
    clear hR cP hM1 hb3
    unfold numV at cX
    go_wp2_with fail
    refine cX.mono ?_
    rintro e w4 ⟨rfl, hb4⟩
    go_wp2_with fail
    go_ret2
    exact ⟨by rw [HR.out]; rfl, hbw3.trans (hb4.mono hbw3.size)⟩
  · have HC := Lib.hid (show negR a.data.toList = ([], 1) from on1_none hcc _)
    clear hcc hv
    unfold numV
    go_wp2_with fail
    go_ret2
    exact ⟨by rw [HC.out]; rfl, hb1.alloc hb1.size _⟩
end Go.Proofs.YtgmnjghbafbopaaGreatDoor
namespace Go.Proofs.YtgmnjghbafbopaaGreatDoor
open Go.RowKit Go.Lib

theorem words_valD {l : List UInt8} (hd : Dgs l) {k : Nat} (hl : l.length ≤ k) : (wordsOf (valD l 0)).length ≤ k / 9 + 1 := words_dec (Nat.lt_of_lt_of_le (valD_lt l hd) (Nat.pow_le_pow_right (by omega) hl))
theorem numL_words (x : Wr) (hd : Dgs (x.before ++ x.after)) (hl : x.before.length + x.after.length ≤ 400) : (wordsOf (numL x).2).length ≤ 100 := by
  have h1 := words_valD hd (k := 400) (by rw [List.length_append]; exact hl)
  unfold numL
  simp only
  split
  · have := words_divW evenW (decide (x.sign = [45])) (valD (x.before ++ x.after) 0) (10 ^ (x.after.length - 20))
    omega
  · have h2 := words_mul (valD (x.before ++ x.after) 0) (10 ^ (20 - x.after.length))
    have h3 := words_pow_len (20 - x.after.length)
    omega
theorem split_lens {s : List UInt8} {x : Wr} (h : splitL s = some x) : x.before.length + x.after.length ≤ s.length := by
  obtain ⟨h1, h2, _⟩ := split_back s x h
  have := congrArg List.length h1
  rw [List.length_append, List.length_append] at this
  cases hp : x.point with
  | true => rw [hp] at this; simp at this; omega
  | false => rw [h2 hp]; rw [hp] at this; simp at this; simp; omega
set_option maxRecDepth 100000 in
set_option maxHeartbeats 8000000 in
theorem parse_of_any (s : ByteArray) (hs : s.size < 4294967281) (w : World) (hg : GrN w) :
    Calls Tryz.prog 33 #[.string s] w fun e w' => e = .returned (resV (readR s.data.toList)) ∧ Below w.heap.size w w' := by
  obtain ⟨m, hm⟩ := hg.2
  have cS := split_any s m hs w hm
  have hlen0 : s.data.toList.length = s.size := by rw [Array.length_toList]; rfl
  by_cases h2 : 200 < s.size
  · have h2z : (200 : Int) < (s.size : Int) := by omega
    have HR := Lib.hid (show readR s.data.toList = ([], 2) from by unfold readR; rw [if_pos (by omega)])
    clear cS hlen0
    go_enter Tryz.func33, Tryz.ntmps33
    go_wp2_with fail
    go_ret2
    exact ⟨by rw [HR.out]; rfl, Below.refl _ _⟩
  have h2z : ¬ (200 : Int) < (s.size : Int) := by omega
  cases hsp : splitL s.data.toList with
  | none =>
    rw [show splitV s.data.toList = #[.agg #[.string ⟨#[]⟩, .string ⟨#[]⟩, .string ⟨#[]⟩, .bool false], .bool false] by unfold splitV; rw [hsp]; rfl] at cS
    have HR := Lib.hid (show readR s.data.toList = ([], 5) from by unfold readR; rw [if_neg (by omega), hsp])
    clear hsp hlen0
    go_enter Tryz.func33, Tryz.ntmps33
    go_wp2_with fail
    refine cS.mono ?_
    rintro e w1 ⟨rfl, hb1⟩
    go_wp2_with fail
    go_ret2
    exact ⟨by rw [HR.out]; rfl, hb1.alloc hb1.size _⟩
  | some x =>
    obtain ⟨sg, hsg⟩ : ∃ sg : ByteArray, (⟨x.sign.toArray⟩ : ByteArray) = sg := ⟨_, rfl⟩
    obtain ⟨bf, hbf⟩ : ∃ bf : ByteArray, (⟨x.before.toArray⟩ : ByteArray) = bf := ⟨_, rfl⟩
    obtain ⟨af, haf⟩ : ∃ af : ByteArray, (⟨x.after.toArray⟩ : ByteArray) = af := ⟨_, rfl⟩
    obtain ⟨pt, hpt⟩ : ∃ pt, x.point = pt := ⟨_, rfl⟩
    have hx : x = ⟨sg.data.toList, bf.data.toList, af.data.toList, pt⟩ := by rw [← hsg, ← hbf, ← haf, ← hpt]
    rw [show splitV s.data.toList = #[.agg #[.string sg, .string bf, .string af, .bool pt], .bool true] by unfold splitV; rw [hsp, ← hsg, ← hbf, ← haf, ← hpt]; rfl] at cS
    have hback := split_back _ _ hsp
    have hlens := split_lens hsp
    have hlen : s.data.toList.length = s.size := by rw [Array.length_toList]; rfl
    have hbs0 : bf.size = x.before.length := by rw [← hbf, ba_len]
    have has0 : af.size = x.after.length := by rw [← haf, ba_len]
    have hd : Dgs (x.before ++ x.after) := Dgs.app hback.2.2.1 hback.2.2.2.1
    have hw9 := numL_words x hd (by omega)
    have cN := fun W => number_any sg bf af pt (by rw [← hbf, ← haf]; exact hd) (by omega) (by omega) W
    rw [← hx] at cN
    obtain ⟨R, hR⟩ : ∃ R, resR (numL x).1 (numL x).2 = R := ⟨_, rfl⟩
    have HR := Lib.hid (show readR s.data.toList = R from by unfold readR; rw [if_neg (by omega), hsp]; exact hR)
    clear hsp hlen0 hx hsg hbf haf hpt hback hlens hlen hbs0 has0 hd
    go_enter Tryz.func33, Tryz.ntmps33
    go_wp2_with fail
    refine cS.mono ?_
    rintro e w1 ⟨rfl, hb1⟩
    have hbw2 : Below w.heap.size w (w1.alloc (.cells #[.string sg, .string bf, .string af, .bool pt] 94)) := hb1.alloc hb1.size _
    go_wp2_with fail
    refine (cN _).mono ?_
    rintro e w3 ⟨q, rfl, hq, hb3⟩
    have hbw3 := hbw2.trans (hb3.mono hbw2.size)
    have cX := text_two R _ q _ (by omega) hR w3 (hg.later hbw3) hq
    clear hR cN hq hb3 cS
    go_wp2_with fail
    refine cX.mono ?_
    rintro e w4 ⟨rfl, hb4⟩
    go_wp2_with fail
    go_ret2
    exact ⟨by rw [HR.out]; rfl, hbw3.trans (hb4.mono hbw3.size)⟩
set_option maxRecDepth 100000 in
set_option maxHeartbeats 8000000 in
theorem mod_of_any (a b : ByteArray) (ha : a.size < 4294967281) (hb : b.size < 4294967281) (w : World) (hg : GrN w) :
    Calls Tryz.prog 194 #[.string a, .string b] w fun e w' => e = .returned (resV (modR a.data.toList b.data.toList)) ∧ Below w.heap.size w w' := by
  have cT := divisible_any a b ha hb w hg
  go_enter Tryz.func194, Tryz.ntmps194
  go_wp2_with fail
  refine cT.mono ?_
  rintro e w1 ⟨v1, v2, z, rfl, hv, hb1⟩
  clear cT
  rcases hv with ⟨rfl, bx, x, by_, y, hcx, hcy, hy0, ⟨p1, c1, rfl, hN1⟩, ⟨p2, c2, rfl, hN2⟩⟩ | ⟨⟨bx, p1, l1, c1, rfl⟩, ⟨by_, p2, l2, c2, rfl⟩, ⟨rfl, hcc⟩ | ⟨rfl, bx', x', by_', hcx, hcy⟩⟩
  · obtain ⟨R, hR⟩ : ∃ R, resR bx (x % y) = R := ⟨_, rfl⟩
    have HR := Lib.hid (show modR a.data.toList b.data.toList = R from (onD_some hcx hcy hy0 _).trans hR)
    have hx6 := canon_words hcx
    have hy6 := canon_words hcy
    have hbw2 : Below w1.heap.size w1 ((w1.alloc (.cells #[.bool bx, .slice p1 (wordsOf x).length c1] 88)).alloc (.cells #[.bool by_, .slice p2 (wordsOf y).length c2] 88)) := ((Below.refl _ w1).alloc (Nat.le_refl _) _).alloc (by simp) _
    have vX : VarAt ((w1.alloc (.cells #[.bool bx, .slice p1 (wordsOf x).length c1] 88)).alloc (.cells #[.bool by_, .slice p2 (wordsOf y).length c2] 88)) w1.heap.size bx p1 (wordsOf x).length c1 := (VarAt.new w1 _ _ _ _).below ((Below.refl _ _).alloc (Nat.le_refl _) _)
    have vY : VarAt ((w1.alloc (.cells #[.bool bx, .slice p1 (wordsOf x).length c1] 88)).alloc (.cells #[.bool by_, .slice p2 (wordsOf y).length c2] 88)) (w1.heap.size + 1) by_ p2 (wordsOf y).length c2 := by
      have := VarAt.new (w1.alloc (.cells #[.bool bx, .slice p1 (wordsOf x).length c1] 88)) by_ p2 (wordsOf y).length c2
      rwa [World.size_alloc] at this
    obtain ⟨W2, hW2⟩ : ∃ W2, (w1.alloc (.cells #[.bool bx, .slice p1 (wordsOf x).length c1] 88)).alloc (.cells #[.bool by_, .slice p2 (wordsOf y).length c2] 88) = W2 := ⟨_, rfl⟩
    rw [hW2] at hbw2 vX vY
    have hM1 := hN1.later hbw2
    have hM2 := hN2.later hbw2
    have hbW2 : Below w.heap.size w W2 := hb1.trans (hbw2.mono hb1.size)
    clear hN1 hN2 hbw2
    have cP := divide_any (.slice p1 (wordsOf x).length c1) (.slice p2 (wordsOf y).length c2) x y hy0 (by omega) (by omega) W2 hM1 hM2
    have hw6 := words_mono (Nat.mod_le x y)
    obtain ⟨i0, i1, i2, i3, il⟩ := id vX
    obtain ⟨j0, j1, j2, j3, jl⟩ := id vY
    clear hcx hcy hM1 hM2 hy0 vY
    have HX := Lib.hid vX
    clear vX
    unfold numV
    go_wp2_with fail
    try rw [hW2]
    clear hW2
    refine cP.mono ?_
    rintro e w3 ⟨q, r, rfl, hq, hr, hb3⟩
    obtain ⟨rp, rc, rfl⟩ := hr.shape
    have hbw3 := hbW2.trans (hb3.mono hbW2.size)
    have vX := HX.out.below hb3
    have cX := text_two R bx (numV bx rp (wordsOf (x % y)).length rc) (x % y) (by omega) hR w3 (hg.later hbw3) ⟨_, _, rfl, hr⟩
    obtain ⟨i0, i1, i2, i3, il⟩ := id vX
    clear hR cP hq hb3 hr j0 j1 j2 j3 jl
    unfold numV at cX
    go_wp2_with fail
    refine cX.mono ?_
    rintro e w4 ⟨rfl, hb4⟩
    go_wp2_with fail
    go_ret2
    exact ⟨by rw [HR.out]; rfl, hbw3.trans (hb4.mono hbw3.size)⟩
  · have HC := Lib.hid (show modR a.data.toList b.data.toList = ([], 1) from onD_none hcc _)
    clear hcc
    unfold numV
    go_wp2_with fail
    go_ret2
    exact ⟨by rw [HC.out]; rfl, (hb1.alloc hb1.size _).alloc (by have := hb1.size; simp; omega) _⟩
  · have HC := Lib.hid (show modR a.data.toList b.data.toList = ([], 41) from onD_zero hcx hcy _)
    clear hcx hcy
    unfold numV
    go_wp2_with fail
    go_ret2
    exact ⟨by rw [HC.out]; rfl, (hb1.alloc hb1.size _).alloc (by have := hb1.size; simp; omega) _⟩
end Go.Proofs.YtgmnjghbafbopaaGreatDoor

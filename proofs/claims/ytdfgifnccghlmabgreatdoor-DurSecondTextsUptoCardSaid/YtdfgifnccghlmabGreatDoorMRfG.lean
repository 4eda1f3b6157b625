/- The specification of num: what a call gives, in any later world. The specification of num: the contracts of Add, Sub, Neg, Mul, IDiv, Mod, Cmp. -/
import Derived.Test.YtdfgifnccghlmabGreatDoorMNuUse
import Derived.Test.YtdfgifnccghlmabGreatDoorMRfF
import Derived.Test.YtdfgifnccghlmabGreatDoorMRfD
import Derived.Test.YtdfgifnccghlmabGreatDoorMRfSum
namespace Go.Proofs.YtdfgifnccghlmabGreatDoor.R
open Go.RowKit Go.Lib

theorem onR {w : World} {f : Nat} {args : Array Value} {v : Value} (h : ∀ W, Calls Tryz.prog f args W fun e w' => e = .returned v ∧ Below W.heap.size W w') : Go.Proofs.YtdfgifnccghlmabGreatDoor.On w f args v :=
  fun W hW => (h W).mono fun _ _ k => ⟨k.1, hW.trans (k.2.mono hW.size)⟩
end Go.Proofs.YtdfgifnccghlmabGreatDoor.R
namespace Go.Proofs.YtdfgifnccghlmabGreatDoor.R
open Go.RowKit Go.Lib
open Go.Proofs.YtdfgifnccghlmabGreatDoor (divW evenW wayL VarAt Stored lt_of_cell trimW canonL bodyL resR resV readR bytes_eq on1 on2 onD on2_some on2_none onD_none onD_zero addR subR mulR quoR idivR modR negR cmpR cmpN sgnN plusB plusN canonL_lt resR_toZ toZ toZ_plus)

theorem two_cases {w' : World} {a b : List UInt8} {v1 v2 : Value} {ok : Bool} (h : TwoG w' a b v1 v2 ok) :
    (ok = true ∧ ∃ bx x p1 c1 by_ y p2 c2, canonL a = some (bx, x) ∧ canonL b = some (by_, y) ∧ v1 = .agg #[.bool bx, .slice p1 (wordsOf x).length c1] ∧ v2 = .agg #[.bool by_, .slice p2 (wordsOf y).length c2] ∧ Digs w' (.slice p1 (wordsOf x).length c1) (wordsOf x) ∧ Digs w' (.slice p2 (wordsOf y).length c2) (wordsOf y)) ∨
    (ok = false ∧ (canonL a = none ∨ canonL b = none) ∧ (∃ bb p l c, v1 = .agg #[.bool bb, .slice p l c]) ∧ ∃ bb p l c, v2 = .agg #[.bool bb, .slice p l c]) := by
  obtain ⟨o1, o2, h1, h2, rfl⟩ := h
  have s1 := h1.shape
  have s2 := h2.shape
  rcases h1 with ⟨rfl, b1, n1, p1, c1, e1, g1, d1⟩ | ⟨rfl, e1, g1⟩
  · rcases h2 with ⟨rfl, b2, n2, p2, c2, e2, g2, d2⟩ | ⟨rfl, e2, g2⟩
    · exact .inl ⟨rfl, b1, n1, p1, c1, b2, n2, p2, c2, e1, e2, g1, g2, d1, d2⟩
    · exact .inr ⟨rfl, .inr e2, s1, s2⟩
  · exact .inr ⟨rfl, .inl e1, s1, s2⟩
theorem words_mul_len (x y : Nat) : (wordsOf (x * y)).length ≤ (wordsOf x).length + (wordsOf y).length := by
  refine words_len _ _ ?_
  rw [Nat.pow_add]
  exact Nat.mul_lt_mul'' (words_lt x) (words_lt y)
theorem words_divW_len (way : Go.Proofs.YtdfgifnccghlmabGreatDoor.Ct → Bool) (b : Bool) (n u k : Nat) (h : (wordsOf n).length ≤ k) : (wordsOf (divW way b n u)).length ≤ k + 1 := by
  refine words_len _ (k + 1) ?_
  have h1 := Nat.lt_of_lt_of_le (words_lt n) (Nat.pow_le_pow_right (show 0 < 10 by omega) h)
  have h2 : divW way b n u ≤ n + 1 := by
    unfold divW
    have := Nat.div_le_self n u
    split <;> omega
  rw [Nat.pow_succ]
  have h4 : 0 < (10 : Nat) ^ k := Nat.pow_pos (by omega)
  generalize (10 : Nat) ^ k = P at *
  omega
theorem words_50 {s : List UInt8} {b : Bool} {n : Nat} (h : canonL s = some (b, n)) : (wordsOf n).length ≤ 50 := (len_50 n).2 (canonL_lt h)
set_option maxRecDepth 100000 in
set_option maxHeartbeats 8000000 in
theorem add_of (a b : ByteArray) (w : World) :
    Calls Tryz.prog 59 #[.string a, .string b] w fun e w' => e = .returned (resV (addR a.data.toList b.data.toList)) ∧ Below w.heap.size w w' := by
  have cT := two_any a b w
  go_enter Tryz.func59, Tryz.ntmps59
  go_wp2_with fail
  refine cT.mono ?_
  rintro e w1 ⟨v1, v2, ok, rfl, hv, hb1⟩
  clear cT
  rcases two_cases hv with ⟨rfl, bx, x, p1, c1, by_, y, p2, c2, hcx, hcy, rfl, rfl, hD1, hD2⟩ | ⟨rfl, hcc, ⟨bx, p1, l1, c1, rfl⟩, ⟨by_, p2, l2, c2, rfl⟩⟩
  · have hx6 := words_50 hcx
    have hy6 := words_50 hcy
    clear hv
    have hbw2 : Below w1.heap.size w1 ((w1.alloc (.cells #[.bool bx, .slice p1 (wordsOf x).length c1] 86)).alloc (.cells #[.bool by_, .slice p2 (wordsOf y).length c2] 86)) := ((Below.refl _ w1).alloc (Nat.le_refl _) _).alloc (by simp) _
    have vX : VarAt ((w1.alloc (.cells #[.bool bx, .slice p1 (wordsOf x).length c1] 86)).alloc (.cells #[.bool by_, .slice p2 (wordsOf y).length c2] 86)) w1.heap.size bx p1 (wordsOf x).length c1 := (var_new w1 _ _ _ _).below ((Below.refl _ _).alloc (Nat.le_refl _) _)
    have vY : VarAt ((w1.alloc (.cells #[.bool bx, .slice p1 (wordsOf x).length c1] 86)).alloc (.cells #[.bool by_, .slice p2 (wordsOf y).length c2] 86)) (w1.heap.size + 1) by_ p2 (wordsOf y).length c2 := by
      have := var_new (w1.alloc (.cells #[.bool bx, .slice p1 (wordsOf x).length c1] 86)) by_ p2 (wordsOf y).length c2
      rwa [World.size_alloc] at this
    obtain ⟨W2, hW2⟩ : ∃ W2, (w1.alloc (.cells #[.bool bx, .slice p1 (wordsOf x).length c1] 86)).alloc (.cells #[.bool by_, .slice p2 (wordsOf y).length c2] 86) = W2 := ⟨_, rfl⟩
    rw [hW2] at hbw2 vX vY
    have hM1 := hD1.later hbw2
    have hM2 := hD2.later hbw2
    have hbW2 : Below w.heap.size w W2 := hb1.trans (hbw2.mono hb1.size)
    obtain ⟨R, hR⟩ : ∃ R, resR (plusB bx by_ x y) (plusN bx by_ x y) = R := ⟨_, rfl⟩
    have HR := Lib.hid (show addR a.data.toList b.data.toList = R from (on2_some hcx hcy _).trans hR)
    have cS := sum_any bx by_ x y _ _ (by omega) (by omega) W2 hM1 hM2
    rw [hR] at cS
    obtain ⟨y0, y1, y2, y3, s0⟩ := id vX
    obtain ⟨z0, z1, z2, z3, s1⟩ := id vY
    clear hcx hcy vX vY hM1 hM2 hR hD1 hD2 hbw2
    unfold resV at cS
    go_wp2_with fail
    try rw [hW2]
    clear hW2
    go_wp2_with fail
    refine cS.mono ?_
    rintro e w3 ⟨rfl, hb3⟩
    go_wp2_with fail
    go_ret2
    exact ⟨by rw [HR.out]; rfl, hbW2.trans (hb3.mono hbW2.size)⟩
  · have HC := Lib.hid (show addR a.data.toList b.data.toList = ([], 1) from on2_none hcc _)
    clear hcc hv
    go_wp2_with fail
    go_ret2
    exact ⟨by rw [HC.out]; rfl, (hb1.alloc hb1.size _).alloc (by have := hb1.size; simp; omega) _⟩
set_option maxRecDepth 100000 in
set_option maxHeartbeats 8000000 in
theorem sub_of (a b : ByteArray) (w : World) :
    Calls Tryz.prog 60 #[.string a, .string b] w fun e w' => e = .returned (resV (subR a.data.toList b.data.toList)) ∧ Below w.heap.size w w' := by
  have cT := two_any a b w
  go_enter Tryz.func60, Tryz.ntmps60
  go_wp2_with fail
  refine cT.mono ?_
  rintro e w1 ⟨v1, v2, ok, rfl, hv, hb1⟩
  clear cT
  rcases two_cases hv with ⟨rfl, bx, x, p1, c1, by_, y, p2, c2, hcx, hcy, rfl, rfl, hD1, hD2⟩ | ⟨rfl, hcc, ⟨bx, p1, l1, c1, rfl⟩, ⟨by_, p2, l2, c2, rfl⟩⟩
  · have hx6 := words_50 hcx
    have hy6 := words_50 hcy
    clear hv
    have hbw2 : Below w1.heap.size w1 ((w1.alloc (.cells #[.bool bx, .slice p1 (wordsOf x).length c1] 86)).alloc (.cells #[.bool by_, .slice p2 (wordsOf y).length c2] 86)) := ((Below.refl _ w1).alloc (Nat.le_refl _) _).alloc (by simp) _
    have vX : VarAt ((w1.alloc (.cells #[.bool bx, .slice p1 (wordsOf x).length c1] 86)).alloc (.cells #[.bool by_, .slice p2 (wordsOf y).length c2] 86)) w1.heap.size bx p1 (wordsOf x).length c1 := (var_new w1 _ _ _ _).below ((Below.refl _ _).alloc (Nat.le_refl _) _)
    have vY : VarAt ((w1.alloc (.cells #[.bool bx, .slice p1 (wordsOf x).length c1] 86)).alloc (.cells #[.bool by_, .slice p2 (wordsOf y).length c2] 86)) (w1.heap.size + 1) by_ p2 (wordsOf y).length c2 := by
      have := var_new (w1.alloc (.cells #[.bool bx, .slice p1 (wordsOf x).length c1] 86)) by_ p2 (wordsOf y).length c2
      rwa [World.size_alloc] at this
    obtain ⟨W2, hW2⟩ : ∃ W2, (w1.alloc (.cells #[.bool bx, .slice p1 (wordsOf x).length c1] 86)).alloc (.cells #[.bool by_, .slice p2 (wordsOf y).length c2] 86) = W2 := ⟨_, rfl⟩
    rw [hW2] at hbw2 vX vY
    have hM1 := hD1.later hbw2
    have hM2 := hD2.later hbw2
    have hbW2 : Below w.heap.size w W2 := hb1.trans (hbw2.mono hb1.size)
    obtain ⟨R, hR⟩ : ∃ R, resR (plusB bx (!by_) x y) (plusN bx (!by_) x y) = R := ⟨_, rfl⟩
    have HR := Lib.hid (show subR a.data.toList b.data.toList = R from (on2_some hcx hcy _).trans hR)
    clear hW2 vX vY hM1 hM2 hbW2 hbw2
    have hbw3 : Below w1.heap.size w1 ((w1.alloc (.cells #[.bool bx, .slice p1 (wordsOf x).length c1] 86)).alloc (.cells #[.bool (!by_), .slice p2 (wordsOf y).length c2] 86)) := ((Below.refl _ w1).alloc (Nat.le_refl _) _).alloc (by simp) _
    have vX : VarAt ((w1.alloc (.cells #[.bool bx, .slice p1 (wordsOf x).length c1] 86)).alloc (.cells #[.bool (!by_), .slice p2 (wordsOf y).length c2] 86)) w1.heap.size bx p1 (wordsOf x).length c1 := (var_new w1 _ _ _ _).below ((Below.refl _ _).alloc (Nat.le_refl _) _)
    have vY : VarAt ((w1.alloc (.cells #[.bool bx, .slice p1 (wordsOf x).length c1] 86)).alloc (.cells #[.bool (!by_), .slice p2 (wordsOf y).length c2] 86)) (w1.heap.size + 1) (!by_) p2 (wordsOf y).length c2 := by
      have := var_new (w1.alloc (.cells #[.bool bx, .slice p1 (wordsOf x).length c1] 86)) (!by_) p2 (wordsOf y).length c2
      rwa [World.size_alloc] at this
    obtain ⟨W3, hW3⟩ : ∃ W3, (w1.alloc (.cells #[.bool bx, .slice p1 (wordsOf x).length c1] 86)).alloc (.cells #[.bool (!by_), .slice p2 (wordsOf y).length c2] 86) = W3 := ⟨_, rfl⟩
    rw [hW3] at hbw3 vX vY
    have hbW3 : Below w.heap.size w W3 := hb1.trans (hbw3.mono hb1.size)
    have cS := sum_any bx (!by_) x y _ _ (by omega) (by omega) W3 (hD1.later hbw3) (hD2.later hbw3)
    rw [hR] at cS
    have HW3 := Lib.hid hW3
    have HX := Lib.hid vX
    have HY := Lib.hid vY
    clear hcx hcy vX vY hR hD1 hD2 hbw3 hW3
    unfold resV at cS
    go_wp2_with fail
    try rw [HW3.out]
    refine cS.mono ?_
    rintro e w3 ⟨rfl, hb3⟩
    go_wp2_with fail
    go_ret2
    exact ⟨by rw [HR.out]; rfl, hbW3.trans (hb3.mono hbW3.size)⟩
  · have HC := Lib.hid (show subR a.data.toList b.data.toList = ([], 1) from on2_none hcc _)
    clear hcc hv
    go_wp2_with fail
    go_ret2
    exact ⟨by rw [HC.out]; rfl, (hb1.alloc hb1.size _).alloc (by have := hb1.size; simp; omega) _⟩
theorem negR_sub (a : List UInt8) : subR [48] a = negR a := by
  have h0 : canonL [48] = some (false, 0) := by decide +kernel
  unfold subR negR
  cases hc : canonL a with
  | none => rw [on2_none (.inr hc), Go.Proofs.YtdfgifnccghlmabGreatDoor.on1_none hc]
  | some x =>
    rw [on2_some (bx := false) (x := 0) (by_ := x.1) (y := x.2) h0 hc, Go.Proofs.YtdfgifnccghlmabGreatDoor.on1_some (b := x.1) (n := x.2) hc]
    refine resR_toZ ?_
    rw [toZ_plus]
    simp [toZ]
set_option maxRecDepth 100000 in
set_option maxHeartbeats 4000000 in
theorem neg_of (a : ByteArray) (w : World) :
    Calls Tryz.prog 36 #[.string a] w fun e w' => e = .returned (resV (negR a.data.toList)) ∧ Below w.heap.size w w' := by
  have cS := sub_of ⟨#[48]⟩ a w
  rw [show subR (⟨#[48]⟩ : ByteArray).data.toList a.data.toList = negR a.data.toList from negR_sub _] at cS
  obtain ⟨R, hR⟩ : ∃ R, negR a.data.toList = R := ⟨_, rfl⟩
  rw [hR] at cS ⊢
  clear hR
  unfold resV at cS ⊢
  go_enter Tryz.func36, Tryz.ntmps36
  go_wp2_with fail
  refine cS.mono ?_
  rintro e w1 ⟨rfl, hb1⟩
  go_wp2_with fail
  go_ret2
  exact ⟨rfl, hb1⟩
set_option maxRecDepth 100000 in
set_option maxHeartbeats 8000000 in
theorem mul_of (a b : ByteArray) (w : World) :
    Calls Tryz.prog 58 #[.string a, .string b] w fun e w' => e = .returned (resV (mulR a.data.toList b.data.toList)) ∧ Below w.heap.size w w' := by
  have cT := two_any a b w
  go_enter Tryz.func58, Tryz.ntmps58
  go_wp2_with fail
  refine cT.mono ?_
  rintro e w1 ⟨v1, v2, ok, rfl, hv, hb1⟩
  clear cT
  rcases two_cases hv with ⟨rfl, bx, x, p1, c1, by_, y, p2, c2, hcx, hcy, rfl, rfl, hD1, hD2⟩ | ⟨rfl, hcc, ⟨bx, p1, l1, c1, rfl⟩, ⟨by_, p2, l2, c2, rfl⟩⟩
  · have hx6 := words_50 hcx
    have hy6 := words_50 hcy
    clear hv
    have hbw2 : Below w1.heap.size w1 ((w1.alloc (.cells #[.bool bx, .slice p1 (wordsOf x).length c1] 86)).alloc (.cells #[.bool by_, .slice p2 (wordsOf y).length c2] 86)) := ((Below.refl _ w1).alloc (Nat.le_refl _) _).alloc (by simp) _
    have vX : VarAt ((w1.alloc (.cells #[.bool bx, .slice p1 (wordsOf x).length c1] 86)).alloc (.cells #[.bool by_, .slice p2 (wordsOf y).length c2] 86)) w1.heap.size bx p1 (wordsOf x).length c1 := (var_new w1 _ _ _ _).below ((Below.refl _ _).alloc (Nat.le_refl _) _)
    have vY : VarAt ((w1.alloc (.cells #[.bool bx, .slice p1 (wordsOf x).length c1] 86)).alloc (.cells #[.bool by_, .slice p2 (wordsOf y).length c2] 86)) (w1.heap.size + 1) by_ p2 (wordsOf y).length c2 := by
      have := var_new (w1.alloc (.cells #[.bool bx, .slice p1 (wordsOf x).length c1] 86)) by_ p2 (wordsOf y).length c2
      rwa [World.size_alloc] at this
    obtain ⟨W2, hW2⟩ : ∃ W2, (w1.alloc (.cells #[.bool bx, .slice p1 (wordsOf x).length c1] 86)).alloc (.cells #[.bool by_, .slice p2 (wordsOf y).length c2] 86) = W2 := ⟨_, rfl⟩
    rw [hW2] at hbw2 vX vY
    have hM1 := hD1.later hbw2
    have hM2 := hD2.later hbw2
    have hbW2 : Below w.heap.size w W2 := hb1.trans (hbw2.mono hb1.size)
    obtain ⟨R, hR⟩ : ∃ R, resR (!(bx == by_)) (divW evenW (!(bx == by_)) (x * y) (10 ^ 20)) = R := ⟨_, rfl⟩
    have HR := Lib.hid (show mulR a.data.toList b.data.toList = R from (on2_some hcx hcy _).trans hR)
    have hxy := words_mul_len x y
    have cM := mul_any _ _ (wordsOf x) (wordsOf y) (small_wordsOf x) (small_wordsOf y) (by omega) (by omega) W2 hM1 hM2
    rw [val_wordsOf, val_wordsOf] at cM
    have cC : ∀ W u, Digs W u (wordsOf (x * y)) → Calls Tryz.prog 92 #[.bool (!(bx == by_)), u, .int .i64 20, .string ⟨#[101, 118, 101, 110]⟩] W fun e w' => ∃ z, e = .returned z ∧ Digs w' z (wordsOf (divW evenW (!(bx == by_)) (x * y) (10 ^ 20))) ∧ Below W.heap.size W w' := fun W u hu => by
      have := cut_any (!(bx == by_)) ⟨#[101, 118, 101, 110]⟩ evenW rfl u (wordsOf (x * y)) (small_wordsOf _) 20 (by omega) (by omega) (by omega) W hu
      rw [val_wordsOf] at this
      exact this
    obtain ⟨DD, hDD⟩ : ∃ d, divW evenW (!(bx == by_)) (x * y) (10 ^ 20) = d := ⟨_, rfl⟩
    have hDl : (wordsOf DD).length ≤ 200 := by rw [← hDD]; exact words_divW_len _ _ _ _ 199 (by omega)
    rw [hDD] at cC hR
    have cZ := fun W u (hu : Digs W u (wordsOf DD)) => result_any (!(bx == by_)) u (wordsOf DD) (small_wordsOf _) (by omega) W hu
    rw [val_wordsOf, hR] at cZ
    obtain ⟨y0, y1, y2, y3, s0⟩ := id vX
    obtain ⟨z0, z1, z2, z3, s1⟩ := id vY
    have HP := Lib.hid hD1
    clear hcx hcy vX vY hM1 hM2 hR hD1 hD2 hbw2 hDD
    unfold resV at cZ
    go_wp2_with fail
    try rw [hW2]
    clear hW2
    go_wp2_with fail
    refine cM.mono ?_
    rintro e w3 ⟨u3, rfl, hu3, hb3⟩
    have cC2 := cC w3 u3 hu3
    obtain ⟨p3, c3, rfl⟩ := hu3.shape
    clear cC cM hu3
    go_wp2_with fail
    refine cC2.mono ?_
    rintro e w4 ⟨u4, rfl, hu4, hb4⟩
    have cZ2 := cZ w4 u4 hu4
    obtain ⟨p4, c4, rfl⟩ := hu4.shape
    clear cC2 cZ hu4
    go_wp2_with fail
    refine cZ2.mono ?_
    rintro e w5 ⟨rfl, hb5⟩
    go_wp2_with fail
    go_ret2
    exact ⟨by rw [HR.out]; rfl, ((hbW2.trans (hb3.mono hbW2.size)).trans (hb4.mono (Nat.le_trans hbW2.size hb3.size))).trans (hb5.mono (Nat.le_trans (Nat.le_trans hbW2.size hb3.size) hb4.size))⟩
  · have HC := Lib.hid (show mulR a.data.toList b.data.toList = ([], 1) from on2_none hcc _)
    clear hcc hv
    go_wp2_with fail
    go_ret2
    exact ⟨by rw [HC.out]; rfl, (hb1.alloc hb1.size _).alloc (by have := hb1.size; simp; omega) _⟩
set_option maxRecDepth 100000 in
set_option maxHeartbeats 8000000 in
theorem mod_of (a b : ByteArray) (w : World) :
    Calls Tryz.prog 40 #[.string a, .string b] w fun e w' => e = .returned (resV (modR a.data.toList b.data.toList)) ∧ Below w.heap.size w w' := by
  have cT := two_any a b w
  go_enter Tryz.func40, Tryz.ntmps40
  go_wp2_with fail
  refine cT.mono ?_
  rintro e w1 ⟨v1, v2, ok, rfl, hv, hb1⟩
  clear cT
  rcases two_cases hv with ⟨rfl, bx, x, p1, c1, by_, y, p2, c2, hcx, hcy, rfl, rfl, hD1, hD2⟩ | ⟨rfl, hcc, ⟨bx, p1, l1, c1, rfl⟩, ⟨by_, p2, l2, c2, rfl⟩⟩
  · have hx6 := words_50 hcx
    have hy6 := words_50 hcy
    clear hv
    have hbw2 : Below w1.heap.size w1 ((w1.alloc (.cells #[.bool bx, .slice p1 (wordsOf x).length c1] 86)).alloc (.cells #[.bool by_, .slice p2 (wordsOf y).length c2] 86)) := ((Below.refl _ w1).alloc (Nat.le_refl _) _).alloc (by simp) _
    have vX : VarAt ((w1.alloc (.cells #[.bool bx, .slice p1 (wordsOf x).length c1] 86)).alloc (.cells #[.bool by_, .slice p2 (wordsOf y).length c2] 86)) w1.heap.size bx p1 (wordsOf x).length c1 := (var_new w1 _ _ _ _).below ((Below.refl _ _).alloc (Nat.le_refl _) _)
    have vY : VarAt ((w1.alloc (.cells #[.bool bx, .slice p1 (wordsOf x).length c1] 86)).alloc (.cells #[.bool by_, .slice p2 (wordsOf y).length c2] 86)) (w1.heap.size + 1) by_ p2 (wordsOf y).length c2 := by
      have := var_new (w1.alloc (.cells #[.bool bx, .slice p1 (wordsOf x).length c1] 86)) by_ p2 (wordsOf y).length c2
      rwa [World.size_alloc] at this
    obtain ⟨W2, hW2⟩ : ∃ W2, (w1.alloc (.cells #[.bool bx, .slice p1 (wordsOf x).length c1] 86)).alloc (.cells #[.bool by_, .slice p2 (wordsOf y).length c2] 86) = W2 := ⟨_, rfl⟩
    rw [hW2] at hbw2 vX vY
    have hM1 := hD1.later hbw2
    have hM2 := hD2.later hbw2
    have hbW2 : Below w.heap.size w W2 := hb1.trans (hbw2.mono hb1.size)
    by_cases hy0 : y = 0
    · subst hy0
      have HC := Lib.hid (show modR a.data.toList b.data.toList = ([], 41) from onD_zero hcx hcy _)
      obtain ⟨y0, y1, y2, y3, s0⟩ := id vX
      obtain ⟨z0, z1, z2, z3, s1⟩ := id vY
      have hz : (wordsOf 0).length = 0 := rfl
      clear hcx hcy vX vY hM1 hM2 hD1 hD2 hbw2 hW2 y0 y1 y2 y3 z0 z1 z2 z3
      go_wp2_with fail
      go_ret2
      exact ⟨by rw [HC.out]; rfl, (hb1.alloc hb1.size _).alloc (by have := hb1.size; simp; omega) _⟩
    have hly : ¬ (wordsOf y).length = 0 := fun h => hy0 ((wordsOf_nil y).1 (List.eq_nil_of_length_eq_zero h))
    have hlyb : (((wordsOf y).length : Int) == 0) = false := beq_eq_false_iff_ne.2 (by omega)
    obtain ⟨R, hR⟩ : ∃ R, resR bx (x % y) = R := ⟨_, rfl⟩
    have HR := Lib.hid (show modR a.data.toList b.data.toList = R from (Go.Proofs.YtdfgifnccghlmabGreatDoor.onD_some hcx hcy hy0 _).trans hR)
    have cD := div_any _ _ (wordsOf x) y (small_wordsOf x) hy0 (by omega) (by omega) W2 hM1 hM2
    rw [val_wordsOf] at cD
    have hrl : (wordsOf (x % y)).length ≤ 1000 := Nat.le_trans (words_len _ 50 (Nat.lt_of_le_of_lt (Nat.mod_le _ _) ((len_50 x).1 hx6))) (by omega)
    have cZ := fun W u (hu : Digs W u (wordsOf (x % y))) => result_any bx u (wordsOf (x % y)) (small_wordsOf _) (by omega) W hu
    rw [val_wordsOf, hR] at cZ
    obtain ⟨y0, y1, y2, y3, s0⟩ := id vX
    obtain ⟨z0, z1, z2, z3, s1⟩ := id vY
    have HX := Lib.hid vX
    have HLY := Lib.hid hy0
    clear hcx hcy vX vY hM1 hM2 hR hD1 hD2 hbw2 hy0 hly
    unfold resV at cZ
    go_wp2_with fail
    try rw [hW2]
    clear hW2
    go_wp2_with fail
    refine cD.mono ?_
    rintro e w3 ⟨u3, r3, rfl, hu3, hr3, hb3⟩
    have cZ2 := cZ w3 r3 hr3
    obtain ⟨p3, c3, rfl⟩ := hu3.shape
    obtain ⟨p4, c4, rfl⟩ := hr3.shape
    obtain ⟨q0, q1, q2, q3, _⟩ := HX.out.below hb3
    clear cD cZ hu3 hr3
    go_wp2_with fail
    refine cZ2.mono ?_
    rintro e w5 ⟨rfl, hb5⟩
    go_wp2_with fail
    go_ret2
    exact ⟨by rw [HR.out]; rfl, (hbW2.trans (hb3.mono hbW2.size)).trans (hb5.mono (Nat.le_trans hbW2.size hb3.size))⟩
  · have HC := Lib.hid (show modR a.data.toList b.data.toList = ([], 1) from onD_none hcc _)
    clear hcc hv
    go_wp2_with fail
    go_ret2
    exact ⟨by rw [HC.out]; rfl, (hb1.alloc hb1.size _).alloc (by have := hb1.size; simp; omega) _⟩
end Go.Proofs.YtdfgifnccghlmabGreatDoor.R

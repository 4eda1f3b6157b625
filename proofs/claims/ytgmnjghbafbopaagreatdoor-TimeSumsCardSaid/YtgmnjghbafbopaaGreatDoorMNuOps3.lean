/- Numbers: the package's functions: Sub, Mul, Div, IDiv, Round. -/
import Derived.Test.YtgmnjghbafbopaaGreatDoorMNuJ
import Derived.Test.YtgmnjghbafbopaaGreatDoorMNuVar
import Derived.Test.YtgmnjghbafbopaaGreatDoorMNuH
import Derived.Test.YtgmnjghbafbopaaGreatDoorMNuWayDiv
namespace Go.Proofs.YtgmnjghbafbopaaGreatDoor
open Go.RowKit Go.Lib

set_option maxRecDepth 100000 in
set_option maxHeartbeats 8000000 in
theorem mul_of_any (a b : ByteArray) (ha : a.size < 4294967281) (hb : b.size < 4294967281) (w : World) (hg : GrN w) :
    Calls Tryz.prog 110 #[.string a, .string b] w fun e w' => e = .returned (resV (mulR a.data.toList b.data.toList)) ∧ Below w.heap.size w w' := by
  have cT := operands_any a b ha hb w hg
  go_enter Tryz.func110, Tryz.ntmps110
  go_wp2_with fail
  refine cT.mono ?_
  rintro e w1 ⟨v1, v2, z, rfl, hv, hb1⟩
  clear cT
  rcases hv with ⟨rfl, bx, x, by_, y, hcx, hcy, ⟨p1, c1, rfl, hN1⟩, ⟨p2, c2, rfl, hN2⟩⟩ | ⟨rfl, hcc, ⟨bx, p1, l1, c1, rfl⟩, ⟨by_, p2, l2, c2, rfl⟩⟩
  · obtain ⟨R, hR⟩ : ∃ R, resR (!(bx == by_)) (divW evenW (!(bx == by_)) (x * y) (10 ^ 20)) = R := ⟨_, rfl⟩
    have HR := Lib.hid (show mulR a.data.toList b.data.toList = R from (on2_some hcx hcy _).trans hR)
    have hx6 := canon_words hcx
    have hy6 := canon_words hcy
    have hbw2 : Below w1.heap.size w1 ((w1.alloc (.cells #[.bool bx, .slice p1 (wordsOf x).length c1] 88)).alloc (.cells #[.bool by_, .slice p2 (wordsOf y).length c2] 88)) := ((Below.refl _ w1).alloc (Nat.le_refl _) _).alloc (by simp) _
    have vX : VarAt ((w1.alloc (.cells #[.bool bx, .slice p1 (wordsOf x).length c1] 88)).alloc (.cells #[.bool by_, .slice p2 (wordsOf y).length c2] 88)) w1.heap.size bx p1 (wordsOf x).length c1 := (VarAt.new w1 _ _ _ _).below ((Below.refl _ _).alloc (Nat.le_refl _) _)
    have vY : VarAt ((w1.alloc (.cells #[.bool bx, .slice p1 (wordsOf x).length c1] 88)).alloc (.cells #[.bool by_, .slice p2 (wordsOf y).length c2] 88)) (w1.heap.size + 1) by_ p2 (wordsOf y).length c2 := by
      have := VarAt.new (w1.alloc (.cells #[.bool bx, .slice p1 (wordsOf x).length c1] 88)) by_ p2 (wordsOf y).length c2
      rwa [World.size_alloc] at this
    obtain ⟨W2, hW2⟩ : ∃ W2, (w1.alloc (.cells #[.bool bx, .slice p1 (wordsOf x).length c1] 88)).alloc (.cells #[.bool by_, .slice p2 (wordsOf y).length c2] 88) = W2 := ⟨_, rfl⟩
    rw [hW2] at hbw2 vX vY
    have hM1 := hN1.later hbw2
    have hM2 := hN2.later hbw2
    have hbW2 : Below w.heap.size w W2 := hb1.trans (hbw2.mono hb1.size)
    clear hN1 hN2 hbw2
    have hxy := words_mul x y
    have hw10 := words_pow_len 20
    have hwd := words_divW evenW (!(bx == by_)) (x * y) (10 ^ 20)
    obtain ⟨U, hU⟩ : ∃ U, 10 ^ 20 = U := ⟨_, rfl⟩
    have hU0 : U ≠ 0 := by rw [← hU]; decide
    rw [hU] at hR hwd hw10
    have cM := fun W (hW : Below W2.heap.size W2 W) => multiply_any (.slice p1 (wordsOf x).length c1) (.slice p2 (wordsOf y).length c2) (wordsOf x) (wordsOf y) (small_wordsOf _) (small_wordsOf _) (by omega) (by omega) W (hM1.later hW) (hM2.later hW)
    simp only [val_wordsOf] at cM
    have cW : ∀ W, Calls Tryz.prog 80 #[.int .i64 20] W fun e w' => ∃ x, e = .returned x ∧ Nats w' x (wordsOf U) ∧ Below W.heap.size W w' := fun W => by rw [← hU]; exact power_any 20 (by omega) W
    have cQ := fun W u v h1 h2 => ratio_any (!(bx == by_)) u v (x * y) U hU0 (by omega) (by omega) W h1 h2
    have cT := fun W (hW : Below W2.heap.size W2 W) q (hq : NumAt W q (!(bx == by_)) (divW evenW (!(bx == by_)) (x * y) U)) => text_two R (!(bx == by_)) q _ (by omega) hR W (hg.later (hbW2.trans (hW.mono hbW2.size))) hq
    obtain ⟨y0, y1, _, _, s0⟩ := id vX
    obtain ⟨y2, y3, _, _, s1⟩ := id vY
    clear hcx hcy vX vY hM1 hM2 hR hU hxy hw10 hwd hU0
    unfold numV
    go_wp2_with fail
    try rw [hW2]
    clear hW2
    have bD : Below W2.heap.size W2 W2.drew := (Below.refl W2.heap.size W2).drew
    go_region_held3 (fun w' => w'.cell? ⟨w1.heap.size, 0, none⟩ = some (.bool bx) ∧ w'.cell? ⟨w1.heap.size, 1, none⟩ = some (.slice p1 (wordsOf x).length c1) ∧ w'.cell? ⟨w1.heap.size + 1, 0, none⟩ = some (.bool by_) ∧ w'.cell? ⟨w1.heap.size + 1, 1, none⟩ = some (.slice p2 (wordsOf y).length c2)) (first | exact ⟨T0, T1, T2, T3⟩ | exact ⟨Q0, Q1, Q2, Q3⟩ | exact ⟨V0, V1, V2, V3⟩ | exact ⟨M0, M1, M2, M3⟩ | exact ⟨y0, y1, y2, y3⟩) (first | (go_at_call 81; have c := cM W2.drew bD; refine c.mono ?_; rintro e wM ⟨qM, rfl, hqM, hbM⟩; have bM : Below W2.heap.size W2 wM := bD.trans (hbM.mono bD.size); have M0 := (bM.cell (p := ⟨w1.heap.size, 0, none⟩) s0).trans y0; have M1 := (bM.cell (p := ⟨w1.heap.size, 1, none⟩) s0).trans y1; have M2 := (bM.cell (p := ⟨w1.heap.size + 1, 0, none⟩) s1).trans y2; have M3 := (bM.cell (p := ⟨w1.heap.size + 1, 1, none⟩) s1).trans y3; obtain ⟨pM, cM2, rfl⟩ := hqM.shape) | (go_at_call 80; have c := cW wM; refine c.mono ?_; rintro e wV ⟨qV, rfl, hqV, hbV⟩; have bV : Below W2.heap.size W2 wV := bM.trans (hbV.mono bM.size); have V0 := (bV.cell (p := ⟨w1.heap.size, 0, none⟩) s0).trans y0; have V1 := (bV.cell (p := ⟨w1.heap.size, 1, none⟩) s0).trans y1; have V2 := (bV.cell (p := ⟨w1.heap.size + 1, 0, none⟩) s1).trans y2; have V3 := (bV.cell (p := ⟨w1.heap.size + 1, 1, none⟩) s1).trans y3; obtain ⟨pV, cV2, rfl⟩ := hqV.shape) | (go_at_call 92; have c := cQ wV _ _ (hqM.later hbV) hqV; refine c.mono ?_; rintro e wQ ⟨qQ, rfl, hqQ, hbQ⟩; have bQ : Below W2.heap.size W2 wQ := bV.trans (hbQ.mono bV.size); have Q0 := (bQ.cell (p := ⟨w1.heap.size, 0, none⟩) s0).trans y0; have Q1 := (bQ.cell (p := ⟨w1.heap.size, 1, none⟩) s0).trans y1; have Q2 := (bQ.cell (p := ⟨w1.heap.size + 1, 0, none⟩) s1).trans y2; have Q3 := (bQ.cell (p := ⟨w1.heap.size + 1, 1, none⟩) s1).trans y3) | (go_at_call 77; have c := cT wQ bQ _ hqQ; refine c.mono ?_; rintro e wT ⟨rfl, hbT⟩; have bT : Below W2.heap.size W2 wT := bQ.trans (hbT.mono bQ.size); have T0 := (bT.cell (p := ⟨w1.heap.size, 0, none⟩) s0).trans y0; have T1 := (bT.cell (p := ⟨w1.heap.size, 1, none⟩) s0).trans y1; have T2 := (bT.cell (p := ⟨w1.heap.size + 1, 0, none⟩) s1).trans y2; have T3 := (bT.cell (p := ⟨w1.heap.size + 1, 1, none⟩) s1).trans y3))
    all_goals
      go_wp2_with fail
      go_ret2
      exact ⟨by rw [HR.out]; rfl, hbW2.trans (bT.mono hbW2.size)⟩
  · have HC := Lib.hid (show mulR a.data.toList b.data.toList = ([], 1) from on2_none hcc _)
    clear hcc
    unfold numV
    go_wp2_with fail
    go_ret2
    exact ⟨by rw [HC.out]; rfl, (hb1.alloc hb1.size _).alloc (by have := hb1.size; simp; omega) _⟩
set_option maxRecDepth 100000 in
set_option maxHeartbeats 8000000 in
theorem quo_of_any (a b : ByteArray) (ha : a.size < 4294967281) (hb : b.size < 4294967281) (w : World) (hg : GrN w) :
    Calls Tryz.prog 41 #[.string a, .string b] w fun e w' => e = .returned (resV (quoR a.data.toList b.data.toList)) ∧ Below w.heap.size w w' := by
  have cT := divisible_any a b ha hb w hg
  go_enter Tryz.func41, Tryz.ntmps41
  go_wp2_with fail
  refine cT.mono ?_
  rintro e w1 ⟨v1, v2, z, rfl, hv, hb1⟩
  clear cT
  rcases hv with ⟨rfl, bx, x, by_, y, hcx, hcy, hy0, ⟨p1, c1, rfl, hN1⟩, ⟨p2, c2, rfl, hN2⟩⟩ | ⟨⟨bx, p1, l1, c1, rfl⟩, ⟨by_, p2, l2, c2, rfl⟩, ⟨rfl, hcc⟩ | ⟨rfl, bx', x', by_', hcx, hcy⟩⟩
  · obtain ⟨R, hR⟩ : ∃ R, resR (!(bx == by_)) (divW evenW (!(bx == by_)) (x * 10 ^ 20) y) = R := ⟨_, rfl⟩
    have HR := Lib.hid (show quoR a.data.toList b.data.toList = R from (onD_some hcx hcy hy0 _).trans hR)
    have hx6 := canon_words hcx
    have hy6 := canon_words hcy
    have hbw2 : Below w1.heap.size w1 ((w1.alloc (.cells #[.bool bx, .slice p1 (wordsOf x).length c1] 88)).alloc (.cells #[.bool by_, .slice p2 (wordsOf y).length c2] 88)) := ((Below.refl _ w1).alloc (Nat.le_refl _) _).alloc (by simp) _
    have vX : VarAt ((w1.alloc (.cells #[.bool bx, .slice p1 (wordsOf x).length c1] 88)).alloc (.cells #[.bool by_, .slice p2 (wordsOf y).length c2] 88)) w1.heap.size bx p1 (wordsOf x).length c1 := (VarAt.new w1 _ _ _ _).below ((Below.refl _ _).alloc (Nat.le_refl _) _)
    have vY : VarAt ((w1.alloc (.cells #[.bool bx, .slice p1 (wordsOf x).length c1] 88)).alloc (.cells #[.bool by_, .slice p2 (wordsOf y).length c2] 88)) (w1.heap.size + 1) by_ p2 (wordsOf y).length c2 := by
      have := VarAt.new (w1.alloc (.cells #[.bool bx, .slice p1 (wordsOf x).length c1] 88)) by_ p2 (wordsOf y).length c2
      rwa [World.size_alloc] at this
    obtain ⟨W2, hW2⟩ : ∃ W2, (w1.alloc (.cells #[.bool bx, .slice p1 (wordsOf x).length c1] 88)).alloc (.cells #[.bool by_, .slice p2 (wordsOf y).length c2] 88) = W2 := ⟨_, rfl⟩
    rw [hW2] at hbw2 vX vY
    have hM1 := hN1.later hbw2
    have hM2 := hN2.later hbw2
    have hbW2 : Below w.heap.size w W2 := hb1.trans (hbw2.mono hb1.size)
    clear hN1 hN2 hbw2
    obtain ⟨U, hU⟩ : ∃ U, 10 ^ 20 = U := ⟨_, rfl⟩
    have hw10 := words_pow_len 20
    rw [hU] at hR hw10
    have hxy := words_mul x U
    have hwd := words_divW evenW (!(bx == by_)) (x * U) y
    have cW : ∀ W, Calls Tryz.prog 80 #[.int .i64 20] W fun e w' => ∃ x, e = .returned x ∧ Nats w' x (wordsOf U) ∧ Below W.heap.size W w' := fun W => by rw [← hU]; exact power_any 20 (by omega) W
    have cM := fun W v (hW : Below W2.heap.size W2 W) (hv : Nats W v (wordsOf U)) => multiply_any (.slice p1 (wordsOf x).length c1) v (wordsOf x) (wordsOf U) (small_wordsOf _) (small_wordsOf _) (by omega) (by omega) W (hM1.later hW) hv
    simp only [val_wordsOf] at cM
    have cQ := fun W u (hW : Below W2.heap.size W2 W) h1 => ratio_any (!(bx == by_)) u (.slice p2 (wordsOf y).length c2) (x * U) y hy0 (by omega) (by omega) W h1 (hM2.later hW)
    have cT := fun W (hW : Below W2.heap.size W2 W) q (hq : NumAt W q (!(bx == by_)) (divW evenW (!(bx == by_)) (x * U) y)) => text_two R (!(bx == by_)) q _ (by omega) hR W (hg.later (hbW2.trans (hW.mono hbW2.size))) hq
    obtain ⟨y0, y1, _, _, s0⟩ := id vX
    obtain ⟨y2, y3, _, _, s1⟩ := id vY
    clear hcx hcy vX vY hM1 hM2 hR hU hxy hw10 hwd hy0
    unfold numV
    go_wp2_with fail
    try rw [hW2]
    clear hW2
    have bD : Below W2.heap.size W2 W2.drew := (Below.refl W2.heap.size W2).drew
    go_region_held3 (fun w' => w'.cell? ⟨w1.heap.size, 0, none⟩ = some (.bool bx) ∧ w'.cell? ⟨w1.heap.size, 1, none⟩ = some (.slice p1 (wordsOf x).length c1) ∧ w'.cell? ⟨w1.heap.size + 1, 0, none⟩ = some (.bool by_) ∧ w'.cell? ⟨w1.heap.size + 1, 1, none⟩ = some (.slice p2 (wordsOf y).length c2)) (first | exact ⟨T0, T1, T2, T3⟩ | exact ⟨Q0, Q1, Q2, Q3⟩ | exact ⟨M0, M1, M2, M3⟩ | exact ⟨V0, V1, V2, V3⟩ | exact ⟨y0, y1, y2, y3⟩) (first | (go_at_call 80; have c := cW W2.drew; refine c.mono ?_; rintro e wV ⟨qV, rfl, hqV, hbV⟩; have bV : Below W2.heap.size W2 wV := bD.trans (hbV.mono bD.size); have V0 := (bV.cell (p := ⟨w1.heap.size, 0, none⟩) s0).trans y0; have V1 := (bV.cell (p := ⟨w1.heap.size, 1, none⟩) s0).trans y1; have V2 := (bV.cell (p := ⟨w1.heap.size + 1, 0, none⟩) s1).trans y2; have V3 := (bV.cell (p := ⟨w1.heap.size + 1, 1, none⟩) s1).trans y3; obtain ⟨pV, cV2, rfl⟩ := hqV.shape) | (go_at_call 81; have c := cM wV _ bV hqV; refine c.mono ?_; rintro e wM ⟨qM, rfl, hqM, hbM⟩; have bM : Below W2.heap.size W2 wM := bV.trans (hbM.mono bV.size); have M0 := (bM.cell (p := ⟨w1.heap.size, 0, none⟩) s0).trans y0; have M1 := (bM.cell (p := ⟨w1.heap.size, 1, none⟩) s0).trans y1; have M2 := (bM.cell (p := ⟨w1.heap.size + 1, 0, none⟩) s1).trans y2; have M3 := (bM.cell (p := ⟨w1.heap.size + 1, 1, none⟩) s1).trans y3; obtain ⟨pM, cM2, rfl⟩ := hqM.shape) | (go_at_call 92; have c := cQ wM _ bM hqM; refine c.mono ?_; rintro e wQ ⟨qQ, rfl, hqQ, hbQ⟩; have bQ : Below W2.heap.size W2 wQ := bM.trans (hbQ.mono bM.size); have Q0 := (bQ.cell (p := ⟨w1.heap.size, 0, none⟩) s0).trans y0; have Q1 := (bQ.cell (p := ⟨w1.heap.size, 1, none⟩) s0).trans y1; have Q2 := (bQ.cell (p := ⟨w1.heap.size + 1, 0, none⟩) s1).trans y2; have Q3 := (bQ.cell (p := ⟨w1.heap.size + 1, 1, none⟩) s1).trans y3) | (go_at_call 77; have c := cT wQ bQ _ hqQ; refine c.mono ?_; rintro e wT ⟨rfl, hbT⟩; have bT : Below W2.heap.size W2 wT := bQ.trans (hbT.mono bQ.size); have T0 := (bT.cell (p := ⟨w1.heap.size, 0, none⟩) s0).trans y0; have T1 := (bT.cell (p := ⟨w1.heap.size, 1, none⟩) s0).trans y1; have T2 := (bT.cell (p := ⟨w1.heap.size + 1, 0, none⟩) s1).trans y2; have T3 := (bT.cell (p := ⟨w1.heap.size + 1, 1, none⟩) s1).trans y3))
    all_goals
      go_wp2_with fail
      go_ret2
      exact ⟨by rw [HR.out]; rfl, hbW2.trans (bT.mono hbW2.size)⟩
  · have HC := Lib.hid (show quoR a.data.toList b.data.toList = ([], 1) from onD_none hcc _)
    clear hcc
    unfold numV
    go_wp2_with fail
    go_ret2
    exact ⟨by rw [HC.out]; rfl, (hb1.alloc hb1.size _).alloc (by have := hb1.size; simp; omega) _⟩
  · have HC := Lib.hid (show quoR a.data.toList b.data.toList = ([], 41) from onD_zero hcx hcy _)
    clear hcx hcy
    unfold numV
    go_wp2_with fail
    go_ret2
    exact ⟨by rw [HC.out]; rfl, (hb1.alloc hb1.size _).alloc (by have := hb1.size; simp; omega) _⟩
set_option maxRecDepth 100000 in
set_option maxHeartbeats 8000000 in
theorem idiv_of_any (a b : ByteArray) (ha : a.size < 4294967281) (hb : b.size < 4294967281) (w : World) (hg : GrN w) :
    Calls Tryz.prog 193 #[.string a, .string b] w fun e w' => e = .returned (resV (idivR a.data.toList b.data.toList)) ∧ Below w.heap.size w w' := by
  have cT := divisible_any a b ha hb w hg
  go_enter Tryz.func193, Tryz.ntmps193
  go_wp2_with fail
  refine cT.mono ?_
  rintro e w1 ⟨v1, v2, z, rfl, hv, hb1⟩
  clear cT
  rcases hv with ⟨rfl, bx, x, by_, y, hcx, hcy, hy0, ⟨p1, c1, rfl, hN1⟩, ⟨p2, c2, rfl, hN2⟩⟩ | ⟨⟨bx, p1, l1, c1, rfl⟩, ⟨by_, p2, l2, c2, rfl⟩, ⟨rfl, hcc⟩ | ⟨rfl, bx', x', by_', hcx, hcy⟩⟩
  · obtain ⟨R, hR⟩ : ∃ R, resR (!(bx == by_)) (x / y * 10 ^ 20) = R := ⟨_, rfl⟩
    have HR := Lib.hid (show idivR a.data.toList b.data.toList = R from (onD_some hcx hcy hy0 _).trans hR)
    have hx6 := canon_words hcx
    have hy6 := canon_words hcy
    have hbw2 : Below w1.heap.size w1 ((w1.alloc (.cells #[.bool bx, .slice p1 (wordsOf x).length c1] 88)).alloc (.cells #[.bool by_, .slice p2 (wordsOf y).length c2] 88)) := ((Below.refl _ w1).alloc (Nat.le_refl _) _).alloc (by simp) _
    have vX : VarAt ((w1.alloc (.cells #[.bool bx, .slice p1 (wordsOf x).length c1] 88)).alloc (.cells #[.bool by_, .slice p2 (wordsOf y).length c2] 88)) w1.heap.size bx p1 (wordsOf x).length c1 := (VarAt.new w1 _ _ _ _).below ((Below.refl _ _).alloc (Nat.le_refl _) _)
    have vY : VarAt ((w1.alloc (.cells #[.bool bx, .slice p1 (wordsOf x).length c1] 88)).alloc (.cells #[.bool by_, .slice p2 (wordsOf y).length c2] 88)) (w1.heap.size + 1) by_ p2 (wordsOf y).length c2 := by
      have := VarAt.new (w1.alloc (.cells #[.bool bx, .slice p1 (wordsOf x).length c1] 88)) by_ p2 (wordsOf y).length c2
      rwa [World.size_alloc] at this
    obtain ⟨W2, hW2⟩ : ∃ W2, (w1.alloc (.cells #[.bool bx, .slice p1 (wordsOf x).length c1] 88)).alloc (.cells #[.bool by_, .slice p2 (wordsOf y).length c2] 88) = W2 := ⟨_, rfl⟩
    rw [hW2] at hbw2 vX vY
    have hM1 := hN1.later hbw2
    have hM2 := hN2.later hbw2
    have hbW2 : Below w.heap.size w W2 := hb1.trans (hbw2.mono hb1.size)
    clear hN1 hN2 hbw2
    obtain ⟨U, hU⟩ : ∃ U, 10 ^ 20 = U := ⟨_, rfl⟩
    have hw10 := words_pow_len 20
    rw [hU] at hR hw10
    have hxy := words_mul (x / y) U
    have hxd := words_mono (Nat.div_le_self x y)
    have cD := divide_any (.slice p1 (wordsOf x).length c1) (.slice p2 (wordsOf y).length c2) x y hy0 (by omega) (by omega) W2 hM1 hM2
    have cW : ∀ W, Calls Tryz.prog 80 #[.int .i64 20] W fun e w' => ∃ x, e = .returned x ∧ Nats w' x (wordsOf U) ∧ Below W.heap.size W w' := fun W => by rw [← hU]; exact power_any 20 (by omega) W
    have HX := Lib.hid (And.intro vX vY)
    obtain ⟨y0, y1, _, _, s0⟩ := id vX
    obtain ⟨y2, y3, _, _, s1⟩ := id vY
    clear hcx hcy vX vY hM1 hM2 hU hy0
    unfold numV
    go_wp2_with fail
    try rw [hW2]
    clear hW2
    refine cD.mono ?_
    rintro e W3 ⟨q3, r3, rfl, hq3, hr3, hb3⟩
    obtain ⟨p3, c3, rfl⟩ := hq3.shape
    have hbW2 := hbW2.trans (hb3.mono hbW2.size)
    obtain ⟨vX, vY⟩ := HX.out
    have vX := vX.below hb3
    have vY := vY.below hb3
    clear y0 y1 y2 y3 s0 s1 hb3 hr3 cD
    obtain ⟨y0, y1, _, _, s0⟩ := id vX
    obtain ⟨y2, y3, _, _, s1⟩ := id vY
    have cM := fun W v (hW : Below W3.heap.size W3 W) (hv : Nats W v (wordsOf U)) => multiply_any (.slice p3 (wordsOf (x / y)).length c3) v (wordsOf (x / y)) (wordsOf U) (small_wordsOf _) (small_wordsOf _) (by omega) (by omega) W (hq3.later hW) hv
    simp only [val_wordsOf] at cM
    have cT := fun W (hW : Below W3.heap.size W3 W) p c (hq : Nats W (.slice p (wordsOf (x / y * U)).length c) (wordsOf (x / y * U))) => text_two R (!(bx == by_)) (numV (!(bx == by_)) p (wordsOf (x / y * U)).length c) _ (by omega) hR W (hg.later (hbW2.trans (hW.mono hbW2.size))) ⟨_, _, rfl, hq⟩
    clear hR hxy hw10 hxd vX vY
    unfold numV at cT
    go_wp2_with fail
    have bD : Below W3.heap.size W3 W3.drew := (Below.refl W3.heap.size W3).drew
    go_region_held3 (fun w' => w'.cell? ⟨w1.heap.size, 0, none⟩ = some (.bool bx) ∧ w'.cell? ⟨w1.heap.size, 1, none⟩ = some (.slice p1 (wordsOf x).length c1) ∧ w'.cell? ⟨w1.heap.size + 1, 0, none⟩ = some (.bool by_) ∧ w'.cell? ⟨w1.heap.size + 1, 1, none⟩ = some (.slice p2 (wordsOf y).length c2)) (first | exact ⟨T0, T1, T2, T3⟩ | exact ⟨M0, M1, M2, M3⟩ | exact ⟨V0, V1, V2, V3⟩ | exact ⟨y0, y1, y2, y3⟩) (first | (go_at_call 80; have c := cW W3.drew; refine c.mono ?_; rintro e wV ⟨qV, rfl, hqV, hbV⟩; have bV : Below W3.heap.size W3 wV := bD.trans (hbV.mono bD.size); have V0 := (bV.cell (p := ⟨w1.heap.size, 0, none⟩) s0).trans y0; have V1 := (bV.cell (p := ⟨w1.heap.size, 1, none⟩) s0).trans y1; have V2 := (bV.cell (p := ⟨w1.heap.size + 1, 0, none⟩) s1).trans y2; have V3 := (bV.cell (p := ⟨w1.heap.size + 1, 1, none⟩) s1).trans y3; obtain ⟨pV, cV2, rfl⟩ := hqV.shape) | (go_at_call 81; have c := cM wV _ bV hqV; refine c.mono ?_; rintro e wM ⟨qM, rfl, hqM, hbM⟩; have bM : Below W3.heap.size W3 wM := bV.trans (hbM.mono bV.size); have M0 := (bM.cell (p := ⟨w1.heap.size, 0, none⟩) s0).trans y0; have M1 := (bM.cell (p := ⟨w1.heap.size, 1, none⟩) s0).trans y1; have M2 := (bM.cell (p := ⟨w1.heap.size + 1, 0, none⟩) s1).trans y2; have M3 := (bM.cell (p := ⟨w1.heap.size + 1, 1, none⟩) s1).trans y3; obtain ⟨pM, cM2, rfl⟩ := hqM.shape) | (go_at_call 77; have c := cT wM bM _ _ hqM; refine c.mono ?_; rintro e wT ⟨rfl, hbT⟩; have bT : Below W3.heap.size W3 wT := bM.trans (hbT.mono bM.size); have T0 := (bT.cell (p := ⟨w1.heap.size, 0, none⟩) s0).trans y0; have T1 := (bT.cell (p := ⟨w1.heap.size, 1, none⟩) s0).trans y1; have T2 := (bT.cell (p := ⟨w1.heap.size + 1, 0, none⟩) s1).trans y2; have T3 := (bT.cell (p := ⟨w1.heap.size + 1, 1, none⟩) s1).trans y3))
    all_goals
      go_wp2_with fail
      go_ret2
      exact ⟨by rw [HR.out]; rfl, hbW2.trans (bT.mono hbW2.size)⟩
  · have HC := Lib.hid (show idivR a.data.toList b.data.toList = ([], 1) from onD_none hcc _)
    clear hcc
    unfold numV
    go_wp2_with fail
    go_ret2
    exact ⟨by rw [HC.out]; rfl, (hb1.alloc hb1.size _).alloc (by have := hb1.size; simp; omega) _⟩
  · have HC := Lib.hid (show idivR a.data.toList b.data.toList = ([], 41) from onD_zero hcx hcy _)
    clear hcx hcy
    unfold numV
    go_wp2_with fail
    go_ret2
    exact ⟨by rw [HC.out]; rfl, (hb1.alloc hb1.size _).alloc (by have := hb1.size; simp; omega) _⟩
set_option maxRecDepth 100000 in
set_option maxHeartbeats 8000000 in
theorem round_of_any (a how : ByteArray) (d : Int) (ha : a.size < 4294967281) (w : World) (hg : GrN w) :
    Calls Tryz.prog 34 #[.string a, .int .i64 d, .string how] w fun e w' => e = .returned (resV (roundR a.data.toList d how.data.toList)) ∧ Below w.heap.size w w' := by
  have cT := operand_any a ha w hg
  have hr1 : ∀ x, canonL a.data.toList = some x → (d < -30 ∨ 20 < d) → roundR a.data.toList d how.data.toList = ([], 6) := fun x h1 h2 => (on1_some h1 _).trans (if_pos h2)
  have hr2 : ∀ x, canonL a.data.toList = some x → ¬ (d < -30 ∨ 20 < d) → wayL how.data.toList = none → roundR a.data.toList d how.data.toList = ([], 1) := fun x h1 h2 h3 => (on1_some h1 _).trans ((if_neg h2).trans (by rw [h3]))
  have hr3 : ∀ bx x way, canonL a.data.toList = some (bx, x) → ¬ (d < -30 ∨ 20 < d) → wayL how.data.toList = some way → roundR a.data.toList d how.data.toList = resR bx (divW way bx x (10 ^ (20 - d).toNat) * 10 ^ (20 - d).toNat) := fun bx x way h1 h2 h3 => (on1_some h1 _).trans ((if_neg h2).trans (by rw [h3]))
  have hnil : ∀ w : World, Sem.run Tryz.prog (binOp BinOp.eql 102 Value.nilFunc Value.nilFunc) w = .ok (.bool true) w := fun _ => by kernel_rfl
  have hfun : ∀ (f : Nat) (w : World), Sem.run Tryz.prog (binOp BinOp.eql 102 (Value.func (Fn.func f) #[] #[]) Value.nilFunc) w = .ok (.bool false) w := fun _ _ => by kernel_rfl
  have HH := Lib.hid (And.intro hr1 (And.intro hr2 hr3))
  clear hr1 hr2 hr3
  go_enter Tryz.func34, Tryz.ntmps34
  go_wp2_with fail
  refine cT.mono ?_
  rintro e w1 ⟨v1, z, rfl, hv, hb1⟩
  clear cT
  rcases hv.err with ⟨rfl, bx, x, hcx, ⟨p1, c1, rfl, hN1⟩⟩ | ⟨rfl, hcc, rfl⟩
  · have hx6 := canon_words hcx
    have hbw2 : Below w1.heap.size w1 (w1.alloc (.cells #[.bool bx, .slice p1 (wordsOf x).length c1] 88)) := (Below.refl _ w1).alloc (Nat.le_refl _) _
    have hM1 := hN1.later hbw2
    have hbW2 := hb1.trans (hbw2.mono hb1.size)
    have vX := VarAt.new w1 bx p1 (wordsOf x).length c1
    obtain ⟨W2, hW2⟩ : ∃ W2, (w1.alloc (.cells #[.bool bx, .slice p1 (wordsOf x).length c1] 88)) = W2 := ⟨_, rfl⟩
    rw [hW2] at hM1 hbW2 vX
    clear hN1 hbw2 hv
    unfold numV
    by_cases hlo : d < -30
    · have HR := Lib.hid (HH.out.1 _ hcx (.inl hlo))
      clear hcx hM1 vX HH hx6
      go_wp2_with fail
      try rw [hW2]
      clear hW2
      go_ret2
      exact ⟨by rw [HR.out]; rfl, hbW2⟩
    by_cases hhi : 20 < d
    · have HR := Lib.hid (HH.out.1 _ hcx (.inr hhi))
      clear hcx hM1 vX HH hx6
      go_wp2_with fail
      try rw [hW2]
      clear hW2
      go_ret2
      exact ⟨by rw [HR.out]; rfl, hbW2⟩
    have hrng : ¬ (d < -30 ∨ 20 < d) := by omega
    have cR := rounding_any how W2
    unfold RoundingGives at cR
    cases hwl : wayL how.data.toList with
    | none =>
      have HR := Lib.hid (HH.out.2.1 _ hcx hrng hwl)
      rw [hwl] at cR
      simp only at cR
      clear hcx hM1 vX HH hx6 hrng hwl
      go_wp2_with fail
      try rw [hW2]
      clear hW2
      refine cR.mono ?_
      rintro e w3 ⟨v, rfl, rfl, rfl⟩
      go_wp2_with fail
      go_ret2
      exact ⟨by rw [HR.out]; rfl, hbW2⟩
    | some way =>
      rw [hwl] at cR
      simp only at cR
      obtain ⟨n, hn⟩ : ∃ n, (20 - d).toNat = n := ⟨_, rfl⟩
      have hnd : 20 - d = (n : Int) := by omega
      have hn50 : n ≤ 50 := by omega
      obtain ⟨U, hU⟩ : ∃ U, 10 ^ n = U := ⟨_, rfl⟩
      have hU0 : U ≠ 0 := by rw [← hU]; exact Nat.pos_iff_ne_zero.1 (Nat.pow_pos (by omega))
      have hw10 := words_pow_len n
      rw [hU] at hw10
      have hHR := HH.out.2.2 _ _ _ hcx hrng hwl
      rw [hn, hU] at hHR
      obtain ⟨D, hD⟩ : ∃ D, divW way bx x U = D := ⟨_, rfl⟩
      have hwd := words_divW way bx x U
      have hwm := words_mul D U
      rw [hD] at hHR hwd
      obtain ⟨R, hR⟩ : ∃ R, resR bx (D * U) = R := ⟨_, rfl⟩
      rw [hR] at hHR
      have HR := Lib.hid hHR
      have cV : ∀ W, Calls Tryz.prog 80 #[.int .i64 (20 - d)] W fun e w' => ∃ x, e = .returned x ∧ Nats w' x (wordsOf U) ∧ Below W.heap.size W w' := fun W => by rw [← hU, hnd]; exact power_any n (by omega) W
      have cD := fun W f (hf : WayIs f way) v (hW : Below W2.heap.size W2 W) (hv : Nats W v (wordsOf U)) => wayDivide_any f way hf bx (.slice p1 (wordsOf x).length c1) v x U hU0 (by omega) (by omega) W (hM1.later hW) hv
      rw [hD] at cD
      unfold wayFn at cD cR
      have cM := fun W u v (h1 : Nats W u (wordsOf D)) (h2 : Nats W v (wordsOf U)) => multiply_any u v (wordsOf D) (wordsOf U) (small_wordsOf _) (small_wordsOf _) (by omega) (by omega) W h1 h2
      simp only [val_wordsOf] at cM
      have cT := fun W (hW : Below W2.heap.size W2 W) p c (hq : Nats W (.slice p (wordsOf (D * U)).length c) (wordsOf (D * U))) => text_two R bx (numV bx p (wordsOf (D * U)).length c) _ (by omega) hR W (hg.later (hbW2.trans (hW.mono hbW2.size))) ⟨_, _, rfl, hq⟩
      unfold numV at cT
      have HX := Lib.hid vX
      have hw64 : wrap64 (20 - d) = 20 - d := by unfold wrap64; omega
      clear hcx hM1 vX HH hx6 hrng hwl hR hHR hwm hwd hD hw10 hU hn hnd hn50 hU0
      go_wp2_with fail
      try rw [hW2]
      clear hW2
      refine cR.mono ?_
      rintro e w3 ⟨v, rfl, ⟨f, rfl, hf⟩, rfl⟩
      go_wp2_with fail
      refine (cV _).mono ?_
      rintro e W3 ⟨qV, rfl, hqV, hbV⟩
      obtain ⟨pV, cV2, rfl⟩ := hqV.shape
      have vX := HX.out.below hbV
      obtain ⟨y0, y1, _, _, s0⟩ := id vX
      have hbW3 := hbW2.trans (hbV.mono hbW2.size)
      clear vX HX cV
      have bD : Below W3.heap.size W3 W3.drew := (Below.refl W3.heap.size W3).drew
      go_wp2_with fail
      go_region_held3 (fun w' => w'.cell? ⟨w1.heap.size, 0, none⟩ = some (.bool bx) ∧ w'.cell? ⟨w1.heap.size, 1, none⟩ = some (.slice p1 (wordsOf x).length c1)) (first | exact ⟨T0, T1⟩ | exact ⟨M0, M1⟩ | exact ⟨Q0, Q1⟩ | exact ⟨y0, y1⟩) (first | (go_at_call 82; have c := cD W3.drew _ hf _ (hbV.drew) (hqV.later bD); refine c.mono ?_; rintro e wQ ⟨qQ, rfl, hqQ, hbQ⟩; have bQ : Below W3.heap.size W3 wQ := bD.trans (hbQ.mono bD.size); have Q0 := (bQ.cell (p := ⟨w1.heap.size, 0, none⟩) s0).trans y0; have Q1 := (bQ.cell (p := ⟨w1.heap.size, 1, none⟩) s0).trans y1; obtain ⟨pQ, cQ2, rfl⟩ := hqQ.shape) | (go_at_call 81; have c := cM wQ _ _ hqQ (hqV.later bQ); refine c.mono ?_; rintro e wM ⟨qM, rfl, hqM, hbM⟩; have bM : Below W3.heap.size W3 wM := bQ.trans (hbM.mono bQ.size); have M0 := (bM.cell (p := ⟨w1.heap.size, 0, none⟩) s0).trans y0; have M1 := (bM.cell (p := ⟨w1.heap.size, 1, none⟩) s0).trans y1; obtain ⟨pM, cM2, rfl⟩ := hqM.shape) | (go_at_call 77; have c := cT wM (hbV.trans (bM.mono hbV.size)) _ _ hqM; refine c.mono ?_; rintro e wT ⟨rfl, hbT⟩; have bT : Below W3.heap.size W3 wT := bM.trans (hbT.mono bM.size); have T0 := (bT.cell (p := ⟨w1.heap.size, 0, none⟩) s0).trans y0; have T1 := (bT.cell (p := ⟨w1.heap.size, 1, none⟩) s0).trans y1))
      all_goals
        go_wp2_with fail
        go_ret2
        exact ⟨by rw [HR.out]; rfl, hbW3.trans (bT.mono hbW3.size)⟩
  · have HC := Lib.hid (show roundR a.data.toList d how.data.toList = ([], 1) from on1_none hcc _)
    clear hcc hv HH
    unfold numV
    go_wp2_with fail
    go_ret2
    exact ⟨by rw [HC.out]; rfl, hb1.alloc hb1.size _⟩
end Go.Proofs.YtgmnjghbafbopaaGreatDoor

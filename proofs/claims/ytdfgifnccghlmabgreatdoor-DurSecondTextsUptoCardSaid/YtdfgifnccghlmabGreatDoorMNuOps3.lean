/- Numbers: the package's functions: Sub, Mul, Div, IDiv, Round. -/
import Derived.Test.YtdfgifnccghlmabGreatDoorMNuOps2
import Derived.Test.YtdfgifnccghlmabGreatDoorMNuVar
import Derived.Test.YtdfgifnccghlmabGreatDoorMNuText
import Derived.Test.YtdfgifnccghlmabGreatDoorMNuWayDiv
namespace Go.Proofs.YtdfgifnccghlmabGreatDoor
open Go.RowKit Go.Lib

set_option maxRecDepth 100000 in
set_option maxHeartbeats 8000000 in
theorem mul_of_any (a b : ByteArray) (ha : a.size < 4294967281) (hb : b.size < 4294967281) (w : World) (hg : GrN w) :
    Calls Tryz.prog 52 #[.string a, .string b] w fun e w' => e = .returned (resV (mulR a.data.toList b.data.toList)) ∧ Below w.heap.size w w' := by
  have cT := operands_any a b ha hb w hg
  go_enter Tryz.func52, Tryz.ntmps52
  go_wp2_with fail
  refine cT.mono ?_
  rintro e w1 ⟨v1, v2, z, rfl, hv, hb1⟩
  clear cT
  rcases hv with ⟨rfl, bx, x, by_, y, hcx, hcy, ⟨p1, c1, rfl, hN1⟩, ⟨p2, c2, rfl, hN2⟩⟩ | ⟨rfl, hcc, ⟨bx, p1, l1, c1, rfl⟩, ⟨by_, p2, l2, c2, rfl⟩⟩
  · obtain ⟨R, hR⟩ : ∃ R, resR (!(bx == by_)) (divW evenW (!(bx == by_)) (x * y) (10 ^ 20)) = R := ⟨_, rfl⟩
    have HR := Lib.hid (show mulR a.data.toList b.data.toList = R from (on2_some hcx hcy _).trans hR)
    have hx6 := canon_words hcx
    have hy6 := canon_words hcy
    have hbw2 : Below w1.heap.size w1 ((w1.alloc (.cells #[.bool bx, .slice p1 (wordsOf x).length c1] 70)).alloc (.cells #[.bool by_, .slice p2 (wordsOf y).length c2] 70)) := ((Below.refl _ w1).alloc (Nat.le_refl _) _).alloc (by simp) _
    have vX : VarAt ((w1.alloc (.cells #[.bool bx, .slice p1 (wordsOf x).length c1] 70)).alloc (.cells #[.bool by_, .slice p2 (wordsOf y).length c2] 70)) w1.heap.size bx p1 (wordsOf x).length c1 := (VarAt.new w1 _ _ _ _).below ((Below.refl _ _).alloc (Nat.le_refl _) _)
    have vY : VarAt ((w1.alloc (.cells #[.bool bx, .slice p1 (wordsOf x).length c1] 70)).alloc (.cells #[.bool by_, .slice p2 (wordsOf y).length c2] 70)) (w1.heap.size + 1) by_ p2 (wordsOf y).length c2 := by
      have := VarAt.new (w1.alloc (.cells #[.bool bx, .slice p1 (wordsOf x).length c1] 70)) by_ p2 (wordsOf y).length c2
      rwa [World.size_alloc] at this
    obtain ⟨W2, hW2⟩ : ∃ W2, (w1.alloc (.cells #[.bool bx, .slice p1 (wordsOf x).length c1] 70)).alloc (.cells #[.bool by_, .slice p2 (wordsOf y).length c2] 70) = W2 := ⟨_, rfl⟩
    rw [hW2] at hbw2 vX vY
    have hM1 := hN1.later hbw2
    have hM2 := hN2.later hbw2
    have hbW2 : Below w.heap.size w W2 := hb1.trans (hbw2.mono hb1.size)
    clear hN1 hN2 hbw2
    have hxy := words_mul x y
    have hw10 := words_pow_len 20
    have hwd := words_divW evenW (!(bx == by_)) (x * y) (10 ^ 20)
    obtain ⟨U, hU⟩ : ∃ U, 10 ^ 20 = U := ⟨_, rfl⟩
    have hU0 : U ≠ 0 := by rw [← hU]; decide
    rw [hU] at hR hwd hw10
    have cM := fun W (hW : Below W2.heap.size W2 W) => multiply_any (.slice p1 (wordsOf x).length c1) (.slice p2 (wordsOf y).length c2) (wordsOf x) (wordsOf y) (small_wordsOf _) (small_wordsOf _) (by omega) (by omega) W (hM1.later hW) (hM2.later hW)
    simp only [val_wordsOf] at cM
    have cW : ∀ W, Calls Tryz.prog 48 #[.int .i64 20] W fun e w' => ∃ x, e = .returned x ∧ Nats w' x (wordsOf U) ∧ Below W.heap.size W w' := fun W => by rw [← hU]; exact power_any 20 (by omega) W
    have cQ := fun W u v h1 h2 => ratio_any (!(bx == by_)) u v (x * y) U hU0 (by omega) (by omega) W h1 h2
    have cT := fun W (hW : Below W2.heap.size W2 W) q (hq : NumAt W q (!(bx == by_)) (divW evenW (!(bx == by_)) (x * y) U)) => text_two R (!(bx == by_)) q _ (by omega) hR W (hg.later (hbW2.trans (hW.mono hbW2.size))) hq
    obtain ⟨y0, y1, _, _, s0⟩ := id vX
    obtain ⟨y2, y3, _, _, s1⟩ := id vY
    clear hcx hcy vX vY hM1 hM2 hR hU hxy hw10 hwd hU0
    unfold numV
    go_wp2_with fail
    try rw [hW2]
    clear hW2
    have bD : Below W2.heap.size W2 W2.drew := (Below.refl W2.heap.size W2).drew
    go_region_held3 (fun w' => w'.cell? ⟨w1.heap.size, 0, none⟩ = some (.bool bx) ∧ w'.cell? ⟨w1.heap.size, 1, none⟩ = some (.slice p1 (wordsOf x).length c1) ∧ w'.cell? ⟨w1.heap.size + 1, 0, none⟩ = some (.bool by_) ∧ w'.cell? ⟨w1.heap.size + 1, 1, none⟩ = some (.slice p2 (wordsOf y).length c2)) (first | exact ⟨T0, T1, T2, T3⟩ | exact ⟨Q0, Q1, Q2, Q3⟩ | exact ⟨V0, V1, V2, V3⟩ | exact ⟨M0, M1, M2, M3⟩ | exact ⟨y0, y1, y2, y3⟩) (first | (go_at_call 47; have c := cM W2.drew bD; refine c.mono ?_; rintro e wM ⟨qM, rfl, hqM, hbM⟩; have bM : Below W2.heap.size W2 wM := bD.trans (hbM.mono bD.size); have M0 := (bM.cell (p := ⟨w1.heap.size, 0, none⟩) s0).trans y0; have M1 := (bM.cell (p := ⟨w1.heap.size, 1, none⟩) s0).trans y1; have M2 := (bM.cell (p := ⟨w1.heap.size + 1, 0, none⟩) s1).trans y2; have M3 := (bM.cell (p := ⟨w1.heap.size + 1, 1, none⟩) s1).trans y3; obtain ⟨pM, cM2, rfl⟩ := hqM.shape) | (go_at_call 48; have c := cW wM; refine c.mono ?_; rintro e wV ⟨qV, rfl, hqV, hbV⟩; have bV : Below W2.heap.size W2 wV := bM.trans (hbV.mono bM.size); have V0 := (bV.cell (p := ⟨w1.heap.size, 0, none⟩) s0).trans y0; have V1 := (bV.cell (p := ⟨w1.heap.size, 1, none⟩) s0).trans y1; have V2 := (bV.cell (p := ⟨w1.heap.size + 1, 0, none⟩) s1).trans y2; have V3 := (bV.cell (p := ⟨w1.heap.size + 1, 1, none⟩) s1).trans y3; obtain ⟨pV, cV2, rfl⟩ := hqV.shape) | (go_at_call 46; have c := cQ wV _ _ (hqM.later hbV) hqV; refine c.mono ?_; rintro e wQ ⟨qQ, rfl, hqQ, hbQ⟩; have bQ : Below W2.heap.size W2 wQ := bV.trans (hbQ.mono bV.size); have Q0 := (bQ.cell (p := ⟨w1.heap.size, 0, none⟩) s0).trans y0; have Q1 := (bQ.cell (p := ⟨w1.heap.size, 1, none⟩) s0).trans y1; have Q2 := (bQ.cell (p := ⟨w1.heap.size + 1, 0, none⟩) s1).trans y2; have Q3 := (bQ.cell (p := ⟨w1.heap.size + 1, 1, none⟩) s1).trans y3) | (go_at_call 44; have c := cT wQ bQ _ hqQ; refine c.mono ?_; rintro e wT ⟨rfl, hbT⟩; have bT : Below W2.heap.size W2 wT := bQ.trans (hbT.mono bQ.size); have T0 := (bT.cell (p := ⟨w1.heap.size, 0, none⟩) s0).trans y0; have T1 := (bT.cell (p := ⟨w1.heap.size, 1, none⟩) s0).trans y1; have T2 := (bT.cell (p := ⟨w1.heap.size + 1, 0, none⟩) s1).trans y2; have T3 := (bT.cell (p := ⟨w1.heap.size + 1, 1, none⟩) s1).trans y3))
    all_goals
      go_wp2_with fail
      go_ret2
      exact ⟨by rw [HR.out]; rfl, hbW2.trans (bT.mono hbW2.size)⟩
  · have HC := Lib.hid (show mulR a.data.toList b.data.toList = ([], 1) from on2_none hcc _)
    clear hcc
    unfold numV
    go_wp2_with fail
    go_ret2
    exact ⟨by rw [HC.out]; rfl, (hb1.alloc hb1.size _).alloc (by have := hb1.size; simp; omega) _⟩
set_option maxRecDepth 100000 in
set_option maxHeartbeats 8000000 in
theorem quo_of_any (a b : ByteArray) (ha : a.size < 4294967281) (hb : b.size < 4294967281) (w : World) (hg : GrN w) :
    Calls Tryz.prog 23 #[.string a, .string b] w fun e w' => e = .returned (resV (quoR a.data.toList b.data.toList)) ∧ Below w.heap.size w w' := by
  have cT := divisible_any a b ha hb w hg
  go_enter Tryz.func23, Tryz.ntmps23
  go_wp2_with fail
  refine cT.mono ?_
  rintro e w1 ⟨v1, v2, z, rfl, hv, hb1⟩
  clear cT
  rcases hv with ⟨rfl, bx, x, by_, y, hcx, hcy, hy0, ⟨p1, c1, rfl, hN1⟩, ⟨p2, c2, rfl, hN2⟩⟩ | ⟨⟨bx, p1, l1, c1, rfl⟩, ⟨by_, p2, l2, c2, rfl⟩, ⟨rfl, hcc⟩ | ⟨rfl, bx', x', by_', hcx, hcy⟩⟩
  · obtain ⟨R, hR⟩ : ∃ R, resR (!(bx == by_)) (divW evenW (!(bx == by_)) (x * 10 ^ 20) y) = R := ⟨_, rfl⟩
    have HR := Lib.hid (show quoR a.data.toList b.data.toList = R from (onD_some hcx hcy hy0 _).trans hR)
    have hx6 := canon_words hcx
    have hy6 := canon_words hcy
    have hbw2 : Below w1.heap.size w1 ((w1.alloc (.cells #[.bool bx, .slice p1 (wordsOf x).length c1] 70)).alloc (.cells #[.bool by_, .slice p2 (wordsOf y).length c2] 70)) := ((Below.refl _ w1).alloc (Nat.le_refl _) _).alloc (by simp) _
    have vX : VarAt ((w1.alloc (.cells #[.bool bx, .slice p1 (wordsOf x).length c1] 70)).alloc (.cells #[.bool by_, .slice p2 (wordsOf y).length c2] 70)) w1.heap.size bx p1 (wordsOf x).length c1 := (VarAt.new w1 _ _ _ _).below ((Below.refl _ _).alloc (Nat.le_refl _) _)
    have vY : VarAt ((w1.alloc (.cells #[.bool bx, .slice p1 (wordsOf x).length c1] 70)).alloc (.cells #[.bool by_, .slice p2 (wordsOf y).length c2] 70)) (w1.heap.size + 1) by_ p2 (wordsOf y).length c2 := by
      have := VarAt.new (w1.alloc (.cells #[.bool bx, .slice p1 (wordsOf x).length c1] 70)) by_ p2 (wordsOf y).length c2
      rwa [World.size_alloc] at this
    obtain ⟨W2, hW2⟩ : ∃ W2, (w1.alloc (.cells #[.bool bx, .slice p1 (wordsOf x).length c1] 70)).alloc (.cells #[.bool by_, .slice p2 (wordsOf y).length c2] 70) = W2 := ⟨_, rfl⟩
    rw [hW2] at hbw2 vX vY
    have hM1 := hN1.later hbw2
    have hM2 := hN2.later hbw2
    have hbW2 : Below w.heap.size w W2 := hb1.trans (hbw2.mono hb1.size)
    clear hN1 hN2 hbw2
    obtain ⟨U, hU⟩ : ∃ U, 10 ^ 20 = U := ⟨_, rfl⟩
    have hw10 := words_pow_len 20
    rw [hU] at hR hw10
    have hxy := words_mul x U
    have hwd := words_divW evenW (!(bx == by_)) (x * U) y
    have cW : ∀ W, Calls Tryz.prog 48 #[.int .i64 20] W fun e w' => ∃ x, e = .returned x ∧ Nats w' x (wordsOf U) ∧ Below W.heap.size W w' := fun W => by rw [← hU]; exact power_any 20 (by omega) W
    have cM := fun W v (hW : Below W2.heap.size W2 W) (hv : Nats W v (wordsOf U)) => multiply_any (.slice p1 (wordsOf x).length c1) v (wordsOf x) (wordsOf U) (small_wordsOf _) (small_wordsOf _) (by omega) (by omega) W (hM1.later hW) hv
    simp only [val_wordsOf] at cM
    have cQ := fun W u (hW : Below W2.heap.size W2 W) h1 => ratio_any (!(bx == by_)) u (.slice p2 (wordsOf y).length c2) (x * U) y hy0 (by omega) (by omega) W h1 (hM2.later hW)
    have cT := fun W (hW : Below W2.heap.size W2 W) q (hq : NumAt W q (!(bx == by_)) (divW evenW (!(bx == by_)) (x * U) y)) => text_two R (!(bx == by_)) q _ (by omega) hR W (hg.later (hbW2.trans (hW.mono hbW2.size))) hq
    obtain ⟨y0, y1, _, _, s0⟩ := id vX
    obtain ⟨y2, y3, _, _, s1⟩ := id vY
    clear hcx hcy vX vY hM1 hM2 hR hU hxy hw10 hwd hy0
    unfold numV
    go_wp2_with fail
    try rw [hW2]
    clear hW2
    have bD : Below W2.heap.size W2 W2.drew := (Below.refl W2.heap.size W2).drew
    go_region_held3 (fun w' => w'.cell? ⟨w1.heap.size, 0, none⟩ = some (.bool bx) ∧ w'.cell? ⟨w1.heap.size, 1, none⟩ = some (.slice p1 (wordsOf x).length c1) ∧ w'.cell? ⟨w1.heap.size + 1, 0, none⟩ = some (.bool by_) ∧ w'.cell? ⟨w1.heap.size + 1, 1, none⟩ = some (.slice p2 (wordsOf y).length c2)) (first | exact ⟨T0, T1, T2, T3⟩ | exact ⟨Q0, Q1, Q2, Q3⟩ | exact ⟨M0, M1, M2, M3⟩ | exact ⟨V0, V1, V2, V3⟩ | exact ⟨y0, y1, y2, y3⟩) (first | (go_at_call 48; have c := cW W2.drew; refine c.mono ?_; rintro e wV ⟨qV, rfl, hqV, hbV⟩; have bV : Below W2.heap.size W2 wV := bD.trans (hbV.mono bD.size); have V0 := (bV.cell (p := ⟨w1.heap.size, 0, none⟩) s0).trans y0; have V1 := (bV.cell (p := ⟨w1.heap.size, 1, none⟩) s0).trans y1; have V2 := (bV.cell (p := ⟨w1.heap.size + 1, 0, none⟩) s1).trans y2; have V3 := (bV.cell (p := ⟨w1.heap.size + 1, 1, none⟩) s1).trans y3; obtain ⟨pV, cV2, rfl⟩ := hqV.shape) | (go_at_call 47; have c := cM wV _ bV hqV; refine c.mono ?_; rintro e wM ⟨qM, rfl, hqM, hbM⟩; have bM : Below W2.heap.size W2 wM := bV.trans (hbM.mono bV.size); have M0 := (bM.cell (p := ⟨w1.heap.size, 0, none⟩) s0).trans y0; have M1 := (bM.cell (p := ⟨w1.heap.size, 1, none⟩) s0).trans y1; have M2 := (bM.cell (p := ⟨w1.heap.size + 1, 0, none⟩) s1).trans y2; have M3 := (bM.cell (p := ⟨w1.heap.size + 1, 1, none⟩) s1).trans y3; obtain ⟨pM, cM2, rfl⟩ := hqM.shape) | (go_at_call 46; have c := cQ wM _ bM hqM; refine c.mono ?_; rintro e wQ ⟨qQ, rfl, hqQ, hbQ⟩; have bQ : Below W2.heap.size W2 wQ := bM.trans (hbQ.mono bM.size); have Q0 := (bQ.cell (p := ⟨w1.heap.size, 0, none⟩) s0).trans y0; have Q1 := (bQ.cell (p := ⟨w1.heap.size, 1, none⟩) s0).trans y1; have Q2 := (bQ.cell (p := ⟨w1.heap.size + 1, 0, none⟩) s1).trans y2; have Q3 := (bQ.cell (p := ⟨w1.heap.size + 1, 1, none⟩) s1).trans y3) | (go_at_call 44; have c := cT wQ bQ _ hqQ; refine c.mono ?_; rintro e wT ⟨rfl, hbT⟩; have bT : Below W2.heap.size W2 wT := bQ.trans (hbT.mono bQ.size); have T0 := (bT.cell (p := ⟨w1.heap.size, 0, none⟩) s0).trans y0; have T1 := (bT.cell (p := ⟨w1.heap.size, 1, none⟩) s0).trans y1; have T2 := (bT.cell (p := ⟨w1.heap.size + 1, 0, none⟩) s1).trans y2; have T3 := (bT.cell (p := ⟨w1.heap.size + 1, 1, none⟩) s1).trans y3))
    all_goals
      go_wp2_with fail
      go_ret2
      exact ⟨by rw [HR.out]; rfl, hbW2.trans (bT.mono hbW2.size)⟩
  · have HC := Lib.hid (show quoR a.data.toList b.data.toList = ([], 1) from onD_none hcc _)
    clear hcc
    unfold numV
    go_wp2_with fail
    go_ret2
    exact ⟨by rw [HC.out]; rfl, (hb1.alloc hb1.size _).alloc (by have := hb1.size; simp; omega) _⟩
  · have HC := Lib.hid (show quoR a.data.toList b.data.toList = ([], 41) from onD_zero hcx hcy _)
    clear hcx hcy
    unfold numV
    go_wp2_with fail
    go_ret2
    exact ⟨by rw [HC.out]; rfl, (hb1.alloc hb1.size _).alloc (by have := hb1.size; simp; omega) _⟩
set_option maxRecDepth 100000 in
set_option maxHeartbeats 8000000 in
theorem idiv_of_any (a b : ByteArray) (ha : a.size < 4294967281) (hb : b.size < 4294967281) (w : World) (hg : GrN w) :
    Calls Tryz.prog 63 #[.string a, .string b] w fun e w' => e = .returned (resV (idivR a.data.toList b.data.toList)) ∧ Below w.heap.size w w' := by
  have cT := divisible_any a b ha hb w hg
  go_enter Tryz.func63, Tryz.ntmps63
  go_wp2_with fail
  refine cT.mono ?_
  rintro e w1 ⟨v1, v2, z, rfl, hv, hb1⟩
  clear cT
  rcases hv with ⟨rfl, bx, x, by_, y, hcx, hcy, hy0, ⟨p1, c1, rfl, hN1⟩, ⟨p2, c2, rfl, hN2⟩⟩ | ⟨⟨bx, p1, l1, c1, rfl⟩, ⟨by_, p2, l2, c2, rfl⟩, ⟨rfl, hcc⟩ | ⟨rfl, bx', x', by_', hcx, hcy⟩⟩
  · obtain ⟨R, hR⟩ : ∃ R, resR (!(bx == by_)) (x / y * 10 ^ 20) = R := ⟨_, rfl⟩
    have HR := Lib.hid (show idivR a.data.toList b.data.toList = R from (onD_some hcx hcy hy0 _).trans hR)
    have hx6 := canon_words hcx
    have hy6 := canon_words hcy
    have hbw2 : Below w1.heap.size w1 ((w1.alloc (.cells #[.bool bx, .slice p1 (wordsOf x).length c1] 70)).alloc (.cells #[.bool by_, .slice p2 (wordsOf y).length c2] 70)) := ((Below.refl _ w1).alloc (Nat.le_refl _) _).alloc (by simp) _
    have vX : VarAt ((w1.alloc (.cells #[.bool bx, .slice p1 (wordsOf x).length c1] 70)).alloc (.cells #[.bool by_, .slice p2 (wordsOf y).length c2] 70)) w1.heap.size bx p1 (wordsOf x).length c1 := (VarAt.new w1 _ _ _ _).below ((Below.refl _ _).alloc (Nat.le_refl _) _)
    have vY : VarAt ((w1.alloc (.cells #[.bool bx, .slice p1 (wordsOf x).length c1] 70)).alloc (.cells #[.bool by_, .slice p2 (wordsOf y).length c2] 70)) (w1.heap.size + 1) by_ p2 (wordsOf y).length c2 := by
      have := VarAt.new (w1.alloc (.cells #[.bool bx, .slice p1 (wordsOf x).length c1] 70)) by_ p2 (wordsOf y).length c2
      rwa [World.size_alloc] at this
    obtain ⟨W2, hW2⟩ : ∃ W2, (w1.alloc (.cells #[.bool bx, .slice p1 (wordsOf x).length c1] 70)).alloc (.cells #[.bool by_, .slice p2 (wordsOf y).length c2] 70) = W2 := ⟨_, rfl⟩
    rw [hW2] at hbw2 vX vY
    have hM1 := hN1.later hbw2
    have hM2 := hN2.later hbw2
    have hbW2 : Below w.heap.size w W2 := hb1.trans (hbw2.mono hb1.size)
    clear hN1 hN2 hbw2
    obtain ⟨U, hU⟩ : ∃ U, 10 ^ 20 = U := ⟨_, rfl⟩
    have hw10 := words_pow_len 20
    rw [hU] at hR hw10
    have hxy := words_mul (x / y) U
    have hxd := words_mono (Nat.div_le_self x y)
    have cD := divide_any (.slice p1 (wordsOf x).length c1) (.slice p2 (wordsOf y).length c2) x y hy0 (by omega) (by omega) W2 hM1 hM2
    have cW : ∀ W, Calls Tryz.prog 48 #[.int .i64 20] W fun e w' => ∃ x, e = .returned x ∧ Nats w' x (wordsOf U) ∧ Below W.heap.size W w' := fun W => by rw [← hU]; exact power_any 20 (by omega) W
    have HX := Lib.hid (And.intro vX vY)
    obtain ⟨y0, y1, _, _, s0⟩ := id vX
    obtain ⟨y2, y3, _, _, s1⟩ := id vY
    clear hcx hcy vX vY hM1 hM2 hU hy0
    unfold numV
    go_wp2_with fail
    try rw [hW2]
    clear hW2
    refine cD.mono ?_
    rintro e W3 ⟨q3, r3, rfl, hq3, hr3, hb3⟩
    obtain ⟨p3, c3, rfl⟩ := hq3.shape
    have hbW2 := hbW2.trans (hb3.mono hbW2.size)
    obtain ⟨vX, vY⟩ := HX.out
    have vX := vX.below hb3
    have vY := vY.below hb3
    clear y0 y1 y2 y3 s0 s1 hb3 hr3 cD
    obtain ⟨y0, y1, _, _, s0⟩ := id vX
    obtain ⟨y2, y3, _, _, s1⟩ := id vY
    have cM := fun W v (hW : Below W3.heap.size W3 W) (hv : Nats W v (wordsOf U)) => multiply_any (.slice p3 (wordsOf (x / y)).length c3) v (wordsOf (x / y)) (wordsOf U) (small_wordsOf _) (small_wordsOf _) (by omega) (by omega) W (hq3.later hW) hv
    simp only [val_wordsOf] at cM
    have cT := fun W (hW : Below W3.heap.size W3 W) p c (hq : Nats W (.slice p (wordsOf (x / y * U)).length c) (wordsOf (x / y * U))) => text_two R (!(bx == by_)) (numV (!(bx == by_)) p (wordsOf (x / y * U)).length c) _ (by omega) hR W (hg.later (hbW2.trans (hW.mono hbW2.size))) ⟨_, _, rfl, hq⟩
    clear hR hxy hw10 hxd vX vY
    unfold numV at cT
    go_wp2_with fail
    have bD : Below W3.heap.size W3 W3.drew := (Below.refl W3.heap.size W3).drew
    go_region_held3 (fun w' => w'.cell? ⟨w1.heap.size, 0, none⟩ = some (.bool bx) ∧ w'.cell? ⟨w1.heap.size, 1, none⟩ = some (.slice p1 (wordsOf x).length c1) ∧ w'.cell? ⟨w1.heap.size + 1, 0, none⟩ = some (.bool by_) ∧ w'.cell? ⟨w1.heap.size + 1, 1, none⟩ = some (.slice p2 (wordsOf y).length c2)) (first | exact ⟨T0, T1, T2, T3⟩ | exact ⟨M0, M1, M2, M3⟩ | exact ⟨V0, V1, V2, V3⟩ | exact ⟨y0, y1, y2, y3⟩) (first | (go_at_call 48; have c := cW W3.drew; refine c.mono ?_; rintro e wV ⟨qV, rfl, hqV, hbV⟩; have bV : Below W3.heap.size W3 wV := bD.trans (hbV.mono bD.size); have V0 := (bV.cell (p := ⟨w1.heap.size, 0, none⟩) s0).trans y0; have V1 := (bV.cell (p := ⟨w1.heap.size, 1, none⟩) s0).trans y1; have V2 := (bV.cell (p := ⟨w1.heap.size + 1, 0, none⟩) s1).trans y2; have V3 := (bV.cell (p := ⟨w1.heap.size + 1, 1, none⟩) s1).trans y3; obtain ⟨pV, cV2, rfl⟩ := hqV.shape) | (go_at_call 47; have c := cM wV _ bV hqV; refine c.mono ?_; rintro e wM ⟨qM, rfl, hqM, hbM⟩; have bM : Below W3.heap.size W3 wM := bV.trans (hbM.mono bV.size); have M0 := (bM.cell (p := ⟨w1.heap.size, 0, none⟩) s0).trans y0; have M1 := (bM.cell (p := ⟨w1.heap.size, 1, none⟩) s0).trans y1; have M2 := (bM.cell (p := ⟨w1.heap.size + 1, 0, none⟩) s1).trans y2; have M3 := (bM.cell (p := ⟨w1.heap.size + 1, 1, none⟩) s1).trans y3; obtain ⟨pM, cM2, rfl⟩ := hqM.shape) | (go_at_call 44; have c := cT wM bM _ _ hqM; refine c.mono ?_; rintro e wT ⟨rfl, hbT⟩; have bT : Below W3.heap.size W3 wT := bM.trans (hbT.mono bM.size); have T0 := (bT.cell (p := ⟨w1.heap.size, 0, none⟩) s0).trans y0; have T1 := (bT.cell (p := ⟨w1.heap.size, 1, none⟩) s0).trans y1; have T2 := (bT.cell (p := ⟨w1.heap.size + 1, 0, none⟩) s1).trans y2; have T3 := (bT.cell (p := ⟨w1.heap.size + 1, 1, none⟩) s1).trans y3))
    all_goals
      go_wp2_with fail
      go_ret2
      exact ⟨by rw [HR.out]; rfl, hbW2.trans (bT.mono hbW2.size)⟩
  · have HC := Lib.hid (show idivR a.data.toList b.data.toList = ([], 1) from onD_none hcc _)
    clear hcc
    unfold numV
    go_wp2_with fail
    go_ret2
    exact ⟨by rw [HC.out]; rfl, (hb1.alloc hb1.size _).alloc (by have := hb1.size; simp; omega) _⟩
  · have HC := Lib.hid (show idivR a.data.toList b.data.toList = ([], 41) from onD_zero hcx hcy _)
    clear hcx hcy
    unfold numV
    go_wp2_with fail
    go_ret2
    exact ⟨by rw [HC.out]; rfl, (hb1.alloc hb1.size _).alloc (by have := hb1.size; simp; omega) _⟩
end Go.Proofs.YtdfgifnccghlmabGreatDoor

/- The specification of num: the contract of Div. -/
import Derived.Test.YtcicjoamnlnlnaaGreatDoorMRfOps2
namespace Go.Proofs.YtcicjoamnlnlnaaGreatDoor.R
open Go.RowKit Go.Lib
open Go.Proofs.YtcicjoamnlnlnaaGreatDoor (divW evenW wayL VarAt Stored lt_of_cell trimW canonL bodyL resR resV readR bytes_eq on1 on2 onD on2_some on2_none onD_none onD_zero addR subR mulR quoR idivR modR negR cmpR cmpN sgnN plusB plusN canonL_lt resR_toZ toZ toZ_plus)

theorem divW_up (ng : Bool) (a y last : Nat) (hl : last % 2 = a / y % 2) :
    divW evenW ng a y = if upL [101, 118, 101, 110] false last (sgnN (a % y + a % y) y) (decide (a % y = 0)) = true then a / y + 1 else a / y := by
  unfold divW
  have e : upL [101, 118, 101, 110] false last (sgnN (a % y + a % y) y) (decide (a % y = 0)) = evenW ⟨ng, decide (a / y % 2 = 1), decide (a % y = 0), sgnN (2 * (a % y)) y⟩ := by
    show evenW ⟨false, decide (last % 2 = 1), decide (a % y = 0), sgnN (a % y + a % y) y⟩ = _
    rw [hl, show a % y + a % y = 2 * (a % y) by omega]
    rfl
  rw [e]
theorem words_low (Q : Nat) (h : Q ≠ 0) : (wordsOf Q).getD 0 0 = Q % 10 := by rw [wordsOf_pos Q h]; rfl
theorem words_2 (M : Nat) : (wordsOf (M + M)).length ≤ (wordsOf M).length + 1 := by
  refine words_len _ _ ?_
  have := words_lt M
  rw [Nat.pow_succ]
  omega
theorem sgn_range (x y : Nat) : sgnN x y = -1 ∨ sgnN x y = 0 ∨ sgnN x y = 1 := by
  unfold sgnN
  split
  · exact .inl rfl
  · split
    · exact .inr (.inr rfl)
    · exact .inr (.inl rfl)
set_option maxRecDepth 100000 in
set_option maxHeartbeats 8000000 in
theorem quo_of (a b : ByteArray) (w : World) :
    Calls Tryz.prog 28 #[.string a, .string b] w fun e w' => e = .returned (resV (quoR a.data.toList b.data.toList)) ∧ Below w.heap.size w w' := by
  have cT := two_any a b w
  go_enter Tryz.func28, Tryz.ntmps28
  go_wp2_with fail
  refine cT.mono ?_
  rintro e w1 ⟨v1, v2, ok, rfl, hv, hb1⟩
  clear cT
  rcases two_cases hv with ⟨rfl, bx, x, p1, c1, by_, y, p2, c2, hcx, hcy, rfl, rfl, hD1, hD2⟩ | ⟨rfl, hcc, ⟨bx, p1, l1, c1, rfl⟩, ⟨by_, p2, l2, c2, rfl⟩⟩
  · have hx6 := words_50 hcx
    have hy6 := words_50 hcy
    clear hv
    have hbw2 : Below w1.heap.size w1 ((w1.alloc (.cells #[.bool bx, .slice p1 (wordsOf x).length c1] 52)).alloc (.cells #[.bool by_, .slice p2 (wordsOf y).length c2] 52)) := ((Below.refl _ w1).alloc (Nat.le_refl _) _).alloc (by simp) _
    have vX : VarAt ((w1.alloc (.cells #[.bool bx, .slice p1 (wordsOf x).length c1] 52)).alloc (.cells #[.bool by_, .slice p2 (wordsOf y).length c2] 52)) w1.heap.size bx p1 (wordsOf x).length c1 := (var_new w1 _ _ _ _).below ((Below.refl _ _).alloc (Nat.le_refl _) _)
    have vY : VarAt ((w1.alloc (.cells #[.bool bx, .slice p1 (wordsOf x).length c1] 52)).alloc (.cells #[.bool by_, .slice p2 (wordsOf y).length c2] 52)) (w1.heap.size + 1) by_ p2 (wordsOf y).length c2 := by
      have := var_new (w1.alloc (.cells #[.bool bx, .slice p1 (wordsOf x).length c1] 52)) by_ p2 (wordsOf y).length c2
      rwa [World.size_alloc] at this
    obtain ⟨W2, hW2⟩ : ∃ W2, (w1.alloc (.cells #[.bool bx, .slice p1 (wordsOf x).length c1] 52)).alloc (.cells #[.bool by_, .slice p2 (wordsOf y).length c2] 52) = W2 := ⟨_, rfl⟩
    rw [hW2] at hbw2 vX vY
    have hM1 := hD1.later hbw2
    have hM2 := hD2.later hbw2
    have hbW2 : Below w.heap.size w W2 := hb1.trans (hbw2.mono hb1.size)
    by_cases hy0 : y = 0
    · subst hy0
      have HC := Lib.hid (show quoR a.data.toList b.data.toList = ([], 41) from onD_zero hcx hcy _)
      obtain ⟨y0, y1, y2, y3, s0⟩ := id vX
      obtain ⟨z0, z1, z2, z3, s1⟩ := id vY
      have hz : (wordsOf 0).length = 0 := rfl
      clear hcx hcy vX vY hM1 hM2 hD1 hD2 hbw2 hW2 y0 y1 y2 y3 z0 z1 z2 z3
      go_wp2_with fail
      go_ret2
      exact ⟨by rw [HC.out]; rfl, (hb1.alloc hb1.size _).alloc (by have := hb1.size; simp; omega) _⟩
    have hly : ¬ (wordsOf y).length = 0 := fun h => hy0 ((wordsOf_nil y).1 (List.eq_nil_of_length_eq_zero h))
    have hlyb : (((wordsOf y).length : Int) == 0) = false := beq_eq_false_iff_ne.2 (by omega)
    obtain ⟨R, hR⟩ : ∃ R, resR (!(bx == by_)) (divW evenW (!(bx == by_)) (x * 10 ^ 20) y) = R := ⟨_, rfl⟩
    have HR := Lib.hid (show quoR a.data.toList b.data.toList = R from (Go.Proofs.YtcicjoamnlnlnaaGreatDoor.onD_some hcx hcy hy0 _).trans hR)
    have cE := fun W u (hu : Digs W u (wordsOf x)) => zeros_any u (wordsOf x) 20 (by omega) (by omega) W hu
    have hLXs : Small (List.replicate 20 0 ++ wordsOf x) := (Small.zeros 20).app (small_wordsOf x)
    have hLXv : val (List.replicate 20 0 ++ wordsOf x) = x * 10 ^ 20 := by rw [val_app, val_zeros, val_wordsOf, List.length_replicate, Nat.zero_add, Nat.mul_comm]
    have hLXl : (List.replicate 20 0 ++ wordsOf x).length ≤ 70 := by rw [List.length_append, List.length_replicate]; omega
    obtain ⟨LX, hLX⟩ : ∃ l, List.replicate 20 0 ++ wordsOf x = l := ⟨_, rfl⟩
    rw [hLX] at cE hLXs hLXv hLXl
    obtain ⟨AA, hAA⟩ : ∃ t, x * 10 ^ 20 = t := ⟨_, rfl⟩
    rw [hAA] at hR hLXv
    have cD := fun W u v (hu : Digs W u LX) (hv : Digs W v (wordsOf y)) => div_any u v LX y hLXs hy0 (by omega) (by omega) W hu hv
    rw [hLXv] at cD
    have hAAl : (wordsOf AA).length ≤ 70 := Nat.le_trans (words_len AA LX.length (by rw [← hLXv]; exact val_lt LX hLXs)) hLXl
    have hup := fun last hl => divW_up (!(bx == by_)) AA y last hl
    have hQl := Nat.le_trans (words_div_len AA y) hAAl
    have hRl : (wordsOf (AA % y)).length ≤ 70 := Nat.le_trans (words_len _ _ (Nat.lt_of_le_of_lt (Nat.mod_le _ _) (words_lt AA))) hAAl
    have hDl := words_divW_len evenW (!(bx == by_)) AA y 70 hAAl
    obtain ⟨Q, hQ⟩ : ∃ q, AA / y = q := ⟨_, rfl⟩
    obtain ⟨M, hM⟩ : ∃ q, AA % y = q := ⟨_, rfl⟩
    obtain ⟨D, hD⟩ : ∃ q, divW evenW (!(bx == by_)) AA y = q := ⟨_, rfl⟩
    rw [hQ, hM] at cD
    rw [hD] at hR hDl
    rw [hQ] at hQl
    rw [hM] at hRl
    have HUP := Lib.hid (show ∀ last, last % 2 = Q % 2 → D = if upL [101, 118, 101, 110] false last (sgnN (M + M) y) (decide (M = 0)) = true then Q + 1 else Q by
      intro last hl
      have := hup last (by rw [hQ]; exact hl)
      rw [hQ, hM, hD] at this
      exact this)
    have cZ := fun W u (hu : Digs W u (wordsOf D)) => result_any (!(bx == by_)) u (wordsOf D) (small_wordsOf _) (by omega) W hu
    rw [val_wordsOf, hR] at cZ
    obtain ⟨y0, y1, y2, y3, s0⟩ := id vX
    obtain ⟨z0, z1, z2, z3, s1⟩ := id vY
    have HX := Lib.hid vX
    have HY := Lib.hid vY
    have cE2 := cE W2.drew _ (hM1.later (Below.refl W2.heap.size W2).drew)
    have HM2 := Lib.hid hM2
    have HLY := Lib.hid (And.intro hy0 hy6)
    clear hcx hcy vX vY hM1 hM2 hR hD1 hD2 hbw2 hy0 hly hQ hM hD hAA hLX hup hLXs hLXv hLXl hAAl cE
    unfold resV at cZ
    go_wp2_with fail
    try rw [hW2]
    clear hW2
    have bD : Below W2.heap.size W2 W2.drew := (Below.refl W2.heap.size W2).drew
    go_wp2_with fail
    go_region_held3 (fun w' => w'.cell? ⟨w1.heap.size, 1, none⟩ = some (.slice p1 (wordsOf x).length c1) ∧ w'.cell? ⟨w1.heap.size + 1, 1, none⟩ = some (.slice p2 (wordsOf y).length c2)) (first | exact ⟨B1, B3⟩ | exact ⟨A1, A3⟩ | exact ⟨y1, z1⟩) (first | (go_at_call 48; refine cE2.mono ?_; rintro e wA ⟨qA, rfl, hqA, hbA⟩; have bA : Below W2.heap.size W2 wA := bD.trans (hbA.mono bD.size); have A1 := (bA.cell (p := ⟨w1.heap.size, 1, none⟩) s0).trans y1; have A3 := (bA.cell (p := ⟨w1.heap.size + 1, 1, none⟩) s1).trans z1; have cD2 := cD wA qA _ hqA (HM2.out.later bA); obtain ⟨pA, cA2, rfl⟩ := hqA.shape) | (go_at_call 47; refine cD2.mono ?_; rintro e wB ⟨qB, rB, rfl, hqB, hrB, hbB⟩; have bB : Below W2.heap.size W2 wB := bA.trans (hbB.mono bA.size); have B1 := (bB.cell (p := ⟨w1.heap.size, 1, none⟩) s0).trans y1; have B3 := (bB.cell (p := ⟨w1.heap.size + 1, 1, none⟩) s1).trans z1; obtain ⟨pB, cB2, rfl⟩ := hqB.shape; obtain ⟨pR, cR2, rfl⟩ := hrB.shape))
    all_goals
      have HQB := Lib.hid hqB
      have HRB := Lib.hid hrB
      have HMB := Lib.hid (HM2.out.later bB)
      have hbWB := hbW2.trans (bB.mono hbW2.size)
      obtain ⟨q0, q1, _, _, s0⟩ := HX.out.below bB
      obtain ⟨q2, q3, _, _, s1⟩ := HY.out.below bB
      have HXB := Lib.hid (HX.out.below bB)
      have HYB := Lib.hid (HY.out.below bB)
      clear hqB hrB cD cE2 cD2 y0 y1 y2 y3 z0 z1 z2 z3 A1 A3 B1 B3 hqA bA bB bD
      obtain ⟨lq, hlq⟩ : ∃ l, (wordsOf Q).length = l := ⟨_, rfl⟩
      obtain ⟨lr, hlr⟩ : ∃ l, (wordsOf M).length = l := ⟨_, rfl⟩
      rw [hlq] at hQl ⊢
      rw [hlr] at hRl ⊢
      have hQB := HQB.out
      rw [hlq] at hQB
      have HQB := Lib.hid hQB
      have hRB := HRB.out
      rw [hlr] at hRB
      have HRB := Lib.hid hRB
      have HLQ := Lib.hid hlq
      have HLR := Lib.hid hlr
      have HQ0 := Lib.hid (wordsOf_nil Q)
      have HM0 := Lib.hid (wordsOf_nil M)
      clear hlq hlr hRB
      by_cases hq : lq = 0
      · subst hq
        have hQ0 : Q = 0 := HQ0.out.1 (List.eq_nil_of_length_eq_zero HLQ.out)
        clear hQB
        by_cases hr : lr = 0
        · subst hr
          have hM0 : M = 0 := HM0.out.1 (List.eq_nil_of_length_eq_zero HLR.out)
          have HMT := Lib.hid (decide_eq_true hM0)
          have HQ00 := Lib.hid hQ0
          clear hQ0 hM0
          obtain ⟨U, hU⟩ : ∃ u, upL [101, 118, 101, 110] false (0) (sgnN (M + M) y) (decide (M = 0)) = u := ⟨_, rfl⟩
          have HUV := Lib.hid (HUP.out (0) (by rw [HQ00.out]))
          have HU := Lib.hid hU
          obtain ⟨H, hH⟩ : ∃ z, sgnN (M + M) y = z := ⟨_, rfl⟩
          have hHr := sgn_range (M + M) y
          have cC := fun W u (hu : Digs W u (wordsOf (M + M))) (hW : Below wB.heap.size wB W) => cmp_any u _ (wordsOf (M + M)) (wordsOf y) (small_wordsOf _) (small_wordsOf _) (by have := words_2 M; rw [HLR.out] at this; omega) (by have := HLY.out.2; omega) W hu (HMB.out.later hW)
          rw [val_wordsOf, val_wordsOf, hH] at cC
          rw [hH] at hHr hU
          have cU : ∀ W, Calls Tryz.prog 62 #[.bool false, .int .i64 0, .int .i64 H, .bool true, .string ⟨#[101, 118, 101, 110]⟩] W fun e w' => e = .returned (.bool U) ∧ W = w' := fun W => by
            have := up_any false (0) H true ⟨#[101, 118, 101, 110]⟩ hHr W
            rw [show upL (⟨#[101, 118, 101, 110]⟩ : ByteArray).data.toList false (0) H true = U by rw [← hU, HMT.out]] at this
            exact this
          have bD2 : Below wB.heap.size wB wB.drew := (Below.refl wB.heap.size wB).drew
          have cA2 := add_any _ _ (wordsOf M) (wordsOf M) (small_wordsOf M) (small_wordsOf M) (by rw [HLR.out]; omega) (by rw [HLR.out]; omega) wB.drew (HRB.out.later bD2) (HRB.out.later bD2)
          rw [val_wordsOf] at cA2
          clear hU hH hHr
          go_wp2_with fail
          go_region_held3 (fun w' => w'.cell? ⟨w1.heap.size + 1, 1, none⟩ = some (.slice p2 (wordsOf y).length c2)) (first | exact E3 | exact C3 | exact q3) (first | (go_at_call 64; refine cA2.mono ?_; rintro e wC ⟨qC, rfl, hqC, hbC⟩; have bC : Below wB.heap.size wB wC := bD2.trans (hbC.mono bD2.size); have C3 := (bC.cell (p := ⟨w1.heap.size + 1, 1, none⟩) s1).trans q3; have cC2 := cC wC qC hqC bC; obtain ⟨pC, cC3, rfl⟩ := hqC.shape) | (go_at_call 63; refine cC2.mono ?_; rintro e wE ⟨rfl, hbE⟩; have bE : Below wB.heap.size wB wE := bC.trans (hbE.mono bC.size); have E3 := (bE.cell (p := ⟨w1.heap.size + 1, 1, none⟩) s1).trans q3) | (go_at_call 62; refine (cU wE).mono ?_; rintro e wF ⟨rfl, rfl⟩))
          all_goals
            have HXE := HXB.out.below bE
            have HYE := HYB.out.below bE
            have hbWE := hbWB.trans (bE.mono hbWB.size)
            have hQE := HQB.out.later bE
            obtain ⟨n0, n1, _, _, t0⟩ := id HXE
            obtain ⟨m0, m1, _, _, t1⟩ := id HYE
            have HXE := Lib.hid HXE
            have HYE := Lib.hid HYE
            clear q0 q1 q2 q3 C3 E3 hqC cC2 bC bE hbC hbE
            cases U with
            | true =>
              have HDQ := Lib.hid (show D = Q + 1 by rw [HUV.out, HU.out, if_pos rfl])
              have hbG : Below wE.heap.size wE (wE.alloc (.cells #[.int .i64 1] 3)) := (Below.refl _ _).alloc (Nat.le_refl _) _
              have cG := add_any _ (.slice (some ⟨wE.heap.size, 0, none⟩) 1 1) (wordsOf Q) [1] (small_wordsOf Q) (Small.cons (by omega) Small.nil) (by rw [HLQ.out]; omega) (by simp) (wE.alloc (.cells #[.int .i64 1] 3)) (hQE.later hbG) (digs_one wE 1)
              rw [val_wordsOf, show Q + val [1] = D from HDQ.out.symm] at cG
              go_wp2_with fail
              refine cG.mono ?_
              rintro e wH ⟨qH, rfl, hqH, hbH⟩
              have bH : Below wE.heap.size wE wH := hbG.trans (hbH.mono hbG.size)
              obtain ⟨g0, g1, _, _, _⟩ := HXE.out.below bH
              obtain ⟨h0, h1, _, _, _⟩ := HYE.out.below bH
              have cZ2 := cZ wH qH hqH
              obtain ⟨pH, cH, rfl⟩ := hqH.shape
              clear cG hqH n0 n1 m0 m1 cZ hbG hQE
              go_wp2_with fail
              refine cZ2.mono ?_
              rintro e wZ ⟨rfl, hbZ⟩
              go_wp2_with fail
              go_ret2
              exact ⟨by rw [HR.out]; rfl, (hbWE.trans (bH.mono hbWE.size)).trans (hbZ.mono (Nat.le_trans hbWE.size bH.size))⟩
            | false =>
              have HDQ := Lib.hid (show D = Q by rw [HUV.out, HU.out, if_neg (by decide)])
              have cZ2 := cZ wE _ (by rw [HDQ.out]; exact hQE)
              clear cZ hQE
              go_wp2_with fail
              refine cZ2.mono ?_
              rintro e wZ ⟨rfl, hbZ⟩
              go_wp2_with fail
              go_ret2
              exact ⟨by rw [HR.out]; rfl, hbWE.trans (hbZ.mono hbWE.size)⟩
        · have hM0 : M ≠ 0 := fun h => hr (by rw [← HLR.out, h]; rfl)
          have hrb : ((lr : Int) == 0) = false := beq_eq_false_iff_ne.2 (by omega)
          have HMT := Lib.hid (decide_eq_false hM0)
          have HQ00 := Lib.hid hQ0
          clear hQ0 hM0
          obtain ⟨U, hU⟩ : ∃ u, upL [101, 118, 101, 110] false (0) (sgnN (M + M) y) (decide (M = 0)) = u := ⟨_, rfl⟩
          have HUV := Lib.hid (HUP.out (0) (by rw [HQ00.out]))
          have HU := Lib.hid hU
          obtain ⟨H, hH⟩ : ∃ z, sgnN (M + M) y = z := ⟨_, rfl⟩
          have hHr := sgn_range (M + M) y
          have cC := fun W u (hu : Digs W u (wordsOf (M + M))) (hW : Below wB.heap.size wB W) => cmp_any u _ (wordsOf (M + M)) (wordsOf y) (small_wordsOf _) (small_wordsOf _) (by have := words_2 M; rw [HLR.out] at this; omega) (by have := HLY.out.2; omega) W hu (HMB.out.later hW)
          rw [val_wordsOf, val_wordsOf, hH] at cC
          rw [hH] at hHr hU
          have cU : ∀ W, Calls Tryz.prog 62 #[.bool false, .int .i64 0, .int .i64 H, .bool false, .string ⟨#[101, 118, 101, 110]⟩] W fun e w' => e = .returned (.bool U) ∧ W = w' := fun W => by
            have := up_any false (0) H false ⟨#[101, 118, 101, 110]⟩ hHr W
            rw [show upL (⟨#[101, 118, 101, 110]⟩ : ByteArray).data.toList false (0) H false = U by rw [← hU, HMT.out]] at this
            exact this
          have bD2 : Below wB.heap.size wB wB.drew := (Below.refl wB.heap.size wB).drew
          have cA2 := add_any _ _ (wordsOf M) (wordsOf M) (small_wordsOf M) (small_wordsOf M) (by rw [HLR.out]; omega) (by rw [HLR.out]; omega) wB.drew (HRB.out.later bD2) (HRB.out.later bD2)
          rw [val_wordsOf] at cA2
          clear hU hH hHr
          go_wp2_with fail
          go_region_held3 (fun w' => w'.cell? ⟨w1.heap.size + 1, 1, none⟩ = some (.slice p2 (wordsOf y).length c2)) (first | exact E3 | exact C3 | exact q3) (first | (go_at_call 64; refine cA2.mono ?_; rintro e wC ⟨qC, rfl, hqC, hbC⟩; have bC : Below wB.heap.size wB wC := bD2.trans (hbC.mono bD2.size); have C3 := (bC.cell (p := ⟨w1.heap.size + 1, 1, none⟩) s1).trans q3; have cC2 := cC wC qC hqC bC; obtain ⟨pC, cC3, rfl⟩ := hqC.shape) | (go_at_call 63; refine cC2.mono ?_; rintro e wE ⟨rfl, hbE⟩; have bE : Below wB.heap.size wB wE := bC.trans (hbE.mono bC.size); have E3 := (bE.cell (p := ⟨w1.heap.size + 1, 1, none⟩) s1).trans q3) | (go_at_call 62; refine (cU wE).mono ?_; rintro e wF ⟨rfl, rfl⟩))
          all_goals
            have HXE := HXB.out.below bE
            have HYE := HYB.out.below bE
            have hbWE := hbWB.trans (bE.mono hbWB.size)
            have hQE := HQB.out.later bE
            obtain ⟨n0, n1, _, _, t0⟩ := id HXE
            obtain ⟨m0, m1, _, _, t1⟩ := id HYE
            have HXE := Lib.hid HXE
            have HYE := Lib.hid HYE
            clear q0 q1 q2 q3 C3 E3 hqC cC2 bC bE hbC hbE
            cases U with
            | true =>
              have HDQ := Lib.hid (show D = Q + 1 by rw [HUV.out, HU.out, if_pos rfl])
              have hbG : Below wE.heap.size wE (wE.alloc (.cells #[.int .i64 1] 3)) := (Below.refl _ _).alloc (Nat.le_refl _) _
              have cG := add_any _ (.slice (some ⟨wE.heap.size, 0, none⟩) 1 1) (wordsOf Q) [1] (small_wordsOf Q) (Small.cons (by omega) Small.nil) (by rw [HLQ.out]; omega) (by simp) (wE.alloc (.cells #[.int .i64 1] 3)) (hQE.later hbG) (digs_one wE 1)
              rw [val_wordsOf, show Q + val [1] = D from HDQ.out.symm] at cG
              go_wp2_with fail
              refine cG.mono ?_
              rintro e wH ⟨qH, rfl, hqH, hbH⟩
              have bH : Below wE.heap.size wE wH := hbG.trans (hbH.mono hbG.size)
              obtain ⟨g0, g1, _, _, _⟩ := HXE.out.below bH
              obtain ⟨h0, h1, _, _, _⟩ := HYE.out.below bH
              have cZ2 := cZ wH qH hqH
              obtain ⟨pH, cH, rfl⟩ := hqH.shape
              clear cG hqH n0 n1 m0 m1 cZ hbG hQE
              go_wp2_with fail
              refine cZ2.mono ?_
              rintro e wZ ⟨rfl, hbZ⟩
              go_wp2_with fail
              go_ret2
              exact ⟨by rw [HR.out]; rfl, (hbWE.trans (bH.mono hbWE.size)).trans (hbZ.mono (Nat.le_trans hbWE.size bH.size))⟩
            | false =>
              have HDQ := Lib.hid (show D = Q by rw [HUV.out, HU.out, if_neg (by decide)])
              have cZ2 := cZ wE _ (by rw [HDQ.out]; exact hQE)
              clear cZ hQE
              go_wp2_with fail
              refine cZ2.mono ?_
              rintro e wZ ⟨rfl, hbZ⟩
              go_wp2_with fail
              go_ret2
              exact ⟨by rw [HR.out]; rfl, hbWE.trans (hbZ.mono hbWE.size)⟩
      · obtain ⟨k, rfl⟩ : ∃ k, lq = k + 1 := ⟨lq - 1, by omega⟩
        have hQ0 : Q ≠ 0 := fun h => by have := HLQ.out; rw [h] at this; cases this
        obtain ⟨bb, oo, rfl, hne, hjc, hcell⟩ := hQB.at 0 (by rw [HLQ.out]; omega)
        clear hne hjc
        rw [HLQ.out, words_low Q hQ0, show oo + (k + 1 - 1 - 0) = oo + k by omega] at hcell
        have hqi : ((k + 1 : Nat) : Int) - 1 = (k : Int) := by omega
        have hkl : (k : Int) < ((k + 1 : Nat) : Int) := by omega
        have hqi2 : (k : Int) + 1 - 1 = (k : Int) := by omega
        have hkl2 : (k : Int) < (k : Int) + 1 := by omega
        have hk02 : (0 : Int) < (k : Int) + 1 := by omega
        obtain ⟨la, hla⟩ : ∃ t, Q % 10 = t := ⟨_, rfl⟩
        rw [hla] at hcell
        have HLA := Lib.hid (show la % 2 = Q % 2 by rw [← hla]; omega)
        clear hla hQB
        by_cases hr : lr = 0
        · subst hr
          have hM0 : M = 0 := HM0.out.1 (List.eq_nil_of_length_eq_zero HLR.out)
          have HMT := Lib.hid (decide_eq_true hM0)
          clear hQ0 hM0
          obtain ⟨U, hU⟩ : ∃ u, upL [101, 118, 101, 110] false (la) (sgnN (M + M) y) (decide (M = 0)) = u := ⟨_, rfl⟩
          have HUV := Lib.hid (HUP.out (la) HLA.out)
          have HU := Lib.hid hU
          obtain ⟨H, hH⟩ : ∃ z, sgnN (M + M) y = z := ⟨_, rfl⟩
          have hHr := sgn_range (M + M) y
          have cC := fun W u (hu : Digs W u (wordsOf (M + M))) (hW : Below wB.heap.size wB W) => cmp_any u _ (wordsOf (M + M)) (wordsOf y) (small_wordsOf _) (small_wordsOf _) (by have := words_2 M; rw [HLR.out] at this; omega) (by have := HLY.out.2; omega) W hu (HMB.out.later hW)
          rw [val_wordsOf, val_wordsOf, hH] at cC
          rw [hH] at hHr hU
          have cU : ∀ W, Calls Tryz.prog 62 #[.bool false, .int .i64 (la : Int), .int .i64 H, .bool true, .string ⟨#[101, 118, 101, 110]⟩] W fun e w' => e = .returned (.bool U) ∧ W = w' := fun W => by
            have := up_any false (la) H true ⟨#[101, 118, 101, 110]⟩ hHr W
            rw [show upL (⟨#[101, 118, 101, 110]⟩ : ByteArray).data.toList false (la) H true = U by rw [← hU, HMT.out]] at this
            exact this
          have bD2 : Below wB.heap.size wB wB.drew := (Below.refl wB.heap.size wB).drew
          have cA2 := add_any _ _ (wordsOf M) (wordsOf M) (small_wordsOf M) (small_wordsOf M) (by rw [HLR.out]; omega) (by rw [HLR.out]; omega) wB.drew (HRB.out.later bD2) (HRB.out.later bD2)
          rw [val_wordsOf] at cA2
          clear hU hH hHr
          go_wp2_with fail
          go_region_held3 (fun w' => w'.cell? ⟨w1.heap.size + 1, 1, none⟩ = some (.slice p2 (wordsOf y).length c2)) (first | exact E3 | exact C3 | exact q3) (first | (go_at_call 64; refine cA2.mono ?_; rintro e wC ⟨qC, rfl, hqC, hbC⟩; have bC : Below wB.heap.size wB wC := bD2.trans (hbC.mono bD2.size); have C3 := (bC.cell (p := ⟨w1.heap.size + 1, 1, none⟩) s1).trans q3; have cC2 := cC wC qC hqC bC; obtain ⟨pC, cC3, rfl⟩ := hqC.shape) | (go_at_call 63; refine cC2.mono ?_; rintro e wE ⟨rfl, hbE⟩; have bE : Below wB.heap.size wB wE := bC.trans (hbE.mono bC.size); have E3 := (bE.cell (p := ⟨w1.heap.size + 1, 1, none⟩) s1).trans q3) | (go_at_call 62; refine (cU wE).mono ?_; rintro e wF ⟨rfl, rfl⟩))
          all_goals
            have HXE := HXB.out.below bE
            have HYE := HYB.out.below bE
            have hbWE := hbWB.trans (bE.mono hbWB.size)
            have hQE := HQB.out.later bE
            obtain ⟨n0, n1, _, _, t0⟩ := id HXE
            obtain ⟨m0, m1, _, _, t1⟩ := id HYE
            have HXE := Lib.hid HXE
            have HYE := Lib.hid HYE
            clear q0 q1 q2 q3 C3 E3 hqC cC2 bC bE hbC hbE
            cases U with
            | true =>
              have HDQ := Lib.hid (show D = Q + 1 by rw [HUV.out, HU.out, if_pos rfl])
              have hbG : Below wE.heap.size wE (wE.alloc (.cells #[.int .i64 1] 3)) := (Below.refl _ _).alloc (Nat.le_refl _) _
              have cG := add_any _ (.slice (some ⟨wE.heap.size, 0, none⟩) 1 1) (wordsOf Q) [1] (small_wordsOf Q) (Small.cons (by omega) Small.nil) (by rw [HLQ.out]; omega) (by simp) (wE.alloc (.cells #[.int .i64 1] 3)) (hQE.later hbG) (digs_one wE 1)
              rw [val_wordsOf, show Q + val [1] = D from HDQ.out.symm] at cG
              go_wp2_with fail
              refine cG.mono ?_
              rintro e wH ⟨qH, rfl, hqH, hbH⟩
              have bH : Below wE.heap.size wE wH := hbG.trans (hbH.mono hbG.size)
              obtain ⟨g0, g1, _, _, _⟩ := HXE.out.below bH
              obtain ⟨h0, h1, _, _, _⟩ := HYE.out.below bH
              have cZ2 := cZ wH qH hqH
              obtain ⟨pH, cH, rfl⟩ := hqH.shape
              clear cG hqH n0 n1 m0 m1 cZ hbG hQE
              go_wp2_with fail
              refine cZ2.mono ?_
              rintro e wZ ⟨rfl, hbZ⟩
              go_wp2_with fail
              go_ret2
              exact ⟨by rw [HR.out]; rfl, (hbWE.trans (bH.mono hbWE.size)).trans (hbZ.mono (Nat.le_trans hbWE.size bH.size))⟩
            | false =>
              have HDQ := Lib.hid (show D = Q by rw [HUV.out, HU.out, if_neg (by decide)])
              have cZ2 := cZ wE _ (by rw [HDQ.out]; exact hQE)
              clear cZ hQE
              go_wp2_with fail
              refine cZ2.mono ?_
              rintro e wZ ⟨rfl, hbZ⟩
              go_wp2_with fail
              go_ret2
              exact ⟨by rw [HR.out]; rfl, hbWE.trans (hbZ.mono hbWE.size)⟩
        · have hM0 : M ≠ 0 := fun h => hr (by rw [← HLR.out, h]; rfl)
          have hrb : ((lr : Int) == 0) = false := beq_eq_false_iff_ne.2 (by omega)
          have HMT := Lib.hid (decide_eq_false hM0)
          clear hQ0 hM0
          obtain ⟨U, hU⟩ : ∃ u, upL [101, 118, 101, 110] false (la) (sgnN (M + M) y) (decide (M = 0)) = u := ⟨_, rfl⟩
          have HUV := Lib.hid (HUP.out (la) HLA.out)
          have HU := Lib.hid hU
          obtain ⟨H, hH⟩ : ∃ z, sgnN (M + M) y = z := ⟨_, rfl⟩
          have hHr := sgn_range (M + M) y
          have cC := fun W u (hu : Digs W u (wordsOf (M + M))) (hW : Below wB.heap.size wB W) => cmp_any u _ (wordsOf (M + M)) (wordsOf y) (small_wordsOf _) (small_wordsOf _) (by have := words_2 M; rw [HLR.out] at this; omega) (by have := HLY.out.2; omega) W hu (HMB.out.later hW)
          rw [val_wordsOf, val_wordsOf, hH] at cC
          rw [hH] at hHr hU
          have cU : ∀ W, Calls Tryz.prog 62 #[.bool false, .int .i64 (la : Int), .int .i64 H, .bool false, .string ⟨#[101, 118, 101, 110]⟩] W fun e w' => e = .returned (.bool U) ∧ W = w' := fun W => by
            have := up_any false (la) H false ⟨#[101, 118, 101, 110]⟩ hHr W
            rw [show upL (⟨#[101, 118, 101, 110]⟩ : ByteArray).data.toList false (la) H false = U by rw [← hU, HMT.out]] at this
            exact this
          have bD2 : Below wB.heap.size wB wB.drew := (Below.refl wB.heap.size wB).drew
          have cA2 := add_any _ _ (wordsOf M) (wordsOf M) (small_wordsOf M) (small_wordsOf M) (by rw [HLR.out]; omega) (by rw [HLR.out]; omega) wB.drew (HRB.out.later bD2) (HRB.out.later bD2)
          rw [val_wordsOf] at cA2
          clear hU hH hHr
          go_wp2_with fail
          go_region_held3 (fun w' => w'.cell? ⟨w1.heap.size + 1, 1, none⟩ = some (.slice p2 (wordsOf y).length c2)) (first | exact E3 | exact C3 | exact q3) (first | (go_at_call 64; refine cA2.mono ?_; rintro e wC ⟨qC, rfl, hqC, hbC⟩; have bC : Below wB.heap.size wB wC := bD2.trans (hbC.mono bD2.size); have C3 := (bC.cell (p := ⟨w1.heap.size + 1, 1, none⟩) s1).trans q3; have cC2 := cC wC qC hqC bC; obtain ⟨pC, cC3, rfl⟩ := hqC.shape) | (go_at_call 63; refine cC2.mono ?_; rintro e wE ⟨rfl, hbE⟩; have bE : Below wB.heap.size wB wE := bC.trans (hbE.mono bC.size); have E3 := (bE.cell (p := ⟨w1.heap.size + 1, 1, none⟩) s1).trans q3) | (go_at_call 62; refine (cU wE).mono ?_; rintro e wF ⟨rfl, rfl⟩))
          all_goals
            have HXE := HXB.out.below bE
            have HYE := HYB.out.below bE
            have hbWE := hbWB.trans (bE.mono hbWB.size)
            have hQE := HQB.out.later bE
            obtain ⟨n0, n1, _, _, t0⟩ := id HXE
            obtain ⟨m0, m1, _, _, t1⟩ := id HYE
            have HXE := Lib.hid HXE
            have HYE := Lib.hid HYE
            clear q0 q1 q2 q3 C3 E3 hqC cC2 bC bE hbC hbE
            cases U with
            | true =>
              have HDQ := Lib.hid (show D = Q + 1 by rw [HUV.out, HU.out, if_pos rfl])
              have hbG : Below wE.heap.size wE (wE.alloc (.cells #[.int .i64 1] 3)) := (Below.refl _ _).alloc (Nat.le_refl _) _
              have cG := add_any _ (.slice (some ⟨wE.heap.size, 0, none⟩) 1 1) (wordsOf Q) [1] (small_wordsOf Q) (Small.cons (by omega) Small.nil) (by rw [HLQ.out]; omega) (by simp) (wE.alloc (.cells #[.int .i64 1] 3)) (hQE.later hbG) (digs_one wE 1)
              rw [val_wordsOf, show Q + val [1] = D from HDQ.out.symm] at cG
              go_wp2_with fail
              refine cG.mono ?_
              rintro e wH ⟨qH, rfl, hqH, hbH⟩
              have bH : Below wE.heap.size wE wH := hbG.trans (hbH.mono hbG.size)
              obtain ⟨g0, g1, _, _, _⟩ := HXE.out.below bH
              obtain ⟨h0, h1, _, _, _⟩ := HYE.out.below bH
              have cZ2 := cZ wH qH hqH
              obtain ⟨pH, cH, rfl⟩ := hqH.shape
              clear cG hqH n0 n1 m0 m1 cZ hbG hQE
              go_wp2_with fail
              refine cZ2.mono ?_
              rintro e wZ ⟨rfl, hbZ⟩
              go_wp2_with fail
              go_ret2
              exact ⟨by rw [HR.out]; rfl, (hbWE.trans (bH.mono hbWE.size)).trans (hbZ.mono (Nat.le_trans hbWE.size bH.size))⟩
            | false =>
              have HDQ := Lib.hid (show D = Q by rw [HUV.out, HU.out, if_neg (by decide)])
              have cZ2 := cZ wE _ (by rw [HDQ.out]; exact hQE)
              clear cZ hQE
              go_wp2_with fail
              refine cZ2.mono ?_
              rintro e wZ ⟨rfl, hbZ⟩
              go_wp2_with fail
              go_ret2
              exact ⟨by rw [HR.out]; rfl, hbWE.trans (hbZ.mono hbWE.size)⟩
  · have HC := Lib.hid (show quoR a.data.toList b.data.toList = ([], 1) from onD_none hcc _)
    clear hcc hv
    go_wp2_with fail
    go_ret2
    exact ⟨by rw [HC.out]; rfl, (hb1.alloc hb1.size _).alloc (by have := hb1.size; simp; omega) _⟩
end Go.Proofs.YtcicjoamnlnlnaaGreatDoor.R

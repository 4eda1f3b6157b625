/- The specification of num: the contracts of IsInt and Round. -/
import Derived.Test.YtcicjoamnlnlnaaGreatDoorMRfOps3
import Derived.Test.YtcicjoamnlnlnaaGreatDoorMRfCutZ
namespace Go.Proofs.YtcicjoamnlnlnaaGreatDoor.R
open Go.RowKit Go.Lib
open Go.Proofs.YtcicjoamnlnlnaaGreatDoor (Ct divW evenW wayL VarAt Stored lt_of_cell trimW canonL bodyL resR resV readR bytes_eq on1 on1_some on1_none canonL_lt resR_toZ isIntR canon_after canonL_split split_back canonW numL splitL valD valD_app Calm even_calm half_calm floor_calm ceil_calm cut_calm halfW floorW ceilW cutW roundR)

theorem isInt_some {s : List UInt8} {b : Bool} {n : Nat} (h : canonL s = some (b, n)) : isIntR s = decide (n % 10 ^ 20 = 0) := by
  by_cases h0 : n % 10 ^ 20 = 0
  · rw [canon_after h h0, decide_eq_true h0]
  · rw [decide_eq_false h0]
    obtain ⟨w, hw, hc, hn⟩ := canonL_split h
    obtain ⟨_, hpA, _, _, _, _⟩ := split_back s w hw
    unfold isIntR
    rw [hw]
    simp only
    rw [hc]
    cases hp : w.point with
    | true => rfl
    | false =>
      exfalso
      have hA := hpA hp
      unfold numL at hn
      simp only [Prod.mk.injEq] at hn
      obtain ⟨_, hn⟩ := hn
      rw [hA, if_neg (by simp)] at hn
      apply h0
      rw [← hn]
      exact Nat.mul_mod_left _ _
theorem isInt_none {s : List UInt8} (h : canonL s = none) : isIntR s = false := by
  cases hw : splitL s with
  | none => unfold isIntR; simp only [hw]
  | some w =>
    have hc : canonW w = false := by
      cases hc : canonW w with
      | false => rfl
      | true =>
        exfalso
        have : canonL s = some (numL w) := by unfold canonL; simp only [hw, hc, if_true]
        rw [this] at h
        cases h
    unfold isIntR
    simp only [hw, hc, Bool.false_and]
theorem unit_words : (List.replicate 20 0 ++ [1] : List Nat) = wordsOf (10 ^ 20) := by
  have h : val (List.replicate 20 0 ++ [1]) = 10 ^ 20 := by decide
  rw [← h]
  refine (wordsOf_val _ ?_ ?_).symm
  · exact (Small.zeros 20).app (Small.cons (by omega) Small.nil)
  · intro w hw
    simp at hw
    omega
theorem way_calm {how : List UInt8} {way : Ct → Bool} (h : wayL how = some way) : Calm way := by
  unfold wayL at h
  split at h
  · cases h; exact half_calm
  · split at h
    · cases h; exact even_calm
    · split at h
      · cases h; exact floor_calm
      · split at h
        · cases h; exact ceil_calm
        · split at h
          · cases h; exact cut_calm
          · cases h
set_option maxRecDepth 100000 in
set_option maxHeartbeats 8000000 in
theorem isInt_of (a : ByteArray) (w : World) :
    Calls Tryz.prog 17 #[.string a] w fun e w' => e = .returned (.bool (isIntR a.data.toList)) ∧ Below w.heap.size w w' := by
  have cT := can_any a w
  obtain ⟨IR, hIR⟩ : ∃ i, isIntR a.data.toList = i := ⟨_, rfl⟩
  rw [hIR]
  have HIR := Lib.hid hIR
  clear hIR
  go_enter Tryz.func17, Tryz.ntmps17
  go_wp2_with fail
  refine cT.mono ?_
  rintro e w1 ⟨v, ok, rfl, hv, hb1⟩
  clear cT
  rcases hv with ⟨rfl, b, n, p, c, hc, rfl, hD⟩ | ⟨rfl, hc, rfl⟩
  · have hn6 := words_50 hc
    have hI := isInt_some hc
    rw [HIR.out] at hI
    have vX := var_new w1 b p (wordsOf n).length c
    have hbA : Below w1.heap.size w1 (w1.alloc (.cells #[.bool b, .slice p (wordsOf n).length c] 52)) := (Below.refl _ _).alloc (Nat.le_refl _) _
    have hD2 := hD.later hbA
    have hbw2 := hb1.trans (hbA.mono hb1.size)
    obtain ⟨W2, hW2⟩ : ∃ W2, w1.alloc (.cells #[.bool b, .slice p (wordsOf n).length c] 52) = W2 := ⟨_, rfl⟩
    rw [hW2] at vX hD2 hbw2
    have bD : Below W2.heap.size W2 W2.drew := (Below.refl W2.heap.size W2).drew
    have bE : Below W2.heap.size W2 (W2.drew.alloc (.cells #[.int .i64 1] 3)) := bD.alloc (Nat.le_refl _) _
    obtain ⟨y0, y1, _, _, s0⟩ := id vX
    have E1 : (W2.drew.alloc (.cells #[.int .i64 1] 3)).cell? ⟨w1.heap.size, 1, none⟩ = some (.slice p (wordsOf n).length c) := (bE.cell (p := ⟨w1.heap.size, 1, none⟩) s0).trans y1
    have cE : Calls Tryz.prog 48 #[.slice (some ⟨W2.heap.size, 0, none⟩) 1 1, .int .i64 20] (W2.drew.alloc (.cells #[.int .i64 1] 3)) fun e w' => ∃ x, e = .returned x ∧ Digs w' x (List.replicate 20 0 ++ [1]) ∧ Below (W2.drew.alloc (.cells #[.int .i64 1] 3)).heap.size (W2.drew.alloc (.cells #[.int .i64 1] 3)) w' := zeros_any _ [1] 20 (by simp) (by omega) _ (digs_one W2.drew 1)
    rw [unit_words] at cE
    obtain ⟨U, hU⟩ : ∃ u, 10 ^ 20 = u := ⟨_, rfl⟩
    have hU0 : U ≠ 0 := by rw [← hU]; decide
    have hUl : (wordsOf U).length ≤ 21 := words_len _ _ (by rw [← hU]; decide)
    rw [hU] at cE hI
    have cD := fun W u v (hu : Digs W u (wordsOf n)) (hv : Digs W v (wordsOf U)) => div_any u v (wordsOf n) U (small_wordsOf n) hU0 (by omega) (by omega) W hu hv
    simp only [val_wordsOf] at cD
    have hM0 := wordsOf_nil (n % U)
    have HD := Lib.hid hD2
    have HI := Lib.hid hI
    have HM := Lib.hid hM0
    clear hc hI hM0 hbA hD hD2 vX hU hU0
    go_wp2_with fail
    try rw [hW2]
    clear hW2
    go_wp2_with fail
    go_region_held3 (fun w' => w'.cell? ⟨w1.heap.size, 1, none⟩ = some (.slice p (wordsOf n).length c)) (first | exact B1 | exact A1 | exact E1 | exact y1) (first | (go_at_call 48; refine cE.mono ?_; rintro e wA ⟨qA, rfl, hqA, hbA⟩; have bA : Below W2.heap.size W2 wA := bE.trans (hbA.mono bE.size); have A1 := (bA.cell (p := ⟨w1.heap.size, 1, none⟩) s0).trans y1; have cD2 := cD wA _ qA (HD.out.later bA) hqA; obtain ⟨pA, cA2, rfl⟩ := hqA.shape) | (go_at_call 47; refine cD2.mono ?_; rintro e wB ⟨qB, rB, rfl, hqB, hrB, hbB⟩; have bB : Below W2.heap.size W2 wB := bA.trans (hbB.mono bA.size); have B1 := (bB.cell (p := ⟨w1.heap.size, 1, none⟩) s0).trans y1; obtain ⟨pB, cB2, rfl⟩ := hqB.shape; obtain ⟨pR, cR2, rfl⟩ := hrB.shape))
    all_goals
      obtain ⟨lr, hlr⟩ : ∃ l, (wordsOf (n % U)).length = l := ⟨_, rfl⟩
      rw [hlr]
      by_cases hr : lr = 0
      · subst hr
        have HV := Lib.hid (show IR = true by rw [HI.out]; exact decide_eq_true (HM.out.1 (List.eq_nil_of_length_eq_zero hlr)))
        clear hlr hqB hrB cE cD cD2 E1 A1 B1 y0 y1
        go_wp2_with fail
        go_ret
        exact ⟨by rw [HV.out]; rfl, hbw2.trans (bB.mono hbw2.size)⟩
      · have hrb : ((lr : Int) == 0) = false := beq_eq_false_iff_ne.2 (by omega)
        have HV := Lib.hid (show IR = false by rw [HI.out]; exact decide_eq_false (fun h => hr (by rw [← hlr, HM.out.2 h]; rfl)))
        clear hlr hqB hrB cE cD cD2 E1 A1 B1 y0 y1
        go_wp2_with fail
        go_ret
        exact ⟨by rw [HV.out]; rfl, hbw2.trans (bB.mono hbw2.size)⟩
  · have HC := Lib.hid (HIR.out.symm.trans (isInt_none hc))
    clear hc
    go_wp2_with fail
    go_ret
    exact ⟨by rw [HC.out]; rfl, hb1.alloc hb1.size _⟩

set_option maxRecDepth 100000 in
set_option maxHeartbeats 4000000 in
/-- cut with any number of digits that are cut off. -/
theorem cut_all (neg : Bool) (how : ByteArray) (way : Ct → Bool) (hw : wayL how.data.toList = some way) (v : Value) (n m : Nat) (hm : m ≤ 1000) (hn : (wordsOf n).length ≤ 1000) (w : World) (hu : Digs w v (wordsOf n)) :
    Calls Tryz.prog 58 #[.bool neg, v, .int .i64 (m : Int), .string how] w fun e w' => ∃ x, e = .returned x ∧ Digs w' x (wordsOf (divW way neg n (10 ^ m))) ∧ Below w.heap.size w w' := by
  by_cases h0 : m = 0
  · subst h0
    have h := cut_zero neg how v (wordsOf n) (small_wordsOf n) (by omega) w hu
    rw [val_wordsOf] at h
    have e : divW way neg n (10 ^ 0) = n := by
      have := Go.Proofs.YtcicjoamnlnlnaaGreatDoor.divW_exact (way_calm hw) neg n 1 (by omega)
      rwa [Nat.mul_one] at this
    rw [e]
    exact h
  · have h := cut_any neg how way hw v (wordsOf n) (small_wordsOf n) m (by omega) (by omega) (by omega) w hu
    rwa [val_wordsOf] at h
theorem round_some {a : List UInt8} {b : Bool} {n : Nat} (hc : canonL a = some (b, n)) {d : Int} (h1 : ¬ d < -30) (h2 : ¬ 20 < d) {how : List UInt8} {way : Ct → Bool} (hw : wayL how = some way) :
    roundR a d how = resR b (divW way b n (10 ^ (20 - d).toNat) * 10 ^ (20 - d).toNat) := by
  unfold roundR
  rw [on1_some hc, if_neg (by rintro (h | h); exact h1 h; exact h2 h), hw]
set_option maxRecDepth 100000 in
set_option maxHeartbeats 8000000 in
theorem round_of (a how : ByteArray) (d : Int) (w : World) :
    Calls Tryz.prog 36 #[.string a, .int .i64 d, .string how] w fun e w' => e = .returned (resV (roundR a.data.toList d how.data.toList)) ∧ Below w.heap.size w w' := by
  have cT := can_any a w
  obtain ⟨IR, hIR⟩ : ∃ i, roundR a.data.toList d how.data.toList = i := ⟨_, rfl⟩
  rw [hIR]
  have HIR := Lib.hid hIR
  clear hIR
  go_enter Tryz.func36, Tryz.ntmps36
  go_wp2_with fail
  refine cT.mono ?_
  rintro e w1 ⟨v, ok, rfl, hv, hb1⟩
  clear cT
  rcases hv with ⟨rfl, b, n, p, c, hc, rfl, hD⟩ | ⟨rfl, hc, rfl⟩
  · have hn6 := words_50 hc
    have vX := var_new w1 b p (wordsOf n).length c
    have hbA : Below w1.heap.size w1 (w1.alloc (.cells #[.bool b, .slice p (wordsOf n).length c] 52)) := (Below.refl _ _).alloc (Nat.le_refl _) _
    have hD2 := hD.later hbA
    have hbw2 := hb1.trans (hbA.mono hb1.size)
    obtain ⟨W2, hW2⟩ : ∃ W2, w1.alloc (.cells #[.bool b, .slice p (wordsOf n).length c] 52) = W2 := ⟨_, rfl⟩
    rw [hW2] at vX hD2 hbw2
    have HW2 := Lib.hid hW2
    have HC := Lib.hid hc
    clear hbA hD hW2 hc
    by_cases h1 : d < -30
    · have HV := Lib.hid (show IR = ([], 6) by rw [← HIR.out]; unfold roundR; rw [on1_some HC.out, if_pos (.inl h1)])
      clear vX hD2
      go_wp2_with fail
      try rw [HW2.out]
      go_wp2_with fail
      go_ret2
      exact ⟨by rw [HV.out]; rfl, hbw2⟩
    by_cases h2 : 20 < d
    · have HV := Lib.hid (show IR = ([], 6) by rw [← HIR.out]; unfold roundR; rw [on1_some HC.out, if_pos (.inr h2)])
      clear vX hD2
      go_wp2_with fail
      try rw [HW2.out]
      go_wp2_with fail
      go_ret2
      exact ⟨by rw [HV.out]; rfl, hbw2⟩
    have tl : how.data.toList = how.toList := (ByteArray.toList_eq how).symm
    cases hw : wayL how.data.toList with
    | none =>
      have HV := Lib.hid (show IR = ([], 1) by rw [← HIR.out]; unfold roundR; rw [on1_some HC.out, if_neg (by rintro (h | h); exact h1 h; exact h2 h), hw])
      rw [tl] at hw
      have key : ∀ l : List UInt8, how.toList ≠ l → (how.toList == l) = false := fun l h => beq_eq_false_iff_ne.2 h
      unfold wayL at hw
      split at hw
      · cases hw
      · rename_i n1
        split at hw
        · cases hw
        · rename_i n2
          split at hw
          · cases hw
          · rename_i n3
            split at hw
            · cases hw
            · rename_i n4
              split at hw
              · cases hw
              · rename_i n5
                have k1 := key _ n1
                have k2 := key _ n2
                have k3 := key _ n3
                have k4 := key _ n4
                have k5 := key _ n5
                clear key hw tl vX hD2 n1 n2 n3 n4 n5
                go_wp2_with fail
                try rw [HW2.out]
                go_wp2_with fail
                go_ret2
                exact ⟨by rw [HV.out]; rfl, hbw2⟩
    | some way =>
      obtain ⟨m, hm⟩ : ∃ m : Nat, (20 - d).toNat = m := ⟨_, rfl⟩
      have hmz : (20 : Int) - d = (m : Int) := by omega
      have hm9 : m ≤ 50 := by omega
      obtain ⟨R, hR⟩ : ∃ R, resR b (divW way b n (10 ^ m) * 10 ^ m) = R := ⟨_, rfl⟩
      have HV := Lib.hid (show IR = R by rw [← HIR.out, round_some HC.out h1 h2 hw, hm, hR])
      have cC := cut_all b how way hw _ n m (by omega) (by omega) W2 hD2
      have hDl := words_divW_len way b n (10 ^ m) 50 hn6
      obtain ⟨D, hDe⟩ : ∃ q, divW way b n (10 ^ m) = q := ⟨_, rfl⟩
      rw [hDe] at cC hDl hR
      have cE := fun W u (hu : Digs W u (wordsOf D)) => zeros_any u (wordsOf D) m (by omega) (by omega) W hu
      have hls : Small (List.replicate m 0 ++ wordsOf D) := (Small.zeros m).app (small_wordsOf D)
      have hlv : val (List.replicate m 0 ++ wordsOf D) = D * 10 ^ m := by rw [val_app, val_zeros, val_wordsOf, List.length_replicate, Nat.zero_add, Nat.mul_comm]
      have hll : (List.replicate m 0 ++ wordsOf D).length ≤ 200 := by rw [List.length_append, List.length_replicate]; omega
      obtain ⟨LL, hLL⟩ : ∃ l, List.replicate m 0 ++ wordsOf D = l := ⟨_, rfl⟩
      rw [hLL] at cE hls hlv hll
      have cZ := fun W u (hu : Digs W u LL) => result_any b u LL hls (by omega) W hu
      rw [hlv, hR] at cZ
      unfold resV at cZ
      obtain ⟨y0, y1, y2, y3, _⟩ := id vX
      have HX := Lib.hid vX
      have HWAY := Lib.hid (show how.toList = [104, 97, 108, 102] ∨ how.toList = [101, 118, 101, 110] ∨ how.toList = [102, 108, 111, 111, 114] ∨ how.toList = [99, 101, 105, 108, 105, 110, 103] ∨ how.toList = [99, 117, 116] by
        rw [tl] at hw
        unfold wayL at hw
        split at hw
        · rename_i e; exact .inl e
        · split at hw
          · rename_i e; exact .inr (.inl e)
          · split at hw
            · rename_i e; exact .inr (.inr (.inl e))
            · split at hw
              · rename_i e; exact .inr (.inr (.inr (.inl e)))
              · split at hw
                · rename_i e; exact .inr (.inr (.inr (.inr e)))
                · cases hw)
      have key : ∀ l l' : List UInt8, how.toList = l → (how.toList == l') = (l == l') := fun l l' h => by rw [h]
      clear hw tl hm hR hDe hLL hls hlv vX hD2
      rcases HWAY.out with hh | hh | hh | hh | hh
      all_goals
        have k1 := key _ [104, 97, 108, 102] hh
        have k2 := key _ [101, 118, 101, 110] hh
        have k3 := key _ [102, 108, 111, 111, 114] hh
        have k4 := key _ [99, 101, 105, 108, 105, 110, 103] hh
        have k5 := key _ [99, 117, 116] hh
        clear key hh
        go_wp2_with fail
        try rw [HW2.out]
        go_wp2_with fail
        refine cC.mono ?_
        rintro e w3 ⟨u3, rfl, hu3, hb3⟩
        have bD : Below w3.heap.size w3 w3.drew := (Below.refl w3.heap.size w3).drew
        have cE2 := cE w3.drew u3 (hu3.later bD)
        obtain ⟨q0, q1, _, _, s0⟩ := HX.out.below hb3
        have hbW3 := hbw2.trans (hb3.mono hbw2.size)
        obtain ⟨p3, c3, rfl⟩ := hu3.shape
        clear cC hu3 cE y0 y1 y2 y3
        have i1 : IntKind.i64.wrap (m : Int) = (m : Int) := by rw [IntKind.wrap_i64]; omega
        go_wp2_with fail
        go_region_held3 (fun w' => w'.cell? ⟨w1.heap.size, 0, none⟩ = some (.bool b)) (first | exact Z0 | exact A0 | exact q0) (first | (go_at_call 48; refine cE2.mono ?_; rintro e wA ⟨qA, rfl, hqA, hbA⟩; have bA : Below w3.heap.size w3 wA := bD.trans (hbA.mono bD.size); have A0 := (bA.cell (p := ⟨w1.heap.size, 0, none⟩) s0).trans q0; have cZ2 := cZ wA qA hqA; obtain ⟨pA, cA2, rfl⟩ := hqA.shape) | (go_at_call 57; refine cZ2.mono ?_; rintro e wZ ⟨rfl, hbZ⟩; have bZ : Below w3.heap.size w3 wZ := bA.trans (hbZ.mono bA.size); have Z0 := (bZ.cell (p := ⟨w1.heap.size, 0, none⟩) s0).trans q0))
        all_goals
          go_wp2_with fail
          go_ret2
          exact ⟨by rw [HV.out]; rfl, hbW3.trans (bZ.mono hbW3.size)⟩
  · have HV := Lib.hid (show IR = ([], 1) by rw [← HIR.out]; unfold roundR; exact on1_none hc _)
    clear hc
    go_wp2_with fail
    go_ret2
    exact ⟨by rw [HV.out]; rfl, hb1.alloc hb1.size _⟩
end Go.Proofs.YtcicjoamnlnlnaaGreatDoor.R

/- math/bits.Div64. -/
import Derived.Test.YtofpojlnfncpcaaGreatDoorNuKnuth
namespace Go.Proofs.YtofpojlnfncpcaaGreatDoor
open Go.RowKit Go.Lib

set_option maxRecDepth 100000 in
set_option maxHeartbeats 8000000 in
theorem div64_any (hi lo y : Nat) (h1 : hi < y) (h2 : lo < 18446744073709551616) (h3 : y < 18446744073709551616) (w : World) :
    Calls Tryz.prog 118 #[.int .u64 (hi : Int), .int .u64 (lo : Int), .int .u64 (y : Int)] w fun e w' => e = .returned (.tuple #[.int .u64 (((hi * 18446744073709551616 + lo) / y : Nat) : Int), .int .u64 (((hi * 18446744073709551616 + lo) % y : Nat) : Int)]) ∧ ∃ n, w' = w.drewN n := by
  by_cases h0 : hi = 0
  · subst h0
    have yb : ((y : Int) == 0) = false := by rw [beq_eq_false_iff_ne]; omega
    have yz : ¬ (y : Int) = 0 := by omega
    have yh : ¬ (y : Int) ≤ 0 := by omega
    rw [Nat.zero_mul, Nat.zero_add]
    have f1 := first_quot2 lo y h2
    rw [Int.natCast_ediv lo y] at f1
    rw [Int.natCast_emod lo y, Int.natCast_ediv lo y]
    go_enter Tryz.func118, Tryz.ntmps118
    go_wp2_with fail
    go_quiet (fail)
    go_wp2_with fail
    go_ret2
    exact ⟨rfl, nq, rfl⟩
  · have hiz : ¬ (hi : Int) = 0 := by omega
    have hib : ((hi : Int) == 0) = false := by rw [beq_eq_false_iff_ne]; exact hiz
    have yb : ((y : Int) == 0) = false := by rw [beq_eq_false_iff_ne]; omega
    have yh : ¬ (y : Int) ≤ (hi : Int) := by omega
    have cZ := Tryz.bits_LeadingZeros64 (y : Int) w (by omega) (by omega)
    obtain ⟨S, hS0, hb64, hS9, hY1, hY2⟩ := bitLen_shifts y (by omega) h3
    have hS : (64 - (Lib.bitLen ((y : Int)).toNat : Int)) = (S : Int) := by rw [Int.toNat_natCast]; omega
    rw [hS] at cZ
    obtain ⟨sw1, sw2, sw3⟩ := shifted_words hi lo S hS9 h2
    have hhi : hi * 2 ^ S < y * 2 ^ S := Nat.mul_lt_mul_of_pos_right h1 (Nat.pow_pos (by omega))
    obtain ⟨dv1, dv2⟩ := shifted_div (hi * 18446744073709551616 + lo) y S
    rw [← sw2] at dv1 dv2
    have e1 : (hi + 1) * 2 ^ S ≤ y * 2 ^ S := Nat.mul_le_mul_right _ h1
    rw [Nat.add_mul, Nat.one_mul] at e1
    have fY : IntKind.u64.wrap ((y : Int) * 2 ^ S) = ((y * 2 ^ S : Nat) : Int) := by
      rw [show (y : Int) * 2 ^ S = ((y * 2 ^ S : Nat) : Int) by push_cast; rfl]
      exact IntWalk.u64_in _ ⟨by omega, by omega⟩
    have fH : IntKind.u64.wrap ((hi : Int) * 2 ^ S) = ((hi * 2 ^ S : Nat) : Int) := by
      rw [show (hi : Int) * 2 ^ S = ((hi * 2 ^ S : Nat) : Int) by push_cast; rfl]
      exact IntWalk.u64_in _ ⟨by omega, by omega⟩
    have fL : IntKind.u64.wrap ((lo : Int) * 2 ^ S) = ((lo * 2 ^ S % 18446744073709551616 : Nat) : Int) := by
      rw [show (lo : Int) * 2 ^ S = ((lo * 2 ^ S : Nat) : Int) by push_cast; rfl, IntKind.wrap_u64]
      omega
    have fl : (lo : Int) / 2 ^ (64 - S) = ((lo / 2 ^ (64 - S) : Nat) : Int) := by push_cast; rfl
    have pS : 2 ^ S ≤ 9223372036854775808 := Nat.pow_le_pow_right (n := 2) (j := 63) (by omega) (by omega)
    have fU : bits .or .u64 (IntKind.u64.wrap ((hi : Int) * 2 ^ S)) ((lo : Int) / 2 ^ (64 - S)) = ((hi * 2 ^ S + lo / 2 ^ (64 - S) : Nat) : Int) := by
      rw [fH, fl, bits_or_u64_nat _ _ (by omega) (by omega), sw1]
    have hU : hi * 2 ^ S + lo / 2 ^ (64 - S) < y * 2 ^ S := by omega
    have hL : lo * 2 ^ S % 18446744073709551616 < 18446744073709551616 := Nat.mod_lt _ (by omega)
    clear sw1 fH fl hhi e1 sw3 hS hS0 hb64 pS h2
    generalize lo * 2 ^ S % 18446744073709551616 = L at *
    generalize hi * 2 ^ S + lo / 2 ^ (64 - S) = U at *
    generalize y * 2 ^ S = Y at *
    clear sw2
    obtain ⟨QQ, hQQ⟩ : ∃ QQ, (hi * 18446744073709551616 + lo) / y = QQ := ⟨_, rfl⟩
    obtain ⟨RR, hRR⟩ : ∃ RR, (hi * 18446744073709551616 + lo) % y = RR := ⟨_, rfl⟩
    rw [hQQ] at dv1 ⊢
    rw [hRR] at dv2 ⊢
    clear hQQ hRR
    obtain ⟨Y1, hYa⟩ : ∃ Y1, Y / 4294967296 = Y1 := ⟨_, rfl⟩
    obtain ⟨Y0, hYb⟩ : ∃ Y0, Y % 4294967296 = Y0 := ⟨_, rfl⟩
    obtain ⟨L1, hLa⟩ : ∃ L1, L / 4294967296 = L1 := ⟨_, rfl⟩
    obtain ⟨L0, hLb⟩ : ∃ L0, L % 4294967296 = L0 := ⟨_, rfl⟩
    have fY1 : (Y : Int) / 4294967296 = (Y1 : Int) := by omega
    have fL1 : (L : Int) / 4294967296 = (L1 : Int) := by omega
    have fY0 : bits .and .u64 (Y : Int) 4294967295 = (Y0 : Int) := by
      rw [show (4294967295 : Int) = ((4294967295 : Nat) : Int) from rfl, bits_and_u64_nat _ _ (by omega) (by omega), show (4294967295 : Nat) = 2 ^ 32 - 1 from rfl, Nat.and_two_pow_sub_one_eq_mod, ← hYb]
    have fL0 : bits .and .u64 (L : Int) 4294967295 = (L0 : Int) := by
      rw [show (4294967295 : Int) = ((4294967295 : Nat) : Int) from rfl, bits_and_u64_nat _ _ (by omega) (by omega), show (4294967295 : Nat) = 2 ^ 32 - 1 from rfl, Nat.and_two_pow_sub_one_eq_mod, ← hLb]
    have hd : ¬ IntKind.u64.wrap ((y : Int) * 2 ^ S) / 4294967296 = 0 := by rw [fY, fY1]; omega
    have HF := Lib.hid (And.intro fY (And.intro fU (And.intro fL (And.intro fY1 (And.intro fL1 (And.intro fY0 fL0))))))
    clear fY fU fL fY1 fL1 fY0 fL0
    have b1 : 2147483648 ≤ Y1 := by omega
    have b2 : Y1 < 4294967296 := by omega
    have b3 : Y0 < 4294967296 := by omega
    have b4 : L1 < 4294967296 := by omega
    have b5 : L0 < 4294967296 := by omega
    have hYe : Y = Y1 * 4294967296 + Y0 := by omega
    have hLe : L = L1 * 4294967296 + L0 := by omega
    have bU : U < 18446744073709551616 := by omega
    clear hYa hYb hLa hLb
    rw [hLe] at dv1 dv2
    obtain ⟨T, hT⟩ : ∃ T, (U * 4294967296 + L1) / Y = T := ⟨_, rfl⟩
    have hT9 := digit_small U L1 Y hU b4
    rw [hT] at hT9
    obtain ⟨R1, hR1⟩ : ∃ R1, (U * 4294967296 + L1) % Y = R1 := ⟨_, rfl⟩
    have hR1d : Y * T + R1 = U * 4294967296 + L1 := by rw [← hT, ← hR1]; exact Nat.div_add_mod _ _
    have hR1l : R1 < Y := by rw [← hR1]; exact Nat.mod_lt _ (by omega)
    obtain ⟨d1, d2⟩ := digits2 U L1 L0 Y T R1 (by omega) hR1d
    rw [dv1] at d1
    rw [← d2] at dv2
    have HL := Lib.hid (left_parts U L1 Y T R1 (by omega) hR1d)
    obtain ⟨T2, hT2⟩ : ∃ T2, (R1 * 4294967296 + L0) / Y = T2 := ⟨_, rfl⟩
    have hT29 := digit_small R1 L0 Y hR1l b5
    rw [hT2] at hT29 d1
    obtain ⟨R2, hR2⟩ : ∃ R2, (R1 * 4294967296 + L0) % Y = R2 := ⟨_, rfl⟩
    have hR2d : Y * T2 + R2 = R1 * 4294967296 + L0 := by rw [← hT2, ← hR2]; exact Nat.div_add_mod _ _
    have hR2l : R2 < Y := by rw [← hR2]; exact Nat.mod_lt _ (by omega)
    rw [hR2] at dv2
    have HL2 := Lib.hid (left_parts R1 L0 Y T2 R2 (by omega) hR2d)
    have bR : R1 < 18446744073709551616 := by omega
    rw [hYe] at hT hT2 hU hR1l
    have HE := Lib.hid (show (T : Int) < 4294967296 ∧ (T2 : Int) < 4294967296 ∧ (T : Int) * 4294967296 + (T2 : Int) = (QQ : Int) ∧ (R2 : Int) / 2 ^ S = (RR : Int) from ⟨by omega, by omega, by omega, by rw [← dv2]; push_cast; rfl⟩)
    have HT := Lib.hid hT
    have HT2 := Lib.hid hT2
    have HB := Lib.hid (And.intro b1 (And.intro b2 (And.intro b3 (And.intro b4 (And.intro b5 (And.intro hU hR1l))))))
    have G0 := Guess.start Y1 Y0 U L1 b1 b2 b3 hU b4
    have G2 := Lib.hid (Guess.start Y1 Y0 R1 L0 b1 b2 b3 hR1l b5)
    have FQ := Lib.hid (And.intro (first_quot U Y1 bU) (first_rest U Y1 bU))
    have FQ2 := Lib.hid (And.intro (first_quot2 R1 Y1 bR) (first_rest R1 Y1 bR))
    have hy1 : ¬ (Y1 : Int) = 0 := by omega
    clear dv1 dv2 d1 d2 hT hT2 hR1 hR2 hR1d hR2d hR1l hR2l hYe hLe hU hT9 hT29 bU bR b1 b2 b3 b4 b5 hY1 hY2 hL
    go_enter Tryz.func118, Tryz.ntmps118
    go_wp2_with fail
    refine cZ.mono ?_
    rintro e w1 ⟨rfl, rfl⟩
    clear cZ
    go_wp2_with fail
    obtain ⟨fY, fU, fL, fY1, fL1, fY0, fL0⟩ := HF.out
    obtain ⟨fq, fr⟩ := FQ.out
    rw [fY, fU, fL, fY1, fL1, fY0, fL0, fq, fr]
    clear fq fr hd FQ fY fU fL fY1 fL1 fY0 fL0 HF
    go_loopg [15, 16] (U / Y1) (fun g s15 s16 wx => ∃ q r : Nat, s15 = .int .u64 q ∧ s16 = .int .u64 r ∧ Guess Y1 Y0 U L1 q r ∧ q ≤ g ∧ wx = w1)
    case atStart => exact ⟨_, _, rfl, rfl, G0, Nat.le_refl _, rfl⟩
    case round =>
      clear G0
      obtain ⟨q, r, rfl, rfl, hG, hg, rfl⟩ := hrel
      obtain ⟨b1, b2, b3, b4, b5, b6, b7⟩ := HB.out
      have hr := hG.rest
      have hy2 : (Y1 : Int) < 4294967296 := by omega
      obtain ⟨P, hP, hPz, hPl, z0⟩ := hG.prod b3
      by_cases hc : 4294967296 ≤ q ∨ r * 4294967296 + L1 < q * Y0
      · have hq1 := (hG.great (by assumption) (by assumption) hc).1
        have z3 : (1 : Int) ≤ (q : Int) := by omega
        by_cases hb2 : r + Y1 < 4294967296
        · obtain ⟨g, rfl⟩ : ∃ g, gk = g + 1 := ⟨gk - 1, by omega⟩
          have hn := hG.next (by assumption) (by assumption) hc hb2
          have z2 : ¬ (4294967296 : Int) ≤ (r : Int) + (Y1 : Int) := by omega
          by_cases hb : 4294967296 ≤ q
          · have z1 : (4294967296 : Int) ≤ (q : Int) := by omega
            clear hc b1 b2 b3 b4 b5 b6 b7 hb hb2 hG hP hPl
            go_wp2_with fail
            go_roundg g
            case rel => exact ⟨q - 1, r + Y1, by congr 1; omega, by congr 1, hn, by omega, rfl⟩
            all_goals omega
          · have z1 : ¬ (4294967296 : Int) ≤ (q : Int) := by omega
            have hPq := hPl (by omega)
            have z4 : (P : Int) > 4294967296 * (r : Int) + (L1 : Int) := by omega
            have z5 : (L1 : Int) < 4294967296 := by omega
            clear hc b1 b2 b3 b4 b5 b6 b7 hb hb2 hG hP hPl
            go_wp2_with fail
            go_roundg g
            case rel => exact ⟨q - 1, r + Y1, by congr 1; omega, by congr 1, hn, by omega, rfl⟩
            all_goals omega
        · obtain ⟨Q, hQ⟩ : ∃ Q, q - 1 = Q := ⟨_, rfl⟩
          have hn := hG.out b1 b3 (by assumption) (by assumption) hc hb2
          rw [hQ] at hn
          obtain rfl : q = Q + 1 := by omega
          have z2 : (4294967296 : Int) ≤ (r : Int) + (Y1 : Int) := by omega
          have z6 : (((Q + 1 : Nat) : Int)) = (Q : Int) + 1 := by omega
          rw [z6] at hPz z3 z0 ⊢
          clear z6
          by_cases hb : 4294967296 ≤ Q + 1
          · have z1 : (4294967296 : Int) ≤ (Q : Int) + 1 := by omega
            clear hc b1 b2 b3 b4 b5 b6 b7 hb hb2 hG hP hPl hQ hq1 hg
            rw [HT.out] at hn
            have hn := hn.symm
            subst hn
            obtain ⟨W, W1, X, lp1, lp2, lp3, lp4⟩ := HL.out
            go_wp2_with fail
            obtain ⟨sq, sr⟩ := FQ2.out
            rw [sq, sr]
            clear sq sr hr hPz z0 z1
            try clear z2
            try clear z3
            try clear z4
            try clear z5
            try clear hPq
            go_loopg [18, 16] (R1 / Y1) (fun g s18 s16 wx => ∃ q r : Nat, s18 = .int .u64 q ∧ s16 = .int .u64 r ∧ Guess Y1 Y0 R1 L0 q r ∧ q ≤ g ∧ wx = wr)
            case atStart => exact ⟨_, _, rfl, rfl, G2.out, Nat.le_refl _, rfl⟩
            case round =>
              obtain ⟨q, r, rfl, rfl, hG, hg, rfl⟩ := hrel
              obtain ⟨b1, b2, b3, b4, b5, b6, b7⟩ := HB.out
              have hr := hG.rest
              have hy2 : (Y1 : Int) < 4294967296 := by omega
              obtain ⟨P, hP, hPz, hPl, z0⟩ := hG.prod b3
              by_cases hc : 4294967296 ≤ q ∨ r * 4294967296 + L0 < q * Y0
              · have hq1 := (hG.great (by assumption) (by assumption) hc).1
                have z3 : (1 : Int) ≤ (q : Int) := by omega
                by_cases hb2 : r + Y1 < 4294967296
                · obtain ⟨g, rfl⟩ : ∃ g, gk = g + 1 := ⟨gk - 1, by omega⟩
                  have hn := hG.next (by assumption) (by assumption) hc hb2
                  have z2 : ¬ (4294967296 : Int) ≤ (r : Int) + (Y1 : Int) := by omega
                  by_cases hb : 4294967296 ≤ q
                  · have z1 : (4294967296 : Int) ≤ (q : Int) := by omega
                    clear hc b1 b2 b3 b4 b5 b6 b7 hb hb2 hG hP hPl
                    go_wp2_with fail
                    go_roundg g
                    case rel => exact ⟨q - 1, r + Y1, by congr 1; omega, by congr 1, hn, by omega, rfl⟩
                    all_goals omega
                  · have z1 : ¬ (4294967296 : Int) ≤ (q : Int) := by omega
                    have hPq := hPl (by omega)
                    have z4 : (P : Int) > 4294967296 * (r : Int) + (L0 : Int) := by omega
                    have z5 : (L0 : Int) < 4294967296 := by omega
                    clear hc b1 b2 b3 b4 b5 b6 b7 hb hb2 hG hP hPl
                    go_wp2_with fail
                    go_roundg g
                    case rel => exact ⟨q - 1, r + Y1, by congr 1; omega, by congr 1, hn, by omega, rfl⟩
                    all_goals omega
                · obtain ⟨Q, hQ⟩ : ∃ Q, q - 1 = Q := ⟨_, rfl⟩
                  have hn := hG.out b1 b3 (by assumption) (by assumption) hc hb2
                  rw [hQ] at hn
                  obtain rfl : q = Q + 1 := by omega
                  have z2 : (4294967296 : Int) ≤ (r : Int) + (Y1 : Int) := by omega
                  have z6 : (((Q + 1 : Nat) : Int)) = (Q : Int) + 1 := by omega
                  rw [z6] at hPz z3 z0 ⊢
                  clear z6
                  by_cases hb : 4294967296 ≤ Q + 1
                  · have z1 : (4294967296 : Int) ≤ (Q : Int) + 1 := by omega
                    clear hc b1 b2 b3 b4 b5 b6 b7 hb hb2 hG hP hPl hQ hq1 hg
                    rw [HT2.out] at hn
                    have hn := hn.symm
                    subst hn
                    obtain ⟨W3, W4, X2, lq1, lq2, lq3, lq4⟩ := HL2.out
                    obtain ⟨e1, e2, e3, e4⟩ := HE.out
                    go_wp2_with fail
                    go_ret2
                    exact ⟨rfl, 0, rfl⟩
                  · have z1 : ¬ (4294967296 : Int) ≤ (Q : Int) + 1 := by omega
                    have hPq := hPl (by omega)
                    have z4 : (P : Int) > 4294967296 * (r : Int) + (L0 : Int) := by omega
                    have z5 : (L0 : Int) < 4294967296 := by omega
                    clear hc b1 b2 b3 b4 b5 b6 b7 hb hb2 hG hP hPl hQ hq1 hg
                    rw [HT2.out] at hn
                    have hn := hn.symm
                    subst hn
                    obtain ⟨W3, W4, X2, lq1, lq2, lq3, lq4⟩ := HL2.out
                    obtain ⟨e1, e2, e3, e4⟩ := HE.out
                    go_wp2_with fail
                    go_ret2
                    exact ⟨rfl, 0, rfl⟩
              · have hb : ¬ 4294967296 ≤ q := fun h => hc (Or.inl h)
                have hn := hG.stop b1 (by omega)
                have hPq := hPl (by omega)
                have z1 : ¬ (4294967296 : Int) ≤ (q : Int) := by omega
                have z4 : ¬ (P : Int) > 4294967296 * (r : Int) + (L0 : Int) := by omega
                have z5 : (L0 : Int) < 4294967296 := by omega
                clear hc b1 b2 b3 b4 b5 b6 b7 hb hG hP hPl hg
                rw [HT2.out] at hn
                have hn := hn.symm
                subst hn
                obtain ⟨W3, W4, X2, lq1, lq2, lq3, lq4⟩ := HL2.out
                obtain ⟨e1, e2, e3, e4⟩ := HE.out
                go_wp2_with fail
                go_ret2
                exact ⟨rfl, 0, rfl⟩
          · have z1 : ¬ (4294967296 : Int) ≤ (Q : Int) + 1 := by omega
            have hPq := hPl (by omega)
            have z4 : (P : Int) > 4294967296 * (r : Int) + (L1 : Int) := by omega
            have z5 : (L1 : Int) < 4294967296 := by omega
            clear hc b1 b2 b3 b4 b5 b6 b7 hb hb2 hG hP hPl hQ hq1 hg
            rw [HT.out] at hn
            have hn := hn.symm
            subst hn
            obtain ⟨W, W1, X, lp1, lp2, lp3, lp4⟩ := HL.out
            go_wp2_with fail
            obtain ⟨sq, sr⟩ := FQ2.out
            rw [sq, sr]
            clear sq sr hr hPz z0 z1
            try clear z2
            try clear z3
            try clear z4
            try clear z5
            try clear hPq
            go_loopg [18, 16] (R1 / Y1) (fun g s18 s16 wx => ∃ q r : Nat, s18 = .int .u64 q ∧ s16 = .int .u64 r ∧ Guess Y1 Y0 R1 L0 q r ∧ q ≤ g ∧ wx = wr)
            case atStart => exact ⟨_, _, rfl, rfl, G2.out, Nat.le_refl _, rfl⟩
            case round =>
              obtain ⟨q, r, rfl, rfl, hG, hg, rfl⟩ := hrel
              obtain ⟨b1, b2, b3, b4, b5, b6, b7⟩ := HB.out
              have hr := hG.rest
              have hy2 : (Y1 : Int) < 4294967296 := by omega
              obtain ⟨P, hP, hPz, hPl, z0⟩ := hG.prod b3
              by_cases hc : 4294967296 ≤ q ∨ r * 4294967296 + L0 < q * Y0
              · have hq1 := (hG.great (by assumption) (by assumption) hc).1
                have z3 : (1 : Int) ≤ (q : Int) := by omega
                by_cases hb2 : r + Y1 < 4294967296
                · obtain ⟨g, rfl⟩ : ∃ g, gk = g + 1 := ⟨gk - 1, by omega⟩
                  have hn := hG.next (by assumption) (by assumption) hc hb2
                  have z2 : ¬ (4294967296 : Int) ≤ (r : Int) + (Y1 : Int) := by omega
                  by_cases hb : 4294967296 ≤ q
                  · have z1 : (4294967296 : Int) ≤ (q : Int) := by omega
                    clear hc b1 b2 b3 b4 b5 b6 b7 hb hb2 hG hP hPl
                    go_wp2_with fail
                    go_roundg g
                    case rel => exact ⟨q - 1, r + Y1, by congr 1; omega, by congr 1, hn, by omega, rfl⟩
                    all_goals omega
                  · have z1 : ¬ (4294967296 : Int) ≤ (q : Int) := by omega
                    have hPq := hPl (by omega)
                    have z4 : (P : Int) > 4294967296 * (r : Int) + (L0 : Int) := by omega
                    have z5 : (L0 : Int) < 4294967296 := by omega
                    clear hc b1 b2 b3 b4 b5 b6 b7 hb hb2 hG hP hPl
                    go_wp2_with fail
                    go_roundg g
                    case rel => exact ⟨q - 1, r + Y1, by congr 1; omega, by congr 1, hn, by omega, rfl⟩
                    all_goals omega
                · obtain ⟨Q, hQ⟩ : ∃ Q, q - 1 = Q := ⟨_, rfl⟩
                  have hn := hG.out b1 b3 (by assumption) (by assumption) hc hb2
                  rw [hQ] at hn
                  obtain rfl : q = Q + 1 := by omega
                  have z2 : (4294967296 : Int) ≤ (r : Int) + (Y1 : Int) := by omega
                  have z6 : (((Q + 1 : Nat) : Int)) = (Q : Int) + 1 := by omega
                  rw [z6] at hPz z3 z0 ⊢
                  clear z6
                  by_cases hb : 4294967296 ≤ Q + 1
                  · have z1 : (4294967296 : Int) ≤ (Q : Int) + 1 := by omega
                    clear hc b1 b2 b3 b4 b5 b6 b7 hb hb2 hG hP hPl hQ hq1 hg
                    rw [HT2.out] at hn
                    have hn := hn.symm
                    subst hn
                    obtain ⟨W3, W4, X2, lq1, lq2, lq3, lq4⟩ := HL2.out
                    obtain ⟨e1, e2, e3, e4⟩ := HE.out
                    go_wp2_with fail
                    go_ret2
                    exact ⟨rfl, 0, rfl⟩
                  · have z1 : ¬ (4294967296 : Int) ≤ (Q : Int) + 1 := by omega
                    have hPq := hPl (by omega)
                    have z4 : (P : Int) > 4294967296 * (r : Int) + (L0 : Int) := by omega
                    have z5 : (L0 : Int) < 4294967296 := by omega
                    clear hc b1 b2 b3 b4 b5 b6 b7 hb hb2 hG hP hPl hQ hq1 hg
                    rw [HT2.out] at hn
                    have hn := hn.symm
                    subst hn
                    obtain ⟨W3, W4, X2, lq1, lq2, lq3, lq4⟩ := HL2.out
                    obtain ⟨e1, e2, e3, e4⟩ := HE.out
                    go_wp2_with fail
                    go_ret2
                    exact ⟨rfl, 0, rfl⟩
              · have hb : ¬ 4294967296 ≤ q := fun h => hc (Or.inl h)
                have hn := hG.stop b1 (by omega)
                have hPq := hPl (by omega)
                have z1 : ¬ (4294967296 : Int) ≤ (q : Int) := by omega
                have z4 : ¬ (P : Int) > 4294967296 * (r : Int) + (L0 : Int) := by omega
                have z5 : (L0 : Int) < 4294967296 := by omega
                clear hc b1 b2 b3 b4 b5 b6 b7 hb hG hP hPl hg
                rw [HT2.out] at hn
                have hn := hn.symm
                subst hn
                obtain ⟨W3, W4, X2, lq1, lq2, lq3, lq4⟩ := HL2.out
                obtain ⟨e1, e2, e3, e4⟩ := HE.out
                go_wp2_with fail
                go_ret2
                exact ⟨rfl, 0, rfl⟩
      · have hb : ¬ 4294967296 ≤ q := fun h => hc (Or.inl h)
        have hn := hG.stop b1 (by omega)
        have hPq := hPl (by omega)
        have z1 : ¬ (4294967296 : Int) ≤ (q : Int) := by omega
        have z4 : ¬ (P : Int) > 4294967296 * (r : Int) + (L1 : Int) := by omega
        have z5 : (L1 : Int) < 4294967296 := by omega
        clear hc b1 b2 b3 b4 b5 b6 b7 hb hG hP hPl hg
        rw [HT.out] at hn
        have hn := hn.symm
        subst hn
        obtain ⟨W, W1, X, lp1, lp2, lp3, lp4⟩ := HL.out
        go_wp2_with fail
        obtain ⟨sq, sr⟩ := FQ2.out
        rw [sq, sr]
        clear sq sr hr hPz z0 z1
        try clear z2
        try clear z3
        try clear z4
        try clear z5
        try clear hPq
        go_loopg [18, 16] (R1 / Y1) (fun g s18 s16 wx => ∃ q r : Nat, s18 = .int .u64 q ∧ s16 = .int .u64 r ∧ Guess Y1 Y0 R1 L0 q r ∧ q ≤ g ∧ wx = wr)
        case atStart => exact ⟨_, _, rfl, rfl, G2.out, Nat.le_refl _, rfl⟩
        case round =>
          obtain ⟨q, r, rfl, rfl, hG, hg, rfl⟩ := hrel
          obtain ⟨b1, b2, b3, b4, b5, b6, b7⟩ := HB.out
          have hr := hG.rest
          have hy2 : (Y1 : Int) < 4294967296 := by omega
          obtain ⟨P, hP, hPz, hPl, z0⟩ := hG.prod b3
          by_cases hc : 4294967296 ≤ q ∨ r * 4294967296 + L0 < q * Y0
          · have hq1 := (hG.great (by assumption) (by assumption) hc).1
            have z3 : (1 : Int) ≤ (q : Int) := by omega
            by_cases hb2 : r + Y1 < 4294967296
            · obtain ⟨g, rfl⟩ : ∃ g, gk = g + 1 := ⟨gk - 1, by omega⟩
              have hn := hG.next (by assumption) (by assumption) hc hb2
              have z2 : ¬ (4294967296 : Int) ≤ (r : Int) + (Y1 : Int) := by omega
              by_cases hb : 4294967296 ≤ q
              · have z1 : (4294967296 : Int) ≤ (q : Int) := by omega
                clear hc b1 b2 b3 b4 b5 b6 b7 hb hb2 hG hP hPl
                go_wp2_with fail
                go_roundg g
                case rel => exact ⟨q - 1, r + Y1, by congr 1; omega, by congr 1, hn, by omega, rfl⟩
                all_goals omega
              · have z1 : ¬ (4294967296 : Int) ≤ (q : Int) := by omega
                have hPq := hPl (by omega)
                have z4 : (P : Int) > 4294967296 * (r : Int) + (L0 : Int) := by omega
                have z5 : (L0 : Int) < 4294967296 := by omega
                clear hc b1 b2 b3 b4 b5 b6 b7 hb hb2 hG hP hPl
                go_wp2_with fail
                go_roundg g
                case rel => exact ⟨q - 1, r + Y1, by congr 1; omega, by congr 1, hn, by omega, rfl⟩
                all_goals omega
            · obtain ⟨Q, hQ⟩ : ∃ Q, q - 1 = Q := ⟨_, rfl⟩
              have hn := hG.out b1 b3 (by assumption) (by assumption) hc hb2
              rw [hQ] at hn
              obtain rfl : q = Q + 1 := by omega
              have z2 : (4294967296 : Int) ≤ (r : Int) + (Y1 : Int) := by omega
              have z6 : (((Q + 1 : Nat) : Int)) = (Q : Int) + 1 := by omega
              rw [z6] at hPz z3 z0 ⊢
              clear z6
              by_cases hb : 4294967296 ≤ Q + 1
              · have z1 : (4294967296 : Int) ≤ (Q : Int) + 1 := by omega
                clear hc b1 b2 b3 b4 b5 b6 b7 hb hb2 hG hP hPl hQ hq1 hg
                rw [HT2.out] at hn
                have hn := hn.symm
                subst hn
                obtain ⟨W3, W4, X2, lq1, lq2, lq3, lq4⟩ := HL2.out
                obtain ⟨e1, e2, e3, e4⟩ := HE.out
                go_wp2_with fail
                go_ret2
                exact ⟨rfl, 0, rfl⟩
              · have z1 : ¬ (4294967296 : Int) ≤ (Q : Int) + 1 := by omega
                have hPq := hPl (by omega)
                have z4 : (P : Int) > 4294967296 * (r : Int) + (L0 : Int) := by omega
                have z5 : (L0 : Int) < 4294967296 := by omega
                clear hc b1 b2 b3 b4 b5 b6 b7 hb hb2 hG hP hPl hQ hq1 hg
                rw [HT2.out] at hn
                have hn := hn.symm
                subst hn
                obtain ⟨W3, W4, X2, lq1, lq2, lq3, lq4⟩ := HL2.out
                obtain ⟨e1, e2, e3, e4⟩ := HE.out
                go_wp2_with fail
                go_ret2
                exact ⟨rfl, 0, rfl⟩
          · have hb : ¬ 4294967296 ≤ q := fun h => hc (Or.inl h)
            have hn := hG.stop b1 (by omega)
            have hPq := hPl (by omega)
            have z1 : ¬ (4294967296 : Int) ≤ (q : Int) := by omega
            have z4 : ¬ (P : Int) > 4294967296 * (r : Int) + (L0 : Int) := by omega
            have z5 : (L0 : Int) < 4294967296 := by omega
            clear hc b1 b2 b3 b4 b5 b6 b7 hb hG hP hPl hg
            rw [HT2.out] at hn
            have hn := hn.symm
            subst hn
            obtain ⟨W3, W4, X2, lq1, lq2, lq3, lq4⟩ := HL2.out
            obtain ⟨e1, e2, e3, e4⟩ := HE.out
            go_wp2_with fail
            go_ret2
            exact ⟨rfl, 0, rfl⟩
end Go.Proofs.YtofpojlnfncpcaaGreatDoor

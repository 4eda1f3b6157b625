/- math/bits.Div64: the arithmetic of a division by parts of 32 bits. math/bits.Div64. math/bits.Add64, without a carry (the model stands in for it). Natural numbers: what the two highest words tell of a quotient. Natural numbers: the contract of guess. -/
import Derived.Test.YtgmnjghbafbopaaGreatDoorMNuC
import Derived.Lib.ItoaNum
import Derived.Laws.Bits64b
import Derived.Laws.Externs
namespace Go.Proofs.YtgmnjghbafbopaaGreatDoor
open Go.RowKit Go.Lib
set_option maxRecDepth 20000

/-- The shift that brings a number's highest bit to place 63. -/
theorem bitLen_shifts (y : Nat) (h0 : 0 < y) (h : y < 18446744073709551616) :
    ∃ S, 64 - Lib.bitLen y = S ∧ Lib.bitLen y ≤ 64 ∧ S < 64 ∧ 9223372036854775808 ≤ y * 2 ^ S ∧ y * 2 ^ S < 18446744073709551616 := by
  obtain ⟨a, b, c⟩ := bitLenAux_bounds 64 y h (by omega)
  have hl : bitLenAux 64 y ≤ 64 := bitLen_le y 64 (Nat.le_refl _) h
  unfold Lib.bitLen
  refine ⟨64 - bitLenAux 64 y, rfl, hl, by omega, ?_, ?_⟩
  · generalize bitLenAux 64 y = L at a b c hl ⊢
    have e : 2 ^ (L - 1) * 2 ^ (64 - L) = 9223372036854775808 := by
      rw [← Nat.pow_add, show L - 1 + (64 - L) = 63 by omega]
    rw [← e]
    exact Nat.mul_le_mul_right _ b
  · generalize bitLenAux 64 y = L at a b c hl ⊢
    have e : 2 ^ L * 2 ^ (64 - L) = 18446744073709551616 := by
      rw [← Nat.pow_add, show L + (64 - L) = 64 by omega]
    rw [← e]
    exact Nat.mul_lt_mul_of_pos_right c (Nat.pow_pos (by omega))

theorem lin1 {A C r x U : Nat} (h1 : A + r = U) (h2 : r * 4294967296 + x < C) : U * 4294967296 + x < A * 4294967296 + C := by
  subst h1
  rw [Nat.add_mul, Nat.add_assoc]
  exact Nat.add_lt_add_left h2 _

theorem digits2 (U x z D Q R : Nat) (hD : 0 < D) (hd : D * Q + R = U * 4294967296 + x) :
    Q * 4294967296 + (R * 4294967296 + z) / D = (U * 18446744073709551616 + (x * 4294967296 + z)) / D
    ∧ (R * 4294967296 + z) % D = (U * 18446744073709551616 + (x * 4294967296 + z)) % D := by
  have e : U * 18446744073709551616 + (x * 4294967296 + z) = (R * 4294967296 + z) + D * (Q * 4294967296) := by
    rw [← Nat.mul_assoc]
    generalize D * Q = P at hd ⊢
    omega
  rw [e, Nat.add_mul_div_left _ _ hD, Nat.add_mul_mod_self_left]
  exact ⟨Nat.add_comm _ _, rfl⟩

/-- What a guess of a digit keeps: D is the divisor in two parts, U the rest so far, x the next part. -/
structure Guess (Y1 Y0 U x q r : Nat) : Prop where
  sum : q * Y1 + r = U
  ge : (U * 4294967296 + x) / (Y1 * 4294967296 + Y0) ≤ q
  le : q ≤ 4294967298
  rest : r < 4294967296

theorem Guess.start (Y1 Y0 U x : Nat) (h1 : 2147483648 ≤ Y1) (h2 : Y1 < 4294967296) (h3 : Y0 < 4294967296) (hU : U < Y1 * 4294967296 + Y0) (hx : x < 4294967296) :
    Guess Y1 Y0 U x (U / Y1) (U - U / Y1 * Y1) := by
  have hd : Y1 * (U / Y1) + U % Y1 = U := Nat.div_add_mod U Y1
  rw [Nat.mul_comm Y1] at hd
  have hm : U % Y1 < Y1 := Nat.mod_lt _ (by omega)
  have hq : U / Y1 < 4294967299 := by
    rw [Nat.div_lt_iff_lt_mul (by omega)]
    omega
  refine ⟨by omega, ?_, by omega, by omega⟩
  have hlt : (U * 4294967296 + x) / (Y1 * 4294967296 + Y0) < U / Y1 + 1 := by
    rw [Nat.div_lt_iff_lt_mul (by omega)]
    have e : (U / Y1 + 1) * (Y1 * 4294967296 + Y0) = (U / Y1 * Y1) * 4294967296 + Y1 * 4294967296 + (U / Y1 + 1) * Y0 := by
      rw [Nat.mul_add, ← Nat.mul_assoc, Nat.add_mul (U / Y1) 1 Y1, Nat.one_mul, Nat.add_mul]
    rw [e]
    have : 0 ≤ (U / Y1 + 1) * Y0 := Nat.zero_le _
    omega
  omega

/-- A guess that is too great. -/
theorem Guess.great {Y1 Y0 U x q r : Nat} (g : Guess Y1 Y0 U x q r) (hx : x < 4294967296) (hU : U < Y1 * 4294967296 + Y0)
    (h : 4294967296 ≤ q ∨ r * 4294967296 + x < q * Y0) :
    1 ≤ q ∧ (U * 4294967296 + x) / (Y1 * 4294967296 + Y0) ≤ q - 1 ∧ (q - 1) * Y1 + (r + Y1) = U := by
  have hq : (U * 4294967296 + x) / (Y1 * 4294967296 + Y0) < q := by
    rw [Nat.div_lt_iff_lt_mul (by omega)]
    rcases h with h | h
    · have : 4294967296 * (Y1 * 4294967296 + Y0) ≤ q * (Y1 * 4294967296 + Y0) := Nat.mul_le_mul_right _ h
      omega
    · have e : q * (Y1 * 4294967296 + Y0) = (q * Y1) * 4294967296 + q * Y0 := by rw [Nat.mul_add, Nat.mul_assoc]
      rw [e]
      exact lin1 g.sum h
  clear h
  generalize (U * 4294967296 + x) / (Y1 * 4294967296 + Y0) = D at *
  refine ⟨by omega, by omega, ?_⟩
  have := g.sum
  obtain ⟨k, rfl⟩ : ∃ k, q = k + 1 := ⟨q - 1, by omega⟩
  rw [Nat.add_mul, Nat.one_mul] at this
  rw [Nat.add_sub_cancel]
  omega

theorem Guess.next {Y1 Y0 U x q r : Nat} (g : Guess Y1 Y0 U x q r) (hx : x < 4294967296) (hU : U < Y1 * 4294967296 + Y0)
    (h : 4294967296 ≤ q ∨ r * 4294967296 + x < q * Y0) (hr : r + Y1 < 4294967296) : Guess Y1 Y0 U x (q - 1) (r + Y1) := by
  obtain ⟨a, b, c⟩ := g.great hx hU h
  exact ⟨c, b, by have := g.le; omega, hr⟩

theorem guess_low {Y1 Y0 U x q r : Nat} (hs : q * Y1 + r = U) (h1 : 2147483648 ≤ Y1) (hge : (U * 4294967296 + x) / (Y1 * 4294967296 + Y0) ≤ q) (h : q * Y0 ≤ r * 4294967296 + x) :
    q = (U * 4294967296 + x) / (Y1 * 4294967296 + Y0) := by
  refine Nat.le_antisymm ?_ hge
  rw [Nat.le_div_iff_mul_le (by omega)]
  have e : q * (Y1 * 4294967296 + Y0) = (q * Y1) * 4294967296 + q * Y0 := by rw [Nat.mul_add, Nat.mul_assoc]
  rw [e]
  omega

/-- The guess that stands at the loop's condition. -/
theorem Guess.stop {Y1 Y0 U x q r : Nat} (g : Guess Y1 Y0 U x q r) (h1 : 2147483648 ≤ Y1) (h : q * Y0 ≤ r * 4294967296 + x) :
    q = (U * 4294967296 + x) / (Y1 * 4294967296 + Y0) := guess_low g.sum h1 g.ge h

/-- The guess whose rest has grown too great. -/
theorem Guess.out {Y1 Y0 U x q r : Nat} (g : Guess Y1 Y0 U x q r) (h1 : 2147483648 ≤ Y1) (h3 : Y0 < 4294967296) (hx : x < 4294967296) (hU : U < Y1 * 4294967296 + Y0)
    (h : 4294967296 ≤ q ∨ r * 4294967296 + x < q * Y0) (hr : ¬ r + Y1 < 4294967296) : q - 1 = (U * 4294967296 + x) / (Y1 * 4294967296 + Y0) := by
  obtain ⟨a, b, c⟩ := g.great hx hU h
  refine guess_low c h1 b ?_
  have hq : q - 1 ≤ 4294967296 := by
    refine Decidable.byContradiction fun hn => ?_
    have : 4294967297 * Y1 ≤ (q - 1) * Y1 := Nat.mul_le_mul_right _ (by omega)
    omega
  have : (q - 1) * Y0 ≤ 4294967296 * Y0 := Nat.mul_le_mul_right _ hq
  omega

/-- The two digits and the rest. -/
theorem two_digits (U x z D : Nat) (hD : 0 < D) :
    (U * 4294967296 + x) / D * 4294967296 + ((U * 4294967296 + x) % D * 4294967296 + z) / D = (U * 18446744073709551616 + (x * 4294967296 + z)) / D
    ∧ ((U * 4294967296 + x) % D * 4294967296 + z) % D = (U * 18446744073709551616 + (x * 4294967296 + z)) % D :=
  digits2 U x z D _ _ hD (Nat.div_add_mod _ _)

/-- Both words behind a shift. -/
theorem shifted_words (hi lo S : Nat) (hS : S < 64) (hl : lo < 18446744073709551616) :
    (hi * 2 ^ S ||| lo / 2 ^ (64 - S)) = hi * 2 ^ S + lo / 2 ^ (64 - S)
    ∧ (hi * 2 ^ S + lo / 2 ^ (64 - S)) * 18446744073709551616 + lo * 2 ^ S % 18446744073709551616 = (hi * 18446744073709551616 + lo) * 2 ^ S
    ∧ lo / 2 ^ (64 - S) < 2 ^ S := by
  have e : 2 ^ (64 - S) * 2 ^ S = 18446744073709551616 := by
    rw [← Nat.pow_add, show 64 - S + S = 64 by omega]
  have hp : 0 < 2 ^ S := Nat.pow_pos (by omega)
  have hp2 : 0 < 2 ^ (64 - S) := Nat.pow_pos (by omega)
  have hlt : lo / 2 ^ (64 - S) < 2 ^ S := by
    rw [Nat.div_lt_iff_lt_mul hp2, Nat.mul_comm, e]
    exact hl
  refine ⟨?_, ?_, hlt⟩
  · have := Nat.shiftLeft_add_eq_or_of_lt hlt hi
    rw [Nat.shiftLeft_eq] at this
    exact this.symm
  · have h2 : lo * 2 ^ S / 18446744073709551616 = lo / 2 ^ (64 - S) := by
      rw [← e, Nat.mul_div_mul_right _ _ hp]
    have h3 := Nat.div_add_mod (lo * 2 ^ S) 18446744073709551616
    rw [h2] at h3
    have h4 : (hi * 18446744073709551616 + lo) * 2 ^ S = (hi * 2 ^ S) * 18446744073709551616 + lo * 2 ^ S := by
      rw [Nat.add_mul, Nat.mul_right_comm]
    rw [h4]
    omega

/-- Quotient and rest behind a shift. -/
theorem shifted_div (n y S : Nat) : (n * 2 ^ S) / (y * 2 ^ S) = n / y ∧ (n * 2 ^ S) % (y * 2 ^ S) / 2 ^ S = n % y := by
  have hp : 0 < 2 ^ S := Nat.pow_pos (by omega)
  refine ⟨Nat.mul_div_mul_right _ _ hp, ?_⟩
  rw [Nat.mul_mod_mul_right, Nat.mul_div_cancel _ hp]

/-- The guess of a digit and its rest, as words of 64 bits. -/
theorem first_quot (U Y1 : Nat) (hU : U < 18446744073709551616) :
    IntKind.u64.wrap ((U : Int).tdiv (Y1 : Int)) = ((U / Y1 : Nat) : Int) := by
  have hle : U / Y1 ≤ U := Nat.div_le_self _ _
  rw [← Int.ofNat_tdiv]
  generalize U / Y1 = P at hle ⊢
  exact IntWalk.u64_in _ ⟨by omega, by omega⟩

theorem first_rest (U Y1 : Nat) (hU : U < 18446744073709551616) :
    IntKind.u64.wrap ((U : Int) - IntKind.u64.wrap (((U / Y1 : Nat) : Int) * (Y1 : Int))) = ((U - U / Y1 * Y1 : Nat) : Int) := by
  have hle : U / Y1 * Y1 ≤ U := Nat.div_mul_le_self _ _
  rw [← Int.natCast_mul]
  generalize U / Y1 * Y1 = P at hle ⊢
  rw [IntWalk.u64_in (P : Int) ⟨by omega, by omega⟩, IntWalk.u64_in _ ⟨by omega, by omega⟩]
  omega

/-- What is left behind a digit, reckoned in words of 64 bits. -/
theorem left_over (U x D Q R : Nat) (hR : R < 18446744073709551616) (hd : D * Q + R = U * 4294967296 + x) :
    IntKind.u64.wrap (IntKind.u64.wrap (IntKind.u64.wrap ((U : Int) * 4294967296) + (x : Int)) - IntKind.u64.wrap ((Q : Int) * (D : Int))) = (R : Int) := by
  rw [← Int.natCast_mul, Nat.mul_comm Q D]
  generalize D * Q = P at hd ⊢
  rw [IntKind.wrap_u64, IntKind.wrap_u64, IntKind.wrap_u64, IntKind.wrap_u64]
  omega

theorem left_parts (U x D Q R : Nat) (hR : R < 18446744073709551616) (hd : D * Q + R = U * 4294967296 + x) :
    ∃ W W1 X : Nat, IntKind.u64.wrap ((U : Int) * 4294967296) = (W : Int) ∧ IntKind.u64.wrap ((W : Int) + (x : Int)) = (W1 : Int) ∧ IntKind.u64.wrap ((Q : Int) * (D : Int)) = (X : Int) ∧ IntKind.u64.wrap ((W1 : Int) - (X : Int)) = (R : Int) := by
  refine ⟨U * 4294967296 % 18446744073709551616, (U * 4294967296 + x) % 18446744073709551616, Q * D % 18446744073709551616, ?_, ?_, ?_, ?_⟩
  · rw [IntKind.wrap_u64]; omega
  · rw [IntKind.wrap_u64]; omega
  · rw [← Int.natCast_mul, IntKind.wrap_u64]; omega
  · rw [Nat.mul_comm Q D]
    generalize D * Q = P at hd ⊢
    rw [IntKind.wrap_u64]
    omega

theorem first_quot2 (U Y1 : Nat) (hU : U < 18446744073709551616) :
    IntKind.u64.wrap ((U : Int) / (Y1 : Int)) = ((U / Y1 : Nat) : Int) := by
  have hle : U / Y1 ≤ U := Nat.div_le_self _ _
  rw [← Int.natCast_ediv]
  generalize U / Y1 = P at hle ⊢
  exact IntWalk.u64_in _ ⟨by omega, by omega⟩

theorem digit_small (U x Y : Nat) (hU : U < Y) (hx : x < 4294967296) : (U * 4294967296 + x) / Y < 4294967296 := by
  rw [Nat.div_lt_iff_lt_mul (by omega)]
  omega

/-- A guess that is kept or lowered, as the loop meets it. -/
theorem Guess.prod {Y1 Y0 U x q r : Nat} (g : Guess Y1 Y0 U x q r) (h3 : Y0 < 4294967296) :
    ∃ P : Nat, q * Y0 = P ∧ (q : Int) * (Y0 : Int) = (P : Int) ∧ (q < 4294967296 → P < 18446744073709551616) ∧ (q : Int) ≤ 4294967298 := by
  refine ⟨q * Y0, rfl, (Int.natCast_mul q Y0).symm, fun hq => ?_, by have := g.le; omega⟩
  exact Nat.lt_of_le_of_lt (Nat.mul_le_mul (Nat.le_of_lt_succ hq) (show Y0 ≤ 4294967295 by omega)) (by omega)
end Go.Proofs.YtgmnjghbafbopaaGreatDoor
namespace Go.Proofs.YtgmnjghbafbopaaGreatDoor
open Go.RowKit Go.Lib

set_option maxRecDepth 100000 in
set_option maxHeartbeats 8000000 in
theorem div64_any (hi lo y : Nat) (h1 : hi < y) (h2 : lo < 18446744073709551616) (h3 : y < 18446744073709551616) (w : World) :
    Calls Tryz.prog 211 #[.int .u64 (hi : Int), .int .u64 (lo : Int), .int .u64 (y : Int)] w fun e w' => e = .returned (.tuple #[.int .u64 (((hi * 18446744073709551616 + lo) / y : Nat) : Int), .int .u64 (((hi * 18446744073709551616 + lo) % y : Nat) : Int)]) ∧ ∃ n, w' = w.drewN n := by
  by_cases h0 : hi = 0
  · subst h0
    have yb : ((y : Int) == 0) = false := by rw [beq_eq_false_iff_ne]; omega
    have yz : ¬ (y : Int) = 0 := by omega
    have yh : ¬ (y : Int) ≤ 0 := by omega
    rw [Nat.zero_mul, Nat.zero_add]
    have f1 := first_quot2 lo y h2
    rw [Int.natCast_ediv lo y] at f1
    rw [Int.natCast_emod lo y, Int.natCast_ediv lo y]
    go_enter Tryz.func211, Tryz.ntmps211
    go_wp2_with fail
    go_quiet (fail)
    go_wp2_with fail
    go_ret2
    exact ⟨rfl, nq, rfl⟩
  · have hiz : ¬ (hi : Int) = 0 := by omega
    have hib : ((hi : Int) == 0) = false := by rw [beq_eq_false_iff_ne]; exact hiz
    have yb : ((y : Int) == 0) = false := by rw [beq_eq_false_iff_ne]; omega
    have yh : ¬ (y : Int) ≤ (hi : Int) := by omega
    have cZ := Tryz.bits_LeadingZeros64 (y : Int) w (by omega) (by omega)
    obtain ⟨S, hS0, hb64, hS9, hY1, hY2⟩ := bitLen_shifts y (by omega) h3
    have hS : (64 - (Lib.bitLen ((y : Int)).toNat : Int)) = (S : Int) := by rw [Int.toNat_natCast]; omega
    rw [hS] at cZ
    obtain ⟨sw1, sw2, sw3⟩ := shifted_words hi lo S hS9 h2
    have hhi : hi * 2 ^ S < y * 2 ^ S := Nat.mul_lt_mul_of_pos_right h1 (Nat.pow_pos (by omega))
    obtain ⟨dv1, dv2⟩ := shifted_div (hi * 18446744073709551616 + lo) y S
    rw [← sw2] at dv1 dv2
    have e1 : (hi + 1) * 2 ^ S ≤ y * 2 ^ S := Nat.mul_le_mul_right _ h1
    rw [Nat.add_mul, Nat.one_mul] at e1
    have fY : IntKind.u64.wrap ((y : Int) * 2 ^ S) = ((y * 2 ^ S : Nat) : Int) := by
      rw [show (y : Int) * 2 ^ S = ((y * 2 ^ S : Nat) : Int) by push_cast; rfl]
      exact IntWalk.u64_in _ ⟨by omega, by omega⟩
    have fH : IntKind.u64.wrap ((hi : Int) * 2 ^ S) = ((hi * 2 ^ S : Nat) : Int) := by
      rw [show (hi : Int) * 2 ^ S = ((hi * 2 ^ S : Nat) : Int) by push_cast; rfl]
      exact IntWalk.u64_in _ ⟨by omega, by omega⟩
    have fL : IntKind.u64.wrap ((lo : Int) * 2 ^ S) = ((lo * 2 ^ S % 18446744073709551616 : Nat) : Int) := by
      rw [show (lo : Int) * 2 ^ S = ((lo * 2 ^ S : Nat) : Int) by push_cast; rfl, IntKind.wrap_u64]
      omega
    have fl : (lo : Int) / 2 ^ (64 - S) = ((lo / 2 ^ (64 - S) : Nat) : Int) := by push_cast; rfl
    have pS : 2 ^ S ≤ 9223372036854775808 := Nat.pow_le_pow_right (n := 2) (j := 63) (by omega) (by omega)
    have fU : bits .or .u64 (IntKind.u64.wrap ((hi : Int) * 2 ^ S)) ((lo : Int) / 2 ^ (64 - S)) = ((hi * 2 ^ S + lo / 2 ^ (64 - S) : Nat) : Int) := by
      rw [fH, fl, bits_or_u64_nat _ _ (by omega) (by omega), sw1]
    have hU : hi * 2 ^ S + lo / 2 ^ (64 - S) < y * 2 ^ S := by omega
    have hL : lo * 2 ^ S % 18446744073709551616 < 18446744073709551616 := Nat.mod_lt _ (by omega)
    clear sw1 fH fl hhi e1 sw3 hS hS0 hb64 pS h2
    generalize lo * 2 ^ S % 18446744073709551616 = L at *
    generalize hi * 2 ^ S + lo / 2 ^ (64 - S) = U at *
    generalize y * 2 ^ S = Y at *
    clear sw2
    obtain ⟨QQ, hQQ⟩ : ∃ QQ, (hi * 18446744073709551616 + lo) / y = QQ := ⟨_, rfl⟩
    obtain ⟨RR, hRR⟩ : ∃ RR, (hi * 18446744073709551616 + lo) % y = RR := ⟨_, rfl⟩
    rw [hQQ] at dv1 ⊢
    rw [hRR] at dv2 ⊢
    clear hQQ hRR
    obtain ⟨Y1, hYa⟩ : ∃ Y1, Y / 4294967296 = Y1 := ⟨_, rfl⟩
    obtain ⟨Y0, hYb⟩ : ∃ Y0, Y % 4294967296 = Y0 := ⟨_, rfl⟩
    obtain ⟨L1, hLa⟩ : ∃ L1, L / 4294967296 = L1 := ⟨_, rfl⟩
    obtain ⟨L0, hLb⟩ : ∃ L0, L % 4294967296 = L0 := ⟨_, rfl⟩
    have fY1 : (Y : Int) / 4294967296 = (Y1 : Int) := by omega
    have fL1 : (L : Int) / 4294967296 = (L1 : Int) := by omega
    have fY0 : bits .and .u64 (Y : Int) 4294967295 = (Y0 : Int) := by
      rw [show (4294967295 : Int) = ((4294967295 : Nat) : Int) from rfl, bits_and_u64_nat _ _ (by omega) (by omega), show (4294967295 : Nat) = 2 ^ 32 - 1 from rfl, Nat.and_two_pow_sub_one_eq_mod, ← hYb]
    have fL0 : bits .and .u64 (L : Int) 4294967295 = (L0 : Int) := by
      rw [show (4294967295 : Int) = ((4294967295 : Nat) : Int) from rfl, bits_and_u64_nat _ _ (by omega) (by omega), show (4294967295 : Nat) = 2 ^ 32 - 1 from rfl, Nat.and_two_pow_sub_one_eq_mod, ← hLb]
    have hd : ¬ IntKind.u64.wrap ((y : Int) * 2 ^ S) / 4294967296 = 0 := by rw [fY, fY1]; omega
    have HF := Lib.hid (And.intro fY (And.intro fU (And.intro fL (And.intro fY1 (And.intro fL1 (And.intro fY0 fL0))))))
    clear fY fU fL fY1 fL1 fY0 fL0
    have b1 : 2147483648 ≤ Y1 := by omega
    have b2 : Y1 < 4294967296 := by omega
    have b3 : Y0 < 4294967296 := by omega
    have b4 : L1 < 4294967296 := by omega
    have b5 : L0 < 4294967296 := by omega
    have hYe : Y = Y1 * 4294967296 + Y0 := by omega
    have hLe : L = L1 * 4294967296 + L0 := by omega
    have bU : U < 18446744073709551616 := by omega
    clear hYa hYb hLa hLb
    rw [hLe] at dv1 dv2
    obtain ⟨T, hT⟩ : ∃ T, (U * 4294967296 + L1) / Y = T := ⟨_, rfl⟩
    have hT9 := digit_small U L1 Y hU b4
    rw [hT] at hT9
    obtain ⟨R1, hR1⟩ : ∃ R1, (U * 4294967296 + L1) % Y = R1 := ⟨_, rfl⟩
    have hR1d : Y * T + R1 = U * 4294967296 + L1 := by rw [← hT, ← hR1]; exact Nat.div_add_mod _ _
    have hR1l : R1 < Y := by rw [← hR1]; exact Nat.mod_lt _ (by omega)
    obtain ⟨d1, d2⟩ := digits2 U L1 L0 Y T R1 (by omega) hR1d
    rw [dv1] at d1
    rw [← d2] at dv2
    have HL := Lib.hid (left_parts U L1 Y T R1 (by omega) hR1d)
    obtain ⟨T2, hT2⟩ : ∃ T2, (R1 * 4294967296 + L0) / Y = T2 := ⟨_, rfl⟩
    have hT29 := digit_small R1 L0 Y hR1l b5
    rw [hT2] at hT29 d1
    obtain ⟨R2, hR2⟩ : ∃ R2, (R1 * 4294967296 + L0) % Y = R2 := ⟨_, rfl⟩
    have hR2d : Y * T2 + R2 = R1 * 4294967296 + L0 := by rw [← hT2, ← hR2]; exact Nat.div_add_mod _ _
    have hR2l : R2 < Y := by rw [← hR2]; exact Nat.mod_lt _ (by omega)
    rw [hR2] at dv2
    have HL2 := Lib.hid (left_parts R1 L0 Y T2 R2 (by omega) hR2d)
    have bR : R1 < 18446744073709551616 := by omega
    rw [hYe] at hT hT2 hU hR1l
    have HE := Lib.hid (show (T : Int) < 4294967296 ∧ (T2 : Int) < 4294967296 ∧ (T : Int) * 4294967296 + (T2 : Int) = (QQ : Int) ∧ (R2 : Int) / 2 ^ S = (RR : Int) from ⟨by omega, by omega, by omega, by rw [← dv2]; push_cast; rfl⟩)
    have HT := Lib.hid hT
    have HT2 := Lib.hid hT2
    have HB := Lib.hid (And.intro b1 (And.intro b2 (And.intro b3 (And.intro b4 (And.intro b5 (And.intro hU hR1l))))))
    have G0 := Guess.start Y1 Y0 U L1 b1 b2 b3 hU b4
    have G2 := Lib.hid (Guess.start Y1 Y0 R1 L0 b1 b2 b3 hR1l b5)
    have FQ := Lib.hid (And.intro (first_quot U Y1 bU) (first_rest U Y1 bU))
    have FQ2 := Lib.hid (And.intro (first_quot2 R1 Y1 bR) (first_rest R1 Y1 bR))
    have hy1 : ¬ (Y1 : Int) = 0 := by omega
    clear dv1 dv2 d1 d2 hT hT2 hR1 hR2 hR1d hR2d hR1l hR2l hYe hLe hU hT9 hT29 bU bR b1 b2 b3 b4 b5 hY1 hY2 hL
    go_enter Tryz.func211, Tryz.ntmps211
    go_wp2_with fail
    refine cZ.mono ?_
    rintro e w1 ⟨rfl, rfl⟩
    clear cZ
    go_wp2_with fail
    obtain ⟨fY, fU, fL, fY1, fL1, fY0, fL0⟩ := HF.out
    obtain ⟨fq, fr⟩ := FQ.out
    rw [fY, fU, fL, fY1, fL1, fY0, fL0, fq, fr]
    clear fq fr hd FQ fY fU fL fY1 fL1 fY0 fL0 HF
    go_loopg [15, 16] (U / Y1) (fun g s15 s16 wx => ∃ q r : Nat, s15 = .int .u64 q ∧ s16 = .int .u64 r ∧ Guess Y1 Y0 U L1 q r ∧ q ≤ g ∧ wx = w1)
    case atStart => exact ⟨_, _, rfl, rfl, G0, Nat.le_refl _, rfl⟩
    case round =>
      clear G0
      obtain ⟨q, r, rfl, rfl, hG, hg, rfl⟩ := hrel
      obtain ⟨b1, b2, b3, b4, b5, b6, b7⟩ := HB.out
      have hr := hG.rest
      have hy2 : (Y1 : Int) < 4294967296 := by omega
      obtain ⟨P, hP, hPz, hPl, z0⟩ := hG.prod b3
      by_cases hc : 4294967296 ≤ q ∨ r * 4294967296 + L1 < q * Y0
      · have hq1 := (hG.great (by assumption) (by assumption) hc).1
        have z3 : (1 : Int) ≤ (q : Int) := by omega
        by_cases hb2 : r + Y1 < 4294967296
        · obtain ⟨g, rfl⟩ : ∃ g, gk = g + 1 := ⟨gk - 1, by omega⟩
          have hn := hG.next (by assumption) (by assumption) hc hb2
          have z2 : ¬ (4294967296 : Int) ≤ (r : Int) + (Y1 : Int) := by omega
          by_cases hb : 4294967296 ≤ q
          · have z1 : (4294967296 : Int) ≤ (q : Int) := by omega
            clear hc b1 b2 b3 b4 b5 b6 b7 hb hb2 hG hP hPl
            go_wp2_with fail
            go_roundg g
            case rel => exact ⟨q - 1, r + Y1, by congr 1; omega, by congr 1, hn, by omega, rfl⟩
            all_goals omega
          · have z1 : ¬ (4294967296 : Int) ≤ (q : Int) := by omega
            have hPq := hPl (by omega)
            have z4 : (P : Int) > 4294967296 * (r : Int) + (L1 : Int) := by omega
            have z5 : (L1 : Int) < 4294967296 := by omega
            clear hc b1 b2 b3 b4 b5 b6 b7 hb hb2 hG hP hPl
            go_wp2_with fail
            go_roundg g
            case rel => exact ⟨q - 1, r + Y1, by congr 1; omega, by congr 1, hn, by omega, rfl⟩
            all_goals omega
        · obtain ⟨Q, hQ⟩ : ∃ Q, q - 1 = Q := ⟨_, rfl⟩
          have hn := hG.out b1 b3 (by assumption) (by assumption) hc hb2
          rw [hQ] at hn
          obtain rfl : q = Q + 1 := by omega
          have z2 : (4294967296 : Int) ≤ (r : Int) + (Y1 : Int) := by omega
          have z6 : (((Q + 1 : Nat) : Int)) = (Q : Int) + 1 := by omega
          rw [z6] at hPz z3 z0 ⊢
          clear z6
          by_cases hb : 4294967296 ≤ Q + 1
          · have z1 : (4294967296 : Int) ≤ (Q : Int) + 1 := by omega
            clear hc b1 b2 b3 b4 b5 b6 b7 hb hb2 hG hP hPl hQ hq1 hg
            rw [HT.out] at hn
            have hn := hn.symm
            subst hn
            obtain ⟨W, W1, X, lp1, lp2, lp3, lp4⟩ := HL.out
            go_wp2_with fail
            obtain ⟨sq, sr⟩ := FQ2.out
            rw [sq, sr]
            clear sq sr hr hPz z0 z1
            try clear z2
            try clear z3
            try clear z4
            try clear z5
            try clear hPq
            go_loopg [18, 16] (R1 / Y1) (fun g s18 s16 wx => ∃ q r : Nat, s18 = .int .u64 q ∧ s16 = .int .u64 r ∧ Guess Y1 Y0 R1 L0 q r ∧ q ≤ g ∧ wx = wr)
            case atStart => exact ⟨_, _, rfl, rfl, G2.out, Nat.le_refl _, rfl⟩
            case round =>
              obtain ⟨q, r, rfl, rfl, hG, hg, rfl⟩ := hrel
              obtain ⟨b1, b2, b3, b4, b5, b6, b7⟩ := HB.out
              have hr := hG.rest
              have hy2 : (Y1 : Int) < 4294967296 := by omega
              obtain ⟨P, hP, hPz, hPl, z0⟩ := hG.prod b3
              by_cases hc : 4294967296 ≤ q ∨ r * 4294967296 + L0 < q * Y0
              · have hq1 := (hG.great (by assumption) (by assumption) hc).1
                have z3 : (1 : Int) ≤ (q : Int) := by omega
                by_cases hb2 : r + Y1 < 4294967296
                · obtain ⟨g, rfl⟩ : ∃ g, gk = g + 1 := ⟨gk - 1, by omega⟩
                  have hn := hG.next (by assumption) (by assumption) hc hb2
                  have z2 : ¬ (4294967296 : Int) ≤ (r : Int) + (Y1 : Int) := by omega
                  by_cases hb : 4294967296 ≤ q
                  · have z1 : (4294967296 : Int) ≤ (q : Int) := by omega
                    clear hc b1 b2 b3 b4 b5 b6 b7 hb hb2 hG hP hPl
                    go_wp2_with fail
                    go_roundg g
                    case rel => exact ⟨q - 1, r + Y1, by congr 1; omega, by congr 1, hn, by omega, rfl⟩
                    all_goals omega
                  · have z1 : ¬ (4294967296 : Int) ≤ (q : Int) := by omega
                    have hPq := hPl (by omega)
                    have z4 : (P : Int) > 4294967296 * (r : Int) + (L0 : Int) := by omega
                    have z5 : (L0 : Int) < 4294967296 := by omega
                    clear hc b1 b2 b3 b4 b5 b6 b7 hb hb2 hG hP hPl
                    go_wp2_with fail
                    go_roundg g
                    case rel => exact ⟨q - 1, r + Y1, by congr 1; omega, by congr 1, hn, by omega, rfl⟩
                    all_goals omega
                · obtain ⟨Q, hQ⟩ : ∃ Q, q - 1 = Q := ⟨_, rfl⟩
                  have hn := hG.out b1 b3 (by assumption) (by assumption) hc hb2
                  rw [hQ] at hn
                  obtain rfl : q = Q + 1 := by omega
                  have z2 : (4294967296 : Int) ≤ (r : Int) + (Y1 : Int) := by omega
                  have z6 : (((Q + 1 : Nat) : Int)) = (Q : Int) + 1 := by omega
                  rw [z6] at hPz z3 z0 ⊢
                  clear z6
                  by_cases hb : 4294967296 ≤ Q + 1
                  · have z1 : (4294967296 : Int) ≤ (Q : Int) + 1 := by omega
                    clear hc b1 b2 b3 b4 b5 b6 b7 hb hb2 hG hP hPl hQ hq1 hg
                    rw [HT2.out] at hn
                    have hn := hn.symm
                    subst hn
                    obtain ⟨W3, W4, X2, lq1, lq2, lq3, lq4⟩ := HL2.out
                    obtain ⟨e1, e2, e3, e4⟩ := HE.out
                    go_wp2_with fail
                    go_ret2
                    exact ⟨rfl, 0, rfl⟩
                  · have z1 : ¬ (4294967296 : Int) ≤ (Q : Int) + 1 := by omega
                    have hPq := hPl (by omega)
                    have z4 : (P : Int) > 4294967296 * (r : Int) + (L0 : Int) := by omega
                    have z5 : (L0 : Int) < 4294967296 := by omega
                    clear hc b1 b2 b3 b4 b5 b6 b7 hb hb2 hG hP hPl hQ hq1 hg
                    rw [HT2.out] at hn
                    have hn := hn.symm
                    subst hn
                    obtain ⟨W3, W4, X2, lq1, lq2, lq3, lq4⟩ := HL2.out
                    obtain ⟨e1, e2, e3, e4⟩ := HE.out
                    go_wp2_with fail
                    go_ret2
                    exact ⟨rfl, 0, rfl⟩
              · have hb : ¬ 4294967296 ≤ q := fun h => hc (Or.inl h)
                have hn := hG.stop b1 (by omega)
                have hPq := hPl (by omega)
                have z1 : ¬ (4294967296 : Int) ≤ (q : Int) := by omega
                have z4 : ¬ (P : Int) > 4294967296 * (r : Int) + (L0 : Int) := by omega
                have z5 : (L0 : Int) < 4294967296 := by omega
                clear hc b1 b2 b3 b4 b5 b6 b7 hb hG hP hPl hg
                rw [HT2.out] at hn
                have hn := hn.symm
                subst hn
                obtain ⟨W3, W4, X2, lq1, lq2, lq3, lq4⟩ := HL2.out
                obtain ⟨e1, e2, e3, e4⟩ := HE.out
                go_wp2_with fail
                go_ret2
                exact ⟨rfl, 0, rfl⟩
          · have z1 : ¬ (4294967296 : Int) ≤ (Q : Int) + 1 := by omega
            have hPq := hPl (by omega)
            have z4 : (P : Int) > 4294967296 * (r : Int) + (L1 : Int) := by omega
            have z5 : (L1 : Int) < 4294967296 := by omega
            clear hc b1 b2 b3 b4 b5 b6 b7 hb hb2 hG hP hPl hQ hq1 hg
            rw [HT.out] at hn
            have hn := hn.symm
            subst hn
            obtain ⟨W, W1, X, lp1, lp2, lp3, lp4⟩ := HL.out
            go_wp2_with fail
            obtain ⟨sq, sr⟩ := FQ2.out
            rw [sq, sr]
            clear sq sr hr hPz z0 z1
            try clear z2
            try clear z3
            try clear z4
            try clear z5
            try clear hPq
            go_loopg [18, 16] (R1 / Y1) (fun g s18 s16 wx => ∃ q r : Nat, s18 = .int .u64 q ∧ s16 = .int .u64 r ∧ Guess Y1 Y0 R1 L0 q r ∧ q ≤ g ∧ wx = wr)
            case atStart => exact ⟨_, _, rfl, rfl, G2.out, Nat.le_refl _, rfl⟩
            case round =>
              obtain ⟨q, r, rfl, rfl, hG, hg, rfl⟩ := hrel
              obtain ⟨b1, b2, b3, b4, b5, b6, b7⟩ := HB.out
              have hr := hG.rest
              have hy2 : (Y1 : Int) < 4294967296 := by omega
              obtain ⟨P, hP, hPz, hPl, z0⟩ := hG.prod b3
              by_cases hc : 4294967296 ≤ q ∨ r * 4294967296 + L0 < q * Y0
              · have hq1 := (hG.great (by assumption) (by assumption) hc).1
                have z3 : (1 : Int) ≤ (q : Int) := by omega
                by_cases hb2 : r + Y1 < 4294967296
                · obtain ⟨g, rfl⟩ : ∃ g, gk = g + 1 := ⟨gk - 1, by omega⟩
                  have hn := hG.next (by assumption) (by assumption) hc hb2
                  have z2 : ¬ (4294967296 : Int) ≤ (r : Int) + (Y1 : Int) := by omega
                  by_cases hb : 4294967296 ≤ q
                  · have z1 : (4294967296 : Int) ≤ (q : Int) := by omega
                    clear hc b1 b2 b3 b4 b5 b6 b7 hb hb2 hG hP hPl
                    go_wp2_with fail
                    go_roundg g
                    case rel => exact ⟨q - 1, r + Y1, by congr 1; omega, by congr 1, hn, by omega, rfl⟩
                    all_goals omega
                  · have z1 : ¬ (4294967296 : Int) ≤ (q : Int) := by omega
                    have hPq := hPl (by omega)
                    have z4 : (P : Int) > 4294967296 * (r : Int) + (L0 : Int) := by omega
                    have z5 : (L0 : Int) < 4294967296 := by omega
                    clear hc b1 b2 b3 b4 b5 b6 b7 hb hb2 hG hP hPl
                    go_wp2_with fail
                    go_roundg g
                    case rel => exact ⟨q - 1, r + Y1, by congr 1; omega, by congr 1, hn, by omega, rfl⟩
                    all_goals omega
                · obtain ⟨Q, hQ⟩ : ∃ Q, q - 1 = Q := ⟨_, rfl⟩
                  have hn := hG.out b1 b3 (by assumption) (by assumption) hc hb2
                  rw [hQ] at hn
                  obtain rfl : q = Q + 1 := by omega
                  have z2 : (4294967296 : Int) ≤ (r : Int) + (Y1 : Int) := by omega
                  have z6 : (((Q + 1 : Nat) : Int)) = (Q : Int) + 1 := by omega
                  rw [z6] at hPz z3 z0 ⊢
                  clear z6
                  by_cases hb : 4294967296 ≤ Q + 1
                  · have z1 : (4294967296 : Int) ≤ (Q : Int) + 1 := by omega
                    clear hc b1 b2 b3 b4 b5 b6 b7 hb hb2 hG hP hPl hQ hq1 hg
                    rw [HT2.out] at hn
                    have hn := hn.symm
                    subst hn
                    obtain ⟨W3, W4, X2, lq1, lq2, lq3, lq4⟩ := HL2.out
                    obtain ⟨e1, e2, e3, e4⟩ := HE.out
                    go_wp2_with fail
                    go_ret2
                    exact ⟨rfl, 0, rfl⟩
                  · have z1 : ¬ (4294967296 : Int) ≤ (Q : Int) + 1 := by omega
                    have hPq := hPl (by omega)
                    have z4 : (P : Int) > 4294967296 * (r : Int) + (L0 : Int) := by omega
                    have z5 : (L0 : Int) < 4294967296 := by omega
                    clear hc b1 b2 b3 b4 b5 b6 b7 hb hb2 hG hP hPl hQ hq1 hg
                    rw [HT2.out] at hn
                    have hn := hn.symm
                    subst hn
                    obtain ⟨W3, W4, X2, lq1, lq2, lq3, lq4⟩ := HL2.out
                    obtain ⟨e1, e2, e3, e4⟩ := HE.out
                    go_wp2_with fail
                    go_ret2
                    exact ⟨rfl, 0, rfl⟩
              · have hb : ¬ 4294967296 ≤ q := fun h => hc (Or.inl h)
                have hn := hG.stop b1 (by omega)
                have hPq := hPl (by omega)
                have z1 : ¬ (4294967296 : Int) ≤ (q : Int) := by omega
                have z4 : ¬ (P : Int) > 4294967296 * (r : Int) + (L0 : Int) := by omega
                have z5 : (L0 : Int) < 4294967296 := by omega
                clear hc b1 b2 b3 b4 b5 b6 b7 hb hG hP hPl hg
                rw [HT2.out] at hn
                have hn := hn.symm
                subst hn
                obtain ⟨W3, W4, X2, lq1, lq2, lq3, lq4⟩ := HL2.out
                obtain ⟨e1, e2, e3, e4⟩ := HE.out
                go_wp2_with fail
                go_ret2
                exact ⟨rfl, 0, rfl⟩
      · have hb : ¬ 4294967296 ≤ q := fun h => hc (Or.inl h)
        have hn := hG.stop b1 (by omega)
        have hPq := hPl (by omega)
        have z1 : ¬ (4294967296 : Int) ≤ (q : Int) := by omega
        have z4 : ¬ (P : Int) > 4294967296 * (r : Int) + (L1 : Int) := by omega
        have z5 : (L1 : Int) < 4294967296 := by omega
        clear hc b1 b2 b3 b4 b5 b6 b7 hb hG hP hPl hg
        rw [HT.out] at hn
        have hn := hn.symm
        subst hn
        obtain ⟨W, W1, X, lp1, lp2, lp3, lp4⟩ := HL.out
        go_wp2_with fail
        obtain ⟨sq, sr⟩ := FQ2.out
        rw [sq, sr]
        clear sq sr hr hPz z0 z1
        try clear z2
        try clear z3
        try clear z4
        try clear z5
        try clear hPq
        go_loopg [18, 16] (R1 / Y1) (fun g s18 s16 wx => ∃ q r : Nat, s18 = .int .u64 q ∧ s16 = .int .u64 r ∧ Guess Y1 Y0 R1 L0 q r ∧ q ≤ g ∧ wx = wr)
        case atStart => exact ⟨_, _, rfl, rfl, G2.out, Nat.le_refl _, rfl⟩
        case round =>
          obtain ⟨q, r, rfl, rfl, hG, hg, rfl⟩ := hrel
          obtain ⟨b1, b2, b3, b4, b5, b6, b7⟩ := HB.out
          have hr := hG.rest
          have hy2 : (Y1 : Int) < 4294967296 := by omega
          obtain ⟨P, hP, hPz, hPl, z0⟩ := hG.prod b3
          by_cases hc : 4294967296 ≤ q ∨ r * 4294967296 + L0 < q * Y0
          · have hq1 := (hG.great (by assumption) (by assumption) hc).1
            have z3 : (1 : Int) ≤ (q : Int) := by omega
            by_cases hb2 : r + Y1 < 4294967296
            · obtain ⟨g, rfl⟩ : ∃ g, gk = g + 1 := ⟨gk - 1, by omega⟩
              have hn := hG.next (by assumption) (by assumption) hc hb2
              have z2 : ¬ (4294967296 : Int) ≤ (r : Int) + (Y1 : Int) := by omega
              by_cases hb : 4294967296 ≤ q
              · have z1 : (4294967296 : Int) ≤ (q : Int) := by omega
                clear hc b1 b2 b3 b4 b5 b6 b7 hb hb2 hG hP hPl
                go_wp2_with fail
                go_roundg g
                case rel => exact ⟨q - 1, r + Y1, by congr 1; omega, by congr 1, hn, by omega, rfl⟩
                all_goals omega
              · have z1 : ¬ (4294967296 : Int) ≤ (q : Int) := by omega
                have hPq := hPl (by omega)
                have z4 : (P : Int) > 4294967296 * (r : Int) + (L0 : Int) := by omega
                have z5 : (L0 : Int) < 4294967296 := by omega
                clear hc b1 b2 b3 b4 b5 b6 b7 hb hb2 hG hP hPl
                go_wp2_with fail
                go_roundg g
                case rel => exact ⟨q - 1, r + Y1, by congr 1; omega, by congr 1, hn, by omega, rfl⟩
                all_goals omega
            · obtain ⟨Q, hQ⟩ : ∃ Q, q - 1 = Q := ⟨_, rfl⟩
              have hn := hG.out b1 b3 (by assumption) (by assumption) hc hb2
              rw [hQ] at hn
              obtain rfl : q = Q + 1 := by omega
              have z2 : (4294967296 : Int) ≤ (r : Int) + (Y1 : Int) := by omega
              have z6 : (((Q + 1 : Nat) : Int)) = (Q : Int) + 1 := by omega
              rw [z6] at hPz z3 z0 ⊢
              clear z6
              by_cases hb : 4294967296 ≤ Q + 1
              · have z1 : (4294967296 : Int) ≤ (Q : Int) + 1 := by omega
                clear hc b1 b2 b3 b4 b5 b6 b7 hb hb2 hG hP hPl hQ hq1 hg
                rw [HT2.out] at hn
                have hn := hn.symm
                subst hn
                obtain ⟨W3, W4, X2, lq1, lq2, lq3, lq4⟩ := HL2.out
                obtain ⟨e1, e2, e3, e4⟩ := HE.out
                go_wp2_with fail
                go_ret2
                exact ⟨rfl, 0, rfl⟩
              · have z1 : ¬ (4294967296 : Int) ≤ (Q : Int) + 1 := by omega
                have hPq := hPl (by omega)
                have z4 : (P : Int) > 4294967296 * (r : Int) + (L0 : Int) := by omega
                have z5 : (L0 : Int) < 4294967296 := by omega
                clear hc b1 b2 b3 b4 b5 b6 b7 hb hb2 hG hP hPl hQ hq1 hg
                rw [HT2.out] at hn
                have hn := hn.symm
                subst hn
                obtain ⟨W3, W4, X2, lq1, lq2, lq3, lq4⟩ := HL2.out
                obtain ⟨e1, e2, e3, e4⟩ := HE.out
                go_wp2_with fail
                go_ret2
                exact ⟨rfl, 0, rfl⟩
          · have hb : ¬ 4294967296 ≤ q := fun h => hc (Or.inl h)
            have hn := hG.stop b1 (by omega)
            have hPq := hPl (by omega)
            have z1 : ¬ (4294967296 : Int) ≤ (q : Int) := by omega
            have z4 : ¬ (P : Int) > 4294967296 * (r : Int) + (L0 : Int) := by omega
            have z5 : (L0 : Int) < 4294967296 := by omega
            clear hc b1 b2 b3 b4 b5 b6 b7 hb hG hP hPl hg
            rw [HT2.out] at hn
            have hn := hn.symm
            subst hn
            obtain ⟨W3, W4, X2, lq1, lq2, lq3, lq4⟩ := HL2.out
            obtain ⟨e1, e2, e3, e4⟩ := HE.out
            go_wp2_with fail
            go_ret2
            exact ⟨rfl, 0, rfl⟩
end Go.Proofs.YtgmnjghbafbopaaGreatDoor
namespace Go.Proofs.YtgmnjghbafbopaaGreatDoor
open Go.RowKit Go.Lib

theorem add64_0 (x y : Int) (hx : 0 ≤ x) (hy : 0 ≤ y) (w : World) :
    (callFunc 210 #[.int .u64 x, .int .u64 y, .int .u64 0]).run Tryz.prog w = .ok (.value (.tuple #[.int .u64 ((x + y) % 18446744073709551616), .int .u64 ((x + y) / 18446744073709551616)])) w := by
  rw [run_callFunc_extern Tryz.func210 (by kernel_rfl) (by kernel_rfl) (by kernel_rfl) (e := add64Entry) (by kernel_rfl), run_add64 x y 0 hx hy (by omega) (by omega), Int.add_zero]
  rfl
end Go.Proofs.YtgmnjghbafbopaaGreatDoor
namespace Go.Proofs.YtgmnjghbafbopaaGreatDoor
open Go.RowKit Go.Lib

theorem val_cut (l : List Nat) (k : Nat) : val l = val (l.take k) + 1000000000 ^ k * val (l.drop k) := by
  by_cases h : k ≤ l.length
  · conv => lhs; rw [← List.take_append_drop k l, val_app]
    rw [List.length_take, Nat.min_eq_left h]
  · rw [List.take_of_length_le (by omega), List.drop_of_length_le (by omega)]
    simp [val]

theorem val_three (l : List Nat) (h : l.length ≤ 3) : val l = (l.getD 2 0 * 1000000000 + l.getD 1 0) * 1000000000 + l.getD 0 0 := by
  match l, h with
  | [], _ => rfl
  | [a], _ => simp [val]
  | [a, b], _ => simp [val]; omega
  | [a, b, c], _ => simp [val]; omega

theorem getD_drop (l : List Nat) (k i : Nat) : (l.drop k).getD i 0 = l.getD (k + i) 0 := by
  rw [List.getD_eq_getElem?_getD, List.getD_eq_getElem?_getD, List.getElem?_drop]

/-- The two highest words of b, the three of r at their place. -/
structure Two (r b : List Nat) (d1 d0 t2 t1 t0 : Nat) : Prop where
  bd1 : d1 < 1000000000
  bd0 : d0 < 1000000000
  bt2 : t2 < 1000000000
  bt1 : t1 < 1000000000
  bt0 : t0 < 1000000000
  one : 1 ≤ d1
  near : val r / val b ≤ ((t2 * 1000000000 + t1) * 1000000000 + t0) / (d1 * 1000000000 + d0) ∧ ((t2 * 1000000000 + t1) * 1000000000 + t0) / (d1 * 1000000000 + d0) ≤ val r / val b + 1

theorem two_one (r b : List Nat) (hr : Small r) (hb : Small b) (hn : b.length = 1) (hl : b.getD 0 0 ≠ 0) (hrl : r.length ≤ 2) :
    Two r b (b.getD 0 0) 0 (r.getD 1 0) (r.getD 0 0) 0 := by
  refine ⟨hb.getD 0, by omega, hr.getD 1, hr.getD 0, by omega, by omega, ?_⟩
  have e1 : val b = b.getD 0 0 := by
    rw [val_three b (by omega), show b.getD 2 0 = 0 by rw [List.getD_eq_getElem?_getD, List.getElem?_eq_none (by omega)]; rfl, show b.getD 1 0 = 0 by rw [List.getD_eq_getElem?_getD, List.getElem?_eq_none (by omega)]; rfl]
    omega
  have e2 : val r = r.getD 1 0 * 1000000000 + r.getD 0 0 := by
    rw [val_three r (by omega), show r.getD 2 0 = 0 by rw [List.getD_eq_getElem?_getD, List.getElem?_eq_none (by omega)]; rfl]
    omega
  rw [e1, e2, Nat.add_zero, Nat.add_zero, Nat.mul_div_mul_right _ _ (by omega)]
  omega

theorem two_more (r b : List Nat) (k : Nat) (hr : Small r) (hb : Small b) (hn : b.length = k + 2) (hl : b.getD (k + 1) 0 ≠ 0) (hrl : r.length ≤ k + 3) (hq : val r < 1000000000 * val b) :
    Two r b (b.getD (k + 1) 0) (b.getD k 0) (r.getD (k + 2) 0) (r.getD (k + 1) 0) (r.getD k 0) := by
  refine ⟨hb.getD _, hb.getD _, hr.getD _, hr.getD _, hr.getD _, by omega, ?_⟩
  have e1 : val b = (b.getD (k + 1) 0 * 1000000000 + b.getD k 0) * 1000000000 ^ k + val (b.take k) := by
    rw [val_cut b k, val_three (b.drop k) (by rw [List.length_drop]; omega), getD_drop, getD_drop, getD_drop, show b.getD (k + 2) 0 = 0 by rw [List.getD_eq_getElem?_getD, List.getElem?_eq_none (by omega)]; rfl, Nat.zero_mul, Nat.zero_add, Nat.mul_comm, Nat.add_comm]
    rfl
  have e2 : val r = ((r.getD (k + 2) 0 * 1000000000 + r.getD (k + 1) 0) * 1000000000 + r.getD k 0) * 1000000000 ^ k + val (r.take k) := by
    rw [val_cut r k, val_three (r.drop k) (by rw [List.length_drop]; omega), getD_drop, getD_drop, getD_drop, Nat.mul_comm, Nat.add_comm]
    rfl
  have hlow : ∀ l : List Nat, Small l → val (l.take k) < 1000000000 ^ k := fun l hs =>
    Nat.lt_of_lt_of_le (val_lt _ (hs.take k)) (Nat.pow_le_pow_right (by omega) (by rw [List.length_take]; omega))
  exact guess_near (1000000000 ^ k) _ _ (val b) (val r) (val (b.take k)) (val (r.take k)) (Nat.pow_pos (by omega)) e1 (hlow b hb) e2 (hlow r hr) (by omega) hq

theorem two_small (a b : Nat) (ha : a < 1000000000) (hb : b < 1000000000) : a * 1000000000 + b < 1000000000000000000 :=
  Nat.lt_of_lt_of_le (Nat.add_lt_add_left hb _) (by rw [← Nat.succ_mul]; exact Nat.mul_le_mul_right 1000000000 ha)

/-- The words of 64 bits in which a guess is reckoned. -/
theorem Two.words {r b : List Nat} {d1 d0 t2 t1 t0 : Nat} (h : Two r b d1 d0 t2 t1 t0) (hq : val r < 1000000000 * val b) :
    ∃ A M H L D G, t2 * 1000000000 + t1 = A ∧ A * 1000000000 = M ∧ (M / 18446744073709551616 + (M % 18446744073709551616 + t0) / 18446744073709551616) = H ∧ (M % 18446744073709551616 + t0) % 18446744073709551616 = L ∧ d1 * 1000000000 + d0 = D ∧ (H * 18446744073709551616 + L) / D = G
      ∧ A < 1000000000000000000 ∧ D < 1000000000000000000 ∧ H < D ∧ M / 18446744073709551616 < 1000000000 ∧ val r / val b ≤ G ∧ G ≤ val r / val b + 1 ∧ val r / val b < 1000000000 := by
  refine ⟨_, _, _, _, _, _, rfl, rfl, rfl, rfl, rfl, rfl, ?_⟩
  have := h.bd1
  have := h.bd0
  have := h.bt2
  have := h.bt1
  have := h.bt0
  have := h.one
  have a1 : t2 * 1000000000 + t1 < 1000000000000000000 := two_small _ _ h.bt2 h.bt1
  have a2 : d1 * 1000000000 + d0 < 1000000000000000000 := two_small _ _ h.bd1 h.bd0
  obtain ⟨n1, n2⟩ := h.near
  have hb : 0 < val b := by omega
  have hqq : val r / val b < 1000000000 := by rw [Nat.div_lt_iff_lt_mul hb]; exact hq
  generalize val r / val b = q at *
  have hT : (t2 * 1000000000 + t1) * 1000000000 + t0 < 1000000001 * (d1 * 1000000000 + d0) := by
    rw [← Nat.div_lt_iff_lt_mul (by omega)]
    omega
  have e : ((t2 * 1000000000 + t1) * 1000000000 / 18446744073709551616 + ((t2 * 1000000000 + t1) * 1000000000 % 18446744073709551616 + t0) / 18446744073709551616) * 18446744073709551616 + ((t2 * 1000000000 + t1) * 1000000000 % 18446744073709551616 + t0) % 18446744073709551616 = (t2 * 1000000000 + t1) * 1000000000 + t0 := by omega
  rw [e]
  exact ⟨a1, a2, by omega, by omega, n1, n2, hqq⟩
end Go.Proofs.YtgmnjghbafbopaaGreatDoor
namespace Go.Proofs.YtgmnjghbafbopaaGreatDoor
open Go.RowKit Go.Lib

/-- A place's word, read in any later world. -/
def WordAt (w : World) (v : Value) (z : Int) (x : Nat) : Prop :=
  ∀ W, Below w.heap.size w W → Calls Tryz.prog 183 #[v, .int .i64 z] W fun e w' => e = .returned (.int .u32 (x : Int)) ∧ w' = W

set_option maxHeartbeats 1000000 in
set_option maxRecDepth 100000 in
theorem guess_core (u : Value) (r b : List Nat) (k c b0 off : Nat) (d1 d0 t2 t1 t0 : Nat) (hT : Two r b d1 d0 t2 t1 t0) (hq : val r < 1000000000 * val b) (hk9 : k < 100000000) (w : World)
    (hc : w.cell? ⟨b0, off + k, none⟩ = some (.int .u32 (d1 : Int)))
    (k0 : WordAt w (.slice (some ⟨b0, off, none⟩) (k + 1) c) ((k : Int) - 1) d0)
    (k1 : WordAt w u ((k : Int) + 1) t2) (k2 : WordAt w u (k : Int) t1) (k3 : WordAt w u ((k : Int) - 1) t0) :
    Calls Tryz.prog 182 #[u, .slice (some ⟨b0, off, none⟩) (k + 1) c] w fun e w' => ∃ q n, e = .returned (.int .u32 ((q : Nat) : Int)) ∧ w' = w.drewN n ∧ q < 1000000000 ∧ val r / val b ≤ q ∧ q ≤ val r / val b + 1 := by
  obtain ⟨A, M, H, L, D, G, hA, hM, hH, hL, hD, hG, a1, a2, a3, a4, n1, n2, n3⟩ := hT.words hq
  have f1 := hT.bd1
  have f2 := hT.bd0
  have f3 := hT.bt2
  have f4 := hT.bt1
  have f5 := hT.bt0
  have fD : (d1 : Int) * 1000000000 + (d0 : Int) = (D : Int) := by omega
  have fA : (t2 : Int) * 1000000000 + (t1 : Int) = (A : Int) := by omega
  obtain ⟨MH, hMH⟩ : ∃ MH, M / 18446744073709551616 = MH := ⟨_, rfl⟩
  obtain ⟨ML, hML⟩ : ∃ ML, M % 18446744073709551616 = ML := ⟨_, rfl⟩
  obtain ⟨C, hC⟩ : ∃ C, (ML + t0) / 18446744073709551616 = C := ⟨_, rfl⟩
  rw [hMH, hML, hC] at hH
  rw [hML] at hL
  rw [hMH] at a4
  have fH : (MH : Int) + (C : Int) = (H : Int) := by omega
  have fC : (C : Int) ≤ 1 := by omega
  have cM : ∀ W, Calls Tryz.prog 202 #[.int .u64 (A : Int), .int .u64 1000000000] W fun e w' => e = .returned (.tuple #[.int .u64 (MH : Int), .int .u64 (ML : Int)]) ∧ w' = W := fun W => by
    rw [← hMH, ← hML, ← hM]
    exact Tryz.bits_Mul64 A 1000000000 (by omega) (by omega) W
  have cA : ∀ W, (callFunc 210 #[.int .u64 (ML : Int), .int .u64 (t0 : Int), .int .u64 0]).run Tryz.prog W = .ok (.value (.tuple #[.int .u64 (L : Int), .int .u64 (C : Int)])) W := fun W => by
    rw [add64_0 _ _ (by omega) (by omega), ← hL, ← hC, Int.natCast_emod, Int.natCast_ediv, Int.natCast_add]
    rfl
  have cD : ∀ W, Calls Tryz.prog 211 #[.int .u64 (H : Int), .int .u64 (L : Int), .int .u64 (D : Int)] W fun e w' => ∃ z, e = .returned (.tuple #[.int .u64 (G : Int), .int .u64 z]) ∧ ∃ n, w' = W.drewN n := fun W => by
    refine (div64_any H L D a3 (by omega) (by omega) W).mono ?_
    rintro e w' ⟨rfl, n, rfl⟩
    rw [hG]
    exact ⟨_, rfl, n, rfl⟩
  have fD9 : (D : Int) < 1000000000000000000 := by omega
  have fA9 : (A : Int) < 1000000000000000000 := by omega
  have fH9 : (H : Int) < 1000000000000000000 := by omega
  have g1 : (G : Int) ≤ 1000000000 := by omega
  have HX := Lib.hid (And.intro n1 (And.intro n2 n3))
  clear hA hM hH hL hD hG n1 n2 n3 a1 a2 a3 a4 hq hT hMH hML hC
  go_enter Tryz.func182, Tryz.ntmps182
  go_wp2_with fail
  have hi1 : (k : Int) + 1 - 1 = (k : Int) := by omega
  have hi2 : (k : Int) + 1 - 2 = (k : Int) - 1 := by omega
  have hi3 : (k : Int) < (k : Int) + 1 := by omega
  go_quiet ((go_at_call 183; exact Calls.quiet_of_same (k0 _ (below_drewN (Below.refl _ _) _))))
  have hb1 : Below w.heap.size w (w.drewN nq) := below_drewN (Below.refl _ _) _
  obtain ⟨W1, hW1⟩ : ∃ W1, w.drewN nq = W1 := ⟨_, rfl⟩
  rw [hW1] at hb1 ⊢
  have c1 := k1 W1 hb1
  have c2 := k2 W1 hb1
  have c3 := k3 W1 hb1
  clear k1 k2 k3 k0
  go_wp2_with fail
  refine c1.mono ?_
  rintro e w2 ⟨rfl, rfl⟩
  go_wp2_with fail
  refine c2.mono ?_
  rintro e w2 ⟨rfl, rfl⟩
  go_wp2_with fail
  refine (cM _).mono ?_
  rintro e w2 ⟨rfl, rfl⟩
  go_wp2_with fail
  refine c3.mono ?_
  rintro e w2 ⟨rfl, rfl⟩
  go_wp2_with fail
  refine (cD _).mono ?_
  rintro e w2 ⟨z, rfl, n, rfl⟩
  go_wp2_with fail
  go_ret
  obtain ⟨n1, n2, n3⟩ := HX.out
  refine ⟨min G 999999999, nq + n, by rw [show ((min G 999999999 : Nat) : Int) = min (G : Int) 999999999 by omega]; rfl, ?_, by omega, by omega, by omega⟩
  rw [← hW1, World.drewN_drewN]

/-- Words of an argument, at later worlds. -/
theorem Nats.wordAt {w : World} {v : Value} {l : List Nat} (h : Nats w v l) (h9 : l.length < 100000000) (p : Nat) (hp : p < 1000000000) : WordAt w v (p : Int) (l.getD p 0) := fun W hW =>
  (word_any v l p hp (by omega) W (h.later hW)).mono fun _ _ ⟨h1, h2⟩ => ⟨h1, h2.symm⟩
theorem Nats.wordNeg {w : World} {v : Value} {l : List Nat} (h : Nats w v l) (p : Int) (hp : p < 0) : WordAt w v p 0 := fun W hW =>
  (word_neg v l p hp W (h.later hW)).mono fun _ _ ⟨h1, h2⟩ => ⟨h1, h2.symm⟩

/-- How often b is in r, or one more. -/
theorem guess_any (u v : Value) (r b : List Nat) (hr : Small r) (hb : Small b) (h0 : 0 < b.length) (hl : b.getD (b.length - 1) 0 ≠ 0) (hrl : r.length ≤ b.length + 1) (hb9 : b.length < 90000000) (hq : val r < 1000000000 * val b) (w : World) (hu : Nats w u r) (hv : Nats w v b) :
    Calls Tryz.prog 182 #[u, v] w fun e w' => ∃ q n, e = .returned (.int .u32 ((q : Nat) : Int)) ∧ w' = w.drewN n ∧ q < 1000000000 ∧ val r / val b ≤ q ∧ q ≤ val r / val b + 1 := by
  have hv2 := hv
  rcases hv2 with ⟨rfl, _⟩ | ⟨b0, off, cap, rfl, hc, hcells⟩
  · simp at h0
  · obtain ⟨k, hk⟩ : ∃ k, b.length = k + 1 := ⟨b.length - 1, by omega⟩
    have c0 := hcells k (by omega)
    rw [hk] at hv ⊢
    rw [hk, Nat.add_sub_cancel] at hl
    have k1 := hu.wordAt (by omega) (k + 1) (by omega)
    have k2 := hu.wordAt (by omega) k (by omega)
    rw [Int.natCast_add] at k1
    by_cases h1 : k = 0
    · subst h1
      exact guess_core u r b 0 cap b0 off _ 0 _ _ 0 (two_one r b hr hb hk hl (by omega)) hq (by omega) w c0 (hv.wordNeg _ (by omega)) k1 k2 (hu.wordNeg _ (by omega))
    · obtain ⟨j, rfl⟩ : ∃ j, k = j + 1 := ⟨k - 1, by omega⟩
      have k0 := hv.wordAt (by omega) j (by omega)
      have k3 := hu.wordAt (by omega) j (by omega)
      have ej : (j : Int) = ((j + 1 : Nat) : Int) - 1 := by omega
      rw [ej] at k0 k3
      exact guess_core u r b (j + 1) cap b0 off _ _ _ _ _ (two_more r b j hr hb hk hl (by omega) hq) hq (by omega) w c0 k0 k1 k2 k3
end Go.Proofs.YtgmnjghbafbopaaGreatDoor

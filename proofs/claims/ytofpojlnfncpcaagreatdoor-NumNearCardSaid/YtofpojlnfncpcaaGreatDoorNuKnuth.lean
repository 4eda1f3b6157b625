/- math/bits.Div64: the arithmetic of a division by parts of 32 bits. -/
import Derived.Test.YtofpojlnfncpcaaGreatDoorNuCmp
import Derived.Lib.ItoaNum
import Derived.Laws.Bits64b
namespace Go.Proofs.YtofpojlnfncpcaaGreatDoor
open Go.RowKit Go.Lib
set_option maxRecDepth 20000

/-- The shift that brings a number's highest bit to place 63. -/
theorem bitLen_shifts (y : Nat) (h0 : 0 < y) (h : y < 18446744073709551616) :
    ∃ S, 64 - Lib.bitLen y = S ∧ Lib.bitLen y ≤ 64 ∧ S < 64 ∧ 9223372036854775808 ≤ y * 2 ^ S ∧ y * 2 ^ S < 18446744073709551616 := by
  obtain ⟨a, b, c⟩ := bitLenAux_bounds 64 y h (by omega)
  have hl : bitLenAux 64 y ≤ 64 := bitLen_le y 64 (Nat.le_refl _) h
  unfold Lib.bitLen
  refine ⟨64 - bitLenAux 64 y, rfl, hl, by omega, ?_, ?_⟩
  · generalize bitLenAux 64 y = L at a b c hl ⊢
    have e : 2 ^ (L - 1) * 2 ^ (64 - L) = 9223372036854775808 := by
      rw [← Nat.pow_add, show L - 1 + (64 - L) = 63 by omega]
    rw [← e]
    exact Nat.mul_le_mul_right _ b
  · generalize bitLenAux 64 y = L at a b c hl ⊢
    have e : 2 ^ L * 2 ^ (64 - L) = 18446744073709551616 := by
      rw [← Nat.pow_add, show L + (64 - L) = 64 by omega]
    rw [← e]
    exact Nat.mul_lt_mul_of_pos_right c (Nat.pow_pos (by omega))

theorem lin1 {A C r x U : Nat} (h1 : A + r = U) (h2 : r * 4294967296 + x < C) : U * 4294967296 + x < A * 4294967296 + C := by
  subst h1
  rw [Nat.add_mul, Nat.add_assoc]
  exact Nat.add_lt_add_left h2 _

theorem digits2 (U x z D Q R : Nat) (hD : 0 < D) (hd : D * Q + R = U * 4294967296 + x) :
    Q * 4294967296 + (R * 4294967296 + z) / D = (U * 18446744073709551616 + (x * 4294967296 + z)) / D
    ∧ (R * 4294967296 + z) % D = (U * 18446744073709551616 + (x * 4294967296 + z)) % D := by
  have e : U * 18446744073709551616 + (x * 4294967296 + z) = (R * 4294967296 + z) + D * (Q * 4294967296) := by
    rw [← Nat.mul_assoc]
    generalize D * Q = P at hd ⊢
    omega
  rw [e, Nat.add_mul_div_left _ _ hD, Nat.add_mul_mod_self_left]
  exact ⟨Nat.add_comm _ _, rfl⟩

/-- What a guess of a digit keeps: D is the divisor in two parts, U the rest so far, x the next part. -/
structure Guess (Y1 Y0 U x q r : Nat) : Prop where
  sum : q * Y1 + r = U
  ge : (U * 4294967296 + x) / (Y1 * 4294967296 + Y0) ≤ q
  le : q ≤ 4294967298
  rest : r < 4294967296

theorem Guess.start (Y1 Y0 U x : Nat) (h1 : 2147483648 ≤ Y1) (h2 : Y1 < 4294967296) (h3 : Y0 < 4294967296) (hU : U < Y1 * 4294967296 + Y0) (hx : x < 4294967296) :
    Guess Y1 Y0 U x (U / Y1) (U - U / Y1 * Y1) := by
  have hd : Y1 * (U / Y1) + U % Y1 = U := Nat.div_add_mod U Y1
  rw [Nat.mul_comm Y1] at hd
  have hm : U % Y1 < Y1 := Nat.mod_lt _ (by omega)
  have hq : U / Y1 < 4294967299 := by
    rw [Nat.div_lt_iff_lt_mul (by omega)]
    omega
  refine ⟨by omega, ?_, by omega, by omega⟩
  have hlt : (U * 4294967296 + x) / (Y1 * 4294967296 + Y0) < U / Y1 + 1 := by
    rw [Nat.div_lt_iff_lt_mul (by omega)]
    have e : (U / Y1 + 1) * (Y1 * 4294967296 + Y0) = (U / Y1 * Y1) * 4294967296 + Y1 * 4294967296 + (U / Y1 + 1) * Y0 := by
      rw [Nat.mul_add, ← Nat.mul_assoc, Nat.add_mul (U / Y1) 1 Y1, Nat.one_mul, Nat.add_mul]
    rw [e]
    have : 0 ≤ (U / Y1 + 1) * Y0 := Nat.zero_le _
    omega
  omega

/-- A guess that is too great. -/
theorem Guess.great {Y1 Y0 U x q r : Nat} (g : Guess Y1 Y0 U x q r) (hx : x < 4294967296) (hU : U < Y1 * 4294967296 + Y0)
    (h : 4294967296 ≤ q ∨ r * 4294967296 + x < q * Y0) :
    1 ≤ q ∧ (U * 4294967296 + x) / (Y1 * 4294967296 + Y0) ≤ q - 1 ∧ (q - 1) * Y1 + (r + Y1) = U := by
  have hq : (U * 4294967296 + x) / (Y1 * 4294967296 + Y0) < q := by
    rw [Nat.div_lt_iff_lt_mul (by omega)]
    rcases h with h | h
    · have : 4294967296 * (Y1 * 4294967296 + Y0) ≤ q * (Y1 * 4294967296 + Y0) := Nat.mul_le_mul_right _ h
      omega
    · have e : q * (Y1 * 4294967296 + Y0) = (q * Y1) * 4294967296 + q * Y0 := by rw [Nat.mul_add, Nat.mul_assoc]
      rw [e]
      exact lin1 g.sum h
  clear h
  generalize (U * 4294967296 + x) / (Y1 * 4294967296 + Y0) = D at *
  refine ⟨by omega, by omega, ?_⟩
  have := g.sum
  obtain ⟨k, rfl⟩ : ∃ k, q = k + 1 := ⟨q - 1, by omega⟩
  rw [Nat.add_mul, Nat.one_mul] at this
  rw [Nat.add_sub_cancel]
  omega

theorem Guess.next {Y1 Y0 U x q r : Nat} (g : Guess Y1 Y0 U x q r) (hx : x < 4294967296) (hU : U < Y1 * 4294967296 + Y0)
    (h : 4294967296 ≤ q ∨ r * 4294967296 + x < q * Y0) (hr : r + Y1 < 4294967296) : Guess Y1 Y0 U x (q - 1) (r + Y1) := by
  obtain ⟨a, b, c⟩ := g.great hx hU h
  exact ⟨c, b, by have := g.le; omega, hr⟩

theorem guess_low {Y1 Y0 U x q r : Nat} (hs : q * Y1 + r = U) (h1 : 2147483648 ≤ Y1) (hge : (U * 4294967296 + x) / (Y1 * 4294967296 + Y0) ≤ q) (h : q * Y0 ≤ r * 4294967296 + x) :
    q = (U * 4294967296 + x) / (Y1 * 4294967296 + Y0) := by
  refine Nat.le_antisymm ?_ hge
  rw [Nat.le_div_iff_mul_le (by omega)]
  have e : q * (Y1 * 4294967296 + Y0) = (q * Y1) * 4294967296 + q * Y0 := by rw [Nat.mul_add, Nat.mul_assoc]
  rw [e]
  omega

/-- The guess that stands at the loop's condition. -/
theorem Guess.stop {Y1 Y0 U x q r : Nat} (g : Guess Y1 Y0 U x q r) (h1 : 2147483648 ≤ Y1) (h : q * Y0 ≤ r * 4294967296 + x) :
    q = (U * 4294967296 + x) / (Y1 * 4294967296 + Y0) := guess_low g.sum h1 g.ge h

/-- The guess whose rest has grown too great. -/
theorem Guess.out {Y1 Y0 U x q r : Nat} (g : Guess Y1 Y0 U x q r) (h1 : 2147483648 ≤ Y1) (h3 : Y0 < 4294967296) (hx : x < 4294967296) (hU : U < Y1 * 4294967296 + Y0)
    (h : 4294967296 ≤ q ∨ r * 4294967296 + x < q * Y0) (hr : ¬ r + Y1 < 4294967296) : q - 1 = (U * 4294967296 + x) / (Y1 * 4294967296 + Y0) := by
  obtain ⟨a, b, c⟩ := g.great hx hU h
  refine guess_low c h1 b ?_
  have hq : q - 1 ≤ 4294967296 := by
    refine Decidable.byContradiction fun hn => ?_
    have : 4294967297 * Y1 ≤ (q - 1) * Y1 := Nat.mul_le_mul_right _ (by omega)
    omega
  have : (q - 1) * Y0 ≤ 4294967296 * Y0 := Nat.mul_le_mul_right _ hq
  omega

/-- The two digits and the rest. -/
theorem two_digits (U x z D : Nat) (hD : 0 < D) :
    (U * 4294967296 + x) / D * 4294967296 + ((U * 4294967296 + x) % D * 4294967296 + z) / D = (U * 18446744073709551616 + (x * 4294967296 + z)) / D
    ∧ ((U * 4294967296 + x) % D * 4294967296 + z) % D = (U * 18446744073709551616 + (x * 4294967296 + z)) % D :=
  digits2 U x z D _ _ hD (Nat.div_add_mod _ _)

/-- Both words behind a shift. -/
theorem shifted_words (hi lo S : Nat) (hS : S < 64) (hl : lo < 18446744073709551616) :
    (hi * 2 ^ S ||| lo / 2 ^ (64 - S)) = hi * 2 ^ S + lo / 2 ^ (64 - S)
    ∧ (hi * 2 ^ S + lo / 2 ^ (64 - S)) * 18446744073709551616 + lo * 2 ^ S % 18446744073709551616 = (hi * 18446744073709551616 + lo) * 2 ^ S
    ∧ lo / 2 ^ (64 - S) < 2 ^ S := by
  have e : 2 ^ (64 - S) * 2 ^ S = 18446744073709551616 := by
    rw [← Nat.pow_add, show 64 - S + S = 64 by omega]
  have hp : 0 < 2 ^ S := Nat.pow_pos (by omega)
  have hp2 : 0 < 2 ^ (64 - S) := Nat.pow_pos (by omega)
  have hlt : lo / 2 ^ (64 - S) < 2 ^ S := by
    rw [Nat.div_lt_iff_lt_mul hp2, Nat.mul_comm, e]
    exact hl
  refine ⟨?_, ?_, hlt⟩
  · have := Nat.shiftLeft_add_eq_or_of_lt hlt hi
    rw [Nat.shiftLeft_eq] at this
    exact this.symm
  · have h2 : lo * 2 ^ S / 18446744073709551616 = lo / 2 ^ (64 - S) := by
      rw [← e, Nat.mul_div_mul_right _ _ hp]
    have h3 := Nat.div_add_mod (lo * 2 ^ S) 18446744073709551616
    rw [h2] at h3
    have h4 : (hi * 18446744073709551616 + lo) * 2 ^ S = (hi * 2 ^ S) * 18446744073709551616 + lo * 2 ^ S := by
      rw [Nat.add_mul, Nat.mul_right_comm]
    rw [h4]
    omega

/-- Quotient and rest behind a shift. -/
theorem shifted_div (n y S : Nat) : (n * 2 ^ S) / (y * 2 ^ S) = n / y ∧ (n * 2 ^ S) % (y * 2 ^ S) / 2 ^ S = n % y := by
  have hp : 0 < 2 ^ S := Nat.pow_pos (by omega)
  refine ⟨Nat.mul_div_mul_right _ _ hp, ?_⟩
  rw [Nat.mul_mod_mul_right, Nat.mul_div_cancel _ hp]

/-- The guess of a digit and its rest, as words of 64 bits. -/
theorem first_quot (U Y1 : Nat) (hU : U < 18446744073709551616) :
    IntKind.u64.wrap ((U : Int).tdiv (Y1 : Int)) = ((U / Y1 : Nat) : Int) := by
  have hle : U / Y1 ≤ U := Nat.div_le_self _ _
  rw [← Int.ofNat_tdiv]
  generalize U / Y1 = P at hle ⊢
  exact IntWalk.u64_in _ ⟨by omega, by omega⟩

theorem first_rest (U Y1 : Nat) (hU : U < 18446744073709551616) :
    IntKind.u64.wrap ((U : Int) - IntKind.u64.wrap (((U / Y1 : Nat) : Int) * (Y1 : Int))) = ((U - U / Y1 * Y1 : Nat) : Int) := by
  have hle : U / Y1 * Y1 ≤ U := Nat.div_mul_le_self _ _
  rw [← Int.natCast_mul]
  generalize U / Y1 * Y1 = P at hle ⊢
  rw [IntWalk.u64_in (P : Int) ⟨by omega, by omega⟩, IntWalk.u64_in _ ⟨by omega, by omega⟩]
  omega

/-- What is left behind a digit, reckoned in words of 64 bits. -/
theorem left_over (U x D Q R : Nat) (hR : R < 18446744073709551616) (hd : D * Q + R = U * 4294967296 + x) :
    IntKind.u64.wrap (IntKind.u64.wrap (IntKind.u64.wrap ((U : Int) * 4294967296) + (x : Int)) - IntKind.u64.wrap ((Q : Int) * (D : Int))) = (R : Int) := by
  rw [← Int.natCast_mul, Nat.mul_comm Q D]
  generalize D * Q = P at hd ⊢
  rw [IntKind.wrap_u64, IntKind.wrap_u64, IntKind.wrap_u64, IntKind.wrap_u64]
  omega

theorem left_parts (U x D Q R : Nat) (hR : R < 18446744073709551616) (hd : D * Q + R = U * 4294967296 + x) :
    ∃ W W1 X : Nat, IntKind.u64.wrap ((U : Int) * 4294967296) = (W : Int) ∧ IntKind.u64.wrap ((W : Int) + (x : Int)) = (W1 : Int) ∧ IntKind.u64.wrap ((Q : Int) * (D : Int)) = (X : Int) ∧ IntKind.u64.wrap ((W1 : Int) - (X : Int)) = (R : Int) := by
  refine ⟨U * 4294967296 % 18446744073709551616, (U * 4294967296 + x) % 18446744073709551616, Q * D % 18446744073709551616, ?_, ?_, ?_, ?_⟩
  · rw [IntKind.wrap_u64]; omega
  · rw [IntKind.wrap_u64]; omega
  · rw [← Int.natCast_mul, IntKind.wrap_u64]; omega
  · rw [Nat.mul_comm Q D]
    generalize D * Q = P at hd ⊢
    rw [IntKind.wrap_u64]
    omega

theorem first_quot2 (U Y1 : Nat) (hU : U < 18446744073709551616) :
    IntKind.u64.wrap ((U : Int) / (Y1 : Int)) = ((U / Y1 : Nat) : Int) := by
  have hle : U / Y1 ≤ U := Nat.div_le_self _ _
  rw [← Int.natCast_ediv]
  generalize U / Y1 = P at hle ⊢
  exact IntWalk.u64_in _ ⟨by omega, by omega⟩

theorem digit_small (U x Y : Nat) (hU : U < Y) (hx : x < 4294967296) : (U * 4294967296 + x) / Y < 4294967296 := by
  rw [Nat.div_lt_iff_lt_mul (by omega)]
  omega

/-- A guess that is kept or lowered, as the loop meets it. -/
theorem Guess.prod {Y1 Y0 U x q r : Nat} (g : Guess Y1 Y0 U x q r) (h3 : Y0 < 4294967296) :
    ∃ P : Nat, q * Y0 = P ∧ (q : Int) * (Y0 : Int) = (P : Int) ∧ (q < 4294967296 → P < 18446744073709551616) ∧ (q : Int) ≤ 4294967298 := by
  refine ⟨q * Y0, rfl, (Int.natCast_mul q Y0).symm, fun hq => ?_, by have := g.le; omega⟩
  exact Nat.lt_of_le_of_lt (Nat.mul_le_mul (Nat.le_of_lt_succ hq) (show Y0 ≤ 4294967295 by omega)) (by omega)
end Go.Proofs.YtofpojlnfncpcaaGreatDoor

/- The laws of num: unit, near. -/
import Derived.Test.YtofpojlnfncpcaaGreatDoorNuUse
import Derived.Laws.Concat
namespace Go.Proofs.YtofpojlnfncpcaaGreatDoor
open Go.RowKit Go.Lib

def uA (i : Nat) : ByteArray := ⟨(49 :: List.replicate i 48).toArray⟩
def uBL (i : Nat) : List UInt8 := [48, 46] ++ List.replicate i 48
def uB (i : Nat) : ByteArray := ⟨(uBL i).toArray⟩
def uC (i : Nat) : ByteArray := ⟨(uBL i ++ [49]).toArray⟩
theorem uA_size (i : Nat) : (uA i).size = i + 1 := by
  rw [ba_len]
  show (49 :: List.replicate i 48 : List UInt8).length = _
  simp
theorem uB_size (i : Nat) : (uB i).size = i + 2 := by
  rw [ba_len]
  show (uBL i).length = _
  simp [uBL]
theorem uA_add (i : Nat) (hi : i ≤ 100) (W : World) : (Op.stringOp .add (uA i) ⟨#[48]⟩).run Tryz.prog W = .ok (.string (uA (i + 1))) W := by
  rw [run_string_add_sum W _ _ (by rw [uA_size]; show i + 1 + 1 ≤ _; omega)]
  have : uA i ++ ⟨#[48]⟩ = uA (i + 1) := bytes_eq.2 (by
    rw [ba_app]
    show 49 :: List.replicate i 48 ++ [48] = 49 :: List.replicate (i + 1) 48
    rw [List.replicate_succ']; rfl)
  rw [this]
theorem uB_add (i : Nat) (hi : i ≤ 100) (W : World) : (Op.stringOp .add (uB i) ⟨#[48]⟩).run Tryz.prog W = .ok (.string (uB (i + 1))) W := by
  rw [run_string_add_sum W _ _ (by rw [uB_size]; show i + 2 + 1 ≤ _; omega)]
  have : uB i ++ ⟨#[48]⟩ = uB (i + 1) := bytes_eq.2 (by
    rw [ba_app]
    show uBL i ++ [48] = uBL (i + 1)
    unfold uBL
    rw [List.replicate_succ', List.append_assoc])
  rw [this]
theorem uB_one (i : Nat) (hi : i ≤ 100) (W : World) : (Op.stringOp .add (uB i) ⟨#[49]⟩).run Tryz.prog W = .ok (.string (uC i)) W := by
  rw [run_string_add_sum W _ _ (by rw [uB_size]; show i + 2 + 1 ≤ _; omega)]
  have : uB i ++ ⟨#[49]⟩ = uC i := bytes_eq.2 (by rw [ba_app]; rfl)
  rw [this]
set_option maxRecDepth 100000 in
set_option maxHeartbeats 4000000 in
theorem unit_low (n : Nat) (hn : n ≤ 30) (w : World) :
    Calls Tryz.prog 70 #[.int .i64 (-(n : Int))] w fun e w' => e = .returned (.string (uA n)) ∧ w' = w := by
  have hA := fun (i : Nat) (hi : i ≤ 30) (W : World) => uA_add i (by omega) W
  have h0 : (⟨#[49]⟩ : ByteArray) = uA 0 := rfl
  have hw64 : wrap64 (-(-(n : Int))) = (n : Int) := by unfold wrap64; omega
  have hpos : ¬ 0 < -(n : Int) := by omega
  go_enter Tryz.func70, Tryz.ntmps70
  go_wp2_with fail
  go_loopg [3, 4] n (fun g s3 s4 wx => ∃ i : Nat, s3 = .string (uA i) ∧ s4 = .int .i64 i ∧ i + g = n ∧ wx = w)
  case atStart => exact ⟨0, rfl, rfl, by omega, rfl⟩
  case round =>
    obtain ⟨i, rfl, rfl, hig, rfl⟩ := hrel
    by_cases hlt : i < n
    · obtain ⟨g, rfl⟩ : ∃ g, gk = g + 1 := ⟨gk - 1, by omega⟩
      have hil : (i : Int) < (n : Int) := by omega
      have hA2 := hA i (by omega)
      clear hA
      go_wp2_with fail
      go_roundg g
      case rel => exact ⟨i + 1, rfl, by congr 1, by omega, rfl⟩
      all_goals omega
    · have hil : ¬ (i : Int) < (n : Int) := by omega
      obtain rfl : i = n := by omega
      clear hA
      go_wp2_with fail
      go_ret
      exact ⟨rfl, rfl⟩
set_option maxRecDepth 100000 in
set_option maxHeartbeats 4000000 in
theorem unit_high (m : Nat) (hm1 : 1 ≤ m) (hm : m ≤ 30) (w : World) :
    Calls Tryz.prog 70 #[.int .i64 (m : Int)] w fun e w' => e = .returned (.string (uC (m - 1))) ∧ w' = w := by
  have hB := fun (i : Nat) (hi : i ≤ 30) (W : World) => uB_add i (by omega) W
  have hO := fun (W : World) => uB_one (m - 1) (by omega) W
  have h0 : (⟨#[48, 46]⟩ : ByteArray) = uB 0 := rfl
  have hw64 : wrap64 (-(m : Int)) = -(m : Int) := by unfold wrap64; omega
  have hneg : ¬ (0 : Int) < -(m : Int) := by omega
  have hpos : 0 < (m : Int) := by omega
  obtain ⟨T, hT⟩ : ∃ T : ByteArray, uC (m - 1) = T := ⟨_, rfl⟩
  rw [hT] at hO ⊢
  clear hT
  go_enter Tryz.func70, Tryz.ntmps70
  go_wp2_with fail
  go_loopg [3, 4] 0 (fun g s3 s4 wx => s3 = .string ⟨#[49]⟩ ∧ s4 = .int .i64 0 ∧ wx = w)
  case atStart => exact ⟨rfl, rfl, rfl⟩
  case round =>
    obtain ⟨rfl, rfl, hw⟩ := hrel
    replace hw := hw.symm
    subst hw
    go_wp2_with fail
    go_loopg [3, 5] (m - 1) (fun g s3 s5 wx => ∃ i : Nat, s3 = .string (uB i) ∧ s5 = .int .i64 ((i : Int) + 1) ∧ i + g = m - 1 ∧ wx = w)
    case atStart => exact ⟨0, rfl, rfl, by omega, rfl⟩
    case round =>
      obtain ⟨i, rfl, rfl, hig, rfl⟩ := hrel
      by_cases hlt : i + 1 < m
      · obtain ⟨g, rfl⟩ : ∃ g, gk = g + 1 := ⟨gk - 1, by omega⟩
        have hil : (i : Int) + 1 < (m : Int) := by omega
        have hB2 := hB i (by omega)
        clear hB hO
        go_wp2_with fail
        go_roundg g
        case rel => exact ⟨i + 1, rfl, by congr 1, by omega, rfl⟩
        all_goals omega
      · have hil : ¬ (i : Int) + 1 < (m : Int) := by omega
        obtain rfl : i = m - 1 := by omega
        clear hB
        go_wp2_with fail
        go_ret
        exact ⟨rfl, rfl⟩
/-! near -/
theorem unit_any (d : Int) (h1 : -29 ≤ d) (h2 : d ≤ 20) : ∃ u : ByteArray, u.data.toList = unitL d ∧ u.size ≤ 100 ∧ ∀ W, Calls Tryz.prog 70 #[.int .i64 d] W fun e w' => e = .returned (.string u) ∧ w' = W := by
  by_cases hd : 0 < d
  · obtain ⟨m, rfl⟩ : ∃ m : Nat, d = (m : Int) := ⟨d.toNat, by omega⟩
    refine ⟨uC (m - 1), ?_, ?_, fun W => unit_high m (by omega) (by omega) W⟩
    · unfold unitL
      rw [if_pos hd, show ((m : Int) - 1).toNat = m - 1 by omega]
      rfl
    · rw [ba_len]
      show (uBL (m - 1) ++ [49]).length ≤ _
      simp [uBL]
      omega
  · obtain ⟨n, rfl⟩ : ∃ n : Nat, d = -(n : Int) := ⟨(-d).toNat, by omega⟩
    refine ⟨uA n, ?_, by rw [uA_size]; omega, fun W => unit_low n (by omega) W⟩
    unfold unitL
    rw [if_neg hd, show (- -(n : Int)).toNat = n by omega]
    rfl
set_option maxRecDepth 100000 in
set_option maxHeartbeats 8000000 in
theorem near_on {w : World} (hg : GrN w) (a r s : ByteArray) (d : Int) (half e : Bool) (D U : Nat) (h1 : -29 ≤ d) (h2 : d ≤ 20) (ha : a.size < 4294967281) (hr : r.size < 4294967281) (hU : 10 ^ (20 - d).toNat = U)
    (hs : subR a.data.toList r.data.toList = (s.data.toList, 0)) (hsc : canonL s.data.toList = some (e, D)) (hlt : D < U) (hhf : half = true → 2 * D ≤ U) :
    On w 39 #[.string a, .string r, .int .i64 d, .bool half] (.bool true) := on_of hg fun W hW => by
  have c1 := (sub_on hW a r s 0 (by omega) (by omega) hs).use
  have hss : s.size ≤ 52 := canonR_size (z := 0) (by rw [← hs]; exact subR_canonR _ _)
  have hal : (absL s.data.toList).length ≤ s.data.toList.length := by
    cases s.data.toList with
    | nil => exact Nat.le_refl _
    | cons x t =>
      show (if x = 45 then t else x :: t).length ≤ (x :: t).length
      split <;> simp
  obtain ⟨q, hq⟩ : ∃ q : ByteArray, absL s.data.toList = q.data.toList := ⟨⟨(absL s.data.toList).toArray⟩, rfl⟩
  have hqs : q.size ≤ 52 := by rw [ba_len, ← hq]; rw [ba_len] at hss; omega
  have c2 := (abs_on hW s q hq).use
  obtain ⟨u, hu, hus, cu⟩ := unit_any d h1 h2
  cases half with
  | false =>
    have hc := near_less hsc h1 h2 hU hlt
    rw [hq, ← hu] at hc
    have c3 := (cmp_on hW q u (-1) 0 (by omega) (by omega) hc).use
    clear hg hW hs hsc hlt hhf hU hq hu hc hal hss hqs hus ha hr h1 h2
    go_enter Tryz.func39, Tryz.ntmps39
    go_wp2_with fail
    refine (c1 W (Below.refl _ _)).mono ?_
    rintro e w1 ⟨rfl, b1⟩
    go_wp2_with fail
    refine (c2 w1 b1).mono ?_
    rintro e w2 ⟨rfl, b2⟩
    go_wp2_with fail
    refine (cu w2).mono ?_
    rintro e w3 ⟨rfl, hw3⟩
    subst hw3
    go_wp2_with fail
    refine (c3 w3 b2).mono ?_
    rintro e w4 ⟨rfl, b4⟩
    go_wp2_with fail
    go_ret
    exact ⟨rfl, b4⟩
  | true =>
    have hh := near_half hsc h1 h2 hU (hhf rfl)
    rw [hq, ← hu] at hh
    rcases hh with hh | ⟨t, z, ht, hz, hz0⟩
    · have c3 := (add_on hW q q ⟨#[]⟩ 40 (by omega) (by omega) hh).use
      have c4 := (cmp_on hW ⟨#[]⟩ u 0 1 (by decide) (by omega) (by unfold cmpR; rfl)).use
      clear hg hW hs hsc hlt hhf hU hq hu hh hal hss hqs hus ha hr h1 h2
      go_enter Tryz.func39, Tryz.ntmps39
      go_wp2_with fail
      refine (c1 W (Below.refl _ _)).mono ?_
      rintro e w1 ⟨rfl, b1⟩
      go_wp2_with fail
      refine (c2 w1 b1).mono ?_
      rintro e w2 ⟨rfl, b2⟩
      go_wp2_with fail
      refine (c3 w2 b2).mono ?_
      rintro e w3 ⟨rfl, b3⟩
      go_wp2_with fail
      refine (cu w3).mono ?_
      rintro e w4 ⟨rfl, hw4⟩
      subst hw4
      go_wp2_with fail
      refine (c4 w4 b3).mono ?_
      rintro e w5 ⟨rfl, b5⟩
      go_wp2_with fail
      go_ret
      exact ⟨rfl, b5⟩
    · obtain ⟨t, rfl⟩ : ∃ t' : ByteArray, t'.data.toList = t := ⟨⟨t.toArray⟩, rfl⟩
      have hts : t.size ≤ 52 := canonR_size (z := 0) (by rw [← ht]; exact addR_canonR _ _)
      have c3 := (add_on hW q q t 0 (by omega) (by omega) ht).use
      have c4 := (cmp_on hW t u z 0 (by omega) (by omega) hz).use
      clear hg hW hs hsc hlt hhf hU hq hu ht hz hal hss hqs hus ha hr h1 h2 hts
      go_enter Tryz.func39, Tryz.ntmps39
      go_wp2_with fail
      refine (c1 W (Below.refl _ _)).mono ?_
      rintro e w1 ⟨rfl, b1⟩
      go_wp2_with fail
      refine (c2 w1 b1).mono ?_
      rintro e w2 ⟨rfl, b2⟩
      go_wp2_with fail
      refine (c3 w2 b2).mono ?_
      rintro e w3 ⟨rfl, b3⟩
      go_wp2_with fail
      refine (cu w3).mono ?_
      rintro e w4 ⟨rfl, hw4⟩
      subst hw4
      go_wp2_with fail
      refine (c4 w4 b3).mono ?_
      rintro e w5 ⟨rfl, b5⟩
      go_wp2_with fail
      go_ret
      exact ⟨rfl, b5⟩
end Go.Proofs.YtofpojlnfncpcaaGreatDoor

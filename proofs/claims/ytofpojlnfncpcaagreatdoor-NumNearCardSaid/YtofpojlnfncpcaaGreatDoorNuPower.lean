/- Natural numbers: the contract of power. -/
import Derived.Test.YtofpojlnfncpcaaGreatDoorNuOwn
namespace Go.Proofs.YtofpojlnfncpcaaGreatDoor
open Go.RowKit Go.Lib

theorem val_shift (n x : Nat) : val (List.replicate n 0 ++ [x]) = 1000000000 ^ n * x := by
  rw [val_app, val_zeros, List.length_replicate]
  simp [val]
theorem words_pow (n : Nat) : List.replicate (n / 9) 0 ++ [10 ^ (n % 9)] = wordsOf (10 ^ n) := by
  have hlt : 10 ^ (n % 9) < 1000000000 := by
    have : 10 ^ (n % 9) ≤ 10 ^ 8 := Nat.pow_le_pow_right (by omega) (by omega)
    omega
  have hs : Small (List.replicate (n / 9) 0 ++ [10 ^ (n % 9)]) := Small.app (Small.zeros _) (Small.cons hlt Small.nil)
  have hv : val (List.replicate (n / 9) 0 ++ [10 ^ (n % 9)]) = 10 ^ n := by
    rw [val_shift, show (1000000000 : Nat) = 10 ^ 9 from rfl, ← Nat.pow_mul, ← Nat.pow_add, Nat.div_add_mod]
  rw [← hv, wordsOf_val _ hs]
  intro w hw
  simp at hw
  subst hw
  exact Nat.ne_of_gt (Nat.pow_pos (by omega))
set_option maxRecDepth 100000 in
set_option maxHeartbeats 4000000 in
theorem power_any (n : Nat) (hn : n ≤ 100000) (w : World) :
    Calls Tryz.prog 56 #[.int .i64 (n : Int)] w fun e w' => ∃ x, e = .returned x ∧ Nats w' x (wordsOf (10 ^ n)) ∧ Below w.heap.size w w' := by
  obtain ⟨r, hr⟩ : ∃ r, n % 9 = r := ⟨_, rfl⟩
  obtain ⟨q, hq⟩ : ∃ q, n / 9 = q := ⟨_, rfl⟩
  have hrz : (n : Int) % 9 = (r : Int) := by omega
  have hqz : (n : Int) / 9 = (q : Int) := by omega
  have hr9 : r < 9 := by omega
  have hq9 : q ≤ 100000 := by omega
  have hwp := words_pow n
  rw [hr, hq] at hwp
  have HW := Lib.hid hwp
  obtain ⟨i0, hi, hh⟩ := Option.map_eq_some_iff.1 infoU32
  simp only [Prod.mk.injEq] at hh
  obtain ⟨hz0, hz1, hz2⟩ := hh
  clear hwp hr hq
  have hmk := make_nats q (by omega) 45 Tryz.underlying45 w
  obtain ⟨W1, hW1⟩ : ∃ W1, w.alloc (.cells (u32Cells (List.replicate q 0)) 96) = W1 := ⟨_, rfl⟩
  have hR1 : RowIs W1 w.heap.size (List.replicate q 0) := by rw [← hW1]; exact made_row w q
  have hb1 : Below w.heap.size w W1 := by rw [← hW1]; exact (Below.refl _ _).alloc (Nat.le_refl _) _
  have hO1 := hR1.owns (Nat.le_refl _) (by rw [List.length_replicate]; unfold maxLen; omega)
  rw [List.length_replicate] at hO1
  rw [hW1] at hmk
  have hz : w.heap.size ≤ W1.heap.size := hb1.size
  clear hW1 hR1
  have HO1 := Lib.hid hO1
  clear hO1
  go_enter Tryz.func56, Tryz.ntmps56
  go_wp2_with fail
  go_loopg [3, 6] r (fun g s3 s6 wx => ∃ i p : Nat, s3 = .int .u32 (p : Int) ∧ s6 = .int .i64 (i : Int) ∧ i + g = r ∧ Hid (p = 10 ^ i) ∧ wx = w)
  case atStart => exact ⟨0, 1, rfl, rfl, by omega, Lib.hid rfl, rfl⟩
  case round =>
    obtain ⟨i, p, rfl, rfl, hig, HP, rfl⟩ := hrel
    by_cases hlt : i < r
    · obtain ⟨g, rfl⟩ : ∃ g, gk = g + 1 := ⟨gk - 1, by omega⟩
      have hil : (i : Int) < (r : Int) := by omega
      have hp8 : p ≤ 10000000 := by
        rw [HP.out]
        exact Nat.le_trans (Nat.pow_le_pow_right (by omega) (show i ≤ 7 by omega)) (by decide)
      have hpi : (p : Int) ≤ 10000000 := by omega
      have HP2 := Lib.hid (show p * 10 = 10 ^ (i + 1) by rw [Nat.pow_succ, HP.out])
      clear HP hmk HW HO1
      go_wp2_with fail
      go_roundg g
      case rel => exact ⟨i + 1, p * 10, by congr 1, by congr 1, by omega, HP2, rfl⟩
      all_goals omega
    · obtain rfl : i = r := by omega
      obtain rfl : gk = 0 := by omega
      have hil : ¬ (i : Int) < (i : Int) := by omega
      have hO1 := HO1.out
      go_wp2_with (at_builtin; go_must (refine wpList_append_own_at _ rfl (.tmp 13) (.tmp 15) 45 rfl wr.heap.size 96 i0 (.int .u32 0) 1 4 Tryz.underlying45 hi hz0 hz1 hz2 rfl (by decide) _ _ _ rfl (hO1.alloc _) ⟨W1.heap.size, 0, none⟩ 1 1 [.int .u32 (p : Int)] rfl rfl (cell_one_u32 _ _) (by intro u hu; simp at hu; rcases hu with rfl; rfl) (by unfold maxLen; omega) (by omega) (by simp; omega) ?_; intro v2 w2 ho2 hg2 hn2 ha2))
      go_ret
      have hp0 := HP.out
      refine ⟨v2, rfl, ?_, owns_below (hb1.alloc hz _) (hO1.alloc _) hg2 (by simp; omega)⟩
      have e : u32L (List.replicate q 0) ++ [Value.int .u32 (p : Int)] = u32L (List.replicate q 0 ++ [10 ^ i]) := by
        unfold u32L
        rw [List.map_append, ← hp0]; rfl
      rw [e, HW.out] at ho2
      refine Nats.of_owns (B := wr.heap.size) ?_
      have hlen : (wordsOf (10 ^ n)).length = q + 1 := by rw [← HW.out]; simp
      rw [hlen]
      exact ho2
end Go.Proofs.YtofpojlnfncpcaaGreatDoor

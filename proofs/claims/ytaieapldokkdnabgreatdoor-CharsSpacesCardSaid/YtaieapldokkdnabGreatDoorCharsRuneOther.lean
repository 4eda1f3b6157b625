/- strings.IndexRune at the law's three bytes and a code point beyond ASCII. -/
import Derived.Test.YtaieapldokkdnabGreatDoorCharsRune
import Derived.Test.YtaieapldokkdnabGreatDoorShelf4
import Derived.WalkMore
import Derived.Deep.QuietTactic
import Derived.BigQuiet
namespace Go.Proofs.YtaieapldokkdnabGreatDoor
open Go.RowKit Go.Lib

theorem index_byte_none (s : ByteArray) (C : Nat) (w : World) (hs : s.data.toList.all (fun b => decide (b.toNat < 128)) = true) (h1 : 128 ≤ C) (h2 : C < 256) :
    Calls Tryz.prog 95 #[.string s, .int .u8 (C : Int)] w fun e w' => e = .returned (.int .i64 (-1)) ∧ w' = w := by
  refine (Tryz.strings_IndexByte s (C : Int) w).mono ?_
  rintro e w' ⟨rfl, rfl⟩
  refine ⟨?_, rfl⟩
  rw [none_of ((C : Int).toNat.toUInt8) (by simp; omega) _ (fun b hb => by simpa using List.all_eq_true.1 hs b hb)]
set_option maxRecDepth 1000000 in
set_option maxHeartbeats 4000000 in
theorem rune_other (R : Nat) (W : World) (h128 : 128 ≤ R) (hv : R < 55296 ∨ (57344 ≤ R ∧ R ≤ 1114111)) (hne : R ≠ 65533) :
    Calls Tryz.prog 56 #[.string ⟨#[9, 10, 13]⟩, .int .i32 R] W fun e w' => e = .returned (.int .i64 (-1)) ∧ Below W.heap.size W w' := by
  have hF := encode_facts (R : Int) (by unfold Utf8.valid; simp; omega) (by omega)
  have cV := fun w => Tryz.utf8_ValidRune (R : Int) w
  rw [show Lib.validRune (R : Int) = true by unfold Lib.validRune; rw [decide_eq_true_iff]; omega] at cV
  have hne' : ((R : Int) == 65533) = false := by rw [beq_eq_false_iff_ne]; omega
  have hd : decide ((R : Int) < 128) = false := by rw [decide_eq_false_iff_not]; omega
  clear hv
  obtain ⟨bs, hbs⟩ : ∃ bs, Utf8.encode (R : Int) = bs := ⟨_, rfl⟩
  rw [hbs] at hF
  obtain ⟨f1, f2, f3⟩ := hF
  have hz := (by omega : bs.size = 2 ∨ bs.size = 3 ∨ bs.size = 4)
  clear f1 f2
  rcases hz with hz | hz | hz
  · have hlt : 1 < bs.size := by omega
    have hc : 128 ≤ (bs[1]).toNat := by have := f3 (by omega); simpa [hz] using this
    have hL := (bs[1]).toNat_lt
    have hI : ∀ w, (Instr.index 9 (.string bs) (.int .i64 1)).run Tryz.prog w = .ok (.int .u8 ((bs[1]).toNat : Int)) w := fun w => by
      rw [run_index_string (P := Tryz.prog) (w := w) 9 bs .i64 1 Tryz.underlying9, dif_pos (by omega)]; rfl
    have hS : ∀ w, (Instr.index 9 (.string ⟨#[9, 10, 13]⟩) (.int .i64 1)).run Tryz.prog w = .ok (.int .u8 10) w := fun w => by
      rw [run_index_string (P := Tryz.prog) (w := w) 9 ⟨#[9, 10, 13]⟩ .i64 1 Tryz.underlying9, dif_pos (by decide)]; rfl
    obtain ⟨C, hC⟩ : ∃ C : Nat, (bs[1]).toNat = C := ⟨_, rfl⟩
    rw [hC] at hI hc hL
    clear hC f3
    have cB := fun w => index_byte_none ((⟨#[9, 10, 13]⟩ : ByteArray).extract 2 3) C w (by decide) hc hL
    have hn2 : ((10 : Int) != (C : Int)) = true := by rw [bne_iff_ne]; omega
    go_enter Tryz.func56, Tryz.ntmps56
    go_wp2_with fail
    refine (cV _).mono ?_
    rintro e w1 ⟨rfl, rfl⟩
    go_wp2_with fail
    go_step3
    go_wp2_with fail
    refine wp_loop_rounds 1 ?_
    rw [rounds_succ]
    go_wp2_with fail
    go_step3
    go_wp2_with fail
    go_quiet (fail)
    have hb2 := below_drewN (Below.refl w1.heap.size w1) nq
    generalize w1.drewN nq = W2 at hb2 ⊢
    go_wp2_with fail
    go_quiet ((go_at_call 95; exact Calls.quiet_of_same (cB _)))
    go_wp2_with fail
    rw [Exit.noGoto_ret]
    go_wp2_with fail
    rw [Exit.noGoto_ret]
    go_ret
    exact ⟨rfl, below_drewN hb2 nq⟩
  · have hlt : 2 < bs.size := by omega
    have hc : 128 ≤ (bs[2]).toNat := by have := f3 (by omega); simpa [hz] using this
    have hL := (bs[2]).toNat_lt
    have hI : ∀ w, (Instr.index 9 (.string bs) (.int .i64 2)).run Tryz.prog w = .ok (.int .u8 ((bs[2]).toNat : Int)) w := fun w => by
      rw [run_index_string (P := Tryz.prog) (w := w) 9 bs .i64 2 Tryz.underlying9, dif_pos (by omega)]; rfl
    have hS : ∀ w, (Instr.index 9 (.string ⟨#[9, 10, 13]⟩) (.int .i64 2)).run Tryz.prog w = .ok (.int .u8 13) w := fun w => by
      rw [run_index_string (P := Tryz.prog) (w := w) 9 ⟨#[9, 10, 13]⟩ .i64 2 Tryz.underlying9, dif_pos (by decide)]; rfl
    obtain ⟨C, hC⟩ : ∃ C : Nat, (bs[2]).toNat = C := ⟨_, rfl⟩
    rw [hC] at hI hc hL
    clear hC f3
    have cB := fun w => index_byte_none ((⟨#[9, 10, 13]⟩ : ByteArray).extract 3 3) C w (by decide) hc hL
    have hn2 : ((13 : Int) != (C : Int)) = true := by rw [bne_iff_ne]; omega
    go_enter Tryz.func56, Tryz.ntmps56
    go_wp2_with fail
    refine (cV _).mono ?_
    rintro e w1 ⟨rfl, rfl⟩
    go_wp2_with fail
    go_step3
    go_wp2_with fail
    refine wp_loop_rounds 1 ?_
    rw [rounds_succ]
    go_wp2_with fail
    go_step3
    go_wp2_with fail
    go_quiet (fail)
    have hb2 := below_drewN (Below.refl w1.heap.size w1) nq
    generalize w1.drewN nq = W2 at hb2 ⊢
    go_wp2_with fail
    go_quiet ((go_at_call 95; exact Calls.quiet_of_same (cB _)))
    go_wp2_with fail
    rw [Exit.noGoto_ret]
    go_wp2_with fail
    rw [Exit.noGoto_ret]
    go_ret
    exact ⟨rfl, below_drewN hb2 nq⟩
  · clear f3
    go_enter Tryz.func56, Tryz.ntmps56
    go_wp2_with fail
    refine (cV _).mono ?_
    rintro e w1 ⟨rfl, rfl⟩
    go_wp2_with fail
    go_step3
    go_wp2_with fail
    refine wp_loop_rounds 1 ?_
    rw [rounds_succ]
    go_wp2_with fail
    rw [Exit.noGoto_ret]
    go_ret
    exact ⟨rfl, Below.refl _ _⟩
end Go.Proofs.YtaieapldokkdnabGreatDoor

/- Numbers: a quotient that is rounded; ratio. -/
import Derived.Test.YtgmnjghbafbopaaGreatDoorMNuG
import Derived.Test.YtgmnjghbafbopaaGreatDoorMNuDivide
namespace Go.Proofs.YtgmnjghbafbopaaGreatDoor
open Go.RowKit Go.Lib

theorem words_mono {a b : Nat} (h : a ≤ b) : (wordsOf a).length ≤ (wordsOf b).length := words_len a _ (Nat.lt_of_le_of_lt h (words_lt b))
theorem words_double (a : Nat) : (wordsOf (a + a)).length ≤ (wordsOf a).length + 1 := words_len _ _ (by
  have := words_lt a
  rw [Nat.pow_succ]
  omega)
set_option maxRecDepth 100000 in
set_option maxHeartbeats 8000000 in
theorem wayDivide_any (f : Nat) (way : Ct → Bool) (hw : WayIs f way) (below : Bool) (u v : Value) (a b : Nat) (hb : b ≠ 0) (ha9 : (wordsOf a).length < 10000000) (hb9 : (wordsOf b).length < 10000000) (w : World) (hu : Nats w u (wordsOf a)) (hv : Nats w v (wordsOf b)) :
    Calls Tryz.prog 82 #[wayFn f, .bool below, u, v] w fun e w' => ∃ x, e = .returned x ∧ Nats w' x (wordsOf (divW way below a b)) ∧ Below w.heap.size w w' := by
  have cD := divide_any u v a b hb ha9 hb9 w hu hv
  obtain ⟨ef, cf⟩ := hw
  have hvl := fun W (hW : Below w.heap.size w W) => hv.later hW
  have hq9 : (wordsOf (a / b)).length < 10000000 := Nat.lt_of_le_of_lt (words_mono (Nat.div_le_self a b)) ha9
  have hr9 : (wordsOf (a % b)).length < 10000000 := Nat.lt_of_le_of_lt (words_mono (Nat.mod_le a b)) ha9
  have hs9 : (wordsOf (a % b + a % b)).length < 100000000 := by have := words_double (a % b); omega
  obtain ⟨R, hR⟩ : ∃ R, divW way below a b = R := ⟨_, rfl⟩
  rw [hR]
  have HR := Lib.hid hR
  clear hR hu hv hb
  unfold wayFn
  go_enter Tryz.func82, Tryz.ntmps82
  go_wp2_with fail
  refine cD.mono ?_
  rintro e w1 ⟨x, y, rfl, hx, hy, hb1⟩
  obtain ⟨px, cx, rfl⟩ := hx.shape
  obtain ⟨py, cy, rfl⟩ := hy.shape
  have cO := isOdd_any _ (wordsOf (a / b)) (small_wordsOf _) (by omega) w1 hx
  have cA := add_any _ _ _ _ (small_wordsOf (a % b)) (small_wordsOf (a % b)) (by omega) (by omega) w1 hy hy
  simp only [val_wordsOf] at cO cA
  obtain ⟨nb, hnb⟩ : ∃ nb, (((wordsOf (a % b)).length : Int) == 0) = nb := ⟨_, rfl⟩
  have hnb2 : nb = decide (a % b = 0) := by
    rw [← hnb]
    have h0 := wordsOf_nil (a % b)
    by_cases h : a % b = 0
    · rw [h, wordsOf_zero]; rfl
    · rw [decide_eq_false h, beq_eq_false_iff_ne]
      intro hl
      exact h (h0.1 (List.eq_nil_of_length_eq_zero (by omega)))
  obtain ⟨od, hod⟩ : ∃ od, decide (a / b % 2 = 1) = od := ⟨_, rfl⟩
  rw [hod] at cO
  have HD := Lib.hid (And.intro hnb2 hod)
  have hv1 := hvl w1 hb1
  have cC := fun z W (hz : Nats W z (wordsOf (a % b + a % b))) (hW : Below w1.heap.size w1 W) => compare_any z v (a % b + a % b) b hs9 W hz (hv1.later hW)
  obtain ⟨sg, hsg⟩ : ∃ sg, sgnN (a % b + a % b) b = sg := ⟨_, rfl⟩
  rw [hsg] at cC
  have HSG := Lib.hid hsg
  have HXN := Lib.hid hx
  have cA1 := fun z W (hz : Nats W z [1]) (hW : Below w1.heap.size w1 W) => add_any _ z (wordsOf (a / b)) [1] (small_wordsOf _) (Small.cons (by omega) Small.nil) (by omega) (by simp) W (hx.later hW) hz
  rw [val_wordsOf, show val [1] = 1 from rfl] at cA1
  clear hnb2 hod hsg hx hy hvl hv1 hq9 hs9 cD
  generalize (wordsOf (a % b)).length = L at *
  generalize (wordsOf (a / b)).length = Lq at *
  go_wp2_with fail
  refine cO.mono ?_
  rintro e w1' ⟨rfl, rfl⟩
  go_wp2_with fail
  refine cA.mono ?_
  rintro e w2 ⟨z, rfl, hz, hb2⟩
  go_wp2_with fail
  refine (cC z w2 hz hb2).mono ?_
  rintro e w3 ⟨rfl, hb3⟩
  have hb13 : Below w1.heap.size w1 w3 := hb2.trans (hb3.mono hb2.size)
  have cF := cf ⟨below, od, nb, sg⟩ (w3.alloc (.cells #[.bool below, .bool od, .bool nb, .int .i64 sg] 155))
  have hb4 : Below w1.heap.size w1 (w3.alloc (.cells #[.bool below, .bool od, .bool nb, .int .i64 sg] 155)) := hb13.alloc hb13.size _
  obtain ⟨hd1, hd2⟩ := HD.out
  have hdw : R = if way ⟨below, od, nb, sg⟩ = true then a / b + 1 else a / b := by
    rw [← HR.out]
    unfold divW
    rw [hd2, ← hd1, Nat.two_mul, HSG.out]
  by_cases hwy : way ⟨below, od, nb, sg⟩ = true
  · rw [hwy] at cF
    rw [if_pos hwy] at hdw
    have HDW := Lib.hid hdw
    clear hdw hwy cf hd1 hd2
    go_wp2_with fail
    refine cF.mono ?_
    rintro e w5 ⟨rfl, hb5⟩
    have hb15 : Below w1.heap.size w1 w5 := hb4.trans (hb5.mono hb4.size)
    have cA2 := cA1 (.slice (some ⟨w5.heap.size, 0, none⟩) 1 1) (w5.alloc (.cells #[.int .u32 1] 156)) (lit_nats w5 1) (hb15.alloc hb15.size _)
    clear cA1
    go_wp2_with fail
    refine cA2.mono ?_
    rintro e w6 ⟨x6, rfl, hx6, hb6⟩
    go_wp2_with fail
    go_ret
    have hb16 : Below w1.heap.size w1 w6 := (hb15.alloc hb15.size _).trans (hb6.mono (hb15.alloc hb15.size _).size)
    exact ⟨x6, rfl, by rw [HDW.out]; exact hx6, hb1.trans (hb16.mono hb1.size)⟩
  · rw [show way ⟨below, od, nb, sg⟩ = false by simpa using hwy] at cF
    rw [if_neg hwy] at hdw
    have HDW := Lib.hid hdw
    clear hdw hwy cf hd1 hd2 cA1
    go_wp2_with fail
    refine cF.mono ?_
    rintro e w5 ⟨rfl, hb5⟩
    have hb15 : Below w1.heap.size w1 w5 := hb4.trans (hb5.mono hb4.size)
    go_wp2_with fail
    go_ret
    exact ⟨_, rfl, by rw [HDW.out]; exact HXN.out.later hb15, hb1.trans (hb15.mono hb1.size)⟩

set_option maxRecDepth 100000 in
set_option maxHeartbeats 4000000 in
theorem ratio_any (below : Bool) (u v : Value) (a b : Nat) (hb : b ≠ 0) (ha9 : (wordsOf a).length < 10000000) (hb9 : (wordsOf b).length < 10000000) (w : World) (hu : Nats w u (wordsOf a)) (hv : Nats w v (wordsOf b)) :
    Calls Tryz.prog 92 #[.bool below, u, v] w fun e w' => ∃ x, e = .returned x ∧ NumAt w' x below (divW evenW below a b) ∧ Below w.heap.size w w' := by
  have hbw : Below w.heap.size w (w.alloc (.cells #[.bool false, .slice none 0 0] 88)) := (Below.refl _ w).alloc (Nat.le_refl _) _
  have z0 : (w.alloc (.cells #[.bool false, .slice none 0 0] 88)).cell? ⟨w.heap.size, 0, none⟩ = some (.bool false) := by simp [go_sem]
  have z1 : (w.alloc (.cells #[.bool false, .slice none 0 0] 88)).cell? ⟨w.heap.size, 1, none⟩ = some (.slice none 0 0) := by simp [go_sem]
  have z2 : (w.alloc (.cells #[.bool false, .slice none 0 0] 88)).frozen? ⟨w.heap.size, 0, none⟩ = false := by simp [go_sem]
  have z3 : (w.alloc (.cells #[.bool false, .slice none 0 0] 88)).frozen? ⟨w.heap.size, 1, none⟩ = false := by simp [go_sem]
  have s0 : w.heap.size < (w.alloc (.cells #[.bool false, .slice none 0 0] 88)).heap.size := by simp
  have hu1 := hu.later hbw
  have hv1 := hv.later hbw
  obtain ⟨W1, hW1⟩ : ∃ W1, w.alloc (.cells #[.bool false, .slice none 0 0] 88) = W1 := ⟨_, rfl⟩
  rw [hW1] at hbw z0 z1 z2 z3 s0 hu1 hv1
  have cR := rounding_any ⟨#[101, 118, 101, 110]⟩ W1
  go_enter Tryz.func92, Tryz.ntmps92
  go_wp2_with fail
  try rw [hW1]
  clear hW1
  refine cR.mono ?_
  rintro e w1' ⟨g, rfl, hg, rfl⟩
  obtain ⟨f, rfl, hf⟩ : ∃ f, g = wayFn f ∧ WayIs f evenW := hg
  have cW := wayDivide_any f evenW hf below u v a b hb ha9 hb9 W1 hu1 hv1
  go_wp2_with fail
  refine cW.mono ?_
  rintro e w2 ⟨x, rfl, hx, hb2⟩
  obtain ⟨xp, xc, rfl⟩ := hx.shape
  have v0 := (hb2.cell (p := ⟨w.heap.size, 0, none⟩) s0).trans z0
  have v1 := (hb2.cell (p := ⟨w.heap.size, 1, none⟩) s0).trans z1
  have v2 := (hb2.frozen (p := ⟨w.heap.size, 0, none⟩) s0).trans z2
  have v3 := (hb2.frozen (p := ⟨w.heap.size, 1, none⟩) s0).trans z3
  obtain ⟨W5, hW5, r0, r1, hb5, hx5⟩ := num_store (below := below) hbw hb2 (Nat.le_refl _) hx v0 v1
  clear z0 z1 z2 z3 hu1 hv1 hx
  go_wp2_with fail
  try rw [hW5]
  exact bodyPost_ret (v := numV below xp (wordsOf (divW evenW below a b)).length xc) (by simp [results, Tryz.results92, go_sem, numV, r0, r1]) rfl ⟨_, rfl, ⟨_, _, rfl, hx5⟩, hb5⟩
end Go.Proofs.YtgmnjghbafbopaaGreatDoor

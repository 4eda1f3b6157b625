/- The specification of num: the contract of sum. -/
import Derived.Test.YtdfgifnccghlmabGreatDoorMRfResult
namespace Go.Proofs.YtdfgifnccghlmabGreatDoor.R
open Go.RowKit Go.Lib
open Go.Proofs.YtdfgifnccghlmabGreatDoor (trimW resR resV plusB plusN sgnN lt_of_cell)

set_option maxHeartbeats 8000000 in
set_option maxRecDepth 100000 in
theorem sum_any (bx by_ : Bool) (x y : Nat) (u v : Value) (hx9 : (wordsOf x).length ≤ 100) (hy9 : (wordsOf y).length ≤ 100) (w : World) (hu : Digs w u (wordsOf x)) (hv : Digs w v (wordsOf y)) :
    Calls Tryz.prog 94 #[.agg #[.bool bx, u], .agg #[.bool by_, v]] w fun e w' => e = .returned (resV (resR (plusB bx by_ x y) (plusN bx by_ x y))) ∧ Below w.heap.size w w' := by
  obtain ⟨p1, c1, rfl⟩ := hu.shape
  obtain ⟨p2, c2, rfl⟩ := hv.shape
  obtain ⟨W2, hW2⟩ : ∃ W2, (w.alloc (.cells #[.bool bx, .slice p1 (wordsOf x).length c1] 86)).alloc (.cells #[.bool by_, .slice p2 (wordsOf y).length c2] 86) = W2 := ⟨_, rfl⟩
  have hbW : Below w.heap.size w W2 := by rw [← hW2]; exact ((Below.refl _ _).alloc (Nat.le_refl _) _).alloc (by simp) _
  have y0 : W2.cell? ⟨w.heap.size, 0, none⟩ = some (.bool bx) := by rw [← hW2]; simp [go_sem]
  have y1 : W2.cell? ⟨w.heap.size, 1, none⟩ = some (.slice p1 (wordsOf x).length c1) := by rw [← hW2]; simp [go_sem]
  have y2 : W2.cell? ⟨w.heap.size + 1, 0, none⟩ = some (.bool by_) := by rw [← hW2]; simp [go_sem]
  have y3 : W2.cell? ⟨w.heap.size + 1, 1, none⟩ = some (.slice p2 (wordsOf y).length c2) := by rw [← hW2]; simp [go_sem]
  have s0 : w.heap.size < W2.heap.size := by rw [← hW2]; simp; omega
  have s1 : w.heap.size + 1 < W2.heap.size := by rw [← hW2]; simp
  have hM1 := hu.later hbW
  have hM2 := hv.later hbW
  obtain ⟨RR, hRR⟩ : ∃ r, resR (plusB bx by_ x y) (plusN bx by_ x y) = r := ⟨_, rfl⟩
  have HR := Lib.hid hRR
  have cA := fun W (hW : Below W2.heap.size W2 W) => add_any (.slice p1 (wordsOf x).length c1) (.slice p2 (wordsOf y).length c2) (wordsOf x) (wordsOf y) (small_wordsOf _) (small_wordsOf _) (by omega) (by omega) W (hM1.later hW) (hM2.later hW)
  simp only [val_wordsOf] at cA
  have cZ := fun (b : Bool) (n : Nat) (hn9 : (wordsOf n).length < 1000000000) W v (hv : Digs W v (wordsOf n)) => result_any b v (wordsOf n) (small_wordsOf n) hn9 W hv
  simp only [val_wordsOf] at cZ
  clear hu hv
  by_cases hb : bx = by_
  · subst hb
    have hl : (wordsOf (x + y)).length < 1000000000 := by
      have h1 := Nat.lt_of_lt_of_le (words_lt x) (Nat.pow_le_pow_right (show 0 < 10 by omega) hx9)
      have h2 := Nat.lt_of_lt_of_le (words_lt y) (Nat.pow_le_pow_right (show 0 < 10 by omega) hy9)
      have := words_len (x + y) 101 (by rw [Nat.pow_succ]; omega)
      omega
    have cZ2 := cZ bx (x + y) hl
    have e : resR bx (x + y) = RR := by rw [← hRR]; unfold plusB plusN; rw [if_pos rfl, if_pos rfl]
    rw [e] at cZ2
    clear hRR e cZ hM1 hM2 hl hx9 hy9
    unfold resV at cZ2
    go_enter Tryz.func94, Tryz.ntmps94
    go_wp2_with fail
    try rw [hW2]
    clear hW2
    have bD : Below W2.heap.size W2 W2.drew := (Below.refl W2.heap.size W2).drew
    go_wp2_with fail
    go_region_held3 (fun w' => w'.cell? ⟨w.heap.size, 0, none⟩ = some (.bool bx) ∧ w'.cell? ⟨w.heap.size, 1, none⟩ = some (.slice p1 (wordsOf x).length c1) ∧ w'.cell? ⟨w.heap.size + 1, 0, none⟩ = some (.bool bx) ∧ w'.cell? ⟨w.heap.size + 1, 1, none⟩ = some (.slice p2 (wordsOf y).length c2)) (first | exact ⟨Z0, Z1, Z2, Z3⟩ | exact ⟨A0, A1, A2, A3⟩ | exact ⟨y0, y1, y2, y3⟩) (first | (go_at_call 136; have c := cA W2.drew bD; refine c.mono ?_; rintro e wA ⟨qA, rfl, hqA, hbA⟩; have bA : Below W2.heap.size W2 wA := bD.trans (hbA.mono bD.size); have A0 := (bA.cell (p := ⟨w.heap.size, 0, none⟩) s0).trans y0; have A1 := (bA.cell (p := ⟨w.heap.size, 1, none⟩) s0).trans y1; have A2 := (bA.cell (p := ⟨w.heap.size + 1, 0, none⟩) s1).trans y2; have A3 := (bA.cell (p := ⟨w.heap.size + 1, 1, none⟩) s1).trans y3; obtain ⟨pA, cA2, rfl⟩ := hqA.shape) | (go_at_call 67; have c := cZ2 wA _ hqA; refine c.mono ?_; rintro e wZ ⟨rfl, hbZ⟩; have bZ : Below W2.heap.size W2 wZ := bA.trans (hbZ.mono bA.size); have Z0 := (bZ.cell (p := ⟨w.heap.size, 0, none⟩) s0).trans y0; have Z1 := (bZ.cell (p := ⟨w.heap.size, 1, none⟩) s0).trans y1; have Z2 := (bZ.cell (p := ⟨w.heap.size + 1, 0, none⟩) s1).trans y2; have Z3 := (bZ.cell (p := ⟨w.heap.size + 1, 1, none⟩) s1).trans y3))
    all_goals
      go_wp2_with fail
      go_ret2
      exact ⟨by rw [HR.out]; rfl, hbW.trans (bZ.mono hbW.size)⟩
  · have hbb : (bx == by_) = false := by cases bx <;> cases by_ <;> simp_all
    have cC := cmp_any (.slice p1 (wordsOf x).length c1) (.slice p2 (wordsOf y).length c2) (wordsOf x) (wordsOf y) (small_wordsOf _) (small_wordsOf _) (by omega) (by omega) W2 hM1 hM2
    simp only [val_wordsOf] at cC
    have hsz := fun n (h : n ≤ x ∨ n ≤ y) => show (wordsOf n).length < 1000000000 by
      have h1 := Nat.lt_of_lt_of_le (words_lt x) (Nat.pow_le_pow_right (show 0 < 10 by omega) hx9)
      have h2 := Nat.lt_of_lt_of_le (words_lt y) (Nat.pow_le_pow_right (show 0 < 10 by omega) hy9)
      have := words_len n 100 (by omega)
      omega
    by_cases hxy : x < y
    · have cS := fun W (hW : Below W2.heap.size W2 W) => sub_any (.slice p2 (wordsOf y).length c2) (.slice p1 (wordsOf x).length c1) (wordsOf y) (wordsOf x) (small_wordsOf _) (small_wordsOf _) (by omega) (by omega) (by rw [val_wordsOf, val_wordsOf]; omega) W (hM2.later hW) (hM1.later hW)
      simp only [val_wordsOf] at cS
      have cZ2 := cZ by_ (y - x) (hsz _ (.inr (Nat.sub_le _ _)))
      have e : resR by_ (y - x) = RR := by rw [← hRR]; unfold plusB plusN; rw [if_neg hb, if_neg hb, if_pos hxy, if_pos hxy]
      rw [e] at cZ2
      rw [show sgnN x y = -1 from sgn_lt hxy] at cC
      clear hRR e cZ hM1 hM2 hx9 hy9 hsz cA hb hxy
      unfold resV at cZ2
      go_enter Tryz.func94, Tryz.ntmps94
      go_wp2_with fail
      try rw [hW2]
      clear hW2
      go_wp2_with fail
      refine cC.mono ?_
      rintro e W3 ⟨rfl, hb3⟩
      have y0 := (hb3.cell (p := ⟨w.heap.size, 0, none⟩) s0).trans y0
      have y1 := (hb3.cell (p := ⟨w.heap.size, 1, none⟩) s0).trans y1
      have y2 := (hb3.cell (p := ⟨w.heap.size + 1, 0, none⟩) s1).trans y2
      have y3 := (hb3.cell (p := ⟨w.heap.size + 1, 1, none⟩) s1).trans y3
      have s0 := Nat.lt_of_lt_of_le s0 hb3.size
      have s1 := Nat.lt_of_lt_of_le s1 hb3.size
      have hbW3 := hbW.trans (hb3.mono hbW.size)
      have bD : Below W3.heap.size W3 W3.drew := (Below.refl W3.heap.size W3).drew
      go_wp2_with fail
      go_region_held3 (fun w' => w'.cell? ⟨w.heap.size, 0, none⟩ = some (.bool bx) ∧ w'.cell? ⟨w.heap.size, 1, none⟩ = some (.slice p1 (wordsOf x).length c1) ∧ w'.cell? ⟨w.heap.size + 1, 0, none⟩ = some (.bool by_) ∧ w'.cell? ⟨w.heap.size + 1, 1, none⟩ = some (.slice p2 (wordsOf y).length c2)) (first | exact ⟨Z0, Z1, Z2, Z3⟩ | exact ⟨A0, A1, A2, A3⟩ | exact ⟨y0, y1, y2, y3⟩) (first | (go_at_call 99; have c := cS W3.drew (hb3.drew); refine c.mono ?_; rintro e wA ⟨qA, rfl, hqA, hbA⟩; have bA : Below W3.heap.size W3 wA := bD.trans (hbA.mono bD.size); have A0 := (bA.cell (p := ⟨w.heap.size, 0, none⟩) s0).trans y0; have A1 := (bA.cell (p := ⟨w.heap.size, 1, none⟩) s0).trans y1; have A2 := (bA.cell (p := ⟨w.heap.size + 1, 0, none⟩) s1).trans y2; have A3 := (bA.cell (p := ⟨w.heap.size + 1, 1, none⟩) s1).trans y3; obtain ⟨pA, cA2, rfl⟩ := hqA.shape) | (go_at_call 67; have c := cZ2 wA _ hqA; refine c.mono ?_; rintro e wZ ⟨rfl, hbZ⟩; have bZ : Below W3.heap.size W3 wZ := bA.trans (hbZ.mono bA.size); have Z0 := (bZ.cell (p := ⟨w.heap.size, 0, none⟩) s0).trans y0; have Z1 := (bZ.cell (p := ⟨w.heap.size, 1, none⟩) s0).trans y1; have Z2 := (bZ.cell (p := ⟨w.heap.size + 1, 0, none⟩) s1).trans y2; have Z3 := (bZ.cell (p := ⟨w.heap.size + 1, 1, none⟩) s1).trans y3))
      all_goals
        go_wp2_with fail
        go_ret2
        exact ⟨by rw [HR.out]; rfl, hbW3.trans (bZ.mono hbW3.size)⟩
    · have cS := fun W (hW : Below W2.heap.size W2 W) => sub_any (.slice p1 (wordsOf x).length c1) (.slice p2 (wordsOf y).length c2) (wordsOf x) (wordsOf y) (small_wordsOf _) (small_wordsOf _) (by omega) (by omega) (by rw [val_wordsOf, val_wordsOf]; omega) W (hM1.later hW) (hM2.later hW)
      simp only [val_wordsOf] at cS
      have cZ2 := cZ bx (x - y) (hsz _ (.inl (Nat.sub_le _ _)))
      have e : resR bx (x - y) = RR := by rw [← hRR]; unfold plusB plusN; rw [if_neg hb, if_neg hb, if_neg hxy, if_neg hxy]
      rw [e] at cZ2
      have hge : 0 ≤ sgnN x y := by unfold sgnN; rw [if_neg hxy]; split <;> omega
      obtain ⟨z, hz⟩ : ∃ z, sgnN x y = z := ⟨_, rfl⟩
      rw [hz] at cC hge
      clear hRR e cZ hM1 hM2 hx9 hy9 hsz cA hb hxy hz
      unfold resV at cZ2
      go_enter Tryz.func94, Tryz.ntmps94
      go_wp2_with fail
      try rw [hW2]
      clear hW2
      go_wp2_with fail
      refine cC.mono ?_
      rintro e W3 ⟨rfl, hb3⟩
      have y0 := (hb3.cell (p := ⟨w.heap.size, 0, none⟩) s0).trans y0
      have y1 := (hb3.cell (p := ⟨w.heap.size, 1, none⟩) s0).trans y1
      have y2 := (hb3.cell (p := ⟨w.heap.size + 1, 0, none⟩) s1).trans y2
      have y3 := (hb3.cell (p := ⟨w.heap.size + 1, 1, none⟩) s1).trans y3
      have s0 := Nat.lt_of_lt_of_le s0 hb3.size
      have s1 := Nat.lt_of_lt_of_le s1 hb3.size
      have hbW3 := hbW.trans (hb3.mono hbW.size)
      have bD : Below W3.heap.size W3 W3.drew := (Below.refl W3.heap.size W3).drew
      go_wp2_with fail
      go_region_held3 (fun w' => w'.cell? ⟨w.heap.size, 0, none⟩ = some (.bool bx) ∧ w'.cell? ⟨w.heap.size, 1, none⟩ = some (.slice p1 (wordsOf x).length c1) ∧ w'.cell? ⟨w.heap.size + 1, 0, none⟩ = some (.bool by_) ∧ w'.cell? ⟨w.heap.size + 1, 1, none⟩ = some (.slice p2 (wordsOf y).length c2)) (first | exact ⟨Z0, Z1, Z2, Z3⟩ | exact ⟨A0, A1, A2, A3⟩ | exact ⟨y0, y1, y2, y3⟩) (first | (go_at_call 99; have c := cS W3.drew (hb3.drew); refine c.mono ?_; rintro e wA ⟨qA, rfl, hqA, hbA⟩; have bA : Below W3.heap.size W3 wA := bD.trans (hbA.mono bD.size); have A0 := (bA.cell (p := ⟨w.heap.size, 0, none⟩) s0).trans y0; have A1 := (bA.cell (p := ⟨w.heap.size, 1, none⟩) s0).trans y1; have A2 := (bA.cell (p := ⟨w.heap.size + 1, 0, none⟩) s1).trans y2; have A3 := (bA.cell (p := ⟨w.heap.size + 1, 1, none⟩) s1).trans y3; obtain ⟨pA, cA2, rfl⟩ := hqA.shape) | (go_at_call 67; have c := cZ2 wA _ hqA; refine c.mono ?_; rintro e wZ ⟨rfl, hbZ⟩; have bZ : Below W3.heap.size W3 wZ := bA.trans (hbZ.mono bA.size); have Z0 := (bZ.cell (p := ⟨w.heap.size, 0, none⟩) s0).trans y0; have Z1 := (bZ.cell (p := ⟨w.heap.size, 1, none⟩) s0).trans y1; have Z2 := (bZ.cell (p := ⟨w.heap.size + 1, 0, none⟩) s1).trans y2; have Z3 := (bZ.cell (p := ⟨w.heap.size + 1, 1, none⟩) s1).trans y3))
      all_goals
        go_wp2_with fail
        go_ret2
        exact ⟨by rw [HR.out]; rfl, hbW3.trans (bZ.mono hbW3.size)⟩
end Go.Proofs.YtdfgifnccghlmabGreatDoor.R

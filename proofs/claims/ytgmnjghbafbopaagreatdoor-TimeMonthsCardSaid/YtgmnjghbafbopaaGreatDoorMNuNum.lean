/- Numbers: negated, compare, plus. -/
import Derived.Test.YtgmnjghbafbopaaGreatDoorMNuD
import Derived.Test.YtgmnjghbafbopaaGreatDoorMNuA
import Derived.Deep.RegionHeld3
namespace Go.Proofs.YtgmnjghbafbopaaGreatDoor
open Go.RowKit Go.Lib

/-- A number of the program. -/
def numV (below : Bool) (p : Option Addr) (l c : Nat) : Value := .agg #[.bool below, .slice p l c]

set_option maxRecDepth 100000 in
set_option maxHeartbeats 2000000 in
theorem negated_any (below : Bool) (p : Option Addr) (l c : Nat) (w : World) :
    Calls Tryz.prog 186 #[numV below p l c] w fun e w' => e = .returned (numV (!below) p l c) ∧ Below w.heap.size w w' := by
  unfold numV
  go_enter Tryz.func186, Tryz.ntmps186
  go_wp2_with fail
  exact bodyPost_ret (v := numV (!below) p l c) (by simp [results, Tryz.results186, go_sem, numV]) rfl ⟨rfl, ((Below.refl _ w).alloc (Nat.le_refl _) _).alloc (by simp) _⟩

set_option maxRecDepth 100000 in
set_option maxHeartbeats 4000000 in
theorem numCompare_any (bx by_ : Bool) (p q : Option Addr) (c d a b : Nat) (ha9 : (wordsOf a).length < 100000000) (hb9 : (wordsOf b).length < 100000000) (w : World) (hu : Nats w (.slice p (wordsOf a).length c) (wordsOf a)) (hv : Nats w (.slice q (wordsOf b).length d) (wordsOf b)) :
    Calls Tryz.prog 74 #[numV bx p (wordsOf a).length c, numV by_ q (wordsOf b).length d] w fun e w' => e = .returned (.int .i64 (cmpN bx by_ a b)) ∧ Below w.heap.size w w' := by
  have c1 := fun W (hW : Below w.heap.size w W) => compare_any _ _ a b ha9 W (hu.later hW) (hv.later hW)
  have c2 := fun W (hW : Below w.heap.size w W) => compare_any _ _ b a hb9 W (hv.later hW) (hu.later hW)
  clear hu hv
  generalize (wordsOf a).length = la at *
  generalize (wordsOf b).length = lb at *
  unfold numV
  cases bx <;> cases by_
  · rw [show cmpN false false a b = sgnN a b from rfl]
    have hb2 : Below w.heap.size w ((w.alloc (.cells #[.bool false, .slice p la c] 88)).alloc (.cells #[.bool false, .slice q lb d] 88)) := ((Below.refl _ w).alloc (Nat.le_refl _) _).alloc (by simp) _
    go_enter Tryz.func74, Tryz.ntmps74
    go_wp2_with fail
    refine (c1 _ hb2).mono ?_
    rintro e w2 ⟨rfl, hw2⟩
    go_wp2_with fail
    go_ret
    exact ⟨rfl, hb2.trans (hw2.mono hb2.size)⟩
  · rw [show cmpN false true a b = 1 from rfl]
    have hb2 : Below w.heap.size w ((w.alloc (.cells #[.bool false, .slice p la c] 88)).alloc (.cells #[.bool true, .slice q lb d] 88)) := ((Below.refl _ w).alloc (Nat.le_refl _) _).alloc (by simp) _
    go_enter Tryz.func74, Tryz.ntmps74
    go_wp2_with fail
    go_ret
    exact ⟨rfl, hb2⟩
  · rw [show cmpN true false a b = -1 from rfl]
    have hb2 : Below w.heap.size w ((w.alloc (.cells #[.bool true, .slice p la c] 88)).alloc (.cells #[.bool false, .slice q lb d] 88)) := ((Below.refl _ w).alloc (Nat.le_refl _) _).alloc (by simp) _
    go_enter Tryz.func74, Tryz.ntmps74
    go_wp2_with fail
    go_ret
    exact ⟨rfl, hb2⟩
  · rw [show cmpN true true a b = sgnN b a from rfl]
    have hb2 : Below w.heap.size w ((w.alloc (.cells #[.bool true, .slice p la c] 88)).alloc (.cells #[.bool true, .slice q lb d] 88)) := ((Below.refl _ w).alloc (Nat.le_refl _) _).alloc (by simp) _
    go_enter Tryz.func74, Tryz.ntmps74
    go_wp2_with fail
    refine (c2 _ hb2).mono ?_
    rintro e w2 ⟨rfl, hw2⟩
    go_wp2_with fail
    go_ret
    exact ⟨rfl, hb2.trans (hw2.mono hb2.size)⟩

/-- A number in memory. -/
def NumAt (w : World) (v : Value) (below : Bool) (n : Nat) : Prop := ∃ p c, v = numV below p (wordsOf n).length c ∧ Nats w (.slice p (wordsOf n).length c) (wordsOf n)
theorem NumAt.later {w w' : World} {v : Value} {below : Bool} {n : Nat} (h : NumAt w v below n) (hb : Below w.heap.size w w') : NumAt w' v below n := by
  obtain ⟨p, c, rfl, h⟩ := h
  exact ⟨p, c, rfl, h.later hb⟩

theorem Nats.setCell {w : World} {x : Value} {l : List Nat} (h : Nats w x l) {p : Addr} {v : Value} (u : Value) (hp : w.cell? p = some v) (hv : ∀ k i, v ≠ .int k i) : Nats (w.setCell p u) x l := by
  rcases h with h | ⟨b, off, cap, rfl, hc, h⟩
  · exact .inl h
  · refine .inr ⟨b, off, cap, rfl, hc, fun j hj => (World.cell?_setCell_other _ _ _ _ (fun e => ?_)).trans (h j hj)⟩
    have := h j hj
    rw [← e, hp] at this
    exact hv _ _ (Option.some.inj this)
theorem keep2 {w : World} {B : Nat} {u v : Value} {k o : Nat} (hk : k ≠ B) : ((w.setCell ⟨B, 0, none⟩ u).setCell ⟨B, 1, none⟩ v).cell? ⟨k, o, none⟩ = w.cell? ⟨k, o, none⟩ :=
  (World.cell?_setCell_other _ _ _ _ (fun e => hk (by injection e with e; exact e.symm))).trans (World.cell?_setCell_other _ _ _ _ (fun e => hk (by injection e with e; exact e.symm)))
/-- A result that is stored in its variable, behind a call. -/
theorem num_store {w W w4 : World} {below : Bool} {xp : Option Addr} {xc n B : Nat} (hw : Below w.heap.size w W) (hb4 : Below W.heap.size W w4) (hB : w.heap.size ≤ B) (hx : Nats w4 (.slice xp (wordsOf n).length xc) (wordsOf n)) (v0 : w4.cell? ⟨B, 0, none⟩ = some (.bool false)) (v1 : w4.cell? ⟨B, 1, none⟩ = some (.slice none 0 0)) :
    ∃ W5, (w4.setCell ⟨B, 0, none⟩ (.bool below)).setCell ⟨B, 1, none⟩ (.slice xp (wordsOf n).length xc) = W5 ∧ W5.cell? ⟨B, 0, none⟩ = some (.bool below) ∧ W5.cell? ⟨B, 1, none⟩ = some (.slice xp (wordsOf n).length xc) ∧ Below w.heap.size w W5 ∧ Nats W5 (.slice xp (wordsOf n).length xc) (wordsOf n) := by
  have v1' : (w4.setCell ⟨B, 0, none⟩ (.bool below)).cell? ⟨B, 1, none⟩ = some (.slice none 0 0) := (World.cell?_setCell_other _ _ _ _ (by simp)).trans v1
  refine ⟨_, rfl, (World.cell?_setCell_other _ _ _ _ (by simp)).trans (World.cell?_setCell_same _ _ _ v0), World.cell?_setCell_same _ _ _ v1', ?_, (hx.setCell _ v0 (by simp)).setCell _ v1' (by simp)⟩
  exact ((hw.trans (hb4.mono hw.size)).setCell (p := ⟨B, 0, none⟩) hB _).setCell (p := ⟨B, 1, none⟩) hB _

set_option maxRecDepth 100000 in
set_option maxHeartbeats 8000000 in
theorem plus_any (u v : Value) (bx by_ : Bool) (a b : Nat) (ha9 : (wordsOf a).length < 100000000) (hb9 : (wordsOf b).length < 100000000) (w : World) (hu : NumAt w u bx a) (hv : NumAt w v by_ b) :
    Calls Tryz.prog 83 #[u, v] w fun e w' => ∃ x, e = .returned x ∧ NumAt w' x (plusB bx by_ a b) (plusN bx by_ a b) ∧ Below w.heap.size w w' := by
  obtain ⟨p, c, rfl, hu⟩ := hu
  obtain ⟨q, d, rfl, hv⟩ := hv
  have c1 := fun W (hW : Below w.heap.size w W) => compare_any _ _ a b ha9 W (hu.later hW) (hv.later hW)
  have c2 := fun W (hW : Below w.heap.size w W) => add_any _ _ _ _ (small_wordsOf a) (small_wordsOf b) ha9 hb9 W (hu.later hW) (hv.later hW)
  have c3 := fun (h : b ≤ a) W (hW : Below w.heap.size w W) => subtract_any _ _ _ _ (small_wordsOf a) (small_wordsOf b) ha9 hb9 (by rw [val_wordsOf, val_wordsOf]; exact h) W (hu.later hW) (hv.later hW)
  have c4 := fun (h : a ≤ b) W (hW : Below w.heap.size w W) => subtract_any _ _ _ _ (small_wordsOf b) (small_wordsOf a) hb9 ha9 (by rw [val_wordsOf, val_wordsOf]; exact h) W (hv.later hW) (hu.later hW)
  simp only [val_wordsOf] at c2 c3 c4
  clear hu hv
  generalize (wordsOf a).length = la at *
  generalize (wordsOf b).length = lb at *
  unfold numV
  have hb2 : Below w.heap.size w ((w.alloc (.cells #[.bool bx, .slice p la c] 88)).alloc (.cells #[.bool by_, .slice q lb d] 88)) := ((Below.refl _ w).alloc (Nat.le_refl _) _).alloc (by simp) _
  by_cases hs : bx = by_
  · rw [show plusB bx by_ a b = bx by unfold plusB; rw [if_pos hs], show plusN bx by_ a b = a + b by unfold plusN; rw [if_pos hs]]
    subst hs
    clear c1 c3 c4
    go_enter Tryz.func83, Tryz.ntmps83
    go_wp2_with fail
    obtain ⟨W3, hW3⟩ : ∃ W3, ((w.alloc (.cells #[.bool bx, .slice p la c] 88)).alloc (.cells #[.bool bx, .slice q lb d] 88)).alloc (.cells #[.bool false, .slice none 0 0] 88) = W3 := ⟨_, rfl⟩
    have hb3 : Below w.heap.size w W3 := by rw [← hW3]; exact hb2.alloc (by simp; omega) _
    have hz3 : W3.heap.size = w.heap.size + 3 := by rw [← hW3]; simp
    have y0 : W3.cell? ⟨w.heap.size, 0, none⟩ = some (.bool bx) := by rw [← hW3]; simp [go_sem, World.cell?_alloc_past]
    have y1 : W3.cell? ⟨w.heap.size, 1, none⟩ = some (.slice p la c) := by rw [← hW3]; simp [go_sem, World.cell?_alloc_past]
    have y2 : W3.cell? ⟨w.heap.size + 1, 1, none⟩ = some (.slice q lb d) := by rw [← hW3]; simp [go_sem, World.cell?_alloc_past]
    have z0 : W3.cell? ⟨w.heap.size + 2, 0, none⟩ = some (.bool false) := by rw [← hW3]; simp [go_sem]
    have z1 : W3.cell? ⟨w.heap.size + 2, 1, none⟩ = some (.slice none 0 0) := by rw [← hW3]; simp [go_sem]
    have z2 : W3.frozen? ⟨w.heap.size + 2, 0, none⟩ = false := by rw [← hW3]; simp [go_sem]
    have z3 : W3.frozen? ⟨w.heap.size + 2, 1, none⟩ = false := by rw [← hW3]; simp [go_sem]
    have s0 : w.heap.size < W3.heap.size := by omega
    have s1 : w.heap.size + 1 < W3.heap.size := by omega
    have s2 : w.heap.size + 2 < W3.heap.size := by omega
    rw [hW3]
    clear hW3 hb2
    go_region_held3 (fun w' => w'.cell? ⟨w.heap.size, 0, none⟩ = some (.bool bx) ∧ w'.cell? ⟨w.heap.size, 1, none⟩ = some (.slice p la c) ∧ w'.cell? ⟨w.heap.size + 1, 1, none⟩ = some (.slice q lb d)) (first | exact ⟨(keep2 (by omega)).trans k0, (keep2 (by omega)).trans k1, (keep2 (by omega)).trans k2⟩ | exact ⟨k0, k1, k2⟩ | exact ⟨y0, y1, y2⟩) (first | (go_at_call 139; refine (c2 _ (by first | exact hb3 | exact hb3.drew)).mono ?_; rintro e w4 ⟨x, rfl, hx, hb4⟩; have hb4 : Below W3.heap.size W3 w4 := (by first | exact hb4 | exact (Below.refl _ W3).drew.trans hb4); obtain ⟨xp, xc, rfl⟩ := hx.shape; have v0 := (hb4.cell (p := ⟨w.heap.size + 2, 0, none⟩) s2).trans z0; have v1 := (hb4.cell (p := ⟨w.heap.size + 2, 1, none⟩) s2).trans z1; have v2 := (hb4.frozen (p := ⟨w.heap.size + 2, 0, none⟩) s2).trans z2; have v3 := (hb4.frozen (p := ⟨w.heap.size + 2, 1, none⟩) s2).trans z3; have k0 := (hb4.cell (p := ⟨w.heap.size, 0, none⟩) s0).trans y0; have k1 := (hb4.cell (p := ⟨w.heap.size, 1, none⟩) s0).trans y1; have k2 := (hb4.cell (p := ⟨w.heap.size + 1, 1, none⟩) s1).trans y2))
    obtain ⟨W5, hW5, r0, r1, hb5, hx5⟩ := num_store (below := bx) hb3 hb4 (show w.heap.size ≤ w.heap.size + 1 + 1 by omega) hx v0 v1
    rw [hW5]
    clear hW5
    go_wp2_with fail
    exact bodyPost_ret (v := numV bx xp (wordsOf (a + b)).length xc) (by simp [results, Tryz.results83, go_sem, numV, r0, r1]) rfl ⟨_, rfl, ⟨_, _, rfl, hx5⟩, hb5⟩
  · obtain rfl : by_ = !bx := by cases bx <;> cases by_ <;> simp_all
    obtain ⟨W3, hW3⟩ : ∃ W3, ((w.alloc (.cells #[.bool bx, .slice p la c] 88)).alloc (.cells #[.bool !bx, .slice q lb d] 88)).alloc (.cells #[.bool false, .slice none 0 0] 88) = W3 := ⟨_, rfl⟩
    have hb3 : Below w.heap.size w W3 := by rw [← hW3]; exact hb2.alloc (by simp; omega) _
    have hz3 : W3.heap.size = w.heap.size + 3 := by rw [← hW3]; simp
    have y0 : W3.cell? ⟨w.heap.size, 0, none⟩ = some (.bool bx) := by rw [← hW3]; simp [go_sem, World.cell?_alloc_past]
    have y1 : W3.cell? ⟨w.heap.size, 1, none⟩ = some (.slice p la c) := by rw [← hW3]; simp [go_sem, World.cell?_alloc_past]
    have y2 : W3.cell? ⟨w.heap.size + 1, 1, none⟩ = some (.slice q lb d) := by rw [← hW3]; simp [go_sem, World.cell?_alloc_past]
    have y3 : W3.cell? ⟨w.heap.size + 1, 0, none⟩ = some (.bool !bx) := by rw [← hW3]; simp [go_sem, World.cell?_alloc_past]
    have z0 : W3.cell? ⟨w.heap.size + 2, 0, none⟩ = some (.bool false) := by rw [← hW3]; simp [go_sem]
    have z1 : W3.cell? ⟨w.heap.size + 2, 1, none⟩ = some (.slice none 0 0) := by rw [← hW3]; simp [go_sem]
    have z2 : W3.frozen? ⟨w.heap.size + 2, 0, none⟩ = false := by rw [← hW3]; simp [go_sem]
    have z3 : W3.frozen? ⟨w.heap.size + 2, 1, none⟩ = false := by rw [← hW3]; simp [go_sem]
    have s0 : w.heap.size < W3.heap.size := by omega
    have s1 : w.heap.size + 1 < W3.heap.size := by omega
    have s2 : w.heap.size + 2 < W3.heap.size := by omega
    clear hb2 c2
    have C1 := c1 W3 hb3
    by_cases hab : a < b
    · rw [show plusB bx (!bx) a b = !bx by unfold plusB; rw [if_neg hs, if_pos hab], show plusN bx (!bx) a b = b - a by unfold plusN; rw [if_neg hs, if_pos hab]]
      have hsg : sgnN a b = -1 := by unfold sgnN; rw [if_pos hab]
      rw [hsg] at C1
      have C4 := c4 (by omega)
      clear c1 c3 c4 hsg
      cases bx
      · go_enter Tryz.func83, Tryz.ntmps83
        first | simp only [Bool.not_false] at hW3 y3 ⊢ | simp only [Bool.not_true] at hW3 y3 ⊢
        go_wp2_with fail
        try rw [hW3]
        refine C1.mono ?_
        rintro e w4 ⟨rfl, hb4⟩
        have hb34 : Below w.heap.size w w4 := hb3.trans (hb4.mono hb3.size)
        have e0 := (hb4.cell (p := ⟨w.heap.size, 0, none⟩) s0).trans y0
        have e1 := (hb4.cell (p := ⟨w.heap.size, 1, none⟩) s0).trans y1
        have e2 := (hb4.cell (p := ⟨w.heap.size + 1, 1, none⟩) s1).trans y2
        have e3 := (hb4.cell (p := ⟨w.heap.size + 1, 0, none⟩) s1).trans y3
        have d0 := (hb4.cell (p := ⟨w.heap.size + 2, 0, none⟩) s2).trans z0
        have d1 := (hb4.cell (p := ⟨w.heap.size + 2, 1, none⟩) s2).trans z1
        have d2 := (hb4.frozen (p := ⟨w.heap.size + 2, 0, none⟩) s2).trans z2
        have d3 := (hb4.frozen (p := ⟨w.heap.size + 2, 1, none⟩) s2).trans z3
        have t0 := Nat.lt_of_lt_of_le s0 hb4.size
        have t1 := Nat.lt_of_lt_of_le s1 hb4.size
        have t2 := Nat.lt_of_lt_of_le s2 hb4.size
        try clear hW3
        clear y0 y1 y2 y3 z0 z1 z2 z3 s0 s1 s2 C1 hb3 hb4 hz3
        go_wp2_with fail
        go_region_held3 (fun w' => w'.cell? ⟨w.heap.size, 0, none⟩ = some (.bool false) ∧ w'.cell? ⟨w.heap.size, 1, none⟩ = some (.slice p la c) ∧ w'.cell? ⟨w.heap.size + 1, 1, none⟩ = some (.slice q lb d) ∧ w'.cell? ⟨w.heap.size + 1, 0, none⟩ = some (.bool true)) (first | exact ⟨(keep2 (by omega)).trans k0, (keep2 (by omega)).trans k1, (keep2 (by omega)).trans k2, (keep2 (by omega)).trans k3⟩ | exact ⟨k0, k1, k2, k3⟩ | exact ⟨e0, e1, e2, e3⟩) (first | (go_at_call 140; refine (C4 _ (by first | exact hb34 | exact hb34.drew)).mono ?_; rintro e w5 ⟨x, rfl, hx, hb5⟩; have hb5 : Below w4.heap.size w4 w5 := (by first | exact hb5 | exact (Below.refl _ w4).drew.trans hb5); obtain ⟨xp, xc, rfl⟩ := hx.shape; have v0 := (hb5.cell (p := ⟨w.heap.size + 2, 0, none⟩) t2).trans d0; have v1 := (hb5.cell (p := ⟨w.heap.size + 2, 1, none⟩) t2).trans d1; have v2 := (hb5.frozen (p := ⟨w.heap.size + 2, 0, none⟩) t2).trans d2; have v3 := (hb5.frozen (p := ⟨w.heap.size + 2, 1, none⟩) t2).trans d3; have k0 := (hb5.cell (p := ⟨w.heap.size, 0, none⟩) t0).trans e0; have k1 := (hb5.cell (p := ⟨w.heap.size, 1, none⟩) t0).trans e1; have k2 := (hb5.cell (p := ⟨w.heap.size + 1, 1, none⟩) t1).trans e2; have k3 := (hb5.cell (p := ⟨w.heap.size + 1, 0, none⟩) t1).trans e3))
        obtain ⟨W5, hW5, r0, r1, hb6, hx5⟩ := num_store (below := true) hb34 hb5 (show w.heap.size ≤ w.heap.size + 1 + 1 by omega) hx v0 v1
        rw [hW5]
        clear hW5
        go_wp2_with fail
        exact bodyPost_ret (v := numV true xp (wordsOf (b - a)).length xc) (by simp [results, Tryz.results83, go_sem, numV, r0, r1]) rfl ⟨_, rfl, ⟨_, _, rfl, hx5⟩, hb6⟩
      · go_enter Tryz.func83, Tryz.ntmps83
        first | simp only [Bool.not_false] at hW3 y3 ⊢ | simp only [Bool.not_true] at hW3 y3 ⊢
        go_wp2_with fail
        try rw [hW3]
        refine C1.mono ?_
        rintro e w4 ⟨rfl, hb4⟩
        have hb34 : Below w.heap.size w w4 := hb3.trans (hb4.mono hb3.size)
        have e0 := (hb4.cell (p := ⟨w.heap.size, 0, none⟩) s0).trans y0
        have e1 := (hb4.cell (p := ⟨w.heap.size, 1, none⟩) s0).trans y1
        have e2 := (hb4.cell (p := ⟨w.heap.size + 1, 1, none⟩) s1).trans y2
        have e3 := (hb4.cell (p := ⟨w.heap.size + 1, 0, none⟩) s1).trans y3
        have d0 := (hb4.cell (p := ⟨w.heap.size + 2, 0, none⟩) s2).trans z0
        have d1 := (hb4.cell (p := ⟨w.heap.size + 2, 1, none⟩) s2).trans z1
        have d2 := (hb4.frozen (p := ⟨w.heap.size + 2, 0, none⟩) s2).trans z2
        have d3 := (hb4.frozen (p := ⟨w.heap.size + 2, 1, none⟩) s2).trans z3
        have t0 := Nat.lt_of_lt_of_le s0 hb4.size
        have t1 := Nat.lt_of_lt_of_le s1 hb4.size
        have t2 := Nat.lt_of_lt_of_le s2 hb4.size
        try clear hW3
        clear y0 y1 y2 y3 z0 z1 z2 z3 s0 s1 s2 C1 hb3 hb4 hz3
        go_wp2_with fail
        go_region_held3 (fun w' => w'.cell? ⟨w.heap.size, 0, none⟩ = some (.bool true) ∧ w'.cell? ⟨w.heap.size, 1, none⟩ = some (.slice p la c) ∧ w'.cell? ⟨w.heap.size + 1, 1, none⟩ = some (.slice q lb d) ∧ w'.cell? ⟨w.heap.size + 1, 0, none⟩ = some (.bool false)) (first | exact ⟨(keep2 (by omega)).trans k0, (keep2 (by omega)).trans k1, (keep2 (by omega)).trans k2, (keep2 (by omega)).trans k3⟩ | exact ⟨k0, k1, k2, k3⟩ | exact ⟨e0, e1, e2, e3⟩) (first | (go_at_call 140; refine (C4 _ (by first | exact hb34 | exact hb34.drew)).mono ?_; rintro e w5 ⟨x, rfl, hx, hb5⟩; have hb5 : Below w4.heap.size w4 w5 := (by first | exact hb5 | exact (Below.refl _ w4).drew.trans hb5); obtain ⟨xp, xc, rfl⟩ := hx.shape; have v0 := (hb5.cell (p := ⟨w.heap.size + 2, 0, none⟩) t2).trans d0; have v1 := (hb5.cell (p := ⟨w.heap.size + 2, 1, none⟩) t2).trans d1; have v2 := (hb5.frozen (p := ⟨w.heap.size + 2, 0, none⟩) t2).trans d2; have v3 := (hb5.frozen (p := ⟨w.heap.size + 2, 1, none⟩) t2).trans d3; have k0 := (hb5.cell (p := ⟨w.heap.size, 0, none⟩) t0).trans e0; have k1 := (hb5.cell (p := ⟨w.heap.size, 1, none⟩) t0).trans e1; have k2 := (hb5.cell (p := ⟨w.heap.size + 1, 1, none⟩) t1).trans e2; have k3 := (hb5.cell (p := ⟨w.heap.size + 1, 0, none⟩) t1).trans e3))
        obtain ⟨W5, hW5, r0, r1, hb6, hx5⟩ := num_store (below := false) hb34 hb5 (show w.heap.size ≤ w.heap.size + 1 + 1 by omega) hx v0 v1
        rw [hW5]
        clear hW5
        go_wp2_with fail
        exact bodyPost_ret (v := numV false xp (wordsOf (b - a)).length xc) (by simp [results, Tryz.results83, go_sem, numV, r0, r1]) rfl ⟨_, rfl, ⟨_, _, rfl, hx5⟩, hb6⟩
    · rw [show plusB bx (!bx) a b = bx by unfold plusB; rw [if_neg hs, if_neg hab], show plusN bx (!bx) a b = a - b by unfold plusN; rw [if_neg hs, if_neg hab]]
      obtain ⟨Z, hZ⟩ : ∃ Z, sgnN a b = Z := ⟨_, rfl⟩
      have hz0 : ¬ Z < 0 := by rw [← hZ]; unfold sgnN; rw [if_neg hab]; split <;> omega
      rw [hZ] at C1
      have C4 := c3 (by omega)
      clear c1 c3 c4 hZ
      cases bx
      · go_enter Tryz.func83, Tryz.ntmps83
        first | simp only [Bool.not_false] at hW3 y3 ⊢ | simp only [Bool.not_true] at hW3 y3 ⊢
        go_wp2_with fail
        try rw [hW3]
        refine C1.mono ?_
        rintro e w4 ⟨rfl, hb4⟩
        have hb34 : Below w.heap.size w w4 := hb3.trans (hb4.mono hb3.size)
        have e0 := (hb4.cell (p := ⟨w.heap.size, 0, none⟩) s0).trans y0
        have e1 := (hb4.cell (p := ⟨w.heap.size, 1, none⟩) s0).trans y1
        have e2 := (hb4.cell (p := ⟨w.heap.size + 1, 1, none⟩) s1).trans y2
        have e3 := (hb4.cell (p := ⟨w.heap.size + 1, 0, none⟩) s1).trans y3
        have d0 := (hb4.cell (p := ⟨w.heap.size + 2, 0, none⟩) s2).trans z0
        have d1 := (hb4.cell (p := ⟨w.heap.size + 2, 1, none⟩) s2).trans z1
        have d2 := (hb4.frozen (p := ⟨w.heap.size + 2, 0, none⟩) s2).trans z2
        have d3 := (hb4.frozen (p := ⟨w.heap.size + 2, 1, none⟩) s2).trans z3
        have t0 := Nat.lt_of_lt_of_le s0 hb4.size
        have t1 := Nat.lt_of_lt_of_le s1 hb4.size
        have t2 := Nat.lt_of_lt_of_le s2 hb4.size
        try clear hW3
        clear y0 y1 y2 y3 z0 z1 z2 z3 s0 s1 s2 C1 hb3 hb4 hz3
        go_wp2_with fail
        go_region_held3 (fun w' => w'.cell? ⟨w.heap.size, 0, none⟩ = some (.bool false) ∧ w'.cell? ⟨w.heap.size, 1, none⟩ = some (.slice p la c) ∧ w'.cell? ⟨w.heap.size + 1, 1, none⟩ = some (.slice q lb d) ∧ w'.cell? ⟨w.heap.size + 1, 0, none⟩ = some (.bool true)) (first | exact ⟨(keep2 (by omega)).trans k0, (keep2 (by omega)).trans k1, (keep2 (by omega)).trans k2, (keep2 (by omega)).trans k3⟩ | exact ⟨k0, k1, k2, k3⟩ | exact ⟨e0, e1, e2, e3⟩) (first | (go_at_call 140; refine (C4 _ (by first | exact hb34 | exact hb34.drew)).mono ?_; rintro e w5 ⟨x, rfl, hx, hb5⟩; have hb5 : Below w4.heap.size w4 w5 := (by first | exact hb5 | exact (Below.refl _ w4).drew.trans hb5); obtain ⟨xp, xc, rfl⟩ := hx.shape; have v0 := (hb5.cell (p := ⟨w.heap.size + 2, 0, none⟩) t2).trans d0; have v1 := (hb5.cell (p := ⟨w.heap.size + 2, 1, none⟩) t2).trans d1; have v2 := (hb5.frozen (p := ⟨w.heap.size + 2, 0, none⟩) t2).trans d2; have v3 := (hb5.frozen (p := ⟨w.heap.size + 2, 1, none⟩) t2).trans d3; have k0 := (hb5.cell (p := ⟨w.heap.size, 0, none⟩) t0).trans e0; have k1 := (hb5.cell (p := ⟨w.heap.size, 1, none⟩) t0).trans e1; have k2 := (hb5.cell (p := ⟨w.heap.size + 1, 1, none⟩) t1).trans e2; have k3 := (hb5.cell (p := ⟨w.heap.size + 1, 0, none⟩) t1).trans e3))
        obtain ⟨W5, hW5, r0, r1, hb6, hx5⟩ := num_store (below := false) hb34 hb5 (show w.heap.size ≤ w.heap.size + 1 + 1 by omega) hx v0 v1
        rw [hW5]
        clear hW5
        go_wp2_with fail
        exact bodyPost_ret (v := numV false xp (wordsOf (a - b)).length xc) (by simp [results, Tryz.results83, go_sem, numV, r0, r1]) rfl ⟨_, rfl, ⟨_, _, rfl, hx5⟩, hb6⟩
      · go_enter Tryz.func83, Tryz.ntmps83
        first | simp only [Bool.not_false] at hW3 y3 ⊢ | simp only [Bool.not_true] at hW3 y3 ⊢
        go_wp2_with fail
        try rw [hW3]
        refine C1.mono ?_
        rintro e w4 ⟨rfl, hb4⟩
        have hb34 : Below w.heap.size w w4 := hb3.trans (hb4.mono hb3.size)
        have e0 := (hb4.cell (p := ⟨w.heap.size, 0, none⟩) s0).trans y0
        have e1 := (hb4.cell (p := ⟨w.heap.size, 1, none⟩) s0).trans y1
        have e2 := (hb4.cell (p := ⟨w.heap.size + 1, 1, none⟩) s1).trans y2
        have e3 := (hb4.cell (p := ⟨w.heap.size + 1, 0, none⟩) s1).trans y3
        have d0 := (hb4.cell (p := ⟨w.heap.size + 2, 0, none⟩) s2).trans z0
        have d1 := (hb4.cell (p := ⟨w.heap.size + 2, 1, none⟩) s2).trans z1
        have d2 := (hb4.frozen (p := ⟨w.heap.size + 2, 0, none⟩) s2).trans z2
        have d3 := (hb4.frozen (p := ⟨w.heap.size + 2, 1, none⟩) s2).trans z3
        have t0 := Nat.lt_of_lt_of_le s0 hb4.size
        have t1 := Nat.lt_of_lt_of_le s1 hb4.size
        have t2 := Nat.lt_of_lt_of_le s2 hb4.size
        try clear hW3
        clear y0 y1 y2 y3 z0 z1 z2 z3 s0 s1 s2 C1 hb3 hb4 hz3
        go_wp2_with fail
        go_region_held3 (fun w' => w'.cell? ⟨w.heap.size, 0, none⟩ = some (.bool true) ∧ w'.cell? ⟨w.heap.size, 1, none⟩ = some (.slice p la c) ∧ w'.cell? ⟨w.heap.size + 1, 1, none⟩ = some (.slice q lb d) ∧ w'.cell? ⟨w.heap.size + 1, 0, none⟩ = some (.bool false)) (first | exact ⟨(keep2 (by omega)).trans k0, (keep2 (by omega)).trans k1, (keep2 (by omega)).trans k2, (keep2 (by omega)).trans k3⟩ | exact ⟨k0, k1, k2, k3⟩ | exact ⟨e0, e1, e2, e3⟩) (first | (go_at_call 140; refine (C4 _ (by first | exact hb34 | exact hb34.drew)).mono ?_; rintro e w5 ⟨x, rfl, hx, hb5⟩; have hb5 : Below w4.heap.size w4 w5 := (by first | exact hb5 | exact (Below.refl _ w4).drew.trans hb5); obtain ⟨xp, xc, rfl⟩ := hx.shape; have v0 := (hb5.cell (p := ⟨w.heap.size + 2, 0, none⟩) t2).trans d0; have v1 := (hb5.cell (p := ⟨w.heap.size + 2, 1, none⟩) t2).trans d1; have v2 := (hb5.frozen (p := ⟨w.heap.size + 2, 0, none⟩) t2).trans d2; have v3 := (hb5.frozen (p := ⟨w.heap.size + 2, 1, none⟩) t2).trans d3; have k0 := (hb5.cell (p := ⟨w.heap.size, 0, none⟩) t0).trans e0; have k1 := (hb5.cell (p := ⟨w.heap.size, 1, none⟩) t0).trans e1; have k2 := (hb5.cell (p := ⟨w.heap.size + 1, 1, none⟩) t1).trans e2; have k3 := (hb5.cell (p := ⟨w.heap.size + 1, 0, none⟩) t1).trans e3))
        obtain ⟨W5, hW5, r0, r1, hb6, hx5⟩ := num_store (below := true) hb34 hb5 (show w.heap.size ≤ w.heap.size + 1 + 1 by omega) hx v0 v1
        rw [hW5]
        clear hW5
        go_wp2_with fail
        exact bodyPost_ret (v := numV true xp (wordsOf (a - b)).length xc) (by simp [results, Tryz.results83, go_sem, numV, r0, r1]) rfl ⟨_, rfl, ⟨_, _, rfl, hx5⟩, hb6⟩
end Go.Proofs.YtgmnjghbafbopaaGreatDoor

/- Numbers in variables. -/
import Derived.Test.YtgmnjghbafbopaaGreatDoorMNuOperand
namespace Go.Proofs.YtgmnjghbafbopaaGreatDoor
open Go.RowKit Go.Lib

/-- A number in its variable's two cells. -/
structure VarAt (W : World) (B : Nat) (b : Bool) (p : Option Addr) (l c : Nat) : Prop where
  c0 : W.cell? ⟨B, 0, none⟩ = some (.bool b)
  c1 : W.cell? ⟨B, 1, none⟩ = some (.slice p l c)
  f0 : W.frozen? ⟨B, 0, none⟩ = false
  f1 : W.frozen? ⟨B, 1, none⟩ = false
  lt : B < W.heap.size
theorem VarAt.other {W W' : World} {B : Nat} {b : Bool} {p : Option Addr} {l c : Nat} (h : VarAt W B b p l c) (hk : W'.heap[B]? = W.heap[B]?) (hs : W.heap.size ≤ W'.heap.size) : VarAt W' B b p l c :=
  ⟨(World.cell?_of_block (a := ⟨B, 0, none⟩) hk).trans h.c0, (World.cell?_of_block (a := ⟨B, 1, none⟩) hk).trans h.c1, (World.frozen?_of_block (a := ⟨B, 0, none⟩) hk).trans h.f0, (World.frozen?_of_block (a := ⟨B, 1, none⟩) hk).trans h.f1, Nat.lt_of_lt_of_le h.lt hs⟩
theorem VarAt.below {W W' : World} {B : Nat} {b : Bool} {p : Option Addr} {l c : Nat} (h : VarAt W B b p l c) (hb : Below W.heap.size W W') : VarAt W' B b p l c :=
  h.other (hb.block B h.lt) hb.size
theorem VarAt.drew {W : World} {B : Nat} {b : Bool} {p : Option Addr} {l c : Nat} (h : VarAt W B b p l c) : VarAt W.drew B b p l c := h.other rfl (Nat.le_refl _)
theorem VarAt.new (w : World) (b : Bool) (p : Option Addr) (l c : Nat) : VarAt (w.alloc (.cells #[.bool b, .slice p l c] 88)) w.heap.size b p l c :=
  ⟨by simp [go_sem], by simp [go_sem], by simp [go_sem], by simp [go_sem], by simp⟩
/-- What a store into it leaves. -/
structure Stored (W W5 : World) (B : Nat) : Prop where
  size : W5.heap.size = W.heap.size
  other : ∀ k, k ≠ B → W5.heap[k]? = W.heap[k]?
  nats : ∀ v l, Nats W v l → Nats W5 v l
  below : ∀ {B0 : Nat} {w0 : World}, Below B0 w0 W → B0 ≤ B → Below B0 w0 W5
theorem VarAt.set {W : World} {B : Nat} {b : Bool} {p : Option Addr} {l c : Nat} (h : VarAt W B b p l c) (b' : Bool) (p' : Option Addr) (l' c' : Nat) :
    ∃ W5, (W.setCell ⟨B, 0, none⟩ (.bool b')).setCell ⟨B, 1, none⟩ (.slice p' l' c') = W5 ∧ VarAt W5 B b' p' l' c' ∧ Stored W W5 B := by
  have v1' : (W.setCell ⟨B, 0, none⟩ (.bool b')).cell? ⟨B, 1, none⟩ = some (.slice p l c) := (World.cell?_setCell_other _ _ _ _ (by simp)).trans h.c1
  refine ⟨_, rfl, ⟨(World.cell?_setCell_other _ _ _ _ (by simp)).trans (World.cell?_setCell_same _ _ _ h.c0), World.cell?_setCell_same _ _ _ v1', by simpa using h.f0, by simpa using h.f1, by simpa [World.setCell] using h.lt⟩, ⟨by simp [World.setCell], fun k hk => ?_, fun v l hn => ?_, fun hb hB => ?_⟩⟩
  · exact (Below.heap_setCell _ _ _ _ hk).trans (Below.heap_setCell _ _ _ _ hk)
  · exact (hn.setCell _ h.c0 (by simp)).setCell _ v1' (by simp)
  · exact (hb.setCell (p := ⟨B, 0, none⟩) hB _).setCell (p := ⟨B, 1, none⟩) hB _
theorem Stored.var {W W5 : World} {B B' : Nat} (h : Stored W W5 B) (hne : B' ≠ B) {b : Bool} {p : Option Addr} {l c : Nat} (k : VarAt W B' b p l c) : VarAt W5 B' b p l c := k.other (h.other B' hne) (Nat.le_of_eq h.size.symm)

/-- What operands gives: two numbers, or an error. -/
def TwoG (w' : World) (a b : List UInt8) (v1 v2 : Value) (z : Int) : Prop :=
  (z = 0 ∧ ∃ bx x by_ y, canonL a = some (bx, x) ∧ canonL b = some (by_, y) ∧ NumAt w' v1 bx x ∧ NumAt w' v2 by_ y) ∨
  (z = 1 ∧ (canonL a = none ∨ canonL b = none) ∧ (∃ b p l c, v1 = numV b p l c) ∧ ∃ b p l c, v2 = numV b p l c)
set_option maxRecDepth 100000 in
set_option maxHeartbeats 8000000 in
theorem operands_any (a b : ByteArray) (ha : a.size < 4294967281) (hb : b.size < 4294967281) (w : World) (hg : GrN w) :
    Calls Tryz.prog 73 #[.string a, .string b] w fun e w' => ∃ v1 v2 z, e = .returned (.tuple #[v1, v2, .int .i64 z]) ∧ TwoG w' a.data.toList b.data.toList v1 v2 z ∧ Below w.heap.size w w' := by
  have hb0 : Below w.heap.size w ((w.alloc (.cells #[.bool false, .slice none 0 0] 88)).alloc (.cells #[.bool false, .slice none 0 0] 88)) := ((Below.refl _ w).alloc (Nat.le_refl _) _).alloc (by simp) _
  have vB : VarAt ((w.alloc (.cells #[.bool false, .slice none 0 0] 88)).alloc (.cells #[.bool false, .slice none 0 0] 88)) w.heap.size false none 0 0 := (VarAt.new w _ _ _ _).below ((Below.refl _ _).alloc (Nat.le_refl _) _)
  have vC : VarAt ((w.alloc (.cells #[.bool false, .slice none 0 0] 88)).alloc (.cells #[.bool false, .slice none 0 0] 88)) (w.heap.size + 1) false none 0 0 := by
    have := VarAt.new (w.alloc (.cells #[.bool false, .slice none 0 0] 88)) false none 0 0
    rwa [World.size_alloc] at this
  obtain ⟨W0, hW0⟩ : ∃ W0, (w.alloc (.cells #[.bool false, .slice none 0 0] 88)).alloc (.cells #[.bool false, .slice none 0 0] 88) = W0 := ⟨_, rfl⟩
  rw [hW0] at hb0 vB vC
  have cA := operand_any a ha W0 (hg.later hb0)
  have cB := fun W (hW : Below w.heap.size w W) => operand_any b hb W (hg.later hW)
  have HV := Lib.hid (And.intro vB vC)
  clear vB vC
  go_enter Tryz.func73, Tryz.ntmps73
  go_wp2_with fail
  try rw [hW0]
  clear hW0
  refine cA.mono ?_
  rintro e w1 ⟨v1, z1, rfl, hv1, hb1⟩
  obtain ⟨vB, vC⟩ := HV.out
  have vB1 := vB.below hb1
  have vC1 := vC.below hb1
  have hbw1 := hb0.trans (hb1.mono hb0.size)
  clear vB vC HV hb1 cA
  rcases hv1.err with ⟨rfl, bx, x, hcx, ⟨p1, c1, rfl, hN1⟩⟩ | ⟨rfl, hcx, rfl⟩
  · obtain ⟨W2, hW2, kB, kS⟩ := vB1.set bx p1 (wordsOf x).length c1
    have kC := kS.var (by omega) vC1
    have hbw2 := kS.below hbw1 (Nat.le_refl _)
    have hN2 := kS.nats _ _ hN1
    have cB2 := cB W2 hbw2
    obtain ⟨c0, c1', f0, f1, hl0⟩ := id vB1
    have HW2 := Lib.hid hW2
    have HCX := Lib.hid hcx
    clear vB1 vC1 kS hbw1 hN1 cB hv1 hW2 hcx
    unfold numV
    go_wp2_with fail
    rw [HW2.out]
    clear c0 c1' f0 f1 hl0
    refine cB2.mono ?_
    rintro e w3 ⟨v2, z2, rfl, hv2, hb3⟩
    have kB3 := kB.below hb3
    have kC3 := kC.below hb3
    have hbw3 := hbw2.trans (hb3.mono hbw2.size)
    have hN3 := hN2.later hb3
    obtain ⟨by_, p2, l2, c2, hv2e⟩ := hv2.shape
    subst hv2e
    obtain ⟨W4, hW4, jC, jS⟩ := kC3.set by_ p2 l2 c2
    have hvB := jS.var (by omega) kB3
    have hvC := jC
    have hbw4 := jS.below hbw3 (by omega)
    have hN4 := jS.nats _ _ hN3
    have HS := Lib.hid (And.intro hv2 jS)
    obtain ⟨c0, c1', f0, f1, hl0⟩ := id kC3
    have HW4 := Lib.hid hW4
    clear kB kC hbw2 hN2 hb3 kB3 kC3 hbw3 hN3 hv2 jS jC hW4 cB2
    unfold numV
    go_wp2_with fail
    rw [HW4.out]
    clear c0 c1' f0 f1 hl0
    obtain ⟨X1, hX1, k1, k2⟩ := hvB.set bx p1 (wordsOf x).length c1
    obtain ⟨X2, hX2, k3, k4⟩ := (k2.var (B' := w.heap.size + 1) (by omega) hvC).set by_ p2 l2 c2
    have k5 := k4.var (B' := w.heap.size) (by omega) k1
    have HX := Lib.hid (And.intro hX1 hX2)
    have HK := Lib.hid (And.intro k2 (And.intro k3 (And.intro k4 k5)))
    clear hX1 hX2 k1 k2 k3 k4 k5
    obtain ⟨c0, c1', f0, f1, hl0⟩ := id hvB
    obtain ⟨d0, d1, g0, g1, hl1⟩ := id hvC
    have HB := Lib.hid (And.intro hvB hvC)
    clear hvB hvC
    go_region
    all_goals
      go_wp2_with fail
      rw [HX.out.1, HX.out.2]
      obtain ⟨k2, k3, k4, k5⟩ := HK.out
      have j := k5.drew
      have j' := k3.drew
      refine bodyPost_ret (v := .tuple #[numV bx p1 (wordsOf x).length c1, numV by_ p2 l2 c2, .int .i64 z2]) (by simp [results, Tryz.results73, go_sem, numV, j.c0, j.c1, j'.c0, j'.c1]) rfl ⟨_, _, _, rfl, ?_, ((k4.below (k2.below hbw4 (Nat.le_refl _)) (by omega)) : Below w.heap.size w X2).drew⟩
      have hnn : ∀ v l, Nats W4 v l → Nats X2.drew v l := fun v l h => (k4.nats _ _ (k2.nats _ _ h)).later (Below.refl _ _).drew
      obtain ⟨hv2, jS⟩ := HS.out
      rcases hv2.err with ⟨rfl, b2, y, hcy, ⟨q2, d2, he, hNy⟩⟩ | ⟨rfl, hcy, _⟩
      · unfold numV at he
        obtain ⟨rfl, rfl, rfl, rfl⟩ : by_ = b2 ∧ p2 = q2 ∧ l2 = (wordsOf y).length ∧ c2 = d2 := by simpa using he
        exact .inl ⟨rfl, _, _, _, _, HCX.out, hcy, ⟨_, _, rfl, hnn _ _ hN4⟩, ⟨_, _, rfl, hnn _ _ (jS.nats _ _ hNy)⟩⟩
      · exact .inr ⟨rfl, .inr hcy, ⟨_, _, _, _, rfl⟩, ⟨_, _, _, _, rfl⟩⟩
  · obtain ⟨W4, hW4, kB, kS⟩ := vB1.set false none 0 0
    have kC := kS.var (by omega) vC1
    have hbw4 := kS.below hbw1 (Nat.le_refl _)
    have hvB := kB
    have hvC := kC
    obtain ⟨c0, c1', f0, f1, hl0⟩ := id vB1
    have HW4 := Lib.hid hW4
    have HCX := Lib.hid hcx
    clear vB1 vC1 kS hbw1 hv1 hW4 hcx cB kB kC
    unfold numV
    go_wp2_with fail
    rw [HW4.out]
    clear c0 c1' f0 f1 hl0
    obtain ⟨X1, hX1, k1, k2⟩ := hvB.set false none 0 0
    obtain ⟨X2, hX2, k3, k4⟩ := (k2.var (B' := w.heap.size + 1) (by omega) hvC).set false none 0 0
    have k5 := k4.var (B' := w.heap.size) (by omega) k1
    have HX := Lib.hid (And.intro hX1 hX2)
    have HK := Lib.hid (And.intro k2 (And.intro k3 (And.intro k4 k5)))
    clear hX1 hX2 k1 k2 k3 k4 k5
    obtain ⟨c0, c1', f0, f1, hl0⟩ := id hvB
    obtain ⟨d0, d1, g0, g1, hl1⟩ := id hvC
    have HB := Lib.hid (And.intro hvB hvC)
    clear hvB hvC
    go_region
    all_goals
      go_wp2_with fail
      rw [HX.out.1, HX.out.2]
      obtain ⟨k2, k3, k4, k5⟩ := HK.out
      have j := k5.drew
      have j' := k3.drew
      refine bodyPost_ret (v := .tuple #[numV false none 0 0, numV false none 0 0, .int .i64 1]) (by simp [results, Tryz.results73, go_sem, numV, j.c0, j.c1, j'.c0, j'.c1]) rfl ⟨_, _, _, rfl, ?_, ((k4.below (k2.below hbw4 (Nat.le_refl _)) (by omega)) : Below w.heap.size w X2).drew⟩
      exact .inr ⟨rfl, .inl HCX.out, ⟨_, _, _, _, rfl⟩, ⟨_, _, _, _, rfl⟩⟩

/-- What divisible gives. -/
def DivG (w' : World) (a b : List UInt8) (v1 v2 : Value) (z : Int) : Prop :=
  (z = 0 ∧ ∃ bx x by_ y, canonL a = some (bx, x) ∧ canonL b = some (by_, y) ∧ y ≠ 0 ∧ NumAt w' v1 bx x ∧ NumAt w' v2 by_ y) ∨
  ((∃ b p l c, v1 = numV b p l c) ∧ (∃ b p l c, v2 = numV b p l c) ∧ ((z = 1 ∧ (canonL a = none ∨ canonL b = none)) ∨ (z = 41 ∧ ∃ bx x by_, canonL a = some (bx, x) ∧ canonL b = some (by_, 0))))
set_option maxRecDepth 100000 in
set_option maxHeartbeats 8000000 in
theorem divisible_any (a b : ByteArray) (ha : a.size < 4294967281) (hb : b.size < 4294967281) (w : World) (hg : GrN w) :
    Calls Tryz.prog 91 #[.string a, .string b] w fun e w' => ∃ v1 v2 z, e = .returned (.tuple #[v1, v2, .int .i64 z]) ∧ DivG w' a.data.toList b.data.toList v1 v2 z ∧ Below w.heap.size w w' := by
  have hb0 : Below w.heap.size w ((w.alloc (.cells #[.bool false, .slice none 0 0] 88)).alloc (.cells #[.bool false, .slice none 0 0] 88)) := ((Below.refl _ w).alloc (Nat.le_refl _) _).alloc (by simp) _
  have vB : VarAt ((w.alloc (.cells #[.bool false, .slice none 0 0] 88)).alloc (.cells #[.bool false, .slice none 0 0] 88)) w.heap.size false none 0 0 := (VarAt.new w _ _ _ _).below ((Below.refl _ _).alloc (Nat.le_refl _) _)
  have vC : VarAt ((w.alloc (.cells #[.bool false, .slice none 0 0] 88)).alloc (.cells #[.bool false, .slice none 0 0] 88)) (w.heap.size + 1) false none 0 0 := by
    have := VarAt.new (w.alloc (.cells #[.bool false, .slice none 0 0] 88)) false none 0 0
    rwa [World.size_alloc] at this
  obtain ⟨W0, hW0⟩ : ∃ W0, (w.alloc (.cells #[.bool false, .slice none 0 0] 88)).alloc (.cells #[.bool false, .slice none 0 0] 88) = W0 := ⟨_, rfl⟩
  rw [hW0] at hb0 vB vC
  have cA := operands_any a b ha hb W0 (hg.later hb0)
  have HV := Lib.hid (And.intro vB vC)
  clear vB vC
  go_enter Tryz.func91, Tryz.ntmps91
  go_wp2_with fail
  try rw [hW0]
  clear hW0
  refine cA.mono ?_
  rintro e w1 ⟨v1, v2, z1, rfl, hv1, hb1⟩
  obtain ⟨vB, vC⟩ := HV.out
  have vB1 := vB.below hb1
  have vC1 := vC.below hb1
  have hbw1 := hb0.trans (hb1.mono hb0.size)
  clear vB vC HV hb1 cA
  obtain ⟨⟨bx, p1, l1, c1, e1⟩, ⟨by_, p2, l2, c2, e2⟩⟩ : (∃ b p l c, v1 = numV b p l c) ∧ (∃ b p l c, v2 = numV b p l c) := by
    rcases hv1 with ⟨_, _, _, _, _, _, _, h1, h2⟩ | ⟨_, _, h1, h2⟩
    · obtain ⟨p, l, c, e⟩ := num_shape h1
      obtain ⟨p', l', c', e'⟩ := num_shape h2
      exact ⟨⟨_, p, l, c, e⟩, ⟨_, p', l', c', e'⟩⟩
    · exact ⟨h1, h2⟩
  subst e1
  subst e2
  obtain ⟨W2, hW2, kB, kS⟩ := vB1.set bx p1 l1 c1
  have kC := kS.var (B' := w.heap.size + 1) (by omega) vC1
  obtain ⟨W4, hW4, jC, jS⟩ := kC.set by_ p2 l2 c2
  have hvB := jS.var (B' := w.heap.size) (by omega) kB
  have hvC := jC
  have hbw4 := jS.below (kS.below hbw1 (Nat.le_refl _)) (by omega)
  have hnn4 : ∀ v l, Nats w1 v l → Nats W4 v l := fun v l h => jS.nats _ _ (kS.nats _ _ h)
  obtain ⟨c0, c1', f0, f1, hl0⟩ := id vB1
  obtain ⟨d0, d1, g0, g1, hl1⟩ := id vC1
  have HW := Lib.hid (And.intro hW2 hW4)
  have HN := Lib.hid (And.intro hv1 hnn4)
  rcases Classical.em (z1 = 0) with rfl | hz
  · by_cases hl : l2 = 0
    · subst hl
      have hC := hvC.c1
      clear vB1 vC1 kS hbw1 hv1 hW2 hW4 kB kC jC jS hnn4
      unfold numV
      go_wp2_with fail
      rw [HW.out.1, HW.out.2]
      clear c0 c1' f0 f1 hl0 d0 d1 g0 g1 hl1
      obtain ⟨X1, hX1, k1, k2⟩ := hvB.set bx p1 l1 c1
      obtain ⟨X2, hX2, k3, k4⟩ := (k2.var (B' := w.heap.size + 1) (by omega) hvC).set by_ p2 0 c2
      have k5 := k4.var (B' := w.heap.size) (by omega) k1
      have HX := Lib.hid (And.intro hX1 hX2)
      have HK := Lib.hid (And.intro k2 (And.intro k3 (And.intro k4 k5)))
      clear hX1 hX2 k1 k2 k3 k4 k5
      obtain ⟨c0, c1', f0, f1, hl0⟩ := id hvB
      obtain ⟨d0, d1, g0, g1, hl1⟩ := id hvC
      have HB := Lib.hid (And.intro hvB hvC)
      clear hvB hvC
      go_region
      all_goals
        go_wp2_with fail
        rw [HX.out.1, HX.out.2]
        obtain ⟨k2, k3, k4, k5⟩ := HK.out
        have j := k5.drew
        have j' := k3.drew
        refine bodyPost_ret (v := .tuple #[numV bx p1 l1 c1, numV by_ p2 0 c2, .int .i64 41]) (by simp [results, Tryz.results91, go_sem, numV, j.c0, j.c1, j'.c0, j'.c1]) rfl ⟨_, _, _, rfl, ?_, ((k4.below (k2.below hbw4 (Nat.le_refl _)) (by omega)) : Below w.heap.size w X2).drew⟩
        obtain ⟨hv1, hnn4⟩ := HN.out
        rcases hv1 with ⟨_, b1, x, b2, y, hcx, hcy, _, ⟨q2, e2, he2, _⟩⟩ | ⟨h, _⟩
        · unfold numV at he2
          obtain ⟨_, _, h0, _⟩ : by_ = b2 ∧ p2 = q2 ∧ 0 = (wordsOf y).length ∧ c2 = e2 := by simpa using he2
          have hy0 : y = 0 := (wordsOf_nil y).1 (List.eq_nil_of_length_eq_zero h0.symm)
          subst hy0
          exact .inr ⟨⟨_, _, _, _, rfl⟩, ⟨_, _, _, _, rfl⟩, .inr ⟨rfl, _, _, _, hcx, hcy⟩⟩
        · cases h
    · have hlz : ((l2 : Int) == 0) = false := by rw [beq_eq_false_iff_ne]; omega
      have hlz2 : ¬ (l2 : Int) = 0 := by omega
      have hC := hvC.c1
      clear vB1 vC1 kS hbw1 hv1 hW2 hW4 kB kC jC jS hnn4
      unfold numV
      go_wp2_with fail
      rw [HW.out.1, HW.out.2]
      clear c0 c1' f0 f1 hl0 d0 d1 g0 g1 hl1
      obtain ⟨X1, hX1, k1, k2⟩ := hvB.set bx p1 l1 c1
      obtain ⟨X2, hX2, k3, k4⟩ := (k2.var (B' := w.heap.size + 1) (by omega) hvC).set by_ p2 l2 c2
      have k5 := k4.var (B' := w.heap.size) (by omega) k1
      have HX := Lib.hid (And.intro hX1 hX2)
      have HK := Lib.hid (And.intro k2 (And.intro k3 (And.intro k4 k5)))
      clear hX1 hX2 k1 k2 k3 k4 k5
      obtain ⟨c0, c1', f0, f1, hl0⟩ := id hvB
      obtain ⟨d0, d1, g0, g1, hl1⟩ := id hvC
      have HB := Lib.hid (And.intro hvB hvC)
      clear hvB hvC
      go_region
      all_goals
        go_wp2_with fail
        rw [HX.out.1, HX.out.2]
        obtain ⟨k2, k3, k4, k5⟩ := HK.out
        have j := k5.drew
        have j' := k3.drew
        refine bodyPost_ret (v := .tuple #[numV bx p1 l1 c1, numV by_ p2 l2 c2, .int .i64 0]) (by simp [results, Tryz.results91, go_sem, numV, j.c0, j.c1, j'.c0, j'.c1]) rfl ⟨_, _, _, rfl, ?_, ((k4.below (k2.below hbw4 (Nat.le_refl _)) (by omega)) : Below w.heap.size w X2).drew⟩
        have hnn : ∀ v l, Nats W4 v l → Nats X2.drew v l := fun v l h => (k4.nats _ _ (k2.nats _ _ h)).later (Below.refl _ _).drew
        obtain ⟨hv1, hnn4⟩ := HN.out
        rcases hv1 with ⟨_, b1, x, b2, y, hcx, hcy, ⟨q1, e1, he1, hNx⟩, ⟨q2, e2, he2, hNy⟩⟩ | ⟨h, _⟩
        · unfold numV at he1 he2
          obtain ⟨rfl, rfl, rfl, rfl⟩ : bx = b1 ∧ p1 = q1 ∧ l1 = (wordsOf x).length ∧ c1 = e1 := by simpa using he1
          obtain ⟨rfl, rfl, rfl, rfl⟩ : by_ = b2 ∧ p2 = q2 ∧ l2 = (wordsOf y).length ∧ c2 = e2 := by simpa using he2
          exact .inl ⟨rfl, _, _, _, _, hcx, hcy, fun h0 => hl (by rw [h0]; rfl), ⟨_, _, rfl, hnn _ _ (hnn4 _ _ hNx)⟩, ⟨_, _, rfl, hnn _ _ (hnn4 _ _ hNy)⟩⟩
        · cases h
  · have hzb : (z1 == 0) = false := by rw [beq_eq_false_iff_ne]; exact hz
    have h1 : z1 = 1 ∧ (canonL a.data.toList = none ∨ canonL b.data.toList = none) := by
      rcases hv1 with ⟨h, _⟩ | ⟨h, h2, _⟩
      · exact absurd h hz
      · exact ⟨h, h2⟩
    obtain ⟨rfl, hcc⟩ := h1
    have HCX := Lib.hid hcc
    clear vB1 vC1 kS hbw1 hv1 hW2 hW4 kB kC jC jS hnn4 hcc hzb hz
    unfold numV
    go_wp2_with fail
    rw [HW.out.1, HW.out.2]
    clear c0 c1' f0 f1 hl0 d0 d1 g0 g1 hl1
    obtain ⟨X1, hX1, k1, k2⟩ := hvB.set bx p1 l1 c1
    obtain ⟨X2, hX2, k3, k4⟩ := (k2.var (B' := w.heap.size + 1) (by omega) hvC).set by_ p2 l2 c2
    have k5 := k4.var (B' := w.heap.size) (by omega) k1
    have HX := Lib.hid (And.intro hX1 hX2)
    have HK := Lib.hid (And.intro k2 (And.intro k3 (And.intro k4 k5)))
    clear hX1 hX2 k1 k2 k3 k4 k5
    obtain ⟨c0, c1', f0, f1, hl0⟩ := id hvB
    obtain ⟨d0, d1, g0, g1, hl1⟩ := id hvC
    have HB := Lib.hid (And.intro hvB hvC)
    clear hvB hvC
    go_region
    all_goals
      go_wp2_with fail
      rw [HX.out.1, HX.out.2]
      obtain ⟨k2, k3, k4, k5⟩ := HK.out
      have j := k5.drew
      have j' := k3.drew
      refine bodyPost_ret (v := .tuple #[numV bx p1 l1 c1, numV by_ p2 l2 c2, .int .i64 1]) (by simp [results, Tryz.results91, go_sem, numV, j.c0, j.c1, j'.c0, j'.c1]) rfl ⟨_, _, _, rfl, ?_, ((k4.below (k2.below hbw4 (Nat.le_refl _)) (by omega)) : Below w.heap.size w X2).drew⟩
      exact .inr ⟨⟨_, _, _, _, rfl⟩, ⟨_, _, _, _, rfl⟩, .inl ⟨rfl, HCX.out⟩⟩
end Go.Proofs.YtgmnjghbafbopaaGreatDoor

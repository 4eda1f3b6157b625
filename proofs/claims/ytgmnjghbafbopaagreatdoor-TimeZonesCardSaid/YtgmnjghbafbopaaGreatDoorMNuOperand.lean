/- Numbers: the contracts of operand, operands, divisible. -/
import Derived.Test.YtgmnjghbafbopaaGreatDoorMNuH
namespace Go.Proofs.YtgmnjghbafbopaaGreatDoor
open Go.RowKit Go.Lib

/-- A number that a text stands for, or none and the error. -/
def OpGives (w' : World) (s : List UInt8) (v : Value) (z : Int) : Prop := match canonL s with
  | some x => NumAt w' v x.1 x.2 ∧ z = 0
  | none => v = numV false none 0 0 ∧ z = 1
theorem num_shape {w : World} {v : Value} {b : Bool} {n : Nat} (h : NumAt w v b n) : ∃ p l c, v = numV b p l c := by
  obtain ⟨p, c, rfl, _⟩ := h
  exact ⟨p, _, c, rfl⟩
theorem OpGives.shape {w' : World} {s : List UInt8} {v : Value} {z : Int} (h : OpGives w' s v z) : ∃ b p l c, v = numV b p l c := by
  unfold OpGives at h
  split at h
  · obtain ⟨p, l, c, e⟩ := num_shape h.1
    exact ⟨_, p, l, c, e⟩
  · exact ⟨_, _, _, _, h.1⟩
theorem OpGives.later {w w' : World} {s : List UInt8} {v : Value} {z : Int} (h : OpGives w s v z) (hb : Below w.heap.size w w') : OpGives w' s v z := by
  unfold OpGives at h ⊢
  split at h
  · rename_i x hx
    exact ⟨h.1.later hb, h.2⟩
  · exact h
theorem OpGives.err {w : World} {s : List UInt8} {v : Value} {z : Int} (h : OpGives w s v z) : (z = 0 ∧ ∃ b n, canonL s = some (b, n) ∧ NumAt w v b n) ∨ (z = 1 ∧ canonL s = none ∧ v = numV false none 0 0) := by
  unfold OpGives at h
  split at h
  · rename_i x hx
    exact .inl ⟨h.2, x.1, x.2, hx, h.1⟩
  · rename_i hx
    exact .inr ⟨h.2, hx, h.1⟩
theorem op_some {w : World} {s : List UInt8} {v : Value} {b : Bool} {n : Nat} (h : canonL s = some (b, n)) (k : NumAt w v b n) : OpGives w s v 0 := by
  unfold OpGives; rw [h]; exact ⟨k, rfl⟩
theorem op_none {w : World} {s : List UInt8} (h : canonL s = none) : OpGives w s (numV false none 0 0) 1 := by
  unfold OpGives; rw [h]; exact ⟨rfl, rfl⟩

/-- No number, stored in its variable. -/
theorem zero_store {w W w4 : World} {B : Nat} (hw : Below w.heap.size w W) (hb4 : Below W.heap.size W w4) (hB : w.heap.size ≤ B) (v0 : w4.cell? ⟨B, 0, none⟩ = some (.bool false)) (v1 : w4.cell? ⟨B, 1, none⟩ = some (.slice none 0 0)) :
    ∃ W5, (w4.setCell ⟨B, 0, none⟩ (.bool false)).setCell ⟨B, 1, none⟩ (.slice none 0 0) = W5 ∧ W5.cell? ⟨B, 0, none⟩ = some (.bool false) ∧ W5.cell? ⟨B, 1, none⟩ = some (.slice none 0 0) ∧ Below w.heap.size w W5 ∧ W5.heap.size = w4.heap.size := by
  obtain ⟨W5, h1, h2, h3, h4, _⟩ := num_store (below := false) (xp := none) (xc := 0) (n := 0) hw hb4 hB (Nats.nil _ _ _) v0 v1
  rw [wordsOf_zero] at h1 h3
  exact ⟨W5, h1, h2, h3, h4, by rw [← h1]; simp [World.setCell]⟩
set_option maxRecDepth 100000 in
set_option maxHeartbeats 8000000 in
theorem operand_any (s : ByteArray) (hs : s.size < 4294967281) (w : World) (hg : GrN w) :
    Calls Tryz.prog 78 #[.string s] w fun e w' => ∃ v z, e = .returned (.tuple #[v, .int .i64 z]) ∧ OpGives w' s.data.toList v z ∧ Below w.heap.size w w' := by
  obtain ⟨m, hm⟩ := hg.2
  have hb0 : Below w.heap.size w (w.alloc (.cells #[.bool false, .slice none 0 0] 88)) := (Below.refl _ w).alloc (Nat.le_refl _) _
  have z0 : (w.alloc (.cells #[.bool false, .slice none 0 0] 88)).cell? ⟨w.heap.size, 0, none⟩ = some (.bool false) := by simp [go_sem]
  have z1 : (w.alloc (.cells #[.bool false, .slice none 0 0] 88)).cell? ⟨w.heap.size, 1, none⟩ = some (.slice none 0 0) := by simp [go_sem]
  have z2 : (w.alloc (.cells #[.bool false, .slice none 0 0] 88)).frozen? ⟨w.heap.size, 0, none⟩ = false := by simp [go_sem]
  have z3 : (w.alloc (.cells #[.bool false, .slice none 0 0] 88)).frozen? ⟨w.heap.size, 1, none⟩ = false := by simp [go_sem]
  have s0 : w.heap.size < (w.alloc (.cells #[.bool false, .slice none 0 0] 88)).heap.size := by simp
  obtain ⟨W0, hW0⟩ : ∃ W0, w.alloc (.cells #[.bool false, .slice none 0 0] 88) = W0 := ⟨_, rfl⟩
  rw [hW0] at hb0 z0 z1 z2 z3 s0
  have cS := split_any s m hs W0 ((hb0.cell (lt_of_cell hm)).trans hm)
  have HW0 := Lib.hid hW0
  clear hW0 hm
  cases hsp : splitL s.data.toList with
  | none =>
    have hcn : canonL s.data.toList = none := by unfold canonL; rw [hsp]
    rw [show splitV s.data.toList = #[.agg #[.string ⟨#[]⟩, .string ⟨#[]⟩, .string ⟨#[]⟩, .bool false], .bool false] by unfold splitV; rw [hsp]; rfl] at cS
    have HC := Lib.hid hcn
    clear hsp hcn
    go_enter Tryz.func78, Tryz.ntmps78
    go_wp2_with fail
    try rw [HW0.out]
    refine cS.mono ?_
    rintro e w1 ⟨rfl, hb1⟩
    have v0 := (hb1.cell (p := ⟨w.heap.size, 0, none⟩) s0).trans z0
    have v1 := (hb1.cell (p := ⟨w.heap.size, 1, none⟩) s0).trans z1
    have v2 := (hb1.frozen (p := ⟨w.heap.size, 0, none⟩) s0).trans z2
    have v3 := (hb1.frozen (p := ⟨w.heap.size, 1, none⟩) s0).trans z3
    have t0 := Nat.lt_of_lt_of_le s0 hb1.size
    have hbw1 : Below w.heap.size w w1 := hb0.trans (hb1.mono hb0.size)
    clear z0 z1 z2 z3 s0 hb1 cS
    have hbA : Below w1.heap.size w1 (w1.alloc (.cells #[.string ⟨#[]⟩, .string ⟨#[]⟩, .string ⟨#[]⟩, .bool false] 94)) := (Below.refl _ _).alloc (Nat.le_refl _) _
    have u0 := (hbA.cell (p := ⟨w.heap.size, 0, none⟩) t0).trans v0
    have u1 := (hbA.cell (p := ⟨w.heap.size, 1, none⟩) t0).trans v1
    have u2 := (hbA.frozen (p := ⟨w.heap.size, 0, none⟩) t0).trans v2
    have u3 := (hbA.frozen (p := ⟨w.heap.size, 1, none⟩) t0).trans v3
    obtain ⟨W5, hW5, r0, r1, hb5, hz5⟩ := zero_store hbw1 (Below.refl _ _) (Nat.le_refl _) v0 v1
    have HZ := Lib.hid hz5
    clear hbA u0 u1 u2 u3 hz5
    go_wp2_with fail
    try rw [hW5]
    have hbB : Below W5.heap.size W5 (W5.alloc (.cells #[.string ⟨#[]⟩, .string ⟨#[]⟩, .string ⟨#[]⟩, .bool false] 94)) := (Below.refl _ _).alloc (Nat.le_refl _) _
    have t5 : w.heap.size < W5.heap.size := by rw [HZ.out]; exact t0
    have r0 := (hbB.cell (p := ⟨w.heap.size, 0, none⟩) t5).trans r0
    have r1 := (hbB.cell (p := ⟨w.heap.size, 1, none⟩) t5).trans r1
    exact bodyPost_ret (v := .tuple #[numV false none 0 0, .int .i64 1]) (by simp [results, Tryz.results78, go_sem, numV, r0, r1]) rfl ⟨_, _, rfl, op_none HC.out, hb5.trans (hbB.mono hb5.size)⟩
  | some x =>
    obtain ⟨sg, hsg⟩ : ∃ sg : ByteArray, (⟨x.sign.toArray⟩ : ByteArray) = sg := ⟨_, rfl⟩
    obtain ⟨bf, hbf⟩ : ∃ bf : ByteArray, (⟨x.before.toArray⟩ : ByteArray) = bf := ⟨_, rfl⟩
    obtain ⟨af, haf⟩ : ∃ af : ByteArray, (⟨x.after.toArray⟩ : ByteArray) = af := ⟨_, rfl⟩
    obtain ⟨pt, hpt⟩ : ∃ pt, x.point = pt := ⟨_, rfl⟩
    have hx : x = ⟨sg.data.toList, bf.data.toList, af.data.toList, pt⟩ := by rw [← hsg, ← hbf, ← haf, ← hpt]
    rw [show splitV s.data.toList = #[.agg #[.string sg, .string bf, .string af, .bool pt], .bool true] by unfold splitV; rw [hsp, ← hsg, ← hbf, ← haf, ← hpt]; rfl] at cS
    have hback := split_back _ _ hsp
    have hsl := s.data.toList
    have hlen : s.data.toList.length = s.size := by rw [Array.length_toList]; rfl
    have haf9 : af.size < 4294967296 := by
      have h1 := congrArg List.length hback.1
      rw [hlen, List.length_append, List.length_append] at h1
      have h2 : af.size = x.after.length := by rw [← haf, ba_len]
      have h3 : x.after.length ≤ (if x.point = true then 46 :: x.after else []).length := by
        cases hp : x.point with
        | true => simp
        | false => rw [hback.2.1 hp]; simp
      omega
    have cC := fun W => isCanonical_any sg bf af pt haf9 W
    rw [← hx] at cC
    cases hcw : canonW x with
    | false =>
      have hcn : canonL s.data.toList = none := by unfold canonL; rw [hsp]; simp [hcw]
      rw [hcw] at cC
      have HC := Lib.hid hcn
      clear hsp hcn hcw hback hlen hx hsg hbf haf hpt hsl haf9
      go_enter Tryz.func78, Tryz.ntmps78
      go_wp2_with fail
      try rw [HW0.out]
      refine cS.mono ?_
      rintro e w1 ⟨rfl, hb1⟩
      have v0 := (hb1.cell (p := ⟨w.heap.size, 0, none⟩) s0).trans z0
      have v1 := (hb1.cell (p := ⟨w.heap.size, 1, none⟩) s0).trans z1
      have v2 := (hb1.frozen (p := ⟨w.heap.size, 0, none⟩) s0).trans z2
      have v3 := (hb1.frozen (p := ⟨w.heap.size, 1, none⟩) s0).trans z3
      have t0 := Nat.lt_of_lt_of_le s0 hb1.size
      have hbw1 : Below w.heap.size w w1 := hb0.trans (hb1.mono hb0.size)
      clear z0 z1 z2 z3 s0 hb1 cS
      have hbA : Below w1.heap.size w1 (w1.alloc (.cells #[.string sg, .string bf, .string af, .bool pt] 94)) := (Below.refl _ _).alloc (Nat.le_refl _) _
      have u0 := (hbA.cell (p := ⟨w.heap.size, 0, none⟩) t0).trans v0
      have u1 := (hbA.cell (p := ⟨w.heap.size, 1, none⟩) t0).trans v1
      have u2 := (hbA.frozen (p := ⟨w.heap.size, 0, none⟩) t0).trans v2
      have u3 := (hbA.frozen (p := ⟨w.heap.size, 1, none⟩) t0).trans v3
      have y0 : (w1.alloc (.cells #[.string sg, .string bf, .string af, .bool pt] 94)).cell? ⟨w1.heap.size, 0, none⟩ = some (.string sg) := by simp [go_sem]
      have y1 : (w1.alloc (.cells #[.string sg, .string bf, .string af, .bool pt] 94)).cell? ⟨w1.heap.size, 1, none⟩ = some (.string bf) := by simp [go_sem]
      have y2 : (w1.alloc (.cells #[.string sg, .string bf, .string af, .bool pt] 94)).cell? ⟨w1.heap.size, 2, none⟩ = some (.string af) := by simp [go_sem]
      have y3 : (w1.alloc (.cells #[.string sg, .string bf, .string af, .bool pt] 94)).cell? ⟨w1.heap.size, 3, none⟩ = some (.bool pt) := by simp [go_sem]
      have tA : w.heap.size < (w1.alloc (.cells #[.string sg, .string bf, .string af, .bool pt] 94)).heap.size := by simp; omega
      have tB : w1.heap.size < (w1.alloc (.cells #[.string sg, .string bf, .string af, .bool pt] 94)).heap.size := by simp
      have hbwA := hbw1.trans (hbA.mono hbw1.size)
      go_wp2_with fail
      refine (cC _).mono ?_
      rintro e w3 ⟨rfl, hb3⟩
      have x0 := (hb3.cell (p := ⟨w.heap.size, 0, none⟩) tA).trans u0
      have x1 := (hb3.cell (p := ⟨w.heap.size, 1, none⟩) tA).trans u1
      have x2 := (hb3.frozen (p := ⟨w.heap.size, 0, none⟩) tA).trans u2
      have x3 := (hb3.frozen (p := ⟨w.heap.size, 1, none⟩) tA).trans u3
      obtain ⟨W5, hW5, r0, r1, hb5, hz5⟩ := zero_store hbwA hb3 (Nat.le_refl _) x0 x1
      clear hz5 hb3 hbA u0 u1 u2 u3 v0 v1 v2 v3 y0 y1 y2 y3
      go_wp2_with fail
      try rw [hW5]
      exact bodyPost_ret (v := .tuple #[numV false none 0 0, .int .i64 1]) (by simp [results, Tryz.results78, go_sem, numV, r0, r1]) rfl ⟨_, _, rfl, op_none HC.out, hb5⟩
    | true =>
      have hcn : canonL s.data.toList = some (numL x) := by unfold canonL; rw [hsp]; simp [hcw]
      rw [hcw] at cC
      have hcw2 := hcw
      unfold canonW at hcw2
      have hlens : x.before.length ≤ 30 ∧ x.after.length ≤ 20 := by
        split at hcw2
        · cases hcw2
        · rename_i h
          simp only [not_or, Nat.not_lt] at h
          exact ⟨h.2.2.1, h.2.2.2⟩
      have hbs : bf.size ≤ 1000 := by rw [← hbf, ba_len]; exact Nat.le_trans hlens.1 (by omega)
      have has : af.size ≤ 1000 := by rw [← haf, ba_len]; exact Nat.le_trans hlens.2 (by omega)
      have hdg : Dgs (bf.data.toList ++ af.data.toList) := by rw [← hbf, ← haf]; exact Dgs.app hback.2.2.1 hback.2.2.2.1
      have cN := fun W => number_any sg bf af pt hdg hbs has W
      rw [← hx] at cN
      have HC := Lib.hid hcn
      clear hsp hcn hcw hcw2 hlens hback hlen hx hsg hbf haf hpt hsl haf9 hdg
      go_enter Tryz.func78, Tryz.ntmps78
      go_wp2_with fail
      try rw [HW0.out]
      refine cS.mono ?_
      rintro e w1 ⟨rfl, hb1⟩
      have v0 := (hb1.cell (p := ⟨w.heap.size, 0, none⟩) s0).trans z0
      have v1 := (hb1.cell (p := ⟨w.heap.size, 1, none⟩) s0).trans z1
      have v2 := (hb1.frozen (p := ⟨w.heap.size, 0, none⟩) s0).trans z2
      have v3 := (hb1.frozen (p := ⟨w.heap.size, 1, none⟩) s0).trans z3
      have t0 := Nat.lt_of_lt_of_le s0 hb1.size
      have hbw1 : Below w.heap.size w w1 := hb0.trans (hb1.mono hb0.size)
      clear z0 z1 z2 z3 s0 hb1 cS
      have hbA : Below w1.heap.size w1 (w1.alloc (.cells #[.string sg, .string bf, .string af, .bool pt] 94)) := (Below.refl _ _).alloc (Nat.le_refl _) _
      have u0 := (hbA.cell (p := ⟨w.heap.size, 0, none⟩) t0).trans v0
      have u1 := (hbA.cell (p := ⟨w.heap.size, 1, none⟩) t0).trans v1
      have u2 := (hbA.frozen (p := ⟨w.heap.size, 0, none⟩) t0).trans v2
      have u3 := (hbA.frozen (p := ⟨w.heap.size, 1, none⟩) t0).trans v3
      have y0 : (w1.alloc (.cells #[.string sg, .string bf, .string af, .bool pt] 94)).cell? ⟨w1.heap.size, 0, none⟩ = some (.string sg) := by simp [go_sem]
      have y1 : (w1.alloc (.cells #[.string sg, .string bf, .string af, .bool pt] 94)).cell? ⟨w1.heap.size, 1, none⟩ = some (.string bf) := by simp [go_sem]
      have y2 : (w1.alloc (.cells #[.string sg, .string bf, .string af, .bool pt] 94)).cell? ⟨w1.heap.size, 2, none⟩ = some (.string af) := by simp [go_sem]
      have y3 : (w1.alloc (.cells #[.string sg, .string bf, .string af, .bool pt] 94)).cell? ⟨w1.heap.size, 3, none⟩ = some (.bool pt) := by simp [go_sem]
      have tA : w.heap.size < (w1.alloc (.cells #[.string sg, .string bf, .string af, .bool pt] 94)).heap.size := by simp; omega
      have tB : w1.heap.size < (w1.alloc (.cells #[.string sg, .string bf, .string af, .bool pt] 94)).heap.size := by simp
      have hbwA := hbw1.trans (hbA.mono hbw1.size)
      go_wp2_with fail
      refine (cC _).mono ?_
      rintro e w3 ⟨rfl, hb3⟩
      have x0 := (hb3.cell (p := ⟨w.heap.size, 0, none⟩) tA).trans u0
      have x1 := (hb3.cell (p := ⟨w.heap.size, 1, none⟩) tA).trans u1
      have x2 := (hb3.frozen (p := ⟨w.heap.size, 0, none⟩) tA).trans u2
      have x3 := (hb3.frozen (p := ⟨w.heap.size, 1, none⟩) tA).trans u3
      have y0 := (hb3.cell (p := ⟨w1.heap.size, 0, none⟩) tB).trans y0
      have y1 := (hb3.cell (p := ⟨w1.heap.size, 1, none⟩) tB).trans y1
      have y2 := (hb3.cell (p := ⟨w1.heap.size, 2, none⟩) tB).trans y2
      have y3 := (hb3.cell (p := ⟨w1.heap.size, 3, none⟩) tB).trans y3
      have hbw3 := hbwA.trans (hb3.mono hbwA.size)
      have t3 := Nat.lt_of_lt_of_le tA hb3.size
      go_wp2_with fail
      refine (cN _).mono ?_
      rintro e w4 ⟨q, rfl, ⟨qp, qc, rfl, hq⟩, hb4⟩
      have x0 := (hb4.cell (p := ⟨w.heap.size, 0, none⟩) t3).trans x0
      have x1 := (hb4.cell (p := ⟨w.heap.size, 1, none⟩) t3).trans x1
      have x2 := (hb4.frozen (p := ⟨w.heap.size, 0, none⟩) t3).trans x2
      have x3 := (hb4.frozen (p := ⟨w.heap.size, 1, none⟩) t3).trans x3
      obtain ⟨nb, hnb⟩ : ∃ nb, (numL x).1 = nb := ⟨_, rfl⟩
      obtain ⟨nn, hnn⟩ : ∃ nn, (numL x).2 = nn := ⟨_, rfl⟩
      rw [hnn] at hq ⊢
      rw [hnb]
      have HNN := Lib.hid (show numL x = (nb, nn) from Prod.ext hnb hnn)
      obtain ⟨W5, hW5, r0, r1, hb5, hx5⟩ := num_store (below := nb) hbw3 hb4 (Nat.le_refl _) hq x0 x1
      clear hb3 hb4 hq hbA u0 u1 u2 u3 v0 v1 v2 v3 y0 y1 y2 y3 hnb hnn cN cC
      unfold numV
      go_wp2_with fail
      try rw [hW5]
      exact bodyPost_ret (v := .tuple #[numV nb qp (wordsOf nn).length qc, .int .i64 0]) (by simp [results, Tryz.results78, go_sem, numV, r0, r1]) rfl ⟨_, _, rfl, op_some (HC.out.trans (congrArg some HNN.out)) ⟨_, _, rfl, hx5⟩, hb5⟩
end Go.Proofs.YtgmnjghbafbopaaGreatDoor

/- Dates: Parse: its deferred function; parts in one; the two variables of its results. -/
import Derived.Test.YtgmnjghbafbopaaGreatDoorMTiPartD
import Derived.Test.YtgmnjghbafbopaaGreatDoorMTiPartC
import Derived.Test.YtgmnjghbafbopaaGreatDoorMTiPartM
import Derived.Test.YtgmnjghbafbopaaGreatDoorMTiH
import Derived.Test.YtgmnjghbafbopaaGreatDoorMTiD
import Derived.Defers
import Derived.Recover
import Derived.Laws.Pointers
namespace Go.Proofs.YtgmnjghbafbopaaGreatDoor
open Go.RowKit Go.Lib

/-- The two variables of Parse's results: a moment, an error; and what was there before. -/
structure PV (w W : World) (y mo d h mi : Int) (s : ByteArray) (z : Int) (has : Bool) (e : Int) : Prop where
  m : MomW W w.heap.size y mo d h mi s z has
  c : W.cell? ⟨w.heap.size + 1, 0, none⟩ = some (.int .i64 e)
  f : W.frozen? ⟨w.heap.size + 1, 0, none⟩ = false
  lt : w.heap.size + 1 < W.heap.size
  b : Below w.heap.size w W
theorem PV.later {w W W' : World} {y mo d h mi : Int} {s : ByteArray} {z : Int} {has : Bool} {e : Int} (p : PV w W y mo d h mi s z has e) (hb : Below W.heap.size W W') : PV w W' y mo d h mi s z has e :=
  ⟨p.m.later hb, (World.cell?_of_block (a := ⟨w.heap.size + 1, 0, none⟩) (hb.block _ p.lt)).trans p.c, (World.frozen?_of_block (a := ⟨w.heap.size + 1, 0, none⟩) (hb.block _ p.lt)).trans p.f, Nat.lt_of_lt_of_le p.lt hb.size, p.b.trans (hb.mono p.b.size)⟩
theorem PV.new (w : World) : PV w ((w.alloc (.cells #[.int .i64 0, .int .i64 0, .int .i64 0, .int .i64 0, .int .i64 0, .string ⟨#[]⟩, .int .i64 0, .bool false] 24)).alloc (.cells #[.int .i64 0] 25)) 0 0 0 0 0 ⟨#[]⟩ 0 false 0 :=
  ⟨(MomW.new w 0 0 0 0 0 ⟨#[]⟩ 0 false).later ((Below.refl _ _).alloc (Nat.le_refl _) _), by simp [go_sem], by simp [go_sem], by simp, ((Below.refl _ _).alloc (Nat.le_refl _) _).alloc (by simp) _⟩
theorem PV.all {w W : World} {y mo d h mi : Int} {s : ByteArray} {z : Int} {has : Bool} {e : Int} (p : PV w W y mo d h mi s z has e) (v0 v1 v2 v3 v4 : Int) (v5 : ByteArray) (v6 : Int) (v7 : Bool) : ∃ X, (((((((W.setCell ⟨w.heap.size, 0, none⟩ (.int .i64 v0)).setCell ⟨w.heap.size, 1, none⟩ (.int .i64 v1)).setCell ⟨w.heap.size, 2, none⟩ (.int .i64 v2)).setCell ⟨w.heap.size, 3, none⟩ (.int .i64 v3)).setCell ⟨w.heap.size, 4, none⟩ (.int .i64 v4)).setCell ⟨w.heap.size, 5, none⟩ (.string v5)).setCell ⟨w.heap.size, 6, none⟩ (.int .i64 v6)).setCell ⟨w.heap.size, 7, none⟩ (.bool v7) = X ∧ PV w X v0 v1 v2 v3 v4 v5 v6 v7 e := by
  obtain ⟨X, h1, h2, h3, h4, h5⟩ := p.m.setAll v0 v1 v2 v3 v4 v5 v6 v7
  exact ⟨X, h1, h2, (World.cell?_of_block (a := ⟨w.heap.size + 1, 0, none⟩) (h4 _ (by show w.heap.size + 1 ≠ w.heap.size; omega))).trans p.c, (World.frozen?_of_block (a := ⟨w.heap.size + 1, 0, none⟩) (h4 _ (by show w.heap.size + 1 ≠ w.heap.size; omega))).trans p.f, by rw [h5]; exact p.lt, h3 p.b (Nat.le_refl _)⟩
theorem PV.err {w W : World} {y mo d h mi : Int} {s : ByteArray} {z : Int} {has : Bool} {e : Int} (p : PV w W y mo d h mi s z has e) (e' : Int) : PV w (W.setCell ⟨w.heap.size + 1, 0, none⟩ (.int .i64 e')) y mo d h mi s z has e' :=
  ⟨p.m.other (Below.heap_setCell _ _ _ _ (by show w.heap.size ≠ w.heap.size + 1; omega)) (by simp [World.setCell]), World.cell?_setCell_same _ _ _ p.c, by simpa using p.f, by simpa [World.setCell] using p.lt, p.b.setCell (p := ⟨w.heap.size + 1, 0, none⟩) (Nat.le_succ _) _⟩
theorem PV.hour {w W : World} {y mo d h mi : Int} {s : ByteArray} {z : Int} {has : Bool} {e : Int} (p : PV w W y mo d h mi s z has e) (v : Int) : PV w (W.setCell ⟨w.heap.size, 3, none⟩ (.int .i64 v)) y mo d v mi s z has e :=
  ⟨p.m.set3 v, (World.cell?_setCell_other _ _ _ _ (by simp)).trans p.c, by simpa using p.f, by simpa [World.setCell] using p.lt, p.b.setCell (p := ⟨w.heap.size, 3, none⟩) (Nat.le_refl _) _⟩
/-- The deferred function finds nothing to recover. -/
theorem parse_idle (a b : Addr) (w : World) : CallsD Tryz.prog 43 #[.pointer (some a), .pointer (some b)] .returning w fun e u' w' => e = .returned (.tuple #[]) ∧ u' = .returning ∧ w' = w := by
  refine callsD_of_wpS Tryz.func43 rfl fun c₀ cs hu => ?_
  apply wpS_seq
  apply wpS_region
  simp [wpOpsS, go_sem, recoverD, hu, Tryz.ntmps43, Exit.thenS]
  refine wpS_cond (t := false) (by simp [Act.eval, Array.replicate]) ?_
  simp only [Bool.false_eq_true, if_false]
  refine wpS_of_wp (wp_skip ?_)
  cases c₀
  simp_all [bodyPostS, results, Tryz.results43]
set_option maxHeartbeats 4000000 in
/-- It recovers: both results are laid anew. -/
theorem parse_caught (w W X : World) (y mo d h mi : Int) (s : ByteArray) (z : Int) (has : Bool) (e0 : Int) (p : PV w W y mo d h mi s z has e0) (u : TypeId) (pv : Value) (older : List PanicEntry)
    (hX : ((((((((W.setCell ⟨w.heap.size, 0, none⟩ (.int .i64 0)).setCell ⟨w.heap.size, 1, none⟩ (.int .i64 0)).setCell ⟨w.heap.size, 2, none⟩ (.int .i64 0)).setCell ⟨w.heap.size, 3, none⟩ (.int .i64 0)).setCell ⟨w.heap.size, 4, none⟩ (.int .i64 0)).setCell ⟨w.heap.size, 5, none⟩ (.string ⟨#[]⟩)).setCell ⟨w.heap.size, 6, none⟩ (.int .i64 0)).setCell ⟨w.heap.size, 7, none⟩ (.bool false)).setCell ⟨w.heap.size + 1, 0, none⟩ (.int .i64 5) = X) :
    CallsD Tryz.prog 43 #[.pointer (some ⟨w.heap.size, 0, none⟩), .pointer (some ⟨w.heap.size + 1, 0, none⟩)] (.panicking ({ v := .iface u pv, recovered := false } :: older)) W fun e u' w' =>
      e = .returned (.tuple #[]) ∧ u' = .panicking ({ v := .iface u pv, recovered := true } :: older) ∧ w' = X := by
  obtain ⟨c0, c1, c2, c3, c4, c5, c6, c7, f0, f1, f2, f3, f4, f5, f6, f7, lt0⟩ := p.m
  have pc := p.c
  have pf := p.f
  clear p
  refine callsD_of_wpS Tryz.func43 rfl fun c₀ cs hu => ?_
  apply wpS_seq
  apply wpS_region
  simp [wpOpsS, go_sem, recoverD, hu, Tryz.ntmps43, Exit.thenS]
  refine wpS_cond (t := true) (by simp [Act.eval, Array.replicate]) ?_
  simp only [if_true]
  apply wpS_region
  simp [wpOpsS, go_sem, c0, c1, c2, c3, c4, c5, c6, c7, f0, f1, f2, f3, f4, f5, f6, f7, pc, pf, bodyPostS, results, Tryz.results43]
  exact hX
theorem beq24 (n : Nat) : ((n : Int) == 24) = decide (n = 24) := by
  by_cases h : n = 24
  · subst h; rfl
  · rw [decide_eq_false h]; exact beq_eq_false_iff_ne.2 (by omega)
theorem beq00 (n : Nat) : ((n : Int) == 0) = decide (n = 0) := by
  by_cases h : n = 0
  · subst h; rfl
  · rw [decide_eq_false h]; exact beq_eq_false_iff_ne.2 (by omega)
theorem parts_ti (k : Int) (hk : k = 6 ∨ k = 7 ∨ k = 8) (s : ByteArray) (w : World) (hg : GrT w) : Calls Tryz.prog 44 #[.int .i64 k, .string s] w (PartsG w (partsT k s.data.toList)) := by
  rcases hk with rfl | rfl | rfl
  · exact parts_date s w hg
  · exact parts_time s w hg
  · exact parts_both s w hg
end Go.Proofs.YtgmnjghbafbopaaGreatDoor

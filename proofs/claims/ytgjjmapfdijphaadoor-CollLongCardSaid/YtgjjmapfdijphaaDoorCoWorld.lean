/- Memory of package coll: which blocks turn; a map of weights; a collation in memory. -/
import Derived.Test.YtgjjmapfdijphaaDoorCoSmall
import Derived.Maps.OwnSet
import Derived.RangeFuncWrites
namespace Go.Proofs.YtgjjmapfdijphaaDoor
open Go.RowKit Go.Lib

/-- New blocks, and writes to such old ones as R says. -/
structure Ch (R : Nat → Prop) (w w' : World) : Prop where
  os : w'.os = w.os
  tape : w'.tape = w.tape
  output : w'.output = w.output
  size : w.heap.size ≤ w'.heap.size
  block : ∀ k, k < w.heap.size → ¬ R k → w'.heap[k]? = w.heap[k]?
theorem Ch.refl (R : Nat → Prop) (w : World) : Ch R w w := ⟨rfl, rfl, rfl, Nat.le_refl _, fun _ _ _ => rfl⟩
theorem Ch.trans {R : Nat → Prop} {a b c : World} (h : Ch R a b) (k : Ch R b c) : Ch R a c :=
  ⟨k.os.trans h.os, k.tape.trans h.tape, k.output.trans h.output, Nat.le_trans h.size k.size, fun i hi hn => (k.block i (Nat.lt_of_lt_of_le hi h.size) hn).trans (h.block i hi hn)⟩
theorem Ch.mono {R R' : Nat → Prop} {a b : World} (h : Ch R a b) (hR : ∀ k, k < a.heap.size → R k → R' k) : Ch R' a b :=
  ⟨h.os, h.tape, h.output, h.size, fun i hi hn => h.block i hi (fun hr => hn (hR i hi hr))⟩
theorem Ch.of_below {R : Nat → Prop} {a b : World} (h : Below a.heap.size a b) : Ch R a b := ⟨h.os, h.tape, h.output, h.size, fun k hk _ => h.block k hk⟩
theorem Ch.of_grown {R : Nat → Prop} {a b : World} {row : Option Nat} (h : a.grownBy b row) (hr : ∀ k, row = some k → R k) : Ch R a b :=
  ⟨h.os, h.tape, h.output, h.size, fun k hk hn => h.block k hk (fun e => hn (hr k e.symm))⟩
theorem Ch.behind {R : Nat → Prop} {w a b : World} (h : Ch (fun k => R k ∨ w.heap.size ≤ k) a b) (ha : Below w.heap.size w a) : Ch R w b :=
  ⟨h.os.trans ha.os, h.tape.trans ha.tape, h.output.trans ha.output, Nat.le_trans ha.size h.size, fun k hk hn => (h.block k (Nat.lt_of_lt_of_le hk ha.size) (fun e => e.elim hn (fun e => by omega))).trans (ha.block k hk)⟩
theorem Ch.alloc {R : Nat → Prop} {a b : World} (h : Ch R a b) (o : Obj) : Ch R a (b.alloc o) := h.trans (.of_grown (World.grownBy_alloc b o none) (fun _ e => by cases e))
theorem Ch.drew {R : Nat → Prop} {a b : World} (h : Ch R a b) : Ch R a b.drew := ⟨h.os, h.tape, h.output, h.size, h.block⟩
theorem Ch.setCell {R : Nat → Prop} {a b : World} (h : Ch R a b) {p : Addr} (hp : R p.block ∨ a.heap.size ≤ p.block) (u : Value) : Ch R a (b.setCell p u) :=
  ⟨h.os, h.tape, h.output, by simpa [World.setCell] using h.size, fun k hk hn => (Below.heap_setCell _ _ _ _ (fun e => hp.elim (fun h => hn (by rw [e]; exact h)) (fun h => by omega))).trans (h.block k hk hn)⟩
theorem Ch.below {R : Nat → Prop} {a b : World} (h : Ch R a b) {B : Nat} (hB : B ≤ a.heap.size) (hR : ∀ k, k < B → ¬ R k) : Below B a b :=
  ⟨h.os, h.tape, h.output, h.size, fun k hk => h.block k (by omega) (hR k hk)⟩
theorem Ch.cell {R : Nat → Prop} {a b : World} (h : Ch R a b) {p : Addr} (hp : p.block < a.heap.size) (hn : ¬ R p.block) : b.cell? p = a.cell? p := World.cell?_of_block (h.block p.block hp hn)
theorem Ch.frozen {R : Nat → Prop} {a b : World} (h : Ch R a b) {p : Addr} (hp : p.block < a.heap.size) (hn : ¬ R p.block) : b.frozen? p = a.frozen? p := World.frozen?_of_block (h.block p.block hp hn)

/-! ### a map of weights -/
def wtD (x : Wt) : DataW Unit := .agg [.lit (.int .i64 (x.1 : Int)), .lit (.int .i64 (x.2.1 : Int)), .lit (.int .i64 (x.2.2 : Int))]
/-- How weights read. -/
def wtR (v : Value) : Option (DataW Unit × List MemPlace) :=
  match v with
  | .agg cs => match cs.toList with
    | [.int .i64 a, .int .i64 b, .int .i64 c] => some (.agg [.lit (.int .i64 a), .lit (.int .i64 b), .lit (.int .i64 c)], [])
    | _ => none
  | _ => none
theorem wtR_mk (x : Wt) : wtR (wtV x) = some (wtD x, []) := rfl
theorem wtR_inv {v : Value} {x : Wt} {ps : List MemPlace} (h : wtR v = some (wtD x, ps)) : v = wtV x := by
  unfold wtR at h
  split at h
  · rename_i cs
    split at h
    · rename_i a b c hcs
      simp only [wtD, Option.some.injEq, Prod.mk.injEq, DataW.agg.injEq, List.cons.injEq, DataW.lit.injEq, Lit.int.injEq, true_and, and_true] at h
      obtain ⟨⟨rfl, rfl, rfl⟩, _⟩ := h
      unfold wtV
      congr 1
      exact Array.toList_inj.1 hcs
    · cases h
  · cases h
theorem zeroWt (w : World) : (zeroValue 64).run Tryd.prog w = .ok (wtV (0, 0, 0)) w := by kernel_rfl
theorem keyRune (c : Nat) (h : c ≤ 2147483647) : keyOf Tryd.prog 21 (.int .i32 (c : Int)) = some (.int .i32 (c : Int)) :=
  Maps.keyOf_int_mk Tryd.underlying21 (WalkArith.wf_i32 (by omega))
theorem runeKey : Maps.Keyed Tryd.prog 21 := Maps.int_keyed Tryd.underlying21
/-- Block mb is a map that holds the weights of the list, each character once. -/
def MapIs (w : World) (mb : Nat) (tab : List (Nat × Wt)) : Prop :=
  ∃ D : DataW Unit, w.ownsMap Tryd.prog 21 wtR mb tab.length D ∧ Maps.size D = tab.length ∧
    ∀ c : Nat, Maps.has D (.int .i32 (c : Int)) = (lookL tab c).isSome ∧ ∀ x, lookL tab c = some x → ∀ z, D.atKey (.int .i32 (c : Int)) z = wtD x
theorem MapIs.lt {w : World} {mb : Nat} {tab : List (Nat × Wt)} (h : MapIs w mb tab) : mb < w.heap.size := by
  obtain ⟨D, h1, _⟩ := h
  exact h1.lt
theorem MapIs.same {w w' : World} {mb : Nat} {tab : List (Nat × Wt)} (h : MapIs w mb tab) (hb : w'.heap[mb]? = w.heap[mb]?) : MapIs w' mb tab := by
  obtain ⟨D, ⟨es, clock, h1, h2⟩, h3⟩ := h
  exact ⟨D, ⟨es, clock, hb.trans h1, h2⟩, h3⟩
theorem MapIs.alloc {w : World} {mb : Nat} {tab : List (Nat × Wt)} (h : MapIs w mb tab) (o : Obj) : MapIs (w.alloc o) mb tab := h.same (Below.heap_alloc _ _ _ h.lt)
theorem MapIs.drew {w : World} {mb : Nat} {tab : List (Nat × Wt)} (h : MapIs w mb tab) : MapIs w.drew mb tab := h.same rfl
theorem MapIs.setCell {w : World} {mb : Nat} {tab : List (Nat × Wt)} (h : MapIs w mb tab) {a : Addr} (ha : mb ≠ a.block) (u : Value) : MapIs (w.setCell a u) mb tab := h.same (Below.heap_setCell _ _ _ _ ha)
theorem MapIs.made (w : World) : MapIs (w.alloc (.map #[] 0)) w.heap.size [] :=
  ⟨.map [], World.ownsMap_made _ _ _ _, rfl, fun _ => ⟨rfl, fun _ h => by cases h⟩⟩
theorem MapIs.look {w : World} {mb : Nat} {tab : List (Nat × Wt)} (h : MapIs w mb tab) (c : Nat) (hc : c ≤ 2147483647) :
    (Instr.lookup 42 (.map (some mb)) (.int .i32 (c : Int)) true).run Tryd.prog w = .ok (.tuple #[wtV ((lookL tab c).getD (0, 0, 0)), .bool (lookL tab c).isSome]) w := by
  obtain ⟨D, h1, _, h2⟩ := h
  obtain ⟨v, ps, hr, hv⟩ := h1.look_ok runeKey Tryd.underlying42 (zeroWt w) (wtR_mk (0, 0, 0)) (keyRune c hc)
  obtain ⟨h3, h4⟩ := h2 c
  rw [hr, h3]
  cases hl : lookL tab c with
  | none =>
    rw [hl] at h3
    rw [Maps.atKey_of_not_has h3] at hv
    rw [wtR_inv hv]; rfl
  | some x =>
    rw [h4 x hl] at hv
    rw [wtR_inv hv]; rfl
theorem look_nilmap (w : World) (c : Nat) (hc : c ≤ 2147483647) :
    (Instr.lookup 42 (.map none) (.int .i32 (c : Int)) true).run Tryd.prog w = .ok (.tuple #[wtV (0, 0, 0), .bool false]) w := by
  rw [Maps.look_nil true runeKey Tryd.underlying42 (zeroWt w) (keyRune c hc)]; rfl
theorem MapIs.store {w : World} {mb : Nat} {tab : List (Nat × Wt)} (h : MapIs w mb tab) (c : Nat) (hc : c ≤ 2147483647) (x : Wt) (hn : lookL tab c = none) (hl : tab.length ≤ 1000000000) :
    ∃ w', (Instr.mapUpdate 42 (.map (some mb)) (.int .i32 (c : Int)) (wtV x)).run Tryd.prog w = .ok () w' ∧ MapIs w' mb ((c, x) :: tab) ∧ w.grownBy w' (some mb) := by
  obtain ⟨D, h1, hs, h2⟩ := h
  obtain ⟨w', hr, h3, h4⟩ := h1.update runeKey Tryd.underlying42 (by unfold maxLen; omega) (keyRune c hc) (wtR_mk x)
  have hk : WideAt.IsKeyLit (.int .i32 (c : Int)) := trivial
  refine ⟨w', hr, ⟨D.put (.int .i32 (c : Int)) (wtD x), h3, ?_, fun d => ?_⟩, h4⟩
  · rw [Maps.size_put (h1.tidy runeKey), (h2 c).1, hn, hs]; rfl
  · unfold lookL
    by_cases e : c = d
    · subst e
      rw [if_pos rfl]
      refine ⟨Maps.has_put_same h1.isMap hk _, fun y hy z => ?_⟩
      cases hy
      exact Maps.atKey_put_same h1.isMap hk _ _
    · rw [if_neg e]
      have hne : (Lit.int .i32 (d : Int)) ≠ .int .i32 (c : Int) := fun h => by
        have : (d : Int) = c := by injection h
        omega
      refine ⟨(Maps.has_put_other hne _).trans (h2 d).1, fun y hy z => ?_⟩
      exact (Maps.atKey_put_other hne _ _).trans ((h2 d).2 y hy z)
theorem MapIs.len {w : World} {mb : Nat} {tab : List (Nat × Wt)} (h : MapIs w mb tab) (ty : TypeId) :
    (Builtin.len_ #[42] ty #[.map (some mb)]).run Tryd.prog w = .ok (.int .i64 tab.length) w := by
  obtain ⟨D, h1, hs, _⟩ := h
  rw [h1.len Tryd.underlying42 ty, hs]

/-! ### a collation in memory -/
/-- A value is a collation: nil, one that Parse did not return, or one that it did. -/
def TabAt (w : World) (v : Value) (T : Tb) : Prop :=
  (v = .pointer none ∧ T = ⟨[], 0, 0⟩) ∨
  ∃ p mv, v = .pointer (some ⟨p, 0, none⟩) ∧ w.heap[p]? = some (.cells #[mv, .int .i64 T.last, .int .i64 T.str] 44 (0, 0)) ∧
    ((mv = .map none ∧ T.tab = []) ∨ ∃ mb, mv = .map (some mb) ∧ mb ≠ p ∧ MapIs w mb T.tab)
theorem TabAt.later {w w' : World} {v : Value} {T : Tb} (h : TabAt w v T) (hb : Below w.heap.size w w') : TabAt w' v T := by
  rcases h with h | ⟨p, mv, rfl, h1, h2⟩
  · exact .inl h
  · refine .inr ⟨p, mv, rfl, (hb.block p (Array.getElem?_eq_some_iff.1 h1).1).trans h1, ?_⟩
    rcases h2 with h2 | ⟨mb, rfl, h3, h4⟩
    · exact .inl h2
    · exact .inr ⟨mb, rfl, h3, h4.same (hb.block mb h4.lt)⟩
end Go.Proofs.YtgjjmapfdijphaaDoor

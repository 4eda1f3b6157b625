/- Worlds that have new blocks and writes to some old ones; numbers are compared by their words. No program in this text. -/
import Derived.Test.YtofpojlnfncpcaaGreatDoorNuCanon
import Derived.Test.YtofpojlnfncpcaaGreatDoorCoRange
import Derived.RangeFuncWrites
import Derived.RangeFuncBox
namespace Go.Proofs.YtofpojlnfncpcaaGreatDoor
open Go.RowKit Go.Lib

/-- New blocks, and writes to such old ones as R says. -/
structure Ch (R : Nat → Prop) (w w' : World) : Prop where
  os : w'.os = w.os
  tape : w'.tape = w.tape
  output : w'.output = w.output
  size : w.heap.size ≤ w'.heap.size
  block : ∀ k, k < w.heap.size → ¬ R k → w'.heap[k]? = w.heap[k]?
theorem Ch.refl (R : Nat → Prop) (w : World) : Ch R w w := ⟨rfl, rfl, rfl, Nat.le_refl _, fun _ _ _ => rfl⟩
theorem Ch.trans {R : Nat → Prop} {a b c : World} (h : Ch R a b) (k : Ch R b c) : Ch R a c :=
  ⟨k.os.trans h.os, k.tape.trans h.tape, k.output.trans h.output, Nat.le_trans h.size k.size, fun i hi hn => (k.block i (Nat.lt_of_lt_of_le hi h.size) hn).trans (h.block i hi hn)⟩
theorem Ch.mono {R R' : Nat → Prop} {a b : World} (h : Ch R a b) (hR : ∀ k, k < a.heap.size → R k → R' k) : Ch R' a b :=
  ⟨h.os, h.tape, h.output, h.size, fun i hi hn => h.block i hi (fun hr => hn (hR i hi hr))⟩
theorem Ch.of_below {R : Nat → Prop} {a b : World} (h : Below a.heap.size a b) : Ch R a b := ⟨h.os, h.tape, h.output, h.size, fun k hk _ => h.block k hk⟩
theorem Ch.of_grown {R : Nat → Prop} {a b : World} {row : Option Nat} (h : a.grownBy b row) (hr : ∀ k, row = some k → R k) : Ch R a b :=
  ⟨h.os, h.tape, h.output, h.size, fun k hk hn => h.block k hk (fun e => hn (hr k e.symm))⟩
theorem Ch.behind {R : Nat → Prop} {w a b : World} (h : Ch (fun k => R k ∨ w.heap.size ≤ k) a b) (ha : Below w.heap.size w a) : Ch R w b :=
  ⟨h.os.trans ha.os, h.tape.trans ha.tape, h.output.trans ha.output, Nat.le_trans ha.size h.size, fun k hk hn => (h.block k (Nat.lt_of_lt_of_le hk ha.size) (fun e => e.elim hn (fun e => by omega))).trans (ha.block k hk)⟩
theorem Ch.alloc {R : Nat → Prop} {a b : World} (h : Ch R a b) (o : Obj) : Ch R a (b.alloc o) := h.trans (.of_grown (World.grownBy_alloc b o none) (fun _ e => by cases e))
theorem Ch.drew {R : Nat → Prop} {a b : World} (h : Ch R a b) : Ch R a b.drew := ⟨h.os, h.tape, h.output, h.size, h.block⟩
theorem Ch.setCell {R : Nat → Prop} {a b : World} (h : Ch R a b) {p : Addr} (hp : R p.block ∨ a.heap.size ≤ p.block) (u : Value) : Ch R a (b.setCell p u) :=
  ⟨h.os, h.tape, h.output, by simpa [World.setCell] using h.size, fun k hk hn => (Below.heap_setCell _ _ _ _ (fun e => hp.elim (fun h => hn (by rw [e]; exact h)) (fun h => by omega))).trans (h.block k hk hn)⟩
theorem Ch.below {R : Nat → Prop} {a b : World} (h : Ch R a b) {B : Nat} (hB : B ≤ a.heap.size) (hR : ∀ k, k < B → ¬ R k) : Below B a b :=
  ⟨h.os, h.tape, h.output, h.size, fun k hk => h.block k (by omega) (hR k hk)⟩
theorem Ch.cell {R : Nat → Prop} {a b : World} (h : Ch R a b) {p : Addr} (hp : p.block < a.heap.size) (hn : ¬ R p.block) : b.cell? p = a.cell? p := World.cell?_of_block (h.block p.block hp hn)
theorem Ch.frozen {R : Nat → Prop} {a b : World} (h : Ch R a b) {p : Addr} (hp : p.block < a.heap.size) (hn : ¬ R p.block) : b.frozen? p = a.frozen? p := World.frozen?_of_block (h.block p.block hp hn)

/-- The words of a list with their places, from the highest on. -/
def bwL (l : List Nat) : List (Nat × Nat) := (List.range l.length).reverse.map fun i => (i, l.getD i 0)
theorem bwL_snoc (t : List Nat) (x : Nat) : bwL (t ++ [x]) = (t.length, x) :: bwL t := by
  unfold bwL
  rw [List.length_append, List.length_singleton, List.range_succ, List.reverse_append, List.reverse_singleton, List.singleton_append, List.map_cons]
  congr 1
  · congr 1
    rw [List.getD_eq_getElem?_getD, List.getElem?_append_right (Nat.le_refl _), Nat.sub_self]; rfl
  · refine List.map_congr_left fun i hi => ?_
    rw [List.mem_reverse, List.mem_range] at hi
    rw [List.getD_eq_getElem?_getD, List.getD_eq_getElem?_getD, List.getElem?_append_left hi]
theorem cmp_at (a b : List Nat) (ha : Small a) (i : Nat) (hi : i < a.length) (hl : a.length = b.length) (he : a.drop (i + 1) = b.drop (i + 1)) (hlt : a.getD i 0 < b.getD i 0) : val a < val b := by
  have key : ∀ l : List Nat, i < l.length → val l = val (l.take i) + 1000000000 ^ i * (l.getD i 0 + 1000000000 * val (l.drop (i + 1))) := by
    intro l h
    have e : l = l.take i ++ (l.getD i 0 :: l.drop (i + 1)) := by
      conv => lhs; rw [← List.take_append_drop i l, List.drop_eq_getElem_cons h]
      rw [List.getD_eq_getElem?_getD, List.getElem?_eq_getElem h]; rfl
    conv => lhs; rw [e, val_app, List.length_take, Nat.min_eq_left (by omega), val]
  rw [key a hi, key b (by omega), he]
  have h1 := val_lt (a.take i) (ha.take i)
  rw [List.length_take, Nat.min_eq_left (by omega)] at h1
  have h2 : 1000000000 ^ i * (a.getD i 0 + 1000000000 * val (b.drop (i + 1)) + 1) ≤ 1000000000 ^ i * (b.getD i 0 + 1000000000 * val (b.drop (i + 1))) := Nat.mul_le_mul_left _ (by omega)
  rw [Nat.mul_add _ (a.getD i 0 + _) 1, Nat.mul_one] at h2
  omega
end Go.Proofs.YtofpojlnfncpcaaGreatDoor

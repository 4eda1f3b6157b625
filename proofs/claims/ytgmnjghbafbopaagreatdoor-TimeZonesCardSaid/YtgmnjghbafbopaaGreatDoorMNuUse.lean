/- The laws of num: what a call gives, in any later world; the laws' own small functions. -/
import Derived.Test.YtgmnjghbafbopaaGreatDoorMNuOps3
import Derived.Test.YtgmnjghbafbopaaGreatDoorMNuA
namespace Go.Proofs.YtgmnjghbafbopaaGreatDoor
open Go.RowKit Go.Lib

/-- A function gives this value in each later world. -/
def On (w : World) (f : Nat) (args : Array Value) (v : Value) : Prop :=
  ∀ W, Below w.heap.size w W → Calls Tryz.prog f args W fun e w' => e = .returned v ∧ Below w.heap.size w w'
theorem on_of {w : World} (hg : GrN w) {f : Nat} {args : Array Value} {v : Value} (h : ∀ W, GrN W → Calls Tryz.prog f args W fun e w' => e = .returned v ∧ Below W.heap.size W w') : On w f args v :=
  fun W hW => (h W (hg.later hW)).mono fun _ _ k => ⟨k.1, hW.trans (k.2.mono hW.size)⟩
theorem On.use {w : World} {f : Nat} {args : Array Value} {v : Value} (h : On w f args v) (W : World) (hW : Below w.heap.size w W) : Calls Tryz.prog f args W fun e w' => e = .returned v ∧ Below w.heap.size w w' := h W hW
theorem res_ex (r : List UInt8 × Int) : ∃ (s : ByteArray) (z : Int), r = (s.data.toList, z) := ⟨⟨r.1.toArray⟩, r.2, rfl⟩
theorem resV_on {r : List UInt8 × Int} {s : ByteArray} {z : Int} (h : r = (s.data.toList, z)) : resV r = .tuple #[.string s, .int .i64 z] := by subst h; rfl
theorem bytes_eq {a b : ByteArray} : a = b ↔ a.data.toList = b.data.toList := ⟨fun h => by rw [h], fun h => ByteArray.ext (Array.toList_inj.1 h)⟩
theorem canonR_size {s : ByteArray} {z : Int} (h : CanonR (s.data.toList, z)) : s.size ≤ 52 := by
  have e : s.size = s.data.toList.length := ba_len s
  rcases h with ⟨_, h⟩ | ⟨_, _, h⟩
  · simp only at h; rw [e, h]; simp
  · rw [e]; exact h

section
variable {w : World} (hg : GrN w)
include hg
theorem parse_on (s r : ByteArray) (z : Int) (hs : s.size < 4294967281) (h : readR s.data.toList = (r.data.toList, z)) : On w 33 #[.string s] (.tuple #[.string r, .int .i64 z]) := on_of hg fun W hW => by
  rw [← resV_on h]; exact parse_of_any s hs W hW
theorem add_on (a b r : ByteArray) (z : Int) (ha : a.size < 4294967281) (hb : b.size < 4294967281) (h : addR a.data.toList b.data.toList = (r.data.toList, z)) : On w 35 #[.string a, .string b] (.tuple #[.string r, .int .i64 z]) := on_of hg fun W hW => by
  rw [← resV_on h]; exact add_of_any a b ha hb W hW
theorem mul_on (a b r : ByteArray) (z : Int) (ha : a.size < 4294967281) (hb : b.size < 4294967281) (h : mulR a.data.toList b.data.toList = (r.data.toList, z)) : On w 110 #[.string a, .string b] (.tuple #[.string r, .int .i64 z]) := on_of hg fun W hW => by
  rw [← resV_on h]; exact mul_of_any a b ha hb W hW
theorem quo_on (a b r : ByteArray) (z : Int) (ha : a.size < 4294967281) (hb : b.size < 4294967281) (h : quoR a.data.toList b.data.toList = (r.data.toList, z)) : On w 41 #[.string a, .string b] (.tuple #[.string r, .int .i64 z]) := on_of hg fun W hW => by
  rw [← resV_on h]; exact quo_of_any a b ha hb W hW
theorem idiv_on (a b r : ByteArray) (z : Int) (ha : a.size < 4294967281) (hb : b.size < 4294967281) (h : idivR a.data.toList b.data.toList = (r.data.toList, z)) : On w 193 #[.string a, .string b] (.tuple #[.string r, .int .i64 z]) := on_of hg fun W hW => by
  rw [← resV_on h]; exact idiv_of_any a b ha hb W hW
theorem mod_on (a b r : ByteArray) (z : Int) (ha : a.size < 4294967281) (hb : b.size < 4294967281) (h : modR a.data.toList b.data.toList = (r.data.toList, z)) : On w 194 #[.string a, .string b] (.tuple #[.string r, .int .i64 z]) := on_of hg fun W hW => by
  rw [← resV_on h]; exact mod_of_any a b ha hb W hW
theorem neg_on (a r : ByteArray) (z : Int) (ha : a.size < 4294967281) (h : negR a.data.toList = (r.data.toList, z)) : On w 144 #[.string a] (.tuple #[.string r, .int .i64 z]) := on_of hg fun W hW => by
  rw [← resV_on h]; exact neg_of_any a ha W hW
theorem round_on (a how r : ByteArray) (d z : Int) (ha : a.size < 4294967281) (h : roundR a.data.toList d how.data.toList = (r.data.toList, z)) : On w 34 #[.string a, .int .i64 d, .string how] (.tuple #[.string r, .int .i64 z]) := on_of hg fun W hW => by
  rw [← resV_on h]; exact round_of_any a how d ha W hW
theorem cmp_on (a b : ByteArray) (n z : Int) (ha : a.size < 4294967281) (hb : b.size < 4294967281) (h : cmpR a.data.toList b.data.toList = (n, z)) : On w 31 #[.string a, .string b] (.tuple #[.int .i64 n, .int .i64 z]) := on_of hg fun W hW => by
  have := cmp_of_any a b ha hb W hW
  rw [h] at this
  exact this

end
end Go.Proofs.YtgmnjghbafbopaaGreatDoor

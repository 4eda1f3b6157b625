/- The laws of dur: what a call gives, in any later world; the examples that every law asks. -/
import Derived.Test.YtdfgifnccghlmabGreatDoorMDuMonths
namespace Go.Proofs.YtdfgifnccghlmabGreatDoor
open Go.RowKit Go.Lib

theorem onD_of {w : World} (hg : GrD w) {f : Nat} {args : Array Value} {v : Value} (h : ∀ W, GrD W → Calls Tryz.prog f args W fun e w' => e = .returned v ∧ Below W.heap.size W w') : On w f args v :=
  fun W hW => (h W (hg.later hW)).mono fun _ _ k => ⟨k.1, hW.trans (k.2.mono hW.size)⟩
section
variable {w : World} (hg : GrD w)
include hg
theorem parseM_on (s : ByteArray) (n z : Int) (h : parseM s.data.toList = (n, z)) : On w 11 #[.string s] (.tuple #[.int .i64 n, .int .i64 z]) := onD_of hg fun W hW => by
  have := parseMonths_du s W hW
  rw [h] at this
  exact this
theorem textM_on (n : Int) (h1 : -9223372036854775808 ≤ n) (h2 : n ≤ 9223372036854775807) (s : ByteArray) (z : Int) (h : textM n = (s.data.toList, z)) : On w 14 #[.int .i64 n] (.tuple #[.string s, .int .i64 z]) := onD_of hg fun W hW => by
  rw [← resV_on h]; exact textMonths_du n h1 h2 W hW.num
theorem parseS_on (s r : ByteArray) (z : Int) (h : parseS s.data.toList = (r.data.toList, z)) : On w 16 #[.string s] (.tuple #[.string r, .int .i64 z]) := onD_of hg fun W hW => by
  rw [← resV_on h]; exact parseSeconds_du s W hW.num
theorem textS_on (n r : ByteArray) (z : Int) (hn : n.size < 4294967281) (h : textS n.data.toList = (r.data.toList, z)) : On w 18 #[.string n] (.tuple #[.string r, .int .i64 z]) := onD_of hg fun W hW => by
  rw [← resV_on h]; exact textSeconds_du n hn W hW.num
set_option maxRecDepth 100000 in
set_option maxHeartbeats 4000000 in
theorem works_du : On w 13 #[] (.bool true) := onD_of hg fun W hW => by
  have c1 := (parseM_on hW ⟨#[80, 49, 89, 50, 77]⟩ 14 0 (by decide +kernel)).use
  have c2 := (textM_on hW 14 (by omega) (by omega) ⟨#[80, 49, 89, 50, 77]⟩ 0 (by decide +kernel)).use
  have c3 := (parseS_on hW ⟨#[80, 49, 68, 84, 50, 72, 51, 77, 52, 46, 53, 83]⟩ ⟨#[57, 51, 55, 56, 52, 46, 53]⟩ 0 (by decide +kernel)).use
  have c4 := (textS_on hW ⟨#[57, 51, 55, 56, 52, 46, 53]⟩ ⟨#[80, 49, 68, 84, 50, 72, 51, 77, 52, 46, 53, 83]⟩ 0 (by decide) (by decide +kernel)).use
  clear hW hg
  go_enter Tryz.func13, Tryz.ntmps13
  go_wp2_with fail
  refine (c1 W (Below.refl _ _)).mono ?_
  rintro e w1 ⟨rfl, b1⟩
  go_wp2_with fail
  refine (c2 w1 b1).mono ?_
  rintro e w2 ⟨rfl, b2⟩
  go_wp2_with fail
  refine (c3 w2 b2).mono ?_
  rintro e w3 ⟨rfl, b3⟩
  go_wp2_with fail
  refine (c4 w3 b3).mono ?_
  rintro e w4 ⟨rfl, b4⟩
  go_wp2_with fail
  go_ret
  exact ⟨rfl, b4⟩
end
end Go.Proofs.YtdfgifnccghlmabGreatDoor

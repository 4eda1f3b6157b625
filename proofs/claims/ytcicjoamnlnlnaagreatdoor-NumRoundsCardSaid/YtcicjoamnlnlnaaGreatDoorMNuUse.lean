/- The laws of num: what a call gives, in any later world; the laws' own small functions. -/
import Derived.Test.YtcicjoamnlnlnaaGreatDoorMNuOps3
import Derived.Test.YtcicjoamnlnlnaaGreatDoorMNuA
namespace Go.Proofs.YtcicjoamnlnlnaaGreatDoor
open Go.RowKit Go.Lib

/-- A function gives this value in each later world. -/
def On (w : World) (f : Nat) (args : Array Value) (v : Value) : Prop :=
  ∀ W, Below w.heap.size w W → Calls Tryz.prog f args W fun e w' => e = .returned v ∧ Below w.heap.size w w'
theorem on_of {w : World} (hg : GrN w) {f : Nat} {args : Array Value} {v : Value} (h : ∀ W, GrN W → Calls Tryz.prog f args W fun e w' => e = .returned v ∧ Below W.heap.size W w') : On w f args v :=
  fun W hW => (h W (hg.later hW)).mono fun _ _ k => ⟨k.1, hW.trans (k.2.mono hW.size)⟩
theorem On.use {w : World} {f : Nat} {args : Array Value} {v : Value} (h : On w f args v) (W : World) (hW : Below w.heap.size w W) : Calls Tryz.prog f args W fun e w' => e = .returned v ∧ Below w.heap.size w w' := h W hW
theorem res_ex (r : List UInt8 × Int) : ∃ (s : ByteArray) (z : Int), r = (s.data.toList, z) := ⟨⟨r.1.toArray⟩, r.2, rfl⟩
theorem resV_on {r : List UInt8 × Int} {s : ByteArray} {z : Int} (h : r = (s.data.toList, z)) : resV r = .tuple #[.string s, .int .i64 z] := by subst h; rfl
theorem bytes_eq {a b : ByteArray} : a = b ↔ a.data.toList = b.data.toList := ⟨fun h => by rw [h], fun h => ByteArray.ext (Array.toList_inj.1 h)⟩
theorem canonR_size {s : ByteArray} {z : Int} (h : CanonR (s.data.toList, z)) : s.size ≤ 52 := by
  have e : s.size = s.data.toList.length := ba_len s
  rcases h with ⟨_, h⟩ | ⟨_, _, h⟩
  · simp only at h; rw [e, h]; simp
  · rw [e]; exact h

section
variable {w : World} (hg : GrN w)
include hg
theorem parse_on (s r : ByteArray) (z : Int) (hs : s.size < 4294967281) (h : readR s.data.toList = (r.data.toList, z)) : On w 14 #[.string s] (.tuple #[.string r, .int .i64 z]) := on_of hg fun W hW => by
  rw [← resV_on h]; exact parse_of_any s hs W hW
theorem isInt_on (s : ByteArray) (b : Bool) (hs : s.size < 4294967281) (h : isIntR s.data.toList = b) : On w 16 #[.string s] (.bool b) := on_of hg fun W hW => by
  rw [← h]; exact isInt_of_any s hs W hW
theorem add_on (a b r : ByteArray) (z : Int) (ha : a.size < 4294967281) (hb : b.size < 4294967281) (h : addR a.data.toList b.data.toList = (r.data.toList, z)) : On w 19 #[.string a, .string b] (.tuple #[.string r, .int .i64 z]) := on_of hg fun W hW => by
  rw [← resV_on h]; exact add_of_any a b ha hb W hW
theorem sub_on (a b r : ByteArray) (z : Int) (ha : a.size < 4294967281) (hb : b.size < 4294967281) (h : subR a.data.toList b.data.toList = (r.data.toList, z)) : On w 21 #[.string a, .string b] (.tuple #[.string r, .int .i64 z]) := on_of hg fun W hW => by
  rw [← resV_on h]; exact sub_of_any a b ha hb W hW
theorem mul_on (a b r : ByteArray) (z : Int) (ha : a.size < 4294967281) (hb : b.size < 4294967281) (h : mulR a.data.toList b.data.toList = (r.data.toList, z)) : On w 23 #[.string a, .string b] (.tuple #[.string r, .int .i64 z]) := on_of hg fun W hW => by
  rw [← resV_on h]; exact mul_of_any a b ha hb W hW
theorem quo_on (a b r : ByteArray) (z : Int) (ha : a.size < 4294967281) (hb : b.size < 4294967281) (h : quoR a.data.toList b.data.toList = (r.data.toList, z)) : On w 27 #[.string a, .string b] (.tuple #[.string r, .int .i64 z]) := on_of hg fun W hW => by
  rw [← resV_on h]; exact quo_of_any a b ha hb W hW
theorem idiv_on (a b r : ByteArray) (z : Int) (ha : a.size < 4294967281) (hb : b.size < 4294967281) (h : idivR a.data.toList b.data.toList = (r.data.toList, z)) : On w 29 #[.string a, .string b] (.tuple #[.string r, .int .i64 z]) := on_of hg fun W hW => by
  rw [← resV_on h]; exact idiv_of_any a b ha hb W hW
theorem mod_on (a b r : ByteArray) (z : Int) (ha : a.size < 4294967281) (hb : b.size < 4294967281) (h : modR a.data.toList b.data.toList = (r.data.toList, z)) : On w 31 #[.string a, .string b] (.tuple #[.string r, .int .i64 z]) := on_of hg fun W hW => by
  rw [← resV_on h]; exact mod_of_any a b ha hb W hW
theorem neg_on (a r : ByteArray) (z : Int) (ha : a.size < 4294967281) (h : negR a.data.toList = (r.data.toList, z)) : On w 25 #[.string a] (.tuple #[.string r, .int .i64 z]) := on_of hg fun W hW => by
  rw [← resV_on h]; exact neg_of_any a ha W hW
theorem round_on (a how r : ByteArray) (d z : Int) (ha : a.size < 4294967281) (h : roundR a.data.toList d how.data.toList = (r.data.toList, z)) : On w 35 #[.string a, .int .i64 d, .string how] (.tuple #[.string r, .int .i64 z]) := on_of hg fun W hW => by
  rw [← resV_on h]; exact round_of_any a how d ha W hW
theorem cmp_on (a b : ByteArray) (n z : Int) (ha : a.size < 4294967281) (hb : b.size < 4294967281) (h : cmpR a.data.toList b.data.toList = (n, z)) : On w 33 #[.string a, .string b] (.tuple #[.int .i64 n, .int .i64 z]) := on_of hg fun W hW => by
  have := cmp_of_any a b ha hb W hW
  rw [h] at this
  exact this

set_option maxRecDepth 100000 in
set_option maxHeartbeats 4000000 in
theorem works_on : On w 13 #[] (.bool true) := on_of hg fun W hW => by
  have c1 := (parse_on hW ⟨#[43, 48, 48, 55, 46, 53, 48]⟩ ⟨#[55, 46, 53]⟩ 0 (by decide) (by decide +kernel)).use
  have c2 := (quo_on hW ⟨#[50]⟩ ⟨#[51]⟩ ⟨#[48, 46, 54, 54, 54, 54, 54, 54, 54, 54, 54, 54, 54, 54, 54, 54, 54, 54, 54, 54, 54, 55]⟩ 0 (by decide) (by decide) (by decide +kernel)).use
  have c3 := (mod_on hW ⟨#[55, 46, 53]⟩ ⟨#[45, 50]⟩ ⟨#[49, 46, 53]⟩ 0 (by decide) (by decide) (by decide +kernel)).use
  have c4 := (round_on hW ⟨#[45, 50, 46, 53]⟩ ⟨#[104, 97, 108, 102]⟩ ⟨#[45, 50]⟩ 0 0 (by decide) (by decide +kernel)).use
  clear hW hg
  go_enter Tryz.func13, Tryz.ntmps13
  go_wp2_with fail
  refine (c1 W (Below.refl _ _)).mono ?_
  rintro e w1 ⟨rfl, b1⟩
  go_wp2_with fail
  refine (c2 w1 b1).mono ?_
  rintro e w2 ⟨rfl, b2⟩
  go_wp2_with fail
  refine (c3 w2 b2).mono ?_
  rintro e w3 ⟨rfl, b3⟩
  go_wp2_with fail
  refine (c4 w3 b3).mono ?_
  rintro e w4 ⟨rfl, b4⟩
  go_wp2_with fail
  go_ret
  exact ⟨rfl, b4⟩
set_option maxRecDepth 100000 in
set_option maxHeartbeats 4000000 in
theorem long_on (a b : ByteArray) : On w 18 #[.string a, .string b] (.bool (decide (300 < (a.size : Int)) || decide (300 < (b.size : Int)))) := on_of hg fun W hW => by
  clear hW hg
  by_cases h : 300 < (a.size : Int)
  · go_enter Tryz.func18, Tryz.ntmps18
    go_wp2_with fail
    go_ret
    exact ⟨by rw [decide_eq_true h]; rfl, Below.refl _ _⟩
  · go_enter Tryz.func18, Tryz.ntmps18
    go_wp2_with fail
    go_ret
    exact ⟨by rw [decide_eq_false (show ¬ 300 < (a.size : Int) by omega)]; rfl, Below.refl _ _⟩
set_option maxRecDepth 100000 in
set_option maxHeartbeats 4000000 in
theorem canonical_on (s : ByteArray) (z : Int) (h : CanonR (s.data.toList, z)) : On w 37 #[.string s, .int .i64 z] (.bool true) := by
  have hsz := canonR_size h
  rcases h with ⟨hz, hs⟩ | ⟨hz, hp, hl⟩
  · have hs0 : s = ⟨#[]⟩ := bytes_eq.2 hs
    subst hs0
    simp only at hz
    refine on_of hg fun W hW => ?_
    clear hW hg hs hsz
    go_enter Tryz.func37, Tryz.ntmps37
    go_wp2_with fail
    go_ret
    exact ⟨rfl, Below.refl _ _⟩
  · simp only at hz hp
    subst hz
    refine on_of hg fun W hW => ?_
    have c1 := (parse_on hW s s 0 (by omega) hp).use
    clear hW hg hp hl hsz
    go_enter Tryz.func37, Tryz.ntmps37
    go_wp2_with fail
    refine (c1 W (Below.refl _ _)).mono ?_
    rintro e w1 ⟨rfl, b1⟩
    go_wp2_with fail
    go_ret
    exact ⟨by simp, b1⟩
set_option maxRecDepth 100000 in
set_option maxHeartbeats 4000000 in
theorem abs_on (s r : ByteArray) (h : absL s.data.toList = r.data.toList) : On w 38 #[.string s] (.string r) := on_of hg fun W hW => by
  clear hW hg
  by_cases h0 : s.size = 0
  · have hd : s.data.toList = [] := List.eq_nil_of_length_eq_zero (by rw [Array.length_toList]; exact h0)
    have hr : r = s := by rw [bytes_eq, ← h, hd]; rfl
    have h0z : ¬ 0 < (s.size : Int) := by omega
    subst hr
    clear h hd h0
    go_enter Tryz.func38, Tryz.ntmps38
    go_wp2_with fail
    go_ret
    exact ⟨rfl, Below.refl _ _⟩
  · have hp : 0 < s.size := by omega
    have hpz : 0 < (s.size : Int) := by omega
    have hpl : 0 < s.data.toList.length := by rw [Array.length_toList]; exact hp
    have hd : s.data.toList = s[0] :: s.data.toList.drop 1 := by
      have := List.drop_eq_getElem_cons hpl
      rw [List.drop_zero] at this
      exact this
    by_cases h1 : s[0] = 45
    · have h1n : s[0].toNat = 45 := by rw [h1]; rfl
      have hr : r = s.extract 1 s.size := by
        rw [bytes_eq, ← h]
        conv => lhs; rw [hd]
        rw [absL, if_pos h1, ByteArray.data_extract, Array.toList_extract, List.extract_eq_take_drop]
        exact (List.take_of_length_le (by rw [List.length_drop, Array.length_toList]; exact Nat.le_refl _)).symm
      subst hr
      clear h hd h0 h1
      go_enter Tryz.func38, Tryz.ntmps38
      go_wp2_with fail
      go_ret
      exact ⟨rfl, Below.refl _ _⟩
    · have h1n : ¬ s[0].toNat = 45 := fun e => h1 (UInt8.toNat.inj e)
      have hr : r = s := by
        rw [bytes_eq, ← h]
        conv => lhs; rw [hd]
        rw [absL, if_neg h1, ← hd]
      subst hr
      clear h hd h0 h1
      go_enter Tryz.func38, Tryz.ntmps38
      go_wp2_with fail
      go_ret
      exact ⟨rfl, Below.refl _ _⟩
end
end Go.Proofs.YtcicjoamnlnlnaaGreatDoor

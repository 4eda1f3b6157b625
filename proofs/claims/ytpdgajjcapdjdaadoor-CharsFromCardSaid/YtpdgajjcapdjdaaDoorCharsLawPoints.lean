/- CharsPoints: the code points of strings are as the specification has them: the law's walks. -/
import Derived.Test.YtpdgajjcapdjdaaDoorCharsRefPoints
namespace Go.Proofs.YtpdgajjcapdjdaaDoor
open Go.RowKit Go.Lib

set_option maxHeartbeats 2000000 in
set_option maxRecDepth 100000 in
theorem sameInts_any (a b : Option Addr) (n ca cb : Nat) (zs : List Int) (w : World) (hn : zs.length = n) (ha : Ints w (.slice a n ca) zs) (hb : Ints w (.slice b n cb) zs) (_hs : n ≤ 17592186044416) :
    Calls Tryd.prog 24 #[.slice a n ca, .slice b n cb] w fun e w' => e = .returned (.bool true) ∧ Below w.heap.size w w' := by
  have hne : ((n : Int) != (n : Int)) = false := by simp
  have HA := Lib.hid ha
  have HB := Lib.hid hb
  clear ha hb
  subst hn
  go_enter Tryd.func24, Tryd.ntmps24
  go_wp2
  go_loopg [5] zs.length (fun g s5 wx => ∃ (i dr : Nat), s5 = .int .i64 i ∧ i + g = zs.length ∧ wx = w.drewN dr)
  case atStart => exact ⟨0, 0, rfl, by omega, rfl⟩
  case round =>
    obtain ⟨i, dr, rfl, hig, rfl⟩ := hrel
    by_cases hlt : i < zs.length
    · obtain ⟨g, rfl⟩ : ∃ g, gk = g + 1 := ⟨gk - 1, by omega⟩
      have hqi : zs[i]? = some zs[i] := List.getElem?_eq_getElem hlt
      obtain ⟨b1, o1, rfl, hc1⟩ := HA.out.cell i _ hqi
      obtain ⟨b2, o2, rfl, hc2⟩ := HB.out.cell i _ hqi
      generalize zs[i] = z at hc1 hc2
      clear HA HB hqi hne
      go_wp2
      go_quiet (fail)
      go_wp2
      go_roundg g
      case measure => omega
      case rel => exact ⟨i + 1, _, by go_num, by omega, rfl⟩
    · have hz : ¬ ((i : Int) < (zs.length : Int)) := by omega
      go_wp2
      go_ret
      exact ⟨rfl, below_drewN (Below.refl _ _) _⟩
theorem sameInts_is (v v' : Value) (zs : List Int) (w : World) (ha : Ints w v zs) (hb : Ints w v' zs) (hs : zs.length ≤ 17592186044416) :
    Calls Tryd.prog 24 #[v, v'] w fun e w' => e = .returned (.bool true) ∧ Below w.heap.size w w' := by
  obtain ⟨a, ca, rfl⟩ := ha.len
  obtain ⟨b, cb, rfl⟩ := hb.len
  exact sameInts_any a b _ ca cb zs w rfl ha hb hs
theorem refPoints_ints (s : ByteArray) (p : List Nat) (h : text s.data.toList = true) (hp : codes s.data.toList = p) (w : World) (hs : s.size ≤ 17592186044416) :
    Calls Tryd.prog 23 #[.string s] w fun e w' => ∃ v, e = .returned (.tuple #[v, .int .i64 0]) ∧ Ints w' v (p.map fun (c : Nat) => (c : Int)) ∧ Below w.heap.size w w' := by
  have := refPoints_yes s w hs h
  rw [hp] at this
  refine this.mono ?_
  rintro e w' ⟨v, rfl, hown, hb⟩
  exact ⟨v, rfl, Ints.own hown rfl, hb⟩
theorem points_big1 (s : ByteArray) (w : World) (hg : Gr w) (h : 2000 < s.size) :
    Calls Tryd.prog 5 #[.string s] w fun e w' => e = .returned (.bool true) ∧ Below w.heap.size w w' := by
  have hz : (2000 : Int) < (s.size : Int) := by omega
  go_enter Tryd.func5, Tryd.ntmps5
  have hb0 : Below w.heap.size w w := Below.refl _ _
  have hg0 := hg
  go_wp2_with fail
  refine (works_any _ hg0).mono ?_
  rintro e w1 ⟨rfl, hx⟩
  have hb1 := hb0.trans (hx.mono hb0.size)
  have hg1 := hg.later hb1
  clear hx hb0 hg0
  go_wp2
  go_ret
  exact ⟨rfl, hb1⟩
set_option maxHeartbeats 1000000 in
theorem points_text (s : ByteArray) (w : World) (hg : Gr w) (h : ¬ 2000 < s.size) (p : List Nat) (hpl : p.length ≤ 2000) (HT : Hid (text s.data.toList = true)) (HP : Hid (codes s.data.toList = p)) :
    Calls Tryd.prog 5 #[.string s] w fun e w' => e = .returned (.bool true) ∧ Below w.heap.size w w' := by
  have hz : ¬ (2000 : Int) < (s.size : Int) := by omega
  go_enter Tryd.func5, Tryd.ntmps5
  have hb0 : Below w.heap.size w w := Below.refl _ _
  have hg0 := hg
  go_wp2_with fail
  refine (points_is s p HT.out HP.out _ (by omega) hg0).mono ?_
  rintro e w1 ⟨a1, cap1, rfl, hi1, hx⟩
  have hb1 := hb0.trans (hx.mono hb0.size)
  have hg1 := hg.later hb1
  clear hx hb0 hg0
  go_wp2_with fail
  refine (refPoints_ints s p HT.out HP.out _ (by omega)).mono ?_
  rintro e w2 ⟨v2, rfl, hi2, hx⟩
  have hi1' := hi1.later hx
  have hb2 := hb1.trans (hx.mono hb1.size)
  have hg2 := hg.later hb2
  clear hx hb1 hg1 hi1
  go_wp2_with fail
  refine (sameInts_is _ _ _ _ hi1' hi2 (by rw [List.length_map]; omega)).mono ?_
  rintro e w3 ⟨rfl, hx⟩
  have hb3 := hb2.trans (hx.mono hb2.size)
  have hg3 := hg.later hb3
  clear hx hb2 hg2
  go_wp2_with fail
  refine (works_any _ hg3).mono ?_
  rintro e w4 ⟨rfl, hx⟩
  have hb4 := hb3.trans (hx.mono hb3.size)
  have hg4 := hg.later hb4
  clear hx hb3 hg3
  go_wp2
  go_ret
  exact ⟨rfl, hb4⟩
set_option maxHeartbeats 1000000 in
theorem points_none (s : ByteArray) (w : World) (hg : Gr w) (h : ¬ 2000 < s.size) (HT : Hid (text s.data.toList = false)) :
    Calls Tryd.prog 5 #[.string s] w fun e w' => e = .returned (.bool true) ∧ Below w.heap.size w w' := by
  have hz : ¬ (2000 : Int) < (s.size : Int) := by omega
  go_enter Tryd.func5, Tryd.ntmps5
  have hb0 : Below w.heap.size w w := Below.refl _ _
  have hg0 := hg
  go_wp2_with fail
  refine (points_bad s HT.out _ (by omega) hg0).mono ?_
  rintro e w1 ⟨rfl, hx⟩
  have hb1 := hb0.trans (hx.mono hb0.size)
  have hg1 := hg.later hb1
  clear hx hb0 hg0
  go_wp2_with fail
  refine (refPoints_no s _ (by omega) HT.out).mono ?_
  rintro e w2 ⟨rfl, hx⟩
  have hb2 := hb1.trans (hx.mono hb1.size)
  have hg2 := hg.later hb2
  clear hx hb1 hg1
  go_wp2_with fail
  refine (sameInts_is (.slice none 0 0) (.slice none 0 0) [] _ (.inl ⟨none, 0, rfl, rfl⟩) (.inl ⟨none, 0, rfl, rfl⟩) (by simp)).mono ?_
  rintro e w3 ⟨rfl, hx⟩
  have hb3 := hb2.trans (hx.mono hb2.size)
  have hg3 := hg.later hb3
  clear hx hb2 hg2
  go_wp2_with fail
  refine (works_any _ hg3).mono ?_
  rintro e w4 ⟨rfl, hx⟩
  have hb4 := hb3.trans (hx.mono hb3.size)
  have hg4 := hg.later hb4
  clear hx hb3 hg3
  go_wp2
  go_ret
  exact ⟨rfl, hb4⟩
theorem points_law (s : ByteArray) (w : World) (hg : Gr w) :
    Calls Tryd.prog 5 #[.string s] w fun e w' => e = .returned (.bool true) ∧ Below w.heap.size w w' := by
  by_cases h : 2000 < s.size
  · exact points_big1 s w hg h
  · have hl := codes_len s.data.toList
    rw [← size_eq] at hl
    cases hT : text s.data.toList
    · exact points_none s w hg h (Lib.hid hT)
    · exact points_text s w hg h _ (by omega) (Lib.hid hT) (Lib.hid rfl)
end Go.Proofs.YtpdgajjcapdjdaaDoor

/- CharsFrom: the texts of code points are as the specification has them; the list stays as it is: the law's walks. -/
import Derived.Test.YtpdgajjcapdjdaaDoorCharsRefForm
import Derived.Test.YtpdgajjcapdjdaaDoorCharsLawPoints
namespace Go.Proofs.YtpdgajjcapdjdaaDoor
open Go.RowKit Go.Lib

theorem from_big (a : Option Addr) (n cap : Nat) (w : World) (hg : Gr w) (h : 2000 < n) :
    Calls Tryd.prog 6 #[.slice a n cap] w fun e w' => e = .returned (.bool true) ∧ Below w.heap.size w w' := by
  have hz : (2000 : Int) < (n : Int) := by omega
  go_enter Tryd.func6, Tryd.ntmps6
  have hb0 : Below w.heap.size w w := Below.refl _ _
  have hg0 := hg
  go_wp2_with fail
  refine (works_any _ hg0).mono ?_
  rintro e w1 ⟨rfl, hx⟩
  have hb1 := hb0.trans (hx.mono hb0.size)
  have hg1 := hg.later hb1
  clear hx hb0 hg0
  go_wp2
  go_ret
  exact ⟨rfl, hb1⟩
theorem made_empty (w : World) : (w.alloc (.cells #[] 3)).ownsRow w.heap.size 3 1 (.slice (some ⟨w.heap.size, 0, none⟩) 0 0) 0 [] :=
  World.ownsRow_made w #[] 0 (Nat.le_refl _) (by unfold maxLen; omega) rfl
theorem ints_own {w : World} {B n : Nat} {v : Value} {zs : List Int} (h : w.ownsRow B 3 1 v n (zs.map (Value.int .i64))) (hn : n = zs.length) : Ints w v zs := by
  subst hn
  rcases h.2 with ⟨rfl, h0⟩ | ⟨g, cap, cur, rfl, _⟩
  · exact .inl ⟨none, 0, rfl, List.eq_nil_of_length_eq_zero h0⟩
  · refine .inr ⟨g, 0, cap, rfl, fun j z hj => ?_⟩
    have hjl : j < zs.length := (List.getElem?_eq_some_iff.1 hj).1
    rw [Nat.zero_add, h.cellAt j (by omega), List.getElem?_map, hj]; rfl
set_option maxHeartbeats 2000000 in
set_option maxRecDepth 100000 in
theorem from_good_some (ad : Addr) (n cap : Nat) (zs : List Int) (w : World) (hg : Gr w) (h : ¬ 2000 < n) (hzn : zs.length = n) (HV : Hid (Ints w (.slice (some ad) n cap) zs)) (r : ByteArray) (HA : Hid (zs.all chrZ = true)) (HR : Hid (formZ zs = r.data.toList)) (HS : Hid (∀ (j : Nat) u, (zs.map (Value.int .i64))[j]? = some u → (w.alloc (.cells #[] 3)).cell? (ad.add j) = some u)) :
    Calls Tryd.prog 6 #[.slice (some ad) n cap] w fun e w' => e = .returned (.bool true) ∧ Below w.heap.size w w' := by
  have hz : ¬ (2000 : Int) < (n : Int) := by omega
  obtain ⟨i0, hi, hz0, hz1, hz2⟩ := info_parts infoInt
  have hown0 := made_empty w
  have hb00 : Below w.heap.size w (w.alloc (.cells #[] 3)) := (Below.refl _ w).alloc (Nat.le_refl _) _
  go_enter Tryd.func6, Tryd.ntmps6
  go_wp2_with (at_builtin; go_must (refine wpList_append_own _ rfl (.tmp 12) (.tmp 13) 25 rfl w.heap.size 3 i0 (.int .i64 0) 1 8 Tryd.underlying25 hi hz0 hz1 hz2 rfl (by decide) _ _ _ rfl hown0 ad n cap (zs.map (Value.int .i64)) rfl (by rw [List.length_map]; omega) HS.out (by intro u hu; obtain ⟨z, _, rfl⟩ := List.mem_map.1 hu; rfl) (by unfold maxLen; omega) (by omega) (by simp) ?_; intro v3 w1 hown3 hgrow3 _))
  have hb1 : Below w.heap.size w w1 := hb00.grown hgrow3 (by simp) (fun j hj => (hown0.lt j hj).1)
  rw [Nat.zero_add, List.nil_append] at hown3
  have hi1 : Ints w1 v3 zs := ints_own hown3 hzn.symm
  have hg1 := hg.later hb1
  clear hown0 hb00 hown3 hgrow3
  go_wp2_with fail
  refine (from_is _ zs r HA.out HR.out _ (HV.out.later hb1) (by omega)).mono ?_
  rintro e w2 ⟨rfl, hx⟩
  have hi2 := hi1.later hx
  have hb2 := hb1.trans (hx.mono hb1.size)
  clear hx hi1 hb1 hg1
  go_wp2_with fail
  refine (refFrom_is _ zs r HA.out HR.out _ (HV.out.later hb2) (by omega)).mono ?_
  rintro e w3 ⟨rfl, hx⟩
  have hi3 := hi2.later hx
  have hb3 := hb2.trans (hx.mono hb2.size)
  have hg3 := hg.later hb3
  clear hx hi2 hb2
  go_wp2_with fail
  refine (sameInts_is _ _ zs _ (HV.out.later hb3) hi3 (by omega)).mono ?_
  rintro e w4 ⟨rfl, hx⟩
  have hb4 := hb3.trans (hx.mono hb3.size)
  have hg4 := hg.later hb4
  clear hx hb3 hg3
  go_wp2_with fail
  refine (works_any _ hg4).mono ?_
  rintro e w5 ⟨rfl, hx⟩
  have hb5 := hb4.trans (hx.mono hb4.size)
  have hg5 := hg.later hb5
  clear hx hb4 hg4
  go_wp2
  go_ret
  exact ⟨rfl, hb5⟩
set_option maxHeartbeats 2000000 in
set_option maxRecDepth 100000 in
theorem from_bad_some (ad : Addr) (n cap : Nat) (zs : List Int) (w : World) (hg : Gr w) (h : ¬ 2000 < n) (hzn : zs.length = n) (HV : Hid (Ints w (.slice (some ad) n cap) zs)) (HA : Hid (zs.all chrZ = false)) (HW : Hid (∀ z ∈ zs, -9223372036854775808 ≤ z ∧ z ≤ 9223372036854775807)) (HS : Hid (∀ (j : Nat) u, (zs.map (Value.int .i64))[j]? = some u → (w.alloc (.cells #[] 3)).cell? (ad.add j) = some u)) :
    Calls Tryd.prog 6 #[.slice (some ad) n cap] w fun e w' => e = .returned (.bool true) ∧ Below w.heap.size w w' := by
  have hz : ¬ (2000 : Int) < (n : Int) := by omega
  obtain ⟨i0, hi, hz0, hz1, hz2⟩ := info_parts infoInt
  have hown0 := made_empty w
  have hb00 : Below w.heap.size w (w.alloc (.cells #[] 3)) := (Below.refl _ w).alloc (Nat.le_refl _) _
  go_enter Tryd.func6, Tryd.ntmps6
  go_wp2_with (at_builtin; go_must (refine wpList_append_own _ rfl (.tmp 12) (.tmp 13) 25 rfl w.heap.size 3 i0 (.int .i64 0) 1 8 Tryd.underlying25 hi hz0 hz1 hz2 rfl (by decide) _ _ _ rfl hown0 ad n cap (zs.map (Value.int .i64)) rfl (by rw [List.length_map]; omega) HS.out (by intro u hu; obtain ⟨z, _, rfl⟩ := List.mem_map.1 hu; rfl) (by unfold maxLen; omega) (by omega) (by simp) ?_; intro v3 w1 hown3 hgrow3 _))
  have hb1 : Below w.heap.size w w1 := hb00.grown hgrow3 (by simp) (fun j hj => (hown0.lt j hj).1)
  rw [Nat.zero_add, List.nil_append] at hown3
  have hi1 : Ints w1 v3 zs := ints_own hown3 hzn.symm
  have hg1 := hg.later hb1
  clear hown0 hb00 hown3 hgrow3
  go_wp2_with fail
  refine (from_bad _ zs HA.out _ (HV.out.later hb1) (by omega) HW.out).mono ?_
  rintro e w2 ⟨rfl, hx⟩
  have hi2 := hi1.later hx
  have hb2 := hb1.trans (hx.mono hb1.size)
  clear hx hi1 hb1 hg1
  go_wp2_with fail
  refine (refFrom_bad _ zs HA.out _ (HV.out.later hb2) (by omega)).mono ?_
  rintro e w3 ⟨rfl, hx⟩
  have hi3 := hi2.later hx
  have hb3 := hb2.trans (hx.mono hb2.size)
  have hg3 := hg.later hb3
  clear hx hi2 hb2
  go_wp2_with fail
  refine (sameInts_is _ _ zs _ (HV.out.later hb3) hi3 (by omega)).mono ?_
  rintro e w4 ⟨rfl, hx⟩
  have hb4 := hb3.trans (hx.mono hb3.size)
  have hg4 := hg.later hb4
  clear hx hb3 hg3
  go_wp2_with fail
  refine (works_any _ hg4).mono ?_
  rintro e w5 ⟨rfl, hx⟩
  have hb5 := hb4.trans (hx.mono hb4.size)
  have hg5 := hg.later hb5
  clear hx hb4 hg4
  go_wp2
  go_ret
  exact ⟨rfl, hb5⟩
set_option maxHeartbeats 1000000 in
theorem from_none (cap : Nat) (w : World) (hg : Gr w) :
    Calls Tryd.prog 6 #[.slice none 0 cap] w fun e w' => e = .returned (.bool true) ∧ Below w.heap.size w w' := by
  have hb1 : Below w.heap.size w (w.alloc (.cells #[] 3)) := (Below.refl _ w).alloc (Nat.le_refl _) _
  go_enter Tryd.func6, Tryd.ntmps6
  have hg1 := hg.later hb1
  go_wp2_with fail
  refine (from_is (.slice none 0 cap) [] ⟨#[]⟩ rfl rfl _ (.inl ⟨none, cap, rfl, rfl⟩) (by simp)).mono ?_
  rintro e w2 ⟨rfl, hx⟩
  have hb2 := hb1.trans (hx.mono hb1.size)
  have hg2 := hg.later hb2
  clear hx hb1 hg1
  go_wp2_with fail
  refine (refFrom_is (.slice none 0 cap) [] ⟨#[]⟩ rfl rfl _ (.inl ⟨none, cap, rfl, rfl⟩) (by simp)).mono ?_
  rintro e w3 ⟨rfl, hx⟩
  have hb3 := hb2.trans (hx.mono hb2.size)
  have hg3 := hg.later hb3
  clear hx hb2 hg2
  go_wp2_with fail
  refine (sameInts_is _ _ [] _ (.inl ⟨none, cap, rfl, rfl⟩) (.inl ⟨_, 0, rfl, rfl⟩) (by simp)).mono ?_
  rintro e w4 ⟨rfl, hx⟩
  have hb4 := hb3.trans (hx.mono hb3.size)
  have hg4 := hg.later hb4
  clear hx hb3 hg3
  go_wp2_with fail
  refine (works_any _ hg4).mono ?_
  rintro e w5 ⟨rfl, hx⟩
  have hb5 := hb4.trans (hx.mono hb4.size)
  have hg5 := hg.later hb5
  clear hx hb4 hg4
  go_wp2
  go_ret
  exact ⟨rfl, hb5⟩
theorem from_law (v : Value) (zs : List Int) (w : World) (hg : Gr w) (hv : Ints w v zs) (hw : ∀ z ∈ zs, -9223372036854775808 ≤ z ∧ z ≤ 9223372036854775807) :
    Calls Tryd.prog 6 #[v] w fun e w' => e = .returned (.bool true) ∧ Below w.heap.size w w' := by
  obtain ⟨a, cap, rfl⟩ := hv.len
  by_cases h : 2000 < zs.length
  · exact from_big a _ cap w hg h
  · cases a with
    | none =>
      rcases hv with ⟨_, _, _, rfl⟩ | ⟨_, _, _, hv, _⟩
      · exact from_none cap w hg
      · cases hv
    | some ad =>
      have HS : ∀ (j : Nat) u, (zs.map (Value.int .i64))[j]? = some u → (w.alloc (.cells #[] 3)).cell? (ad.add j) = some u := by
        intro j u hu
        rw [List.getElem?_map] at hu
        cases hz : zs[j]? with
        | none => rw [hz] at hu; cases hu
        | some z =>
          rw [hz] at hu
          obtain rfl : Value.int .i64 z = u := by simpa using hu
          obtain ⟨b, off, he, hc⟩ := hv.cell j z hz
          cases he
          rw [Go.WideShapes.add_plain]
          exact (((Below.refl _ w).alloc (Nat.le_refl _) _).cell (p := ⟨b, off + j, none⟩) (lt_of_cell hc)).trans hc
      cases ha : zs.all chrZ
      · exact from_bad_some ad _ cap zs w hg h rfl (Lib.hid hv) (Lib.hid ha) (Lib.hid hw) (Lib.hid HS)
      · exact from_good_some ad _ cap zs w hg h rfl (Lib.hid hv) ⟨(formZ zs).toArray⟩ (Lib.hid ha) (Lib.hid rfl) (Lib.hid HS)
end Go.Proofs.YtpdgajjcapdjdaaDoor

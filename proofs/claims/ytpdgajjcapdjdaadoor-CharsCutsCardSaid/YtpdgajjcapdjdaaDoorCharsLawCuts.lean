/- CharsCuts: lengths and parts of strings are as the specification has them: the law's walks. -/
import Derived.Test.YtpdgajjcapdjdaaDoorCharsRefForm
import Derived.Test.YtpdgajjcapdjdaaDoorCharsLawPoints
import Derived.Lib.SlBytesRow
namespace Go.Proofs.YtpdgajjcapdjdaaDoor
open Go.RowKit Go.Lib

set_option maxHeartbeats 1000000 in
theorem refCut_bad (s : ByteArray) (a b x y : Int) (w : World) (hs : s.size ≤ 17592186044416) (h : text s.data.toList = false) (hx : max a 0 = x) (hy : min b 0 = y) (hxy : y ≤ x) :
    Calls Tryd.prog 30 #[.string s, .int .i64 a, .int .i64 b] w fun e w' => e = .returned (.string ⟨#[]⟩) ∧ Below w.heap.size w w' := by
  have cP := refPoints_no s w hs h
  clear h
  go_enter Tryd.func30, Tryd.ntmps30
  go_wp2_with fail
  refine cP.mono ?_
  rintro e w1 ⟨rfl, hb⟩
  go_wp2
  go_ret
  exact ⟨rfl, hb⟩
set_option maxHeartbeats 1000000 in
theorem refCut_none (s : ByteArray) (p : List Nat) (a b x y : Int) (w : World) (hs : s.size ≤ 17592186044416) (h : text s.data.toList = true) (hp : codes s.data.toList = p) (hx : max a 0 = x) (hy : min b (p.length : Int) = y) (hxy : y ≤ x) :
    Calls Tryd.prog 30 #[.string s, .int .i64 a, .int .i64 b] w fun e w' => e = .returned (.string ⟨#[]⟩) ∧ Below w.heap.size w w' := by
  have cP := refPoints_yes s w hs h
  rw [hp] at cP
  clear h hp
  go_enter Tryd.func30, Tryd.ntmps30
  go_wp2_with fail
  refine cP.mono ?_
  rintro e w1 ⟨v, rfl, hown, hb⟩
  obtain ⟨a1, cap, rfl⟩ := own_slice hown
  clear hown
  go_wp2
  go_ret
  exact ⟨rfl, hb⟩
set_option maxHeartbeats 2000000 in
theorem refCut_some (s r : ByteArray) (p : List Nat) (a b : Int) (f t : Nat) (w : World) (hs : s.size ≤ 17592186044416) (h : text s.data.toList = true) (hp : codes s.data.toList = p) (hx : max a 0 = (f : Int)) (hy : min b (p.length : Int) = (t : Int)) (hft : f < t) (htp : t ≤ p.length) (hpl : p.length ≤ 17592186044416) (HR : Hid (form ((p.take t).drop f) = r.data.toList)) :
    Calls Tryd.prog 30 #[.string s, .int .i64 a, .int .i64 b] w fun e w' => e = .returned (.string r) ∧ Below w.heap.size w w' := by
  have cP := refPoints_yes s w hs h
  rw [hp] at cP
  have hall := text_chr _ h
  rw [hp] at hall
  have HA := Lib.hid (all_chr_nat ((p.take t).drop f) (fun c hc => hall c (List.mem_of_mem_take (List.mem_of_mem_drop hc))))
  have h1 : ¬ ((t : Int) ≤ (f : Int)) := by omega
  clear h hp hall
  go_enter Tryd.func30, Tryd.ntmps30
  go_wp2_with fail
  refine cP.mono ?_
  rintro e w1 ⟨v, rfl, hown, hb⟩
  rcases hown.2 with ⟨_, h0⟩ | ⟨g, cap, cur, rfl, _, _, hcap, _⟩
  · omega
  · have hsl := run_slice_window (P := Tryd.prog) w1 25 3 Tryd.underlying25 Tryd.sizeOf3 g 0 p.length cap f t hft (by omega)
    have hI : Ints w1 (.slice (some ⟨g, 0 + f, none⟩) (t - f) (cap - f)) (((p.take t).drop f).map fun (c : Nat) => (c : Int)) := by
      have hlen : (((p.take t).drop f).map fun (c : Nat) => (c : Int)).length = t - f := by
        rw [List.length_map, List.length_drop, List.length_take, Nat.min_eq_left htp]
      refine .inr ⟨g, 0 + f, cap - f, by rw [hlen], fun j z hj => ?_⟩
      have hjl : j < t - f := by
        have := (List.getElem?_eq_some_iff.1 hj).1
        rw [hlen] at this; exact this
      rw [List.getElem?_map, List.getElem?_drop, List.getElem?_take, if_pos (by omega)] at hj
      rw [Nat.zero_add, hown.cellAt (f + j) (by omega)]
      unfold intCells
      rw [List.getElem?_map]
      cases hq : p[f + j]? with
      | none => rw [hq] at hj; cases hj
      | some q =>
        rw [hq] at hj
        simp only [Option.map_some, Option.some.injEq] at hj ⊢
        rw [hj]
    rw [Nat.zero_add f] at hI
    have HI := Lib.hid hI
    clear hI hown cP
    go_wp2_with fail
    refine (refFrom_is _ _ r HA.out (by rw [formZ_nat]; exact HR.out) _ HI.out (by rw [List.length_map, List.length_drop, List.length_take]; omega)).mono ?_
    rintro e w2 ⟨rfl, hx2⟩
    go_wp2
    go_ret
    exact ⟨rfl, hb.trans (hx2.mono hb.size)⟩
theorem refCut_is (s r : ByteArray) (a b : Int) (hr : cutL s.data.toList a b = r.data.toList) (w : World) (hs : s.size ≤ 17592186044416) :
    Calls Tryd.prog 30 #[.string s, .int .i64 a, .int .i64 b] w fun e w' => e = .returned (.string r) ∧ Below w.heap.size w w' := by
  have hl := codes_len s.data.toList
  rw [← size_eq] at hl
  unfold cutL at hr
  cases h : text s.data.toList
  · rw [h] at hr
    have : r = ⟨#[]⟩ := (str_of (s := r) hr.symm)
    subst this
    exact refCut_bad s a b _ _ w hs h rfl rfl (by omega)
  · rw [if_pos h] at hr
    unfold piece at hr
    by_cases hxy : min b ((codes s.data.toList).length : Int) ≤ max a 0
    · have he : ((codes s.data.toList).take b.toNat).drop a.toNat = [] := List.drop_eq_nil_of_le (by rw [List.length_take]; omega)
      rw [he] at hr
      have : r = ⟨#[]⟩ := (str_of (s := r) hr.symm)
      subst this
      exact refCut_none s _ a b _ _ w hs h rfl rfl rfl hxy
    · obtain ⟨t, ht⟩ := Int.eq_ofNat_of_zero_le (show 0 ≤ min b ((codes s.data.toList).length : Int) by omega)
      have hf : max a 0 = (a.toNat : Int) := by omega
      have e : (codes s.data.toList).take b.toNat = (codes s.data.toList).take t := by
        by_cases hbt : b ≤ ((codes s.data.toList).length : Int)
        · rw [show b.toNat = t by omega]
        · rw [List.take_of_length_le (by omega), List.take_of_length_le (by omega)]
      rw [e] at hr
      exact refCut_some s r _ a b a.toNat t w hs h rfl hf ht (by omega) (by omega) (by omega) (Lib.hid hr)
theorem lenZ_is (s : ByteArray) (z : Int) (h : (if text s.data.toList = true then ((codes s.data.toList).length : Int) else 0) = z) (W : World) (hs : s.size < 9223372036854775807) (hg : Gr W) :
    Calls Tryd.prog 27 #[.string s] W fun e w' => e = .returned (.int .i64 z) ∧ Below W.heap.size W w' := by
  have := len_any s W hs hg
  rw [h] at this; exact this
theorem cuts_big (s : ByteArray) (a b : Int) (w : World) (hg : Gr w) (h : 2000 < s.size) :
    Calls Tryd.prog 7 #[.string s, .int .i64 a, .int .i64 b] w fun e w' => e = .returned (.bool true) ∧ Below w.heap.size w w' := by
  have hz : (2000 : Int) < (s.size : Int) := by omega
  go_enter Tryd.func7, Tryd.ntmps7
  have hb0 : Below w.heap.size w w := Below.refl _ _
  have hg0 := hg
  go_wp2_with fail
  refine (works_any _ hg0).mono ?_
  rintro e w1 ⟨rfl, hx⟩
  have hb1 := hb0.trans (hx.mono hb0.size)
  have hg1 := hg.later hb1
  clear hx hb0 hg0
  go_wp2
  go_ret
  exact ⟨rfl, hb1⟩
set_option maxHeartbeats 1000000 in
theorem cuts_main (s r : ByteArray) (a b z : Int) (w : World) (hg : Gr w) (h : ¬ 2000 < s.size) (hb : b ≤ 9223372036854775807) (HZ : Hid ((if text s.data.toList = true then ((codes s.data.toList).length : Int) else 0) = z)) (HC : Hid (cutL s.data.toList a b = r.data.toList)) :
    Calls Tryd.prog 7 #[.string s, .int .i64 a, .int .i64 b] w fun e w' => e = .returned (.bool true) ∧ Below w.heap.size w w' := by
  have hz : ¬ (2000 : Int) < (s.size : Int) := by omega
  have HB := Lib.hid hb
  clear hb
  go_enter Tryd.func7, Tryd.ntmps7
  have hb0 : Below w.heap.size w w := Below.refl _ _
  have hg0 := hg
  go_wp2_with fail
  refine (lenZ_is s z HZ.out _ (by omega) hg0).mono ?_
  rintro e w1 ⟨rfl, hx⟩
  have hb1 := hb0.trans (hx.mono hb0.size)
  have hg1 := hg.later hb1
  clear hx hb0 hg0
  go_wp2_with fail
  refine (refLen_is s z HZ.out _ (by omega)).mono ?_
  rintro e w2 ⟨rfl, hx⟩
  have hb2 := hb1.trans (hx.mono hb1.size)
  have hg2 := hg.later hb2
  clear hx hb1 hg1
  go_wp2_with fail
  refine (cut_is s r a b HC.out _ (by omega) hg2 HB.out).mono ?_
  rintro e w3 ⟨rfl, hx⟩
  have hb3 := hb2.trans (hx.mono hb2.size)
  have hg3 := hg.later hb3
  clear hx hb2 hg2
  go_wp2_with fail
  refine (refCut_is s r a b HC.out _ (by omega)).mono ?_
  rintro e w4 ⟨rfl, hx⟩
  have hb4 := hb3.trans (hx.mono hb3.size)
  have hg4 := hg.later hb4
  clear hx hb3 hg3
  go_wp2_with fail
  refine (works_any _ hg4).mono ?_
  rintro e w5 ⟨rfl, hx⟩
  have hb5 := hb4.trans (hx.mono hb4.size)
  have hg5 := hg.later hb5
  clear hx hb4 hg4
  go_wp2
  go_ret
  exact ⟨rfl, hb5⟩
theorem cuts_law (s : ByteArray) (a b : Int) (w : World) (hg : Gr w) (hb : b ≤ 9223372036854775807) :
    Calls Tryd.prog 7 #[.string s, .int .i64 a, .int .i64 b] w fun e w' => e = .returned (.bool true) ∧ Below w.heap.size w w' := by
  by_cases h : 2000 < s.size
  · exact cuts_big s a b w hg h
  · exact cuts_main s ⟨(cutL s.data.toList a b).toArray⟩ a b _ w hg h hb (Lib.hid rfl) (Lib.hid rfl)
end Go.Proofs.YtpdgajjcapdjdaaDoor

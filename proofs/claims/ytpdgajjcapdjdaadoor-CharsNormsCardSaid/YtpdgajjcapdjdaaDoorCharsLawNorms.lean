/- CharsNorms: white space is normalised as the specification has it: the law's walks. -/
import Derived.Test.YtpdgajjcapdjdaaDoorCharsRefNorm
import Derived.Test.YtpdgajjcapdjdaaDoorCharsLawNames
namespace Go.Proofs.YtpdgajjcapdjdaaDoor
open Go.RowKit Go.Lib

theorem refNorm_is (s r : ByteArray) (h : normL s.data.toList = r.data.toList) (W : World) (hs : s.size ≤ 17592186044416) :
    Calls Tryd.prog 21 #[.string s] W fun e w' => e = .returned (.string r) ∧ Below W.heap.size W w' := by
  have := refNorm_any s W hs
  rw [h, ← str_of (s := r) rfl] at this; exact this
theorem norms_big (s : ByteArray) (w : World) (hg : Gr w) (h : 2000 < s.size) :
    Calls Tryd.prog 4 #[.string s] w fun e w' => e = .returned (.bool true) ∧ Below w.heap.size w w' := by
  have hz : (2000 : Int) < (s.size : Int) := by omega
  go_enter Tryd.func4, Tryd.ntmps4
  have hb0 : Below w.heap.size w w := Below.refl _ _
  have hg0 := hg
  go_wp2_with fail
  refine (works_any _ hg0).mono ?_
  rintro e w1 ⟨rfl, hx⟩
  have hb1 := hb0.trans (hx.mono hb0.size)
  have hg1 := hg.later hb1
  clear hx hb0 hg0
  go_wp2
  go_ret
  exact ⟨rfl, hb1⟩
set_option maxHeartbeats 1000000 in
theorem norms_main (s r : ByteArray) (w : World) (hg : Gr w) (h : ¬ 2000 < s.size) (HR : Hid (normL s.data.toList = r.data.toList)) :
    Calls Tryd.prog 4 #[.string s] w fun e w' => e = .returned (.bool true) ∧ Below w.heap.size w w' := by
  have hz : ¬ (2000 : Int) < (s.size : Int) := by omega
  go_enter Tryd.func4, Tryd.ntmps4
  have hb0 : Below w.heap.size w w := Below.refl _ _
  have hg0 := hg
  go_wp2_with fail
  refine (norm_is s r HR.out _ (by omega)).mono ?_
  rintro e w1 ⟨rfl, hx⟩
  have hb1 := hb0.trans (hx.mono hb0.size)
  have hg1 := hg.later hb1
  clear hx hb0 hg0
  go_wp2_with fail
  refine (refNorm_is s r HR.out _ (by omega)).mono ?_
  rintro e w2 ⟨rfl, hx⟩
  have hb2 := hb1.trans (hx.mono hb1.size)
  have hg2 := hg.later hb2
  clear hx hb1 hg1
  go_wp2_with fail
  refine (works_any _ hg2).mono ?_
  rintro e w3 ⟨rfl, hx⟩
  have hb3 := hb2.trans (hx.mono hb2.size)
  have hg3 := hg.later hb3
  clear hx hb2 hg2
  go_wp2
  go_ret
  exact ⟨rfl, hb3⟩
theorem norms_law (s : ByteArray) (w : World) (hg : Gr w) :
    Calls Tryd.prog 4 #[.string s] w fun e w' => e = .returned (.bool true) ∧ Below w.heap.size w w' := by
  by_cases h : 2000 < s.size
  · exact norms_big s w hg h
  · exact norms_main s ⟨(normL s.data.toList).toArray⟩ w hg h (Lib.hid rfl)
end Go.Proofs.YtpdgajjcapdjdaaDoor

/- CharsTexts: which strings are texts, names and white space is as the specification has it: the law's walks. -/
import Derived.Test.YtpdgajjcapdjdaaDoorCharsRefName
import Derived.Test.YtpdgajjcapdjdaaDoorCharsLawNames
namespace Go.Proofs.YtpdgajjcapdjdaaDoor
open Go.RowKit Go.Lib

theorem spaceS_is (s : ByteArray) (b : Bool) (h : spaceL s.data.toList = b) (w : World) :
    Calls Tryd.prog 18 #[.string s] w fun e w' => e = .returned (.bool b) ∧ Below w.heap.size w w' := by
  have := isSpace_any s w
  rw [h] at this; exact this
theorem texts_big (s : ByteArray) (w : World) (hg : Gr w) (h : 2000 < s.size) :
    Calls Tryd.prog 3 #[.string s] w fun e w' => e = .returned (.bool true) ∧ Below w.heap.size w w' := by
  have hz : (2000 : Int) < (s.size : Int) := by omega
  go_enter Tryd.func3, Tryd.ntmps3
  have hb0 : Below w.heap.size w w := Below.refl _ _
  have hg0 := hg
  go_wp2_with fail
  refine (works_any _ hg0).mono ?_
  rintro e w1 ⟨rfl, hx⟩
  have hb1 := hb0.trans (hx.mono hb0.size)
  have hg1 := hg.later hb1
  clear hx hb0 hg0
  go_wp2
  go_ret
  exact ⟨rfl, hb1⟩
set_option maxHeartbeats 1000000 in
theorem texts_main (s : ByteArray) (w : World) (hg : Gr w) (h : ¬ 2000 < s.size) (T N S : Bool) (HT : Hid (text s.data.toList = T)) (HN : Hid (nameL s.data.toList = N)) (HS : Hid (spaceL s.data.toList = S)) :
    Calls Tryd.prog 3 #[.string s] w fun e w' => e = .returned (.bool true) ∧ Below w.heap.size w w' := by
  have hz : ¬ (2000 : Int) < (s.size : Int) := by omega
  go_enter Tryd.func3, Tryd.ntmps3
  have hb0 : Below w.heap.size w w := Below.refl _ _
  have hg0 := hg
  go_wp2_with fail
  refine (isText_is s T HT.out _ (by omega) hg0).mono ?_
  rintro e w1 ⟨rfl, hx⟩
  have hb1 := hb0.trans (hx.mono hb0.size)
  have hg1 := hg.later hb1
  clear hx hb0 hg0
  go_wp2_with fail
  refine (refText_is s T HT.out _ (by omega)).mono ?_
  rintro e w2 ⟨rfl, hx⟩
  have hb2 := hb1.trans (hx.mono hb1.size)
  have hg2 := hg.later hb2
  clear hx hb1 hg1
  go_wp2_with fail
  refine (name_is s N HN.out _ (by omega) hg2).mono ?_
  rintro e w3 ⟨rfl, hx⟩
  have hb3 := hb2.trans (hx.mono hb2.size)
  have hg3 := hg.later hb3
  clear hx hb2 hg2
  go_wp2_with fail
  refine (refName_is s N HN.out _ (by omega)).mono ?_
  rintro e w4 ⟨rfl, hx⟩
  have hb4 := hb3.trans (hx.mono hb3.size)
  have hg4 := hg.later hb4
  clear hx hb3 hg3
  go_wp2_with fail
  refine (spaceS_is s S HS.out _).mono ?_
  rintro e w5 ⟨rfl, hx⟩
  have hb5 := hb4.trans (hx.mono hb4.size)
  have hg5 := hg.later hb5
  clear hx hb4 hg4
  go_wp2_with fail
  refine (refSpaceS_is s S HS.out _ (by omega)).mono ?_
  rintro e w6 ⟨rfl, hx⟩
  have hb6 := hb5.trans (hx.mono hb5.size)
  have hg6 := hg.later hb6
  clear hx hb5 hg5
  go_wp2_with fail
  refine (works_any _ hg6).mono ?_
  rintro e w7 ⟨rfl, hx⟩
  have hb7 := hb6.trans (hx.mono hb6.size)
  have hg7 := hg.later hb7
  clear hx hb6 hg6
  go_wp2
  go_ret
  exact ⟨rfl, hb7⟩
theorem texts_law (s : ByteArray) (w : World) (hg : Gr w) :
    Calls Tryd.prog 3 #[.string s] w fun e w' => e = .returned (.bool true) ∧ Below w.heap.size w w' := by
  by_cases h : 2000 < s.size
  · exact texts_big s w hg h
  · exact texts_main s w hg h _ _ _ (Lib.hid rfl) (Lib.hid rfl) (Lib.hid rfl)
end Go.Proofs.YtpdgajjcapdjdaaDoor

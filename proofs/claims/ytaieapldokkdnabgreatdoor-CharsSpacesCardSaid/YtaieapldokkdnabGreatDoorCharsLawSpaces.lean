/- CharsSpaces: the law's walk, out of the contracts of its closure (HW) and of ContainsAny (HC). -/
import Derived.Test.YtaieapldokkdnabGreatDoorCharsWorks
import Derived.Test.YtaieapldokkdnabGreatDoorCharsPlain8
import Derived.Test.YtaieapldokkdnabGreatDoorShelf2
namespace Go.Proofs.YtaieapldokkdnabGreatDoor
open Go.RowKit Go.Lib

theorem normS_is (s r : ByteArray) (h : normL s.data.toList = r.data.toList) (W : World) (hs : s.size ≤ 4294967296) :
    Calls Tryz.prog 6 #[.string s] W fun e w' => e = .returned (.string r) ∧ Below W.heap.size W w' := by
  have := norm_any s W hs
  rw [h, ← str_of (s := r) rfl] at this; exact this
theorem spaceS_is (s : ByteArray) (b : Bool) (h : spaceL s.data.toList = b) (w : World) :
    Calls Tryz.prog 7 #[.string s] w fun e w' => e = .returned (.bool b) ∧ Below w.heap.size w w' := by
  have := isSpace_any s w
  rw [h] at this; exact this
theorem containsS_is (s sub : ByteArray) (b : Bool) (h : contains s.data.toList sub.data.toList = b) (W : World) (hs : s.size < 4294967281) (hg : Gr W) :
    Calls Tryz.prog 9 #[.string s, .string sub] W fun e w' => e = .returned (.bool b) ∧ Below W.heap.size W w' := by
  obtain ⟨m, hm⟩ := hg.2
  refine (Tryz.strings_Contains s sub m W hs hm).mono ?_
  rintro e w' ⟨rfl, rfl⟩
  exact ⟨by rw [h], Below.refl _ _⟩
theorem prefixS_is (s sub : ByteArray) (b : Bool) (h : hasPrefix s.data.toList sub.data.toList = b) (W : World) :
    Calls Tryz.prog 10 #[.string s, .string sub] W fun e w' => e = .returned (.bool b) ∧ Below W.heap.size W w' := by
  refine (Tryz.strings_HasPrefix s sub W).mono ?_
  rintro e w' ⟨rfl, rfl⟩
  exact ⟨by rw [h], Below.refl _ _⟩
theorem suffixS_is (s sub : ByteArray) (b : Bool) (h : hasSuffix s.data.toList sub.data.toList = b) (W : World) (hs : s.size ≤ 4000) :
    Calls Tryz.prog 11 #[.string s, .string sub] W fun e w' => e = .returned (.bool b) ∧ Below W.heap.size W w' := by
  refine (Tryz.strings_HasSuffix s sub W (by omega)).mono ?_
  rintro e w' ⟨rfl, rfl⟩
  exact ⟨by rw [h], Below.refl _ _⟩
theorem spaces_big (s : ByteArray) (w : World) (hg : Gr w) (h : 2000 < s.size) :
    Calls Tryz.prog 3 #[.string s] w fun e w' => e = .returned (.bool true) ∧ Below w.heap.size w w' := by
  have hz : (2000 : Int) < (s.size : Int) := by omega
  go_enter Tryz.func3, Tryz.ntmps3
  have hb0 : Below w.heap.size w w := Below.refl _ _
  have hg0 := hg
  go_wp2_with fail
  refine (works_any _ hg0).mono ?_
  rintro e w1 ⟨rfl, hx⟩
  have hb1 := hb0.trans (hx.mono hb0.size)
  have hg1 := hg.later hb1
  clear hx hb0 hg0
  go_wp2
  go_ret
  exact ⟨rfl, hb1⟩
set_option maxHeartbeats 1000000 in
theorem spaces_true (s n r : ByteArray) (w : World) (hg : Gr w) (h : ¬ 2000 < s.size) (HE : n.toList.isEmpty = true) (HS : Hid (spaceL s.data.toList = true)) (HN : Hid (normL s.data.toList = n.data.toList)) (HNN : Hid (normL n.data.toList = n.data.toList)) (hns : n.size ≤ 2000)
    (HA : Hid (containsAny n.data.toList [9, 10, 13] = false)) (HT : Hid (contains n.data.toList [32, 32] = false)) (HF : Hid (hasPrefix n.data.toList [32] = false)) (HB : Hid (hasSuffix n.data.toList [32] = false))
    (HR : Hid (bare s.data.toList = r.data.toList)) (HR2 : Hid (bare n.data.toList = r.data.toList))
    (HW : ∀ (x y : ByteArray) (W : World), x.size ≤ 4000 → Gr W → bare x.data.toList = y.data.toList → Calls Tryz.prog 12 #[.string x] W fun e w' => e = .returned (.string y) ∧ Below W.heap.size W w')
    (HC : ∀ (x : ByteArray) (W : World), x.size ≤ 4000 → Gr W → containsAny x.data.toList [9, 10, 13] = false → Calls Tryz.prog 8 #[.string x, .string ⟨#[9, 10, 13]⟩] W fun e w' => e = .returned (.bool false) ∧ Below W.heap.size W w') :
    Calls Tryz.prog 3 #[.string s] w fun e w' => e = .returned (.bool true) ∧ Below w.heap.size w w' := by
  have hz : ¬ (2000 : Int) < (s.size : Int) := by omega
  go_enter Tryz.func3, Tryz.ntmps3
  have hb0 : Below w.heap.size w w := Below.refl _ _
  have hg0 := hg
  go_wp2_with fail
  refine (normS_is s n HN.out _ (by omega)).mono ?_
  rintro e w1 ⟨rfl, hx⟩
  have hb1 := hb0.trans (hx.mono hb0.size)
  have hg1 := hg.later hb1
  clear hx hb0 hg0
  go_wp2_with fail
  refine (normS_is n n HNN.out _ (by omega)).mono ?_
  rintro e w2 ⟨rfl, hx⟩
  have hb2 := hb1.trans (hx.mono hb1.size)
  have hg2 := hg.later hb2
  clear hx hb1 hg1
  go_wp2_with fail
  refine (spaceS_is s true HS.out _).mono ?_
  rintro e w3 ⟨rfl, hx⟩
  have hb3 := hb2.trans (hx.mono hb2.size)
  have hg3 := hg.later hb3
  clear hx hb2 hg2
  go_wp2_with fail
  refine (HC n _ (by omega) hg3 HA.out).mono ?_
  rintro e w4 ⟨rfl, hx⟩
  have hb4 := hb3.trans (hx.mono hb3.size)
  have hg4 := hg.later hb4
  clear hx hb3 hg3
  go_wp2_with fail
  refine (containsS_is n ⟨#[32, 32]⟩ false HT.out _ (by omega) hg4).mono ?_
  rintro e w5 ⟨rfl, hx⟩
  have hb5 := hb4.trans (hx.mono hb4.size)
  have hg5 := hg.later hb5
  clear hx hb4 hg4
  go_wp2_with fail
  refine (prefixS_is n ⟨#[32]⟩ false HF.out _).mono ?_
  rintro e w6 ⟨rfl, hx⟩
  have hb6 := hb5.trans (hx.mono hb5.size)
  have hg6 := hg.later hb6
  clear hx hb5 hg5
  go_wp2_with fail
  refine (suffixS_is n ⟨#[32]⟩ false HB.out _ (by omega)).mono ?_
  rintro e w7 ⟨rfl, hx⟩
  have hb7 := hb6.trans (hx.mono hb6.size)
  have hg7 := hg.later hb7
  clear hx hb6 hg6
  go_wp2_with fail
  refine (HW n r _ (by omega) hg7 HR2.out).mono ?_
  rintro e w8 ⟨rfl, hx⟩
  have hb8 := hb7.trans (hx.mono hb7.size)
  have hg8 := hg.later hb8
  clear hx hb7 hg7
  go_wp2_with fail
  refine (HW s r _ (by omega) hg8 HR.out).mono ?_
  rintro e w9 ⟨rfl, hx⟩
  have hb9 := hb8.trans (hx.mono hb8.size)
  have hg9 := hg.later hb9
  clear hx hb8 hg8
  go_wp2_with fail
  refine (works_any _ hg9).mono ?_
  rintro e w10 ⟨rfl, hx⟩
  have hb10 := hb9.trans (hx.mono hb9.size)
  have hg10 := hg.later hb10
  clear hx hb9 hg9
  go_wp2
  go_ret
  exact ⟨rfl, hb10⟩
set_option maxHeartbeats 1000000 in
theorem spaces_false (s n r : ByteArray) (w : World) (hg : Gr w) (h : ¬ 2000 < s.size) (HE : n.toList.isEmpty = false) (HS : Hid (spaceL s.data.toList = false)) (HN : Hid (normL s.data.toList = n.data.toList)) (HNN : Hid (normL n.data.toList = n.data.toList)) (hns : n.size ≤ 2000)
    (HA : Hid (containsAny n.data.toList [9, 10, 13] = false)) (HT : Hid (contains n.data.toList [32, 32] = false)) (HF : Hid (hasPrefix n.data.toList [32] = false)) (HB : Hid (hasSuffix n.data.toList [32] = false))
    (HR : Hid (bare s.data.toList = r.data.toList)) (HR2 : Hid (bare n.data.toList = r.data.toList))
    (HW : ∀ (x y : ByteArray) (W : World), x.size ≤ 4000 → Gr W → bare x.data.toList = y.data.toList → Calls Tryz.prog 12 #[.string x] W fun e w' => e = .returned (.string y) ∧ Below W.heap.size W w')
    (HC : ∀ (x : ByteArray) (W : World), x.size ≤ 4000 → Gr W → containsAny x.data.toList [9, 10, 13] = false → Calls Tryz.prog 8 #[.string x, .string ⟨#[9, 10, 13]⟩] W fun e w' => e = .returned (.bool false) ∧ Below W.heap.size W w') :
    Calls Tryz.prog 3 #[.string s] w fun e w' => e = .returned (.bool true) ∧ Below w.heap.size w w' := by
  have hz : ¬ (2000 : Int) < (s.size : Int) := by omega
  go_enter Tryz.func3, Tryz.ntmps3
  have hb0 : Below w.heap.size w w := Below.refl _ _
  have hg0 := hg
  go_wp2_with fail
  refine (normS_is s n HN.out _ (by omega)).mono ?_
  rintro e w1 ⟨rfl, hx⟩
  have hb1 := hb0.trans (hx.mono hb0.size)
  have hg1 := hg.later hb1
  clear hx hb0 hg0
  go_wp2_with fail
  refine (normS_is n n HNN.out _ (by omega)).mono ?_
  rintro e w2 ⟨rfl, hx⟩
  have hb2 := hb1.trans (hx.mono hb1.size)
  have hg2 := hg.later hb2
  clear hx hb1 hg1
  go_wp2_with fail
  refine (spaceS_is s false HS.out _).mono ?_
  rintro e w3 ⟨rfl, hx⟩
  have hb3 := hb2.trans (hx.mono hb2.size)
  have hg3 := hg.later hb3
  clear hx hb2 hg2
  go_wp2_with fail
  refine (HC n _ (by omega) hg3 HA.out).mono ?_
  rintro e w4 ⟨rfl, hx⟩
  have hb4 := hb3.trans (hx.mono hb3.size)
  have hg4 := hg.later hb4
  clear hx hb3 hg3
  go_wp2_with fail
  refine (containsS_is n ⟨#[32, 32]⟩ false HT.out _ (by omega) hg4).mono ?_
  rintro e w5 ⟨rfl, hx⟩
  have hb5 := hb4.trans (hx.mono hb4.size)
  have hg5 := hg.later hb5
  clear hx hb4 hg4
  go_wp2_with fail
  refine (prefixS_is n ⟨#[32]⟩ false HF.out _).mono ?_
  rintro e w6 ⟨rfl, hx⟩
  have hb6 := hb5.trans (hx.mono hb5.size)
  have hg6 := hg.later hb6
  clear hx hb5 hg5
  go_wp2_with fail
  refine (suffixS_is n ⟨#[32]⟩ false HB.out _ (by omega)).mono ?_
  rintro e w7 ⟨rfl, hx⟩
  have hb7 := hb6.trans (hx.mono hb6.size)
  have hg7 := hg.later hb7
  clear hx hb6 hg6
  go_wp2_with fail
  refine (HW n r _ (by omega) hg7 HR2.out).mono ?_
  rintro e w8 ⟨rfl, hx⟩
  have hb8 := hb7.trans (hx.mono hb7.size)
  have hg8 := hg.later hb8
  clear hx hb7 hg7
  go_wp2_with fail
  refine (HW s r _ (by omega) hg8 HR.out).mono ?_
  rintro e w9 ⟨rfl, hx⟩
  have hb9 := hb8.trans (hx.mono hb8.size)
  have hg9 := hg.later hb9
  clear hx hb8 hg8
  go_wp2_with fail
  refine (works_any _ hg9).mono ?_
  rintro e w10 ⟨rfl, hx⟩
  have hb10 := hb9.trans (hx.mono hb9.size)
  have hg10 := hg.later hb10
  clear hx hb9 hg9
  go_wp2
  go_ret
  exact ⟨rfl, hb10⟩
theorem spaces_law (s : ByteArray) (w : World) (hg : Gr w)
    (HW : ∀ (x y : ByteArray) (W : World), x.size ≤ 4000 → Gr W → bare x.data.toList = y.data.toList → Calls Tryz.prog 12 #[.string x] W fun e w' => e = .returned (.string y) ∧ Below W.heap.size W w')
    (HC : ∀ (x : ByteArray) (W : World), x.size ≤ 4000 → Gr W → containsAny x.data.toList [9, 10, 13] = false → Calls Tryz.prog 8 #[.string x, .string ⟨#[9, 10, 13]⟩] W fun e w' => e = .returned (.bool false) ∧ Below W.heap.size W w') :
    Calls Tryz.prog 3 #[.string s] w fun e w' => e = .returned (.bool true) ∧ Below w.heap.size w w' := by
  by_cases h : 2000 < s.size
  · exact spaces_big s w hg h
  · have hn := norm_len s.data.toList
    rw [← size_eq] at hn
    have hns : (⟨(normL s.data.toList).toArray⟩ : ByteArray).size ≤ 2000 := by rw [size_eq]; show (normL s.data.toList).length ≤ 2000; omega
    cases hs : spaceL s.data.toList
    · have hne : ¬ normL s.data.toList = [] := fun e => by rw [norm_nil] at e; unfold spaceL at hs; rw [e] at hs; cases hs
      refine spaces_false s ⟨(normL s.data.toList).toArray⟩ ⟨(bare s.data.toList).toArray⟩ w hg h ?_ (Lib.hid hs) (Lib.hid rfl) (Lib.hid (norm_norm _)) hns (Lib.hid (norm_any3 _)) (Lib.hid (norm_two _)) (Lib.hid (norm_front _)) (Lib.hid (norm_back _)) (Lib.hid rfl) (Lib.hid (bare_norm _)) HW HC
      rw [Lib.toList_data]
      show (normL s.data.toList).isEmpty = false
      cases hq : normL s.data.toList with
      | nil => exact absurd hq hne
      | cons _ _ => rfl
    · have hne : normL s.data.toList = [] := (norm_nil _).2 hs
      refine spaces_true s ⟨(normL s.data.toList).toArray⟩ ⟨(bare s.data.toList).toArray⟩ w hg h ?_ (Lib.hid hs) (Lib.hid rfl) (Lib.hid (norm_norm _)) hns (Lib.hid (norm_any3 _)) (Lib.hid (norm_two _)) (Lib.hid (norm_front _)) (Lib.hid (norm_back _)) (Lib.hid rfl) (Lib.hid (bare_norm _)) HW HC
      rw [Lib.toList_data]
      show (normL s.data.toList).isEmpty = true
      rw [hne]; rfl
end Go.Proofs.YtaieapldokkdnabGreatDoor

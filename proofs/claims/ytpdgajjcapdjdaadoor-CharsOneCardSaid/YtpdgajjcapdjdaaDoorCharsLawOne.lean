/- CharsOne: a code point alone is a character, and a name, as the specification has it: the law's walks. -/
import Derived.Test.YtpdgajjcapdjdaaDoorCharsRefName
import Derived.Test.YtpdgajjcapdjdaaDoorCharsLawNames
namespace Go.Proofs.YtpdgajjcapdjdaaDoor
open Go.RowKit Go.Lib

theorem one_cells (c : Int) (w : World) (t : TypeId) : Ints (w.alloc (.cells #[.int .i64 c] t)) (.slice (some ⟨w.heap.size, 0, none⟩) 1 1) [c] := by
  refine .inr ⟨w.heap.size, 0, 1, rfl, fun j y hj => ?_⟩
  rw [Nat.zero_add]
  match j, hj with
  | 0, hj =>
    simp at hj
    subst hj
    simp
theorem from_one_bad (c : Int) (w : World) (t : TypeId) (h : chrZ c = false) (h1 : -9223372036854775808 ≤ c) (h2 : c ≤ 9223372036854775807) :
    Calls Tryd.prog 25 #[.slice (some ⟨w.heap.size, 0, none⟩) 1 1] (w.alloc (.cells #[.int .i64 c] t)) fun e w' => e = .returned (.tuple #[.string ⟨#[]⟩, .int .i64 10]) ∧ Below w.heap.size w w' := by
  have hb : Below w.heap.size w (w.alloc (.cells #[.int .i64 c] t)) := (Below.refl _ w).alloc (Nat.le_refl _) _
  refine (from_bad _ [c] (by simp [h]) _ (one_cells c w t) (by simp) (fun y hy => ?_)).mono ?_
  · simp only [List.mem_cons, List.not_mem_nil, or_false] at hy
    subst hy
    omega
  · rintro e w' ⟨rfl, hb2⟩
    exact ⟨rfl, hb.trans (hb2.mono hb.size)⟩
theorem from_one (c : Int) (s : ByteArray) (w : World) (t : TypeId) (h : chrZ c = true) (hs : formZ [c] = s.data.toList) :
    Calls Tryd.prog 25 #[.slice (some ⟨w.heap.size, 0, none⟩) 1 1] (w.alloc (.cells #[.int .i64 c] t)) fun e w' => e = .returned (.tuple #[.string s, .int .i64 0]) ∧ Below w.heap.size w w' := by
  have hb : Below w.heap.size w (w.alloc (.cells #[.int .i64 c] t)) := (Below.refl _ w).alloc (Nat.le_refl _) _
  refine (from_is _ [c] s (by simp [h]) hs _ (one_cells c w t) (by simp)).mono ?_
  rintro e w' ⟨rfl, hb2⟩
  exact ⟨rfl, hb.trans (hb2.mono hb.size)⟩
theorem points_one (s : ByteArray) (n : Nat) (h : text s.data.toList = true) (hp : codes s.data.toList = [n]) (W : World) (hs : s.size ≤ 17592186044416) (hg : Gr W) :
    Calls Tryd.prog 22 #[.string s] W fun e w' => ∃ b off cap, e = .returned (.tuple #[.slice (some ⟨b, off, none⟩) 1 cap, .int .i64 0]) ∧ w'.cell? ⟨b, off, none⟩ = some (.int .i64 (n : Int)) ∧ Below W.heap.size W w' := by
  refine (points_is s [n] h hp W hs hg).mono ?_
  rintro e w' ⟨a, cap, rfl, hI, hb⟩
  obtain ⟨b, off, rfl, hc⟩ := hI.cell 0 (n : Int) rfl
  exact ⟨b, off, cap, rfl, hc, hb⟩
set_option maxHeartbeats 1000000 in
theorem one_bad (c : Int) (w : World) (hg : Gr w) (h1 : -9223372036854775808 ≤ c) (h2 : c ≤ 9223372036854775807) (HC : Hid (chrZ c = false)) :
    Calls Tryd.prog 8 #[.int .i64 c] w fun e w' => e = .returned (.bool true) ∧ Below w.heap.size w w' := by
  have cI : ∀ W, Calls Tryd.prog 31 #[.int .i64 c] W fun e w' => e = .returned (.bool false) ∧ Below W.heap.size W w' := fun W => by
    refine (refIsChar_any c W).mono ?_
    rw [HC.out]
    rintro e w' ⟨rfl, rfl⟩
    exact ⟨rfl, Below.refl _ _⟩
  go_enter Tryd.func8, Tryd.ntmps8
  have hb0 : Below w.heap.size w w := Below.refl _ _
  have hg0 := hg
  go_wp2_with fail
  refine (from_one_bad c _ _ HC.out h1 h2).mono ?_
  rintro e w1 ⟨rfl, hx⟩
  have hb1 := hb0.trans (hx.mono hb0.size)
  have hg1 := hg.later hb1
  clear hx hb0 hg0
  go_wp2_with fail
  refine (cI _).mono ?_
  rintro e w2 ⟨rfl, hx⟩
  have hb2 := hb1.trans (hx.mono hb1.size)
  have hg2 := hg.later hb2
  clear hx hb1 hg1
  go_wp2_with fail
  refine (works_any _ hg2).mono ?_
  rintro e w3 ⟨rfl, hx⟩
  have hb3 := hb2.trans (hx.mono hb2.size)
  have hg3 := hg.later hb3
  clear hx hb2 hg2
  go_wp2
  go_ret
  exact ⟨rfl, hb3⟩
set_option maxHeartbeats 2000000 in
set_option maxRecDepth 100000 in
theorem one_chr (n : Nat) (s A : ByteArray) (eA : (⟨#[97]⟩ : ByteArray) ++ s = A) (w : World) (hg : Gr w) (hs : s.size ≤ 4) (HC : Hid (chrZ (n : Int) = true)) (HF : Hid (formZ [(n : Int)] = s.data.toList)) (HT : Hid (text s.data.toList = true)) (HP : Hid (codes s.data.toList = [n])) (HL : Hid (((codes s.data.toList).length : Int) = 1)) (hA : A.size ≤ 5) (N M : Bool) (HN : Hid (nameL s.data.toList = N)) (HM : Hid (nameL A.data.toList = M)) :
    Calls Tryd.prog 8 #[.int .i64 (n : Int)] w fun e w' => e = .returned (.bool true) ∧ Below w.heap.size w w' := by
  have cI : ∀ W, Calls Tryd.prog 31 #[.int .i64 (n : Int)] W fun e w' => e = .returned (.bool true) ∧ Below W.heap.size W w' := fun W => by
    refine (refIsChar_any (n : Int) W).mono ?_
    rw [HC.out]
    rintro e w' ⟨rfl, rfl⟩
    exact ⟨rfl, Below.refl _ _⟩
  go_enter Tryd.func8, Tryd.ntmps8
  have hb0 : Below w.heap.size w w := Below.refl _ _
  have hg0 := hg
  go_wp2_with fail
  refine (from_one (n : Int) s _ _ HC.out HF.out).mono ?_
  rintro e w1 ⟨rfl, hx⟩
  have hb1 := hb0.trans (hx.mono hb0.size)
  have hg1 := hg.later hb1
  clear hx hb0 hg0
  go_wp2_with fail
  refine (cI _).mono ?_
  rintro e w2 ⟨rfl, hx⟩
  have hb2 := hb1.trans (hx.mono hb1.size)
  have hg2 := hg.later hb2
  clear hx hb1 hg1
  go_wp2_with fail
  refine (points_one s n HT.out HP.out _ (by omega) hg2).mono ?_
  rintro e w3 ⟨b, off, cap, rfl, hc, hx⟩
  have hb3 := hb2.trans (hx.mono hb2.size)
  have hg3 := hg.later hb3
  clear hx hb2 hg2
  go_wp2_with fail
  refine (name_is s N HN.out _ (by omega) hg3).mono ?_
  rintro e w4 ⟨rfl, hx⟩
  have hb4 := hb3.trans (hx.mono hb3.size)
  have hg4 := hg.later hb4
  clear hx hb3 hg3
  go_wp2_with fail
  refine (refName_is s N HN.out _ (by omega)).mono ?_
  rintro e w5 ⟨rfl, hx⟩
  have hb5 := hb4.trans (hx.mono hb4.size)
  have hg5 := hg.later hb5
  clear hx hb4 hg4
  go_wp2_with fail
  refine (name_is A M HM.out _ (by omega) hg5).mono ?_
  rintro e w6 ⟨rfl, hx⟩
  have hb6 := hb5.trans (hx.mono hb5.size)
  have hg6 := hg.later hb6
  clear hx hb5 hg5
  go_wp2_with fail
  refine (refName_is A M HM.out _ (by omega)).mono ?_
  rintro e w7 ⟨rfl, hx⟩
  have hb7 := hb6.trans (hx.mono hb6.size)
  have hg7 := hg.later hb7
  clear hx hb6 hg6
  go_wp2_with fail
  refine (len_is s 1 HT.out HL.out _ (by omega) hg7).mono ?_
  rintro e w8 ⟨rfl, hx⟩
  have hb8 := hb7.trans (hx.mono hb7.size)
  have hg8 := hg.later hb8
  clear hx hb7 hg7
  go_wp2_with fail
  refine (works_any _ hg8).mono ?_
  rintro e w9 ⟨rfl, hx⟩
  have hb9 := hb8.trans (hx.mono hb8.size)
  have hg9 := hg.later hb9
  clear hx hb8 hg8
  go_wp2
  go_ret
  exact ⟨rfl, hb9⟩
theorem one_law (c : Int) (w : World) (hg : Gr w) (h1 : -9223372036854775808 ≤ c) (h2 : c ≤ 9223372036854775807) :
    Calls Tryd.prog 8 #[.int .i64 c] w fun e w' => e = .returned (.bool true) ∧ Below w.heap.size w w' := by
  cases hc : chrZ c
  · exact one_bad c w hg h1 h2 (Lib.hid hc)
  · have hb := chrZ_bd c hc
    obtain ⟨n, rfl⟩ := Int.eq_ofNat_of_zero_le hb.1
    have hcn : chr n = true := by rw [← chrZ_nat]; exact hc
    have hall : ∀ d ∈ [n], chr d = true := by simp [hcn]
    have hf : formZ [(n : Int)] = form [n] := formZ_nat [n]
    have hl := form_len [n]
    have hsz : (⟨(form [n]).toArray⟩ : ByteArray).size = (form [n]).length := by rw [size_eq]
    simp only [List.length_cons, List.length_nil] at hl
    exact one_chr n ⟨(form [n]).toArray⟩ _ rfl w hg (by omega) (Lib.hid hc) (Lib.hid hf) (Lib.hid (text_form [n] hall)) (Lib.hid (codes_form [n] hall)) (Lib.hid (by rw [show codes (⟨(form [n]).toArray⟩ : ByteArray).data.toList = [n] from codes_form [n] hall]; rfl)) (by rw [size_append, hsz, show (⟨#[97]⟩ : ByteArray).size = 1 from rfl]; omega) _ _ (Lib.hid rfl) (Lib.hid rfl)
end Go.Proofs.YtpdgajjcapdjdaaDoor

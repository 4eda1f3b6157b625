/- CharsNames: names are texts without white space, with at most one colon; two of them with a colon between them; name characters behind them: the law's walks. -/
import Derived.Test.YtpdgajjcapdjdaaDoorCharsLawParts
import Derived.Test.YtpdgajjcapdjdaaDoorCharsPlain6
namespace Go.Proofs.YtpdgajjcapdjdaaDoor
open Go.RowKit Go.Lib

theorem name_is (s : ByteArray) (b : Bool) (h : nameL s.data.toList = b) (W : World) (hs : s.size < 4294967281) (hg : Gr W) :
    Calls Tryd.prog 16 #[.string s] W fun e w' => e = .returned (.bool b) ∧ Below W.heap.size W w' := by
  have := isName_any s W hs hg
  rw [h] at this; exact this
theorem norm_is (s r : ByteArray) (h : normL s.data.toList = r.data.toList) (W : World) (hs : s.size ≤ 4294967296) :
    Calls Tryd.prog 20 #[.string s] W fun e w' => e = .returned (.string r) ∧ Below W.heap.size W w' := by
  have := norm_any s W hs
  rw [h, ← str_of (s := r) rfl] at this; exact this
theorem contains_is (s sub : ByteArray) (b : Bool) (h : contains s.data.toList sub.data.toList = b) (W : World) (hs : s.size < 4294967281) (hg : Gr W) :
    Calls Tryd.prog 32 #[.string s, .string sub] W fun e w' => e = .returned (.bool b) ∧ Below W.heap.size W w' := by
  obtain ⟨m, hm⟩ := hg.2
  refine (Tryd.strings_Contains s sub m W hs hm).mono ?_
  rintro e w' ⟨rfl, rfl⟩
  exact ⟨by rw [h], Below.refl _ _⟩
theorem count_is (s : ByteArray) (c : UInt8) (n : Int) (h : ((s.data.toList.count c : Nat) : Int) = n) (W : World) :
    Calls Tryd.prog 33 #[.string s, .string ⟨#[c]⟩] W fun e w' => e = .returned (.int .i64 n) ∧ Below W.heap.size W w' := by
  refine (Tryd.strings_Count_one s c W).mono ?_
  rintro e w' ⟨rfl, rfl⟩
  exact ⟨by rw [← h]; rfl, Below.refl _ _⟩
theorem plain_is (s : ByteArray) (b : Bool) (h : plainL s.data.toList = b) (w : World) (hs : s.size < 4294967281) (hg : Gr w) :
    Calls Tryd.prog 34 #[.string s] w fun e w' => e = .returned (.bool b) ∧ Below w.heap.size w w' := by
  unfold plainL at h
  cases hn : nameL s.data.toList
  · rw [hn] at h
    subst h
    go_enter Tryd.func34, Tryd.ntmps34
    go_wp2_with fail
    refine (name_is s false hn w hs hg).mono ?_
    rintro e w1 ⟨rfl, hx⟩
    go_wp2
    go_ret
    exact ⟨rfl, hx⟩
  · rw [hn, Bool.true_and] at h
    have hc : contains s.data.toList (⟨#[58]⟩ : ByteArray).data.toList = !b := by
      rw [← h, Bool.not_not]
    have Hc := Lib.hid hc
    have Hn := Lib.hid hn
    clear h hc hn
    go_enter Tryd.func34, Tryd.ntmps34
    go_wp2_with fail
    refine (name_is s true Hn.out w hs hg).mono ?_
    rintro e w1 ⟨rfl, hx⟩
    have hg1 := hg.later hx
    go_wp2_with fail
    refine (contains_is s ⟨#[58]⟩ _ Hc.out w1 hs hg1).mono ?_
    rintro e w2 ⟨rfl, hy⟩
    go_wp2
    go_ret
    exact ⟨ret_bool (by simp), hx.trans (hy.mono hx.size)⟩
theorem dot9 : (⟨#[45, 46, 194, 183, 57]⟩ : ByteArray).data.toList = [45, 46, 194, 183, 57] := rfl
theorem names_big (s t : ByteArray) (w : World) (hg : Gr w) (h : 2000 < s.size) :
    Calls Tryd.prog 11 #[.string s, .string t] w fun e w' => e = .returned (.bool true) ∧ Below w.heap.size w w' := by
  have hz : (2000 : Int) < (s.size : Int) := by omega
  go_enter Tryd.func11, Tryd.ntmps11
  have hb0 : Below w.heap.size w w := Below.refl _ _
  have hg0 := hg
  go_wp2_with fail
  refine (works_any _ hg0).mono ?_
  rintro e w1 ⟨rfl, hx⟩
  have hb1 := hb0.trans (hx.mono hb0.size)
  have hg1 := hg.later hb1
  clear hx hb0 hg0
  go_wp2
  go_ret
  exact ⟨rfl, hb1⟩
theorem names_big2 (s t : ByteArray) (w : World) (hg : Gr w) (h : ¬ 2000 < s.size) (h2 : 2000 < t.size) :
    Calls Tryd.prog 11 #[.string s, .string t] w fun e w' => e = .returned (.bool true) ∧ Below w.heap.size w w' := by
  have hz : ¬ (2000 : Int) < (s.size : Int) := by omega
  have hz2 : (2000 : Int) < (t.size : Int) := by omega
  go_enter Tryd.func11, Tryd.ntmps11
  have hb0 : Below w.heap.size w w := Below.refl _ _
  have hg0 := hg
  go_wp2_with fail
  refine (works_any _ hg0).mono ?_
  rintro e w1 ⟨rfl, hx⟩
  have hb1 := hb0.trans (hx.mono hb0.size)
  have hg1 := hg.later hb1
  clear hx hb0 hg0
  go_wp2
  go_ret
  exact ⟨rfl, hb1⟩
set_option maxHeartbeats 4000000 in
set_option maxRecDepth 1000000 in
theorem names_no (s t : ByteArray) (w : World) (hg : Gr w) (J B D M : ByteArray) (eJ : s ++ ⟨#[58]⟩ ++ t = J) (eB : s ++ ⟨#[32]⟩ ++ t = B) (eD : s ++ ⟨#[58, 58]⟩ ++ t = D) (_eM : s ++ ⟨#[45, 46, 194, 183, 57]⟩ = M) (h : ¬ 2000 < s.size) (h2 : ¬ 2000 < t.size) (HZ1 : Hid (J.size < 4294967281)) (HZ2 : Hid (B.size < 4294967281)) (HZ3 : Hid (D.size < 4294967281)) (_HZ4 : Hid (M.size < 4294967281)) (HB : Hid (nameL B.data.toList = false)) (HD : Hid (nameL D.data.toList = false)) (HN : Hid (nameL s.data.toList = false)) (HP : Hid (plainL s.data.toList = false)) (HJ : Hid (nameL J.data.toList = false)) :
    Calls Tryd.prog 11 #[.string s, .string t] w fun e w' => e = .returned (.bool true) ∧ Below w.heap.size w w' := by
  have hz : ¬ (2000 : Int) < (s.size : Int) := by omega
  have hz2 : ¬ (2000 : Int) < (t.size : Int) := by omega
  go_enter Tryd.func11, Tryd.ntmps11
  have hb0 : Below w.heap.size w w := Below.refl _ _
  have hg0 := hg
  go_wp2_with fail
  refine (name_is s false HN.out _ (by omega) hg0).mono ?_
  rintro e w1 ⟨rfl, hx⟩
  have hb1 := hb0.trans (hx.mono hb0.size)
  have hg1 := hg.later hb1
  clear hx hb0 hg0
  go_wp2_with fail
  refine (plain_is s false HP.out _ (by omega) hg1).mono ?_
  rintro e w2 ⟨rfl, hx⟩
  have hb2 := hb1.trans (hx.mono hb1.size)
  have hg2 := hg.later hb2
  clear hx hb1 hg1
  go_wp2_with fail
  refine (name_is J false HJ.out _ HZ1.out hg2).mono ?_
  rintro e w3 ⟨rfl, hx⟩
  have hb3 := hb2.trans (hx.mono hb2.size)
  have hg3 := hg.later hb3
  clear hx hb2 hg2
  go_wp2_with fail
  refine (name_is B false HB.out _ HZ2.out hg3).mono ?_
  rintro e w4 ⟨rfl, hx⟩
  have hb4 := hb3.trans (hx.mono hb3.size)
  have hg4 := hg.later hb4
  clear hx hb3 hg3
  go_wp2_with fail
  refine (name_is D false HD.out _ HZ3.out hg4).mono ?_
  rintro e w5 ⟨rfl, hx⟩
  have hb5 := hb4.trans (hx.mono hb4.size)
  have hg5 := hg.later hb5
  clear hx hb4 hg4
  go_wp2_with fail
  refine (name_is s false HN.out _ (by omega) hg5).mono ?_
  rintro e w6 ⟨rfl, hx⟩
  have hb6 := hb5.trans (hx.mono hb5.size)
  have hg6 := hg.later hb6
  clear hx hb5 hg5
  go_wp2_with fail
  refine (works_any _ hg6).mono ?_
  rintro e w7 ⟨rfl, hx⟩
  have hb7 := hb6.trans (hx.mono hb6.size)
  have hg7 := hg.later hb7
  clear hx hb6 hg6
  go_wp2
  go_ret
  exact ⟨rfl, hb7⟩
set_option maxHeartbeats 4000000 in
set_option maxRecDepth 1000000 in
theorem names_colon_s (s t : ByteArray) (w : World) (hg : Gr w) (J B D M : ByteArray) (eJ : s ++ ⟨#[58]⟩ ++ t = J) (eB : s ++ ⟨#[32]⟩ ++ t = B) (eD : s ++ ⟨#[58, 58]⟩ ++ t = D) (_eM : s ++ ⟨#[45, 46, 194, 183, 57]⟩ = M) (h : ¬ 2000 < s.size) (h2 : ¬ 2000 < t.size) (HZ1 : Hid (J.size < 4294967281)) (HZ2 : Hid (B.size < 4294967281)) (HZ3 : Hid (D.size < 4294967281)) (_HZ4 : Hid (M.size < 4294967281)) (HB : Hid (nameL B.data.toList = false)) (HD : Hid (nameL D.data.toList = false)) (HN : Hid (nameL s.data.toList = true)) (HT : Hid (text s.data.toList = true)) (HO : Hid (normL s.data.toList = s.data.toList)) (HK : Hid (contains s.data.toList (⟨#[32]⟩ : ByteArray).data.toList = false)) (n k : Int) (HC : Hid (((s.data.toList.count 58 : Nat) : Int) = k)) (hk : k ≤ 1) (HL : Hid (((codes s.data.toList).length : Int) = n)) (hn1 : 1 ≤ n) (hn2 : n ≤ 100) (HP : Hid (plainL s.data.toList = false)) (HJ : Hid (nameL J.data.toList = false)) (hlong : ¬ 95 < n) (HM : Hid (nameL M.data.toList = true)) :
    Calls Tryd.prog 11 #[.string s, .string t] w fun e w' => e = .returned (.bool true) ∧ Below w.heap.size w w' := by
  have hz : ¬ (2000 : Int) < (s.size : Int) := by omega
  have hz2 : ¬ (2000 : Int) < (t.size : Int) := by omega
  go_enter Tryd.func11, Tryd.ntmps11
  have hb0 : Below w.heap.size w w := Below.refl _ _
  have hg0 := hg
  go_wp2_with fail
  refine (name_is s true HN.out _ (by omega) hg0).mono ?_
  rintro e w1 ⟨rfl, hx⟩
  have hb1 := hb0.trans (hx.mono hb0.size)
  have hg1 := hg.later hb1
  clear hx hb0 hg0
  go_wp2_with fail
  refine (isText_is s true HT.out _ (by omega) hg1).mono ?_
  rintro e w2 ⟨rfl, hx⟩
  have hb2 := hb1.trans (hx.mono hb1.size)
  have hg2 := hg.later hb2
  clear hx hb1 hg1
  go_wp2_with fail
  refine (norm_is s s HO.out _ (by omega)).mono ?_
  rintro e w3 ⟨rfl, hx⟩
  have hb3 := hb2.trans (hx.mono hb2.size)
  have hg3 := hg.later hb3
  clear hx hb2 hg2
  go_wp2_with fail
  refine (contains_is s ⟨#[32]⟩ false HK.out _ (by omega) hg3).mono ?_
  rintro e w4 ⟨rfl, hx⟩
  have hb4 := hb3.trans (hx.mono hb3.size)
  have hg4 := hg.later hb4
  clear hx hb3 hg3
  go_wp2_with fail
  refine (count_is s 58 k HC.out _).mono ?_
  rintro e w5 ⟨rfl, hx⟩
  have hb5 := hb4.trans (hx.mono hb4.size)
  have hg5 := hg.later hb5
  clear hx hb4 hg4
  go_wp2_with fail
  refine (len_is s n HT.out HL.out _ (by omega) hg5).mono ?_
  rintro e w6 ⟨rfl, hx⟩
  have hb6 := hb5.trans (hx.mono hb5.size)
  have hg6 := hg.later hb6
  clear hx hb5 hg5
  go_wp2_with fail
  refine (len_is s n HT.out HL.out _ (by omega) hg6).mono ?_
  rintro e w7 ⟨rfl, hx⟩
  have hb7 := hb6.trans (hx.mono hb6.size)
  have hg7 := hg.later hb7
  clear hx hb6 hg6
  go_wp2_with fail
  refine (plain_is s false HP.out _ (by omega) hg7).mono ?_
  rintro e w8 ⟨rfl, hx⟩
  have hb8 := hb7.trans (hx.mono hb7.size)
  have hg8 := hg.later hb8
  clear hx hb7 hg7
  go_wp2_with fail
  refine (name_is J false HJ.out _ HZ1.out hg8).mono ?_
  rintro e w9 ⟨rfl, hx⟩
  have hb9 := hb8.trans (hx.mono hb8.size)
  have hg9 := hg.later hb9
  clear hx hb8 hg8
  go_wp2_with fail
  refine (name_is B false HB.out _ HZ2.out hg9).mono ?_
  rintro e w10 ⟨rfl, hx⟩
  have hb10 := hb9.trans (hx.mono hb9.size)
  have hg10 := hg.later hb10
  clear hx hb9 hg9
  go_wp2_with fail
  refine (name_is D false HD.out _ HZ3.out hg10).mono ?_
  rintro e w11 ⟨rfl, hx⟩
  have hb11 := hb10.trans (hx.mono hb10.size)
  have hg11 := hg.later hb11
  clear hx hb10 hg10
  go_wp2_with fail
  refine (name_is s true HN.out _ (by omega) hg11).mono ?_
  rintro e w12 ⟨rfl, hx⟩
  have hb12 := hb11.trans (hx.mono hb11.size)
  have hg12 := hg.later hb12
  clear hx hb11 hg11
  go_wp2_with fail
  refine (len_is s n HT.out HL.out _ (by omega) hg12).mono ?_
  rintro e w13 ⟨rfl, hx⟩
  have hb13 := hb12.trans (hx.mono hb12.size)
  have hg13 := hg.later hb13
  clear hx hb12 hg12
  go_wp2_with fail
  refine (name_is M true HM.out _ _HZ4.out hg13).mono ?_
  rintro e w14 ⟨rfl, hx⟩
  have hb14 := hb13.trans (hx.mono hb13.size)
  have hg14 := hg.later hb14
  clear hx hb13 hg13
  go_wp2_with fail
  refine (works_any _ hg14).mono ?_
  rintro e w15 ⟨rfl, hx⟩
  have hb15 := hb14.trans (hx.mono hb14.size)
  have hg15 := hg.later hb15
  clear hx hb14 hg14
  go_wp2
  go_ret
  exact ⟨rfl, hb15⟩
set_option maxHeartbeats 4000000 in
set_option maxRecDepth 1000000 in
theorem names_other_s (s t : ByteArray) (w : World) (hg : Gr w) (J B D M : ByteArray) (eJ : s ++ ⟨#[58]⟩ ++ t = J) (eB : s ++ ⟨#[32]⟩ ++ t = B) (eD : s ++ ⟨#[58, 58]⟩ ++ t = D) (_eM : s ++ ⟨#[45, 46, 194, 183, 57]⟩ = M) (h : ¬ 2000 < s.size) (h2 : ¬ 2000 < t.size) (HZ1 : Hid (J.size < 4294967281)) (HZ2 : Hid (B.size < 4294967281)) (HZ3 : Hid (D.size < 4294967281)) (_HZ4 : Hid (M.size < 4294967281)) (HB : Hid (nameL B.data.toList = false)) (HD : Hid (nameL D.data.toList = false)) (HN : Hid (nameL s.data.toList = true)) (HT : Hid (text s.data.toList = true)) (HO : Hid (normL s.data.toList = s.data.toList)) (HK : Hid (contains s.data.toList (⟨#[32]⟩ : ByteArray).data.toList = false)) (n k : Int) (HC : Hid (((s.data.toList.count 58 : Nat) : Int) = k)) (hk : k ≤ 1) (HL : Hid (((codes s.data.toList).length : Int) = n)) (hn1 : 1 ≤ n) (hn2 : n ≤ 100) (HP : Hid (plainL s.data.toList = true)) (HQ : Hid (plainL t.data.toList = false)) (HJ : Hid (nameL J.data.toList = false)) (hlong : ¬ 95 < n) (HM : Hid (nameL M.data.toList = true)) :
    Calls Tryd.prog 11 #[.string s, .string t] w fun e w' => e = .returned (.bool true) ∧ Below w.heap.size w w' := by
  have hz : ¬ (2000 : Int) < (s.size : Int) := by omega
  have hz2 : ¬ (2000 : Int) < (t.size : Int) := by omega
  go_enter Tryd.func11, Tryd.ntmps11
  have hb0 : Below w.heap.size w w := Below.refl _ _
  have hg0 := hg
  go_wp2_with fail
  refine (name_is s true HN.out _ (by omega) hg0).mono ?_
  rintro e w1 ⟨rfl, hx⟩
  have hb1 := hb0.trans (hx.mono hb0.size)
  have hg1 := hg.later hb1
  clear hx hb0 hg0
  go_wp2_with fail
  refine (isText_is s true HT.out _ (by omega) hg1).mono ?_
  rintro e w2 ⟨rfl, hx⟩
  have hb2 := hb1.trans (hx.mono hb1.size)
  have hg2 := hg.later hb2
  clear hx hb1 hg1
  go_wp2_with fail
  refine (norm_is s s HO.out _ (by omega)).mono ?_
  rintro e w3 ⟨rfl, hx⟩
  have hb3 := hb2.trans (hx.mono hb2.size)
  have hg3 := hg.later hb3
  clear hx hb2 hg2
  go_wp2_with fail
  refine (contains_is s ⟨#[32]⟩ false HK.out _ (by omega) hg3).mono ?_
  rintro e w4 ⟨rfl, hx⟩
  have hb4 := hb3.trans (hx.mono hb3.size)
  have hg4 := hg.later hb4
  clear hx hb3 hg3
  go_wp2_with fail
  refine (count_is s 58 k HC.out _).mono ?_
  rintro e w5 ⟨rfl, hx⟩
  have hb5 := hb4.trans (hx.mono hb4.size)
  have hg5 := hg.later hb5
  clear hx hb4 hg4
  go_wp2_with fail
  refine (len_is s n HT.out HL.out _ (by omega) hg5).mono ?_
  rintro e w6 ⟨rfl, hx⟩
  have hb6 := hb5.trans (hx.mono hb5.size)
  have hg6 := hg.later hb6
  clear hx hb5 hg5
  go_wp2_with fail
  refine (len_is s n HT.out HL.out _ (by omega) hg6).mono ?_
  rintro e w7 ⟨rfl, hx⟩
  have hb7 := hb6.trans (hx.mono hb6.size)
  have hg7 := hg.later hb7
  clear hx hb6 hg6
  go_wp2_with fail
  refine (plain_is s true HP.out _ (by omega) hg7).mono ?_
  rintro e w8 ⟨rfl, hx⟩
  have hb8 := hb7.trans (hx.mono hb7.size)
  have hg8 := hg.later hb8
  clear hx hb7 hg7
  go_wp2_with fail
  refine (plain_is t false HQ.out _ (by omega) hg8).mono ?_
  rintro e w9 ⟨rfl, hx⟩
  have hb9 := hb8.trans (hx.mono hb8.size)
  have hg9 := hg.later hb9
  clear hx hb8 hg8
  go_wp2_with fail
  refine (name_is J false HJ.out _ HZ1.out hg9).mono ?_
  rintro e w10 ⟨rfl, hx⟩
  have hb10 := hb9.trans (hx.mono hb9.size)
  have hg10 := hg.later hb10
  clear hx hb9 hg9
  go_wp2_with fail
  refine (name_is B false HB.out _ HZ2.out hg10).mono ?_
  rintro e w11 ⟨rfl, hx⟩
  have hb11 := hb10.trans (hx.mono hb10.size)
  have hg11 := hg.later hb11
  clear hx hb10 hg10
  go_wp2_with fail
  refine (name_is D false HD.out _ HZ3.out hg11).mono ?_
  rintro e w12 ⟨rfl, hx⟩
  have hb12 := hb11.trans (hx.mono hb11.size)
  have hg12 := hg.later hb12
  clear hx hb11 hg11
  go_wp2_with fail
  refine (name_is s true HN.out _ (by omega) hg12).mono ?_
  rintro e w13 ⟨rfl, hx⟩
  have hb13 := hb12.trans (hx.mono hb12.size)
  have hg13 := hg.later hb13
  clear hx hb12 hg12
  go_wp2_with fail
  refine (len_is s n HT.out HL.out _ (by omega) hg13).mono ?_
  rintro e w14 ⟨rfl, hx⟩
  have hb14 := hb13.trans (hx.mono hb13.size)
  have hg14 := hg.later hb14
  clear hx hb13 hg13
  go_wp2_with fail
  refine (name_is M true HM.out _ _HZ4.out hg14).mono ?_
  rintro e w15 ⟨rfl, hx⟩
  have hb15 := hb14.trans (hx.mono hb14.size)
  have hg15 := hg.later hb15
  clear hx hb14 hg14
  go_wp2_with fail
  refine (works_any _ hg15).mono ?_
  rintro e w16 ⟨rfl, hx⟩
  have hb16 := hb15.trans (hx.mono hb15.size)
  have hg16 := hg.later hb16
  clear hx hb15 hg15
  go_wp2
  go_ret
  exact ⟨rfl, hb16⟩
set_option maxHeartbeats 4000000 in
set_option maxRecDepth 1000000 in
theorem names_both_true_s (s t : ByteArray) (w : World) (hg : Gr w) (J B D M : ByteArray) (eJ : s ++ ⟨#[58]⟩ ++ t = J) (eB : s ++ ⟨#[32]⟩ ++ t = B) (eD : s ++ ⟨#[58, 58]⟩ ++ t = D) (_eM : s ++ ⟨#[45, 46, 194, 183, 57]⟩ = M) (h : ¬ 2000 < s.size) (h2 : ¬ 2000 < t.size) (HZ1 : Hid (J.size < 4294967281)) (HZ2 : Hid (B.size < 4294967281)) (HZ3 : Hid (D.size < 4294967281)) (_HZ4 : Hid (M.size < 4294967281)) (HB : Hid (nameL B.data.toList = false)) (HD : Hid (nameL D.data.toList = false)) (HN : Hid (nameL s.data.toList = true)) (HT : Hid (text s.data.toList = true)) (HO : Hid (normL s.data.toList = s.data.toList)) (HK : Hid (contains s.data.toList (⟨#[32]⟩ : ByteArray).data.toList = false)) (n k : Int) (HC : Hid (((s.data.toList.count 58 : Nat) : Int) = k)) (hk : k ≤ 1) (HL : Hid (((codes s.data.toList).length : Int) = n)) (hn1 : 1 ≤ n) (hn2 : n ≤ 100) (HP : Hid (plainL s.data.toList = true)) (HQ : Hid (plainL t.data.toList = true)) (m : Int) (HT2 : Hid (text t.data.toList = true)) (HL2 : Hid (((codes t.data.toList).length : Int) = m)) (hm1 : 0 ≤ m) (hm2 : m ≤ 100) (hnm : (n + m < 100)) (HJ : Hid (nameL J.data.toList = true)) (hlong : ¬ 95 < n) (HM : Hid (nameL M.data.toList = true)) :
    Calls Tryd.prog 11 #[.string s, .string t] w fun e w' => e = .returned (.bool true) ∧ Below w.heap.size w w' := by
  have hz : ¬ (2000 : Int) < (s.size : Int) := by omega
  have hz2 : ¬ (2000 : Int) < (t.size : Int) := by omega
  go_enter Tryd.func11, Tryd.ntmps11
  have hb0 : Below w.heap.size w w := Below.refl _ _
  have hg0 := hg
  go_wp2_with fail
  refine (name_is s true HN.out _ (by omega) hg0).mono ?_
  rintro e w1 ⟨rfl, hx⟩
  have hb1 := hb0.trans (hx.mono hb0.size)
  have hg1 := hg.later hb1
  clear hx hb0 hg0
  go_wp2_with fail
  refine (isText_is s true HT.out _ (by omega) hg1).mono ?_
  rintro e w2 ⟨rfl, hx⟩
  have hb2 := hb1.trans (hx.mono hb1.size)
  have hg2 := hg.later hb2
  clear hx hb1 hg1
  go_wp2_with fail
  refine (norm_is s s HO.out _ (by omega)).mono ?_
  rintro e w3 ⟨rfl, hx⟩
  have hb3 := hb2.trans (hx.mono hb2.size)
  have hg3 := hg.later hb3
  clear hx hb2 hg2
  go_wp2_with fail
  refine (contains_is s ⟨#[32]⟩ false HK.out _ (by omega) hg3).mono ?_
  rintro e w4 ⟨rfl, hx⟩
  have hb4 := hb3.trans (hx.mono hb3.size)
  have hg4 := hg.later hb4
  clear hx hb3 hg3
  go_wp2_with fail
  refine (count_is s 58 k HC.out _).mono ?_
  rintro e w5 ⟨rfl, hx⟩
  have hb5 := hb4.trans (hx.mono hb4.size)
  have hg5 := hg.later hb5
  clear hx hb4 hg4
  go_wp2_with fail
  refine (len_is s n HT.out HL.out _ (by omega) hg5).mono ?_
  rintro e w6 ⟨rfl, hx⟩
  have hb6 := hb5.trans (hx.mono hb5.size)
  have hg6 := hg.later hb6
  clear hx hb5 hg5
  go_wp2_with fail
  refine (len_is s n HT.out HL.out _ (by omega) hg6).mono ?_
  rintro e w7 ⟨rfl, hx⟩
  have hb7 := hb6.trans (hx.mono hb6.size)
  have hg7 := hg.later hb7
  clear hx hb6 hg6
  go_wp2_with fail
  refine (plain_is s true HP.out _ (by omega) hg7).mono ?_
  rintro e w8 ⟨rfl, hx⟩
  have hb8 := hb7.trans (hx.mono hb7.size)
  have hg8 := hg.later hb8
  clear hx hb7 hg7
  go_wp2_with fail
  refine (plain_is t true HQ.out _ (by omega) hg8).mono ?_
  rintro e w9 ⟨rfl, hx⟩
  have hb9 := hb8.trans (hx.mono hb8.size)
  have hg9 := hg.later hb9
  clear hx hb8 hg8
  go_wp2_with fail
  refine (name_is J true HJ.out _ HZ1.out hg9).mono ?_
  rintro e w10 ⟨rfl, hx⟩
  have hb10 := hb9.trans (hx.mono hb9.size)
  have hg10 := hg.later hb10
  clear hx hb9 hg9
  go_wp2_with fail
  refine (len_is s n HT.out HL.out _ (by omega) hg10).mono ?_
  rintro e w11 ⟨rfl, hx⟩
  have hb11 := hb10.trans (hx.mono hb10.size)
  have hg11 := hg.later hb11
  clear hx hb10 hg10
  go_wp2_with fail
  refine (len_is t m HT2.out HL2.out _ (by omega) hg11).mono ?_
  rintro e w12 ⟨rfl, hx⟩
  have hb12 := hb11.trans (hx.mono hb11.size)
  have hg12 := hg.later hb12
  clear hx hb11 hg11
  go_wp2_with fail
  refine (name_is J true HJ.out _ HZ1.out hg12).mono ?_
  rintro e w13 ⟨rfl, hx⟩
  have hb13 := hb12.trans (hx.mono hb12.size)
  have hg13 := hg.later hb13
  clear hx hb12 hg12
  go_wp2_with fail
  refine (plain_is s true HP.out _ (by omega) hg13).mono ?_
  rintro e w14 ⟨rfl, hx⟩
  have hb14 := hb13.trans (hx.mono hb13.size)
  have hg14 := hg.later hb14
  clear hx hb13 hg13
  go_wp2_with fail
  refine (plain_is t true HQ.out _ (by omega) hg14).mono ?_
  rintro e w15 ⟨rfl, hx⟩
  have hb15 := hb14.trans (hx.mono hb14.size)
  have hg15 := hg.later hb15
  clear hx hb14 hg14
  go_wp2_with fail
  refine (name_is B false HB.out _ HZ2.out hg15).mono ?_
  rintro e w16 ⟨rfl, hx⟩
  have hb16 := hb15.trans (hx.mono hb15.size)
  have hg16 := hg.later hb16
  clear hx hb15 hg15
  go_wp2_with fail
  refine (name_is D false HD.out _ HZ3.out hg16).mono ?_
  rintro e w17 ⟨rfl, hx⟩
  have hb17 := hb16.trans (hx.mono hb16.size)
  have hg17 := hg.later hb17
  clear hx hb16 hg16
  go_wp2_with fail
  refine (name_is s true HN.out _ (by omega) hg17).mono ?_
  rintro e w18 ⟨rfl, hx⟩
  have hb18 := hb17.trans (hx.mono hb17.size)
  have hg18 := hg.later hb18
  clear hx hb17 hg17
  go_wp2_with fail
  refine (len_is s n HT.out HL.out _ (by omega) hg18).mono ?_
  rintro e w19 ⟨rfl, hx⟩
  have hb19 := hb18.trans (hx.mono hb18.size)
  have hg19 := hg.later hb19
  clear hx hb18 hg18
  go_wp2_with fail
  refine (name_is M true HM.out _ _HZ4.out hg19).mono ?_
  rintro e w20 ⟨rfl, hx⟩
  have hb20 := hb19.trans (hx.mono hb19.size)
  have hg20 := hg.later hb20
  clear hx hb19 hg19
  go_wp2_with fail
  refine (works_any _ hg20).mono ?_
  rintro e w21 ⟨rfl, hx⟩
  have hb21 := hb20.trans (hx.mono hb20.size)
  have hg21 := hg.later hb21
  clear hx hb20 hg20
  go_wp2
  go_ret
  exact ⟨rfl, hb21⟩
set_option maxHeartbeats 4000000 in
set_option maxRecDepth 1000000 in
theorem names_both_false_s (s t : ByteArray) (w : World) (hg : Gr w) (J B D M : ByteArray) (eJ : s ++ ⟨#[58]⟩ ++ t = J) (eB : s ++ ⟨#[32]⟩ ++ t = B) (eD : s ++ ⟨#[58, 58]⟩ ++ t = D) (_eM : s ++ ⟨#[45, 46, 194, 183, 57]⟩ = M) (h : ¬ 2000 < s.size) (h2 : ¬ 2000 < t.size) (HZ1 : Hid (J.size < 4294967281)) (HZ2 : Hid (B.size < 4294967281)) (HZ3 : Hid (D.size < 4294967281)) (_HZ4 : Hid (M.size < 4294967281)) (HB : Hid (nameL B.data.toList = false)) (HD : Hid (nameL D.data.toList = false)) (HN : Hid (nameL s.data.toList = true)) (HT : Hid (text s.data.toList = true)) (HO : Hid (normL s.data.toList = s.data.toList)) (HK : Hid (contains s.data.toList (⟨#[32]⟩ : ByteArray).data.toList = false)) (n k : Int) (HC : Hid (((s.data.toList.count 58 : Nat) : Int) = k)) (hk : k ≤ 1) (HL : Hid (((codes s.data.toList).length : Int) = n)) (hn1 : 1 ≤ n) (hn2 : n ≤ 100) (HP : Hid (plainL s.data.toList = true)) (HQ : Hid (plainL t.data.toList = true)) (m : Int) (HT2 : Hid (text t.data.toList = true)) (HL2 : Hid (((codes t.data.toList).length : Int) = m)) (hm1 : 0 ≤ m) (hm2 : m ≤ 100) (hnm : ¬ (n + m < 100)) (HJ : Hid (nameL J.data.toList = false)) (hlong : ¬ 95 < n) (HM : Hid (nameL M.data.toList = true)) :
    Calls Tryd.prog 11 #[.string s, .string t] w fun e w' => e = .returned (.bool true) ∧ Below w.heap.size w w' := by
  have hz : ¬ (2000 : Int) < (s.size : Int) := by omega
  have hz2 : ¬ (2000 : Int) < (t.size : Int) := by omega
  go_enter Tryd.func11, Tryd.ntmps11
  have hb0 : Below w.heap.size w w := Below.refl _ _
  have hg0 := hg
  go_wp2_with fail
  refine (name_is s true HN.out _ (by omega) hg0).mono ?_
  rintro e w1 ⟨rfl, hx⟩
  have hb1 := hb0.trans (hx.mono hb0.size)
  have hg1 := hg.later hb1
  clear hx hb0 hg0
  go_wp2_with fail
  refine (isText_is s true HT.out _ (by omega) hg1).mono ?_
  rintro e w2 ⟨rfl, hx⟩
  have hb2 := hb1.trans (hx.mono hb1.size)
  have hg2 := hg.later hb2
  clear hx hb1 hg1
  go_wp2_with fail
  refine (norm_is s s HO.out _ (by omega)).mono ?_
  rintro e w3 ⟨rfl, hx⟩
  have hb3 := hb2.trans (hx.mono hb2.size)
  have hg3 := hg.later hb3
  clear hx hb2 hg2
  go_wp2_with fail
  refine (contains_is s ⟨#[32]⟩ false HK.out _ (by omega) hg3).mono ?_
  rintro e w4 ⟨rfl, hx⟩
  have hb4 := hb3.trans (hx.mono hb3.size)
  have hg4 := hg.later hb4
  clear hx hb3 hg3
  go_wp2_with fail
  refine (count_is s 58 k HC.out _).mono ?_
  rintro e w5 ⟨rfl, hx⟩
  have hb5 := hb4.trans (hx.mono hb4.size)
  have hg5 := hg.later hb5
  clear hx hb4 hg4
  go_wp2_with fail
  refine (len_is s n HT.out HL.out _ (by omega) hg5).mono ?_
  rintro e w6 ⟨rfl, hx⟩
  have hb6 := hb5.trans (hx.mono hb5.size)
  have hg6 := hg.later hb6
  clear hx hb5 hg5
  go_wp2_with fail
  refine (len_is s n HT.out HL.out _ (by omega) hg6).mono ?_
  rintro e w7 ⟨rfl, hx⟩
  have hb7 := hb6.trans (hx.mono hb6.size)
  have hg7 := hg.later hb7
  clear hx hb6 hg6
  go_wp2_with fail
  refine (plain_is s true HP.out _ (by omega) hg7).mono ?_
  rintro e w8 ⟨rfl, hx⟩
  have hb8 := hb7.trans (hx.mono hb7.size)
  have hg8 := hg.later hb8
  clear hx hb7 hg7
  go_wp2_with fail
  refine (plain_is t true HQ.out _ (by omega) hg8).mono ?_
  rintro e w9 ⟨rfl, hx⟩
  have hb9 := hb8.trans (hx.mono hb8.size)
  have hg9 := hg.later hb9
  clear hx hb8 hg8
  go_wp2_with fail
  refine (name_is J false HJ.out _ HZ1.out hg9).mono ?_
  rintro e w10 ⟨rfl, hx⟩
  have hb10 := hb9.trans (hx.mono hb9.size)
  have hg10 := hg.later hb10
  clear hx hb9 hg9
  go_wp2_with fail
  refine (len_is s n HT.out HL.out _ (by omega) hg10).mono ?_
  rintro e w11 ⟨rfl, hx⟩
  have hb11 := hb10.trans (hx.mono hb10.size)
  have hg11 := hg.later hb11
  clear hx hb10 hg10
  go_wp2_with fail
  refine (len_is t m HT2.out HL2.out _ (by omega) hg11).mono ?_
  rintro e w12 ⟨rfl, hx⟩
  have hb12 := hb11.trans (hx.mono hb11.size)
  have hg12 := hg.later hb12
  clear hx hb11 hg11
  go_wp2_with fail
  refine (name_is J false HJ.out _ HZ1.out hg12).mono ?_
  rintro e w13 ⟨rfl, hx⟩
  have hb13 := hb12.trans (hx.mono hb12.size)
  have hg13 := hg.later hb13
  clear hx hb12 hg12
  go_wp2_with fail
  refine (name_is B false HB.out _ HZ2.out hg13).mono ?_
  rintro e w14 ⟨rfl, hx⟩
  have hb14 := hb13.trans (hx.mono hb13.size)
  have hg14 := hg.later hb14
  clear hx hb13 hg13
  go_wp2_with fail
  refine (name_is D false HD.out _ HZ3.out hg14).mono ?_
  rintro e w15 ⟨rfl, hx⟩
  have hb15 := hb14.trans (hx.mono hb14.size)
  have hg15 := hg.later hb15
  clear hx hb14 hg14
  go_wp2_with fail
  refine (name_is s true HN.out _ (by omega) hg15).mono ?_
  rintro e w16 ⟨rfl, hx⟩
  have hb16 := hb15.trans (hx.mono hb15.size)
  have hg16 := hg.later hb16
  clear hx hb15 hg15
  go_wp2_with fail
  refine (len_is s n HT.out HL.out _ (by omega) hg16).mono ?_
  rintro e w17 ⟨rfl, hx⟩
  have hb17 := hb16.trans (hx.mono hb16.size)
  have hg17 := hg.later hb17
  clear hx hb16 hg16
  go_wp2_with fail
  refine (name_is M true HM.out _ _HZ4.out hg17).mono ?_
  rintro e w18 ⟨rfl, hx⟩
  have hb18 := hb17.trans (hx.mono hb17.size)
  have hg18 := hg.later hb18
  clear hx hb17 hg17
  go_wp2_with fail
  refine (works_any _ hg18).mono ?_
  rintro e w19 ⟨rfl, hx⟩
  have hb19 := hb18.trans (hx.mono hb18.size)
  have hg19 := hg.later hb19
  clear hx hb18 hg18
  go_wp2
  go_ret
  exact ⟨rfl, hb19⟩
set_option maxHeartbeats 4000000 in
set_option maxRecDepth 1000000 in
theorem names_colon_l (s t : ByteArray) (w : World) (hg : Gr w) (J B D M : ByteArray) (eJ : s ++ ⟨#[58]⟩ ++ t = J) (eB : s ++ ⟨#[32]⟩ ++ t = B) (eD : s ++ ⟨#[58, 58]⟩ ++ t = D) (_eM : s ++ ⟨#[45, 46, 194, 183, 57]⟩ = M) (h : ¬ 2000 < s.size) (h2 : ¬ 2000 < t.size) (HZ1 : Hid (J.size < 4294967281)) (HZ2 : Hid (B.size < 4294967281)) (HZ3 : Hid (D.size < 4294967281)) (_HZ4 : Hid (M.size < 4294967281)) (HB : Hid (nameL B.data.toList = false)) (HD : Hid (nameL D.data.toList = false)) (HN : Hid (nameL s.data.toList = true)) (HT : Hid (text s.data.toList = true)) (HO : Hid (normL s.data.toList = s.data.toList)) (HK : Hid (contains s.data.toList (⟨#[32]⟩ : ByteArray).data.toList = false)) (n k : Int) (HC : Hid (((s.data.toList.count 58 : Nat) : Int) = k)) (hk : k ≤ 1) (HL : Hid (((codes s.data.toList).length : Int) = n)) (hn1 : 1 ≤ n) (hn2 : n ≤ 100) (HP : Hid (plainL s.data.toList = false)) (HJ : Hid (nameL J.data.toList = false)) (hlong : 95 < n) :
    Calls Tryd.prog 11 #[.string s, .string t] w fun e w' => e = .returned (.bool true) ∧ Below w.heap.size w w' := by
  have hz : ¬ (2000 : Int) < (s.size : Int) := by omega
  have hz2 : ¬ (2000 : Int) < (t.size : Int) := by omega
  go_enter Tryd.func11, Tryd.ntmps11
  have hb0 : Below w.heap.size w w := Below.refl _ _
  have hg0 := hg
  go_wp2_with fail
  refine (name_is s true HN.out _ (by omega) hg0).mono ?_
  rintro e w1 ⟨rfl, hx⟩
  have hb1 := hb0.trans (hx.mono hb0.size)
  have hg1 := hg.later hb1
  clear hx hb0 hg0
  go_wp2_with fail
  refine (isText_is s true HT.out _ (by omega) hg1).mono ?_
  rintro e w2 ⟨rfl, hx⟩
  have hb2 := hb1.trans (hx.mono hb1.size)
  have hg2 := hg.later hb2
  clear hx hb1 hg1
  go_wp2_with fail
  refine (norm_is s s HO.out _ (by omega)).mono ?_
  rintro e w3 ⟨rfl, hx⟩
  have hb3 := hb2.trans (hx.mono hb2.size)
  have hg3 := hg.later hb3
  clear hx hb2 hg2
  go_wp2_with fail
  refine (contains_is s ⟨#[32]⟩ false HK.out _ (by omega) hg3).mono ?_
  rintro e w4 ⟨rfl, hx⟩
  have hb4 := hb3.trans (hx.mono hb3.size)
  have hg4 := hg.later hb4
  clear hx hb3 hg3
  go_wp2_with fail
  refine (count_is s 58 k HC.out _).mono ?_
  rintro e w5 ⟨rfl, hx⟩
  have hb5 := hb4.trans (hx.mono hb4.size)
  have hg5 := hg.later hb5
  clear hx hb4 hg4
  go_wp2_with fail
  refine (len_is s n HT.out HL.out _ (by omega) hg5).mono ?_
  rintro e w6 ⟨rfl, hx⟩
  have hb6 := hb5.trans (hx.mono hb5.size)
  have hg6 := hg.later hb6
  clear hx hb5 hg5
  go_wp2_with fail
  refine (len_is s n HT.out HL.out _ (by omega) hg6).mono ?_
  rintro e w7 ⟨rfl, hx⟩
  have hb7 := hb6.trans (hx.mono hb6.size)
  have hg7 := hg.later hb7
  clear hx hb6 hg6
  go_wp2_with fail
  refine (plain_is s false HP.out _ (by omega) hg7).mono ?_
  rintro e w8 ⟨rfl, hx⟩
  have hb8 := hb7.trans (hx.mono hb7.size)
  have hg8 := hg.later hb8
  clear hx hb7 hg7
  go_wp2_with fail
  refine (name_is J false HJ.out _ HZ1.out hg8).mono ?_
  rintro e w9 ⟨rfl, hx⟩
  have hb9 := hb8.trans (hx.mono hb8.size)
  have hg9 := hg.later hb9
  clear hx hb8 hg8
  go_wp2_with fail
  refine (name_is B false HB.out _ HZ2.out hg9).mono ?_
  rintro e w10 ⟨rfl, hx⟩
  have hb10 := hb9.trans (hx.mono hb9.size)
  have hg10 := hg.later hb10
  clear hx hb9 hg9
  go_wp2_with fail
  refine (name_is D false HD.out _ HZ3.out hg10).mono ?_
  rintro e w11 ⟨rfl, hx⟩
  have hb11 := hb10.trans (hx.mono hb10.size)
  have hg11 := hg.later hb11
  clear hx hb10 hg10
  go_wp2_with fail
  refine (name_is s true HN.out _ (by omega) hg11).mono ?_
  rintro e w12 ⟨rfl, hx⟩
  have hb12 := hb11.trans (hx.mono hb11.size)
  have hg12 := hg.later hb12
  clear hx hb11 hg11
  go_wp2_with fail
  refine (len_is s n HT.out HL.out _ (by omega) hg12).mono ?_
  rintro e w13 ⟨rfl, hx⟩
  have hb13 := hb12.trans (hx.mono hb12.size)
  have hg13 := hg.later hb13
  clear hx hb12 hg12
  go_wp2_with fail
  refine (works_any _ hg13).mono ?_
  rintro e w14 ⟨rfl, hx⟩
  have hb14 := hb13.trans (hx.mono hb13.size)
  have hg14 := hg.later hb14
  clear hx hb13 hg13
  go_wp2
  go_ret
  exact ⟨rfl, hb14⟩
set_option maxHeartbeats 4000000 in
set_option maxRecDepth 1000000 in
theorem names_other_l (s t : ByteArray) (w : World) (hg : Gr w) (J B D M : ByteArray) (eJ : s ++ ⟨#[58]⟩ ++ t = J) (eB : s ++ ⟨#[32]⟩ ++ t = B) (eD : s ++ ⟨#[58, 58]⟩ ++ t = D) (_eM : s ++ ⟨#[45, 46, 194, 183, 57]⟩ = M) (h : ¬ 2000 < s.size) (h2 : ¬ 2000 < t.size) (HZ1 : Hid (J.size < 4294967281)) (HZ2 : Hid (B.size < 4294967281)) (HZ3 : Hid (D.size < 4294967281)) (_HZ4 : Hid (M.size < 4294967281)) (HB : Hid (nameL B.data.toList = false)) (HD : Hid (nameL D.data.toList = false)) (HN : Hid (nameL s.data.toList = true)) (HT : Hid (text s.data.toList = true)) (HO : Hid (normL s.data.toList = s.data.toList)) (HK : Hid (contains s.data.toList (⟨#[32]⟩ : ByteArray).data.toList = false)) (n k : Int) (HC : Hid (((s.data.toList.count 58 : Nat) : Int) = k)) (hk : k ≤ 1) (HL : Hid (((codes s.data.toList).length : Int) = n)) (hn1 : 1 ≤ n) (hn2 : n ≤ 100) (HP : Hid (plainL s.data.toList = true)) (HQ : Hid (plainL t.data.toList = false)) (HJ : Hid (nameL J.data.toList = false)) (hlong : 95 < n) :
    Calls Tryd.prog 11 #[.string s, .string t] w fun e w' => e = .returned (.bool true) ∧ Below w.heap.size w w' := by
  have hz : ¬ (2000 : Int) < (s.size : Int) := by omega
  have hz2 : ¬ (2000 : Int) < (t.size : Int) := by omega
  go_enter Tryd.func11, Tryd.ntmps11
  have hb0 : Below w.heap.size w w := Below.refl _ _
  have hg0 := hg
  go_wp2_with fail
  refine (name_is s true HN.out _ (by omega) hg0).mono ?_
  rintro e w1 ⟨rfl, hx⟩
  have hb1 := hb0.trans (hx.mono hb0.size)
  have hg1 := hg.later hb1
  clear hx hb0 hg0
  go_wp2_with fail
  refine (isText_is s true HT.out _ (by omega) hg1).mono ?_
  rintro e w2 ⟨rfl, hx⟩
  have hb2 := hb1.trans (hx.mono hb1.size)
  have hg2 := hg.later hb2
  clear hx hb1 hg1
  go_wp2_with fail
  refine (norm_is s s HO.out _ (by omega)).mono ?_
  rintro e w3 ⟨rfl, hx⟩
  have hb3 := hb2.trans (hx.mono hb2.size)
  have hg3 := hg.later hb3
  clear hx hb2 hg2
  go_wp2_with fail
  refine (contains_is s ⟨#[32]⟩ false HK.out _ (by omega) hg3).mono ?_
  rintro e w4 ⟨rfl, hx⟩
  have hb4 := hb3.trans (hx.mono hb3.size)
  have hg4 := hg.later hb4
  clear hx hb3 hg3
  go_wp2_with fail
  refine (count_is s 58 k HC.out _).mono ?_
  rintro e w5 ⟨rfl, hx⟩
  have hb5 := hb4.trans (hx.mono hb4.size)
  have hg5 := hg.later hb5
  clear hx hb4 hg4
  go_wp2_with fail
  refine (len_is s n HT.out HL.out _ (by omega) hg5).mono ?_
  rintro e w6 ⟨rfl, hx⟩
  have hb6 := hb5.trans (hx.mono hb5.size)
  have hg6 := hg.later hb6
  clear hx hb5 hg5
  go_wp2_with fail
  refine (len_is s n HT.out HL.out _ (by omega) hg6).mono ?_
  rintro e w7 ⟨rfl, hx⟩
  have hb7 := hb6.trans (hx.mono hb6.size)
  have hg7 := hg.later hb7
  clear hx hb6 hg6
  go_wp2_with fail
  refine (plain_is s true HP.out _ (by omega) hg7).mono ?_
  rintro e w8 ⟨rfl, hx⟩
  have hb8 := hb7.trans (hx.mono hb7.size)
  have hg8 := hg.later hb8
  clear hx hb7 hg7
  go_wp2_with fail
  refine (plain_is t false HQ.out _ (by omega) hg8).mono ?_
  rintro e w9 ⟨rfl, hx⟩
  have hb9 := hb8.trans (hx.mono hb8.size)
  have hg9 := hg.later hb9
  clear hx hb8 hg8
  go_wp2_with fail
  refine (name_is J false HJ.out _ HZ1.out hg9).mono ?_
  rintro e w10 ⟨rfl, hx⟩
  have hb10 := hb9.trans (hx.mono hb9.size)
  have hg10 := hg.later hb10
  clear hx hb9 hg9
  go_wp2_with fail
  refine (name_is B false HB.out _ HZ2.out hg10).mono ?_
  rintro e w11 ⟨rfl, hx⟩
  have hb11 := hb10.trans (hx.mono hb10.size)
  have hg11 := hg.later hb11
  clear hx hb10 hg10
  go_wp2_with fail
  refine (name_is D false HD.out _ HZ3.out hg11).mono ?_
  rintro e w12 ⟨rfl, hx⟩
  have hb12 := hb11.trans (hx.mono hb11.size)
  have hg12 := hg.later hb12
  clear hx hb11 hg11
  go_wp2_with fail
  refine (name_is s true HN.out _ (by omega) hg12).mono ?_
  rintro e w13 ⟨rfl, hx⟩
  have hb13 := hb12.trans (hx.mono hb12.size)
  have hg13 := hg.later hb13
  clear hx hb12 hg12
  go_wp2_with fail
  refine (len_is s n HT.out HL.out _ (by omega) hg13).mono ?_
  rintro e w14 ⟨rfl, hx⟩
  have hb14 := hb13.trans (hx.mono hb13.size)
  have hg14 := hg.later hb14
  clear hx hb13 hg13
  go_wp2_with fail
  refine (works_any _ hg14).mono ?_
  rintro e w15 ⟨rfl, hx⟩
  have hb15 := hb14.trans (hx.mono hb14.size)
  have hg15 := hg.later hb15
  clear hx hb14 hg14
  go_wp2
  go_ret
  exact ⟨rfl, hb15⟩
set_option maxHeartbeats 4000000 in
set_option maxRecDepth 1000000 in
theorem names_both_true_l (s t : ByteArray) (w : World) (hg : Gr w) (J B D M : ByteArray) (eJ : s ++ ⟨#[58]⟩ ++ t = J) (eB : s ++ ⟨#[32]⟩ ++ t = B) (eD : s ++ ⟨#[58, 58]⟩ ++ t = D) (_eM : s ++ ⟨#[45, 46, 194, 183, 57]⟩ = M) (h : ¬ 2000 < s.size) (h2 : ¬ 2000 < t.size) (HZ1 : Hid (J.size < 4294967281)) (HZ2 : Hid (B.size < 4294967281)) (HZ3 : Hid (D.size < 4294967281)) (_HZ4 : Hid (M.size < 4294967281)) (HB : Hid (nameL B.data.toList = false)) (HD : Hid (nameL D.data.toList = false)) (HN : Hid (nameL s.data.toList = true)) (HT : Hid (text s.data.toList = true)) (HO : Hid (normL s.data.toList = s.data.toList)) (HK : Hid (contains s.data.toList (⟨#[32]⟩ : ByteArray).data.toList = false)) (n k : Int) (HC : Hid (((s.data.toList.count 58 : Nat) : Int) = k)) (hk : k ≤ 1) (HL : Hid (((codes s.data.toList).length : Int) = n)) (hn1 : 1 ≤ n) (hn2 : n ≤ 100) (HP : Hid (plainL s.data.toList = true)) (HQ : Hid (plainL t.data.toList = true)) (m : Int) (HT2 : Hid (text t.data.toList = true)) (HL2 : Hid (((codes t.data.toList).length : Int) = m)) (hm1 : 0 ≤ m) (hm2 : m ≤ 100) (hnm : (n + m < 100)) (HJ : Hid (nameL J.data.toList = true)) (hlong : 95 < n) :
    Calls Tryd.prog 11 #[.string s, .string t] w fun e w' => e = .returned (.bool true) ∧ Below w.heap.size w w' := by
  have hz : ¬ (2000 : Int) < (s.size : Int) := by omega
  have hz2 : ¬ (2000 : Int) < (t.size : Int) := by omega
  go_enter Tryd.func11, Tryd.ntmps11
  have hb0 : Below w.heap.size w w := Below.refl _ _
  have hg0 := hg
  go_wp2_with fail
  refine (name_is s true HN.out _ (by omega) hg0).mono ?_
  rintro e w1 ⟨rfl, hx⟩
  have hb1 := hb0.trans (hx.mono hb0.size)
  have hg1 := hg.later hb1
  clear hx hb0 hg0
  go_wp2_with fail
  refine (isText_is s true HT.out _ (by omega) hg1).mono ?_
  rintro e w2 ⟨rfl, hx⟩
  have hb2 := hb1.trans (hx.mono hb1.size)
  have hg2 := hg.later hb2
  clear hx hb1 hg1
  go_wp2_with fail
  refine (norm_is s s HO.out _ (by omega)).mono ?_
  rintro e w3 ⟨rfl, hx⟩
  have hb3 := hb2.trans (hx.mono hb2.size)
  have hg3 := hg.later hb3
  clear hx hb2 hg2
  go_wp2_with fail
  refine (contains_is s ⟨#[32]⟩ false HK.out _ (by omega) hg3).mono ?_
  rintro e w4 ⟨rfl, hx⟩
  have hb4 := hb3.trans (hx.mono hb3.size)
  have hg4 := hg.later hb4
  clear hx hb3 hg3
  go_wp2_with fail
  refine (count_is s 58 k HC.out _).mono ?_
  rintro e w5 ⟨rfl, hx⟩
  have hb5 := hb4.trans (hx.mono hb4.size)
  have hg5 := hg.later hb5
  clear hx hb4 hg4
  go_wp2_with fail
  refine (len_is s n HT.out HL.out _ (by omega) hg5).mono ?_
  rintro e w6 ⟨rfl, hx⟩
  have hb6 := hb5.trans (hx.mono hb5.size)
  have hg6 := hg.later hb6
  clear hx hb5 hg5
  go_wp2_with fail
  refine (len_is s n HT.out HL.out _ (by omega) hg6).mono ?_
  rintro e w7 ⟨rfl, hx⟩
  have hb7 := hb6.trans (hx.mono hb6.size)
  have hg7 := hg.later hb7
  clear hx hb6 hg6
  go_wp2_with fail
  refine (plain_is s true HP.out _ (by omega) hg7).mono ?_
  rintro e w8 ⟨rfl, hx⟩
  have hb8 := hb7.trans (hx.mono hb7.size)
  have hg8 := hg.later hb8
  clear hx hb7 hg7
  go_wp2_with fail
  refine (plain_is t true HQ.out _ (by omega) hg8).mono ?_
  rintro e w9 ⟨rfl, hx⟩
  have hb9 := hb8.trans (hx.mono hb8.size)
  have hg9 := hg.later hb9
  clear hx hb8 hg8
  go_wp2_with fail
  refine (name_is J true HJ.out _ HZ1.out hg9).mono ?_
  rintro e w10 ⟨rfl, hx⟩
  have hb10 := hb9.trans (hx.mono hb9.size)
  have hg10 := hg.later hb10
  clear hx hb9 hg9
  go_wp2_with fail
  refine (len_is s n HT.out HL.out _ (by omega) hg10).mono ?_
  rintro e w11 ⟨rfl, hx⟩
  have hb11 := hb10.trans (hx.mono hb10.size)
  have hg11 := hg.later hb11
  clear hx hb10 hg10
  go_wp2_with fail
  refine (len_is t m HT2.out HL2.out _ (by omega) hg11).mono ?_
  rintro e w12 ⟨rfl, hx⟩
  have hb12 := hb11.trans (hx.mono hb11.size)
  have hg12 := hg.later hb12
  clear hx hb11 hg11
  go_wp2_with fail
  refine (name_is J true HJ.out _ HZ1.out hg12).mono ?_
  rintro e w13 ⟨rfl, hx⟩
  have hb13 := hb12.trans (hx.mono hb12.size)
  have hg13 := hg.later hb13
  clear hx hb12 hg12
  go_wp2_with fail
  refine (plain_is s true HP.out _ (by omega) hg13).mono ?_
  rintro e w14 ⟨rfl, hx⟩
  have hb14 := hb13.trans (hx.mono hb13.size)
  have hg14 := hg.later hb14
  clear hx hb13 hg13
  go_wp2_with fail
  refine (plain_is t true HQ.out _ (by omega) hg14).mono ?_
  rintro e w15 ⟨rfl, hx⟩
  have hb15 := hb14.trans (hx.mono hb14.size)
  have hg15 := hg.later hb15
  clear hx hb14 hg14
  go_wp2_with fail
  refine (name_is B false HB.out _ HZ2.out hg15).mono ?_
  rintro e w16 ⟨rfl, hx⟩
  have hb16 := hb15.trans (hx.mono hb15.size)
  have hg16 := hg.later hb16
  clear hx hb15 hg15
  go_wp2_with fail
  refine (name_is D false HD.out _ HZ3.out hg16).mono ?_
  rintro e w17 ⟨rfl, hx⟩
  have hb17 := hb16.trans (hx.mono hb16.size)
  have hg17 := hg.later hb17
  clear hx hb16 hg16
  go_wp2_with fail
  refine (name_is s true HN.out _ (by omega) hg17).mono ?_
  rintro e w18 ⟨rfl, hx⟩
  have hb18 := hb17.trans (hx.mono hb17.size)
  have hg18 := hg.later hb18
  clear hx hb17 hg17
  go_wp2_with fail
  refine (len_is s n HT.out HL.out _ (by omega) hg18).mono ?_
  rintro e w19 ⟨rfl, hx⟩
  have hb19 := hb18.trans (hx.mono hb18.size)
  have hg19 := hg.later hb19
  clear hx hb18 hg18
  go_wp2_with fail
  refine (works_any _ hg19).mono ?_
  rintro e w20 ⟨rfl, hx⟩
  have hb20 := hb19.trans (hx.mono hb19.size)
  have hg20 := hg.later hb20
  clear hx hb19 hg19
  go_wp2
  go_ret
  exact ⟨rfl, hb20⟩
set_option maxHeartbeats 4000000 in
set_option maxRecDepth 1000000 in
theorem names_both_false_l (s t : ByteArray) (w : World) (hg : Gr w) (J B D M : ByteArray) (eJ : s ++ ⟨#[58]⟩ ++ t = J) (eB : s ++ ⟨#[32]⟩ ++ t = B) (eD : s ++ ⟨#[58, 58]⟩ ++ t = D) (_eM : s ++ ⟨#[45, 46, 194, 183, 57]⟩ = M) (h : ¬ 2000 < s.size) (h2 : ¬ 2000 < t.size) (HZ1 : Hid (J.size < 4294967281)) (HZ2 : Hid (B.size < 4294967281)) (HZ3 : Hid (D.size < 4294967281)) (_HZ4 : Hid (M.size < 4294967281)) (HB : Hid (nameL B.data.toList = false)) (HD : Hid (nameL D.data.toList = false)) (HN : Hid (nameL s.data.toList = true)) (HT : Hid (text s.data.toList = true)) (HO : Hid (normL s.data.toList = s.data.toList)) (HK : Hid (contains s.data.toList (⟨#[32]⟩ : ByteArray).data.toList = false)) (n k : Int) (HC : Hid (((s.data.toList.count 58 : Nat) : Int) = k)) (hk : k ≤ 1) (HL : Hid (((codes s.data.toList).length : Int) = n)) (hn1 : 1 ≤ n) (hn2 : n ≤ 100) (HP : Hid (plainL s.data.toList = true)) (HQ : Hid (plainL t.data.toList = true)) (m : Int) (HT2 : Hid (text t.data.toList = true)) (HL2 : Hid (((codes t.data.toList).length : Int) = m)) (hm1 : 0 ≤ m) (hm2 : m ≤ 100) (hnm : ¬ (n + m < 100)) (HJ : Hid (nameL J.data.toList = false)) (hlong : 95 < n) :
    Calls Tryd.prog 11 #[.string s, .string t] w fun e w' => e = .returned (.bool true) ∧ Below w.heap.size w w' := by
  have hz : ¬ (2000 : Int) < (s.size : Int) := by omega
  have hz2 : ¬ (2000 : Int) < (t.size : Int) := by omega
  go_enter Tryd.func11, Tryd.ntmps11
  have hb0 : Below w.heap.size w w := Below.refl _ _
  have hg0 := hg
  go_wp2_with fail
  refine (name_is s true HN.out _ (by omega) hg0).mono ?_
  rintro e w1 ⟨rfl, hx⟩
  have hb1 := hb0.trans (hx.mono hb0.size)
  have hg1 := hg.later hb1
  clear hx hb0 hg0
  go_wp2_with fail
  refine (isText_is s true HT.out _ (by omega) hg1).mono ?_
  rintro e w2 ⟨rfl, hx⟩
  have hb2 := hb1.trans (hx.mono hb1.size)
  have hg2 := hg.later hb2
  clear hx hb1 hg1
  go_wp2_with fail
  refine (norm_is s s HO.out _ (by omega)).mono ?_
  rintro e w3 ⟨rfl, hx⟩
  have hb3 := hb2.trans (hx.mono hb2.size)
  have hg3 := hg.later hb3
  clear hx hb2 hg2
  go_wp2_with fail
  refine (contains_is s ⟨#[32]⟩ false HK.out _ (by omega) hg3).mono ?_
  rintro e w4 ⟨rfl, hx⟩
  have hb4 := hb3.trans (hx.mono hb3.size)
  have hg4 := hg.later hb4
  clear hx hb3 hg3
  go_wp2_with fail
  refine (count_is s 58 k HC.out _).mono ?_
  rintro e w5 ⟨rfl, hx⟩
  have hb5 := hb4.trans (hx.mono hb4.size)
  have hg5 := hg.later hb5
  clear hx hb4 hg4
  go_wp2_with fail
  refine (len_is s n HT.out HL.out _ (by omega) hg5).mono ?_
  rintro e w6 ⟨rfl, hx⟩
  have hb6 := hb5.trans (hx.mono hb5.size)
  have hg6 := hg.later hb6
  clear hx hb5 hg5
  go_wp2_with fail
  refine (len_is s n HT.out HL.out _ (by omega) hg6).mono ?_
  rintro e w7 ⟨rfl, hx⟩
  have hb7 := hb6.trans (hx.mono hb6.size)
  have hg7 := hg.later hb7
  clear hx hb6 hg6
  go_wp2_with fail
  refine (plain_is s true HP.out _ (by omega) hg7).mono ?_
  rintro e w8 ⟨rfl, hx⟩
  have hb8 := hb7.trans (hx.mono hb7.size)
  have hg8 := hg.later hb8
  clear hx hb7 hg7
  go_wp2_with fail
  refine (plain_is t true HQ.out _ (by omega) hg8).mono ?_
  rintro e w9 ⟨rfl, hx⟩
  have hb9 := hb8.trans (hx.mono hb8.size)
  have hg9 := hg.later hb9
  clear hx hb8 hg8
  go_wp2_with fail
  refine (name_is J false HJ.out _ HZ1.out hg9).mono ?_
  rintro e w10 ⟨rfl, hx⟩
  have hb10 := hb9.trans (hx.mono hb9.size)
  have hg10 := hg.later hb10
  clear hx hb9 hg9
  go_wp2_with fail
  refine (len_is s n HT.out HL.out _ (by omega) hg10).mono ?_
  rintro e w11 ⟨rfl, hx⟩
  have hb11 := hb10.trans (hx.mono hb10.size)
  have hg11 := hg.later hb11
  clear hx hb10 hg10
  go_wp2_with fail
  refine (len_is t m HT2.out HL2.out _ (by omega) hg11).mono ?_
  rintro e w12 ⟨rfl, hx⟩
  have hb12 := hb11.trans (hx.mono hb11.size)
  have hg12 := hg.later hb12
  clear hx hb11 hg11
  go_wp2_with fail
  refine (name_is J false HJ.out _ HZ1.out hg12).mono ?_
  rintro e w13 ⟨rfl, hx⟩
  have hb13 := hb12.trans (hx.mono hb12.size)
  have hg13 := hg.later hb13
  clear hx hb12 hg12
  go_wp2_with fail
  refine (name_is B false HB.out _ HZ2.out hg13).mono ?_
  rintro e w14 ⟨rfl, hx⟩
  have hb14 := hb13.trans (hx.mono hb13.size)
  have hg14 := hg.later hb14
  clear hx hb13 hg13
  go_wp2_with fail
  refine (name_is D false HD.out _ HZ3.out hg14).mono ?_
  rintro e w15 ⟨rfl, hx⟩
  have hb15 := hb14.trans (hx.mono hb14.size)
  have hg15 := hg.later hb15
  clear hx hb14 hg14
  go_wp2_with fail
  refine (name_is s true HN.out _ (by omega) hg15).mono ?_
  rintro e w16 ⟨rfl, hx⟩
  have hb16 := hb15.trans (hx.mono hb15.size)
  have hg16 := hg.later hb16
  clear hx hb15 hg15
  go_wp2_with fail
  refine (len_is s n HT.out HL.out _ (by omega) hg16).mono ?_
  rintro e w17 ⟨rfl, hx⟩
  have hb17 := hb16.trans (hx.mono hb16.size)
  have hg17 := hg.later hb17
  clear hx hb16 hg16
  go_wp2_with fail
  refine (works_any _ hg17).mono ?_
  rintro e w18 ⟨rfl, hx⟩
  have hb18 := hb17.trans (hx.mono hb17.size)
  have hg18 := hg.later hb18
  clear hx hb17 hg17
  go_wp2
  go_ret
  exact ⟨rfl, hb18⟩

theorem sz1 (s t c : ByteArray) (h : ¬ 2000 < s.size) (h2 : ¬ 2000 < t.size) (hc : c.size ≤ 10) : (s ++ c ++ t).size < 4294967281 := by
  rw [size_append, size_append]; omega
theorem names_law (s t : ByteArray) (w : World) (hg : Gr w) :
    Calls Tryd.prog 11 #[.string s, .string t] w fun e w' => e = .returned (.bool true) ∧ Below w.heap.size w w' := by
  by_cases h : 2000 < s.size
  · exact names_big s t w hg h
  · by_cases h2 : 2000 < t.size
    · exact names_big2 s t w hg h h2
    · have HZ1 := Lib.hid (sz1 s t ⟨#[58]⟩ h h2 (by decide))
      have HZ2 := Lib.hid (sz1 s t ⟨#[32]⟩ h h2 (by decide))
      have HZ3 := Lib.hid (sz1 s t ⟨#[58, 58]⟩ h h2 (by decide))
      have HZ4 := Lib.hid (show (s ++ ⟨#[45, 46, 194, 183, 57]⟩).size < 4294967281 by rw [size_append, show (⟨#[45, 46, 194, 183, 57]⟩ : ByteArray).size = 5 from rfl]; omega)
      have HB := Lib.hid (show nameL (s ++ ⟨#[32]⟩ ++ t).data.toList = false by
        rw [data_append, data_append]; exact name_blank _ (by simp))
      have HD := Lib.hid (show nameL (s ++ ⟨#[58, 58]⟩ ++ t).data.toList = false by
        rw [data_append, data_append]; refine name_two _ ?_
        rw [List.count_append, List.count_append]
        have : ((⟨#[58, 58]⟩ : ByteArray).data.toList).count 58 = 2 := by decide
        omega)
      have hj : nameL (s ++ ⟨#[58]⟩ ++ t).data.toList = (plainL s.data.toList && plainL t.data.toList && decide ((codes s.data.toList).length + (codes t.data.toList).length < 100)) := by
        rw [data_append, data_append, ← name_join]
        congr 1
        simp
      cases hN : nameL s.data.toList
      · have hP : plainL s.data.toList = false := by unfold plainL; rw [hN]; rfl
        rw [hP] at hj
        exact names_no s t w hg _ _ _ _ rfl rfl rfl rfl h h2 HZ1 HZ2 HZ3 HZ4 HB HD (Lib.hid hN) (Lib.hid hP) (Lib.hid hj)
      · obtain ⟨hT, hW, hC, hl1, hl2⟩ := name_facts _ hN
        have HO := Lib.hid (norm_same _ hW)
        have HK := Lib.hid (no_blank _ hW)
        have HC := Lib.hid (rfl : ((s.data.toList.count 58 : Nat) : Int) = _)
        have HL := Lib.hid (rfl : ((codes s.data.toList).length : Int) = _)
        by_cases hlong : (95 : Int) < ((codes s.data.toList).length : Int)
        · cases hP : plainL s.data.toList
          · rw [hP] at hj
            exact names_colon_l s t w hg _ _ _ _ rfl rfl rfl rfl h h2 HZ1 HZ2 HZ3 HZ4 HB HD (Lib.hid hN) (Lib.hid hT) HO HK _ _ HC (by omega) HL (by omega) (by omega) (Lib.hid hP) (Lib.hid hj) hlong
          · cases hQ : plainL t.data.toList
            · rw [hP, hQ] at hj
              exact names_other_l s t w hg _ _ _ _ rfl rfl rfl rfl h h2 HZ1 HZ2 HZ3 HZ4 HB HD (Lib.hid hN) (Lib.hid hT) HO HK _ _ HC (by omega) HL (by omega) (by omega) (Lib.hid hP) (Lib.hid hQ) (Lib.hid hj) hlong
            · obtain ⟨hT2, _, hm⟩ := (plainL_iff _).1 hQ
              rw [hP, hQ] at hj
              by_cases hnm : (codes s.data.toList).length + (codes t.data.toList).length < 100
              · rw [decide_eq_true hnm] at hj
                exact names_both_true_l s t w hg _ _ _ _ rfl rfl rfl rfl h h2 HZ1 HZ2 HZ3 HZ4 HB HD (Lib.hid hN) (Lib.hid hT) HO HK _ _ HC (by omega) HL (by omega) (by omega) (Lib.hid hP) (Lib.hid hQ) _ (Lib.hid hT2) (Lib.hid rfl) (by omega) (by omega) (by omega) (Lib.hid hj) hlong
              · rw [decide_eq_false hnm] at hj
                exact names_both_false_l s t w hg _ _ _ _ rfl rfl rfl rfl h h2 HZ1 HZ2 HZ3 HZ4 HB HD (Lib.hid hN) (Lib.hid hT) HO HK _ _ HC (by omega) HL (by omega) (by omega) (Lib.hid hP) (Lib.hid hQ) _ (Lib.hid hT2) (Lib.hid rfl) (by omega) (by omega) (by omega) (Lib.hid hj) hlong
        · have HM := Lib.hid (show nameL (s ++ ⟨#[45, 46, 194, 183, 57]⟩).data.toList = true by
            rw [data_append, dot9]; exact name_more _ hN (by omega))
          cases hP : plainL s.data.toList
          · rw [hP] at hj
            exact names_colon_s s t w hg _ _ _ _ rfl rfl rfl rfl h h2 HZ1 HZ2 HZ3 HZ4 HB HD (Lib.hid hN) (Lib.hid hT) HO HK _ _ HC (by omega) HL (by omega) (by omega) (Lib.hid hP) (Lib.hid hj) hlong HM
          · cases hQ : plainL t.data.toList
            · rw [hP, hQ] at hj
              exact names_other_s s t w hg _ _ _ _ rfl rfl rfl rfl h h2 HZ1 HZ2 HZ3 HZ4 HB HD (Lib.hid hN) (Lib.hid hT) HO HK _ _ HC (by omega) HL (by omega) (by omega) (Lib.hid hP) (Lib.hid hQ) (Lib.hid hj) hlong HM
            · obtain ⟨hT2, _, hm⟩ := (plainL_iff _).1 hQ
              rw [hP, hQ] at hj
              by_cases hnm : (codes s.data.toList).length + (codes t.data.toList).length < 100
              · rw [decide_eq_true hnm] at hj
                exact names_both_true_s s t w hg _ _ _ _ rfl rfl rfl rfl h h2 HZ1 HZ2 HZ3 HZ4 HB HD (Lib.hid hN) (Lib.hid hT) HO HK _ _ HC (by omega) HL (by omega) (by omega) (Lib.hid hP) (Lib.hid hQ) _ (Lib.hid hT2) (Lib.hid rfl) (by omega) (by omega) (by omega) (Lib.hid hj) hlong HM
              · rw [decide_eq_false hnm] at hj
                exact names_both_false_s s t w hg _ _ _ _ rfl rfl rfl rfl h h2 HZ1 HZ2 HZ3 HZ4 HB HD (Lib.hid hN) (Lib.hid hT) HO HK _ _ HC (by omega) HL (by omega) (by omega) (Lib.hid hP) (Lib.hid hQ) _ (Lib.hid hT2) (Lib.hid rfl) (by omega) (by omega) (by omega) (Lib.hid hj) hlong HM
end Go.Proofs.YtpdgajjcapdjdaaDoor

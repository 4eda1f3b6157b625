/- CharsParts: a text is what Cut returns up to a place and from there on; two texts are a text with the sum of their lengths: the law's walks. -/
import Derived.Test.YtpdgajjcapdjdaaDoorCharsWorks
namespace Go.Proofs.YtpdgajjcapdjdaaDoor
open Go.RowKit Go.Lib

/-- Contracts with the answer known. -/
theorem isText_is (s : ByteArray) (b : Bool) (h : text s.data.toList = b) (W : World) (hs : s.size ≤ 9223372036854775807) (hg : Gr W) :
    Calls Tryd.prog 14 #[.string s] W fun e w' => e = .returned (.bool b) ∧ Below W.heap.size W w' := by
  have := isText_any s W hs hg
  rw [h] at this; exact this
theorem len_is (s : ByteArray) (z : Int) (h : text s.data.toList = true) (hz : ((codes s.data.toList).length : Int) = z) (W : World) (hs : s.size < 9223372036854775807) (hg : Gr W) :
    Calls Tryd.prog 27 #[.string s] W fun e w' => e = .returned (.int .i64 z) ∧ Below W.heap.size W w' := by
  have := len_any s W hs hg
  rw [h, if_pos rfl, hz] at this; exact this
theorem len_bad (s : ByteArray) (h : text s.data.toList = false) (W : World) (hs : s.size < 9223372036854775807) (hg : Gr W) :
    Calls Tryd.prog 27 #[.string s] W fun e w' => e = .returned (.int .i64 0) ∧ Below W.heap.size W w' := by
  have := len_any s W hs hg
  rw [h] at this; exact this
theorem cut_is (s r : ByteArray) (a b : Int) (h : cutL s.data.toList a b = r.data.toList) (W : World) (hs : s.size < 9223372036854775807) (hg : Gr W) (hb : b ≤ 9223372036854775807) :
    Calls Tryd.prog 29 #[.string s, .int .i64 a, .int .i64 b] W fun e w' => e = .returned (.string r) ∧ Below W.heap.size W w' := by
  have := cut_any s a b W hs hg hb
  rw [h, ← str_of (s := r) rfl] at this; exact this
theorem data_append (s t : ByteArray) : (s ++ t).data.toList = s.data.toList ++ t.data.toList := by
  simp [ByteArray.data_append]
theorem size_append (s t : ByteArray) : (s ++ t).size = s.size + t.size := ByteArray.size_append
/-- All of a text. -/
theorem cutL_all (l : List UInt8) (h : text l = true) (b : Nat) (hb : l.length ≤ b) : cutL l 0 b = l := by
  unfold cutL; rw [if_pos h]
  have hc := codes_len l
  show form (((codes l).take (b : Int).toNat).drop 0) = l
  rw [List.drop_zero, List.take_of_length_le (by omega), form_codes l h]

theorem parts_big (s t : ByteArray) (at' : Int) (w : World) (hg : Gr w) (h : 2000 < s.size) :
    Calls Tryd.prog 10 #[.string s, .string t, .int .i64 at'] w fun e w' => e = .returned (.bool true) ∧ Below w.heap.size w w' := by
  have hz : (2000 : Int) < (s.size : Int) := by omega
  go_enter Tryd.func10, Tryd.ntmps10
  have hb0 : Below w.heap.size w w := Below.refl _ _
  have hg0 := hg
  go_wp2_with fail
  refine (works_any _ hg0).mono ?_
  rintro e w1 ⟨rfl, hx⟩
  have hb1 := hb0.trans (hx.mono hb0.size)
  have hg1 := hg.later hb1
  clear hx hb0 hg0
  go_wp2
  go_ret
  exact ⟨rfl, hb1⟩
theorem parts_big2 (s t : ByteArray) (at' : Int) (w : World) (hg : Gr w) (h : ¬ 2000 < s.size) (h2 : 2000 < t.size) :
    Calls Tryd.prog 10 #[.string s, .string t, .int .i64 at'] w fun e w' => e = .returned (.bool true) ∧ Below w.heap.size w w' := by
  have hz : ¬ (2000 : Int) < (s.size : Int) := by omega
  have hz2 : (2000 : Int) < (t.size : Int) := by omega
  go_enter Tryd.func10, Tryd.ntmps10
  have hb0 : Below w.heap.size w w := Below.refl _ _
  have hg0 := hg
  go_wp2_with fail
  refine (works_any _ hg0).mono ?_
  rintro e w1 ⟨rfl, hx⟩
  have hb1 := hb0.trans (hx.mono hb0.size)
  have hg1 := hg.later hb1
  clear hx hb0 hg0
  go_wp2
  go_ret
  exact ⟨rfl, hb1⟩
set_option maxHeartbeats 1000000 in
theorem parts_bad (s t : ByteArray) (at' : Int) (w : World) (hg : Gr w) (h : ¬ 2000 < s.size) (h2 : ¬ 2000 < t.size) (hT : text s.data.toList = false) :
    Calls Tryd.prog 10 #[.string s, .string t, .int .i64 at'] w fun e w' => e = .returned (.bool true) ∧ Below w.heap.size w w' := by
  have hz : ¬ (2000 : Int) < (s.size : Int) := by omega
  have hz2 : ¬ (2000 : Int) < (t.size : Int) := by omega
  go_enter Tryd.func10, Tryd.ntmps10
  have hb0 : Below w.heap.size w w := Below.refl _ _
  have hg0 := hg
  go_wp2_with fail
  refine (isText_is s false hT _ (by omega) hg0).mono ?_
  rintro e w1 ⟨rfl, hx⟩
  have hb1 := hb0.trans (hx.mono hb0.size)
  have hg1 := hg.later hb1
  clear hx hb0 hg0
  go_wp2_with fail
  refine (cut_bad s _ _ _ (by omega) hg1 hT).mono ?_
  rintro e w2 ⟨rfl, hx⟩
  have hb2 := hb1.trans (hx.mono hb1.size)
  have hg2 := hg.later hb2
  clear hx hb1 hg1
  go_wp2_with fail
  refine (isText_is s false hT _ (by omega) hg2).mono ?_
  rintro e w3 ⟨rfl, hx⟩
  have hb3 := hb2.trans (hx.mono hb2.size)
  have hg3 := hg.later hb3
  clear hx hb2 hg2
  go_wp2_with fail
  refine (works_any _ hg3).mono ?_
  rintro e w4 ⟨rfl, hx⟩
  have hb4 := hb3.trans (hx.mono hb3.size)
  have hg4 := hg.later hb4
  clear hx hb3 hg3
  go_wp2
  go_ret
  exact ⟨rfl, hb4⟩
set_option maxHeartbeats 1000000 in
theorem parts_bad2 (s t : ByteArray) (at' : Int) (w : World) (hg : Gr w) (h : ¬ 2000 < s.size) (h2 : ¬ 2000 < t.size) (hT : text s.data.toList = true) (hT2 : text t.data.toList = false) :
    Calls Tryd.prog 10 #[.string s, .string t, .int .i64 at'] w fun e w' => e = .returned (.bool true) ∧ Below w.heap.size w w' := by
  have hz : ¬ (2000 : Int) < (s.size : Int) := by omega
  have hz2 : ¬ (2000 : Int) < (t.size : Int) := by omega
  have Hc := Lib.hid (cutL_all s.data.toList hT 1099511627776 (by rw [← size_eq]; omega))
  go_enter Tryd.func10, Tryd.ntmps10
  have hb0 : Below w.heap.size w w := Below.refl _ _
  have hg0 := hg
  go_wp2_with fail
  refine (isText_is s true hT _ (by omega) hg0).mono ?_
  rintro e w1 ⟨rfl, hx⟩
  have hb1 := hb0.trans (hx.mono hb0.size)
  have hg1 := hg.later hb1
  clear hx hb0 hg0
  go_wp2_with fail
  refine (isText_is t false hT2 _ (by omega) hg1).mono ?_
  rintro e w2 ⟨rfl, hx⟩
  have hb2 := hb1.trans (hx.mono hb1.size)
  have hg2 := hg.later hb2
  clear hx hb1 hg1
  go_wp2_with fail
  refine (cut_is s s 0 1099511627776 Hc.out _ (by omega) hg2 (by omega)).mono ?_
  rintro e w3 ⟨rfl, hx⟩
  have hb3 := hb2.trans (hx.mono hb2.size)
  have hg3 := hg.later hb3
  clear hx hb2 hg2
  go_wp2_with fail
  refine (isText_is s true hT _ (by omega) hg3).mono ?_
  rintro e w4 ⟨rfl, hx⟩
  have hb4 := hb3.trans (hx.mono hb3.size)
  have hg4 := hg.later hb4
  clear hx hb3 hg3
  go_wp2_with fail
  refine (works_any _ hg4).mono ?_
  rintro e w5 ⟨rfl, hx⟩
  have hb5 := hb4.trans (hx.mono hb4.size)
  have hg5 := hg.later hb5
  clear hx hb4 hg4
  go_wp2
  go_ret
  exact ⟨rfl, hb5⟩
/-- What is needed of the two pieces. -/
structure TwoParts (s A B : ByteArray) (at' z : Int) : Prop where
  sum : A ++ B = s
  ta : text A.data.toList = true
  tb : text B.data.toList = true
  len : ((codes A.data.toList).length : Int) = z
  ca : cutL s.data.toList 0 at' = A.data.toList
  cb : cutL s.data.toList at' ((codes s.data.toList).length : Int) = B.data.toList
theorem twoParts (s : ByteArray) (h : text s.data.toList = true) (at' : Int) : ∃ A B, TwoParts s A B at' (((codes s.data.toList).take at'.toNat).length : Int) := by
  obtain ⟨h1, h2⟩ := text_piece s.data.toList h 0 at'.toNat
  obtain ⟨h3, h4⟩ := text_piece s.data.toList h at'.toNat (codes s.data.toList).length
  rw [List.drop_zero] at h2
  have hs : piece s.data.toList 0 at'.toNat ++ piece s.data.toList at'.toNat (codes s.data.toList).length = s.data.toList := by
    unfold piece
    rw [← form_append, List.drop_zero, List.take_of_length_le (Nat.le_refl _), List.take_append_drop, form_codes _ h]
  refine ⟨⟨(piece s.data.toList 0 at'.toNat).toArray⟩, ⟨(piece s.data.toList at'.toNat (codes s.data.toList).length).toArray⟩, ⟨?_, h1, h3, by rw [show codes (⟨(piece s.data.toList 0 at'.toNat).toArray⟩ : ByteArray).data.toList = _ from h2], ?_, ?_⟩⟩
  · refine (str_of (l := s.data.toList) ?_).trans (str_of rfl).symm
    rw [data_append]; exact hs
  · unfold cutL; rw [if_pos h]; rfl
  · unfold cutL; rw [if_pos h]; rfl
set_option maxHeartbeats 4000000 in
set_option maxRecDepth 1000000 in
theorem parts_main (s t A B : ByteArray) (at' n m z : Int) (w : World) (hg : Gr w) (h : ¬ 2000 < s.size) (h2 : ¬ 2000 < t.size) (hT : text s.data.toList = true) (hT2 : text t.data.toList = true)
    (HN : Hid (((codes s.data.toList).length : Int) = n)) (HM : Hid (((codes t.data.toList).length : Int) = m)) (hn0 : 0 ≤ n) (hn : n ≤ 2000) (hm0 : 0 ≤ m) (hm : m ≤ 2000)
    (HTT : Hid (text (s ++ t).data.toList = true)) (HLL : Hid (((codes (s ++ t).data.toList).length : Int) = n + m)) (HC : Hid (cutL (s ++ t).data.toList n 1099511627776 = t.data.toList))
    (HCA : Hid (cutL s.data.toList 0 at' = A.data.toList)) (HCB : Hid (cutL s.data.toList at' n = B.data.toList)) (HTA : Hid (text A.data.toList = true)) (HTB : Hid (text B.data.toList = true))
    (HZ : Hid (((codes A.data.toList).length : Int) = z)) (hAB : A ++ B = s) (hA : A.size ≤ 2000) (hB : B.size ≤ 2000) (hat : at' ≤ 9223372036854775807) (hzz : (z == max 0 (min at' n)) = true) :
    Calls Tryd.prog 10 #[.string s, .string t, .int .i64 at'] w fun e w' => e = .returned (.bool true) ∧ Below w.heap.size w w' := by
  have hz : ¬ (2000 : Int) < (s.size : Int) := by omega
  have hz2 : ¬ (2000 : Int) < (t.size : Int) := by omega
  go_enter Tryd.func10, Tryd.ntmps10
  have hb0 : Below w.heap.size w w := Below.refl _ _
  have hg0 := hg
  go_wp2_with fail
  refine (isText_is s true hT _ (by omega) hg0).mono ?_
  rintro e w1 ⟨rfl, hx⟩
  have hb1 := hb0.trans (hx.mono hb0.size)
  have hg1 := hg.later hb1
  clear hx hb0 hg0
  go_wp2_with fail
  refine (isText_is t true hT2 _ (by omega) hg1).mono ?_
  rintro e w2 ⟨rfl, hx⟩
  have hb2 := hb1.trans (hx.mono hb1.size)
  have hg2 := hg.later hb2
  clear hx hb1 hg1
  go_wp2_with fail
  refine (isText_is (s ++ t) true HTT.out _ (by rw [size_append]; omega) hg2).mono ?_
  rintro e w3 ⟨rfl, hx⟩
  have hb3 := hb2.trans (hx.mono hb2.size)
  have hg3 := hg.later hb3
  clear hx hb2 hg2
  go_wp2_with fail
  refine (len_is (s ++ t) (n + m) HTT.out HLL.out _ (by rw [size_append]; omega) hg3).mono ?_
  rintro e w4 ⟨rfl, hx⟩
  have hb4 := hb3.trans (hx.mono hb3.size)
  have hg4 := hg.later hb4
  clear hx hb3 hg3
  go_wp2_with fail
  refine (len_is s n hT HN.out _ (by omega) hg4).mono ?_
  rintro e w5 ⟨rfl, hx⟩
  have hb5 := hb4.trans (hx.mono hb4.size)
  have hg5 := hg.later hb5
  clear hx hb4 hg4
  go_wp2_with fail
  refine (len_is t m hT2 HM.out _ (by omega) hg5).mono ?_
  rintro e w6 ⟨rfl, hx⟩
  have hb6 := hb5.trans (hx.mono hb5.size)
  have hg6 := hg.later hb6
  clear hx hb5 hg5
  go_wp2_with fail
  refine (len_is s n hT HN.out _ (by omega) hg6).mono ?_
  rintro e w7 ⟨rfl, hx⟩
  have hb7 := hb6.trans (hx.mono hb6.size)
  have hg7 := hg.later hb7
  clear hx hb6 hg6
  go_wp2_with fail
  refine (cut_is (s ++ t) t n 1099511627776 HC.out _ (by rw [size_append]; omega) hg7 (by omega)).mono ?_
  rintro e w8 ⟨rfl, hx⟩
  have hb8 := hb7.trans (hx.mono hb7.size)
  have hg8 := hg.later hb8
  clear hx hb7 hg7
  go_wp2_with fail
  refine (cut_is s A 0 at' HCA.out _ (by omega) hg8 (by omega)).mono ?_
  rintro e w9 ⟨rfl, hx⟩
  have hb9 := hb8.trans (hx.mono hb8.size)
  have hg9 := hg.later hb9
  clear hx hb8 hg8
  clear hat
  go_wp2_with fail
  refine (len_is s n hT HN.out _ (by omega) hg9).mono ?_
  rintro e w10 ⟨rfl, hx⟩
  have hb10 := hb9.trans (hx.mono hb9.size)
  have hg10 := hg.later hb10
  clear hx hb9 hg9
  go_wp2_with fail
  refine (cut_is s B at' n HCB.out _ (by omega) hg10 (by omega)).mono ?_
  rintro e w11 ⟨rfl, hx⟩
  have hb11 := hb10.trans (hx.mono hb10.size)
  have hg11 := hg.later hb11
  clear hx hb10 hg10
  go_wp2_with fail
  refine (isText_is A true HTA.out _ (by omega) hg11).mono ?_
  rintro e w12 ⟨rfl, hx⟩
  have hb12 := hb11.trans (hx.mono hb11.size)
  have hg12 := hg.later hb12
  clear hx hb11 hg11
  go_wp2_with fail
  refine (isText_is B true HTB.out _ (by omega) hg12).mono ?_
  rintro e w13 ⟨rfl, hx⟩
  have hb13 := hb12.trans (hx.mono hb12.size)
  have hg13 := hg.later hb13
  clear hx hb12 hg12
  go_wp2_with fail
  refine (len_is A z HTA.out HZ.out _ (by omega) hg13).mono ?_
  rintro e w14 ⟨rfl, hx⟩
  have hb14 := hb13.trans (hx.mono hb13.size)
  have hg14 := hg.later hb14
  clear hx hb13 hg13
  go_wp2_with fail
  refine (len_is s n hT HN.out _ (by omega) hg14).mono ?_
  rintro e w15 ⟨rfl, hx⟩
  have hb15 := hb14.trans (hx.mono hb14.size)
  have hg15 := hg.later hb15
  clear hx hb14 hg14
  go_wp2_with fail
  refine (works_any _ hg15).mono ?_
  rintro e w16 ⟨rfl, hx⟩
  have hb16 := hb15.trans (hx.mono hb15.size)
  have hg16 := hg.later hb16
  clear hx hb15 hg15
  go_wp2
  go_ret
  exact ⟨rfl, hb16⟩

set_option maxRecDepth 100000 in
theorem parts_law (s t : ByteArray) (at' : Int) (w : World) (hg : Gr w) (hat : at' ≤ 9223372036854775807) :
    Calls Tryd.prog 10 #[.string s, .string t, .int .i64 at'] w fun e w' => e = .returned (.bool true) ∧ Below w.heap.size w w' := by
  by_cases h : 2000 < s.size
  · exact parts_big s t at' w hg h
  · by_cases h2 : 2000 < t.size
    · exact parts_big2 s t at' w hg h h2
    · cases hT : text s.data.toList
      · exact parts_bad s t at' w hg h h2 hT
      · cases hT2 : text t.data.toList
        · exact parts_bad2 s t at' w hg h h2 hT hT2
        · obtain ⟨A, B, hP⟩ := twoParts s hT at'
          have hcs := codes_len s.data.toList
          have hct := codes_len t.data.toList
          rw [← size_eq] at hcs hct
          obtain ⟨e1, e2⟩ := text_append s.data.toList t.data.toList hT hT2
          rw [← data_append] at e1 e2
          have hsz := congrArg ByteArray.size hP.sum
          rw [size_append] at hsz
          have HLL := Lib.hid (show ((codes (s ++ t).data.toList).length : Int) = ((codes s.data.toList).length : Int) + ((codes t.data.toList).length : Int) by rw [e2, List.length_append]; omega)
          have HC := Lib.hid (show cutL (s ++ t).data.toList ((codes s.data.toList).length : Int) 1099511627776 = t.data.toList by
            unfold cutL; rw [if_pos e1]
            unfold piece
            rw [e2, List.take_of_length_le (by rw [List.length_append]; omega), Int.toNat_natCast, List.drop_left, form_codes _ hT2])
          have hl := hP.len
          rw [List.length_take] at hl
          exact parts_main s t A B at' _ _ _ w hg h h2 hT hT2 (Lib.hid rfl) (Lib.hid rfl) (by omega) (by omega) (by omega) (by omega) (Lib.hid e1) HLL HC (Lib.hid hP.ca) (Lib.hid hP.cb) (Lib.hid hP.ta) (Lib.hid hP.tb) (Lib.hid rfl) hP.sum (by omega) (by omega) hat (by rw [beq_iff_eq]; omega)
end Go.Proofs.YtpdgajjcapdjdaaDoor

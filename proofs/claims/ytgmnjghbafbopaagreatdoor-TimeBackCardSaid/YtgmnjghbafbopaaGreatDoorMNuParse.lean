/- Natural numbers: the contract of parseDigits. -/
import Derived.Test.YtgmnjghbafbopaaGreatDoorMNuB
import Derived.Test.YtgmnjghbafbopaaGreatDoorMNuA
namespace Go.Proofs.YtgmnjghbafbopaaGreatDoor
open Go.RowKit Go.Lib

/-- The words of the digits behind place k: what digits and words say together. -/
def ParI (S : List UInt8) (k : Nat) (L : List Nat) : Prop := Small L ∧ valD S 0 = valD (S.take k) 0 * 1000000000 ^ L.length + val L ∧ L.length * 9 + k ≤ S.length + 9 ∧ (0 < k → L.length * 9 + k = S.length)
theorem ParI.start (S : List UInt8) : ParI S S.length [] := ⟨Small.nil, by rw [List.take_length]; simp [val], by simp, fun _ => by simp⟩
theorem valD_cut (S : List UInt8) (a m : Nat) (h : a + m ≤ S.length) : valD (S.take (a + m)) 0 = valD (S.take a) 0 * 10 ^ m + valD ((S.drop a).take m) 0 := by
  have e : S.take (a + m) = S.take a ++ (S.drop a).take m := by rw [List.take_add]
  rw [e, valD_app, valD_acc, List.length_take, List.length_drop, Nat.min_eq_left (by omega)]
theorem ParI.next {S : List UInt8} {a m : Nat} {L : List Nat} (h : ParI S (a + m) L) (hS : Dgs S) (hm0 : 0 < m) (hm9 : m ≤ 9) (hk : a + m ≤ S.length) (ha : a = 0 ∨ m = 9) : ParI S a (L ++ [valD ((S.drop a).take m) 0]) := by
  obtain ⟨h1, h2, h3, h4⟩ := h
  have hl := valD_lt ((S.drop a).take m) (fun x hx => hS x (List.mem_of_mem_drop (List.mem_of_mem_take hx)))
  rw [List.length_take, List.length_drop, Nat.min_eq_left (by omega)] at hl
  have h10 : 10 ^ m ≤ 1000000000 := Nat.le_trans (Nat.pow_le_pow_right (by omega) hm9) (by decide)
  refine ⟨Small.app h1 (Small.cons (by omega) Small.nil), ?_, by rw [List.length_append, List.length_singleton]; have := h4 (by omega); omega, fun h => by rw [List.length_append, List.length_singleton]; have := h4 (by omega); omega⟩
  rw [h2, valD_cut S a m hk, val_app, List.length_append, List.length_singleton, Nat.pow_succ]
  simp only [val, Nat.mul_zero, Nat.add_zero]
  rcases ha with rfl | rfl
  · rw [List.take_zero]
    simp only [valD, Nat.zero_mul, Nat.zero_add]
    rw [Nat.mul_comm]; omega
  · rw [show (10 : Nat) ^ 9 = 1000000000 from rfl, Nat.add_mul, Nat.mul_assoc, Nat.mul_comm 1000000000, Nat.mul_comm (valD (List.take 9 (List.drop a S)) 0)]
    omega
theorem ParI.done {S : List UInt8} {L : List Nat} (h : ParI S 0 L) : val L = valD S 0 := by
  rw [h.2.1, List.take_zero]
  simp [valD]
theorem valD_snoc (l : List UInt8) (b : UInt8) : valD (l ++ [b]) 0 = 10 * valD l 0 + (b.toNat - 48) := by rw [valD_app]; rfl
set_option maxRecDepth 100000 in
set_option maxHeartbeats 1000000 in
theorem parseDigits_any (s : ByteArray) (hd : Dgs s.data.toList) (hs : s.size ≤ 10000) (w : World) :
    Calls Tryz.prog 126 #[.string s] w fun e w' => ∃ x, e = .returned x ∧ Nats w' x (wordsOf (valD s.data.toList 0)) ∧ Below w.heap.size w w' := by
  obtain ⟨S, hSe⟩ : ∃ S, s.data.toList = S := ⟨_, rfl⟩
  have hSl : s.size = S.length := by rw [← hSe, Array.length_toList]; rfl
  rw [hSe]
  rw [hSe] at hd
  have hS9 : S.length ≤ 10000 := by omega
  have HD := Lib.hid hd
  clear hd
  have HSE := Lib.hid hSe
  have HSL := Lib.hid hSl
  clear hSe hSl
  obtain ⟨i0, hi, hh⟩ := Option.map_eq_some_iff.1 infoU32
  simp only [Prod.mk.injEq] at hh
  obtain ⟨hz0, hz1, hz2⟩ := hh
  go_enter Tryz.func126, Tryz.ntmps126
  go_wp2_with fail
  go_loopg [0, 3] s.size (fun g s0 v wx => ∃ (t : ByteArray) (L : List Nat) (vv : Value), s0 = .string t ∧ v = vv ∧ t.size = g ∧ Hid (t.data.toList = S.take t.size) ∧ t.size ≤ S.length ∧ ParI S t.size L ∧ wx.ownsRow w.heap.size 156 1 vv L.length (u32L L) ∧ Below w.heap.size w wx)
  case atStart => exact ⟨s, [], _, rfl, rfl, rfl, Lib.hid (by rw [HSE.out, HSL.out, List.take_length]), by rw [HSL.out]; exact Nat.le_refl _, by rw [HSL.out]; exact ParI.start S, World.ownsRow_nil _ _ _ _, Below.refl _ _⟩
  case round =>
    obtain ⟨t, L, _, rfl, rfl, hgk, HT, htS, hP, hO, hB⟩ := hrel
    obtain ⟨a, cap, hv⟩ := owns_shape hO
    subst hv
    obtain ⟨k, hk⟩ : ∃ k, t.size = k := ⟨_, rfl⟩
    have hL9 : L.length ≤ 2000 := by have := hP.2.2.1; omega
    by_cases h0 : k = 0
    · subst h0
      rw [hk] at hP
      have hval := hP.done
      have htr := trimW_words L hP.1
      have k1 := trimmed_any _ L (by omega) wr (Nats.of_owns hO)
      rw [htr, hval] at k1
      have hkz : ¬ (0 : Int) < ((0 : Nat) : Int) := by omega
      have hks : ¬ (0 : Int) < (t.size : Int) := by omega
      clear hP hval htr hO HT HSE HSL HD
      go_wp2_with fail
      refine k1.mono ?_
      rintro e w3 ⟨x, rfl, hx, rfl⟩
      go_wp2_with fail
      go_ret
      exact ⟨x, rfl, hx, hB⟩
    · have hkS : k ≤ S.length := by omega
      have hk0 : (0 : Int) < (t.size : Int) := by omega
      have hkz : (0 : Int) < (k : Int) := by omega
      have hksz : (t.size : Int) = (k : Int) := by omega
      have HP := Lib.hid hP
      have HO := Lib.hid hO
      have HGK := Lib.hid (show gk = k by omega)
      clear hP hO hgk
      by_cases h9 : k < 9
      · have hkz9 : (k : Int) - 9 < 0 := by omega
        have HK := Lib.hid hk
        clear hk h9
        go_wp2_with fail
        go_loopg [5, 18] k (fun g2 s5 s18 wx => ∃ i x : Nat, s5 = .int .u32 (x : Int) ∧ s18 = .int .i64 (i : Int) ∧ i + g2 = k ∧ Hid (x = valD ((S.drop 0).take i) 0) ∧ wx = wr)
        case atStart => exact ⟨0, 0, rfl, rfl, by omega, Lib.hid rfl, rfl⟩
        case round =>
          obtain ⟨i, x, rfl, rfl, hig, HX, rfl⟩ := hrel
          by_cases hlt : i < k
          · obtain ⟨g2, rfl⟩ : ∃ g2, gk = g2 + 1 := ⟨gk - 1, by omega⟩
            have hil : (i : Int) < (k : Int) := by omega
            have hi8 : i ≤ 8 := by omega
            obtain ⟨j, hj⟩ : ∃ j, 0 + i = j := ⟨_, rfl⟩
            have hjt : j < t.size := by have := HK.out; omega
            obtain rfl : i = j := by omega
            have hjl : (i : Int) < (t.size : Int) := by omega
            have hbyte : t[i] = (S.drop 0).getD i 0 := by
              have e2 : t.data.toList[i]? = some t[i] := by rw [List.getElem?_eq_getElem (by rw [Array.length_toList]; exact hjt)]; rfl
              rw [HT.out, List.getElem?_take_of_lt hjt] at e2
              rw [List.getD_eq_getElem?_getD, List.getElem?_drop, hj, e2]
              rfl
            have hdi : i < (S.drop 0).length := by rw [List.length_drop]; omega
            have hdg : isDg t[i] = true := by
              rw [hbyte, List.getD_eq_getElem?_getD, List.getElem?_eq_getElem hdi]
              exact HD.out _ (List.mem_of_mem_drop (List.getElem_mem hdi))
            rw [isDg_iff] at hdg
            have hx8 : x ≤ 99999999 := by
              rw [HX.out]
              have h1 := valD_lt ((S.drop 0).take i) (fun y hy => HD.out y (List.mem_of_mem_drop (List.mem_of_mem_take hy)))
              have h2 : 10 ^ ((S.drop 0).take i).length ≤ 10 ^ 8 := Nat.pow_le_pow_right (by omega) (by rw [List.length_take]; omega)
              omega
            have hnx : 10 * x + (t[i].toNat - 48) = valD ((S.drop 0).take (i + 1)) 0 := by
              have e : (S.drop 0).take (i + 1) = (S.drop 0).take i ++ [(S.drop 0).getD i 0] := by
                rw [List.take_add_one, List.getD_eq_getElem?_getD, List.getElem?_eq_getElem hdi]; rfl
              rw [e, valD_snoc, ← hbyte, HX.out]
            obtain ⟨d, hdd⟩ : ∃ d, t[i].toNat = d := ⟨_, rfl⟩
            rw [hdd] at hdg hnx
            have HN := Lib.hid hnx
            have hd1 : (48 : Int) ≤ (d : Int) := by omega
            have hd2 : (d : Int) ≤ 57 := by omega
            have hxz : (x : Int) ≤ 99999999 := by omega
            have hcast : ((10 * x + (d - 48) : Nat) : Int) = 10 * (x : Int) + ((d : Int) - 48) := by omega
            have HCA := Lib.hid hcast
            clear hbyte hnx HX hdi hcast hj HT
            go_wp2_with fail
            go_roundg g2
            case rel => exact ⟨i + 1, 10 * x + (d - 48), by rw [HCA.out], by congr 1, by omega, HN, rfl⟩
            all_goals omega
          · obtain rfl : i = k := by omega
            obtain rfl : gk = 0 := by omega
            have hil : ¬ (i : Int) < (i : Int) := by omega
            have hP := HP.out
            have hO := HO.out
            rw [HK.out, show i = 0 + i by omega] at hP
            have hPn := hP.next HD.out (by omega) (by omega) (by omega) (.inl rfl)
            rw [← HX.out] at hPn
            have hsz : ByteArray.empty.size = 0 := rfl
            have hex : ByteArray.empty.data.toList = S.take 0 := by rw [List.take_zero]; rfl
            have HE := Lib.hid (And.intro hsz hex)
            have HPN := Lib.hid hPn
            have hz : w.heap.size ≤ wr.heap.size := hB.size
            have hfin : ∀ v2 w2, w2.ownsRow w.heap.size 156 1 v2 (L.length + 1) (u32L L ++ [.int .u32 (x : Int)]) → (wr.drew.alloc (.cells #[.int .u32 (x : Int)] 156)).grownBy w2 (Value.slice a L.length cap).ownBlock → w2.ownsRow w.heap.size 156 1 v2 (L ++ [x]).length (u32L (L ++ [x])) ∧ Below w.heap.size w w2 := fun v2 w2 ho hg => by
              refine ⟨?_, owns_below (hB.drew.alloc hz _) (show (wr.drew.alloc _).ownsRow w.heap.size _ 1 _ _ _ from hO.alloc _) hg (by simp; omega)⟩
              unfold u32L at ho ⊢
              rw [List.map_append, List.length_append]
              exact ho
            have HF := Lib.hid hfin
            have HOW := Lib.hid (show wr.drew.ownsRow w.heap.size 156 1 (Value.slice a L.length cap) L.length (u32L L) from hO)
            clear hfin hsz hex hPn hP hO HO
            go_wp2_with fail
            go_region_law (refine step_append_num rfl (.tmp 32) (.tmp 34) 86 rfl w.heap.size 156 i0 (.int .u32 0) 1 4 Tryz.underlying86 hi hz0 hz1 hz2 rfl (by decide) _ _ _ rfl (by exact HOW.out.alloc _) ⟨wr.heap.size, 0, none⟩ 1 1 [.int .u32 (x : Int)] rfl rfl (by exact cell_one_u32 _ _) (by intro u hu; simp at hu; rcases hu with rfl; rfl) (by unfold maxLen; omega) (by omega) (by simp; omega) ?_; intro v2 w2 ho2 hg2; have hf2 := HF.out _ _ ho2 hg2; have HG := Lib.hid hf2; clear hf2 ho2 hg2)
            all_goals
              go_wp2_with fail
              go_roundg 0
              case rel => exact ⟨ByteArray.empty, L ++ [x], v2, rfl, rfl, HE.out.1, Lib.hid (by rw [HE.out.1]; exact HE.out.2), by rw [HE.out.1]; omega, by rw [HE.out.1]; exact HPN.out, HG.out.1, HG.out.2⟩
              all_goals (have := HGK.out; omega)
      · obtain ⟨fr, hfm⟩ : ∃ fr, k = fr + 9 := ⟨k - 9, by omega⟩
        have hkz9 : ¬ (k : Int) - 9 < 0 := by omega
        have hmx : (k : Int) - 9 = (fr : Int) := by omega
        have hmz : (k : Int) - (fr : Int) = 9 := by omega
        have hfr0 : (0 : Int) ≤ (fr : Int) := by omega
        have hfrk : (fr : Int) ≤ (t.size : Int) := by omega
        have hfrk2 : (fr : Int) ≤ (k : Int) := by omega
        have HFM := Lib.hid hfm
        clear hfm
        have HK := Lib.hid hk
        clear hk h9
        go_wp2_with fail
        clear hmx hkz9
        go_loopg [5, 18] 9 (fun g2 s5 s18 wx => ∃ i x : Nat, s5 = .int .u32 (x : Int) ∧ s18 = .int .i64 (i : Int) ∧ i + g2 = 9 ∧ Hid (x = valD ((S.drop fr).take i) 0) ∧ wx = wr)
        case atStart => exact ⟨0, 0, rfl, rfl, by omega, Lib.hid rfl, rfl⟩
        case round =>
          obtain ⟨i, x, rfl, rfl, hig, HX, rfl⟩ := hrel
          by_cases hlt : i < 9
          · obtain ⟨g2, rfl⟩ : ∃ g2, gk = g2 + 1 := ⟨gk - 1, by omega⟩
            have hil : (i : Int) < 9 := by omega
            have hi8 : i ≤ 8 := by omega
            obtain ⟨j, hj⟩ : ∃ j, fr + i = j := ⟨_, rfl⟩
            have hjt : j < t.size := by have := HK.out; have := HFM.out; omega
            have hjz : (fr : Int) + (i : Int) = (j : Int) := by omega
            have hjl : (j : Int) < (t.size : Int) := by omega
            have hjk : (j : Int) < (k : Int) := by have := HK.out; omega
            have hbyte : t[j] = (S.drop fr).getD i 0 := by
              have e2 : t.data.toList[j]? = some t[j] := by rw [List.getElem?_eq_getElem (by rw [Array.length_toList]; exact hjt)]; rfl
              rw [HT.out, List.getElem?_take_of_lt hjt] at e2
              rw [List.getD_eq_getElem?_getD, List.getElem?_drop, hj, e2]
              rfl
            have hdi : i < (S.drop fr).length := by rw [List.length_drop]; omega
            have hdg : isDg t[j] = true := by
              rw [hbyte, List.getD_eq_getElem?_getD, List.getElem?_eq_getElem hdi]
              exact HD.out _ (List.mem_of_mem_drop (List.getElem_mem hdi))
            rw [isDg_iff] at hdg
            have hx8 : x ≤ 99999999 := by
              rw [HX.out]
              have h1 := valD_lt ((S.drop fr).take i) (fun y hy => HD.out y (List.mem_of_mem_drop (List.mem_of_mem_take hy)))
              have h2 : 10 ^ ((S.drop fr).take i).length ≤ 10 ^ 8 := Nat.pow_le_pow_right (by omega) (by rw [List.length_take]; omega)
              omega
            have hnx : 10 * x + (t[j].toNat - 48) = valD ((S.drop fr).take (i + 1)) 0 := by
              have e : (S.drop fr).take (i + 1) = (S.drop fr).take i ++ [(S.drop fr).getD i 0] := by
                rw [List.take_add_one, List.getD_eq_getElem?_getD, List.getElem?_eq_getElem hdi]; rfl
              rw [e, valD_snoc, ← hbyte, HX.out]
            obtain ⟨d, hdd⟩ : ∃ d, t[j].toNat = d := ⟨_, rfl⟩
            rw [hdd] at hdg hnx
            have HN := Lib.hid hnx
            have hd1 : (48 : Int) ≤ (d : Int) := by omega
            have hd2 : (d : Int) ≤ 57 := by omega
            have hxz : (x : Int) ≤ 99999999 := by omega
            have hcast : ((10 * x + (d - 48) : Nat) : Int) = 10 * (x : Int) + ((d : Int) - 48) := by omega
            have HCA := Lib.hid hcast
            clear hbyte hnx HX hdi hcast hj HT
            go_wp2_with fail
            go_roundg g2
            case rel => exact ⟨i + 1, 10 * x + (d - 48), by rw [HCA.out], by congr 1, by omega, HN, rfl⟩
            all_goals omega
          · obtain rfl : i = 9 := by omega
            obtain rfl : gk = 0 := by omega
            have hil : ¬ ((9 : Nat) : Int) < 9 := by omega
            have hP := HP.out
            have hO := HO.out
            rw [HK.out, HFM.out] at hP
            have hPn := hP.next HD.out (by omega) (by omega) (by have := HFM.out; omega) (.inr rfl)
            rw [← HX.out] at hPn
            have hsz : (t.extract 0 fr).size = fr := by rw [ByteArray.size_extract]; omega
            have hex : (t.extract 0 fr).data.toList = S.take fr := by
              rw [ByteArray.data_extract, Array.toList_extract, List.extract_eq_take_drop, List.drop_zero, Nat.sub_zero, HT.out, List.take_take, Nat.min_eq_left (by have := HK.out; have := HFM.out; omega)]
            have HE := Lib.hid (And.intro hsz hex)
            have HPN := Lib.hid hPn
            have hz : w.heap.size ≤ wr.heap.size := hB.size
            have hfin : ∀ v2 w2, w2.ownsRow w.heap.size 156 1 v2 (L.length + 1) (u32L L ++ [.int .u32 (x : Int)]) → (wr.drew.alloc (.cells #[.int .u32 (x : Int)] 156)).grownBy w2 (Value.slice a L.length cap).ownBlock → w2.ownsRow w.heap.size 156 1 v2 (L ++ [x]).length (u32L (L ++ [x])) ∧ Below w.heap.size w w2 := fun v2 w2 ho hg => by
              refine ⟨?_, owns_below (hB.drew.alloc hz _) (show (wr.drew.alloc _).ownsRow w.heap.size _ 1 _ _ _ from hO.alloc _) hg (by simp; omega)⟩
              unfold u32L at ho ⊢
              rw [List.map_append, List.length_append]
              exact ho
            have HF := Lib.hid hfin
            have HOW := Lib.hid (show wr.drew.ownsRow w.heap.size 156 1 (Value.slice a L.length cap) L.length (u32L L) from hO)
            clear hfin hsz hex hPn hP hO HO
            go_wp2_with fail
            go_region_law (refine step_append_num rfl (.tmp 32) (.tmp 34) 86 rfl w.heap.size 156 i0 (.int .u32 0) 1 4 Tryz.underlying86 hi hz0 hz1 hz2 rfl (by decide) _ _ _ rfl (by exact HOW.out.alloc _) ⟨wr.heap.size, 0, none⟩ 1 1 [.int .u32 (x : Int)] rfl rfl (by exact cell_one_u32 _ _) (by intro u hu; simp at hu; rcases hu with rfl; rfl) (by unfold maxLen; omega) (by omega) (by simp; omega) ?_; intro v2 w2 ho2 hg2; have hf2 := HF.out _ _ ho2 hg2; have HG := Lib.hid hf2; clear hf2 ho2 hg2)
            all_goals
              go_wp2_with fail
              go_roundg fr
              case rel => exact ⟨t.extract 0 fr, L ++ [x], v2, rfl, rfl, HE.out.1, Lib.hid (by rw [HE.out.1]; exact HE.out.2), by rw [HE.out.1]; omega, by rw [HE.out.1]; exact HPN.out, HG.out.1, HG.out.2⟩
              all_goals (have := HGK.out; have := HFM.out; omega)
end Go.Proofs.YtgmnjghbafbopaaGreatDoor

/- The contracts of the specification's Points, IsText and Len. -/
import Derived.Test.YtpdgajjcapdjdaaDoorCharsRefNext
import Derived.Test.YtpdgajjcapdjdaaDoorCharsLawBack
namespace Go.Proofs.YtpdgajjcapdjdaaDoor
open Go.RowKit Go.Lib

theorem text_good (l : List UInt8) : text l = (steps l).all good := rfl
/-- What the specification's Points hands back. -/
def RefPointsGive (w : World) (l : List UInt8) (e : Ending) (w' : World) : Prop :=
  (text l = true ∧ (∃ v, e = .returned (.tuple #[v, .int .i64 0]) ∧ w'.ownsRow w.heap.size 3 1 v (codes l).length (intCells (codes l))) ∧ Below w.heap.size w w') ∨
  (text l = false ∧ e = .returned (.tuple #[.slice none 0 0, .int .i64 10]) ∧ Below w.heap.size w w')

set_option maxHeartbeats 4000000 in
set_option maxRecDepth 100000 in
theorem refPoints_any (s : ByteArray) (w : World) (hs : s.size ≤ 17592186044416) :
    Calls Tryd.prog 23 #[.string s] w (RefPointsGive w s.data.toList) := by
  obtain ⟨i0, hi, hz0, hz1, hz2⟩ := info_parts infoInt
  obtain ⟨T, hT⟩ : ∃ T, text s.data.toList = T := ⟨_, rfl⟩
  obtain ⟨C, hC⟩ : ∃ C, codes s.data.toList = C := ⟨_, rfl⟩
  have HT := Lib.hid (show (steps (s.data.toList.drop 0)).all good = T by rw [List.drop_zero, ← text_good]; exact hT)
  have HC := Lib.hid (show C = [] ++ (steps (s.data.toList.drop 0)).map Prod.fst by rw [List.drop_zero, ← hC]; rfl)
  unfold RefPointsGive
  rw [hT, hC]
  clear hT hC
  obtain ⟨G, hG⟩ : ∃ G : Ending → World → Prop, G = fun e w' => (T = true ∧ (∃ v, e = .returned (.tuple #[v, .int .i64 0]) ∧ w'.ownsRow w.heap.size 3 1 v C.length (intCells C)) ∧ Below w.heap.size w w') ∨ (T = false ∧ e = .returned (.tuple #[.slice none 0 0, .int .i64 10]) ∧ Below w.heap.size w w') := ⟨_, rfl⟩
  have HG := Lib.hid hG
  show Calls Tryd.prog 23 #[.string s] w (fun e w' => (T = true ∧ (∃ v, e = .returned (.tuple #[v, .int .i64 0]) ∧ w'.ownsRow w.heap.size 3 1 v C.length (intCells C)) ∧ Below w.heap.size w w') ∨ (T = false ∧ e = .returned (.tuple #[.slice none 0 0, .int .i64 10]) ∧ Below w.heap.size w w'))
  rw [← hG]
  clear hG
  go_enter Tryd.func23, Tryd.ntmps23
  go_wp2
  go_loopg [4, 5] s.size (fun g v s5 wx => ∃ (pos : Nat) (acc : List Nat), s5 = .int .i64 pos ∧ wx.ownsRow w.heap.size 3 1 v acc.length (intCells acc) ∧ Below w.heap.size w wx ∧ Hid (C = acc ++ (steps (s.data.toList.drop pos)).map Prod.fst) ∧ Hid ((steps (s.data.toList.drop pos)).all good = T) ∧ s.size ≤ pos + g ∧ acc.length ≤ pos ∧ pos ≤ s.size)
  case atStart => exact ⟨0, [], rfl, World.ownsRow_nil _ _ _ _, Below.refl _ _, HC, HT, by omega, Nat.le_refl _, Nat.zero_le _⟩
  case round =>
    clear HC HT
    obtain ⟨pos, acc, rfl, hown, hbw, HC, HT, hgf, hal, hps⟩ := hrel
    by_cases hlt : pos < s.size
    · obtain ⟨g, rfl⟩ : ∃ g, gk = g + 1 := ⟨gk - 1, by omega⟩
      have cN := fun W => refNext_any s pos W hlt (by omega)
      have hd := drop_at s pos hlt
      have hw := width_pos s pos
      have hwn : pos + (Utf8.decode s pos).2 ≤ s.size := by
        have := decodeN_le_n' (s.size - pos) (s.get! pos).toNat (s.get! (pos + 1)).toNat (s.get! (pos + 2)).toNat (s.get! (pos + 3)).toNat (by omega)
        rw [← decode_at] at this
        omega
      have hrl := rune_le s pos
      have hc := HC.out
      have ht := HT.out
      rw [steps_at s pos hlt, List.map_cons] at hc
      rw [steps_at s pos hlt, List.all_cons] at ht
      rw [hd] at cN
      have e1 : decodeL (s[pos] :: s.data.toList.drop (pos + 1)) = Utf8.decode s pos := by rw [← hd, decodeL_drop]
      cases hgd : good (Utf8.decode s pos)
      · have hbad := next_bad s[pos] (s.data.toList.drop (pos + 1)) (by rw [e1]; exact hgd)
        rw [hgd, Bool.false_and] at ht
        subst ht
        have HE := HG.out
        generalize nextL (s[pos] :: s.data.toList.drop (pos + 1)) = nx at cN hbad
        obtain ⟨c, z⟩ := nx
        unfold nextV at cN
        simp only at cN hbad
        clear HC HT hc hd e1 hgd hw hwn hrl
        have HEnd := Lib.hid (show G (.returned (.tuple #[.slice none 0 0, .int .i64 10])) wr by rw [HE]; exact .inr ⟨rfl, rfl, hbw⟩)
        clear HE HG
        by_cases hz : z = 0
        · subst hz
          go_wp2_with (go_at_call 49; refine (cN _).mono ?_; rintro e w' ⟨rfl, rfl⟩)
          exact HEnd.out
        · have hzb : (z == 0) = false := by simp [hz]
          have hcb : chrZ c = false := hbad.resolve_left hz
          have cI := fun W => refIsChar_any c W
          rw [hcb] at cI
          clear hbad
          go_wp2_with (first | (go_at_call 49; refine (cN _).mono ?_; rintro e w' ⟨rfl, rfl⟩) | (go_at_call 31; refine (cI _).mono ?_; rintro e w' ⟨rfl, rfl⟩))
          exact HEnd.out
      · have hnx := next_good s[pos] (s.data.toList.drop (pos + 1)) (by rw [e1]; exact hgd)
        rw [e1] at hnx
        rw [hnx] at cN
        rw [hgd, Bool.true_and] at ht
        have hch : chr (Utf8.decode s pos).1 = true := by
          unfold good at hgd; rw [Bool.and_eq_true] at hgd; exact hgd.2
        obtain ⟨R, hR⟩ : ∃ R, (Utf8.decode s pos).1 = R := ⟨_, rfl⟩
        obtain ⟨K, hK⟩ : ∃ K, (Utf8.decode s pos).2 = K := ⟨_, rfl⟩
        rw [hR, hK] at cN
        rw [hR, hK] at hc
        rw [hK] at ht hw hwn
        rw [hR] at hrl hch
        have cI := fun W => refIsChar_any (R : Int) W
        rw [chrZ_nat, hch] at cI
        unfold nextV at cN
        simp only at cN
        have hzb : ((K : Int) == 0) = false := by rw [beq_eq_false_iff_ne]; omega
        have Hc := Lib.hid hc
        have Ht := Lib.hid ht
        clear hc ht hd e1 hnx hgd hch hR hK HC HT
        go_wp2_with (first | (go_at_call 49; refine (cN _).mono ?_; rintro e w' ⟨rfl, rfl⟩) | (go_at_call 31; refine (cI _).mono ?_; rintro e w' ⟨rfl, rfl⟩) | (at_builtin; go_must (refine wpList_append_own _ rfl (.tmp 25) (.tmp 27) 25 rfl w.heap.size 3 i0 (.int .i64 0) 1 8 Tryd.underlying25 hi hz0 hz1 hz2 rfl (by decide) _ _ _ rfl (hown.alloc _) ⟨_, 0, none⟩ 1 1 [.int .i64 (R : Int)] rfl rfl (cell_one_new _ _ _) (by intro u hu; simp at hu; rcases hu with rfl; rfl) (by unfold maxLen; omega) (by omega) (by have := hbw.size; simp; omega) ?_; intro v3 w3 hown3 hgrow3 hnil3)))
        go_roundg g
        case measure => omega
        case rel =>
          have hX := hown.alloc (.cells #[.int .i64 (R : Int)] 3)
          refine ⟨pos + K, acc ++ [R], by go_num, by rw [List.length_append, intCells_snoc]; exact hown3, ?_, Lib.hid (by rw [List.append_assoc]; exact Hc.out), Ht, by omega, by simp; omega, hwn⟩
          exact (hbw.alloc (by have := hbw.size; omega) _).grown hgrow3 (by have := hbw.size; simp; omega) (fun j hj => (hX.lt j hj).1)
    · have ht := HT.out
      have hc := HC.out
      rw [steps_end s pos hlt] at ht hc
      have hC : C = acc := by simpa using hc
      subst hC
      have hT : T = true := ht.symm
      subst hT
      clear hc ht HC HT
      have hz : ¬ ((pos : Int) < (s.size : Int)) := by omega
      go_wp2
      rw [HG.out]
      exact .inl ⟨by simp, ⟨_, rfl, hown⟩, hbw⟩
theorem refPoints_yes (s : ByteArray) (w : World) (hs : s.size ≤ 17592186044416) (h : text s.data.toList = true) :
    Calls Tryd.prog 23 #[.string s] w fun e w' => ∃ v, e = .returned (.tuple #[v, .int .i64 0]) ∧ w'.ownsRow w.heap.size 3 1 v (codes s.data.toList).length (intCells (codes s.data.toList)) ∧ Below w.heap.size w w' := by
  refine (refPoints_any s w hs).mono ?_
  rintro e w' (⟨_, ⟨v, rfl, hown⟩, hb⟩ | ⟨h', _⟩)
  · exact ⟨v, rfl, hown, hb⟩
  · rw [h] at h'; cases h'
theorem refPoints_no (s : ByteArray) (w : World) (hs : s.size ≤ 17592186044416) (h : text s.data.toList = false) :
    Calls Tryd.prog 23 #[.string s] w fun e w' => e = .returned (.tuple #[.slice none 0 0, .int .i64 10]) ∧ Below w.heap.size w w' := by
  refine (refPoints_any s w hs).mono ?_
  rintro e w' (⟨h', _⟩ | ⟨_, rfl, hb⟩)
  · rw [h] at h'; cases h'
  · exact ⟨rfl, hb⟩
theorem refText_is (s : ByteArray) (b : Bool) (h : text s.data.toList = b) (w : World) (hs : s.size ≤ 17592186044416) :
    Calls Tryd.prog 15 #[.string s] w fun e w' => e = .returned (.bool b) ∧ Below w.heap.size w w' := by
  cases b
  · have cP := refPoints_no s w hs h
    clear h
    go_enter Tryd.func15, Tryd.ntmps15
    go_wp2_with fail
    refine cP.mono ?_
    rintro e w' ⟨rfl, hb⟩
    go_wp2
    go_ret
    exact ⟨rfl, hb⟩
  · have cP := refPoints_yes s w hs h
    clear h
    go_enter Tryd.func15, Tryd.ntmps15
    go_wp2_with fail
    refine cP.mono ?_
    rintro e w' ⟨v, rfl, _, hb⟩
    go_wp2
    go_ret
    exact ⟨rfl, hb⟩
/-- A row of ints that the call owns is a slice of that length. -/
theorem own_slice {w : World} {B n : Nat} {v : Value} {xs : List Value} (h : w.ownsRow B 3 1 v n xs) : ∃ a cap, v = .slice a n cap := by
  rcases h.2 with ⟨rfl, rfl⟩ | ⟨g, cap, _, rfl, _⟩
  · exact ⟨none, 0, rfl⟩
  · exact ⟨_, cap, rfl⟩
theorem refLen_is (s : ByteArray) (z : Int) (h : (if text s.data.toList = true then ((codes s.data.toList).length : Int) else 0) = z) (w : World) (hs : s.size ≤ 17592186044416) :
    Calls Tryd.prog 28 #[.string s] w fun e w' => e = .returned (.int .i64 z) ∧ Below w.heap.size w w' := by
  cases ht : text s.data.toList
  · have cP := refPoints_no s w hs ht
    rw [ht] at h
    obtain rfl : (0 : Int) = z := h
    clear ht
    go_enter Tryd.func28, Tryd.ntmps28
    go_wp2_with fail
    refine cP.mono ?_
    rintro e w' ⟨rfl, hb⟩
    go_wp2
    go_ret
    exact ⟨rfl, hb⟩
  · have cP := refPoints_yes s w hs ht
    rw [ht, if_pos rfl] at h
    subst h
    clear ht
    go_enter Tryd.func28, Tryd.ntmps28
    go_wp2_with fail
    refine cP.mono ?_
    rintro e w' ⟨v, rfl, hown, hb⟩
    obtain ⟨a, cap, rfl⟩ := own_slice hown
    go_wp2
    go_ret
    exact ⟨rfl, hb⟩
end Go.Proofs.YtpdgajjcapdjdaaDoor

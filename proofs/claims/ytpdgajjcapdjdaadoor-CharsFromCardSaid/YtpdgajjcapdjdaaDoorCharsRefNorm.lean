/- The contract of the specification's Norm. -/
import Derived.Test.YtpdgajjcapdjdaaDoorCharsRefPure
import Derived.Test.YtpdgajjcapdjdaaDoorCharsRefNext
import Derived.Lib.BufferRead
namespace Go.Proofs.YtpdgajjcapdjdaaDoor
open Go.RowKit Go.Lib

theorem infoByte : (Tryd.prog.info? 5).map (fun i => (i.zero, i.size, i.bytes)) = some (some (.int .u8 0), 1, 1) := by kernel_rfl
/-- 'string(b)' of a row of bytes of the call's own. -/
theorem conv_own {w : World} {B n : Nat} {v : Value} {l : List UInt8} (h : w.ownsRow B 5 1 v n (byteCells l)) (hn : n = l.length) : (convert 50 9 v).run Tryd.prog w = .ok (.string ⟨l.toArray⟩) w := by
  subst hn
  rcases h.2 with ⟨rfl, h0⟩ | ⟨g, cap, cur, rfl, _, hg, _, _, _, htk⟩
  · have : l = [] := List.eq_nil_of_length_eq_zero h0
    subst this
    exact run_convert_nil_bytes w _ _ 5 0 Tryd.underlying50 Tryd.underlying5 Tryd.underlying9
  · rw [Nat.mul_one] at htk
    exact run_convert_bytes_back w _ _ 5 _ cap l Tryd.underlying50 Tryd.underlying5 Tryd.underlying9 (bytes_of_row hg htk)
theorem own_sliceT {w : World} {B n size : Nat} {t : TypeId} {v : Value} {xs : List Value} (h : w.ownsRow B t size v n xs) : ∃ a cap, v = .slice a n cap := by
  rcases h.2 with ⟨rfl, rfl⟩ | ⟨g, cap, _, rfl, _⟩
  · exact ⟨none, 0, rfl⟩
  · exact ⟨_, cap, rfl⟩
theorem normGo_white (pend ne : Bool) (b : UInt8) (t : List UInt8) (h : whiteB b = true) : normGo pend ne (b :: t) = normGo ne ne t := by
  show (if whiteB b then normGo ne ne t else _) = _
  rw [if_pos h]
theorem normGo_byte (pend ne : Bool) (b : UInt8) (t : List UInt8) (h : whiteB b = false) : normGo pend ne (b :: t) = (if pend then [32] else []) ++ b :: normGo false true t := by
  show (if whiteB b then normGo ne ne t else _) = _
  rw [if_neg (by simp [h])]
theorem byteCells_one (b : UInt8) : byteCells [b] = [Value.int .u8 (b.toNat : Int)] := rfl

set_option maxHeartbeats 4000000 in
set_option maxRecDepth 100000 in
theorem refNorm_any (s : ByteArray) (w : World) (hs : s.size ≤ 17592186044416) :
    Calls Tryd.prog 21 #[.string s] w fun e w' => e = .returned (.string ⟨(normL s.data.toList).toArray⟩) ∧ Below w.heap.size w w' := by
  obtain ⟨i0, hi, hz0, hz1, hz2⟩ := info_parts infoByte
  obtain ⟨L, hL⟩ : ∃ L, normL s.data.toList = L := ⟨_, rfl⟩
  have HL := Lib.hid (show L = [] ++ normGo false false (s.data.toList.drop 0) by rw [List.drop_zero, ← hL]; rfl)
  rw [hL]
  clear hL
  go_enter Tryd.func21, Tryd.ntmps21
  go_wp2
  go_loopg [3, 4, 5] s.size (fun g v s4 s5 wx => ∃ (i : Nat) (acc : List UInt8) (pend ne : Bool), s5 = .int .i64 i ∧ s4 = .bool pend ∧ i + g = s.size ∧ wx.ownsRow w.heap.size 5 1 v acc.length (byteCells acc) ∧ Below w.heap.size w wx ∧ Hid (L = acc ++ normGo pend ne (s.data.toList.drop i)) ∧ Hid (ne = decide (0 < acc.length)) ∧ acc.length ≤ 2 * i)
  case atStart => exact ⟨0, [], false, false, rfl, rfl, by omega, World.ownsRow_nil _ _ _ _, Below.refl _ _, HL, Lib.hid rfl, by simp⟩
  case round =>
    clear HL
    obtain ⟨i, acc, pend, ne, rfl, rfl, hig, hown, hbw, HL, HN, hal⟩ := hrel
    by_cases hlt : i < s.size
    · obtain ⟨g, rfl⟩ : ∃ g, gk = g + 1 := ⟨gk - 1, by omega⟩
      have hl := HL.out
      rw [drop_at s i hlt] at hl
      have cS := fun W => refSpace_any s[i] W
      have x0 : (0 : Int) ≤ (s[i].toNat : Int) := by omega
      have x1 : (s[i].toNat : Int) < 256 := by have := s[i].toNat_lt; omega
      cases hw : whiteB s[i] <;> rw [hw] at cS
      · rw [normGo_byte _ _ _ _ hw] at hl
        clear hw HL
        cases pend
        · have Hl := Lib.hid (show L = (acc ++ [s[i]]) ++ normGo false true (s.data.toList.drop (i + 1)) by rw [hl]; simp)
          clear hl
          go_wp2_with (first | (go_at_call 46; refine (cS _).mono ?_; rintro e w' ⟨rfl, rfl⟩) | (at_builtin; go_must (refine wpList_append_own _ rfl (.tmp 23) (.tmp 27) 50 rfl w.heap.size 5 i0 (.int .u8 0) 1 1 Tryd.underlying50 hi hz0 hz1 hz2 rfl (by decide) _ _ _ rfl (hown.alloc _) ⟨_, 0, none⟩ 1 1 [.int .u8 (s[i].toNat : Int)] rfl rfl (cell_one_new _ _ _) (by intro u hu; simp at hu; rcases hu with rfl; rfl) (by unfold maxLen; omega) (by omega) (by have := hbw.size; simp; omega) ?_; intro v3 w3 hown3 hgrow3 _)))
          go_roundg g
          case measure => omega
          case rel =>
            have hX := hown.alloc (.cells #[.int .u8 (s[i].toNat : Int)] 5)
            refine ⟨i + 1, acc ++ [s[i]], false, true, by go_num, rfl, by omega, by rw [List.length_append, byteCells_append, byteCells_one]; exact hown3, ?_, Hl, Lib.hid (by simp), by simp; omega⟩
            exact (hbw.alloc (by have := hbw.size; omega) _).grown hgrow3 (by have := hbw.size; simp; omega) (fun j hj => (hX.lt j hj).1)
        · have Hl := Lib.hid (show L = (acc ++ [32] ++ [s[i]]) ++ normGo false true (s.data.toList.drop (i + 1)) by rw [hl]; simp)
          clear hl
          go_wp2_with (first | (go_at_call 46; refine (cS _).mono ?_; rintro e w' ⟨rfl, rfl⟩) | (at_builtin; refine wpList_append_own _ rfl (.tmp 20) (.tmp 21) 50 rfl w.heap.size 5 i0 (.int .u8 0) 1 1 Tryd.underlying50 hi hz0 hz1 hz2 rfl (by decide) _ _ _ rfl (hown.alloc _) ⟨_, 0, none⟩ 1 1 [.int .u8 32] rfl rfl (cell_one_new _ _ _) (by intro u hu; simp at hu; rcases hu with rfl; rfl) (by unfold maxLen; omega) (by omega) (by have := hbw.size; simp; omega) ?_; intro v3 w3 hown3 hgrow3 _; have hX := hown.alloc (.cells #[.int .u8 32] 5); have hbw3 := (hbw.alloc (by have := hbw.size; omega) _).grown hgrow3 (by have := hbw.size; simp; omega) (fun j hj => (hX.lt j hj).1); clear hX hgrow3 hbw) | (at_builtin; refine wpList_append_own _ rfl (.tmp 23) (.tmp 27) 50 rfl w.heap.size 5 i0 (.int .u8 0) 1 1 Tryd.underlying50 hi hz0 hz1 hz2 rfl (by decide) _ _ _ rfl (hown3.alloc _) ⟨_, 0, none⟩ 1 1 [.int .u8 (s[i].toNat : Int)] rfl rfl (cell_one_new _ _ _) (by intro u hu; simp at hu; rcases hu with rfl; rfl) (by unfold maxLen; omega) (by omega) (by have := hbw3.size; simp; omega) ?_; intro v4 w4 hown4 hgrow4 _))
          go_roundg g
          case measure => omega
          case rel =>
            have hX := hown3.alloc (.cells #[.int .u8 (s[i].toNat : Int)] 5)
            refine ⟨i + 1, acc ++ [32] ++ [s[i]], false, true, by go_num, rfl, by omega, by rw [List.length_append, List.length_append, byteCells_append, byteCells_append, byteCells_one]; exact hown4, ?_, Hl, Lib.hid (by simp), by simp; omega⟩
            exact (hbw3.alloc (by have := hbw3.size; omega) _).grown hgrow4 (by have := hbw3.size; simp; omega) (fun j hj => (hX.lt j hj).1)
      · rw [normGo_white _ _ _ _ hw] at hl
        have Hl := Lib.hid hl
        clear hw HL hl
        obtain ⟨a, cp, rfl⟩ := own_sliceT hown
        by_cases h0 : 0 < acc.length
        · have hz : (0 : Int) < (acc.length : Int) := by omega
          have Hne := Lib.hid (show ne = true by rw [HN.out]; exact decide_eq_true h0)
          clear h0
          go_wp2_with (go_at_call 46; refine (cS _).mono ?_; rintro e w' ⟨rfl, rfl⟩)
          go_roundg g
          case measure => omega
          case rel => exact ⟨i + 1, acc, true, ne, by go_num, congrArg Value.bool (decide_eq_true (by omega)), by omega, hown, hbw, Lib.hid (by rw [Hl.out, Hne.out]), HN, by omega⟩
        · have hz : ¬ ((0 : Int) < (acc.length : Int)) := by omega
          have Hne := Lib.hid (show ne = false by rw [HN.out]; exact decide_eq_false h0)
          clear h0
          go_wp2_with (go_at_call 46; refine (cS _).mono ?_; rintro e w' ⟨rfl, rfl⟩)
          go_roundg g
          case measure => omega
          case rel => exact ⟨i + 1, acc, false, ne, by go_num, congrArg Value.bool (decide_eq_false (by omega)), by omega, hown, hbw, Lib.hid (by rw [Hl.out, Hne.out]), HN, by omega⟩
    · have hl := HL.out
      rw [List.drop_eq_nil_of_le (by rw [← size_eq]; omega)] at hl
      have hLa : L = acc := by rw [hl]; simp [normGo]
      subst hLa
      have hz : ¬ ((i : Int) < (s.size : Int)) := by omega
      have hcv := conv_own hown rfl
      clear hl HL HN
      go_wp2
      go_ret
      exact ⟨rfl, hbw⟩
end Go.Proofs.YtpdgajjcapdjdaaDoor

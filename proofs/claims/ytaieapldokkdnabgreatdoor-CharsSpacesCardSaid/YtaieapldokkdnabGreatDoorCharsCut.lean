/- The contract of chars.Cut. -/
import Derived.Test.YtaieapldokkdnabGreatDoorCharsFrom
import Derived.Test.YtaieapldokkdnabGreatDoorCharsPlain4
namespace Go.Proofs.YtaieapldokkdnabGreatDoor
open Go.RowKit Go.Lib

theorem str_of {s : ByteArray} {l : List UInt8} (h : s.data.toList = l) : s = ⟨l.toArray⟩ := by
  subst h; rfl
theorem cut_done (s : ByteArray) (f t b e : Nat) (hT : text s.data.toList = true) (hft : f < t) (hb : b = PP s.data.toList f) (he : e = PP s.data.toList t) : Value.string (s.extract b e) = .string ⟨(piece s.data.toList f t).toArray⟩ := by
  congr 1
  refine str_of ?_
  rw [extract_data, piece_PP _ hT f t (by omega), List.drop_take, hb, he]

set_option maxHeartbeats 4000000 in
set_option maxRecDepth 100000 in
theorem cut_pos (s : ByteArray) (f : Nat) (t : Nat) (w : World) (hs : s.size < 9223372036854775807) (hg : Gr w) (hT : text s.data.toList = true) (_ht : (t : Int) ≤ 9223372036854775807) (hft : f < t) (hf : (f : Int) ≤ 9223372036854775807) :
    Calls Tryz.prog 23 #[.string s, .int .i64 f, .int .i64 t] w fun e w' => e = .returned (.string ⟨(piece s.data.toList f t).toArray⟩) ∧ Below w.heap.size w w' := by
  have cT := isText_any s w (by omega) hg
  rw [hT] at cT
  have h1 : (0 : Int) ≤ f := by omega
  have h2 : ¬ ((t : Int) ≤ (f : Int)) := by omega
  have HT := Lib.hid hT
  clear hT
  go_enter Tryz.func23, Tryz.ntmps23
  go_wp2_with (go_at_call 20; refine cT.mono ?_; rintro e w1 ⟨rfl, hb⟩)
  clear cT
  go_loopg [7, 8, 9] s.size (fun g s7 s8 s9 wx => ∃ (k bg : Nat), wx = w1.iter s (PP s.data.toList k) ∧ s7 = .int .i64 bg ∧ s8 = .int .i64 s.size ∧ s9 = .int .i64 k ∧ k ≤ (codes s.data.toList).length ∧ s.size ≤ PP s.data.toList k + g ∧ Hid (f < k → bg = PP s.data.toList f) ∧ Hid (k ≤ f → bg = s.size) ∧ bg ≤ s.size ∧ k ≤ t)
  case atStart => exact ⟨0, s.size, rfl, rfl, rfl, rfl, Nat.zero_le _, by rw [PP_zero]; omega, Lib.hid (fun h => by omega), Lib.hid (fun _ => rfl), Nat.le_refl _, Nat.zero_le _⟩
  case round =>
    obtain ⟨k, bg, rfl, rfl, rfl, rfl, hk, hgf, hB1, hB2, hbs, hkt⟩ := hrel
    have hbx : ∀ q, Below w.heap.size w (w1.iter s q) := fun q => hb.trans ((iter_below w1 s q).mono hb.size)
    have hpl := PP_le _ HT.out k
    rw [← size_eq] at hpl
    by_cases hlt : PP s.data.toList k < s.size
    · obtain ⟨g, rfl⟩ : ∃ g, gk = g + 1 := ⟨gk - 1, by omega⟩
      have hnx := fun ty => run_next_any (P := Tryz.prog) w1 s (PP s.data.toList k) ty hlt
      have hkn := PP_lt _ HT.out k (by rw [← size_eq]; exact hlt)
      have hst := (PP_step _ HT.out k hkn).2
      rw [decodeL_drop] at hst
      have hw := width_pos s (PP s.data.toList k)
      have hkl := codes_len s.data.toList
      rw [← size_eq] at hkl
      rw [← hst] at hnx
      obtain ⟨K, hK⟩ : ∃ K, (Utf8.decode s (PP s.data.toList k)).2 = K := ⟨_, rfl⟩
      rw [hK] at hw hst
      clear hK
      have Hst := Lib.hid hst
      clear hst
      by_cases hkf : k = f
      · have hb1 : ((k : Int) == (f : Int)) = true := by rw [beq_iff_eq]; omega
        have hb2 : ((k : Int) == (t : Int)) = false := by rw [beq_eq_false_iff_ne]; omega
        have Hkf := Lib.hid hkf
        have Hkt := Lib.hid (show k < t by omega)
        clear hkf
        go_wp2
        go_roundg g
        case measure => omega
        case rel =>
          have hkf := Hkf.out
          exact ⟨k + 1, PP s.data.toList k, rfl, rfl, rfl, by go_num, by omega, by rw [Hst.out]; omega, Lib.hid (fun _ => by rw [hkf]), Lib.hid (fun h => by omega), hpl, Hkt.out⟩
      · have hb1 : ((k : Int) == (f : Int)) = false := by rw [beq_eq_false_iff_ne]; omega
        by_cases hke : k = t
        · have hb2 : ((k : Int) == (t : Int)) = true := by rw [beq_iff_eq]; omega
          have hbe := hB1.out (by omega)
          have hm := PP_mono s.data.toList f k (by omega)
          have hbk : bg ≤ PP s.data.toList k := by omega
          have HF := Lib.hid (cut_done s f t bg (PP s.data.toList k) HT.out hft hbe (by rw [hke]))
          clear hbe hm hke
          go_wp2
          go_ret
          exact ⟨congrArg _ HF.out, hbx _⟩
        · have hb2 : ((k : Int) == (t : Int)) = false := by rw [beq_eq_false_iff_ne]; omega
          have Hkt := Lib.hid (show k < t by omega)
          have Hkf := Lib.hid hkf
          clear hkf hke
          go_wp2
          go_roundg g
          case measure => omega
          case rel =>
            have hkf := Hkf.out
            exact ⟨k + 1, bg, rfl, rfl, rfl, by go_num, by omega, by rw [Hst.out]; omega, Lib.hid (fun h => hB1.out (by omega)), Lib.hid (fun h => hB2.out (by omega)), hbs, Hkt.out⟩
    · have hnx := fun ty => run_next_end (P := Tryz.prog) w1 s (PP s.data.toList k) ty hlt
      have hkn : (codes s.data.toList).length ≤ k := by
        rcases Nat.lt_or_ge k (codes s.data.toList).length with h' | h'
        · have := (PP_step _ HT.out k h').1; rw [← size_eq] at this; omega
        · exact h'
      have hbe : bg = PP s.data.toList f := by
        by_cases hfk : f < k
        · exact hB1.out hfk
        · rw [hB2.out (by omega), PP_end _ HT.out f (by omega), size_eq]
      have HF := Lib.hid (cut_done s f t bg s.size HT.out hft hbe (by rw [PP_end _ HT.out t (by omega), size_eq]))
      clear hbe
      go_wp2
      go_ret
      exact ⟨congrArg _ HF.out, hbx _⟩

set_option maxHeartbeats 4000000 in
set_option maxRecDepth 100000 in
theorem cut_neg (s : ByteArray) (a : Int) (t : Nat) (w : World) (hs : s.size < 9223372036854775807) (hg : Gr w) (hT : text s.data.toList = true) (_ht : (t : Int) ≤ 9223372036854775807) (hft : 0 < t) (ha : a < 0) :
    Calls Tryz.prog 23 #[.string s, .int .i64 a, .int .i64 t] w fun e w' => e = .returned (.string ⟨(piece s.data.toList 0 t).toArray⟩) ∧ Below w.heap.size w w' := by
  have cT := isText_any s w (by omega) hg
  rw [hT] at cT
  have h1 : ¬ ((0 : Int) ≤ a) := by omega
  have h2 : ¬ ((t : Int) ≤ 0) := by omega
  have HT := Lib.hid hT
  clear hT
  go_enter Tryz.func23, Tryz.ntmps23
  go_wp2_with (go_at_call 20; refine cT.mono ?_; rintro e w1 ⟨rfl, hb⟩)
  clear cT
  go_loopg [7, 8, 9] s.size (fun g s7 s8 s9 wx => ∃ (k bg : Nat), wx = w1.iter s (PP s.data.toList k) ∧ s7 = .int .i64 bg ∧ s8 = .int .i64 s.size ∧ s9 = .int .i64 k ∧ k ≤ (codes s.data.toList).length ∧ s.size ≤ PP s.data.toList k + g ∧ Hid (0 < k → bg = PP s.data.toList 0) ∧ Hid (k ≤ 0 → bg = s.size) ∧ bg ≤ s.size ∧ k ≤ t)
  case atStart => exact ⟨0, s.size, rfl, rfl, rfl, rfl, Nat.zero_le _, by rw [PP_zero]; omega, Lib.hid (fun h => by omega), Lib.hid (fun _ => rfl), Nat.le_refl _, Nat.zero_le _⟩
  case round =>
    obtain ⟨k, bg, rfl, rfl, rfl, rfl, hk, hgf, hB1, hB2, hbs, hkt⟩ := hrel
    have hbx : ∀ q, Below w.heap.size w (w1.iter s q) := fun q => hb.trans ((iter_below w1 s q).mono hb.size)
    have hpl := PP_le _ HT.out k
    rw [← size_eq] at hpl
    by_cases hlt : PP s.data.toList k < s.size
    · obtain ⟨g, rfl⟩ : ∃ g, gk = g + 1 := ⟨gk - 1, by omega⟩
      have hnx := fun ty => run_next_any (P := Tryz.prog) w1 s (PP s.data.toList k) ty hlt
      have hkn := PP_lt _ HT.out k (by rw [← size_eq]; exact hlt)
      have hst := (PP_step _ HT.out k hkn).2
      rw [decodeL_drop] at hst
      have hw := width_pos s (PP s.data.toList k)
      have hkl := codes_len s.data.toList
      rw [← size_eq] at hkl
      rw [← hst] at hnx
      obtain ⟨K, hK⟩ : ∃ K, (Utf8.decode s (PP s.data.toList k)).2 = K := ⟨_, rfl⟩
      rw [hK] at hw hst
      clear hK
      have Hst := Lib.hid hst
      clear hst
      by_cases hkf : k = 0
      · have hb1 : ((k : Int) == 0) = true := by rw [beq_iff_eq]; omega
        have hb2 : ((k : Int) == (t : Int)) = false := by rw [beq_eq_false_iff_ne]; omega
        have Hkf := Lib.hid hkf
        have Hkt := Lib.hid (show k < t by omega)
        clear hkf
        go_wp2
        go_roundg g
        case measure => omega
        case rel =>
          have hkf := Hkf.out
          exact ⟨k + 1, PP s.data.toList k, rfl, rfl, rfl, by go_num, by omega, by rw [Hst.out]; omega, Lib.hid (fun _ => by rw [hkf]), Lib.hid (fun h => by omega), hpl, Hkt.out⟩
      · have hb1 : ((k : Int) == 0) = false := by rw [beq_eq_false_iff_ne]; omega
        by_cases hke : k = t
        · have hb2 : ((k : Int) == (t : Int)) = true := by rw [beq_iff_eq]; omega
          have hbe := hB1.out (by omega)
          have hm := PP_mono s.data.toList 0 k (by omega)
          have hbk : bg ≤ PP s.data.toList k := by omega
          have HF := Lib.hid (cut_done s 0 t bg (PP s.data.toList k) HT.out hft hbe (by rw [hke]))
          clear hbe hm hke
          go_wp2
          go_ret
          exact ⟨congrArg _ HF.out, hbx _⟩
        · have hb2 : ((k : Int) == (t : Int)) = false := by rw [beq_eq_false_iff_ne]; omega
          have Hkt := Lib.hid (show k < t by omega)
          have Hkf := Lib.hid hkf
          clear hkf hke
          go_wp2
          go_roundg g
          case measure => omega
          case rel =>
            have hkf := Hkf.out
            exact ⟨k + 1, bg, rfl, rfl, rfl, by go_num, by omega, by rw [Hst.out]; omega, Lib.hid (fun h => hB1.out (by omega)), Lib.hid (fun h => hB2.out (by omega)), hbs, Hkt.out⟩
    · have hnx := fun ty => run_next_end (P := Tryz.prog) w1 s (PP s.data.toList k) ty hlt
      have hkn : (codes s.data.toList).length ≤ k := by
        rcases Nat.lt_or_ge k (codes s.data.toList).length with h' | h'
        · have := (PP_step _ HT.out k h').1; rw [← size_eq] at this; omega
        · exact h'
      have hbe : bg = PP s.data.toList 0 := by
        by_cases hfk : 0 < k
        · exact hB1.out hfk
        · rw [hB2.out (by omega), PP_end _ HT.out 0 (by omega), size_eq]
      have HF := Lib.hid (cut_done s 0 t bg s.size HT.out hft hbe (by rw [PP_end _ HT.out t (by omega), size_eq]))
      clear hbe
      go_wp2
      go_ret
      exact ⟨congrArg _ HF.out, hbx _⟩

set_option maxHeartbeats 1000000 in
theorem cut_none (s : ByteArray) (a b : Int) (w : World) (h : b ≤ a ∨ b ≤ 0) :
    Calls Tryz.prog 23 #[.string s, .int .i64 a, .int .i64 b] w fun e w' => e = .returned (.string ⟨#[]⟩) ∧ Below w.heap.size w w' := by
  rcases Int.lt_or_le a 0 with ha | ha
  · have h1 : ¬ (0 ≤ a) := by omega
    have h2 : b ≤ 0 := by omega
    go_enter Tryz.func23, Tryz.ntmps23
    go_wp2
    go_ret
    exact ⟨rfl, Below.refl _ _⟩
  · have h2 : b ≤ a := by omega
    clear h
    go_enter Tryz.func23, Tryz.ntmps23
    go_wp2
    go_ret
    exact ⟨rfl, Below.refl _ _⟩
set_option maxHeartbeats 1000000 in
theorem cut_bad (s : ByteArray) (a b : Int) (w : World) (hs : s.size < 9223372036854775807) (hg : Gr w) (hT : text s.data.toList = false) :
    Calls Tryz.prog 23 #[.string s, .int .i64 a, .int .i64 b] w fun e w' => e = .returned (.string ⟨#[]⟩) ∧ Below w.heap.size w w' := by
  by_cases h : b ≤ a ∨ b ≤ 0
  · exact cut_none s a b w h
  · have cT := isText_any s w (by omega) hg
    rw [hT] at cT
    have h1 : ¬ b ≤ a := by omega
    have h2 : ¬ b ≤ 0 := by omega
    clear hT h
    rcases Int.lt_or_le a 0 with ha | ha
    · have h3 : ¬ (0 ≤ a) := by omega
      go_enter Tryz.func23, Tryz.ntmps23
      go_wp2_with (go_at_call 20; refine cT.mono ?_; rintro e w1 ⟨rfl, hb⟩)
      go_ret
      exact ⟨rfl, hb⟩
    · go_enter Tryz.func23, Tryz.ntmps23
      go_wp2_with (go_at_call 20; refine cT.mono ?_; rintro e w1 ⟨rfl, hb⟩)
      go_ret
      exact ⟨rfl, hb⟩
/-- What Cut hands back. -/
def cutL (l : List UInt8) (a b : Int) : List UInt8 := if text l = true then piece l a.toNat b.toNat else []
theorem cut_any (s : ByteArray) (a b : Int) (w : World) (hs : s.size < 9223372036854775807) (hg : Gr w) (hb : b ≤ 9223372036854775807) :
    Calls Tryz.prog 23 #[.string s, .int .i64 a, .int .i64 b] w fun e w' => e = .returned (.string ⟨(cutL s.data.toList a b).toArray⟩) ∧ Below w.heap.size w w' := by
  unfold cutL
  cases hT : text s.data.toList
  · exact cut_bad s a b w hs hg hT
  · rw [if_pos rfl]
    by_cases h : b ≤ a ∨ b ≤ 0
    · rw [piece_none _ _ _ (by omega)]
      exact cut_none s a b w h
    · obtain ⟨t, rfl⟩ := Int.eq_ofNat_of_zero_le (show 0 ≤ b by omega)
      rcases Int.lt_or_le a 0 with ha | ha
      · rw [show a.toNat = 0 by omega]
        exact cut_neg s a t w hs hg hT hb (by omega) ha
      · obtain ⟨f, rfl⟩ := Int.eq_ofNat_of_zero_le ha
        exact cut_pos s f t w hs hg hT hb (by omega) (by omega)
end Go.Proofs.YtaieapldokkdnabGreatDoor

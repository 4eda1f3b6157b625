/- The specification of num: the contract of Up. The specification of num: the contract of cut. The specification of num: cut, where digits stay or all are cut off. The specification of num: cut, where zeros are put ahead. The specification of num: the contract of cut, where a digit is cut off at least; the contract of digit. -/
import Derived.Test.YtdfgifnccghlmabGreatDoorMRfA
import Derived.Test.YtdfgifnccghlmabGreatDoorMNuWay
namespace Go.Proofs.YtdfgifnccghlmabGreatDoor.R
open Go.RowKit Go.Lib
open Go.Proofs.YtdfgifnccghlmabGreatDoor (Ct wayL floorW ceilW halfW evenW cutW)

/-- Whether a way increases; a name that is none increases nothing. -/
def upL (how : List UInt8) (neg : Bool) (last : Nat) (half : Int) (none : Bool) : Bool := match wayL how with
  | some way => way ⟨neg, decide (last % 2 = 1), none, half⟩
  | .none => false
set_option maxHeartbeats 4000000 in
set_option maxRecDepth 100000 in
theorem up_any (neg : Bool) (last : Nat) (half : Int) (none : Bool) (how : ByteArray) (hh : half = -1 ∨ half = 0 ∨ half = 1) (w : World) :
    Calls Tryz.prog 135 #[.bool neg, .int .i64 (last : Int), .int .i64 half, .bool none, .string how] w fun e w' => e = .returned (.bool (upL how.data.toList neg last half none)) ∧ w = w' := by
  have tl : how.data.toList = how.toList := (ByteArray.toList_eq how).symm
  rw [tl]
  clear tl
  have key : ∀ l : List UInt8, (how.toList == l) = decide (how.toList = l) := fun l => by by_cases h : how.toList = l <;> simp [h]
  have k1 := key [102, 108, 111, 111, 114]
  have k2 := key [99, 101, 105, 108, 105, 110, 103]
  have k3 := key [104, 97, 108, 102]
  have k4 := key [101, 118, 101, 110]
  clear key
  by_cases h1 : how.toList = [102, 108, 111, 111, 114]
  · have hu : ∀ (x : Nat) (y : Int), upL how.toList neg x y none = upL [102, 108, 111, 111, 114] neg x y none := fun x y => by rw [h1]
    rw [hu]
    clear hu
    clear hh
    have hv : upL [102, 108, 111, 111, 114] neg last half none = (neg && !none) := by cases neg <;> cases none <;> rfl
    rw [hv]
    clear hv
    cases neg <;> cases none
    all_goals
      go_enter Tryz.func135, Tryz.ntmps135
      go_wp2_with fail
      go_ret
      exact ⟨rfl, rfl⟩
  ·
    by_cases h2 : how.toList = [99, 101, 105, 108, 105, 110, 103]
    · have hu : ∀ (x : Nat) (y : Int), upL how.toList neg x y none = upL [99, 101, 105, 108, 105, 110, 103] neg x y none := fun x y => by rw [h2]
      rw [hu]
      clear hu
      clear hh
      have hv : upL [99, 101, 105, 108, 105, 110, 103] neg last half none = (!neg && !none) := by cases neg <;> cases none <;> rfl
      rw [hv]
      clear hv
      cases neg <;> cases none
      all_goals
        go_enter Tryz.func135, Tryz.ntmps135
        go_wp2_with fail
        go_ret
        exact ⟨rfl, rfl⟩
    ·
      by_cases h3 : how.toList = [104, 97, 108, 102]
      · have hu : ∀ (x : Nat) (y : Int), upL how.toList neg x y none = upL [104, 97, 108, 102] neg x y none := fun x y => by rw [h3]
        rw [hu]
        clear hu
        rcases hh with rfl | rfl | rfl
        all_goals
          cases neg
          all_goals
            go_enter Tryz.func135, Tryz.ntmps135
            go_wp2_with fail
            go_ret
            exact ⟨rfl, rfl⟩
      ·
        by_cases h4 : how.toList = [101, 118, 101, 110]
        · have hu : ∀ (x : Nat) (y : Int), upL how.toList neg x y none = upL [101, 118, 101, 110] neg x y none := fun x y => by rw [h4]
          rw [hu]
          clear hu
          rcases hh with rfl | rfl | rfl
          · obtain ⟨r, hr⟩ : ∃ r, last % 2 = r := ⟨_, rfl⟩
            have hrz : (last : Int) % 2 = (r : Int) := by omega
            have hv : upL [101, 118, 101, 110] neg last (-1) none = false := by unfold upL; (first | rfl | (rw [← hr]; rfl))
            rw [hv]
            clear hv
            have hr2 : r = 0 ∨ r = 1 := by omega
            clear hr
            rcases hr2 with rfl | rfl
            all_goals
              go_enter Tryz.func135, Tryz.ntmps135
              go_wp2_with fail
              go_ret
              exact ⟨rfl, rfl⟩
          · obtain ⟨r, hr⟩ : ∃ r, last % 2 = r := ⟨_, rfl⟩
            have hrz : (last : Int) % 2 = (r : Int) := by omega
            have hv : upL [101, 118, 101, 110] neg last (0) none = decide (r = 1) := by unfold upL; (first | rfl | (rw [← hr]; rfl))
            rw [hv]
            clear hv
            have hr2 : r = 0 ∨ r = 1 := by omega
            clear hr
            rcases hr2 with rfl | rfl
            all_goals
              go_enter Tryz.func135, Tryz.ntmps135
              go_wp2_with fail
              go_ret
              exact ⟨rfl, rfl⟩
          · obtain ⟨r, hr⟩ : ∃ r, last % 2 = r := ⟨_, rfl⟩
            have hrz : (last : Int) % 2 = (r : Int) := by omega
            have hv : upL [101, 118, 101, 110] neg last (1) none = true := by unfold upL; (first | rfl | (rw [← hr]; rfl))
            rw [hv]
            clear hv
            have hr2 : r = 0 ∨ r = 1 := by omega
            clear hr
            rcases hr2 with rfl | rfl
            all_goals
              go_enter Tryz.func135, Tryz.ntmps135
              go_wp2_with fail
              go_ret
              exact ⟨rfl, rfl⟩
        ·
          have hv : upL how.toList neg last half none = false := by
            unfold upL wayL
            rw [if_neg h3, if_neg h4, if_neg h1, if_neg h2]
            split
            · rename_i way hw
              split at hw
              · cases hw; rfl
              · cases hw
            · rfl
          rw [hv]
          clear hv hh
          go_enter Tryz.func135, Tryz.ntmps135
          go_wp2_with fail
          go_ret
          exact ⟨rfl, rfl⟩
end Go.Proofs.YtdfgifnccghlmabGreatDoor.R
namespace Go.Proofs.YtdfgifnccghlmabGreatDoor.R
open Go.RowKit Go.Lib
open Go.Proofs.YtdfgifnccghlmabGreatDoor (trimW trimW_snoc trimW_le take_snoc' lt_of_cell cmpD cmpD_app sgnN below_drewN heap_drewN getD_drop0 tail_drop Ct wayL divW)

/-- The highest digits of a slice. -/
theorem Digs.stay {w : World} {b off cap n q : Nat} {l : List Nat} (h : Digs w (.slice (some ⟨b, off, none⟩) (q + n) cap) l) (hl : l.length = q + n) : Digs w (.slice (some ⟨b, off, none⟩) q cap) (l.drop n) := by
  have e2 : (l.drop n).length = q := by rw [List.length_drop]; omega
  rcases h with ⟨h, _⟩ | ⟨b', off', cap', heq, hcc, h⟩
  · rw [h] at hl
    simp at hl
    obtain rfl : q = 0 := by omega
    rw [h, List.drop_nil]
    exact Digs.nil _ _ _
  · injection heq with h1 h2 h3
    injection h1 with h1
    injection h1 with h4 h5
    subst h4 h5 h3
    refine .inr ⟨b, off, cap, by rw [e2], by rw [e2]; omega, fun i hi => ?_⟩
    rw [e2] at hi ⊢
    have := h (i + n) (by omega)
    rw [hl, show off + (q + n - 1 - (i + n)) = off + (q - 1 - i) by omega] at this
    rw [this]
    congr 2
    rw [List.getD_eq_getElem?_getD, List.getD_eq_getElem?_getD, List.getElem?_drop, Nat.add_comm n i]
/-- The lowest digits of a slice. -/
theorem Digs.off {w : World} {b off cap n q : Nat} {l : List Nat} (h : Digs w (.slice (some ⟨b, off, none⟩) (q + n) cap) l) (hl : l.length = q + n) : Digs w (.slice (some ⟨b, off + q, none⟩) n (cap - q)) (l.take n) := by
  have e2 : (l.take n).length = n := by rw [List.length_take]; omega
  rcases h with ⟨h, _⟩ | ⟨b', off', cap', heq, hcc, h⟩
  · rw [h] at hl
    simp at hl
    obtain rfl : n = 0 := by omega
    rw [List.take_zero]
    exact Digs.nil _ _ _
  · injection heq with h1 h2 h3
    injection h1 with h1
    injection h1 with h4 h5
    subst h4 h5 h3
    refine .inr ⟨b, off + q, cap - q, by rw [e2], by rw [e2]; omega, fun i hi => ?_⟩
    rw [e2] at hi ⊢
    have := h i (by omega)
    rw [hl, show off + (q + n - 1 - i) = off + q + (n - 1 - i) by omega] at this
    rw [this]
    congr 2
    rw [List.getD_eq_getElem?_getD, List.getD_eq_getElem?_getD, List.getElem?_take_of_lt hi]
theorem small_five (m : Nat) : Small (List.replicate m 0 ++ [5]) := (Small.zeros m).app (Small.cons (by omega) Small.nil)
theorem val_five (m : Nat) : val (List.replicate m 0 ++ [5]) = 5 * 10 ^ m := by rw [val_app, val_zeros, List.length_replicate]; simp [val]; omega
theorem val_parts (l : List Nat) (hs : Small l) (n : Nat) (hn : n ≤ l.length) : val (l.drop n) = val l / 10 ^ n ∧ val (l.take n) = val l % 10 ^ n := by
  have h1 : val l = val (l.take n) + 10 ^ n * val (l.drop n) := by
    have := val_app (l.take n) (l.drop n)
    rw [List.take_append_drop, List.length_take, Nat.min_eq_left hn] at this
    exact this
  have h2 := val_lt _ (hs.take n)
  rw [List.length_take, Nat.min_eq_left hn] at h2
  have hp : 0 < 10 ^ n := Nat.pow_pos (by omega)
  constructor
  · rw [h1, Nat.add_mul_div_left _ _ hp, Nat.div_eq_of_lt h2, Nat.zero_add]
  · rw [h1, Nat.add_mul_mod_self_left, Nat.mod_eq_of_lt h2]
theorem sgn_double (a m : Nat) : sgnN a (5 * 10 ^ m) = sgnN (2 * a) (10 ^ (m + 1)) := by
  rw [Nat.pow_succ]
  unfold sgnN
  generalize 10 ^ m = P
  have e1 : (2 * a < P * 10) = (a < 5 * P) := propext ⟨fun h => by omega, fun h => by omega⟩
  have e2 : (P * 10 < 2 * a) = (5 * P < a) := propext ⟨fun h => by omega, fun h => by omega⟩
  simp only [e1, e2]
theorem sgn_three (a b : Nat) : sgnN a b = -1 ∨ sgnN a b = 0 ∨ sgnN a b = 1 := by
  unfold sgnN
  split
  · exact .inl rfl
  · split
    · exact .inr (.inr rfl)
    · exact .inr (.inl rfl)
/-- What cut gives, out of what it looks at. -/
theorem cut_plain {how : List UInt8} {way : Ct → Bool} (hw : wayL how = some way) (neg : Bool) (l : List Nat) (hs : Small l) (m : Nat) (hn : m + 1 ≤ l.length) :
    divW way neg (val l) (10 ^ (m + 1)) = if upL how neg (l.getD (m + 1) 0) (sgnN (val (l.take (m + 1))) (val (List.replicate m 0 ++ [5]))) (decide (val (l.take (m + 1)) = 0)) = true then val (l.drop (m + 1)) + 1 else val (l.drop (m + 1)) := by
  obtain ⟨h1, h2⟩ := val_parts l hs (m + 1) hn
  have hodd : l.getD (m + 1) 0 % 2 = (val l / 10 ^ (m + 1)) % 2 := by
    rw [← h1, val_ht (l.drop (m + 1)), ← getD_drop0]
    omega
  unfold divW upL
  rw [hw, val_five, sgn_double, h1, h2]
  simp only [hodd]
end Go.Proofs.YtdfgifnccghlmabGreatDoor.R
namespace Go.Proofs.YtdfgifnccghlmabGreatDoor.R
open Go.RowKit Go.Lib
open Go.Proofs.YtdfgifnccghlmabGreatDoor (trimW trimW_snoc trimW_le take_snoc' lt_of_cell cmpD cmpD_app sgnN below_drewN heap_drewN getD_drop0 tail_drop Ct wayL divW)
set_option maxHeartbeats 4000000 in
set_option maxRecDepth 100000 in
theorem cut_inner (neg : Bool) (how : ByteArray) (way : Ct → Bool) (hw : wayL how.data.toList = some way) (b o c : Nat) (l : List Nat) (hs : Small l) (m : Nat) (hn : m + 1 ≤ l.length) (hl9 : l.length ≤ 1000000) (w : World) (hu : Digs w (.slice (some ⟨b, o, none⟩) l.length c) l) :
    Calls Tryz.prog 92 #[.bool neg, .slice (some ⟨b, o, none⟩) l.length c, .int .i64 ((m + 1 : Nat) : Int), .string how] w fun e w' => ∃ x, e = .returned x ∧ Digs w' x (wordsOf (divW way neg (val l) (10 ^ (m + 1)))) ∧ Below w.heap.size w w' := by
  have hcl : l.length ≤ c := by
    rcases hu with ⟨rfl, _⟩ | ⟨b', off', cap', heq, hcc, _⟩
    · simp at hn
    · injection heq with _ _ h3
      omega
  have hplain := cut_plain hw neg l hs m hn
  obtain ⟨q, hq⟩ : ∃ q, l.length = q + (m + 1) := ⟨l.length - (m + 1), by omega⟩
  have hst := Digs.stay (by rw [← hq]; exact hu) hq
  have hof := Digs.off (by rw [← hq]; exact hu) hq
  have lst : (l.drop (m + 1)).length = q := by rw [List.length_drop]; omega
  have lof : (l.take (m + 1)).length = m + 1 := by rw [List.length_take]; omega
  have sst := hs.drop (m + 1)
  have sof := hs.take (m + 1)
  have hd0 : q = 0 → l.getD (m + 1) 0 = 0 := fun h => by rw [List.getD_eq_getElem?_getD, List.getElem?_eq_none (by omega)]; rfl
  have hdn : l.getD (m + 1) 0 = (l.drop (m + 1)).getD 0 0 := by rw [getD_drop0, List.getD_eq_getElem?_getD, List.headD_eq_head?_getD, ← List.head?_eq_getElem?]
  obtain ⟨OFF, hOFF⟩ : ∃ x, l.take (m + 1) = x := ⟨_, rfl⟩
  obtain ⟨ST, hST⟩ : ∃ x, l.drop (m + 1) = x := ⟨_, rfl⟩
  obtain ⟨last, hlast⟩ : ∃ x, l.getD (m + 1) 0 = x := ⟨_, rfl⟩
  rw [hOFF] at hplain hof lof sof
  rw [hST] at hplain hst lst sst hdn
  rw [hlast] at hplain hd0 hdn
  obtain ⟨half, hhalf⟩ : ∃ x, sgnN (val OFF) (val (List.replicate m 0 ++ [5])) = x := ⟨_, rfl⟩
  have hh3 := sgn_three (val OFF) (val (List.replicate m 0 ++ [5]))
  rw [hhalf] at hplain hh3
  have hNq : ((l.length : Nat) : Int) - ((m + 1 : Nat) : Int) = (q : Int) := by omega
  have hNn : l.length - q = m + 1 := by omega
  have hnN : ¬ ((l.length : Nat) : Int) < ((m + 1 : Nat) : Int) := by omega
  have hqN : (q : Int) ≤ ((l.length : Nat) : Int) := by omega
  have hqc : (q : Int) ≤ (c : Int) := by omega
  have hc0 : ¬ c = 0 := by omega
  have hcq : ¬ c = q := by omega
  have hnpos : (0 : Int) < ((m + 1 : Nat) : Int) := by omega
  have hn1 : ((m + 1 : Nat) : Int) - 1 = (m : Int) := by omega
  have hm0 : (0 : Int) ≤ (m : Int) := by omega
  obtain ⟨n, hnm⟩ : ∃ n, m + 1 = n := ⟨_, rfl⟩
  rw [hnm] at hplain hof lof hNq hNn hnN hnpos hn1 ⊢
  obtain ⟨N, hNl⟩ : ∃ N, l.length = N := ⟨_, rfl⟩
  rw [hNl] at hNq hNn hnN hqN hl9 ⊢
  have HP := Lib.hid (And.intro hplain (And.intro hd0 hdn))
  have HM := Lib.hid (And.intro hnm (And.intro lst lof))
  clear hOFF hST hlast hu hs hn hcl hq hNl hplain hd0 hdn hnm lst lof hw
  go_enter Tryz.func92, Tryz.ntmps92
  go_wp2_with fail
  go_quiet (fail)
  have hb3 : Below w.heap.size w (w.drewN nq) := below_drewN (Below.refl _ _) nq
  obtain ⟨W3, hW3⟩ : ∃ W3, w.drewN nq = W3 := ⟨_, rfl⟩
  rw [hW3] at hb3 ⊢
  clear hW3
  have hb4 : Below w.heap.size w (W3.alloc (.cells #[.int .i64 5] 3)) := hb3.alloc hb3.size _
  obtain ⟨v5, w5, hr5, ho5, hg5⟩ := append_zeros_own W3.heap.size _ 1 (iL [5]) m (by omega) (W3.alloc (.cells #[.int .i64 5] 3)) (owns_one W3 5) (by simp) 84
  have hb5 : Below w.heap.size w w5 := hb3.trans ((owns_belowI ((Below.refl _ W3).alloc (Nat.le_refl _) _) (owns_one W3 5) hg5 (by simp)).mono hb3.size)
  have hD5 : Digs w5 v5 (List.replicate m 0 ++ [5]) := by
    refine Digs.of_owns (B := W3.heap.size) ?_
    rw [iL_app, iL_zeros, List.length_append, List.length_replicate, Nat.add_comm]
    exact ho5
  have H5 := Lib.hid hr5
  clear hr5 ho5 hg5 hb4 hb3
  go_wp2_with (at_builtin; refine Lib.wpList_append_run _ rfl (.tmp 37) (.tmp 40) 84 3 rfl _ _ rfl rfl _ _ H5.out ?_)
  have cC := cmp_any _ v5 OFF (List.replicate m 0 ++ [5]) sof (small_five m) (by have := HM.out.2.2; omega) (by rw [List.length_append, List.length_replicate]; have := HM.out.1; simp; omega) w5 (hof.later hb5) hD5
  rw [hhalf] at cC
  refine cC.mono ?_
  rintro e w6 ⟨rfl, hb6⟩
  have hbw6 := hb5.trans (hb6.mono hb5.size)
  have hst6 := hst.later hbw6
  have hof6 := hof.later hbw6
  have hlo : OFF.length < 1000000000 := by have := HM.out.2.2; omega
  have hls : ST.length < 100000000 := by have := HM.out.2.1; omega
  have cT := trim_any _ OFF hlo w6 hof6
  have hz0 : (trimW OFF).length = 0 ↔ val OFF = 0 := by
    rw [trimW_words OFF sof]
    constructor
    · intro h; exact (wordsOf_nil _).1 (List.eq_nil_of_length_eq_zero h)
    · intro h; rw [(wordsOf_nil _).2 h]; rfl
  have cU := fun W => up_any neg last half (decide (val OFF = 0)) how hh3 W
  obtain ⟨U, hU⟩ : ∃ x, upL how.data.toList neg last half (decide (val OFF = 0)) = x := ⟨_, rfl⟩
  have HP2 := HP.out
  rw [hU] at cU HP2
  obtain ⟨hdv, hl0, hlg⟩ := HP2
  have HDV := Lib.hid hdv
  have HL0 := Lib.hid hl0
  have e1 : val [1] = 1 := rfl
  have cA : U = true → ∃ W7, w6.alloc (.cells #[.int .i64 1] 3) = W7 ∧ Calls Tryz.prog 136 #[.slice (some ⟨b, o, none⟩) q c, .slice (some ⟨w6.heap.size, 0, none⟩) 1 1] W7 fun e w' => ∃ x, e = .returned x ∧ Digs w' x (wordsOf (divW way neg (val l) (10 ^ n))) ∧ Below w.heap.size w w' := fun hu => by
    have hbA : Below w6.heap.size w6 (w6.alloc (.cells #[.int .i64 1] 3)) := (Below.refl _ w6).alloc (Nat.le_refl _) _
    have := add_any (.slice (some ⟨b, o, none⟩) q c) (.slice (some ⟨w6.heap.size, 0, none⟩) 1 1) ST [1] sst (Small.cons (by omega) Small.nil) (by omega) (by simp) _ (hst6.later hbA) (digs_one w6 1)
    refine ⟨_, rfl, this.mono ?_⟩
    rintro e w8 ⟨x, rfl, hx, hb8⟩
    rw [e1] at hx
    rw [hdv, if_pos hu]
    exact ⟨x, rfl, hx, (hbw6.alloc hbw6.size _).trans (hb8.mono (hbw6.alloc hbw6.size _).size)⟩
  have cS : U = false → ∃ v8 w8, (Builtin.append_ #[84, 84] 84 #[.slice (some ⟨w6.heap.size, 0, none⟩) 0 0, .slice (some ⟨b, o, none⟩) q c]).run Tryz.prog (w6.alloc (.cells #[] 3)) = .ok v8 w8 ∧ Calls Tryz.prog 68 #[v8] w8 fun e w' => ∃ x, e = .returned x ∧ Digs w' x (wordsOf (divW way neg (val l) (10 ^ n))) ∧ Below w.heap.size w w' := fun hu => by
    have hbA : Below w6.heap.size w6 (w6.alloc (.cells #[] 3)) := (Below.refl _ w6).alloc (Nat.le_refl _) _
    obtain ⟨v8, w8, hr8, ho8, hg8⟩ := append_digs_own w6.heap.size _ (.slice (some ⟨b, o, none⟩) q c) 0 (iL []) ST (by omega) (w6.alloc (.cells #[] 3)) (owns_none w6) (hst6.later hbA) (by simp) 84
    have hb8 := owns_belowI hbA (owns_none w6) hg8 (by simp)
    have hD8 : Digs w8 v8 ST := by
      refine Digs.of_owns (B := w6.heap.size) ?_
      simpa [iL] using ho8
    refine ⟨v8, w8, hr8, (trim_any v8 ST (by omega) w8 hD8).mono ?_⟩
    rintro e w9 ⟨x, rfl, hx, rfl⟩
    rw [trimW_words ST sst] at hx
    rw [hdv, if_neg (by rw [hu]; decide)]
    exact ⟨x, rfl, hx, hbw6.trans (hb8.mono hbw6.size)⟩
  have HA := Lib.hid cA
  have HS := Lib.hid cS
  have HZ := Lib.hid hz0
  have hcell : 0 < q → w6.cell? ⟨b, o + (q - 1), none⟩ = some (.int .i64 (last : Int)) := fun h => by
    obtain ⟨b', o', h1, _, _, h4⟩ := hst6.at 0 (by rw [HM.out.2.1]; exact h)
    injection h1 with h1
    injection h1 with h5 h6
    subst h5 h6
    rw [HM.out.2.1, Nat.sub_zero] at h4
    rw [h4, hlg]
  clear cC H5 hD5 hb6 hb5 hst6 hof6 hof hst hU hdv hl0 hlg e1 cA cS hz0 hlo hls HP hhalf sof sst hh3 HDV
  by_cases hq0 : q = 0
  · subst hq0
    have hl := HL0.out rfl
    subst hl
    clear hcell HL0 HM
    by_cases hvz : val OFF = 0
    · rw [decide_eq_true hvz] at cU
      cases U with
      | true =>
        go_wp2_with fail
        refine cT.mono ?_
        rintro e w7 ⟨tv, rfl, htv, rfl⟩
        obtain ⟨ta, tc, rfl⟩ := htv.shape
        clear htv cT
        have htl := HZ.out.2 hvz
        rw [htl]
        clear htl HZ hvz
        go_wp2_with fail
        refine (cU _).mono ?_
        rintro e w8 ⟨rfl, rfl⟩
        clear cU
        obtain ⟨W7, hW7, cA⟩ := HA.out (by trivial)
        clear HA HS
        go_wp2_with fail
        try rw [hW7]
        clear hW7
        refine cA.mono ?_
        rintro e w9 ⟨x, rfl, hx, hb9⟩
        go_wp2_with fail
        go_ret
        exact ⟨x, rfl, hx, hb9⟩
      | false =>
        go_wp2_with fail
        refine cT.mono ?_
        rintro e w7 ⟨tv, rfl, htv, rfl⟩
        obtain ⟨ta, tc, rfl⟩ := htv.shape
        clear htv cT
        have htl := HZ.out.2 hvz
        rw [htl]
        clear htl HZ hvz
        go_wp2_with fail
        refine (cU _).mono ?_
        rintro e w8 ⟨rfl, rfl⟩
        clear cU
        obtain ⟨v8, w8, hr8, cS⟩ := HS.out (by trivial)
        have H8 := Lib.hid hr8
        clear HA HS hr8
        go_wp2_with (at_builtin; refine Lib.wpList_append_run _ rfl (.tmp 68) (.tmp 69) 84 84 rfl _ _ rfl rfl _ _ H8.out ?_)
        refine cS.mono ?_
        rintro e w9 ⟨x, rfl, hx, hb9⟩
        go_wp2_with fail
        go_ret
        exact ⟨x, rfl, hx, hb9⟩
    · rw [decide_eq_false hvz] at cU
      cases U with
      | true =>
        go_wp2_with fail
        refine cT.mono ?_
        rintro e w7 ⟨tv, rfl, htv, rfl⟩
        obtain ⟨ta, tc, rfl⟩ := htv.shape
        clear htv cT
        have htl : ¬ (trimW OFF).length = 0 := fun h => hvz (HZ.out.1 h)
        have htz : (((trimW OFF).length : Int) == 0) = false := beq_eq_false_iff_ne.2 (by omega)
        clear htl HZ hvz
        go_wp2_with fail
        refine (cU _).mono ?_
        rintro e w8 ⟨rfl, rfl⟩
        clear cU
        obtain ⟨W7, hW7, cA⟩ := HA.out (by trivial)
        clear HA HS
        go_wp2_with fail
        try rw [hW7]
        clear hW7
        refine cA.mono ?_
        rintro e w9 ⟨x, rfl, hx, hb9⟩
        go_wp2_with fail
        go_ret
        exact ⟨x, rfl, hx, hb9⟩
      | false =>
        go_wp2_with fail
        refine cT.mono ?_
        rintro e w7 ⟨tv, rfl, htv, rfl⟩
        obtain ⟨ta, tc, rfl⟩ := htv.shape
        clear htv cT
        have htl : ¬ (trimW OFF).length = 0 := fun h => hvz (HZ.out.1 h)
        have htz : (((trimW OFF).length : Int) == 0) = false := beq_eq_false_iff_ne.2 (by omega)
        clear htl HZ hvz
        go_wp2_with fail
        refine (cU _).mono ?_
        rintro e w8 ⟨rfl, rfl⟩
        clear cU
        obtain ⟨v8, w8, hr8, cS⟩ := HS.out (by trivial)
        have H8 := Lib.hid hr8
        clear HA HS hr8
        go_wp2_with (at_builtin; refine Lib.wpList_append_run _ rfl (.tmp 68) (.tmp 69) 84 84 rfl _ _ rfl rfl _ _ H8.out ?_)
        refine cS.mono ?_
        rintro e w9 ⟨x, rfl, hx, hb9⟩
        go_wp2_with fail
        go_ret
        exact ⟨x, rfl, hx, hb9⟩
  · obtain ⟨q1, hq1⟩ : ∃ q1, q - 1 = q1 := ⟨_, rfl⟩
    have hcl := hcell (by omega)
    rw [hq1] at hcl
    have hq1i : (q : Int) - 1 = (q1 : Int) := by omega
    have hqp : (0 : Int) < (q : Int) := by omega
    have hq1q : (q1 : Int) < (q : Int) := by omega
    clear hcell HL0 HM hq1
    by_cases hvz : val OFF = 0
    · rw [decide_eq_true hvz] at cU
      cases U with
      | true =>
        go_wp2_with fail
        refine cT.mono ?_
        rintro e w7 ⟨tv, rfl, htv, rfl⟩
        obtain ⟨ta, tc, rfl⟩ := htv.shape
        clear htv cT
        have htl := HZ.out.2 hvz
        rw [htl]
        clear htl HZ hvz
        go_wp2_with fail
        refine (cU _).mono ?_
        rintro e w8 ⟨rfl, rfl⟩
        clear cU
        obtain ⟨W7, hW7, cA⟩ := HA.out (by trivial)
        clear HA HS
        go_wp2_with fail
        try rw [hW7]
        clear hW7
        refine cA.mono ?_
        rintro e w9 ⟨x, rfl, hx, hb9⟩
        go_wp2_with fail
        go_ret
        exact ⟨x, rfl, hx, hb9⟩
      | false =>
        go_wp2_with fail
        refine cT.mono ?_
        rintro e w7 ⟨tv, rfl, htv, rfl⟩
        obtain ⟨ta, tc, rfl⟩ := htv.shape
        clear htv cT
        have htl := HZ.out.2 hvz
        rw [htl]
        clear htl HZ hvz
        go_wp2_with fail
        refine (cU _).mono ?_
        rintro e w8 ⟨rfl, rfl⟩
        clear cU
        obtain ⟨v8, w8, hr8, cS⟩ := HS.out (by trivial)
        have H8 := Lib.hid hr8
        clear HA HS hr8
        go_wp2_with (at_builtin; refine Lib.wpList_append_run _ rfl (.tmp 68) (.tmp 69) 84 84 rfl _ _ rfl rfl _ _ H8.out ?_)
        refine cS.mono ?_
        rintro e w9 ⟨x, rfl, hx, hb9⟩
        go_wp2_with fail
        go_ret
        exact ⟨x, rfl, hx, hb9⟩
    · rw [decide_eq_false hvz] at cU
      cases U with
      | true =>
        go_wp2_with fail
        refine cT.mono ?_
        rintro e w7 ⟨tv, rfl, htv, rfl⟩
        obtain ⟨ta, tc, rfl⟩ := htv.shape
        clear htv cT
        have htl : ¬ (trimW OFF).length = 0 := fun h => hvz (HZ.out.1 h)
        have htz : (((trimW OFF).length : Int) == 0) = false := beq_eq_false_iff_ne.2 (by omega)
        clear htl HZ hvz
        go_wp2_with fail
        refine (cU _).mono ?_
        rintro e w8 ⟨rfl, rfl⟩
        clear cU
        obtain ⟨W7, hW7, cA⟩ := HA.out (by trivial)
        clear HA HS
        go_wp2_with fail
        try rw [hW7]
        clear hW7
        refine cA.mono ?_
        rintro e w9 ⟨x, rfl, hx, hb9⟩
        go_wp2_with fail
        go_ret
        exact ⟨x, rfl, hx, hb9⟩
      | false =>
        go_wp2_with fail
        refine cT.mono ?_
        rintro e w7 ⟨tv, rfl, htv, rfl⟩
        obtain ⟨ta, tc, rfl⟩ := htv.shape
        clear htv cT
        have htl : ¬ (trimW OFF).length = 0 := fun h => hvz (HZ.out.1 h)
        have htz : (((trimW OFF).length : Int) == 0) = false := beq_eq_false_iff_ne.2 (by omega)
        clear htl HZ hvz
        go_wp2_with fail
        refine (cU _).mono ?_
        rintro e w8 ⟨rfl, rfl⟩
        clear cU
        obtain ⟨v8, w8, hr8, cS⟩ := HS.out (by trivial)
        have H8 := Lib.hid hr8
        clear HA HS hr8
        go_wp2_with (at_builtin; refine Lib.wpList_append_run _ rfl (.tmp 68) (.tmp 69) 84 84 rfl _ _ rfl rfl _ _ H8.out ?_)
        refine cS.mono ?_
        rintro e w9 ⟨x, rfl, hx, hb9⟩
        go_wp2_with fail
        go_ret
        exact ⟨x, rfl, hx, hb9⟩
end Go.Proofs.YtdfgifnccghlmabGreatDoor.R
namespace Go.Proofs.YtdfgifnccghlmabGreatDoor.R
open Go.RowKit Go.Lib
open Go.Proofs.YtdfgifnccghlmabGreatDoor (trimW trimW_snoc trimW_le take_snoc' lt_of_cell cmpD cmpD_app sgnN below_drewN heap_drewN getD_drop0 tail_drop Ct wayL divW)
set_option maxHeartbeats 4000000 in
set_option maxRecDepth 100000 in
theorem cut_outer (neg : Bool) (how : ByteArray) (way : Ct → Bool) (hw : wayL how.data.toList = some way) (v0 : Value) (l0 : List Nat) (hs0 : Small l0) (m : Nat) (hn0 : l0.length < m + 1) (hm9 : m < 1000000) (w0 : World) (hu0 : Digs w0 v0 l0) :
    Calls Tryz.prog 92 #[.bool neg, v0, .int .i64 ((m + 1 : Nat) : Int), .string how] w0 fun e w' => ∃ x, e = .returned x ∧ Digs w' x (wordsOf (divW way neg (val l0) (10 ^ (m + 1)))) ∧ Below w0.heap.size w0 w' := by
  obtain ⟨p0, c0, rfl⟩ := hu0.shape
  obtain ⟨k, hk⟩ : ∃ k, m + 1 - l0.length = k := ⟨_, rfl⟩
  have hmk := make_ints k (by omega) w0
  have hbA : Below w0.heap.size w0 (w0.alloc (.cells (i64Cells (List.replicate k 0)) 3)) := (Below.refl _ _).alloc (Nat.le_refl _) _
  have hoA : (w0.alloc (.cells (i64Cells (List.replicate k 0)) 3)).ownsRow w0.heap.size 3 1 (.slice (some ⟨w0.heap.size, 0, none⟩) k k) k (iL (List.replicate k 0)) :=
    ⟨by rw [iL_len, List.length_replicate, Nat.mul_one], .inr ⟨w0.heap.size, k, i64Cells (List.replicate k 0), rfl, Nat.le_refl _, heap_alloc_new _ _, Nat.le_refl _, (by unfold maxLen; omega), by simp [i64Cells], by simp [i64Cells, iL]⟩⟩
  obtain ⟨v, w, hr0, ho0, hg0⟩ := append_digs_own w0.heap.size _ (.slice p0 l0.length c0) k (iL (List.replicate k 0)) l0 (by omega) (w0.alloc (.cells (i64Cells (List.replicate k 0)) 3)) hoA (hu0.later hbA) (by simp) 84
  have hb0 := owns_belowI hbA hoA hg0 (by simp)
  obtain ⟨l, hl⟩ : ∃ l, l0 ++ List.replicate k 0 = l := ⟨_, rfl⟩
  have hll : l.length = k + l0.length := by rw [← hl, List.length_append, List.length_replicate, Nat.add_comm]
  have hv : val l = val l0 := by rw [← hl, val_app, val_zeros]; simp
  have hs : Small l := by rw [← hl]; exact hs0.app (Small.zeros k)
  rw [← iL_app, hl] at ho0
  obtain ⟨b, c, rfl⟩ : ∃ b c, v = .slice (some ⟨b, 0, none⟩) l.length c := by
    rcases ho0.2 with ⟨_, h0⟩ | ⟨g, cap, cur, rfl, _⟩
    · omega
    · exact ⟨g, cap, by rw [hll]⟩
  have hu : Digs w (.slice (some ⟨b, 0, none⟩) l.length c) l := Digs.of_owns (B := w0.heap.size) (by rw [hll]; rw [hll] at ho0; exact ho0)
  have hn : m + 1 ≤ l.length := by omega
  have hl9 : l.length ≤ 1000000 := by omega
  rw [← hv]
  have hgt : ((l0.length : Nat) : Int) < ((m + 1 : Nat) : Int) := by omega
  have hkz : ((m + 1 : Nat) : Int) - ((l0.length : Nat) : Int) = (k : Int) := by omega
  rw [hll] at hr0
  rw [show k + l0.length = l.length from hll.symm] at hr0
  have H0 := Lib.hid hr0
  have HB0 := Lib.hid hb0
  have hl09 : l0.length < 1000000 := by omega
  obtain ⟨N0, hN0⟩ : ∃ x, l0.length = x := ⟨_, rfl⟩
  rw [hN0] at hgt hkz hl09 H0 ⊢
  obtain ⟨WA, hWA⟩ : ∃ WA, w0.alloc (.cells (i64Cells (List.replicate k 0)) 3) = WA := ⟨_, rfl⟩
  rw [hWA] at hmk H0
  clear hWA hr0 hb0 hg0 ho0 hoA hbA hu0 hl hv hll hk hn0 hs0 hN0
  have hcl : l.length ≤ c := by
    rcases hu with ⟨rfl, _⟩ | ⟨b', off', cap', heq, hcc, _⟩
    · simp at hn
    · injection heq with _ _ h3
      omega
  have hplain := cut_plain hw neg l hs m hn
  obtain ⟨q, hq⟩ : ∃ q, l.length = q + (m + 1) := ⟨l.length - (m + 1), by omega⟩
  have hst := Digs.stay (by rw [← hq]; exact hu) hq
  have hof := Digs.off (by rw [← hq]; exact hu) hq
  rw [Nat.zero_add] at hof
  have lst : (l.drop (m + 1)).length = q := by rw [List.length_drop]; omega
  have lof : (l.take (m + 1)).length = m + 1 := by rw [List.length_take]; omega
  have sst := hs.drop (m + 1)
  have sof := hs.take (m + 1)
  have hd0 : q = 0 → l.getD (m + 1) 0 = 0 := fun h => by rw [List.getD_eq_getElem?_getD, List.getElem?_eq_none (by omega)]; rfl
  have hdn : l.getD (m + 1) 0 = (l.drop (m + 1)).getD 0 0 := by rw [getD_drop0, List.getD_eq_getElem?_getD, List.headD_eq_head?_getD, ← List.head?_eq_getElem?]
  obtain ⟨OFF, hOFF⟩ : ∃ x, l.take (m + 1) = x := ⟨_, rfl⟩
  obtain ⟨ST, hST⟩ : ∃ x, l.drop (m + 1) = x := ⟨_, rfl⟩
  obtain ⟨last, hlast⟩ : ∃ x, l.getD (m + 1) 0 = x := ⟨_, rfl⟩
  rw [hOFF] at hplain hof lof sof
  rw [hST] at hplain hst lst sst hdn
  rw [hlast] at hplain hd0 hdn
  obtain ⟨half, hhalf⟩ : ∃ x, sgnN (val OFF) (val (List.replicate m 0 ++ [5])) = x := ⟨_, rfl⟩
  have hh3 := sgn_three (val OFF) (val (List.replicate m 0 ++ [5]))
  rw [hhalf] at hplain hh3
  have hNq : ((l.length : Nat) : Int) - ((m + 1 : Nat) : Int) = (q : Int) := by omega
  have hNn : l.length - q = m + 1 := by omega
  have hnN : ((l.length : Nat) : Int) = ((m + 1 : Nat) : Int) ∨ True := .inr trivial
  have hqN : (q : Int) ≤ ((l.length : Nat) : Int) := by omega
  have hqc : (q : Int) ≤ (c : Int) := by omega
  have hc0 : ¬ c = 0 := by omega
  have hcq : ¬ c = q := by omega
  have hnpos : (0 : Int) < ((m + 1 : Nat) : Int) := by omega
  have hn1 : ((m + 1 : Nat) : Int) - 1 = (m : Int) := by omega
  have hm0 : (0 : Int) ≤ (m : Int) := by omega
  obtain ⟨n, hnm⟩ : ∃ n, m + 1 = n := ⟨_, rfl⟩
  rw [hnm] at hplain hof lof hNq hNn hnN hnpos hn1 hgt hkz ⊢
  obtain ⟨N, hNl⟩ : ∃ N, l.length = N := ⟨_, rfl⟩
  rw [hNl] at hNq hNn hnN hqN hl9 H0
  have HP := Lib.hid (And.intro hplain (And.intro hd0 hdn))
  have HM := Lib.hid (And.intro hnm (And.intro lst lof))
  clear hnN hOFF hST hlast hu hs hn hcl hq hNl hplain hd0 hdn hnm lst lof hw
  go_enter Tryz.func92, Tryz.ntmps92
  go_wp2_with (at_builtin; refine Lib.wpList_append_run _ rfl (.tmp 21) (.tmp 22) 84 84 rfl _ _ rfl rfl _ _ H0.out ?_)
  clear hmk H0
  go_quiet (fail)
  have hb3 : Below w.heap.size w (w.drewN nq) := below_drewN (Below.refl _ _) nq
  obtain ⟨W3, hW3⟩ : ∃ W3, w.drewN nq = W3 := ⟨_, rfl⟩
  rw [hW3] at hb3 ⊢
  clear hW3
  have hb4 : Below w.heap.size w (W3.alloc (.cells #[.int .i64 5] 3)) := hb3.alloc hb3.size _
  obtain ⟨v5, w5, hr5, ho5, hg5⟩ := append_zeros_own W3.heap.size _ 1 (iL [5]) m (by omega) (W3.alloc (.cells #[.int .i64 5] 3)) (owns_one W3 5) (by simp) 84
  have hb5 : Below w.heap.size w w5 := hb3.trans ((owns_belowI ((Below.refl _ W3).alloc (Nat.le_refl _) _) (owns_one W3 5) hg5 (by simp)).mono hb3.size)
  have hD5 : Digs w5 v5 (List.replicate m 0 ++ [5]) := by
    refine Digs.of_owns (B := W3.heap.size) ?_
    rw [iL_app, iL_zeros, List.length_append, List.length_replicate, Nat.add_comm]
    exact ho5
  have H5 := Lib.hid hr5
  clear hr5 ho5 hg5 hb4 hb3
  go_wp2_with (at_builtin; refine Lib.wpList_append_run _ rfl (.tmp 37) (.tmp 40) 84 3 rfl _ _ rfl rfl _ _ H5.out ?_)
  have cC := cmp_any _ v5 OFF (List.replicate m 0 ++ [5]) sof (small_five m) (by have := HM.out.2.2; omega) (by rw [List.length_append, List.length_replicate]; have := HM.out.1; simp; omega) w5 (hof.later hb5) hD5
  rw [hhalf] at cC
  refine cC.mono ?_
  rintro e w6 ⟨rfl, hb6⟩
  have hbw6 := hb5.trans (hb6.mono hb5.size)
  have hst6 := hst.later hbw6
  have hof6 := hof.later hbw6
  have hlo : OFF.length < 1000000000 := by have := HM.out.2.2; omega
  have hls : ST.length < 100000000 := by have := HM.out.2.1; omega
  have cT := trim_any _ OFF hlo w6 hof6
  have hz0 : (trimW OFF).length = 0 ↔ val OFF = 0 := by
    rw [trimW_words OFF sof]
    constructor
    · intro h; exact (wordsOf_nil _).1 (List.eq_nil_of_length_eq_zero h)
    · intro h; rw [(wordsOf_nil _).2 h]; rfl
  have cU := fun W => up_any neg last half (decide (val OFF = 0)) how hh3 W
  obtain ⟨U, hU⟩ : ∃ x, upL how.data.toList neg last half (decide (val OFF = 0)) = x := ⟨_, rfl⟩
  have HP2 := HP.out
  rw [hU] at cU HP2
  obtain ⟨hdv, hl0, hlg⟩ := HP2
  have HDV := Lib.hid hdv
  have HL0 := Lib.hid hl0
  have e1 : val [1] = 1 := rfl
  have cA : U = true → ∃ W7, w6.alloc (.cells #[.int .i64 1] 3) = W7 ∧ Calls Tryz.prog 136 #[.slice (some ⟨b, 0, none⟩) q c, .slice (some ⟨w6.heap.size, 0, none⟩) 1 1] W7 fun e w' => ∃ x, e = .returned x ∧ Digs w' x (wordsOf (divW way neg (val l) (10 ^ n))) ∧ Below w.heap.size w w' := fun hu => by
    have hbA : Below w6.heap.size w6 (w6.alloc (.cells #[.int .i64 1] 3)) := (Below.refl _ w6).alloc (Nat.le_refl _) _
    have := add_any (.slice (some ⟨b, 0, none⟩) q c) (.slice (some ⟨w6.heap.size, 0, none⟩) 1 1) ST [1] sst (Small.cons (by omega) Small.nil) (by omega) (by simp) _ (hst6.later hbA) (digs_one w6 1)
    refine ⟨_, rfl, this.mono ?_⟩
    rintro e w8 ⟨x, rfl, hx, hb8⟩
    rw [e1] at hx
    rw [hdv, if_pos hu]
    exact ⟨x, rfl, hx, (hbw6.alloc hbw6.size _).trans (hb8.mono (hbw6.alloc hbw6.size _).size)⟩
  have cS : U = false → ∃ v8 w8, (Builtin.append_ #[84, 84] 84 #[.slice (some ⟨w6.heap.size, 0, none⟩) 0 0, .slice (some ⟨b, 0, none⟩) q c]).run Tryz.prog (w6.alloc (.cells #[] 3)) = .ok v8 w8 ∧ Calls Tryz.prog 68 #[v8] w8 fun e w' => ∃ x, e = .returned x ∧ Digs w' x (wordsOf (divW way neg (val l) (10 ^ n))) ∧ Below w.heap.size w w' := fun hu => by
    have hbA : Below w6.heap.size w6 (w6.alloc (.cells #[] 3)) := (Below.refl _ w6).alloc (Nat.le_refl _) _
    obtain ⟨v8, w8, hr8, ho8, hg8⟩ := append_digs_own w6.heap.size _ (.slice (some ⟨b, 0, none⟩) q c) 0 (iL []) ST (by omega) (w6.alloc (.cells #[] 3)) (owns_none w6) (hst6.later hbA) (by simp) 84
    have hb8 := owns_belowI hbA (owns_none w6) hg8 (by simp)
    have hD8 : Digs w8 v8 ST := by
      refine Digs.of_owns (B := w6.heap.size) ?_
      simpa [iL] using ho8
    refine ⟨v8, w8, hr8, (trim_any v8 ST (by omega) w8 hD8).mono ?_⟩
    rintro e w9 ⟨x, rfl, hx, rfl⟩
    rw [trimW_words ST sst] at hx
    rw [hdv, if_neg (by rw [hu]; decide)]
    exact ⟨x, rfl, hx, hbw6.trans (hb8.mono hbw6.size)⟩
  have HA := Lib.hid cA
  have HS := Lib.hid cS
  have HZ := Lib.hid hz0
  have hcell : 0 < q → w6.cell? ⟨b, q - 1, none⟩ = some (.int .i64 (last : Int)) := fun h => by
    obtain ⟨b', o', h1, _, _, h4⟩ := hst6.at 0 (by rw [HM.out.2.1]; exact h)
    injection h1 with h1
    injection h1 with h5 h6
    subst h5 h6
    rw [HM.out.2.1, Nat.sub_zero, Nat.zero_add] at h4
    rw [h4, hlg]
  clear cC H5 hD5 hb6 hb5 hst6 hof6 hof hst hU hdv hl0 hlg e1 cA cS hz0 hlo hls HP hhalf sof sst hh3 HDV
  by_cases hq0 : q = 0
  · subst hq0
    have hl := HL0.out rfl
    subst hl
    clear hcell HL0 HM
    by_cases hvz : val OFF = 0
    · rw [decide_eq_true hvz] at cU
      cases U with
      | true =>
        go_wp2_with fail
        refine cT.mono ?_
        rintro e w7 ⟨tv, rfl, htv, rfl⟩
        obtain ⟨ta, tc, rfl⟩ := htv.shape
        clear htv cT
        have htl := HZ.out.2 hvz
        rw [htl]
        clear htl HZ hvz
        go_wp2_with fail
        refine (cU _).mono ?_
        rintro e w8 ⟨rfl, rfl⟩
        clear cU
        obtain ⟨W7, hW7, cA⟩ := HA.out (by trivial)
        clear HA HS
        go_wp2_with fail
        try rw [hW7]
        clear hW7
        refine cA.mono ?_
        rintro e w9 ⟨x, rfl, hx, hb9⟩
        go_wp2_with fail
        go_ret
        exact ⟨x, rfl, hx, HB0.out.trans (hb9.mono HB0.out.size)⟩
      | false =>
        go_wp2_with fail
        refine cT.mono ?_
        rintro e w7 ⟨tv, rfl, htv, rfl⟩
        obtain ⟨ta, tc, rfl⟩ := htv.shape
        clear htv cT
        have htl := HZ.out.2 hvz
        rw [htl]
        clear htl HZ hvz
        go_wp2_with fail
        refine (cU _).mono ?_
        rintro e w8 ⟨rfl, rfl⟩
        clear cU
        obtain ⟨v8, w8, hr8, cS⟩ := HS.out (by trivial)
        have H8 := Lib.hid hr8
        clear HA HS hr8
        go_wp2_with (at_builtin; refine Lib.wpList_append_run _ rfl (.tmp 68) (.tmp 69) 84 84 rfl _ _ rfl rfl _ _ H8.out ?_)
        refine cS.mono ?_
        rintro e w9 ⟨x, rfl, hx, hb9⟩
        go_wp2_with fail
        go_ret
        exact ⟨x, rfl, hx, HB0.out.trans (hb9.mono HB0.out.size)⟩
    · rw [decide_eq_false hvz] at cU
      cases U with
      | true =>
        go_wp2_with fail
        refine cT.mono ?_
        rintro e w7 ⟨tv, rfl, htv, rfl⟩
        obtain ⟨ta, tc, rfl⟩ := htv.shape
        clear htv cT
        have htl : ¬ (trimW OFF).length = 0 := fun h => hvz (HZ.out.1 h)
        have htz : (((trimW OFF).length : Int) == 0) = false := beq_eq_false_iff_ne.2 (by omega)
        clear htl HZ hvz
        go_wp2_with fail
        refine (cU _).mono ?_
        rintro e w8 ⟨rfl, rfl⟩
        clear cU
        obtain ⟨W7, hW7, cA⟩ := HA.out (by trivial)
        clear HA HS
        go_wp2_with fail
        try rw [hW7]
        clear hW7
        refine cA.mono ?_
        rintro e w9 ⟨x, rfl, hx, hb9⟩
        go_wp2_with fail
        go_ret
        exact ⟨x, rfl, hx, HB0.out.trans (hb9.mono HB0.out.size)⟩
      | false =>
        go_wp2_with fail
        refine cT.mono ?_
        rintro e w7 ⟨tv, rfl, htv, rfl⟩
        obtain ⟨ta, tc, rfl⟩ := htv.shape
        clear htv cT
        have htl : ¬ (trimW OFF).length = 0 := fun h => hvz (HZ.out.1 h)
        have htz : (((trimW OFF).length : Int) == 0) = false := beq_eq_false_iff_ne.2 (by omega)
        clear htl HZ hvz
        go_wp2_with fail
        refine (cU _).mono ?_
        rintro e w8 ⟨rfl, rfl⟩
        clear cU
        obtain ⟨v8, w8, hr8, cS⟩ := HS.out (by trivial)
        have H8 := Lib.hid hr8
        clear HA HS hr8
        go_wp2_with (at_builtin; refine Lib.wpList_append_run _ rfl (.tmp 68) (.tmp 69) 84 84 rfl _ _ rfl rfl _ _ H8.out ?_)
        refine cS.mono ?_
        rintro e w9 ⟨x, rfl, hx, hb9⟩
        go_wp2_with fail
        go_ret
        exact ⟨x, rfl, hx, HB0.out.trans (hb9.mono HB0.out.size)⟩
  · obtain ⟨q1, hq1⟩ : ∃ q1, q - 1 = q1 := ⟨_, rfl⟩
    have hcl := hcell (by omega)
    rw [hq1] at hcl
    have hq1i : (q : Int) - 1 = (q1 : Int) := by omega
    have hqp : (0 : Int) < (q : Int) := by omega
    have hq1q : (q1 : Int) < (q : Int) := by omega
    clear hcell HL0 HM hq1
    by_cases hvz : val OFF = 0
    · rw [decide_eq_true hvz] at cU
      cases U with
      | true =>
        go_wp2_with fail
        refine cT.mono ?_
        rintro e w7 ⟨tv, rfl, htv, rfl⟩
        obtain ⟨ta, tc, rfl⟩ := htv.shape
        clear htv cT
        have htl := HZ.out.2 hvz
        rw [htl]
        clear htl HZ hvz
        go_wp2_with fail
        refine (cU _).mono ?_
        rintro e w8 ⟨rfl, rfl⟩
        clear cU
        obtain ⟨W7, hW7, cA⟩ := HA.out (by trivial)
        clear HA HS
        go_wp2_with fail
        try rw [hW7]
        clear hW7
        refine cA.mono ?_
        rintro e w9 ⟨x, rfl, hx, hb9⟩
        go_wp2_with fail
        go_ret
        exact ⟨x, rfl, hx, HB0.out.trans (hb9.mono HB0.out.size)⟩
      | false =>
        go_wp2_with fail
        refine cT.mono ?_
        rintro e w7 ⟨tv, rfl, htv, rfl⟩
        obtain ⟨ta, tc, rfl⟩ := htv.shape
        clear htv cT
        have htl := HZ.out.2 hvz
        rw [htl]
        clear htl HZ hvz
        go_wp2_with fail
        refine (cU _).mono ?_
        rintro e w8 ⟨rfl, rfl⟩
        clear cU
        obtain ⟨v8, w8, hr8, cS⟩ := HS.out (by trivial)
        have H8 := Lib.hid hr8
        clear HA HS hr8
        go_wp2_with (at_builtin; refine Lib.wpList_append_run _ rfl (.tmp 68) (.tmp 69) 84 84 rfl _ _ rfl rfl _ _ H8.out ?_)
        refine cS.mono ?_
        rintro e w9 ⟨x, rfl, hx, hb9⟩
        go_wp2_with fail
        go_ret
        exact ⟨x, rfl, hx, HB0.out.trans (hb9.mono HB0.out.size)⟩
    · rw [decide_eq_false hvz] at cU
      cases U with
      | true =>
        go_wp2_with fail
        refine cT.mono ?_
        rintro e w7 ⟨tv, rfl, htv, rfl⟩
        obtain ⟨ta, tc, rfl⟩ := htv.shape
        clear htv cT
        have htl : ¬ (trimW OFF).length = 0 := fun h => hvz (HZ.out.1 h)
        have htz : (((trimW OFF).length : Int) == 0) = false := beq_eq_false_iff_ne.2 (by omega)
        clear htl HZ hvz
        go_wp2_with fail
        refine (cU _).mono ?_
        rintro e w8 ⟨rfl, rfl⟩
        clear cU
        obtain ⟨W7, hW7, cA⟩ := HA.out (by trivial)
        clear HA HS
        go_wp2_with fail
        try rw [hW7]
        clear hW7
        refine cA.mono ?_
        rintro e w9 ⟨x, rfl, hx, hb9⟩
        go_wp2_with fail
        go_ret
        exact ⟨x, rfl, hx, HB0.out.trans (hb9.mono HB0.out.size)⟩
      | false =>
        go_wp2_with fail
        refine cT.mono ?_
        rintro e w7 ⟨tv, rfl, htv, rfl⟩
        obtain ⟨ta, tc, rfl⟩ := htv.shape
        clear htv cT
        have htl : ¬ (trimW OFF).length = 0 := fun h => hvz (HZ.out.1 h)
        have htz : (((trimW OFF).length : Int) == 0) = false := beq_eq_false_iff_ne.2 (by omega)
        clear htl HZ hvz
        go_wp2_with fail
        refine (cU _).mono ?_
        rintro e w8 ⟨rfl, rfl⟩
        clear cU
        obtain ⟨v8, w8, hr8, cS⟩ := HS.out (by trivial)
        have H8 := Lib.hid hr8
        clear HA HS hr8
        go_wp2_with (at_builtin; refine Lib.wpList_append_run _ rfl (.tmp 68) (.tmp 69) 84 84 rfl _ _ rfl rfl _ _ H8.out ?_)
        refine cS.mono ?_
        rintro e w9 ⟨x, rfl, hx, hb9⟩
        go_wp2_with fail
        go_ret
        exact ⟨x, rfl, hx, HB0.out.trans (hb9.mono HB0.out.size)⟩
end Go.Proofs.YtdfgifnccghlmabGreatDoor.R
namespace Go.Proofs.YtdfgifnccghlmabGreatDoor.R
open Go.RowKit Go.Lib
open Go.Proofs.YtdfgifnccghlmabGreatDoor (Ct wayL divW isDg isDg_iff)

theorem cut_any (neg : Bool) (how : ByteArray) (way : Ct → Bool) (hw : wayL how.data.toList = some way) (v : Value) (l : List Nat) (hs : Small l) (n : Nat) (hn : 1 ≤ n) (hn9 : n ≤ 1000000) (hl9 : l.length ≤ 1000000) (w : World) (hu : Digs w v l) :
    Calls Tryz.prog 92 #[.bool neg, v, .int .i64 (n : Int), .string how] w fun e w' => ∃ x, e = .returned x ∧ Digs w' x (wordsOf (divW way neg (val l) (10 ^ n))) ∧ Below w.heap.size w w' := by
  obtain ⟨m, rfl⟩ : ∃ m, n = m + 1 := ⟨n - 1, by omega⟩
  by_cases h : m + 1 ≤ l.length
  · have hu2 := hu
    rcases hu with ⟨rfl, _⟩ | ⟨b, o, c, rfl, _, _⟩
    · simp at h
    · exact cut_inner neg how way hw b o c l hs m h hl9 w hu2
  · exact cut_outer neg how way hw v l hs m (by omega) (by omega) w hu
set_option maxHeartbeats 1000000 in
set_option maxRecDepth 100000 in
theorem digit_any (x : Nat) (hx : x < 256) (w : World) :
    Calls Tryz.prog 100 #[.int .u8 (x : Int)] w fun e w' => e = .returned (.bool (decide (48 ≤ x ∧ x ≤ 57))) ∧ w = w' := by
  by_cases h1 : 48 ≤ x
  · have k1 : (48 : Int) ≤ (x : Int) := by omega
    by_cases h2 : x ≤ 57
    · have k2 : (x : Int) ≤ 57 := by omega
      rw [decide_eq_true (show 48 ≤ x ∧ x ≤ 57 from ⟨h1, h2⟩)]
      go_enter Tryz.func100, Tryz.ntmps100
      go_wp2_with fail
      go_ret
      exact ⟨rfl, rfl⟩
    · have k2 : ¬ (x : Int) ≤ 57 := by omega
      rw [decide_eq_false (show ¬ (48 ≤ x ∧ x ≤ 57) from fun h => h2 h.2)]
      go_enter Tryz.func100, Tryz.ntmps100
      go_wp2_with fail
      go_ret
      exact ⟨rfl, rfl⟩
  · have k1 : ¬ (48 : Int) ≤ (x : Int) := by omega
    rw [decide_eq_false (show ¬ (48 ≤ x ∧ x ≤ 57) from fun h => h1 h.1)]
    go_enter Tryz.func100, Tryz.ntmps100
    go_wp2_with fail
    go_ret
    exact ⟨rfl, rfl⟩
end Go.Proofs.YtdfgifnccghlmabGreatDoor.R

/- The contract of chisellaw06.DurOne. -/
import Derived.Test.YtdfgifnccghlmabGreatDoorMDuD
namespace Go.Proofs.YtdfgifnccghlmabGreatDoor
open Go.RowKit Go.Lib

theorem one_M {a b : Int} {x y : List UInt8} {y1 y2 : Int} (ha : -9999999999 ≤ a ∧ a ≤ 9999999999) (hb : -9999999999 ≤ b ∧ b ≤ 9999999999) (hx : textM a = (x, y1)) (hy : textM b = (y, y2)) : ∃ q : Bool, (x == y) = q ∧ (a == b) = q := by
  by_cases h : a = b
  · subst h
    rw [hx] at hy
    cases hy
    exact ⟨true, by simp, by simp⟩
  · refine ⟨false, beq_eq_false_iff_ne.2 fun k => h ?_, beq_eq_false_iff_ne.2 h⟩
    exact textM_inj ha hb (by rw [hx, hy]; exact k)
theorem one_S {a b x y : List UInt8} {y1 y2 : Int} (ha : ∃ p n, canonL a = some (p, n)) (hb : ∃ p n, canonL b = some (p, n)) (hx : textS a = (x, y1)) (hy : textS b = (y, y2)) : ∃ q : Bool, (x == y) = q ∧ (a == b) = q := by
  obtain ⟨p, n, hp⟩ := ha
  obtain ⟨p', n', hp'⟩ := hb
  by_cases h : a = b
  · subst h
    rw [hx] at hy
    cases hy
    exact ⟨true, by simp, by simp⟩
  · refine ⟨false, beq_eq_false_iff_ne.2 fun k => h ?_, beq_eq_false_iff_ne.2 h⟩
    exact textS_inj hp hp' (by rw [hx, hy]; exact k)
theorem parseS_canonR (s : List UInt8) : CanonR (parseS s) := by
  unfold parseS
  simp only
  split
  · exact errL_canonR _ (by decide)
  split
  · exact errL_canonR _ (by decide)
  split
  · exact errL_canonR _ (by decide)
  exact sumR_canonR _ _ _ _ zero_canonR
theorem canonR_some {x : List UInt8} (h : CanonR (x, 0)) : (∃ p n, canonL x = some (p, n)) ∧ x.length ≤ 52 := by
  rcases h with ⟨h, _⟩ | ⟨_, h, k⟩
  · exact absurd rfl h
  · exact ⟨canon_of_read h, k⟩
set_option maxRecDepth 100000 in
set_option maxHeartbeats 8000000 in
theorem durOne_law (s t : ByteArray) (w : World) (hg : GrD w) :
    Calls Tryz.prog 9 #[.string s, .string t] w fun e w' => e = .returned (.bool true) ∧ Below w.heap.size w w' := by
  have cw := (works_du hg).use
  obtain ⟨a, e, hM1⟩ : ∃ n z, parseM s.data.toList = (n, z) := ⟨_, _, rfl⟩
  obtain ⟨b, f, hM2⟩ : ∃ n z, parseM t.data.toList = (n, z) := ⟨_, _, rfl⟩
  obtain ⟨c, g, hS1⟩ := res_ex (parseS s.data.toList)
  obtain ⟨d, h, hS2⟩ := res_ex (parseS t.data.toList)
  have m1 := (parseM_on hg s a e hM1).use
  have m2 := (parseM_on hg t b f hM2).use
  have p1 := (parseS_on hg s c g hS1).use
  have p2 := (parseS_on hg t d h hS2).use
  have ra := parseM_small s.data.toList
  have rb := parseM_small t.data.toList
  rw [hM1] at ra
  rw [hM2] at rb
  simp only at ra rb
  have rc := parseS_canonR s.data.toList
  have rd := parseS_canonR t.data.toList
  rw [hS1] at rc
  rw [hS2] at rd
  obtain ⟨X, y1, hX⟩ := res_ex (textM a)
  obtain ⟨Y, y2, hY⟩ := res_ex (textM b)
  have m3 := (textM_on hg a (by omega) (by omega) X y1 hX).use
  have m4 := (textM_on hg b (by omega) (by omega) Y y2 hY).use
  obtain ⟨q, hq1, hq2⟩ := one_M ra rb hX hY
  rw [← ByteArray.toList_eq X, ← ByteArray.toList_eq Y] at hq1
  clear ra rb hX hY hM1 hM2 hS1 hS2
  by_cases he0 : e = 0
  · subst he0
    by_cases hf0 : f = 0
    · subst hf0
      by_cases hg0 : g = 0
      · subst hg0
        by_cases hh0 : h = 0
        · subst hh0
          obtain ⟨kc, lc⟩ := canonR_some rc
          obtain ⟨kd, ld⟩ := canonR_some rd
          have zc : c.size ≤ 52 := by rw [ba_size]; exact lc
          have zd : d.size ≤ 52 := by rw [ba_size]; exact ld
          obtain ⟨U, u1, hU⟩ := res_ex (textS c.data.toList)
          obtain ⟨V, v1, hV⟩ := res_ex (textS d.data.toList)
          have p3 := (textS_on hg c U u1 (by omega) hU).use
          have p4 := (textS_on hg d V v1 (by omega) hV).use
          obtain ⟨r, hr1, hr2⟩ := one_S kc kd hU hV
          rw [← ByteArray.toList_eq U, ← ByteArray.toList_eq V] at hr1
          rw [← ByteArray.toList_eq c, ← ByteArray.toList_eq d] at hr2
          clear hg rc rd kc kd lc ld zc zd hU hV
          go_enter Tryz.func9, Tryz.ntmps9
          go_wp2_with fail
          refine (m1 w (Below.refl _ _)).mono ?_
          rintro e w1 ⟨rfl, b1⟩
          go_wp2_with fail
          refine (m2 w1 b1).mono ?_
          rintro e w2 ⟨rfl, b2⟩
          go_wp2_with fail
          refine (m3 w2 b2).mono ?_
          rintro e w3 ⟨rfl, b3⟩
          go_wp2_with fail
          refine (m4 w3 b3).mono ?_
          rintro e w4 ⟨rfl, b4⟩
          go_wp2_with fail
          refine (p1 w4 b4).mono ?_
          rintro e w5 ⟨rfl, b5⟩
          go_wp2_with fail
          refine (p2 w5 b5).mono ?_
          rintro e w6 ⟨rfl, b6⟩
          go_wp2_with fail
          refine (p3 w6 b6).mono ?_
          rintro e w7 ⟨rfl, b7⟩
          go_wp2_with fail
          refine (p4 w7 b7).mono ?_
          rintro e w8 ⟨rfl, b8⟩
          go_wp2_with fail
          refine (cw w8 b8).mono ?_
          rintro e w9 ⟨rfl, b9⟩
          go_wp2_with fail
          go_ret
          exact ⟨rfl, b9⟩
        · have hhb : (h == 0) = false := beq_eq_false_iff_ne.2 hh0
          clear hg rc rd hh0
          go_enter Tryz.func9, Tryz.ntmps9
          go_wp2_with fail
          refine (m1 w (Below.refl _ _)).mono ?_
          rintro e w1 ⟨rfl, b1⟩
          go_wp2_with fail
          refine (m2 w1 b1).mono ?_
          rintro e w2 ⟨rfl, b2⟩
          go_wp2_with fail
          refine (m3 w2 b2).mono ?_
          rintro e w3 ⟨rfl, b3⟩
          go_wp2_with fail
          refine (m4 w3 b3).mono ?_
          rintro e w4 ⟨rfl, b4⟩
          go_wp2_with fail
          refine (p1 w4 b4).mono ?_
          rintro e w5 ⟨rfl, b5⟩
          go_wp2_with fail
          refine (p2 w5 b5).mono ?_
          rintro e w6 ⟨rfl, b6⟩
          go_wp2_with fail
          refine (cw w6 b6).mono ?_
          rintro e w7 ⟨rfl, b7⟩
          go_wp2_with fail
          go_ret
          exact ⟨rfl, b7⟩
      · have hgb : (g == 0) = false := beq_eq_false_iff_ne.2 hg0
        clear hg rc rd hg0
        go_enter Tryz.func9, Tryz.ntmps9
        go_wp2_with fail
        refine (m1 w (Below.refl _ _)).mono ?_
        rintro e w1 ⟨rfl, b1⟩
        go_wp2_with fail
        refine (m2 w1 b1).mono ?_
        rintro e w2 ⟨rfl, b2⟩
        go_wp2_with fail
        refine (m3 w2 b2).mono ?_
        rintro e w3 ⟨rfl, b3⟩
        go_wp2_with fail
        refine (m4 w3 b3).mono ?_
        rintro e w4 ⟨rfl, b4⟩
        go_wp2_with fail
        refine (p1 w4 b4).mono ?_
        rintro e w5 ⟨rfl, b5⟩
        go_wp2_with fail
        refine (p2 w5 b5).mono ?_
        rintro e w6 ⟨rfl, b6⟩
        go_wp2_with fail
        refine (cw w6 b6).mono ?_
        rintro e w7 ⟨rfl, b7⟩
        go_wp2_with fail
        go_ret
        exact ⟨rfl, b7⟩
    · have hfb : (f == 0) = false := beq_eq_false_iff_ne.2 hf0
      clear hf0 hq1 hq2 m3 m4
      by_cases hg0 : g = 0
      · subst hg0
        by_cases hh0 : h = 0
        · subst hh0
          obtain ⟨kc, lc⟩ := canonR_some rc
          obtain ⟨kd, ld⟩ := canonR_some rd
          have zc : c.size ≤ 52 := by rw [ba_size]; exact lc
          have zd : d.size ≤ 52 := by rw [ba_size]; exact ld
          obtain ⟨U, u1, hU⟩ := res_ex (textS c.data.toList)
          obtain ⟨V, v1, hV⟩ := res_ex (textS d.data.toList)
          have p3 := (textS_on hg c U u1 (by omega) hU).use
          have p4 := (textS_on hg d V v1 (by omega) hV).use
          obtain ⟨r, hr1, hr2⟩ := one_S kc kd hU hV
          rw [← ByteArray.toList_eq U, ← ByteArray.toList_eq V] at hr1
          rw [← ByteArray.toList_eq c, ← ByteArray.toList_eq d] at hr2
          clear hg rc rd kc kd lc ld zc zd hU hV
          go_enter Tryz.func9, Tryz.ntmps9
          go_wp2_with fail
          refine (m1 w (Below.refl _ _)).mono ?_
          rintro e w1 ⟨rfl, b1⟩
          go_wp2_with fail
          refine (m2 w1 b1).mono ?_
          rintro e w2 ⟨rfl, b2⟩
          go_wp2_with fail
          refine (p1 w2 b2).mono ?_
          rintro e w3 ⟨rfl, b3⟩
          go_wp2_with fail
          refine (p2 w3 b3).mono ?_
          rintro e w4 ⟨rfl, b4⟩
          go_wp2_with fail
          refine (p3 w4 b4).mono ?_
          rintro e w5 ⟨rfl, b5⟩
          go_wp2_with fail
          refine (p4 w5 b5).mono ?_
          rintro e w6 ⟨rfl, b6⟩
          go_wp2_with fail
          refine (cw w6 b6).mono ?_
          rintro e w7 ⟨rfl, b7⟩
          go_wp2_with fail
          go_ret
          exact ⟨rfl, b7⟩
        · have hhb : (h == 0) = false := beq_eq_false_iff_ne.2 hh0
          clear hg rc rd hh0
          go_enter Tryz.func9, Tryz.ntmps9
          go_wp2_with fail
          refine (m1 w (Below.refl _ _)).mono ?_
          rintro e w1 ⟨rfl, b1⟩
          go_wp2_with fail
          refine (m2 w1 b1).mono ?_
          rintro e w2 ⟨rfl, b2⟩
          go_wp2_with fail
          refine (p1 w2 b2).mono ?_
          rintro e w3 ⟨rfl, b3⟩
          go_wp2_with fail
          refine (p2 w3 b3).mono ?_
          rintro e w4 ⟨rfl, b4⟩
          go_wp2_with fail
          refine (cw w4 b4).mono ?_
          rintro e w5 ⟨rfl, b5⟩
          go_wp2_with fail
          go_ret
          exact ⟨rfl, b5⟩
      · have hgb : (g == 0) = false := beq_eq_false_iff_ne.2 hg0
        clear hg rc rd hg0
        go_enter Tryz.func9, Tryz.ntmps9
        go_wp2_with fail
        refine (m1 w (Below.refl _ _)).mono ?_
        rintro e w1 ⟨rfl, b1⟩
        go_wp2_with fail
        refine (m2 w1 b1).mono ?_
        rintro e w2 ⟨rfl, b2⟩
        go_wp2_with fail
        refine (p1 w2 b2).mono ?_
        rintro e w3 ⟨rfl, b3⟩
        go_wp2_with fail
        refine (p2 w3 b3).mono ?_
        rintro e w4 ⟨rfl, b4⟩
        go_wp2_with fail
        refine (cw w4 b4).mono ?_
        rintro e w5 ⟨rfl, b5⟩
        go_wp2_with fail
        go_ret
        exact ⟨rfl, b5⟩
  · have heb : (e == 0) = false := beq_eq_false_iff_ne.2 he0
    clear he0 hq1 hq2 m3 m4
    by_cases hg0 : g = 0
    · subst hg0
      by_cases hh0 : h = 0
      · subst hh0
        obtain ⟨kc, lc⟩ := canonR_some rc
        obtain ⟨kd, ld⟩ := canonR_some rd
        have zc : c.size ≤ 52 := by rw [ba_size]; exact lc
        have zd : d.size ≤ 52 := by rw [ba_size]; exact ld
        obtain ⟨U, u1, hU⟩ := res_ex (textS c.data.toList)
        obtain ⟨V, v1, hV⟩ := res_ex (textS d.data.toList)
        have p3 := (textS_on hg c U u1 (by omega) hU).use
        have p4 := (textS_on hg d V v1 (by omega) hV).use
        obtain ⟨r, hr1, hr2⟩ := one_S kc kd hU hV
        rw [← ByteArray.toList_eq U, ← ByteArray.toList_eq V] at hr1
        rw [← ByteArray.toList_eq c, ← ByteArray.toList_eq d] at hr2
        clear hg rc rd kc kd lc ld zc zd hU hV
        go_enter Tryz.func9, Tryz.ntmps9
        go_wp2_with fail
        refine (m1 w (Below.refl _ _)).mono ?_
        rintro e w1 ⟨rfl, b1⟩
        go_wp2_with fail
        refine (m2 w1 b1).mono ?_
        rintro e w2 ⟨rfl, b2⟩
        go_wp2_with fail
        refine (p1 w2 b2).mono ?_
        rintro e w3 ⟨rfl, b3⟩
        go_wp2_with fail
        refine (p2 w3 b3).mono ?_
        rintro e w4 ⟨rfl, b4⟩
        go_wp2_with fail
        refine (p3 w4 b4).mono ?_
        rintro e w5 ⟨rfl, b5⟩
        go_wp2_with fail
        refine (p4 w5 b5).mono ?_
        rintro e w6 ⟨rfl, b6⟩
        go_wp2_with fail
        refine (cw w6 b6).mono ?_
        rintro e w7 ⟨rfl, b7⟩
        go_wp2_with fail
        go_ret
        exact ⟨rfl, b7⟩
      · have hhb : (h == 0) = false := beq_eq_false_iff_ne.2 hh0
        clear hg rc rd hh0
        go_enter Tryz.func9, Tryz.ntmps9
        go_wp2_with fail
        refine (m1 w (Below.refl _ _)).mono ?_
        rintro e w1 ⟨rfl, b1⟩
        go_wp2_with fail
        refine (m2 w1 b1).mono ?_
        rintro e w2 ⟨rfl, b2⟩
        go_wp2_with fail
        refine (p1 w2 b2).mono ?_
        rintro e w3 ⟨rfl, b3⟩
        go_wp2_with fail
        refine (p2 w3 b3).mono ?_
        rintro e w4 ⟨rfl, b4⟩
        go_wp2_with fail
        refine (cw w4 b4).mono ?_
        rintro e w5 ⟨rfl, b5⟩
        go_wp2_with fail
        go_ret
        exact ⟨rfl, b5⟩
    · have hgb : (g == 0) = false := beq_eq_false_iff_ne.2 hg0
      clear hg rc rd hg0
      go_enter Tryz.func9, Tryz.ntmps9
      go_wp2_with fail
      refine (m1 w (Below.refl _ _)).mono ?_
      rintro e w1 ⟨rfl, b1⟩
      go_wp2_with fail
      refine (m2 w1 b1).mono ?_
      rintro e w2 ⟨rfl, b2⟩
      go_wp2_with fail
      refine (p1 w2 b2).mono ?_
      rintro e w3 ⟨rfl, b3⟩
      go_wp2_with fail
      refine (p2 w3 b3).mono ?_
      rintro e w4 ⟨rfl, b4⟩
      go_wp2_with fail
      refine (cw w4 b4).mono ?_
      rintro e w5 ⟨rfl, b5⟩
      go_wp2_with fail
      go_ret
      exact ⟨rfl, b5⟩
end Go.Proofs.YtdfgifnccghlmabGreatDoor

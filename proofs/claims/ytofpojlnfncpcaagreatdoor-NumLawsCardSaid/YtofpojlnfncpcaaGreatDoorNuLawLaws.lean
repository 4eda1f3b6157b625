/- The contract of chisellaw04.NumLaws. -/
import Derived.Test.YtofpojlnfncpcaaGreatDoorNuUse
namespace Go.Proofs.YtofpojlnfncpcaaGreatDoor
open Go.RowKit Go.Lib

set_option maxRecDepth 100000 in
set_option maxHeartbeats 8000000 in
theorem laws_law (a b : ByteArray) (w : World) (hg : GrN w) :
    Calls Tryz.prog 9 #[.string a, .string b] w fun e w' => e = .returned (.bool true) ∧ Below w.heap.size w w' := by
  have cw := (works_on hg).use
  have cl := (long_on hg a b).use
  by_cases hL : 300 < (a.size : Int) ∨ 300 < (b.size : Int)
  · rw [show (decide (300 < (a.size : Int)) || decide (300 < (b.size : Int))) = true by simpa using hL] at cl
    clear hg hL
    go_enter Tryz.func9, Tryz.ntmps9
    go_wp2_with fail
    refine (cl w (Below.refl _ _)).mono ?_
    rintro e w1 ⟨rfl, b1⟩
    go_wp2_with fail
    refine (cw w1 b1).mono ?_
    rintro e w2 ⟨rfl, b2⟩
    go_wp2_with fail
    go_ret
    exact ⟨rfl, b2⟩
  rw [show (decide (300 < (a.size : Int)) || decide (300 < (b.size : Int))) = false by simp; omega] at cl
  obtain ⟨x, e, hx⟩ := res_ex (addR a.data.toList b.data.toList)
  obtain ⟨p, g, hp⟩ := res_ex (mulR a.data.toList b.data.toList)
  have c1 := (add_on hg a b x e (by omega) (by omega) hx).use
  have c2 := (add_on hg b a x e (by omega) (by omega) ((addR_comm _ _).trans hx)).use
  have c3 := (mul_on hg a b p g (by omega) (by omega) hp).use
  have c4 := (mul_on hg b a p g (by omega) (by omega) ((mulR_comm _ _).trans hp)).use
  cases hc : canonL a.data.toList with
  | none =>
    have h1 : addR a.data.toList b.data.toList = ([], 1) := on2_none (.inl hc) _
    rw [hx] at h1
    have he1 : e = 1 := congrArg Prod.snd h1
    subst he1
    have c5 := (neg_on hg a ⟨#[]⟩ 1 (by omega) (negR_none _ hc)).use
    clear hg hL hx hp h1 hc
    go_enter Tryz.func9, Tryz.ntmps9
    go_wp2_with fail
    refine (cl w (Below.refl _ _)).mono ?_
    rintro e w1 ⟨rfl, b1⟩
    go_wp2_with fail
    refine (c1 w1 b1).mono ?_
    rintro e w2 ⟨rfl, b2⟩
    go_wp2_with fail
    refine (c2 w2 b2).mono ?_
    rintro e w3 ⟨rfl, b3⟩
    go_wp2_with fail
    refine (c3 w3 b3).mono ?_
    rintro e w4 ⟨rfl, b4⟩
    go_wp2_with fail
    refine (c4 w4 b4).mono ?_
    rintro e w5 ⟨rfl, b5⟩
    go_wp2_with fail
    refine (c5 w5 b5).mono ?_
    rintro e w6 ⟨rfl, b6⟩
    go_wp2_with fail
    refine (cw w6 b6).mono ?_
    rintro e w7 ⟨rfl, b7⟩
    go_wp2_with fail
    go_ret
    exact ⟨rfl, b7⟩
  | some q =>
    obtain ⟨bx, n⟩ := q
    obtain ⟨t, ht, ht2⟩ := negR_negR _ _ _ hc
    obtain ⟨m, hm⟩ : ∃ m : ByteArray, m.data.toList = t := ⟨⟨t.toArray⟩, rfl⟩
    subst hm
    have hms : m.size ≤ 52 := canonR_size (z := 0) (by rw [← ht]; exact negR_canonR _)
    have c5 := (neg_on hg a m 0 (by omega) ht).use
    have c6 := (neg_on hg m a 0 (by omega) ht2).use
    by_cases he : e = 0
    · subst he
      have hxs : x.size ≤ 52 := canonR_size (z := 0) (by rw [← hx]; exact addR_canonR _ _)
      have c7 := (sub_on hg x b a 0 (by omega) (by omega) (subR_addR _ _ _ hx)).use
      clear hg hL hx hp hc ht ht2 hms hxs
      go_enter Tryz.func9, Tryz.ntmps9
      go_wp2_with fail
      refine (cl w (Below.refl _ _)).mono ?_
      rintro e w1 ⟨rfl, b1⟩
      go_wp2_with fail
      refine (c1 w1 b1).mono ?_
      rintro e w2 ⟨rfl, b2⟩
      go_wp2_with fail
      refine (c2 w2 b2).mono ?_
      rintro e w3 ⟨rfl, b3⟩
      go_wp2_with fail
      refine (c3 w3 b3).mono ?_
      rintro e w4 ⟨rfl, b4⟩
      go_wp2_with fail
      refine (c4 w4 b4).mono ?_
      rintro e w5 ⟨rfl, b5⟩
      go_wp2_with fail
      refine (c7 w5 b5).mono ?_
      rintro e w6 ⟨rfl, b6⟩
      go_wp2_with fail
      refine (c5 w6 b6).mono ?_
      rintro e w7 ⟨rfl, b7⟩
      go_wp2_with fail
      refine (c6 w7 b7).mono ?_
      rintro e w8 ⟨rfl, b8⟩
      go_wp2_with fail
      refine (cw w8 b8).mono ?_
      rintro e w9 ⟨rfl, b9⟩
      go_wp2_with fail
      go_ret
      exact ⟨rfl, b9⟩
    · clear hg hL hx hp hc ht ht2 hms
      go_enter Tryz.func9, Tryz.ntmps9
      go_wp2_with fail
      refine (cl w (Below.refl _ _)).mono ?_
      rintro e w1 ⟨rfl, b1⟩
      go_wp2_with fail
      refine (c1 w1 b1).mono ?_
      rintro e w2 ⟨rfl, b2⟩
      go_wp2_with fail
      refine (c2 w2 b2).mono ?_
      rintro e w3 ⟨rfl, b3⟩
      go_wp2_with fail
      refine (c3 w3 b3).mono ?_
      rintro e w4 ⟨rfl, b4⟩
      go_wp2_with fail
      refine (c4 w4 b4).mono ?_
      rintro e w5 ⟨rfl, b5⟩
      go_wp2_with fail
      refine (c5 w5 b5).mono ?_
      rintro e w6 ⟨rfl, b6⟩
      go_wp2_with fail
      refine (c6 w6 b6).mono ?_
      rintro e w7 ⟨rfl, b7⟩
      go_wp2_with fail
      refine (cw w7 b7).mono ?_
      rintro e w8 ⟨rfl, b8⟩
      go_wp2_with fail
      go_ret
      exact ⟨rfl, b8⟩
end Go.Proofs.YtofpojlnfncpcaaGreatDoor

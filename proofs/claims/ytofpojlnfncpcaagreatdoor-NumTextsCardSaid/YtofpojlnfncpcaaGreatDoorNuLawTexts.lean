/- The contract of chisellaw04.NumTexts. -/
import Derived.Test.YtofpojlnfncpcaaGreatDoorNuUse
namespace Go.Proofs.YtofpojlnfncpcaaGreatDoor
open Go.RowKit Go.Lib

set_option maxRecDepth 100000 in
set_option maxHeartbeats 8000000 in
theorem texts_law (a b : ByteArray) (d : Int) (w : World) (hg : GrN w) :
    Calls Tryz.prog 8 #[.string a, .string b, .int .i64 d] w fun e w' => e = .returned (.bool true) ∧ Below w.heap.size w w' := by
  have cw := (works_on hg).use
  have cl := (long_on hg a b).use
  by_cases hL : 300 < (a.size : Int) ∨ 300 < (b.size : Int)
  · rw [show (decide (300 < (a.size : Int)) || decide (300 < (b.size : Int))) = true by simpa using hL] at cl
    clear hg hL
    go_enter Tryz.func8, Tryz.ntmps8
    go_wp2_with fail
    refine (cl w (Below.refl _ _)).mono ?_
    rintro e w1 ⟨rfl, b1⟩
    go_wp2_with fail
    refine (cw w1 b1).mono ?_
    rintro e w2 ⟨rfl, b2⟩
    go_wp2_with fail
    go_ret
    exact ⟨rfl, b2⟩
  rw [show (decide (300 < (a.size : Int)) || decide (300 < (b.size : Int))) = false by simp; omega] at cl
  obtain ⟨p, y0, h0⟩ := res_ex (readR a.data.toList)
  have c0 := (parse_on hg a p y0 (by omega) h0).use
  have k0 := (canonical_on hg p y0 (by rw [← h0]; exact readR_canonR a.data.toList)).use
  obtain ⟨r1, y1, h1⟩ := res_ex (addR a.data.toList b.data.toList)
  have c1 := (add_on hg a b r1 y1 (by omega) (by omega) h1).use
  have k1 := (canonical_on hg r1 y1 (by rw [← h1]; exact addR_canonR a.data.toList b.data.toList)).use
  obtain ⟨r2, y2, h2⟩ := res_ex (subR a.data.toList b.data.toList)
  have c2 := (sub_on hg a b r2 y2 (by omega) (by omega) h2).use
  have k2 := (canonical_on hg r2 y2 (by rw [← h2]; exact subR_canonR a.data.toList b.data.toList)).use
  obtain ⟨r3, y3, h3⟩ := res_ex (mulR a.data.toList b.data.toList)
  have c3 := (mul_on hg a b r3 y3 (by omega) (by omega) h3).use
  have k3 := (canonical_on hg r3 y3 (by rw [← h3]; exact mulR_canonR a.data.toList b.data.toList)).use
  obtain ⟨r4, y4, h4⟩ := res_ex (quoR a.data.toList b.data.toList)
  have c4 := (quo_on hg a b r4 y4 (by omega) (by omega) h4).use
  have k4 := (canonical_on hg r4 y4 (by rw [← h4]; exact quoR_canonR a.data.toList b.data.toList)).use
  obtain ⟨r5, y5, h5⟩ := res_ex (idivR a.data.toList b.data.toList)
  have c5 := (idiv_on hg a b r5 y5 (by omega) (by omega) h5).use
  have k5 := (canonical_on hg r5 y5 (by rw [← h5]; exact idivR_canonR a.data.toList b.data.toList)).use
  obtain ⟨r6, y6, h6⟩ := res_ex (modR a.data.toList b.data.toList)
  have c6 := (mod_on hg a b r6 y6 (by omega) (by omega) h6).use
  have k6 := (canonical_on hg r6 y6 (by rw [← h6]; exact modR_canonR a.data.toList b.data.toList)).use
  obtain ⟨r7, y7, h7⟩ := res_ex (roundR a.data.toList d [101, 118, 101, 110])
  have c7 := (round_on hg a ⟨#[101, 118, 101, 110]⟩ r7 d y7 (by omega) h7).use
  have k7 := (canonical_on hg r7 y7 (by rw [← h7]; exact roundR_canonR a.data.toList d [101, 118, 101, 110])).use
  clear hg hL h0 h1 h2 h3 h4 h5 h6 h7
  go_enter Tryz.func8, Tryz.ntmps8
  go_wp2_with fail
  refine (cl w (Below.refl _ _)).mono ?_
  rintro e w1 ⟨rfl, b1⟩
  go_wp2_with fail
  refine (c0 w1 b1).mono ?_
  rintro e w2 ⟨rfl, b2⟩
  go_wp2_with fail
  refine (k0 w2 b2).mono ?_
  rintro e w3 ⟨rfl, b3⟩
  go_wp2_with fail
  refine (c1 w3 b3).mono ?_
  rintro e w4 ⟨rfl, b4⟩
  go_wp2_with fail
  refine (c2 w4 b4).mono ?_
  rintro e w5 ⟨rfl, b5⟩
  go_wp2_with fail
  refine (c3 w5 b5).mono ?_
  rintro e w6 ⟨rfl, b6⟩
  go_wp2_with fail
  refine (c4 w6 b6).mono ?_
  rintro e w7 ⟨rfl, b7⟩
  go_wp2_with fail
  refine (c5 w7 b7).mono ?_
  rintro e w8 ⟨rfl, b8⟩
  go_wp2_with fail
  refine (c6 w8 b8).mono ?_
  rintro e w9 ⟨rfl, b9⟩
  go_wp2_with fail
  refine (c7 w9 b9).mono ?_
  rintro e w10 ⟨rfl, b10⟩
  go_wp2_with fail
  refine (k1 w10 b10).mono ?_
  rintro e w11 ⟨rfl, b11⟩
  go_wp2_with fail
  refine (k2 w11 b11).mono ?_
  rintro e w12 ⟨rfl, b12⟩
  go_wp2_with fail
  refine (k3 w12 b12).mono ?_
  rintro e w13 ⟨rfl, b13⟩
  go_wp2_with fail
  refine (k4 w13 b13).mono ?_
  rintro e w14 ⟨rfl, b14⟩
  go_wp2_with fail
  refine (k5 w14 b14).mono ?_
  rintro e w15 ⟨rfl, b15⟩
  go_wp2_with fail
  refine (k6 w15 b15).mono ?_
  rintro e w16 ⟨rfl, b16⟩
  go_wp2_with fail
  refine (k7 w16 b16).mono ?_
  rintro e w17 ⟨rfl, b17⟩
  go_wp2_with fail
  refine (cw w17 b17).mono ?_
  rintro e w18 ⟨rfl, b18⟩
  go_wp2_with fail
  go_ret
  exact ⟨rfl, b18⟩
end Go.Proofs.YtofpojlnfncpcaaGreatDoor

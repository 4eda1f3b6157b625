/- Durations: the contracts of the specification's plus and ParseSeconds. -/
import Derived.Test.YtdfgifnccghlmabGreatDoorMDuRMon
import Derived.Test.YtdfgifnccghlmabGreatDoorMDuReading
import Derived.Test.YtdfgifnccghlmabGreatDoorMRfG
import Derived.Test.YtdfgifnccghlmabGreatDoorMRfF
import Derived.Deep.RegionHeld3
namespace Go.Proofs.YtdfgifnccghlmabGreatDoor
open Go.RowKit Go.Lib

set_option maxRecDepth 100000 in
set_option maxHeartbeats 4000000 in
theorem plus6 (t y u : ByteArray) (w : World) :
    Calls Tryz.prog 35 #[.string t, .string y, .string u] w fun e w' => e = .returned (resV (plusR t.data.toList y.data.toList u.data.toList)) ∧ Below w.heap.size w w' := by
  obtain ⟨e1, he1⟩ : ∃ b, y.data.toList.isEmpty = b := ⟨_, rfl⟩
  obtain ⟨t1, u1⟩ := emp_is y e1 he1
  cases e1 with
  | true =>
    have HV := Lib.hid (show plusR t.data.toList y.data.toList u.data.toList = (t.data.toList, 0) by unfold plusR; rw [if_pos ((emp_iff _).1 he1)])
    rw [HV.out]
    clear he1
    go_enter Tryz.func35, Tryz.ntmps35
    go_wp2_with fail
    go_ret2
    exact ⟨rfl, Below.refl _ _⟩
  | false =>
    have hne := (emp_no _).1 he1
    obtain ⟨x, z, hx⟩ := res_ex (readR y.data.toList)
    have c1 := fun W => R.parse_any y W
    simp only [resV_on hx] at c1
    by_cases hz : z = 0
    · obtain ⟨m, z2, hm⟩ := res_ex (mulR x.data.toList u.data.toList)
      have c2 := fun W => R.mul_of x u W
      simp only [resV_on hm] at c2
      by_cases hz2 : z2 = 0
      · have HV := Lib.hid (show plusR t.data.toList y.data.toList u.data.toList = addR t.data.toList m.data.toList by unfold plusR; rw [if_neg hne, hx]; simp only; rw [if_neg (fun q => q hz), hm]; simp only; rw [if_neg (fun q => q hz2)])
        have c3 := fun W => R.add_of t m W
        have hzb : (z == 0) = true := by rw [hz]; rfl
        have hzc : (z != 0) = false := by rw [hz]; rfl
        have hz2b : (z2 == 0) = true := by rw [hz2]; rfl
        have hz2c : (z2 != 0) = false := by rw [hz2]; rfl
        obtain ⟨RR, hRR⟩ : ∃ R, addR t.data.toList m.data.toList = R := ⟨_, rfl⟩
        rw [hRR] at c3
        rw [HV.out, hRR]
        unfold resV at c3 ⊢
        clear hne hx hm hz hz2 hRR HV he1
        go_enter Tryz.func35, Tryz.ntmps35
        go_wp2_with fail
        refine (c1 _).mono ?_
        rintro e w1 ⟨rfl, b1⟩
        go_wp2_with fail
        refine (c2 _).mono ?_
        rintro e w2 ⟨rfl, b2⟩
        go_wp2_with fail
        refine (c3 _).mono ?_
        rintro e w3 ⟨rfl, b3⟩
        go_wp2_with fail
        go_ret2
        exact ⟨rfl, (b1.trans (b2.mono b1.size)).trans (b3.mono (Nat.le_trans b1.size b2.size))⟩
      · have HV := Lib.hid (show plusR t.data.toList y.data.toList u.data.toList = ([], z2) by unfold plusR; rw [if_neg hne, hx]; simp only; rw [if_neg (fun q => q hz), hm]; simp only; rw [if_pos hz2])
        have hzb : (z == 0) = true := by rw [hz]; rfl
        have hzc : (z != 0) = false := by rw [hz]; rfl
        have hz2b : (z2 == 0) = false := beq_eq_false_iff_ne.2 hz2
        have hz2c : (z2 != 0) = true := by simp [hz2]
        rw [HV.out]
        clear hne hx hm hz hz2 HV he1
        go_enter Tryz.func35, Tryz.ntmps35
        go_wp2_with fail
        refine (c1 _).mono ?_
        rintro e w1 ⟨rfl, b1⟩
        go_wp2_with fail
        refine (c2 _).mono ?_
        rintro e w2 ⟨rfl, b2⟩
        go_wp2_with fail
        go_ret2
        exact ⟨rfl, b1.trans (b2.mono b1.size)⟩
    · have HV := Lib.hid (show plusR t.data.toList y.data.toList u.data.toList = ([], z) by unfold plusR; rw [if_neg hne, hx]; simp only; rw [if_pos hz])
      have hzb : (z == 0) = false := beq_eq_false_iff_ne.2 hz
      have hzc : (z != 0) = true := by simp [hz]
      rw [HV.out]
      clear hne hx hz HV he1
      go_enter Tryz.func35, Tryz.ntmps35
      go_wp2_with fail
      refine (c1 _).mono ?_
      rintro e w1 ⟨rfl, b1⟩
      go_wp2_with fail
      go_ret2
      exact ⟨rfl, b1⟩
theorem pluses_step (t y u : List UInt8) (ys us : List (List UInt8)) : plusesR t (y :: ys) (u :: us) = if (plusR t y u).2 ≠ 0 then ([], 40) else plusesR (plusR t y u).1 ys us := rfl
theorem strs_lit4 (w : World) (a b c d : ByteArray) : Strs (w.alloc (.cells #[.string a, .string b, .string c, .string d] 9)) (.slice (some ⟨w.heap.size, 0, none⟩) 4 4) [a.data.toList, b.data.toList, c.data.toList, d.data.toList] := strs_lit w [a.data.toList, b.data.toList, c.data.toList, d.data.toList]
set_option maxRecDepth 100000 in
set_option maxHeartbeats 16000000 in
theorem parseSeconds6 (s : ByteArray) (w : World) :
    Calls Tryz.prog 17 #[.string s] w fun e w' => e = .returned (resV (refS s.data.toList)) ∧ Below w.heap.size w w' := by
  by_cases hL : 200 < s.size
  · have HV := Lib.hid (show refS s.data.toList = ([], 2) by unfold refS; simp only; rw [if_pos (by rw [← ba_size]; exact hL)])
    have hLz : (200 : Int) < (s.size : Int) := by omega
    rw [HV.out]
    go_enter Tryz.func17, Tryz.ntmps17
    go_wp2_with fail
    go_ret2
    exact ⟨rfl, Below.refl _ _⟩
  have hLz : ¬ (200 : Int) < (s.size : Int) := by omega
  have hsl := ba_size s
  obtain ⟨mi, hmi⟩ : ∃ b, Lib.hasPrefix s.data.toList [45] = b := ⟨_, rfl⟩
  obtain ⟨R1, hR1⟩ : ∃ R : ByteArray, Lib.trimPrefix s.data.toList [45] = R.data.toList := ⟨⟨(Lib.trimPrefix s.data.toList [45]).toArray⟩, rfl⟩
  have z1 : R1.size ≤ 200 := by have := pre_len s.data.toList [45]; rw [ba_size, ← hR1]; omega
  obtain ⟨ok1, hok1⟩ : ∃ b, Lib.hasPrefix R1.data.toList [80] = b := ⟨_, rfl⟩
  obtain ⟨R2, hR2⟩ : ∃ R : ByteArray, Lib.trimPrefix R1.data.toList [80] = R.data.toList := ⟨⟨(Lib.trimPrefix R1.data.toList [80]).toArray⟩, rfl⟩
  have z2 : R2.size ≤ 200 := by have := pre_len R1.data.toList [80]; rw [ba_size, ← hR2]; rw [ba_size] at z1; omega
  have k1 := fun W => sign6 s R1 true mi (by omega) hmi hR1 W
  have k2 := fun W => has6 R1 R2 80 80 (by decide) true ok1 z1 hok1 hR2 W
  simp only [Bool.true_and] at k2
  obtain ⟨R3, D, hD⟩ := part_ex6 68 false R2
  have z3 := num_size (c := 68) (by decide) (by decide) (by decide) z2 hD
  have k3 := fun W => part6 R2 R3 D 68 68 (by decide) false ok1 z2 hD W
  obtain ⟨ok2, hok2⟩ : ∃ b, Lib.hasPrefix R3.data.toList [84] = b := ⟨_, rfl⟩
  obtain ⟨R4, hR4⟩ : ∃ R : ByteArray, Lib.trimPrefix R3.data.toList [84] = R.data.toList := ⟨⟨(Lib.trimPrefix R3.data.toList [84]).toArray⟩, rfl⟩
  have z4 : R4.size ≤ 200 := by have := pre_len R3.data.toList [84]; have := z3.1; rw [ba_size, ← hR4]; rw [ba_size] at this; omega
  have k4 := fun W => has6 R3 R4 84 84 (by decide) ok1 ok2 z3.1 hok2 hR4 W
  obtain ⟨R5, H, hH⟩ := part_ex6 72 false R4
  have z5 := num_size (c := 72) (by decide) (by decide) (by decide) z4 hH
  have k5 := fun W => part6 R4 R5 H 72 72 (by decide) false (ok1 && ok2) z4 hH W
  obtain ⟨R6, M, hM⟩ := part_ex6 77 false R5
  have z6 := num_size (c := 77) (by decide) (by decide) (by decide) z5.1 hM
  have k6 := fun W => part6 R5 R6 M 77 77 (by decide) false (ok1 && ok2) z5.1 hM W
  obtain ⟨R7, S, hS⟩ := part_ex6 83 true R6
  have k7 := fun W => part6 R6 R7 S 83 83 (by decide) true (ok1 && ok2) z6.1 hS W
  have hv : refS s.data.toList = if R3.data.toList = [] then (if ok1 = false ∨ D.data.toList = [] then ([], 5) else finS mi (plusesR [48] [D.data.toList, [], [], []] unitsL))
      else if H.data.toList = [] ∧ M.data.toList = [] ∧ S.data.toList = [] then ([], 5)
      else if (ok1 && ok2) = false ∨ R7.data.toList ≠ [] then ([], 5)
      else finS mi (plusesR [48] [D.data.toList, H.data.toList, M.data.toList, S.data.toList] unitsL) := by
    unfold refS
    simp only
    rw [if_neg (by omega), hR1, hok1, hR2, hD]
    simp only
    rw [hok2, hR4, hH]
    simp only
    rw [hM]
    simp only
    rw [hS, hmi]
  obtain ⟨e3, he3⟩ : ∃ b, R3.data.toList.isEmpty = b := ⟨_, rfl⟩
  obtain ⟨e7, he7⟩ : ∃ b, R7.data.toList.isEmpty = b := ⟨_, rfl⟩
  obtain ⟨eD, heD⟩ : ∃ b, D.data.toList.isEmpty = b := ⟨_, rfl⟩
  obtain ⟨eH, heH⟩ : ∃ b, H.data.toList.isEmpty = b := ⟨_, rfl⟩
  obtain ⟨eM, heM⟩ : ∃ b, M.data.toList.isEmpty = b := ⟨_, rfl⟩
  obtain ⟨eS, heS⟩ : ∃ b, S.data.toList.isEmpty = b := ⟨_, rfl⟩
  obtain ⟨t3, u3⟩ := emp_is R3 e3 he3
  obtain ⟨t7, u7⟩ := emp_is R7 e7 he7
  obtain ⟨tD, uD⟩ := emp_is D eD heD
  obtain ⟨tH, uH⟩ := emp_is H eH heH
  obtain ⟨tM, uM⟩ := emp_is M eM heM
  obtain ⟨tS, uS⟩ := emp_is S eS heS
  obtain ⟨okk, hokk⟩ : ∃ b, (ok1 && ok2) = b := ⟨_, rfl⟩
  rw [hokk] at k5 k6 k7 hv
  simp only [hokk] at k4
  have HVAL := Lib.hid hv
  have H3 := Lib.hid he3
  have H7 := Lib.hid he7
  have HD := Lib.hid heD
  have HH := Lib.hid heH
  have HM := Lib.hid heM
  have HS := Lib.hid heS
  clear hmi hR1 hok1 hR2 hD hH hM hS hok2 hR4 hokk z1 z2 z3 z4 z5 z6 hsl hv he3 he7 heD heH heM heS
  unfold rdV at k1 k2 k3 k4 k5 k6 k7
  go_enter Tryz.func17, Tryz.ntmps17
  go_wp2_with fail
  refine (k1 w).mono ?_
  rintro e w1 ⟨rfl, hb1⟩
  have rv1 := RdAt.new w1 R1 true
  have hB : w.heap.size ≤ w1.heap.size := hb1.size
  have bv1 : Below w.heap.size w (w1.alloc (.cells #[.string R1, .bool true] 51)) := hb1.alloc hb1.size _
  obtain ⟨V1, hV1⟩ : ∃ V, w1.alloc (.cells #[.string R1, .bool true] 51) = V := ⟨_, rfl⟩
  obtain ⟨B, hBe⟩ : ∃ B, w1.heap.size = B := ⟨_, rfl⟩
  rw [hV1, hBe] at rv1
  rw [hV1] at bv1
  rw [hBe] at hB
  have HV1 := Lib.hid hV1
  have HBE := Lib.hid hBe
  obtain ⟨c0, c1, f0, f1, lt0⟩ := id rv1
  clear hb1 hV1 hBe
  go_wp2_with fail
  try rw [HV1.out]
  try rw [HBE.out]
  clear c0 c1 f0 f1 lt0
  refine (k2 V1).mono ?_
  rintro e w2 ⟨rfl, hb2⟩
  have rd2 := rv1.below hb2
  have bw2 := bv1.trans (hb2.mono bv1.size)
  obtain ⟨V2, hV2, rv2, keep2⟩ := rd2.set R2 ok1
  have bv2 := keep2 bw2 hB
  obtain ⟨c0, c1, f0, f1, lt0⟩ := id rd2
  have RV := Lib.hid rv2
  have HVV := Lib.hid hV2
  clear rv2 keep2 hV2 hb2 rd2
  go_wp2_with fail
  try rw [HVV.out]
  clear c0 c1 f0 f1 lt0 HVV
  have rv2 := RV.out
  clear RV
  refine (k3 V2).mono ?_
  rintro e w3 ⟨rfl, hb3⟩
  have rd3 := rv2.below hb3
  have bw3 := bv2.trans (hb3.mono bv2.size)
  obtain ⟨V3, hV3, rv3, keep3⟩ := rd3.set R3 ok1
  have bv3 := keep3 bw3 hB
  obtain ⟨c0, c1, f0, f1, lt0⟩ := id rd3
  have RV := Lib.hid rv3
  have HVV := Lib.hid hV3
  clear rv3 keep3 hV3 hb3 rd3
  have BV3 := Lib.hid bv3
  have rv3 := RV.out
  have RV3 := RV
  clear RV
  cases e3 with
  | true =>
    cases ok1 with
    | false =>
      have HF := Lib.hid (show refS s.data.toList = ([], 5) by rw [HVAL.out, if_pos ((emp_iff _).1 H3.out), if_pos (.inl rfl)])
      go_wp2_with fail
      try rw [HVV.out]
      go_ret2
      exact ⟨by rw [HF.out]; rfl, BV3.out⟩
    | true =>
      cases eD with
      | true =>
        have HF := Lib.hid (show refS s.data.toList = ([], 5) by rw [HVAL.out, if_pos ((emp_iff _).1 H3.out), if_pos (.inr ((emp_iff _).1 HD.out))])
        go_wp2_with fail
        try rw [HVV.out]
        go_ret2
        exact ⟨by rw [HF.out]; rfl, BV3.out⟩
      | false =>
        have HF := Lib.hid (show refS s.data.toList = finS mi (plusesR [48] [D.data.toList, [], [], []] unitsL) by rw [HVAL.out, if_pos ((emp_iff _).1 H3.out), if_neg (by rintro (q | q); cases q; exact (emp_no _).1 HD.out q)])
        have hl1 := strs_lit4 V3 D ⟨#[]⟩ ⟨#[]⟩ ⟨#[]⟩
        have bx1 : Below V3.heap.size V3 (V3.alloc (.cells #[.string D, .string ⟨#[]⟩, .string ⟨#[]⟩, .string ⟨#[]⟩] 9)) := (Below.refl _ _).alloc (Nat.le_refl _) _
        have hl2 := strs_lit4 (V3.alloc (.cells #[.string D, .string ⟨#[]⟩, .string ⟨#[]⟩, .string ⟨#[]⟩] 9)) ⟨#[56, 54, 52, 48, 48]⟩ ⟨#[51, 54, 48, 48]⟩ ⟨#[54, 48]⟩ ⟨#[49]⟩
        have bx2 : Below (V3.alloc (.cells #[.string D, .string ⟨#[]⟩, .string ⟨#[]⟩, .string ⟨#[]⟩] 9)).heap.size (V3.alloc (.cells #[.string D, .string ⟨#[]⟩, .string ⟨#[]⟩, .string ⟨#[]⟩] 9)) ((V3.alloc (.cells #[.string D, .string ⟨#[]⟩, .string ⟨#[]⟩, .string ⟨#[]⟩] 9)).alloc (.cells #[.string ⟨#[56, 54, 52, 48, 48]⟩, .string ⟨#[51, 54, 48, 48]⟩, .string ⟨#[54, 48]⟩, .string ⟨#[49]⟩] 9)) := (Below.refl _ _).alloc (Nat.le_refl _) _
        have hl1 := hl1.later bx2
        rw [World.size_alloc] at hl2
        have bW : Below w.heap.size w ((V3.alloc (.cells #[.string D, .string ⟨#[]⟩, .string ⟨#[]⟩, .string ⟨#[]⟩] 9)).alloc (.cells #[.string ⟨#[56, 54, 52, 48, 48]⟩, .string ⟨#[51, 54, 48, 48]⟩, .string ⟨#[54, 48]⟩, .string ⟨#[49]⟩] 9)) := (BV3.out.trans (bx1.mono BV3.out.size)).trans (bx2.mono (Nat.le_trans BV3.out.size bx1.size))
        obtain ⟨W0, hW0⟩ : ∃ W, (V3.alloc (.cells #[.string D, .string ⟨#[]⟩, .string ⟨#[]⟩, .string ⟨#[]⟩] 9)).alloc (.cells #[.string ⟨#[56, 54, 52, 48, 48]⟩, .string ⟨#[51, 54, 48, 48]⟩, .string ⟨#[54, 48]⟩, .string ⟨#[49]⟩] 9) = W := ⟨_, rfl⟩
        rw [hW0] at hl1 hl2 bW
        have HW0 := Lib.hid hW0
        have HL1 := Lib.hid hl1
        have HL2 := Lib.hid hl2
        have BW := Lib.hid bW
        have HVS := Lib.hid (show V3.heap.size = w3.heap.size by rw [← HVV.out]; simp [World.setCell])
        obtain ⟨RR, hRR⟩ : ∃ R, plusesR [48] [D.data.toList, [], [], []] unitsL = R := ⟨_, rfl⟩
        have HR := Lib.hid (show plusesR (⟨#[48]⟩ : ByteArray).data.toList ([D.data.toList, [], [], []].drop 0) (unitsL.drop 0) = RR from hRR)
        have HF2 := Lib.hid (HF.out.trans (congrArg (finS mi) hRR))
        clear hW0 hl1 hl2 bx1 bx2 bW hRR HF
        go_wp2_with fail
        try rw [HVV.out]
        try rw [HW0.out]
        go_loopg [12, 13] 4 (fun g s12 s13 wx => ∃ (i : Nat) (T : ByteArray), s13 = .int .i64 (i : Int) ∧ i + g = 4 ∧ s12 = .string T ∧ Hid (plusesR T.data.toList ([D.data.toList, [], [], []].drop i) (unitsL.drop i) = RR) ∧ Below W0.heap.size W0 wx)
        case atStart => exact ⟨0, ⟨#[48]⟩, rfl, by omega, rfl, HR, Below.refl _ _⟩
        case round =>
          clear HR
          obtain ⟨i, T, rfl, hig, rfl, HK, hbx⟩ := hrel
          by_cases hlt : i < 4
          · obtain ⟨g, rfl⟩ : ∃ g, gk = g + 1 := ⟨gk - 1, by omega⟩
            have hil : (i : Int) < 4 := by omega
            obtain ⟨b1, o1, e1, d1⟩ := HL1.out.at i hlt
            obtain ⟨b2, o2, e2, d2⟩ := HL2.out.at i hlt
            obtain ⟨rfl, rfl⟩ : b1 = V3.heap.size ∧ o1 = 0 := by simp at e1; exact ⟨e1.1.symm, e1.2.symm⟩
            obtain ⟨rfl, rfl⟩ : b2 = V3.heap.size + 1 ∧ o2 = 0 := by simp at e2; exact ⟨e2.1.symm, e2.2.symm⟩
            rw [Nat.zero_add] at d1 d2
            have hk := HK.out
            rw [drop_getD [D.data.toList, [], [], []] i hlt, drop_getD unitsL i hlt, pluses_step] at hk
            obtain ⟨NB, hNB, hNl⟩ := ba_ex ([D.data.toList, [], [], []].getD i [])
            obtain ⟨UB, hUB, hUl⟩ := ba_ex (unitsL.getD i [])
            have d1 : W0.cell? ⟨V3.heap.size, i, none⟩ = some (.string NB) := by rw [← hNB]; exact d1
            have d2 : W0.cell? ⟨V3.heap.size + 1, i, none⟩ = some (.string UB) := by rw [← hUB]; exact d2
            have x1 := (hbx.cell (p := ⟨V3.heap.size, i, none⟩) (lt_of_cell d1)).trans d1
            have x2 := (hbx.cell (p := ⟨V3.heap.size + 1, i, none⟩) (lt_of_cell d2)).trans d2
            rw [← hNl, ← hUl] at hk
            obtain ⟨T2, z, hp⟩ := res_ex (plusR T.data.toList NB.data.toList UB.data.toList)
            have cP := fun W => plus6 T NB UB W
            simp only [resV_on hp] at cP
            rw [hp] at hk
            simp only at hk
            have HK2 := Lib.hid hk
            have hin : (i : Int).toNat = i := by omega
            clear e1 e2 d1 d2 hNB hUB hNl hUl hp hk HK
            rw [HVS.out] at x1 x2
            by_cases hz : z = 0
            · subst hz
              go_wp2_with fail
              go_region_held3 (fun w' => w'.cell? ⟨w3.heap.size, i, none⟩ = some (.string NB) ∧ w'.cell? ⟨w3.heap.size + 1, i, none⟩ = some (.string UB)) (first | exact ⟨P1, P2⟩ | exact ⟨x1, x2⟩) (first | (go_at_call 35; refine (cP _).mono ?_; rintro e wP ⟨rfl, hbP⟩; have P1 := (hbP.cell (p := ⟨w3.heap.size, i, none⟩) (lt_of_cell x1)).trans x1; have P2 := (hbP.cell (p := ⟨w3.heap.size + 1, i, none⟩) (lt_of_cell x2)).trans x2))
              all_goals
                have bP : Below W0.heap.size W0 wP := hbx.drew.trans (hbP.mono hbx.drew.size)
                clear cP P1 P2 x1 x2 hbP
                go_wp2_with fail
                go_roundg g
                case rel => exact ⟨i + 1, T2, by congr 1, by omega, rfl, Lib.hid (by have := HK2.out; rwa [if_neg (fun q => q rfl)] at this), bP⟩
                all_goals omega
            · have hzb : (z == 0) = false := beq_eq_false_iff_ne.2 hz
              have hzc : (z != 0) = true := by simp [hz]
              have HV4 := Lib.hid (show refS s.data.toList = ([], 40) by
                rw [HF2.out]
                have := HK2.out
                rw [if_pos hz] at this
                rw [← this]
                unfold finS
                rw [if_pos (by simp)])
              clear hz
              go_wp2_with fail
              go_region_held3 (fun w' => w'.cell? ⟨w3.heap.size, i, none⟩ = some (.string NB) ∧ w'.cell? ⟨w3.heap.size + 1, i, none⟩ = some (.string UB)) (first | exact ⟨P1, P2⟩ | exact ⟨x1, x2⟩) (first | (go_at_call 35; refine (cP _).mono ?_; rintro e wP ⟨rfl, hbP⟩; have P1 := (hbP.cell (p := ⟨w3.heap.size, i, none⟩) (lt_of_cell x1)).trans x1; have P2 := (hbP.cell (p := ⟨w3.heap.size + 1, i, none⟩) (lt_of_cell x2)).trans x2))
              all_goals
                have bP : Below W0.heap.size W0 wP := hbx.drew.trans (hbP.mono hbx.drew.size)
                clear cP P1 P2 x1 x2 hbP
                go_wp2_with fail
                go_ret2
                exact ⟨by rw [HV4.out]; rfl, BW.out.trans (bP.mono BW.out.size)⟩
          · obtain rfl : i = 4 := by omega
            have hil : ¬ ((4 : Nat) : Int) < 4 := by omega
            have hk : (T.data.toList, (0 : Int)) = RR := HK.out
            cases mi with
            | false =>
              have HV4 := Lib.hid (show refS s.data.toList = (T.data.toList, 0) by
                rw [HF2.out, ← hk]
                unfold finS
                simp only
                rw [if_neg (show ¬ (0 : Int) ≠ 0 from fun q => q rfl), if_neg (show ¬ false = true by decide)])
              clear hk HK
              go_wp2_with fail
              go_ret2
              exact ⟨by rw [HV4.out]; rfl, BW.out.trans (hbx.mono BW.out.size)⟩
            | true =>
              have HV4 := Lib.hid (show refS s.data.toList = negR T.data.toList by
                rw [HF2.out, ← hk]
                unfold finS
                simp only
                rw [if_neg (show ¬ (0 : Int) ≠ 0 from fun q => q rfl), if_pos trivial])
              obtain ⟨RN, hRN⟩ : ∃ R, negR T.data.toList = R := ⟨_, rfl⟩
              have cN := fun W => R.neg_of T W
              rw [hRN] at cN
              have HV5 := Lib.hid (HV4.out.trans hRN)
              unfold resV at cN
              clear hk HK hRN HV4
              go_wp2_with fail
              refine (cN _).mono ?_
              rintro e wN ⟨rfl, hbN⟩
              go_wp2_with fail
              go_ret2
              exact ⟨by rw [HV5.out]; rfl, BW.out.trans ((hbx.trans (hbN.mono hbx.size)).mono BW.out.size)⟩
  | false =>
    go_wp2_with fail
    try rw [HVV.out]
    clear c0 c1 f0 f1 lt0 HVV
    refine (k4 V3).mono ?_
    rintro e w4 ⟨rfl, hb4⟩
    have rd4 := rv3.below hb4
    have bw4 := BV3.out.trans (hb4.mono BV3.out.size)
    obtain ⟨V4, hV4, rv4, keep4⟩ := rd4.set R4 okk
    have bv4 := keep4 bw4 hB
    obtain ⟨c0, c1, f0, f1, lt0⟩ := id rd4
    have RV := Lib.hid rv4
    have HVV := Lib.hid hV4
    clear rv4 keep4 hV4 hb4 rd4
    go_wp2_with fail
    try rw [HVV.out]
    clear c0 c1 f0 f1 lt0 HVV
    have rv4 := RV.out
    clear RV
    refine (k5 V4).mono ?_
    rintro e w5 ⟨rfl, hb5⟩
    have rd5 := rv4.below hb5
    have bw5 := bv4.trans (hb5.mono bv4.size)
    obtain ⟨V5, hV5, rv5, keep5⟩ := rd5.set R5 okk
    have bv5 := keep5 bw5 hB
    obtain ⟨c0, c1, f0, f1, lt0⟩ := id rd5
    have RV := Lib.hid rv5
    have HVV := Lib.hid hV5
    clear rv5 keep5 hV5 hb5 rd5
    go_wp2_with fail
    try rw [HVV.out]
    clear c0 c1 f0 f1 lt0 HVV
    have rv5 := RV.out
    clear RV
    refine (k6 V5).mono ?_
    rintro e w6 ⟨rfl, hb6⟩
    have rd6 := rv5.below hb6
    have bw6 := bv5.trans (hb6.mono bv5.size)
    obtain ⟨V6, hV6, rv6, keep6⟩ := rd6.set R6 okk
    have bv6 := keep6 bw6 hB
    obtain ⟨c0, c1, f0, f1, lt0⟩ := id rd6
    have RV := Lib.hid rv6
    have HVV := Lib.hid hV6
    clear rv6 keep6 hV6 hb6 rd6
    go_wp2_with fail
    try rw [HVV.out]
    clear c0 c1 f0 f1 lt0 HVV
    have rv6 := RV.out
    clear RV
    refine (k7 V6).mono ?_
    rintro e w7 ⟨rfl, hb7⟩
    have rd7 := rv6.below hb7
    have bw7 := bv6.trans (hb7.mono bv6.size)
    obtain ⟨V7, hV7, rv7, keep7⟩ := rd7.set R7 okk
    have bv7 := keep7 bw7 hB
    obtain ⟨c0, c1, f0, f1, lt0⟩ := id rd7
    have RV := Lib.hid rv7
    have HVV := Lib.hid hV7
    clear rv7 keep7 hV7 hb7 rd7
    have BV7 := Lib.hid bv7
    clear bv7 bw7 bv4 bv5 bv6 bw4 bw5 bw6 rv4 rv5 rv6 rv3 rv2 rv1 bv1 bv2 bw2 bw3 k1 k2 k3 k4 k5 k6 k7 RV3
    cases eH with
    | false =>
      cases okk with
      | false =>
        have HF := Lib.hid (show refS s.data.toList = ([], 5) by rw [HVAL.out, if_neg ((emp_no _).1 H3.out), if_neg (fun q => (emp_no _).1 HH.out q.1), if_pos (.inl rfl)])
        go_wp2_with fail
        try rw [HVV.out]
        go_ret2
        exact ⟨by rw [HF.out]; rfl, BV7.out⟩
      | true =>
        cases e7 with
        | false =>
          have HF := Lib.hid (show refS s.data.toList = ([], 5) by rw [HVAL.out, if_neg ((emp_no _).1 H3.out), if_neg (fun q => (emp_no _).1 HH.out q.1), if_pos (.inr ((emp_no _).1 H7.out))])
          go_wp2_with fail
          try rw [HVV.out]
          go_ret2
          exact ⟨by rw [HF.out]; rfl, BV7.out⟩
        | true =>
          cases eD with
          | true =>
            have HF := Lib.hid (show refS s.data.toList = finS mi (plusesR [48] [D.data.toList, H.data.toList, M.data.toList, S.data.toList] unitsL) by rw [HVAL.out, if_neg ((emp_no _).1 H3.out), if_neg (fun q => (emp_no _).1 HH.out q.1), if_neg (by rintro (q | q); cases q; exact q ((emp_iff _).1 H7.out))])
            have hl1 := strs_lit4 V7 D H M S
            have bx1 : Below V7.heap.size V7 (V7.alloc (.cells #[.string D, .string H, .string M, .string S] 9)) := (Below.refl _ _).alloc (Nat.le_refl _) _
            have hl2 := strs_lit4 (V7.alloc (.cells #[.string D, .string H, .string M, .string S] 9)) ⟨#[56, 54, 52, 48, 48]⟩ ⟨#[51, 54, 48, 48]⟩ ⟨#[54, 48]⟩ ⟨#[49]⟩
            have bx2 : Below (V7.alloc (.cells #[.string D, .string H, .string M, .string S] 9)).heap.size (V7.alloc (.cells #[.string D, .string H, .string M, .string S] 9)) ((V7.alloc (.cells #[.string D, .string H, .string M, .string S] 9)).alloc (.cells #[.string ⟨#[56, 54, 52, 48, 48]⟩, .string ⟨#[51, 54, 48, 48]⟩, .string ⟨#[54, 48]⟩, .string ⟨#[49]⟩] 9)) := (Below.refl _ _).alloc (Nat.le_refl _) _
            have hl1 := hl1.later bx2
            rw [World.size_alloc] at hl2
            have bW : Below w.heap.size w ((V7.alloc (.cells #[.string D, .string H, .string M, .string S] 9)).alloc (.cells #[.string ⟨#[56, 54, 52, 48, 48]⟩, .string ⟨#[51, 54, 48, 48]⟩, .string ⟨#[54, 48]⟩, .string ⟨#[49]⟩] 9)) := (BV7.out.trans (bx1.mono BV7.out.size)).trans (bx2.mono (Nat.le_trans BV7.out.size bx1.size))
            obtain ⟨W0, hW0⟩ : ∃ W, (V7.alloc (.cells #[.string D, .string H, .string M, .string S] 9)).alloc (.cells #[.string ⟨#[56, 54, 52, 48, 48]⟩, .string ⟨#[51, 54, 48, 48]⟩, .string ⟨#[54, 48]⟩, .string ⟨#[49]⟩] 9) = W := ⟨_, rfl⟩
            rw [hW0] at hl1 hl2 bW
            have HW0 := Lib.hid hW0
            have HL1 := Lib.hid hl1
            have HL2 := Lib.hid hl2
            have BW := Lib.hid bW
            have HVS := Lib.hid (show V7.heap.size = w7.heap.size by rw [← HVV.out]; simp [World.setCell])
            obtain ⟨RR, hRR⟩ : ∃ R, plusesR [48] [D.data.toList, H.data.toList, M.data.toList, S.data.toList] unitsL = R := ⟨_, rfl⟩
            have HR := Lib.hid (show plusesR (⟨#[48]⟩ : ByteArray).data.toList ([D.data.toList, H.data.toList, M.data.toList, S.data.toList].drop 0) (unitsL.drop 0) = RR from hRR)
            have HF2 := Lib.hid (HF.out.trans (congrArg (finS mi) hRR))
            clear hW0 hl1 hl2 bx1 bx2 bW hRR HF
            go_wp2_with fail
            try rw [HVV.out]
            try rw [HW0.out]
            go_loopg [12, 13] 4 (fun g s12 s13 wx => ∃ (i : Nat) (T : ByteArray), s13 = .int .i64 (i : Int) ∧ i + g = 4 ∧ s12 = .string T ∧ Hid (plusesR T.data.toList ([D.data.toList, H.data.toList, M.data.toList, S.data.toList].drop i) (unitsL.drop i) = RR) ∧ Below W0.heap.size W0 wx)
            case atStart => exact ⟨0, ⟨#[48]⟩, rfl, by omega, rfl, HR, Below.refl _ _⟩
            case round =>
              clear HR
              obtain ⟨i, T, rfl, hig, rfl, HK, hbx⟩ := hrel
              by_cases hlt : i < 4
              · obtain ⟨g, rfl⟩ : ∃ g, gk = g + 1 := ⟨gk - 1, by omega⟩
                have hil : (i : Int) < 4 := by omega
                obtain ⟨b1, o1, e1, d1⟩ := HL1.out.at i hlt
                obtain ⟨b2, o2, e2, d2⟩ := HL2.out.at i hlt
                obtain ⟨rfl, rfl⟩ : b1 = V7.heap.size ∧ o1 = 0 := by simp at e1; exact ⟨e1.1.symm, e1.2.symm⟩
                obtain ⟨rfl, rfl⟩ : b2 = V7.heap.size + 1 ∧ o2 = 0 := by simp at e2; exact ⟨e2.1.symm, e2.2.symm⟩
                rw [Nat.zero_add] at d1 d2
                have hk := HK.out
                rw [drop_getD [D.data.toList, H.data.toList, M.data.toList, S.data.toList] i hlt, drop_getD unitsL i hlt, pluses_step] at hk
                obtain ⟨NB, hNB, hNl⟩ := ba_ex ([D.data.toList, H.data.toList, M.data.toList, S.data.toList].getD i [])
                obtain ⟨UB, hUB, hUl⟩ := ba_ex (unitsL.getD i [])
                have d1 : W0.cell? ⟨V7.heap.size, i, none⟩ = some (.string NB) := by rw [← hNB]; exact d1
                have d2 : W0.cell? ⟨V7.heap.size + 1, i, none⟩ = some (.string UB) := by rw [← hUB]; exact d2
                have x1 := (hbx.cell (p := ⟨V7.heap.size, i, none⟩) (lt_of_cell d1)).trans d1
                have x2 := (hbx.cell (p := ⟨V7.heap.size + 1, i, none⟩) (lt_of_cell d2)).trans d2
                rw [← hNl, ← hUl] at hk
                obtain ⟨T2, z, hp⟩ := res_ex (plusR T.data.toList NB.data.toList UB.data.toList)
                have cP := fun W => plus6 T NB UB W
                simp only [resV_on hp] at cP
                rw [hp] at hk
                simp only at hk
                have HK2 := Lib.hid hk
                have hin : (i : Int).toNat = i := by omega
                clear e1 e2 d1 d2 hNB hUB hNl hUl hp hk HK
                rw [HVS.out] at x1 x2
                by_cases hz : z = 0
                · subst hz
                  go_wp2_with fail
                  go_region_held3 (fun w' => w'.cell? ⟨w7.heap.size, i, none⟩ = some (.string NB) ∧ w'.cell? ⟨w7.heap.size + 1, i, none⟩ = some (.string UB)) (first | exact ⟨P1, P2⟩ | exact ⟨x1, x2⟩) (first | (go_at_call 35; refine (cP _).mono ?_; rintro e wP ⟨rfl, hbP⟩; have P1 := (hbP.cell (p := ⟨w7.heap.size, i, none⟩) (lt_of_cell x1)).trans x1; have P2 := (hbP.cell (p := ⟨w7.heap.size + 1, i, none⟩) (lt_of_cell x2)).trans x2))
                  all_goals
                    have bP : Below W0.heap.size W0 wP := hbx.drew.trans (hbP.mono hbx.drew.size)
                    clear cP P1 P2 x1 x2 hbP
                    go_wp2_with fail
                    go_roundg g
                    case rel => exact ⟨i + 1, T2, by congr 1, by omega, rfl, Lib.hid (by have := HK2.out; rwa [if_neg (fun q => q rfl)] at this), bP⟩
                    all_goals omega
                · have hzb : (z == 0) = false := beq_eq_false_iff_ne.2 hz
                  have hzc : (z != 0) = true := by simp [hz]
                  have HV4 := Lib.hid (show refS s.data.toList = ([], 40) by
                    rw [HF2.out]
                    have := HK2.out
                    rw [if_pos hz] at this
                    rw [← this]
                    unfold finS
                    rw [if_pos (by simp)])
                  clear hz
                  go_wp2_with fail
                  go_region_held3 (fun w' => w'.cell? ⟨w7.heap.size, i, none⟩ = some (.string NB) ∧ w'.cell? ⟨w7.heap.size + 1, i, none⟩ = some (.string UB)) (first | exact ⟨P1, P2⟩ | exact ⟨x1, x2⟩) (first | (go_at_call 35; refine (cP _).mono ?_; rintro e wP ⟨rfl, hbP⟩; have P1 := (hbP.cell (p := ⟨w7.heap.size, i, none⟩) (lt_of_cell x1)).trans x1; have P2 := (hbP.cell (p := ⟨w7.heap.size + 1, i, none⟩) (lt_of_cell x2)).trans x2))
                  all_goals
                    have bP : Below W0.heap.size W0 wP := hbx.drew.trans (hbP.mono hbx.drew.size)
                    clear cP P1 P2 x1 x2 hbP
                    go_wp2_with fail
                    go_ret2
                    exact ⟨by rw [HV4.out]; rfl, BW.out.trans (bP.mono BW.out.size)⟩
              · obtain rfl : i = 4 := by omega
                have hil : ¬ ((4 : Nat) : Int) < 4 := by omega
                have hk : (T.data.toList, (0 : Int)) = RR := HK.out
                cases mi with
                | false =>
                  have HV4 := Lib.hid (show refS s.data.toList = (T.data.toList, 0) by
                    rw [HF2.out, ← hk]
                    unfold finS
                    simp only
                    rw [if_neg (show ¬ (0 : Int) ≠ 0 from fun q => q rfl), if_neg (show ¬ false = true by decide)])
                  clear hk HK
                  go_wp2_with fail
                  go_ret2
                  exact ⟨by rw [HV4.out]; rfl, BW.out.trans (hbx.mono BW.out.size)⟩
                | true =>
                  have HV4 := Lib.hid (show refS s.data.toList = negR T.data.toList by
                    rw [HF2.out, ← hk]
                    unfold finS
                    simp only
                    rw [if_neg (show ¬ (0 : Int) ≠ 0 from fun q => q rfl), if_pos trivial])
                  obtain ⟨RN, hRN⟩ : ∃ R, negR T.data.toList = R := ⟨_, rfl⟩
                  have cN := fun W => R.neg_of T W
                  rw [hRN] at cN
                  have HV5 := Lib.hid (HV4.out.trans hRN)
                  unfold resV at cN
                  clear hk HK hRN HV4
                  go_wp2_with fail
                  refine (cN _).mono ?_
                  rintro e wN ⟨rfl, hbN⟩
                  go_wp2_with fail
                  go_ret2
                  exact ⟨by rw [HV5.out]; rfl, BW.out.trans ((hbx.trans (hbN.mono hbx.size)).mono BW.out.size)⟩
          | false =>
            have HF := Lib.hid (show refS s.data.toList = finS mi (plusesR [48] [D.data.toList, H.data.toList, M.data.toList, S.data.toList] unitsL) by rw [HVAL.out, if_neg ((emp_no _).1 H3.out), if_neg (fun q => (emp_no _).1 HH.out q.1), if_neg (by rintro (q | q); cases q; exact q ((emp_iff _).1 H7.out))])
            have hl1 := strs_lit4 V7 D H M S
            have bx1 : Below V7.heap.size V7 (V7.alloc (.cells #[.string D, .string H, .string M, .string S] 9)) := (Below.refl _ _).alloc (Nat.le_refl _) _
            have hl2 := strs_lit4 (V7.alloc (.cells #[.string D, .string H, .string M, .string S] 9)) ⟨#[56, 54, 52, 48, 48]⟩ ⟨#[51, 54, 48, 48]⟩ ⟨#[54, 48]⟩ ⟨#[49]⟩
            have bx2 : Below (V7.alloc (.cells #[.string D, .string H, .string M, .string S] 9)).heap.size (V7.alloc (.cells #[.string D, .string H, .string M, .string S] 9)) ((V7.alloc (.cells #[.string D, .string H, .string M, .string S] 9)).alloc (.cells #[.string ⟨#[56, 54, 52, 48, 48]⟩, .string ⟨#[51, 54, 48, 48]⟩, .string ⟨#[54, 48]⟩, .string ⟨#[49]⟩] 9)) := (Below.refl _ _).alloc (Nat.le_refl _) _
            have hl1 := hl1.later bx2
            rw [World.size_alloc] at hl2
            have bW : Below w.heap.size w ((V7.alloc (.cells #[.string D, .string H, .string M, .string S] 9)).alloc (.cells #[.string ⟨#[56, 54, 52, 48, 48]⟩, .string ⟨#[51, 54, 48, 48]⟩, .string ⟨#[54, 48]⟩, .string ⟨#[49]⟩] 9)) := (BV7.out.trans (bx1.mono BV7.out.size)).trans (bx2.mono (Nat.le_trans BV7.out.size bx1.size))
            obtain ⟨W0, hW0⟩ : ∃ W, (V7.alloc (.cells #[.string D, .string H, .string M, .string S] 9)).alloc (.cells #[.string ⟨#[56, 54, 52, 48, 48]⟩, .string ⟨#[51, 54, 48, 48]⟩, .string ⟨#[54, 48]⟩, .string ⟨#[49]⟩] 9) = W := ⟨_, rfl⟩
            rw [hW0] at hl1 hl2 bW
            have HW0 := Lib.hid hW0
            have HL1 := Lib.hid hl1
            have HL2 := Lib.hid hl2
            have BW := Lib.hid bW
            have HVS := Lib.hid (show V7.heap.size = w7.heap.size by rw [← HVV.out]; simp [World.setCell])
            obtain ⟨RR, hRR⟩ : ∃ R, plusesR [48] [D.data.toList, H.data.toList, M.data.toList, S.data.toList] unitsL = R := ⟨_, rfl⟩
            have HR := Lib.hid (show plusesR (⟨#[48]⟩ : ByteArray).data.toList ([D.data.toList, H.data.toList, M.data.toList, S.data.toList].drop 0) (unitsL.drop 0) = RR from hRR)
            have HF2 := Lib.hid (HF.out.trans (congrArg (finS mi) hRR))
            clear hW0 hl1 hl2 bx1 bx2 bW hRR HF
            go_wp2_with fail
            try rw [HVV.out]
            try rw [HW0.out]
            go_loopg [12, 13] 4 (fun g s12 s13 wx => ∃ (i : Nat) (T : ByteArray), s13 = .int .i64 (i : Int) ∧ i + g = 4 ∧ s12 = .string T ∧ Hid (plusesR T.data.toList ([D.data.toList, H.data.toList, M.data.toList, S.data.toList].drop i) (unitsL.drop i) = RR) ∧ Below W0.heap.size W0 wx)
            case atStart => exact ⟨0, ⟨#[48]⟩, rfl, by omega, rfl, HR, Below.refl _ _⟩
            case round =>
              clear HR
              obtain ⟨i, T, rfl, hig, rfl, HK, hbx⟩ := hrel
              by_cases hlt : i < 4
              · obtain ⟨g, rfl⟩ : ∃ g, gk = g + 1 := ⟨gk - 1, by omega⟩
                have hil : (i : Int) < 4 := by omega
                obtain ⟨b1, o1, e1, d1⟩ := HL1.out.at i hlt
                obtain ⟨b2, o2, e2, d2⟩ := HL2.out.at i hlt
                obtain ⟨rfl, rfl⟩ : b1 = V7.heap.size ∧ o1 = 0 := by simp at e1; exact ⟨e1.1.symm, e1.2.symm⟩
                obtain ⟨rfl, rfl⟩ : b2 = V7.heap.size + 1 ∧ o2 = 0 := by simp at e2; exact ⟨e2.1.symm, e2.2.symm⟩
                rw [Nat.zero_add] at d1 d2
                have hk := HK.out
                rw [drop_getD [D.data.toList, H.data.toList, M.data.toList, S.data.toList] i hlt, drop_getD unitsL i hlt, pluses_step] at hk
                obtain ⟨NB, hNB, hNl⟩ := ba_ex ([D.data.toList, H.data.toList, M.data.toList, S.data.toList].getD i [])
                obtain ⟨UB, hUB, hUl⟩ := ba_ex (unitsL.getD i [])
                have d1 : W0.cell? ⟨V7.heap.size, i, none⟩ = some (.string NB) := by rw [← hNB]; exact d1
                have d2 : W0.cell? ⟨V7.heap.size + 1, i, none⟩ = some (.string UB) := by rw [← hUB]; exact d2
                have x1 := (hbx.cell (p := ⟨V7.heap.size, i, none⟩) (lt_of_cell d1)).trans d1
                have x2 := (hbx.cell (p := ⟨V7.heap.size + 1, i, none⟩) (lt_of_cell d2)).trans d2
                rw [← hNl, ← hUl] at hk
                obtain ⟨T2, z, hp⟩ := res_ex (plusR T.data.toList NB.data.toList UB.data.toList)
                have cP := fun W => plus6 T NB UB W
                simp only [resV_on hp] at cP
                rw [hp] at hk
                simp only at hk
                have HK2 := Lib.hid hk
                have hin : (i : Int).toNat = i := by omega
                clear e1 e2 d1 d2 hNB hUB hNl hUl hp hk HK
                rw [HVS.out] at x1 x2
                by_cases hz : z = 0
                · subst hz
                  go_wp2_with fail
                  go_region_held3 (fun w' => w'.cell? ⟨w7.heap.size, i, none⟩ = some (.string NB) ∧ w'.cell? ⟨w7.heap.size + 1, i, none⟩ = some (.string UB)) (first | exact ⟨P1, P2⟩ | exact ⟨x1, x2⟩) (first | (go_at_call 35; refine (cP _).mono ?_; rintro e wP ⟨rfl, hbP⟩; have P1 := (hbP.cell (p := ⟨w7.heap.size, i, none⟩) (lt_of_cell x1)).trans x1; have P2 := (hbP.cell (p := ⟨w7.heap.size + 1, i, none⟩) (lt_of_cell x2)).trans x2))
                  all_goals
                    have bP : Below W0.heap.size W0 wP := hbx.drew.trans (hbP.mono hbx.drew.size)
                    clear cP P1 P2 x1 x2 hbP
                    go_wp2_with fail
                    go_roundg g
                    case rel => exact ⟨i + 1, T2, by congr 1, by omega, rfl, Lib.hid (by have := HK2.out; rwa [if_neg (fun q => q rfl)] at this), bP⟩
                    all_goals omega
                · have hzb : (z == 0) = false := beq_eq_false_iff_ne.2 hz
                  have hzc : (z != 0) = true := by simp [hz]
                  have HV4 := Lib.hid (show refS s.data.toList = ([], 40) by
                    rw [HF2.out]
                    have := HK2.out
                    rw [if_pos hz] at this
                    rw [← this]
                    unfold finS
                    rw [if_pos (by simp)])
                  clear hz
                  go_wp2_with fail
                  go_region_held3 (fun w' => w'.cell? ⟨w7.heap.size, i, none⟩ = some (.string NB) ∧ w'.cell? ⟨w7.heap.size + 1, i, none⟩ = some (.string UB)) (first | exact ⟨P1, P2⟩ | exact ⟨x1, x2⟩) (first | (go_at_call 35; refine (cP _).mono ?_; rintro e wP ⟨rfl, hbP⟩; have P1 := (hbP.cell (p := ⟨w7.heap.size, i, none⟩) (lt_of_cell x1)).trans x1; have P2 := (hbP.cell (p := ⟨w7.heap.size + 1, i, none⟩) (lt_of_cell x2)).trans x2))
                  all_goals
                    have bP : Below W0.heap.size W0 wP := hbx.drew.trans (hbP.mono hbx.drew.size)
                    clear cP P1 P2 x1 x2 hbP
                    go_wp2_with fail
                    go_ret2
                    exact ⟨by rw [HV4.out]; rfl, BW.out.trans (bP.mono BW.out.size)⟩
              · obtain rfl : i = 4 := by omega
                have hil : ¬ ((4 : Nat) : Int) < 4 := by omega
                have hk : (T.data.toList, (0 : Int)) = RR := HK.out
                cases mi with
                | false =>
                  have HV4 := Lib.hid (show refS s.data.toList = (T.data.toList, 0) by
                    rw [HF2.out, ← hk]
                    unfold finS
                    simp only
                    rw [if_neg (show ¬ (0 : Int) ≠ 0 from fun q => q rfl), if_neg (show ¬ false = true by decide)])
                  clear hk HK
                  go_wp2_with fail
                  go_ret2
                  exact ⟨by rw [HV4.out]; rfl, BW.out.trans (hbx.mono BW.out.size)⟩
                | true =>
                  have HV4 := Lib.hid (show refS s.data.toList = negR T.data.toList by
                    rw [HF2.out, ← hk]
                    unfold finS
                    simp only
                    rw [if_neg (show ¬ (0 : Int) ≠ 0 from fun q => q rfl), if_pos trivial])
                  obtain ⟨RN, hRN⟩ : ∃ R, negR T.data.toList = R := ⟨_, rfl⟩
                  have cN := fun W => R.neg_of T W
                  rw [hRN] at cN
                  have HV5 := Lib.hid (HV4.out.trans hRN)
                  unfold resV at cN
                  clear hk HK hRN HV4
                  go_wp2_with fail
                  refine (cN _).mono ?_
                  rintro e wN ⟨rfl, hbN⟩
                  go_wp2_with fail
                  go_ret2
                  exact ⟨by rw [HV5.out]; rfl, BW.out.trans ((hbx.trans (hbN.mono hbx.size)).mono BW.out.size)⟩
    | true =>
      cases eM with
      | false =>
        cases okk with
        | false =>
          have HF := Lib.hid (show refS s.data.toList = ([], 5) by rw [HVAL.out, if_neg ((emp_no _).1 H3.out), if_neg (fun q => (emp_no _).1 HM.out q.2.1), if_pos (.inl rfl)])
          go_wp2_with fail
          try rw [HVV.out]
          go_ret2
          exact ⟨by rw [HF.out]; rfl, BV7.out⟩
        | true =>
          cases e7 with
          | false =>
            have HF := Lib.hid (show refS s.data.toList = ([], 5) by rw [HVAL.out, if_neg ((emp_no _).1 H3.out), if_neg (fun q => (emp_no _).1 HM.out q.2.1), if_pos (.inr ((emp_no _).1 H7.out))])
            go_wp2_with fail
            try rw [HVV.out]
            go_ret2
            exact ⟨by rw [HF.out]; rfl, BV7.out⟩
          | true =>
            cases eD with
            | true =>
              have HF := Lib.hid (show refS s.data.toList = finS mi (plusesR [48] [D.data.toList, H.data.toList, M.data.toList, S.data.toList] unitsL) by rw [HVAL.out, if_neg ((emp_no _).1 H3.out), if_neg (fun q => (emp_no _).1 HM.out q.2.1), if_neg (by rintro (q | q); cases q; exact q ((emp_iff _).1 H7.out))])
              have hl1 := strs_lit4 V7 D H M S
              have bx1 : Below V7.heap.size V7 (V7.alloc (.cells #[.string D, .string H, .string M, .string S] 9)) := (Below.refl _ _).alloc (Nat.le_refl _) _
              have hl2 := strs_lit4 (V7.alloc (.cells #[.string D, .string H, .string M, .string S] 9)) ⟨#[56, 54, 52, 48, 48]⟩ ⟨#[51, 54, 48, 48]⟩ ⟨#[54, 48]⟩ ⟨#[49]⟩
              have bx2 : Below (V7.alloc (.cells #[.string D, .string H, .string M, .string S] 9)).heap.size (V7.alloc (.cells #[.string D, .string H, .string M, .string S] 9)) ((V7.alloc (.cells #[.string D, .string H, .string M, .string S] 9)).alloc (.cells #[.string ⟨#[56, 54, 52, 48, 48]⟩, .string ⟨#[51, 54, 48, 48]⟩, .string ⟨#[54, 48]⟩, .string ⟨#[49]⟩] 9)) := (Below.refl _ _).alloc (Nat.le_refl _) _
              have hl1 := hl1.later bx2
              rw [World.size_alloc] at hl2
              have bW : Below w.heap.size w ((V7.alloc (.cells #[.string D, .string H, .string M, .string S] 9)).alloc (.cells #[.string ⟨#[56, 54, 52, 48, 48]⟩, .string ⟨#[51, 54, 48, 48]⟩, .string ⟨#[54, 48]⟩, .string ⟨#[49]⟩] 9)) := (BV7.out.trans (bx1.mono BV7.out.size)).trans (bx2.mono (Nat.le_trans BV7.out.size bx1.size))
              obtain ⟨W0, hW0⟩ : ∃ W, (V7.alloc (.cells #[.string D, .string H, .string M, .string S] 9)).alloc (.cells #[.string ⟨#[56, 54, 52, 48, 48]⟩, .string ⟨#[51, 54, 48, 48]⟩, .string ⟨#[54, 48]⟩, .string ⟨#[49]⟩] 9) = W := ⟨_, rfl⟩
              rw [hW0] at hl1 hl2 bW
              have HW0 := Lib.hid hW0
              have HL1 := Lib.hid hl1
              have HL2 := Lib.hid hl2
              have BW := Lib.hid bW
              have HVS := Lib.hid (show V7.heap.size = w7.heap.size by rw [← HVV.out]; simp [World.setCell])
              obtain ⟨RR, hRR⟩ : ∃ R, plusesR [48] [D.data.toList, H.data.toList, M.data.toList, S.data.toList] unitsL = R := ⟨_, rfl⟩
              have HR := Lib.hid (show plusesR (⟨#[48]⟩ : ByteArray).data.toList ([D.data.toList, H.data.toList, M.data.toList, S.data.toList].drop 0) (unitsL.drop 0) = RR from hRR)
              have HF2 := Lib.hid (HF.out.trans (congrArg (finS mi) hRR))
              clear hW0 hl1 hl2 bx1 bx2 bW hRR HF
              go_wp2_with fail
              try rw [HVV.out]
              try rw [HW0.out]
              go_loopg [12, 13] 4 (fun g s12 s13 wx => ∃ (i : Nat) (T : ByteArray), s13 = .int .i64 (i : Int) ∧ i + g = 4 ∧ s12 = .string T ∧ Hid (plusesR T.data.toList ([D.data.toList, H.data.toList, M.data.toList, S.data.toList].drop i) (unitsL.drop i) = RR) ∧ Below W0.heap.size W0 wx)
              case atStart => exact ⟨0, ⟨#[48]⟩, rfl, by omega, rfl, HR, Below.refl _ _⟩
              case round =>
                clear HR
                obtain ⟨i, T, rfl, hig, rfl, HK, hbx⟩ := hrel
                by_cases hlt : i < 4
                · obtain ⟨g, rfl⟩ : ∃ g, gk = g + 1 := ⟨gk - 1, by omega⟩
                  have hil : (i : Int) < 4 := by omega
                  obtain ⟨b1, o1, e1, d1⟩ := HL1.out.at i hlt
                  obtain ⟨b2, o2, e2, d2⟩ := HL2.out.at i hlt
                  obtain ⟨rfl, rfl⟩ : b1 = V7.heap.size ∧ o1 = 0 := by simp at e1; exact ⟨e1.1.symm, e1.2.symm⟩
                  obtain ⟨rfl, rfl⟩ : b2 = V7.heap.size + 1 ∧ o2 = 0 := by simp at e2; exact ⟨e2.1.symm, e2.2.symm⟩
                  rw [Nat.zero_add] at d1 d2
                  have hk := HK.out
                  rw [drop_getD [D.data.toList, H.data.toList, M.data.toList, S.data.toList] i hlt, drop_getD unitsL i hlt, pluses_step] at hk
                  obtain ⟨NB, hNB, hNl⟩ := ba_ex ([D.data.toList, H.data.toList, M.data.toList, S.data.toList].getD i [])
                  obtain ⟨UB, hUB, hUl⟩ := ba_ex (unitsL.getD i [])
                  have d1 : W0.cell? ⟨V7.heap.size, i, none⟩ = some (.string NB) := by rw [← hNB]; exact d1
                  have d2 : W0.cell? ⟨V7.heap.size + 1, i, none⟩ = some (.string UB) := by rw [← hUB]; exact d2
                  have x1 := (hbx.cell (p := ⟨V7.heap.size, i, none⟩) (lt_of_cell d1)).trans d1
                  have x2 := (hbx.cell (p := ⟨V7.heap.size + 1, i, none⟩) (lt_of_cell d2)).trans d2
                  rw [← hNl, ← hUl] at hk
                  obtain ⟨T2, z, hp⟩ := res_ex (plusR T.data.toList NB.data.toList UB.data.toList)
                  have cP := fun W => plus6 T NB UB W
                  simp only [resV_on hp] at cP
                  rw [hp] at hk
                  simp only at hk
                  have HK2 := Lib.hid hk
                  have hin : (i : Int).toNat = i := by omega
                  clear e1 e2 d1 d2 hNB hUB hNl hUl hp hk HK
                  rw [HVS.out] at x1 x2
                  by_cases hz : z = 0
                  · subst hz
                    go_wp2_with fail
                    go_region_held3 (fun w' => w'.cell? ⟨w7.heap.size, i, none⟩ = some (.string NB) ∧ w'.cell? ⟨w7.heap.size + 1, i, none⟩ = some (.string UB)) (first | exact ⟨P1, P2⟩ | exact ⟨x1, x2⟩) (first | (go_at_call 35; refine (cP _).mono ?_; rintro e wP ⟨rfl, hbP⟩; have P1 := (hbP.cell (p := ⟨w7.heap.size, i, none⟩) (lt_of_cell x1)).trans x1; have P2 := (hbP.cell (p := ⟨w7.heap.size + 1, i, none⟩) (lt_of_cell x2)).trans x2))
                    all_goals
                      have bP : Below W0.heap.size W0 wP := hbx.drew.trans (hbP.mono hbx.drew.size)
                      clear cP P1 P2 x1 x2 hbP
                      go_wp2_with fail
                      go_roundg g
                      case rel => exact ⟨i + 1, T2, by congr 1, by omega, rfl, Lib.hid (by have := HK2.out; rwa [if_neg (fun q => q rfl)] at this), bP⟩
                      all_goals omega
                  · have hzb : (z == 0) = false := beq_eq_false_iff_ne.2 hz
                    have hzc : (z != 0) = true := by simp [hz]
                    have HV4 := Lib.hid (show refS s.data.toList = ([], 40) by
                      rw [HF2.out]
                      have := HK2.out
                      rw [if_pos hz] at this
                      rw [← this]
                      unfold finS
                      rw [if_pos (by simp)])
                    clear hz
                    go_wp2_with fail
                    go_region_held3 (fun w' => w'.cell? ⟨w7.heap.size, i, none⟩ = some (.string NB) ∧ w'.cell? ⟨w7.heap.size + 1, i, none⟩ = some (.string UB)) (first | exact ⟨P1, P2⟩ | exact ⟨x1, x2⟩) (first | (go_at_call 35; refine (cP _).mono ?_; rintro e wP ⟨rfl, hbP⟩; have P1 := (hbP.cell (p := ⟨w7.heap.size, i, none⟩) (lt_of_cell x1)).trans x1; have P2 := (hbP.cell (p := ⟨w7.heap.size + 1, i, none⟩) (lt_of_cell x2)).trans x2))
                    all_goals
                      have bP : Below W0.heap.size W0 wP := hbx.drew.trans (hbP.mono hbx.drew.size)
                      clear cP P1 P2 x1 x2 hbP
                      go_wp2_with fail
                      go_ret2
                      exact ⟨by rw [HV4.out]; rfl, BW.out.trans (bP.mono BW.out.size)⟩
                · obtain rfl : i = 4 := by omega
                  have hil : ¬ ((4 : Nat) : Int) < 4 := by omega
                  have hk : (T.data.toList, (0 : Int)) = RR := HK.out
                  cases mi with
                  | false =>
                    have HV4 := Lib.hid (show refS s.data.toList = (T.data.toList, 0) by
                      rw [HF2.out, ← hk]
                      unfold finS
                      simp only
                      rw [if_neg (show ¬ (0 : Int) ≠ 0 from fun q => q rfl), if_neg (show ¬ false = true by decide)])
                    clear hk HK
                    go_wp2_with fail
                    go_ret2
                    exact ⟨by rw [HV4.out]; rfl, BW.out.trans (hbx.mono BW.out.size)⟩
                  | true =>
                    have HV4 := Lib.hid (show refS s.data.toList = negR T.data.toList by
                      rw [HF2.out, ← hk]
                      unfold finS
                      simp only
                      rw [if_neg (show ¬ (0 : Int) ≠ 0 from fun q => q rfl), if_pos trivial])
                    obtain ⟨RN, hRN⟩ : ∃ R, negR T.data.toList = R := ⟨_, rfl⟩
                    have cN := fun W => R.neg_of T W
                    rw [hRN] at cN
                    have HV5 := Lib.hid (HV4.out.trans hRN)
                    unfold resV at cN
                    clear hk HK hRN HV4
                    go_wp2_with fail
                    refine (cN _).mono ?_
                    rintro e wN ⟨rfl, hbN⟩
                    go_wp2_with fail
                    go_ret2
                    exact ⟨by rw [HV5.out]; rfl, BW.out.trans ((hbx.trans (hbN.mono hbx.size)).mono BW.out.size)⟩
            | false =>
              have HF := Lib.hid (show refS s.data.toList = finS mi (plusesR [48] [D.data.toList, H.data.toList, M.data.toList, S.data.toList] unitsL) by rw [HVAL.out, if_neg ((emp_no _).1 H3.out), if_neg (fun q => (emp_no _).1 HM.out q.2.1), if_neg (by rintro (q | q); cases q; exact q ((emp_iff _).1 H7.out))])
              have hl1 := strs_lit4 V7 D H M S
              have bx1 : Below V7.heap.size V7 (V7.alloc (.cells #[.string D, .string H, .string M, .string S] 9)) := (Below.refl _ _).alloc (Nat.le_refl _) _
              have hl2 := strs_lit4 (V7.alloc (.cells #[.string D, .string H, .string M, .string S] 9)) ⟨#[56, 54, 52, 48, 48]⟩ ⟨#[51, 54, 48, 48]⟩ ⟨#[54, 48]⟩ ⟨#[49]⟩
              have bx2 : Below (V7.alloc (.cells #[.string D, .string H, .string M, .string S] 9)).heap.size (V7.alloc (.cells #[.string D, .string H, .string M, .string S] 9)) ((V7.alloc (.cells #[.string D, .string H, .string M, .string S] 9)).alloc (.cells #[.string ⟨#[56, 54, 52, 48, 48]⟩, .string ⟨#[51, 54, 48, 48]⟩, .string ⟨#[54, 48]⟩, .string ⟨#[49]⟩] 9)) := (Below.refl _ _).alloc (Nat.le_refl _) _
              have hl1 := hl1.later bx2
              rw [World.size_alloc] at hl2
              have bW : Below w.heap.size w ((V7.alloc (.cells #[.string D, .string H, .string M, .string S] 9)).alloc (.cells #[.string ⟨#[56, 54, 52, 48, 48]⟩, .string ⟨#[51, 54, 48, 48]⟩, .string ⟨#[54, 48]⟩, .string ⟨#[49]⟩] 9)) := (BV7.out.trans (bx1.mono BV7.out.size)).trans (bx2.mono (Nat.le_trans BV7.out.size bx1.size))
              obtain ⟨W0, hW0⟩ : ∃ W, (V7.alloc (.cells #[.string D, .string H, .string M, .string S] 9)).alloc (.cells #[.string ⟨#[56, 54, 52, 48, 48]⟩, .string ⟨#[51, 54, 48, 48]⟩, .string ⟨#[54, 48]⟩, .string ⟨#[49]⟩] 9) = W := ⟨_, rfl⟩
              rw [hW0] at hl1 hl2 bW
              have HW0 := Lib.hid hW0
              have HL1 := Lib.hid hl1
              have HL2 := Lib.hid hl2
              have BW := Lib.hid bW
              have HVS := Lib.hid (show V7.heap.size = w7.heap.size by rw [← HVV.out]; simp [World.setCell])
              obtain ⟨RR, hRR⟩ : ∃ R, plusesR [48] [D.data.toList, H.data.toList, M.data.toList, S.data.toList] unitsL = R := ⟨_, rfl⟩
              have HR := Lib.hid (show plusesR (⟨#[48]⟩ : ByteArray).data.toList ([D.data.toList, H.data.toList, M.data.toList, S.data.toList].drop 0) (unitsL.drop 0) = RR from hRR)
              have HF2 := Lib.hid (HF.out.trans (congrArg (finS mi) hRR))
              clear hW0 hl1 hl2 bx1 bx2 bW hRR HF
              go_wp2_with fail
              try rw [HVV.out]
              try rw [HW0.out]
              go_loopg [12, 13] 4 (fun g s12 s13 wx => ∃ (i : Nat) (T : ByteArray), s13 = .int .i64 (i : Int) ∧ i + g = 4 ∧ s12 = .string T ∧ Hid (plusesR T.data.toList ([D.data.toList, H.data.toList, M.data.toList, S.data.toList].drop i) (unitsL.drop i) = RR) ∧ Below W0.heap.size W0 wx)
              case atStart => exact ⟨0, ⟨#[48]⟩, rfl, by omega, rfl, HR, Below.refl _ _⟩
              case round =>
                clear HR
                obtain ⟨i, T, rfl, hig, rfl, HK, hbx⟩ := hrel
                by_cases hlt : i < 4
                · obtain ⟨g, rfl⟩ : ∃ g, gk = g + 1 := ⟨gk - 1, by omega⟩
                  have hil : (i : Int) < 4 := by omega
                  obtain ⟨b1, o1, e1, d1⟩ := HL1.out.at i hlt
                  obtain ⟨b2, o2, e2, d2⟩ := HL2.out.at i hlt
                  obtain ⟨rfl, rfl⟩ : b1 = V7.heap.size ∧ o1 = 0 := by simp at e1; exact ⟨e1.1.symm, e1.2.symm⟩
                  obtain ⟨rfl, rfl⟩ : b2 = V7.heap.size + 1 ∧ o2 = 0 := by simp at e2; exact ⟨e2.1.symm, e2.2.symm⟩
                  rw [Nat.zero_add] at d1 d2
                  have hk := HK.out
                  rw [drop_getD [D.data.toList, H.data.toList, M.data.toList, S.data.toList] i hlt, drop_getD unitsL i hlt, pluses_step] at hk
                  obtain ⟨NB, hNB, hNl⟩ := ba_ex ([D.data.toList, H.data.toList, M.data.toList, S.data.toList].getD i [])
                  obtain ⟨UB, hUB, hUl⟩ := ba_ex (unitsL.getD i [])
                  have d1 : W0.cell? ⟨V7.heap.size, i, none⟩ = some (.string NB) := by rw [← hNB]; exact d1
                  have d2 : W0.cell? ⟨V7.heap.size + 1, i, none⟩ = some (.string UB) := by rw [← hUB]; exact d2
                  have x1 := (hbx.cell (p := ⟨V7.heap.size, i, none⟩) (lt_of_cell d1)).trans d1
                  have x2 := (hbx.cell (p := ⟨V7.heap.size + 1, i, none⟩) (lt_of_cell d2)).trans d2
                  rw [← hNl, ← hUl] at hk
                  obtain ⟨T2, z, hp⟩ := res_ex (plusR T.data.toList NB.data.toList UB.data.toList)
                  have cP := fun W => plus6 T NB UB W
                  simp only [resV_on hp] at cP
                  rw [hp] at hk
                  simp only at hk
                  have HK2 := Lib.hid hk
                  have hin : (i : Int).toNat = i := by omega
                  clear e1 e2 d1 d2 hNB hUB hNl hUl hp hk HK
                  rw [HVS.out] at x1 x2
                  by_cases hz : z = 0
                  · subst hz
                    go_wp2_with fail
                    go_region_held3 (fun w' => w'.cell? ⟨w7.heap.size, i, none⟩ = some (.string NB) ∧ w'.cell? ⟨w7.heap.size + 1, i, none⟩ = some (.string UB)) (first | exact ⟨P1, P2⟩ | exact ⟨x1, x2⟩) (first | (go_at_call 35; refine (cP _).mono ?_; rintro e wP ⟨rfl, hbP⟩; have P1 := (hbP.cell (p := ⟨w7.heap.size, i, none⟩) (lt_of_cell x1)).trans x1; have P2 := (hbP.cell (p := ⟨w7.heap.size + 1, i, none⟩) (lt_of_cell x2)).trans x2))
                    all_goals
                      have bP : Below W0.heap.size W0 wP := hbx.drew.trans (hbP.mono hbx.drew.size)
                      clear cP P1 P2 x1 x2 hbP
                      go_wp2_with fail
                      go_roundg g
                      case rel => exact ⟨i + 1, T2, by congr 1, by omega, rfl, Lib.hid (by have := HK2.out; rwa [if_neg (fun q => q rfl)] at this), bP⟩
                      all_goals omega
                  · have hzb : (z == 0) = false := beq_eq_false_iff_ne.2 hz
                    have hzc : (z != 0) = true := by simp [hz]
                    have HV4 := Lib.hid (show refS s.data.toList = ([], 40) by
                      rw [HF2.out]
                      have := HK2.out
                      rw [if_pos hz] at this
                      rw [← this]
                      unfold finS
                      rw [if_pos (by simp)])
                    clear hz
                    go_wp2_with fail
                    go_region_held3 (fun w' => w'.cell? ⟨w7.heap.size, i, none⟩ = some (.string NB) ∧ w'.cell? ⟨w7.heap.size + 1, i, none⟩ = some (.string UB)) (first | exact ⟨P1, P2⟩ | exact ⟨x1, x2⟩) (first | (go_at_call 35; refine (cP _).mono ?_; rintro e wP ⟨rfl, hbP⟩; have P1 := (hbP.cell (p := ⟨w7.heap.size, i, none⟩) (lt_of_cell x1)).trans x1; have P2 := (hbP.cell (p := ⟨w7.heap.size + 1, i, none⟩) (lt_of_cell x2)).trans x2))
                    all_goals
                      have bP : Below W0.heap.size W0 wP := hbx.drew.trans (hbP.mono hbx.drew.size)
                      clear cP P1 P2 x1 x2 hbP
                      go_wp2_with fail
                      go_ret2
                      exact ⟨by rw [HV4.out]; rfl, BW.out.trans (bP.mono BW.out.size)⟩
                · obtain rfl : i = 4 := by omega
                  have hil : ¬ ((4 : Nat) : Int) < 4 := by omega
                  have hk : (T.data.toList, (0 : Int)) = RR := HK.out
                  cases mi with
                  | false =>
                    have HV4 := Lib.hid (show refS s.data.toList = (T.data.toList, 0) by
                      rw [HF2.out, ← hk]
                      unfold finS
                      simp only
                      rw [if_neg (show ¬ (0 : Int) ≠ 0 from fun q => q rfl), if_neg (show ¬ false = true by decide)])
                    clear hk HK
                    go_wp2_with fail
                    go_ret2
                    exact ⟨by rw [HV4.out]; rfl, BW.out.trans (hbx.mono BW.out.size)⟩
                  | true =>
                    have HV4 := Lib.hid (show refS s.data.toList = negR T.data.toList by
                      rw [HF2.out, ← hk]
                      unfold finS
                      simp only
                      rw [if_neg (show ¬ (0 : Int) ≠ 0 from fun q => q rfl), if_pos trivial])
                    obtain ⟨RN, hRN⟩ : ∃ R, negR T.data.toList = R := ⟨_, rfl⟩
                    have cN := fun W => R.neg_of T W
                    rw [hRN] at cN
                    have HV5 := Lib.hid (HV4.out.trans hRN)
                    unfold resV at cN
                    clear hk HK hRN HV4
                    go_wp2_with fail
                    refine (cN _).mono ?_
                    rintro e wN ⟨rfl, hbN⟩
                    go_wp2_with fail
                    go_ret2
                    exact ⟨by rw [HV5.out]; rfl, BW.out.trans ((hbx.trans (hbN.mono hbx.size)).mono BW.out.size)⟩
      | true =>
        cases eS with
        | false =>
          cases okk with
          | false =>
            have HF := Lib.hid (show refS s.data.toList = ([], 5) by rw [HVAL.out, if_neg ((emp_no _).1 H3.out), if_neg (fun q => (emp_no _).1 HS.out q.2.2), if_pos (.inl rfl)])
            go_wp2_with fail
            try rw [HVV.out]
            go_ret2
            exact ⟨by rw [HF.out]; rfl, BV7.out⟩
          | true =>
            cases e7 with
            | false =>
              have HF := Lib.hid (show refS s.data.toList = ([], 5) by rw [HVAL.out, if_neg ((emp_no _).1 H3.out), if_neg (fun q => (emp_no _).1 HS.out q.2.2), if_pos (.inr ((emp_no _).1 H7.out))])
              go_wp2_with fail
              try rw [HVV.out]
              go_ret2
              exact ⟨by rw [HF.out]; rfl, BV7.out⟩
            | true =>
              cases eD with
              | true =>
                have HF := Lib.hid (show refS s.data.toList = finS mi (plusesR [48] [D.data.toList, H.data.toList, M.data.toList, S.data.toList] unitsL) by rw [HVAL.out, if_neg ((emp_no _).1 H3.out), if_neg (fun q => (emp_no _).1 HS.out q.2.2), if_neg (by rintro (q | q); cases q; exact q ((emp_iff _).1 H7.out))])
                have hl1 := strs_lit4 V7 D H M S
                have bx1 : Below V7.heap.size V7 (V7.alloc (.cells #[.string D, .string H, .string M, .string S] 9)) := (Below.refl _ _).alloc (Nat.le_refl _) _
                have hl2 := strs_lit4 (V7.alloc (.cells #[.string D, .string H, .string M, .string S] 9)) ⟨#[56, 54, 52, 48, 48]⟩ ⟨#[51, 54, 48, 48]⟩ ⟨#[54, 48]⟩ ⟨#[49]⟩
                have bx2 : Below (V7.alloc (.cells #[.string D, .string H, .string M, .string S] 9)).heap.size (V7.alloc (.cells #[.string D, .string H, .string M, .string S] 9)) ((V7.alloc (.cells #[.string D, .string H, .string M, .string S] 9)).alloc (.cells #[.string ⟨#[56, 54, 52, 48, 48]⟩, .string ⟨#[51, 54, 48, 48]⟩, .string ⟨#[54, 48]⟩, .string ⟨#[49]⟩] 9)) := (Below.refl _ _).alloc (Nat.le_refl _) _
                have hl1 := hl1.later bx2
                rw [World.size_alloc] at hl2
                have bW : Below w.heap.size w ((V7.alloc (.cells #[.string D, .string H, .string M, .string S] 9)).alloc (.cells #[.string ⟨#[56, 54, 52, 48, 48]⟩, .string ⟨#[51, 54, 48, 48]⟩, .string ⟨#[54, 48]⟩, .string ⟨#[49]⟩] 9)) := (BV7.out.trans (bx1.mono BV7.out.size)).trans (bx2.mono (Nat.le_trans BV7.out.size bx1.size))
                obtain ⟨W0, hW0⟩ : ∃ W, (V7.alloc (.cells #[.string D, .string H, .string M, .string S] 9)).alloc (.cells #[.string ⟨#[56, 54, 52, 48, 48]⟩, .string ⟨#[51, 54, 48, 48]⟩, .string ⟨#[54, 48]⟩, .string ⟨#[49]⟩] 9) = W := ⟨_, rfl⟩
                rw [hW0] at hl1 hl2 bW
                have HW0 := Lib.hid hW0
                have HL1 := Lib.hid hl1
                have HL2 := Lib.hid hl2
                have BW := Lib.hid bW
                have HVS := Lib.hid (show V7.heap.size = w7.heap.size by rw [← HVV.out]; simp [World.setCell])
                obtain ⟨RR, hRR⟩ : ∃ R, plusesR [48] [D.data.toList, H.data.toList, M.data.toList, S.data.toList] unitsL = R := ⟨_, rfl⟩
                have HR := Lib.hid (show plusesR (⟨#[48]⟩ : ByteArray).data.toList ([D.data.toList, H.data.toList, M.data.toList, S.data.toList].drop 0) (unitsL.drop 0) = RR from hRR)
                have HF2 := Lib.hid (HF.out.trans (congrArg (finS mi) hRR))
                clear hW0 hl1 hl2 bx1 bx2 bW hRR HF
                go_wp2_with fail
                try rw [HVV.out]
                try rw [HW0.out]
                go_loopg [12, 13] 4 (fun g s12 s13 wx => ∃ (i : Nat) (T : ByteArray), s13 = .int .i64 (i : Int) ∧ i + g = 4 ∧ s12 = .string T ∧ Hid (plusesR T.data.toList ([D.data.toList, H.data.toList, M.data.toList, S.data.toList].drop i) (unitsL.drop i) = RR) ∧ Below W0.heap.size W0 wx)
                case atStart => exact ⟨0, ⟨#[48]⟩, rfl, by omega, rfl, HR, Below.refl _ _⟩
                case round =>
                  clear HR
                  obtain ⟨i, T, rfl, hig, rfl, HK, hbx⟩ := hrel
                  by_cases hlt : i < 4
                  · obtain ⟨g, rfl⟩ : ∃ g, gk = g + 1 := ⟨gk - 1, by omega⟩
                    have hil : (i : Int) < 4 := by omega
                    obtain ⟨b1, o1, e1, d1⟩ := HL1.out.at i hlt
                    obtain ⟨b2, o2, e2, d2⟩ := HL2.out.at i hlt
                    obtain ⟨rfl, rfl⟩ : b1 = V7.heap.size ∧ o1 = 0 := by simp at e1; exact ⟨e1.1.symm, e1.2.symm⟩
                    obtain ⟨rfl, rfl⟩ : b2 = V7.heap.size + 1 ∧ o2 = 0 := by simp at e2; exact ⟨e2.1.symm, e2.2.symm⟩
                    rw [Nat.zero_add] at d1 d2
                    have hk := HK.out
                    rw [drop_getD [D.data.toList, H.data.toList, M.data.toList, S.data.toList] i hlt, drop_getD unitsL i hlt, pluses_step] at hk
                    obtain ⟨NB, hNB, hNl⟩ := ba_ex ([D.data.toList, H.data.toList, M.data.toList, S.data.toList].getD i [])
                    obtain ⟨UB, hUB, hUl⟩ := ba_ex (unitsL.getD i [])
                    have d1 : W0.cell? ⟨V7.heap.size, i, none⟩ = some (.string NB) := by rw [← hNB]; exact d1
                    have d2 : W0.cell? ⟨V7.heap.size + 1, i, none⟩ = some (.string UB) := by rw [← hUB]; exact d2
                    have x1 := (hbx.cell (p := ⟨V7.heap.size, i, none⟩) (lt_of_cell d1)).trans d1
                    have x2 := (hbx.cell (p := ⟨V7.heap.size + 1, i, none⟩) (lt_of_cell d2)).trans d2
                    rw [← hNl, ← hUl] at hk
                    obtain ⟨T2, z, hp⟩ := res_ex (plusR T.data.toList NB.data.toList UB.data.toList)
                    have cP := fun W => plus6 T NB UB W
                    simp only [resV_on hp] at cP
                    rw [hp] at hk
                    simp only at hk
                    have HK2 := Lib.hid hk
                    have hin : (i : Int).toNat = i := by omega
                    clear e1 e2 d1 d2 hNB hUB hNl hUl hp hk HK
                    rw [HVS.out] at x1 x2
                    by_cases hz : z = 0
                    · subst hz
                      go_wp2_with fail
                      go_region_held3 (fun w' => w'.cell? ⟨w7.heap.size, i, none⟩ = some (.string NB) ∧ w'.cell? ⟨w7.heap.size + 1, i, none⟩ = some (.string UB)) (first | exact ⟨P1, P2⟩ | exact ⟨x1, x2⟩) (first | (go_at_call 35; refine (cP _).mono ?_; rintro e wP ⟨rfl, hbP⟩; have P1 := (hbP.cell (p := ⟨w7.heap.size, i, none⟩) (lt_of_cell x1)).trans x1; have P2 := (hbP.cell (p := ⟨w7.heap.size + 1, i, none⟩) (lt_of_cell x2)).trans x2))
                      all_goals
                        have bP : Below W0.heap.size W0 wP := hbx.drew.trans (hbP.mono hbx.drew.size)
                        clear cP P1 P2 x1 x2 hbP
                        go_wp2_with fail
                        go_roundg g
                        case rel => exact ⟨i + 1, T2, by congr 1, by omega, rfl, Lib.hid (by have := HK2.out; rwa [if_neg (fun q => q rfl)] at this), bP⟩
                        all_goals omega
                    · have hzb : (z == 0) = false := beq_eq_false_iff_ne.2 hz
                      have hzc : (z != 0) = true := by simp [hz]
                      have HV4 := Lib.hid (show refS s.data.toList = ([], 40) by
                        rw [HF2.out]
                        have := HK2.out
                        rw [if_pos hz] at this
                        rw [← this]
                        unfold finS
                        rw [if_pos (by simp)])
                      clear hz
                      go_wp2_with fail
                      go_region_held3 (fun w' => w'.cell? ⟨w7.heap.size, i, none⟩ = some (.string NB) ∧ w'.cell? ⟨w7.heap.size + 1, i, none⟩ = some (.string UB)) (first | exact ⟨P1, P2⟩ | exact ⟨x1, x2⟩) (first | (go_at_call 35; refine (cP _).mono ?_; rintro e wP ⟨rfl, hbP⟩; have P1 := (hbP.cell (p := ⟨w7.heap.size, i, none⟩) (lt_of_cell x1)).trans x1; have P2 := (hbP.cell (p := ⟨w7.heap.size + 1, i, none⟩) (lt_of_cell x2)).trans x2))
                      all_goals
                        have bP : Below W0.heap.size W0 wP := hbx.drew.trans (hbP.mono hbx.drew.size)
                        clear cP P1 P2 x1 x2 hbP
                        go_wp2_with fail
                        go_ret2
                        exact ⟨by rw [HV4.out]; rfl, BW.out.trans (bP.mono BW.out.size)⟩
                  · obtain rfl : i = 4 := by omega
                    have hil : ¬ ((4 : Nat) : Int) < 4 := by omega
                    have hk : (T.data.toList, (0 : Int)) = RR := HK.out
                    cases mi with
                    | false =>
                      have HV4 := Lib.hid (show refS s.data.toList = (T.data.toList, 0) by
                        rw [HF2.out, ← hk]
                        unfold finS
                        simp only
                        rw [if_neg (show ¬ (0 : Int) ≠ 0 from fun q => q rfl), if_neg (show ¬ false = true by decide)])
                      clear hk HK
                      go_wp2_with fail
                      go_ret2
                      exact ⟨by rw [HV4.out]; rfl, BW.out.trans (hbx.mono BW.out.size)⟩
                    | true =>
                      have HV4 := Lib.hid (show refS s.data.toList = negR T.data.toList by
                        rw [HF2.out, ← hk]
                        unfold finS
                        simp only
                        rw [if_neg (show ¬ (0 : Int) ≠ 0 from fun q => q rfl), if_pos trivial])
                      obtain ⟨RN, hRN⟩ : ∃ R, negR T.data.toList = R := ⟨_, rfl⟩
                      have cN := fun W => R.neg_of T W
                      rw [hRN] at cN
                      have HV5 := Lib.hid (HV4.out.trans hRN)
                      unfold resV at cN
                      clear hk HK hRN HV4
                      go_wp2_with fail
                      refine (cN _).mono ?_
                      rintro e wN ⟨rfl, hbN⟩
                      go_wp2_with fail
                      go_ret2
                      exact ⟨by rw [HV5.out]; rfl, BW.out.trans ((hbx.trans (hbN.mono hbx.size)).mono BW.out.size)⟩
              | false =>
                have HF := Lib.hid (show refS s.data.toList = finS mi (plusesR [48] [D.data.toList, H.data.toList, M.data.toList, S.data.toList] unitsL) by rw [HVAL.out, if_neg ((emp_no _).1 H3.out), if_neg (fun q => (emp_no _).1 HS.out q.2.2), if_neg (by rintro (q | q); cases q; exact q ((emp_iff _).1 H7.out))])
                have hl1 := strs_lit4 V7 D H M S
                have bx1 : Below V7.heap.size V7 (V7.alloc (.cells #[.string D, .string H, .string M, .string S] 9)) := (Below.refl _ _).alloc (Nat.le_refl _) _
                have hl2 := strs_lit4 (V7.alloc (.cells #[.string D, .string H, .string M, .string S] 9)) ⟨#[56, 54, 52, 48, 48]⟩ ⟨#[51, 54, 48, 48]⟩ ⟨#[54, 48]⟩ ⟨#[49]⟩
                have bx2 : Below (V7.alloc (.cells #[.string D, .string H, .string M, .string S] 9)).heap.size (V7.alloc (.cells #[.string D, .string H, .string M, .string S] 9)) ((V7.alloc (.cells #[.string D, .string H, .string M, .string S] 9)).alloc (.cells #[.string ⟨#[56, 54, 52, 48, 48]⟩, .string ⟨#[51, 54, 48, 48]⟩, .string ⟨#[54, 48]⟩, .string ⟨#[49]⟩] 9)) := (Below.refl _ _).alloc (Nat.le_refl _) _
                have hl1 := hl1.later bx2
                rw [World.size_alloc] at hl2
                have bW : Below w.heap.size w ((V7.alloc (.cells #[.string D, .string H, .string M, .string S] 9)).alloc (.cells #[.string ⟨#[56, 54, 52, 48, 48]⟩, .string ⟨#[51, 54, 48, 48]⟩, .string ⟨#[54, 48]⟩, .string ⟨#[49]⟩] 9)) := (BV7.out.trans (bx1.mono BV7.out.size)).trans (bx2.mono (Nat.le_trans BV7.out.size bx1.size))
                obtain ⟨W0, hW0⟩ : ∃ W, (V7.alloc (.cells #[.string D, .string H, .string M, .string S] 9)).alloc (.cells #[.string ⟨#[56, 54, 52, 48, 48]⟩, .string ⟨#[51, 54, 48, 48]⟩, .string ⟨#[54, 48]⟩, .string ⟨#[49]⟩] 9) = W := ⟨_, rfl⟩
                rw [hW0] at hl1 hl2 bW
                have HW0 := Lib.hid hW0
                have HL1 := Lib.hid hl1
                have HL2 := Lib.hid hl2
                have BW := Lib.hid bW
                have HVS := Lib.hid (show V7.heap.size = w7.heap.size by rw [← HVV.out]; simp [World.setCell])
                obtain ⟨RR, hRR⟩ : ∃ R, plusesR [48] [D.data.toList, H.data.toList, M.data.toList, S.data.toList] unitsL = R := ⟨_, rfl⟩
                have HR := Lib.hid (show plusesR (⟨#[48]⟩ : ByteArray).data.toList ([D.data.toList, H.data.toList, M.data.toList, S.data.toList].drop 0) (unitsL.drop 0) = RR from hRR)
                have HF2 := Lib.hid (HF.out.trans (congrArg (finS mi) hRR))
                clear hW0 hl1 hl2 bx1 bx2 bW hRR HF
                go_wp2_with fail
                try rw [HVV.out]
                try rw [HW0.out]
                go_loopg [12, 13] 4 (fun g s12 s13 wx => ∃ (i : Nat) (T : ByteArray), s13 = .int .i64 (i : Int) ∧ i + g = 4 ∧ s12 = .string T ∧ Hid (plusesR T.data.toList ([D.data.toList, H.data.toList, M.data.toList, S.data.toList].drop i) (unitsL.drop i) = RR) ∧ Below W0.heap.size W0 wx)
                case atStart => exact ⟨0, ⟨#[48]⟩, rfl, by omega, rfl, HR, Below.refl _ _⟩
                case round =>
                  clear HR
                  obtain ⟨i, T, rfl, hig, rfl, HK, hbx⟩ := hrel
                  by_cases hlt : i < 4
                  · obtain ⟨g, rfl⟩ : ∃ g, gk = g + 1 := ⟨gk - 1, by omega⟩
                    have hil : (i : Int) < 4 := by omega
                    obtain ⟨b1, o1, e1, d1⟩ := HL1.out.at i hlt
                    obtain ⟨b2, o2, e2, d2⟩ := HL2.out.at i hlt
                    obtain ⟨rfl, rfl⟩ : b1 = V7.heap.size ∧ o1 = 0 := by simp at e1; exact ⟨e1.1.symm, e1.2.symm⟩
                    obtain ⟨rfl, rfl⟩ : b2 = V7.heap.size + 1 ∧ o2 = 0 := by simp at e2; exact ⟨e2.1.symm, e2.2.symm⟩
                    rw [Nat.zero_add] at d1 d2
                    have hk := HK.out
                    rw [drop_getD [D.data.toList, H.data.toList, M.data.toList, S.data.toList] i hlt, drop_getD unitsL i hlt, pluses_step] at hk
                    obtain ⟨NB, hNB, hNl⟩ := ba_ex ([D.data.toList, H.data.toList, M.data.toList, S.data.toList].getD i [])
                    obtain ⟨UB, hUB, hUl⟩ := ba_ex (unitsL.getD i [])
                    have d1 : W0.cell? ⟨V7.heap.size, i, none⟩ = some (.string NB) := by rw [← hNB]; exact d1
                    have d2 : W0.cell? ⟨V7.heap.size + 1, i, none⟩ = some (.string UB) := by rw [← hUB]; exact d2
                    have x1 := (hbx.cell (p := ⟨V7.heap.size, i, none⟩) (lt_of_cell d1)).trans d1
                    have x2 := (hbx.cell (p := ⟨V7.heap.size + 1, i, none⟩) (lt_of_cell d2)).trans d2
                    rw [← hNl, ← hUl] at hk
                    obtain ⟨T2, z, hp⟩ := res_ex (plusR T.data.toList NB.data.toList UB.data.toList)
                    have cP := fun W => plus6 T NB UB W
                    simp only [resV_on hp] at cP
                    rw [hp] at hk
                    simp only at hk
                    have HK2 := Lib.hid hk
                    have hin : (i : Int).toNat = i := by omega
                    clear e1 e2 d1 d2 hNB hUB hNl hUl hp hk HK
                    rw [HVS.out] at x1 x2
                    by_cases hz : z = 0
                    · subst hz
                      go_wp2_with fail
                      go_region_held3 (fun w' => w'.cell? ⟨w7.heap.size, i, none⟩ = some (.string NB) ∧ w'.cell? ⟨w7.heap.size + 1, i, none⟩ = some (.string UB)) (first | exact ⟨P1, P2⟩ | exact ⟨x1, x2⟩) (first | (go_at_call 35; refine (cP _).mono ?_; rintro e wP ⟨rfl, hbP⟩; have P1 := (hbP.cell (p := ⟨w7.heap.size, i, none⟩) (lt_of_cell x1)).trans x1; have P2 := (hbP.cell (p := ⟨w7.heap.size + 1, i, none⟩) (lt_of_cell x2)).trans x2))
                      all_goals
                        have bP : Below W0.heap.size W0 wP := hbx.drew.trans (hbP.mono hbx.drew.size)
                        clear cP P1 P2 x1 x2 hbP
                        go_wp2_with fail
                        go_roundg g
                        case rel => exact ⟨i + 1, T2, by congr 1, by omega, rfl, Lib.hid (by have := HK2.out; rwa [if_neg (fun q => q rfl)] at this), bP⟩
                        all_goals omega
                    · have hzb : (z == 0) = false := beq_eq_false_iff_ne.2 hz
                      have hzc : (z != 0) = true := by simp [hz]
                      have HV4 := Lib.hid (show refS s.data.toList = ([], 40) by
                        rw [HF2.out]
                        have := HK2.out
                        rw [if_pos hz] at this
                        rw [← this]
                        unfold finS
                        rw [if_pos (by simp)])
                      clear hz
                      go_wp2_with fail
                      go_region_held3 (fun w' => w'.cell? ⟨w7.heap.size, i, none⟩ = some (.string NB) ∧ w'.cell? ⟨w7.heap.size + 1, i, none⟩ = some (.string UB)) (first | exact ⟨P1, P2⟩ | exact ⟨x1, x2⟩) (first | (go_at_call 35; refine (cP _).mono ?_; rintro e wP ⟨rfl, hbP⟩; have P1 := (hbP.cell (p := ⟨w7.heap.size, i, none⟩) (lt_of_cell x1)).trans x1; have P2 := (hbP.cell (p := ⟨w7.heap.size + 1, i, none⟩) (lt_of_cell x2)).trans x2))
                      all_goals
                        have bP : Below W0.heap.size W0 wP := hbx.drew.trans (hbP.mono hbx.drew.size)
                        clear cP P1 P2 x1 x2 hbP
                        go_wp2_with fail
                        go_ret2
                        exact ⟨by rw [HV4.out]; rfl, BW.out.trans (bP.mono BW.out.size)⟩
                  · obtain rfl : i = 4 := by omega
                    have hil : ¬ ((4 : Nat) : Int) < 4 := by omega
                    have hk : (T.data.toList, (0 : Int)) = RR := HK.out
                    cases mi with
                    | false =>
                      have HV4 := Lib.hid (show refS s.data.toList = (T.data.toList, 0) by
                        rw [HF2.out, ← hk]
                        unfold finS
                        simp only
                        rw [if_neg (show ¬ (0 : Int) ≠ 0 from fun q => q rfl), if_neg (show ¬ false = true by decide)])
                      clear hk HK
                      go_wp2_with fail
                      go_ret2
                      exact ⟨by rw [HV4.out]; rfl, BW.out.trans (hbx.mono BW.out.size)⟩
                    | true =>
                      have HV4 := Lib.hid (show refS s.data.toList = negR T.data.toList by
                        rw [HF2.out, ← hk]
                        unfold finS
                        simp only
                        rw [if_neg (show ¬ (0 : Int) ≠ 0 from fun q => q rfl), if_pos trivial])
                      obtain ⟨RN, hRN⟩ : ∃ R, negR T.data.toList = R := ⟨_, rfl⟩
                      have cN := fun W => R.neg_of T W
                      rw [hRN] at cN
                      have HV5 := Lib.hid (HV4.out.trans hRN)
                      unfold resV at cN
                      clear hk HK hRN HV4
                      go_wp2_with fail
                      refine (cN _).mono ?_
                      rintro e wN ⟨rfl, hbN⟩
                      go_wp2_with fail
                      go_ret2
                      exact ⟨by rw [HV5.out]; rfl, BW.out.trans ((hbx.trans (hbN.mono hbx.size)).mono BW.out.size)⟩
        | true =>
          have HF := Lib.hid (show refS s.data.toList = ([], 5) by rw [HVAL.out, if_neg ((emp_no _).1 H3.out), if_pos ⟨(emp_iff _).1 HH.out, (emp_iff _).1 HM.out, (emp_iff _).1 HS.out⟩])
          go_wp2_with fail
          try rw [HVV.out]
          go_ret2
          exact ⟨by rw [HF.out]; rfl, BV7.out⟩
end Go.Proofs.YtdfgifnccghlmabGreatDoor

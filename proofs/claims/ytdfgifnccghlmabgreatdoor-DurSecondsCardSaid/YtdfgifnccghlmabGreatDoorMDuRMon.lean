/- Durations: a reader in a variable; the contract of the specification's ParseMonths. -/
import Derived.Test.YtdfgifnccghlmabGreatDoorMDuF
namespace Go.Proofs.YtdfgifnccghlmabGreatDoor
open Go.RowKit Go.Lib

/-- A reader in its variable's two cells. -/
structure RdAt (W : World) (B : Nat) (s : ByteArray) (ok : Bool) : Prop where
  c0 : W.cell? ⟨B, 0, none⟩ = some (.string s)
  c1 : W.cell? ⟨B, 1, none⟩ = some (.bool ok)
  f0 : W.frozen? ⟨B, 0, none⟩ = false
  f1 : W.frozen? ⟨B, 1, none⟩ = false
  lt : B < W.heap.size
theorem RdAt.other {W W' : World} {B : Nat} {s : ByteArray} {ok : Bool} (h : RdAt W B s ok) (hk : W'.heap[B]? = W.heap[B]?) (hs : W.heap.size ≤ W'.heap.size) : RdAt W' B s ok :=
  ⟨(World.cell?_of_block (a := ⟨B, 0, none⟩) hk).trans h.c0, (World.cell?_of_block (a := ⟨B, 1, none⟩) hk).trans h.c1, (World.frozen?_of_block (a := ⟨B, 0, none⟩) hk).trans h.f0, (World.frozen?_of_block (a := ⟨B, 1, none⟩) hk).trans h.f1, Nat.lt_of_lt_of_le h.lt hs⟩
theorem RdAt.below {W W' : World} {B : Nat} {s : ByteArray} {ok : Bool} (h : RdAt W B s ok) (hb : Below W.heap.size W W') : RdAt W' B s ok := h.other (hb.block B h.lt) hb.size
theorem RdAt.new (w : World) (s : ByteArray) (ok : Bool) : RdAt (w.alloc (.cells #[.string s, .bool ok] 51)) w.heap.size s ok :=
  ⟨by simp [go_sem], by simp [go_sem], by simp [go_sem], by simp [go_sem], by simp⟩
theorem RdAt.set {W : World} {B : Nat} {s : ByteArray} {ok : Bool} (h : RdAt W B s ok) (s' : ByteArray) (ok' : Bool) :
    ∃ W5, (W.setCell ⟨B, 0, none⟩ (.string s')).setCell ⟨B, 1, none⟩ (.bool ok') = W5 ∧ RdAt W5 B s' ok' ∧ (∀ {B0 : Nat} {w0 : World}, Below B0 w0 W → B0 ≤ B → Below B0 w0 W5) := by
  have v1' : (W.setCell ⟨B, 0, none⟩ (.string s')).cell? ⟨B, 1, none⟩ = some (.bool ok) := (World.cell?_setCell_other _ _ _ _ (by simp)).trans h.c1
  refine ⟨_, rfl, ⟨(World.cell?_setCell_other _ _ _ _ (by simp)).trans (World.cell?_setCell_same _ _ _ h.c0), World.cell?_setCell_same _ _ _ v1', by simpa using h.f0, by simpa using h.f1, by simpa [World.setCell] using h.lt⟩, fun hb hB => ?_⟩
  exact (hb.setCell (p := ⟨B, 0, none⟩) hB _).setCell (p := ⟨B, 1, none⟩) hB _
theorem emp_is (s : ByteArray) (b : Bool) (h : s.data.toList.isEmpty = b) : s.toList.isEmpty = b ∧ (!s.toList.isEmpty) = !b := by
  rw [ByteArray.toList_eq, h]; exact ⟨rfl, rfl⟩
theorem emp_iff (s : ByteArray) : s.data.toList.isEmpty = true ↔ s.data.toList = [] := List.isEmpty_iff
theorem emp_no (s : ByteArray) : s.data.toList.isEmpty = false ↔ s.data.toList ≠ [] := by
  rw [← Bool.not_eq_true, emp_iff]
theorem part_ex6 (c : UInt8) (frac : Bool) (s : ByteArray) : ∃ R N : ByteArray, partR c frac s.data.toList = (R.data.toList, N.data.toList) := ⟨⟨(partR c frac s.data.toList).1.toArray⟩, ⟨(partR c frac s.data.toList).2.toArray⟩, rfl⟩
theorem num_size {c : UInt8} {frac : Bool} (hc : isDg c = false) (h46 : c ≠ 46) (hf : decide (c = 83) = frac) {s R N : ByteArray} (hs : s.size ≤ 200) (h : partR c frac s.data.toList = (R.data.toList, N.data.toList)) : R.size ≤ 200 ∧ N.size ≤ 200 := by
  have k := partR_iff hc h46 s.data.toList
  rw [hf, h] at k
  rw [ba_size] at hs
  rcases k with ⟨k1, _, k3⟩ | ⟨_, _, _, k4, k5⟩
  · simp only at k1 k3
    exact ⟨by rw [ba_size, k3]; exact hs, by rw [ba_size, k1]; simp⟩
  · simp only at k4 k5
    exact ⟨by rw [ba_size]; omega, by rw [ba_size]; omega⟩
set_option maxRecDepth 100000 in
set_option maxHeartbeats 8000000 in
theorem parseMonths6 (s : ByteArray) (w : World) :
    Calls Tryz.prog 12 #[.string s] w fun e w' => e = .returned (monV (refM s.data.toList)) ∧ Below w.heap.size w w' := by
  by_cases hL : 200 < s.size
  · have HV := Lib.hid (show refM s.data.toList = (0, 2) by unfold refM; simp only; rw [if_pos (by rw [← ba_size]; exact hL)])
    have hLz : (200 : Int) < (s.size : Int) := by omega
    rw [HV.out]
    go_enter Tryz.func12, Tryz.ntmps12
    go_wp2_with fail
    go_ret2
    exact ⟨rfl, Below.refl _ _⟩
  have hLz : ¬ (200 : Int) < (s.size : Int) := by omega
  have hsl := ba_size s
  obtain ⟨mi, hmi⟩ : ∃ b, Lib.hasPrefix s.data.toList [45] = b := ⟨_, rfl⟩
  obtain ⟨R1, hR1⟩ : ∃ R : ByteArray, Lib.trimPrefix s.data.toList [45] = R.data.toList := ⟨⟨(Lib.trimPrefix s.data.toList [45]).toArray⟩, rfl⟩
  have z1 : R1.size ≤ 200 := by have := pre_len s.data.toList [45]; rw [ba_size, ← hR1]; omega
  obtain ⟨ok1, hok1⟩ : ∃ b, Lib.hasPrefix R1.data.toList [80] = b := ⟨_, rfl⟩
  obtain ⟨R2, hR2⟩ : ∃ R : ByteArray, Lib.trimPrefix R1.data.toList [80] = R.data.toList := ⟨⟨(Lib.trimPrefix R1.data.toList [80]).toArray⟩, rfl⟩
  have z2 : R2.size ≤ 200 := by have := pre_len R1.data.toList [80]; rw [ba_size, ← hR2]; rw [ba_size] at z1; omega
  have k1 := fun W => sign6 s R1 true mi (by omega) hmi hR1 W
  have k2 := fun W => has6 R1 R2 80 80 (by decide) true ok1 z1 hok1 hR2 W
  simp only [Bool.true_and] at k2
  obtain ⟨R3, Y, hY⟩ := part_ex6 89 false R2
  have z3 := num_size (c := 89) (by decide) (by decide) (by decide) z2 hY
  have nY := numM (c := 89) (by decide) (by decide) (by decide) R2.data.toList (by rw [← ba_size]; exact z2)
  rw [hY] at nY
  obtain ⟨R4, M, hM⟩ := part_ex6 77 false R3
  have z4 := num_size (c := 77) (by decide) (by decide) (by decide) z3.1 hM
  have nM := numM (c := 77) (by decide) (by decide) (by decide) R3.data.toList (by rw [← ba_size]; exact z3.1)
  rw [hM] at nM
  have k3 := fun W => part6 R2 R3 Y 89 89 (by decide) false ok1 z2 hY W
  have k4 := fun W => part6 R3 R4 M 77 77 (by decide) false ok1 z3.1 hM W
  have dY : Dgs Y.data.toList := by
    rcases nY.1 with k | k
    · simp only at k; rw [k]; exact Dgs.nil
    · exact k.1
  have dM : Dgs M.data.toList := by
    rcases nM.1 with k | k
    · simp only at k; rw [k]; exact Dgs.nil
    · exact k.1
  obtain ⟨nY1, hnY⟩ : ∃ n, smallF 0 Y.data.toList = n := ⟨_, rfl⟩
  obtain ⟨nM1, hnM⟩ : ∃ n, smallF 0 M.data.toList = n := ⟨_, rfl⟩
  have bY : nY1 ≤ 10000000000009 := by rw [← hnY]; exact (smallF_is _ 0 dY (by omega)).2.2
  have bM : nM1 ≤ 10000000000009 := by rw [← hnM]; exact (smallF_is _ 0 dM (by omega)).2.2
  have k5 := fun W => small6 Y nY1 z3.2 dY hnY W
  have k6 := fun W => small6 M nM1 z4.2 dM hnM W
  have hv : refM s.data.toList = if ok1 = false ∨ R4.data.toList ≠ [] ∨ (Y.data.toList = [] ∧ M.data.toList = []) then (0, 5) else if 9999999999 < nY1 * 12 + nM1 then (0, 6) else (if mi = true then -((nY1 * 12 + nM1 : Nat) : Int) else ((nY1 * 12 + nM1 : Nat) : Int), 0) := by
    unfold refM
    simp only
    rw [if_neg (by omega), hR1, hok1, hR2, hY]
    simp only
    rw [hM]
    simp only
    rw [hnY, hnM, hmi]
  obtain ⟨e4, he4⟩ : ∃ b, R4.data.toList.isEmpty = b := ⟨_, rfl⟩
  obtain ⟨eY, heY⟩ : ∃ b, Y.data.toList.isEmpty = b := ⟨_, rfl⟩
  obtain ⟨eM, heM⟩ : ∃ b, M.data.toList.isEmpty = b := ⟨_, rfl⟩
  obtain ⟨t4, u4⟩ := emp_is R4 e4 he4
  obtain ⟨tY, uY⟩ := emp_is Y eY heY
  obtain ⟨tM, uM⟩ := emp_is M eM heM
  have HVAL := Lib.hid hv
  have HE := Lib.hid (And.intro he4 (And.intro heY heM))
  clear hmi hR1 hok1 hR2 hY hM nY nM dY dM hnY hnM z1 z2 z3 z4 hsl hv he4 heY heM
  unfold rdV at k1 k2 k3 k4
  go_enter Tryz.func12, Tryz.ntmps12
  go_wp2_with fail
  refine (k1 w).mono ?_
  rintro e w1 ⟨rfl, hb1⟩
  have rv1 := RdAt.new w1 R1 true
  have hB : w.heap.size ≤ w1.heap.size := hb1.size
  have bv1 : Below w.heap.size w (w1.alloc (.cells #[.string R1, .bool true] 51)) := hb1.alloc hb1.size _
  obtain ⟨V1, hV1⟩ : ∃ V, w1.alloc (.cells #[.string R1, .bool true] 51) = V := ⟨_, rfl⟩
  obtain ⟨B, hBe⟩ : ∃ B, w1.heap.size = B := ⟨_, rfl⟩
  rw [hV1, hBe] at rv1
  rw [hV1] at bv1
  rw [hBe] at hB
  have HV1 := Lib.hid hV1
  have HBE := Lib.hid hBe
  obtain ⟨c0, c1, f0, f1, lt0⟩ := id rv1
  clear hb1 hV1 hBe
  go_wp2_with fail
  try rw [HV1.out]
  try rw [HBE.out]
  clear c0 c1 f0 f1 lt0
  refine (k2 V1).mono ?_
  rintro e w2 ⟨rfl, hb2⟩
  have rd2 := rv1.below hb2
  have bw2 := bv1.trans (hb2.mono bv1.size)
  obtain ⟨V2, hV2, rv2, keep2⟩ := rd2.set R2 ok1
  have bv2 := keep2 bw2 hB
  obtain ⟨c0, c1, f0, f1, lt0⟩ := id rd2
  have RV := Lib.hid rv2
  have HVV := Lib.hid hV2
  clear rv2 keep2 hV2 hb2 rd2
  go_wp2_with fail
  try rw [HVV.out]
  clear c0 c1 f0 f1 lt0 HVV
  have rv2 := RV.out
  clear RV
  refine (k3 V2).mono ?_
  rintro e w3 ⟨rfl, hb3⟩
  have rd3 := rv2.below hb3
  have bw3 := bv2.trans (hb3.mono bv2.size)
  obtain ⟨V3, hV3, rv3, keep3⟩ := rd3.set R3 ok1
  have bv3 := keep3 bw3 hB
  obtain ⟨c0, c1, f0, f1, lt0⟩ := id rd3
  have RV := Lib.hid rv3
  have HVV := Lib.hid hV3
  clear rv3 keep3 hV3 hb3 rd3
  go_wp2_with fail
  try rw [HVV.out]
  clear c0 c1 f0 f1 lt0 HVV
  have rv3 := RV.out
  clear RV
  refine (k4 V3).mono ?_
  rintro e w4 ⟨rfl, hb4⟩
  have rd4 := rv3.below hb4
  have bw4 := bv3.trans (hb4.mono bv3.size)
  obtain ⟨V4, hV4, rv4, keep4⟩ := rd4.set R4 ok1
  have bv4 := keep4 bw4 hB
  obtain ⟨c0, c1, f0, f1, lt0⟩ := id rd4
  have RV := Lib.hid rv4
  have HVV := Lib.hid hV4
  clear rv4 keep4 hV4 hb4 rd4
  have BV := Lib.hid bv4
  clear bv4 bw4 rv2 rv3 rv1 bv1 bv2 bv3 bw2 bw3 k1 k2 k3 k4
  cases ok1 with
  | false =>
    have HF := Lib.hid (show refM s.data.toList = (0, 5) by rw [HVAL.out, if_pos (.inl rfl)])
    go_wp2_with fail
    try rw [HVV.out]
    go_ret2
    exact ⟨by rw [HF.out]; rfl, BV.out⟩
  | true =>
    cases e4 with
    | false =>
      have HF := Lib.hid (show refM s.data.toList = (0, 5) by rw [HVAL.out, if_pos (.inr (.inl ((emp_no _).1 HE.out.1)))])
      go_wp2_with fail
      try rw [HVV.out]
      go_ret2
      exact ⟨by rw [HF.out]; rfl, BV.out⟩
    | true =>
      cases eY with
      | false =>
        by_cases h9 : 9999999999 < nY1 * 12 + nM1
        · have h9z : (9999999999 : Int) < (nY1 : Int) * 12 + (nM1 : Int) := by omega
          have HF := Lib.hid (show refM s.data.toList = (0, 6) by rw [HVAL.out, if_neg (by rintro (q | q | ⟨q1, q2⟩); cases q; exact q ((emp_iff _).1 HE.out.1); exact (emp_no _).1 HE.out.2.1 q1), if_pos h9])
          go_wp2_with fail
          try rw [HVV.out]
          refine (k5 _).mono ?_
          rintro e wA ⟨rfl, rfl⟩
          go_wp2_with fail
          refine (k6 _).mono ?_
          rintro e wB ⟨rfl, rfl⟩
          go_wp2_with fail
          go_ret2
          exact ⟨by rw [HF.out]; rfl, BV.out⟩
        · have h9z : ¬ (9999999999 : Int) < (nY1 : Int) * 12 + (nM1 : Int) := by omega
          cases mi with
          | true =>
            have HF := Lib.hid (show refM s.data.toList = (-((nY1 : Int) * 12 + (nM1 : Int)), 0) by rw [HVAL.out, if_neg (by rintro (q | q | ⟨q1, q2⟩); cases q; exact q ((emp_iff _).1 HE.out.1); exact (emp_no _).1 HE.out.2.1 q1), if_neg h9, if_pos rfl]; simp)
            go_wp2_with fail
            try rw [HVV.out]
            refine (k5 _).mono ?_
            rintro e wA ⟨rfl, rfl⟩
            go_wp2_with fail
            refine (k6 _).mono ?_
            rintro e wB ⟨rfl, rfl⟩
            go_wp2_with fail
            go_ret2
            exact ⟨by rw [HF.out]; rfl, BV.out⟩
          | false =>
            have HF := Lib.hid (show refM s.data.toList = ((nY1 : Int) * 12 + (nM1 : Int), 0) by rw [HVAL.out, if_neg (by rintro (q | q | ⟨q1, q2⟩); cases q; exact q ((emp_iff _).1 HE.out.1); exact (emp_no _).1 HE.out.2.1 q1), if_neg h9, if_neg (show ¬ false = true by decide)]; simp)
            go_wp2_with fail
            try rw [HVV.out]
            refine (k5 _).mono ?_
            rintro e wA ⟨rfl, rfl⟩
            go_wp2_with fail
            refine (k6 _).mono ?_
            rintro e wB ⟨rfl, rfl⟩
            go_wp2_with fail
            go_ret2
            exact ⟨by rw [HF.out]; rfl, BV.out⟩
      | true =>
        cases eM with
        | true =>
          have HF := Lib.hid (show refM s.data.toList = (0, 5) by rw [HVAL.out, if_pos (.inr (.inr ⟨(emp_iff _).1 HE.out.2.1, (emp_iff _).1 HE.out.2.2⟩))])
          go_wp2_with fail
          try rw [HVV.out]
          go_ret2
          exact ⟨by rw [HF.out]; rfl, BV.out⟩
        | false =>
          by_cases h9 : 9999999999 < nY1 * 12 + nM1
          · have h9z : (9999999999 : Int) < (nY1 : Int) * 12 + (nM1 : Int) := by omega
            have HF := Lib.hid (show refM s.data.toList = (0, 6) by rw [HVAL.out, if_neg (by rintro (q | q | ⟨q1, q2⟩); cases q; exact q ((emp_iff _).1 HE.out.1); exact (emp_no _).1 HE.out.2.2 q2), if_pos h9])
            go_wp2_with fail
            try rw [HVV.out]
            refine (k5 _).mono ?_
            rintro e wA ⟨rfl, rfl⟩
            go_wp2_with fail
            refine (k6 _).mono ?_
            rintro e wB ⟨rfl, rfl⟩
            go_wp2_with fail
            go_ret2
            exact ⟨by rw [HF.out]; rfl, BV.out⟩
          · have h9z : ¬ (9999999999 : Int) < (nY1 : Int) * 12 + (nM1 : Int) := by omega
            cases mi with
            | true =>
              have HF := Lib.hid (show refM s.data.toList = (-((nY1 : Int) * 12 + (nM1 : Int)), 0) by rw [HVAL.out, if_neg (by rintro (q | q | ⟨q1, q2⟩); cases q; exact q ((emp_iff _).1 HE.out.1); exact (emp_no _).1 HE.out.2.2 q2), if_neg h9, if_pos rfl]; simp)
              go_wp2_with fail
              try rw [HVV.out]
              refine (k5 _).mono ?_
              rintro e wA ⟨rfl, rfl⟩
              go_wp2_with fail
              refine (k6 _).mono ?_
              rintro e wB ⟨rfl, rfl⟩
              go_wp2_with fail
              go_ret2
              exact ⟨by rw [HF.out]; rfl, BV.out⟩
            | false =>
              have HF := Lib.hid (show refM s.data.toList = ((nY1 : Int) * 12 + (nM1 : Int), 0) by rw [HVAL.out, if_neg (by rintro (q | q | ⟨q1, q2⟩); cases q; exact q ((emp_iff _).1 HE.out.1); exact (emp_no _).1 HE.out.2.2 q2), if_neg h9, if_neg (show ¬ false = true by decide)]; simp)
              go_wp2_with fail
              try rw [HVV.out]
              refine (k5 _).mono ?_
              rintro e wA ⟨rfl, rfl⟩
              go_wp2_with fail
              refine (k6 _).mono ?_
              rintro e wB ⟨rfl, rfl⟩
              go_wp2_with fail
              go_ret2
              exact ⟨by rw [HF.out]; rfl, BV.out⟩
end Go.Proofs.YtdfgifnccghlmabGreatDoor

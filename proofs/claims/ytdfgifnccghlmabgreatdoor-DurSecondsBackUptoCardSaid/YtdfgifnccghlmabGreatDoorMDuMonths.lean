/- Durations: the contract of ParseMonths. -/
import Derived.Test.YtdfgifnccghlmabGreatDoorMDuReading
import Derived.Test.YtdfgifnccghlmabGreatDoorMShelfDv
import Derived.Deep.RegionHeld3
namespace Go.Proofs.YtdfgifnccghlmabGreatDoor
open Go.RowKit Go.Lib

/-- What package dur leans on in memory: what num does, and the variables of two errors. -/
structure GrD (w : World) : Prop where
  num : GrN w
  range : ∃ ev, w.cell? ⟨1, 0, none⟩ = some ev ∧ (ev = .nilIface ∨ ∃ te pe, ev = .iface te pe)
  form : ∃ ev, w.cell? ⟨0, 0, none⟩ = some ev ∧ (ev = .nilIface ∨ ∃ te pe, ev = .iface te pe)
theorem GrD.later {w w' : World} (h : GrD w) (hb : Below w.heap.size w w') : GrD w' := by
  obtain ⟨e1, h1, k1⟩ := h.range
  obtain ⟨e2, h2, k2⟩ := h.form
  exact ⟨h.num.later hb, ⟨e1, (hb.cell (lt_of_cell h1)).trans h1, k1⟩, ⟨e2, (hb.cell (lt_of_cell h2)).trans h2, k2⟩⟩
theorem atoi_bad (s : ByteArray) (hs : s.size ≤ 1000) (hn : ∀ v, Lib.atoiAll s.data.toList ≠ .ok v) (w : World) (hg : GrD w) :
    Calls Tryz.prog 28 #[.string s] w fun e w' => ∃ (x : Int) (t : TypeId) (p : Value), e = .returned (.tuple #[.int .i64 x, .iface t p]) ∧ Below w.heap.size w w' := by
  cases h : Lib.atoiAll s.data.toList with
  | ok v => exact absurd h (hn v)
  | range =>
    obtain ⟨ev, h1, k1⟩ := hg.range
    exact (Tryz.strconv_Atoi_range s (by omega) h ev w h1 k1).mono fun e w' ⟨N, h2, _, _, h3⟩ => ⟨_, _, _, h2, h3⟩
  | _ =>
    obtain ⟨ev, h1, k1⟩ := hg.form
    exact (Tryz.strconv_Atoi_syntax s (by omega) h ev w h1 k1).mono fun e w' ⟨N, h2, _, _, h3⟩ => ⟨_, _, _, h2, h3⟩
theorem atoi_good (s : ByteArray) (hs : s.size ≤ 1000) (v : Int) (h : Lib.atoiAll s.data.toList = .ok v) (w : World) :
    Calls Tryz.prog 28 #[.string s] w fun e w' => e = .returned (.tuple #[.int .i64 v, .nilIface]) ∧ Below w.heap.size w w' :=
  (Tryz.strconv_Atoi_ok s (by omega) v h w).mono fun e w' ⟨h1, h2⟩ => ⟨h1, by
    rcases h2 with rfl | ⟨t, rfl⟩
    · exact Below.refl _ _
    · exact Lib.bytesWorld_below _ _ _⟩
/-- What ParseMonths gives. -/
def parseM (s : List UInt8) : Int × Int :=
  let D := secL 80 [89, 77] (Lib.trimPrefix s [45])
  let t := sumR (Lib.hasPrefix s [45]) [48] D.2.2.1 [[49, 50], [49]]
  if 200 < s.length then (0, 2)
  else if D.2.1 = 0 ∨ D.2.2.2 ≠ [] then (0, 5)
  else if t.2 ≠ 0 then (0, 6)
  else match Lib.atoiAll t.1 with
    | .ok v => if v < -9999999999 ∨ 9999999999 < v then (0, 6) else (v, 0)
    | _ => (0, 6)
theorem sumR_canonR (below : Bool) : ∀ (us ns : List (List UInt8)) (t : List UInt8), CanonR (t, 0) → CanonR (sumR below t ns us)
  | [], ns, t, h => by
    rw [sumR_end]
    split
    · exact negR_canonR t
    · exact h
  | u :: us, [], t, h => by
    show CanonR (if below = true then negR t else (t, 0))
    split
    · exact negR_canonR t
    · exact h
  | u :: us, n :: ns, t, h => by
    rw [sumR_step]
    split
    · exact errL_canonR _ (by assumption)
    · split
      · exact errL_canonR _ (by assumption)
      · split
        · exact errL_canonR _ (by assumption)
        · rename_i h3
          refine sumR_canonR below us ns _ ?_
          have := addR_canonR t (mulR (readR n).1 u).1
          have e : addR t (mulR (readR n).1 u).1 = ((addR t (mulR (readR n).1 u).1).1, 0) := by
            rw [← Classical.not_not.1 h3]
          rw [e] at this
          exact this
def monV (r : Int × Int) : Value := .tuple #[.int .i64 r.1, .int .i64 r.2]
set_option maxRecDepth 100000 in
set_option maxHeartbeats 8000000 in
theorem parseMonths_du (s : ByteArray) (w : World) (hg : GrD w) :
    Calls Tryz.prog 11 #[.string s] w fun e w' => e = .returned (monV (parseM s.data.toList)) ∧ Below w.heap.size w w' := by
  have hsl := ba_size s
  by_cases hL : 200 < s.size
  · have HV := Lib.hid (show parseM s.data.toList = (0, 2) by unfold parseM; simp only; rw [if_pos (by omega)])
    have hLz : (200 : Int) < (s.size : Int) := by omega
    rw [HV.out]
    clear hg hsl
    go_enter Tryz.func11, Tryz.ntmps11
    go_wp2_with fail
    go_ret2
    exact ⟨rfl, Below.refl _ _⟩
  have hLz : ¬ (200 : Int) < (s.size : Int) := by omega
  have hpl : (Lib.trimPrefix s.data.toList [45]).length ≤ s.data.toList.length := by unfold Lib.trimPrefix; split <;> simp
  have cP := fun W => Tryz.strings_CutPrefix s ⟨#[45]⟩ W
  rw [show (⟨#[45]⟩ : ByteArray).data.toList = [45] from rfl] at cP
  obtain ⟨F, hF, hFl⟩ := ba_ex (Lib.trimPrefix s.data.toList [45])
  obtain ⟨bl, hbl⟩ : ∃ b, Lib.hasPrefix s.data.toList [45] = b := ⟨_, rfl⟩
  rw [hF, hbl] at cP
  have hFs : F.size ≤ 1000 := by rw [ba_size, hFl]; omega
  have hv : parseM s.data.toList = if (secL 80 [89, 77] F.data.toList).2.1 = 0 ∨ (secL 80 [89, 77] F.data.toList).2.2.2 ≠ [] then ((0, 5) : Int × Int)
      else if (sumR bl [48] (secL 80 [89, 77] F.data.toList).2.2.1 [[49, 50], [49]]).2 ≠ 0 then (0, 6)
      else match Lib.atoiAll (sumR bl [48] (secL 80 [89, 77] F.data.toList).2.2.1 [[49, 50], [49]]).1 with
        | .ok v => if v < -9999999999 ∨ 9999999999 < v then (0, 6) else (v, 0)
        | _ => (0, 6) := by
    unfold parseM
    simp only
    rw [if_neg (by omega), hFl, hbl]
  obtain ⟨m, hm⟩ := hg.num.2
  have hF2 : F.data.toList.length ≤ 200 := by rw [hFl]; omega
  have HG := Lib.hid hg
  have hml := lt_of_cell hm
  have bx1 : BoxAt (w.alloc (.cells #[.string F] 9)) w.heap.size F := ⟨by simp [go_sem], by simp [go_sem], by simp⟩
  have hb1 : Below w.heap.size w (w.alloc (.cells #[.string F] 9)) := (Below.refl _ _).alloc (Nat.le_refl _) _
  have hl1 := strs_lit (w.alloc (.cells #[.string F] 9)) [[89], [77]]
  have hb2 : Below w.heap.size w ((w.alloc (.cells #[.string F] 9)).alloc (.cells #[.string ⟨#[89]⟩, .string ⟨#[77]⟩] 9)) := hb1.alloc hb1.size _
  have bx2 : BoxAt ((w.alloc (.cells #[.string F] 9)).alloc (.cells #[.string ⟨#[89]⟩, .string ⟨#[77]⟩] 9)) w.heap.size F := bx1.other (((Below.refl _ _).alloc (Nat.le_refl _) _ : Below (w.alloc (.cells #[.string F] 9)).heap.size _ _).block _ bx1.lt) (by simp)
  obtain ⟨W2, hW2⟩ : ∃ W2, (w.alloc (.cells #[.string F] 9)).alloc (.cells #[.string ⟨#[89]⟩, .string ⟨#[77]⟩] 9) = W2 := ⟨_, rfl⟩
  have hl1 : Strs W2 (.slice (some ⟨w.heap.size + 1, 0, none⟩) 2 2) [[89], [77]] := by
    rw [World.size_alloc] at hl1
    rw [← hW2]
    exact hl1
  rw [hW2] at hb2 bx2
  have hm2 := (hb2.cell (p := ⟨3, 0, none⟩) hml).trans hm
  have c1 := read_du 80 ⟨#[80]⟩ rfl [89, 77] (by decide) _ F hFs w.heap.size W2 m hm2 (by show 3 ≠ w.heap.size; have : 3 < w.heap.size := hml; omega) hl1 (by intro h; have h : some (w.heap.size + 1) = some w.heap.size := h; simp at h) bx2
  have HW2 := Lib.hid hW2
  have HB2 := Lib.hid hb2
  obtain ⟨D, hD⟩ : ∃ d, secL 80 [89, 77] F.data.toList = d := ⟨_, rfl⟩
  have dl := sec_len 80 [89, 77] F.data.toList hF2
  rw [hD] at c1 hv dl
  have HV := Lib.hid hv
  clear hF hFl hbl hpl hsl hv hD hm hml hb1 hl1 bx1 bx2 hW2 hm2 hb2 hg
  go_enter Tryz.func11, Tryz.ntmps11
  go_wp2_with fail
  refine (cP w).mono ?_
  rintro e w1 ⟨rfl, hw1⟩
  rw [hw1]
  clear hw1 w1
  go_wp2_with fail
  refine (reading_du F w).mono ?_
  rintro e w1 ⟨rfl, hw1⟩
  rw [hw1]
  clear hw1 w1
  go_wp2_with fail
  try rw [HW2.out]
  refine c1.mono ?_
  rintro e w3 ⟨v1, R, rfl, hR, ow3, bx3, old3⟩
  clear c1 cP
  obtain ⟨pv, cv, hpv⟩ := ow3.shape
  rw [dl.1] at hpv
  subst hpv
  obtain ⟨m1, k1, n1, R1⟩ := D
  simp only at hR ow3 dl HV ⊢
  obtain ⟨e1, he1⟩ : ∃ b : Bool, decide (R1 = []) = b := ⟨_, rfl⟩
  rw [he1]
  have vD : SecAt (w3.alloc (.cells #[.bool m1, .int .i64 (k1 : Int), .slice pv 2 cv, .bool e1] 43)) w3.heap.size m1 k1 (.slice pv 2 cv) e1 := SecAt.new w3 m1 k1 _ e1
  obtain ⟨W4, hW4⟩ : ∃ W4, w3.alloc (.cells #[.bool m1, .int .i64 (k1 : Int), .slice pv 2 cv, .bool e1] 43) = W4 := ⟨_, rfl⟩
  have hb34 : Below w3.heap.size w3 W4 := by rw [← hW4]; exact (Below.refl _ _).alloc (Nat.le_refl _) _
  rw [hW4] at vD
  have hbw3 : Below w.heap.size w w3 := old3.below _ _ (Nat.le_refl _) HB2.out
  have hbw4 : Below w.heap.size w W4 := hbw3.trans (hb34.mono hbw3.size)
  have HST := Lib.hid (ow3.strs.later hb34)
  have HVD := Lib.hid vD
  have HE1 := Lib.hid he1
  have HDL := Lib.hid dl
  have HW4 := Lib.hid hW4
  clear hR ow3 bx3 old3 dl he1 vD hb34 hbw3 hW4 HW2
  by_cases hk : k1 = 0
  · subst hk
    have HF := Lib.hid (show parseM s.data.toList = (0, 5) by rw [HV.out]; simp)
    go_wp2_with fail
    try rw [HW4.out]
    go_ret2
    exact ⟨by rw [HF.out]; rfl, by have h := hbw4; rw [← HW4.out] at h; exact h⟩
  have hkb : ((k1 : Int) == 0) = false := beq_eq_false_iff_ne.2 (by omega)
  cases e1 with
  | false =>
    have HF := Lib.hid (show parseM s.data.toList = (0, 5) by
      rw [HV.out]
      have : ¬ R1 = [] := of_decide_eq_false HE1.out
      simp [this])
    go_wp2_with fail
    try rw [HW4.out]
    go_ret2
    exact ⟨by rw [HF.out]; rfl, hbw4⟩
  | true =>
    have hr1 : R1 = [] := of_decide_eq_true HE1.out
    obtain ⟨RS, z, hRS⟩ := res_ex (sumR bl [48] n1 [[49, 50], [49]])
    have hv2 := HV.out
    rw [if_neg (by simp [hk, hr1]), hRS] at hv2
    simp only at hv2
    have HV2 := Lib.hid hv2
    have hRs : RS.size ≤ 52 := canonR_size (z := z) (by
      rw [← hRS]
      exact sumR_canonR bl _ _ [48] (.inr ⟨rfl, by decide +kernel, by decide⟩))
    have HRS := Lib.hid hRS
    clear hRS hv2
    -- the region
    have bD : Below W4.heap.size W4 W4.drew := (Below.refl W4.heap.size W4).drew
    have bE : Below W4.heap.size W4 (W4.drew.alloc (.cells #[.string ⟨#[49, 50]⟩, .string ⟨#[49]⟩] 9)) := bD.alloc (Nat.le_refl _) _
    have hvD := HVD.out
    have y2 := hvD.c2
    have E2 : (W4.drew.alloc (.cells #[.string ⟨#[49, 50]⟩, .string ⟨#[49]⟩] 9)).cell? ⟨w3.heap.size, 2, none⟩ = some (.slice pv 2 cv) := (bE.cell (p := ⟨w3.heap.size, 2, none⟩) hvD.lt).trans y2
    have cI : ∀ W, Calls Tryz.prog 27 #[.int .i64 12] W fun e w' => e = .returned (.string ⟨#[49, 50]⟩) ∧ w' = W := fun W => by
      have := Tryz.strconv_Itoa_small 12 (by omega) W
      rw [show Lib.decDigits 12 = [49, 50] by decide +kernel] at this
      exact this
    have hbE : Below w.heap.size w (W4.drew.alloc (.cells #[.string ⟨#[49, 50]⟩, .string ⟨#[49]⟩] 9)) := hbw4.trans (bE.mono hbw4.size)
    have cS := sum_du bl (.slice pv 2 cv) (.slice (some ⟨W4.heap.size, 0, none⟩) 2 2) n1 [[49, 50], [49]] (by rw [HDL.out.1]; rfl) (by decide) (fun l hl => by have := HDL.out.2 l hl; omega) (by decide) _ (HG.out.num.later hbE) (HST.out.later bE) (strs_lit W4.drew [[49, 50], [49]])
    rw [HRS.out] at cS
    have e5 : resV (RS.data.toList, z) = .tuple #[.string RS, .int .i64 z] := rfl
    rw [e5] at cS
    obtain ⟨f0, f1, _, f3, _, _, _, _, fl⟩ := id hvD
    have hHW4 := HW4.out
    clear e5 hvD hbE
    go_wp2_with fail
    try rw [HW4.out]
    go_region_held3 (fun w' => w'.cell? ⟨w3.heap.size, 2, none⟩ = some (.slice pv 2 cv)) (first | exact Z2 | exact E2 | exact y2) (first | (go_at_call 27; refine (cI _).mono ?_; rintro e wI ⟨rfl, rfl⟩) | (go_at_call 26; refine cS.mono ?_; rintro e wS ⟨rfl, hbS⟩; have bS : Below W4.heap.size W4 wS := bE.trans (hbS.mono bE.size); have Z2 := (bS.cell (p := ⟨w3.heap.size, 2, none⟩) fl).trans y2))
    all_goals
      have hbwS := hbw4.trans (bS.mono hbw4.size)
      have HGS := Lib.hid (HG.out.later hbwS)
      clear cS cI bD bE E2 y2 Z2 hbS bS hHW4
      by_cases hz : z = 0
      · subst hz
        cases ha : Lib.atoiAll RS.data.toList with
        | ok v =>
          have cA := atoi_good RS (by omega) v ha wS
          have hv3 := HV2.out
          rw [if_neg (by simp), ha] at hv3
          simp only at hv3
          have HV3 := Lib.hid hv3
          clear hv3 ha
          by_cases h1 : v < -9999999999
          · have HF := Lib.hid (show parseM s.data.toList = (0, 6) by rw [HV3.out, if_pos (.inl h1)])
            go_wp2_with fail
            refine cA.mono ?_
            rintro e w7 ⟨rfl, hb7⟩
            go_wp2_with fail
            go_ret2
            exact ⟨by rw [HF.out]; rfl, hbwS.trans (hb7.mono hbwS.size)⟩
          · by_cases h2 : 9999999999 < v
            · have HF := Lib.hid (show parseM s.data.toList = (0, 6) by rw [HV3.out, if_pos (.inr h2)])
              go_wp2_with fail
              refine cA.mono ?_
              rintro e w7 ⟨rfl, hb7⟩
              go_wp2_with fail
              go_ret2
              exact ⟨by rw [HF.out]; rfl, hbwS.trans (hb7.mono hbwS.size)⟩
            · have HF := Lib.hid (show parseM s.data.toList = (v, 0) by rw [HV3.out, if_neg (by rintro (h | h); exact h1 h; exact h2 h)])
              go_wp2_with fail
              refine cA.mono ?_
              rintro e w7 ⟨rfl, hb7⟩
              go_wp2_with fail
              go_ret2
              exact ⟨by rw [HF.out]; rfl, hbwS.trans (hb7.mono hbwS.size)⟩
        | range =>
          have cA := atoi_bad RS (by omega) (by rw [ha]; intro v h; cases h) wS HGS.out
          have HF := Lib.hid (show parseM s.data.toList = (0, 6) by rw [HV2.out, if_neg (by simp), ha])
          clear ha
          go_wp2_with fail
          refine cA.mono ?_
          rintro e w7 ⟨x, t, p, rfl, hb7⟩
          go_wp2_with fail
          go_ret2
          exact ⟨by rw [HF.out]; rfl, hbwS.trans (hb7.mono hbwS.size)⟩
        | _ =>
          have cA := atoi_bad RS (by omega) (by rw [ha]; intro v h; cases h) wS HGS.out
          have HF := Lib.hid (show parseM s.data.toList = (0, 6) by rw [HV2.out, if_neg (by simp), ha])
          clear ha
          go_wp2_with fail
          refine cA.mono ?_
          rintro e w7 ⟨x, t, p, rfl, hb7⟩
          go_wp2_with fail
          go_ret2
          exact ⟨by rw [HF.out]; rfl, hbwS.trans (hb7.mono hbwS.size)⟩
      · have HF := Lib.hid (show parseM s.data.toList = (0, 6) by rw [HV2.out, if_pos hz])
        have hzb : (z == 0) = false := beq_eq_false_iff_ne.2 hz
        have hzc : (z != 0) = true := by simp [hz]
        go_wp2_with fail
        go_ret2
        exact ⟨by rw [HF.out]; rfl, hbwS⟩
end Go.Proofs.YtdfgifnccghlmabGreatDoor

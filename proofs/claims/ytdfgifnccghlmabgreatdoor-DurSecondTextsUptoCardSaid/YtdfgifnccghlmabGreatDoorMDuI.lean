/- Durations: the contract of reading: a function over a text in its box; ParseSeconds. Durations: the contract of ParseMonths. The laws of dur: what a call gives, in any later world; the examples that every law asks. -/
import Derived.Test.YtdfgifnccghlmabGreatDoorMDuB
import Derived.Test.YtdfgifnccghlmabGreatDoorMDuC
import Derived.Test.YtdfgifnccghlmabGreatDoorMShelfDv
import Derived.Deep.RegionHeld3
namespace Go.Proofs.YtdfgifnccghlmabGreatDoor
open Go.RowKit Go.Lib

set_option maxRecDepth 100000 in
set_option maxHeartbeats 4000000 in
theorem reading_du (f : ByteArray) (w : World) :
    Calls Tryz.prog 25 #[.string f] w fun e w' => e = .returned (.func (Fn.func 50) #[] #[.pointer (some ⟨w.heap.size, 0, none⟩)]) ∧ w' = w.alloc (.cells #[.string f] 9) := by
  go_enter Tryz.func25, Tryz.ntmps25
  go_wp2_with fail
  go_ret
  exact ⟨rfl, rfl⟩
theorem append_strs (base : Nat) (v u : Value) (l k : List (List UInt8)) (hk : k ≠ []) (hl : l.length + k.length ≤ 1000) (w : World) (h : OwnS w base v l) (hu : Strs w u k) (hb : base ≤ w.heap.size) :
    ∃ v' w', (Builtin.append_ #[41, 41] 41 #[v, u]).run Tryz.prog w = .ok v' w' ∧ OwnS w' base v' (l ++ k) ∧ (∀ N a, N ≤ base → Below N a w → Below N a w') ∧ w.heap.size ≤ w'.heap.size := by
  obtain ⟨i, hi, hh⟩ := Option.map_eq_some_iff.1 infoStr
  simp only [Prod.mk.injEq] at hh
  obtain ⟨hz, hs, hby⟩ := hh
  rcases hu with ⟨rfl, _⟩ | ⟨b, off, cap, rfl, hc, hcell⟩
  · exact absurd rfl hk
  obtain ⟨v', w', h1, h2, h3, _, _⟩ := run_append_own_at (P := Tryz.prog) w base 41 41 9 i _ 1 16 Tryz.underlying41 hi hz hs hby rfl (by omega) v l.length (strL l) h ⟨b, off, none⟩ k.length cap (strL k) (by simp [strL]) (fun j x hx => by
      have hj : j < k.length := by
        have := (List.getElem?_eq_some_iff.1 hx).1
        simpa [strL] using this
      have e := hcell j hj
      have hadd : (⟨b, off, none⟩ : Addr).add j = ⟨b, off + j, none⟩ := by unfold Addr.add; split <;> simp_all
      rw [hadd, e, ← hx]
      unfold strL
      rw [List.getElem?_map, List.getD_eq_getElem?_getD, List.getElem?_eq_getElem hj]
      rfl) (fun u hu => by
      unfold strL at hu
      obtain ⟨x, _, rfl⟩ := List.mem_map.1 hu
      rfl) (by unfold maxLen; omega) (by omega) hb
  refine ⟨v', w', h1, ?_, fun N a hN ha => ha.grown h3 (by omega) (fun j hj => Nat.le_trans hN (World.ownsRow.lt h j hj).1), h3.size⟩
  unfold OwnS
  rw [List.length_append, show strL (l ++ k) = strL l ++ strL k by simp [strL]]
  exact h2
theorem strs_lit (w : World) (l : List (List UInt8)) : Strs (w.alloc (.cells (l.map fun x => Value.string ⟨x.toArray⟩).toArray 9)) (.slice (some ⟨w.heap.size, 0, none⟩) l.length l.length) l := by
  refine .inr ⟨w.heap.size, 0, l.length, rfl, Nat.le_refl _, fun j hj => ?_⟩
  have : (w.alloc (.cells (l.map fun x => Value.string ⟨x.toArray⟩).toArray 9)).cell? ⟨w.heap.size, 0 + j, none⟩ = (l.map fun x => Value.string ⟨x.toArray⟩)[j]? := by simp [go_sem]
  rw [this, List.getElem?_map, List.getD_eq_getElem?_getD, List.getElem?_eq_getElem hj]
  rfl
theorem parts_len (m : Bool) : ∀ (cs s : List UInt8), (partsL m cs s).2.1.length = cs.length ∧ (∀ l ∈ (partsL m cs s).2.1, l.length ≤ s.length ∨ l.length ≤ 1)
  | [], s => ⟨rfl, fun l h => by cases h⟩
  | c :: cs, s => by
    rw [parts_step]
    split
    · rename_i x hx
      obtain ⟨h1, h2⟩ := parts_len m cs x.2
      have hp : partL c s = some (x.1, x.2) := by
        split at hx
        · exact hx
        · cases hx
      have hl := partL_len hp
      refine ⟨by simp [h1], fun l hl2 => ?_⟩
      rcases List.mem_cons.1 hl2 with rfl | hl2
      · exact .inl hl.1
      · rcases h2 l hl2 with h | h
        · exact .inl (by omega)
        · exact .inr h
    · obtain ⟨h1, h2⟩ := parts_len m cs s
      refine ⟨by simp [h1], fun l hl2 => ?_⟩
      rcases List.mem_cons.1 hl2 with rfl | hl2
      · exact .inr (by simp)
      · exact h2 l hl2
theorem parts_rest (m : Bool) : ∀ (cs s : List UInt8), (partsL m cs s).2.2.length ≤ s.length
  | [], s => Nat.le_refl _
  | c :: cs, s => by
    rw [parts_step]
    split
    · rename_i x hx
      have hp : partL c s = some (x.1, x.2) := by
        split at hx
        · exact hx
        · cases hx
      exact Nat.le_trans (parts_rest m cs x.2) (partL_len hp).2
    · exact parts_rest m cs s
theorem sec_rest (mk : UInt8) (cs s : List UInt8) : (secL mk cs s).2.2.2.length ≤ s.length := by
  refine Nat.le_trans (parts_rest _ cs _) ?_
  unfold Lib.trimPrefix
  split <;> simp
theorem sec_len (mk : UInt8) (cs s : List UInt8) (hs : s.length ≤ 200) : (secL mk cs s).2.2.1.length = cs.length ∧ ∀ l ∈ (secL mk cs s).2.2.1, l.length ≤ 200 := by
  obtain ⟨h1, h2⟩ := parts_len (Lib.hasPrefix s [mk]) cs (Lib.trimPrefix s [mk])
  refine ⟨h1, fun l hl => ?_⟩
  have : (Lib.trimPrefix s [mk]).length ≤ s.length := by unfold Lib.trimPrefix; split <;> simp
  rcases h2 l hl with h | h <;> omega
/-- What ParseSeconds gives. -/
def parseS (s : List UInt8) : List UInt8 × Int :=
  let D := secL 80 [68] (Lib.trimPrefix s [45])
  let C := secL 84 [72, 77, 83] D.2.2.2
  if 200 < s.length then ([], 2)
  else if D.1 = false ∨ C.2.2.2 ≠ [] then ([], 5)
  else if (C.1 = true ∧ C.2.1 = 0) ∨ (C.1 = false ∧ D.2.1 = 0) then ([], 5)
  else sumR (Lib.hasPrefix s [45]) [48] (D.2.2.1 ++ C.2.2.1) [dayL, hourL, minL, [49]]
set_option maxRecDepth 100000 in
set_option maxHeartbeats 8000000 in
theorem parseSeconds_du (s : ByteArray) (w : World) (hg : GrN w) :
    Calls Tryz.prog 16 #[.string s] w fun e w' => e = .returned (resV (parseS s.data.toList)) ∧ Below w.heap.size w w' := by
  have hsl := ba_size s
  by_cases hL : 200 < s.size
  · have HV := Lib.hid (show parseS s.data.toList = ([], 2) by unfold parseS; simp only; rw [if_pos (by omega)])
    have hLz : (200 : Int) < (s.size : Int) := by omega
    rw [HV.out]
    clear hg hsl
    go_enter Tryz.func16, Tryz.ntmps16
    go_wp2_with fail
    go_ret2
    exact ⟨rfl, Below.refl _ _⟩
  have hLz : ¬ (200 : Int) < (s.size : Int) := by omega
  have hpl : (Lib.trimPrefix s.data.toList [45]).length ≤ s.data.toList.length := by unfold Lib.trimPrefix; split <;> simp
  have cP := fun W => Tryz.strings_CutPrefix s ⟨#[45]⟩ W
  rw [show (⟨#[45]⟩ : ByteArray).data.toList = [45] from rfl] at cP
  obtain ⟨F, hF, hFl⟩ := ba_ex (Lib.trimPrefix s.data.toList [45])
  obtain ⟨bl, hbl⟩ : ∃ b, Lib.hasPrefix s.data.toList [45] = b := ⟨_, rfl⟩
  rw [hF, hbl] at cP
  have hFs : F.size ≤ 1000 := by rw [ba_size, hFl]; omega
  have hv : parseS s.data.toList = if (secL 80 [68] F.data.toList).1 = false ∨ (secL 84 [72, 77, 83] (secL 80 [68] F.data.toList).2.2.2).2.2.2 ≠ [] then ([], 5)
      else if ((secL 84 [72, 77, 83] (secL 80 [68] F.data.toList).2.2.2).1 = true ∧ (secL 84 [72, 77, 83] (secL 80 [68] F.data.toList).2.2.2).2.1 = 0) ∨ ((secL 84 [72, 77, 83] (secL 80 [68] F.data.toList).2.2.2).1 = false ∧ (secL 80 [68] F.data.toList).2.1 = 0) then ([], 5)
      else sumR bl [48] ((secL 80 [68] F.data.toList).2.2.1 ++ (secL 84 [72, 77, 83] (secL 80 [68] F.data.toList).2.2.2).2.2.1) [dayL, hourL, minL, [49]] := by
    unfold parseS
    simp only
    rw [if_neg (by omega), hFl, hbl]
  obtain ⟨m, hm⟩ := hg.2
  have hF2 : F.data.toList.length ≤ 200 := by rw [hFl]; omega
  have HG := Lib.hid hg
  have hml := lt_of_cell hm
  -- the box, and the first letters
  have bx1 : BoxAt (w.alloc (.cells #[.string F] 9)) w.heap.size F := ⟨by simp [go_sem], by simp [go_sem], by simp⟩
  have hb1 : Below w.heap.size w (w.alloc (.cells #[.string F] 9)) := (Below.refl _ _).alloc (Nat.le_refl _) _
  have hl1 := strs_lit (w.alloc (.cells #[.string F] 9)) [[68]]
  have hb2 : Below w.heap.size w ((w.alloc (.cells #[.string F] 9)).alloc (.cells #[.string ⟨#[68]⟩] 9)) := hb1.alloc hb1.size _
  have bx2 : BoxAt ((w.alloc (.cells #[.string F] 9)).alloc (.cells #[.string ⟨#[68]⟩] 9)) w.heap.size F := bx1.other (((Below.refl _ _).alloc (Nat.le_refl _) _ : Below (w.alloc (.cells #[.string F] 9)).heap.size _ _).block _ bx1.lt) (by simp)
  obtain ⟨W2, hW2⟩ : ∃ W2, (w.alloc (.cells #[.string F] 9)).alloc (.cells #[.string ⟨#[68]⟩] 9) = W2 := ⟨_, rfl⟩
  have hl1 : Strs W2 (.slice (some ⟨w.heap.size + 1, 0, none⟩) 1 1) [[68]] := by
    rw [World.size_alloc] at hl1
    rw [← hW2]
    exact hl1
  rw [hW2] at hb2 bx2
  have hm2 := (hb2.cell (p := ⟨3, 0, none⟩) hml).trans hm
  have c1 := read_du 80 ⟨#[80]⟩ rfl [68] (by decide) _ F hFs w.heap.size W2 m hm2 (by show 3 ≠ w.heap.size; have : 3 < w.heap.size := hml; omega) hl1 (by intro h; have h : some (w.heap.size + 1) = some w.heap.size := h; simp at h) bx2
  have HW2 := Lib.hid hW2
  have HB2 := Lib.hid hb2
  have HM := Lib.hid (And.intro hm hml)
  obtain ⟨D, hD⟩ : ∃ d, secL 80 [68] F.data.toList = d := ⟨_, rfl⟩
  have dl := sec_len 80 [68] F.data.toList hF2
  have dr := sec_rest 80 [68] F.data.toList
  rw [hD] at c1 hv dl dr
  have HV := Lib.hid hv
  clear hF hFl hbl hpl hsl hv hD hm hml hb1 hl1 bx1 bx2 hW2 hm2 hb2 hg
  go_enter Tryz.func16, Tryz.ntmps16
  go_wp2_with fail
  refine (cP w).mono ?_
  rintro e w1 ⟨rfl, hw1⟩
  rw [hw1]
  clear hw1 w1
  go_wp2_with fail
  refine (reading_du F w).mono ?_
  rintro e w1 ⟨rfl, hw1⟩
  rw [hw1]
  clear hw1 w1
  go_wp2_with fail
  try rw [HW2.out]
  refine c1.mono ?_
  rintro e w3 ⟨v1, R, rfl, hR, ow3, bx3, old3⟩
  clear c1 cP
  obtain ⟨pv, cv, hpv⟩ := ow3.shape
  rw [dl.1] at hpv
  subst hpv
  -- the variable date, and the other letters
  obtain ⟨m1, k1, n1, R1⟩ := D
  simp only at hR ow3 dl dr HV ⊢
  have hR2 : R.data.toList.length ≤ 200 := by rw [hR]; omega
  obtain ⟨e1, he1⟩ : ∃ b : Bool, decide (R1 = []) = b := ⟨_, rfl⟩
  rw [he1]
  have vD : SecAt (w3.alloc (.cells #[.bool m1, .int .i64 (k1 : Int), .slice pv 1 cv, .bool e1] 43)) w3.heap.size m1 k1 (.slice pv 1 cv) e1 := SecAt.new w3 m1 k1 _ e1
  obtain ⟨W4, hW4⟩ : ∃ W4, w3.alloc (.cells #[.bool m1, .int .i64 (k1 : Int), .slice pv 1 cv, .bool e1] 43) = W4 := ⟨_, rfl⟩
  have hb34 : Below w3.heap.size w3 W4 := by rw [← hW4]; exact (Below.refl _ _).alloc (Nat.le_refl _) _
  have hz4 : W4.heap.size = w3.heap.size + 1 := by rw [← hW4, World.size_alloc]
  rw [hW4] at vD
  have hl2 := strs_lit W4 [[72], [77], [83]]
  have hb45 : Below W4.heap.size W4 (W4.alloc (.cells #[.string ⟨#[72]⟩, .string ⟨#[77]⟩, .string ⟨#[83]⟩] 9)) := (Below.refl _ _).alloc (Nat.le_refl _) _
  obtain ⟨W5, hW5⟩ : ∃ W5, W4.alloc (.cells #[.string ⟨#[72]⟩, .string ⟨#[77]⟩, .string ⟨#[83]⟩] 9) = W5 := ⟨_, rfl⟩
  have hl2 : Strs W5 (.slice (some ⟨w3.heap.size + 1, 0, none⟩) 3 3) [[72], [77], [83]] := by rw [← hW5, ← hz4]; exact hl2
  rw [hW5] at hb45
  have hb35 : Below w3.heap.size w3 W5 := hb34.trans (hb45.mono hb34.size)
  have bx5 := bx3.other (hb35.block _ bx3.lt) hb35.size
  have vD5 := vD.other (hb45.block _ vD.lt) hb45.size
  have ow5 := ow3.below (w' := W5) (fun k _ h => hb35.block k h)
  have hN : w.heap.size ≤ w.heap.size := Nat.le_refl _
  have hbw3 : Below w.heap.size w w3 := old3.below _ _ hN HB2.out
  have hbw5 : Below w.heap.size w W5 := hbw3.trans (hb35.mono hbw3.size)
  have hm5 := (hbw5.cell (p := ⟨3, 0, none⟩) HM.out.2).trans HM.out.1
  have c2 := read_du 84 ⟨#[84]⟩ rfl [72, 77, 83] (by decide) _ R (by rw [ba_size]; omega) w.heap.size W5 m hm5 (by show 3 ≠ w.heap.size; have : 3 < w.heap.size := HM.out.2; omega) hl2 (by intro h; have h : some (w3.heap.size + 1) = some w.heap.size := h; have := bx3.lt; simp at h; omega) bx5
  rw [hR] at c2 hR2
  obtain ⟨C, hC⟩ : ∃ d, secL 84 [72, 77, 83] R1 = d := ⟨_, rfl⟩
  have cl := sec_len 84 [72, 77, 83] R1 hR2
  have hv := HV.out
  rw [hC] at c2 cl hv
  have HV := Lib.hid hv
  have HVD := Lib.hid vD5
  have HOW := Lib.hid ow5
  have HB5 := Lib.hid hbw5
  have HW4 := Lib.hid hW4
  have HW5 := Lib.hid hW5
  have HZ := Lib.hid (And.intro hz4 (And.intro bx3.lt old3.size))
  have HDL := Lib.hid dl
  clear hR ow3 bx3 old3 dl dr hR2 he1 vD hb34 hl2 hb45 hb35 bx5 vD5 ow5 hN hbw3 hbw5 hm5 hC hv hW4 hW5 hz4
  go_wp2_with fail
  try rw [HW4.out]
  try rw [HW5.out]
  refine c2.mono ?_
  rintro e w6 ⟨v2, R', rfl, hR', ow6, bx6, old6⟩
  clear c2
  obtain ⟨pv2, cv2, hpv2⟩ := ow6.shape
  rw [cl.1] at hpv2
  subst hpv2
  obtain ⟨m2, k2, n2, R2⟩ := C
  simp only at hR' ow6 cl HV ⊢
  obtain ⟨e2, he2⟩ : ∃ b : Bool, decide (R2 = []) = b := ⟨_, rfl⟩
  rw [he2]
  have vC : SecAt (w6.alloc (.cells #[.bool m2, .int .i64 (k2 : Int), .slice pv2 3 cv2, .bool e2] 43)) w6.heap.size m2 k2 (.slice pv2 3 cv2) e2 := SecAt.new w6 m2 k2 _ e2
  obtain ⟨W7, hW7⟩ : ∃ W7, w6.alloc (.cells #[.bool m2, .int .i64 (k2 : Int), .slice pv2 3 cv2, .bool e2] 43) = W7 := ⟨_, rfl⟩
  have hb67 : Below w6.heap.size w6 W7 := by rw [← hW7]; exact (Below.refl _ _).alloc (Nat.le_refl _) _
  rw [hW7] at vC
  have hBs := HZ.out.2.1
  have hz2 := HZ.out.2.2
  have hvD := HVD.out
  have vD6 := hvD.other (old6.heap _ hvD.lt (by omega)) (by have := old6.size; omega)
  have vD7 := vD6.other (hb67.block _ vD6.lt) hb67.size
  have ow6b := HOW.out.below (w' := w6) (fun k h1 h2 => old6.heap k h2 (by have := HB2.out.size; omega))
  have HOW7 := Lib.hid (ow6b.below (w' := W7) (fun k _ h => hb67.block k h))
  have HST := Lib.hid (ow6.strs.later hb67)
  have hbw6 : Below w.heap.size w w6 := old6.below _ _ (Nat.le_refl _) HB5.out
  have hbw7 : Below w.heap.size w W7 := hbw6.trans (hb67.mono hbw6.size)
  have HZ7 := Lib.hid (show w.heap.size ≤ W2.heap.size ∧ W2.heap.size + 2 ≤ W7.heap.size from ⟨HB2.out.size, by have := hb67.size; have := old6.size; have := hvD.lt; omega⟩)
  obtain ⟨d0, d1, d2, _, _, _, _, _, dlt⟩ := id vD6
  have HW7 := Lib.hid hW7
  have HE2 := Lib.hid he2
  clear hR' ow6 bx6 old6 vC hb67 hBs hz2 hvD vD6 vD7 ow6b hbw6 hW7 HVD HOW HB5 HW4 HW5 HW2 he2
  cases m1 with
  | false =>
    have HF := Lib.hid (show parseS s.data.toList = ([], 5) by rw [HV.out]; simp)
    go_wp2_with fail
    try rw [HW7.out]
    go_wp2_with fail
    go_ret2
    exact ⟨by rw [HF.out]; rfl, hbw7⟩
  | true =>
    cases e2 with
    | false =>
      have HF := Lib.hid (show parseS s.data.toList = ([], 5) by
        rw [HV.out]
        have : ¬ R2 = [] := of_decide_eq_false HE2.out
        simp [this])
      go_wp2_with fail
      try rw [HW7.out]
      go_wp2_with fail
      go_ret2
      exact ⟨by rw [HF.out]; rfl, hbw7⟩
    | true =>
      have hr2 : R2 = [] := of_decide_eq_true HE2.out
      have HR2 := Lib.hid hr2
      clear hr2
      cases m2 with
      | true =>
        by_cases hk : k2 = 0
        · subst hk
          have HF := Lib.hid (show parseS s.data.toList = ([], 5) by rw [HV.out]; simp [HR2.out])
          go_wp2_with fail
          try rw [HW7.out]
          go_wp2_with fail
          go_ret2
          exact ⟨by rw [HF.out]; rfl, by have h := hbw7; rw [← HW7.out] at h; exact h⟩
        · have hkb : ((k2 : Int) == 0) = false := beq_eq_false_iff_ne.2 (by omega)
          have hlu : [dayL, hourL, minL, [49]].length = 4 := rfl
          obtain ⟨v8, w8, hr8, ho8, hn8, hs8⟩ := append_strs (W2.heap.size + 2) (.slice pv 1 cv) (.slice pv2 3 cv2) n1 n2 (by intro h; have := cl.1; rw [h] at this; cases this) (by have := cl.1; have := HDL.out.1; simp at *; omega) W7 HOW7.out HST.out (by have := HZ7.out; omega)
          obtain ⟨p8, c8, hv8⟩ := ho8.shape
          rw [show (n1 ++ n2).length = 4 by rw [List.length_append, HDL.out.1, cl.1]; rfl] at hv8
          subst hv8
          have hl4 := strs_lit w8 [dayL, hourL, minL, [49]]
          have hb89 : Below w8.heap.size w8 (w8.alloc (.cells #[.string ⟨#[56, 54, 52, 48, 48]⟩, .string ⟨#[51, 54, 48, 48]⟩, .string ⟨#[54, 48]⟩, .string ⟨#[49]⟩] 9)) := (Below.refl _ _).alloc (Nat.le_refl _) _
          obtain ⟨W9, hW9⟩ : ∃ W9, w8.alloc (.cells #[.string ⟨#[56, 54, 52, 48, 48]⟩, .string ⟨#[51, 54, 48, 48]⟩, .string ⟨#[54, 48]⟩, .string ⟨#[49]⟩] 9) = W9 := ⟨_, rfl⟩
          have hl4 : Strs W9 (.slice (some ⟨w8.heap.size, 0, none⟩) 4 4) [dayL, hourL, minL, [49]] := by rw [← hW9]; exact hl4
          rw [hW9] at hb89
          have hbw8 : Below w.heap.size w w8 := hn8 _ _ (by have := HZ7.out; omega) hbw7
          have hbw9 : Below w.heap.size w W9 := hbw8.trans (hb89.mono hbw8.size)
          have c3 := sum_du bl _ _ (n1 ++ n2) [dayL, hourL, minL, [49]] (by rw [List.length_append, HDL.out.1, cl.1]; rfl) (by decide) (fun l hl => by
            rcases List.mem_append.1 hl with h | h
            · have := HDL.out.2 l h; omega
            · have := cl.2 l h; omega) (by decide) W9 (HG.out.later hbw9) (ho8.strs.later hb89) hl4
          obtain ⟨RS, hRS⟩ : ∃ r, sumR bl [48] (n1 ++ n2) [dayL, hourL, minL, [49]] = r := ⟨_, rfl⟩
          have HF := Lib.hid (show parseS s.data.toList = RS by rw [HV.out, ← hRS]; simp [HR2.out, hk])
          rw [hRS] at c3
          unfold resV at c3
          rw [← HW7.out] at hr8
          have H8 := Lib.hid hr8
          have HW9 := Lib.hid hW9
          clear hr8 ho8 hn8 hs8 hl4 hb89 hbw8 hRS hW9 hlu hk
          go_wp2_with (at_builtin; refine Lib.wpList_append_run _ rfl (.tmp 50) (.tmp 52) 41 41 rfl _ _ rfl rfl _ _ H8.out ?_)
          try rw [HW9.out]
          refine c3.mono ?_
          rintro e w10 ⟨rfl, hb10⟩
          go_wp2_with fail
          go_ret2
          exact ⟨by rw [HF.out]; rfl, hbw9.trans (hb10.mono hbw9.size)⟩
      | false =>
        by_cases hk : k1 = 0
        · subst hk
          have HF := Lib.hid (show parseS s.data.toList = ([], 5) by rw [HV.out]; simp [HR2.out])
          go_wp2_with fail
          try rw [HW7.out]
          go_wp2_with fail
          go_ret2
          exact ⟨by rw [HF.out]; rfl, hbw7⟩
        · have hkb : ((k1 : Int) == 0) = false := beq_eq_false_iff_ne.2 (by omega)
          have hlu : [dayL, hourL, minL, [49]].length = 4 := rfl
          obtain ⟨v8, w8, hr8, ho8, hn8, hs8⟩ := append_strs (W2.heap.size + 2) (.slice pv 1 cv) (.slice pv2 3 cv2) n1 n2 (by intro h; have := cl.1; rw [h] at this; cases this) (by have := cl.1; have := HDL.out.1; simp at *; omega) W7 HOW7.out HST.out (by have := HZ7.out; omega)
          obtain ⟨p8, c8, hv8⟩ := ho8.shape
          rw [show (n1 ++ n2).length = 4 by rw [List.length_append, HDL.out.1, cl.1]; rfl] at hv8
          subst hv8
          have hl4 := strs_lit w8 [dayL, hourL, minL, [49]]
          have hb89 : Below w8.heap.size w8 (w8.alloc (.cells #[.string ⟨#[56, 54, 52, 48, 48]⟩, .string ⟨#[51, 54, 48, 48]⟩, .string ⟨#[54, 48]⟩, .string ⟨#[49]⟩] 9)) := (Below.refl _ _).alloc (Nat.le_refl _) _
          obtain ⟨W9, hW9⟩ : ∃ W9, w8.alloc (.cells #[.string ⟨#[56, 54, 52, 48, 48]⟩, .string ⟨#[51, 54, 48, 48]⟩, .string ⟨#[54, 48]⟩, .string ⟨#[49]⟩] 9) = W9 := ⟨_, rfl⟩
          have hl4 : Strs W9 (.slice (some ⟨w8.heap.size, 0, none⟩) 4 4) [dayL, hourL, minL, [49]] := by rw [← hW9]; exact hl4
          rw [hW9] at hb89
          have hbw8 : Below w.heap.size w w8 := hn8 _ _ (by have := HZ7.out; omega) hbw7
          have hbw9 : Below w.heap.size w W9 := hbw8.trans (hb89.mono hbw8.size)
          have c3 := sum_du bl _ _ (n1 ++ n2) [dayL, hourL, minL, [49]] (by rw [List.length_append, HDL.out.1, cl.1]; rfl) (by decide) (fun l hl => by
            rcases List.mem_append.1 hl with h | h
            · have := HDL.out.2 l h; omega
            · have := cl.2 l h; omega) (by decide) W9 (HG.out.later hbw9) (ho8.strs.later hb89) hl4
          obtain ⟨RS, hRS⟩ : ∃ r, sumR bl [48] (n1 ++ n2) [dayL, hourL, minL, [49]] = r := ⟨_, rfl⟩
          have HF := Lib.hid (show parseS s.data.toList = RS by rw [HV.out, ← hRS]; simp [HR2.out, hk])
          rw [hRS] at c3
          unfold resV at c3
          rw [← HW7.out] at hr8
          have H8 := Lib.hid hr8
          have HW9 := Lib.hid hW9
          clear hr8 ho8 hn8 hs8 hl4 hb89 hbw8 hRS hW9 hlu hk
          go_wp2_with (at_builtin; refine Lib.wpList_append_run _ rfl (.tmp 50) (.tmp 52) 41 41 rfl _ _ rfl rfl _ _ H8.out ?_)
          try rw [HW9.out]
          refine c3.mono ?_
          rintro e w10 ⟨rfl, hb10⟩
          go_wp2_with fail
          go_ret2
          exact ⟨by rw [HF.out]; rfl, hbw9.trans (hb10.mono hbw9.size)⟩
end Go.Proofs.YtdfgifnccghlmabGreatDoor
namespace Go.Proofs.YtdfgifnccghlmabGreatDoor
open Go.RowKit Go.Lib

/-- What package dur leans on in memory: what num does, and the variables of two errors. -/
structure GrD (w : World) : Prop where
  num : GrN w
  range : ∃ ev, w.cell? ⟨1, 0, none⟩ = some ev ∧ (ev = .nilIface ∨ ∃ te pe, ev = .iface te pe)
  form : ∃ ev, w.cell? ⟨0, 0, none⟩ = some ev ∧ (ev = .nilIface ∨ ∃ te pe, ev = .iface te pe)
theorem GrD.later {w w' : World} (h : GrD w) (hb : Below w.heap.size w w') : GrD w' := by
  obtain ⟨e1, h1, k1⟩ := h.range
  obtain ⟨e2, h2, k2⟩ := h.form
  exact ⟨h.num.later hb, ⟨e1, (hb.cell (lt_of_cell h1)).trans h1, k1⟩, ⟨e2, (hb.cell (lt_of_cell h2)).trans h2, k2⟩⟩
theorem atoi_bad (s : ByteArray) (hs : s.size ≤ 1000) (hn : ∀ v, Lib.atoiAll s.data.toList ≠ .ok v) (w : World) (hg : GrD w) :
    Calls Tryz.prog 28 #[.string s] w fun e w' => ∃ (x : Int) (t : TypeId) (p : Value), e = .returned (.tuple #[.int .i64 x, .iface t p]) ∧ Below w.heap.size w w' := by
  cases h : Lib.atoiAll s.data.toList with
  | ok v => exact absurd h (hn v)
  | range =>
    obtain ⟨ev, h1, k1⟩ := hg.range
    exact (Tryz.strconv_Atoi_range s (by omega) h ev w h1 k1).mono fun e w' ⟨N, h2, _, _, h3⟩ => ⟨_, _, _, h2, h3⟩
  | _ =>
    obtain ⟨ev, h1, k1⟩ := hg.form
    exact (Tryz.strconv_Atoi_syntax s (by omega) h ev w h1 k1).mono fun e w' ⟨N, h2, _, _, h3⟩ => ⟨_, _, _, h2, h3⟩
theorem atoi_good (s : ByteArray) (hs : s.size ≤ 1000) (v : Int) (h : Lib.atoiAll s.data.toList = .ok v) (w : World) :
    Calls Tryz.prog 28 #[.string s] w fun e w' => e = .returned (.tuple #[.int .i64 v, .nilIface]) ∧ Below w.heap.size w w' :=
  (Tryz.strconv_Atoi_ok s (by omega) v h w).mono fun e w' ⟨h1, h2⟩ => ⟨h1, by
    rcases h2 with rfl | ⟨t, rfl⟩
    · exact Below.refl _ _
    · exact Lib.bytesWorld_below _ _ _⟩
/-- What ParseMonths gives. -/
def parseM (s : List UInt8) : Int × Int :=
  let D := secL 80 [89, 77] (Lib.trimPrefix s [45])
  let t := sumR (Lib.hasPrefix s [45]) [48] D.2.2.1 [[49, 50], [49]]
  if 200 < s.length then (0, 2)
  else if D.2.1 = 0 ∨ D.2.2.2 ≠ [] then (0, 5)
  else if t.2 ≠ 0 then (0, 6)
  else match Lib.atoiAll t.1 with
    | .ok v => if v < -9999999999 ∨ 9999999999 < v then (0, 6) else (v, 0)
    | _ => (0, 6)
theorem sumR_canonR (below : Bool) : ∀ (us ns : List (List UInt8)) (t : List UInt8), CanonR (t, 0) → CanonR (sumR below t ns us)
  | [], ns, t, h => by
    rw [sumR_end]
    split
    · exact negR_canonR t
    · exact h
  | u :: us, [], t, h => by
    show CanonR (if below = true then negR t else (t, 0))
    split
    · exact negR_canonR t
    · exact h
  | u :: us, n :: ns, t, h => by
    rw [sumR_step]
    split
    · exact errL_canonR _ (by assumption)
    · split
      · exact errL_canonR _ (by assumption)
      · split
        · exact errL_canonR _ (by assumption)
        · rename_i h3
          refine sumR_canonR below us ns _ ?_
          have := addR_canonR t (mulR (readR n).1 u).1
          have e : addR t (mulR (readR n).1 u).1 = ((addR t (mulR (readR n).1 u).1).1, 0) := by
            rw [← Classical.not_not.1 h3]
          rw [e] at this
          exact this
def monV (r : Int × Int) : Value := .tuple #[.int .i64 r.1, .int .i64 r.2]
set_option maxRecDepth 100000 in
set_option maxHeartbeats 8000000 in
theorem parseMonths_du (s : ByteArray) (w : World) (hg : GrD w) :
    Calls Tryz.prog 11 #[.string s] w fun e w' => e = .returned (monV (parseM s.data.toList)) ∧ Below w.heap.size w w' := by
  have hsl := ba_size s
  by_cases hL : 200 < s.size
  · have HV := Lib.hid (show parseM s.data.toList = (0, 2) by unfold parseM; simp only; rw [if_pos (by omega)])
    have hLz : (200 : Int) < (s.size : Int) := by omega
    rw [HV.out]
    clear hg hsl
    go_enter Tryz.func11, Tryz.ntmps11
    go_wp2_with fail
    go_ret2
    exact ⟨rfl, Below.refl _ _⟩
  have hLz : ¬ (200 : Int) < (s.size : Int) := by omega
  have hpl : (Lib.trimPrefix s.data.toList [45]).length ≤ s.data.toList.length := by unfold Lib.trimPrefix; split <;> simp
  have cP := fun W => Tryz.strings_CutPrefix s ⟨#[45]⟩ W
  rw [show (⟨#[45]⟩ : ByteArray).data.toList = [45] from rfl] at cP
  obtain ⟨F, hF, hFl⟩ := ba_ex (Lib.trimPrefix s.data.toList [45])
  obtain ⟨bl, hbl⟩ : ∃ b, Lib.hasPrefix s.data.toList [45] = b := ⟨_, rfl⟩
  rw [hF, hbl] at cP
  have hFs : F.size ≤ 1000 := by rw [ba_size, hFl]; omega
  have hv : parseM s.data.toList = if (secL 80 [89, 77] F.data.toList).2.1 = 0 ∨ (secL 80 [89, 77] F.data.toList).2.2.2 ≠ [] then ((0, 5) : Int × Int)
      else if (sumR bl [48] (secL 80 [89, 77] F.data.toList).2.2.1 [[49, 50], [49]]).2 ≠ 0 then (0, 6)
      else match Lib.atoiAll (sumR bl [48] (secL 80 [89, 77] F.data.toList).2.2.1 [[49, 50], [49]]).1 with
        | .ok v => if v < -9999999999 ∨ 9999999999 < v then (0, 6) else (v, 0)
        | _ => (0, 6) := by
    unfold parseM
    simp only
    rw [if_neg (by omega), hFl, hbl]
  obtain ⟨m, hm⟩ := hg.num.2
  have hF2 : F.data.toList.length ≤ 200 := by rw [hFl]; omega
  have HG := Lib.hid hg
  have hml := lt_of_cell hm
  have bx1 : BoxAt (w.alloc (.cells #[.string F] 9)) w.heap.size F := ⟨by simp [go_sem], by simp [go_sem], by simp⟩
  have hb1 : Below w.heap.size w (w.alloc (.cells #[.string F] 9)) := (Below.refl _ _).alloc (Nat.le_refl _) _
  have hl1 := strs_lit (w.alloc (.cells #[.string F] 9)) [[89], [77]]
  have hb2 : Below w.heap.size w ((w.alloc (.cells #[.string F] 9)).alloc (.cells #[.string ⟨#[89]⟩, .string ⟨#[77]⟩] 9)) := hb1.alloc hb1.size _
  have bx2 : BoxAt ((w.alloc (.cells #[.string F] 9)).alloc (.cells #[.string ⟨#[89]⟩, .string ⟨#[77]⟩] 9)) w.heap.size F := bx1.other (((Below.refl _ _).alloc (Nat.le_refl _) _ : Below (w.alloc (.cells #[.string F] 9)).heap.size _ _).block _ bx1.lt) (by simp)
  obtain ⟨W2, hW2⟩ : ∃ W2, (w.alloc (.cells #[.string F] 9)).alloc (.cells #[.string ⟨#[89]⟩, .string ⟨#[77]⟩] 9) = W2 := ⟨_, rfl⟩
  have hl1 : Strs W2 (.slice (some ⟨w.heap.size + 1, 0, none⟩) 2 2) [[89], [77]] := by
    rw [World.size_alloc] at hl1
    rw [← hW2]
    exact hl1
  rw [hW2] at hb2 bx2
  have hm2 := (hb2.cell (p := ⟨3, 0, none⟩) hml).trans hm
  have c1 := read_du 80 ⟨#[80]⟩ rfl [89, 77] (by decide) _ F hFs w.heap.size W2 m hm2 (by show 3 ≠ w.heap.size; have : 3 < w.heap.size := hml; omega) hl1 (by intro h; have h : some (w.heap.size + 1) = some w.heap.size := h; simp at h) bx2
  have HW2 := Lib.hid hW2
  have HB2 := Lib.hid hb2
  obtain ⟨D, hD⟩ : ∃ d, secL 80 [89, 77] F.data.toList = d := ⟨_, rfl⟩
  have dl := sec_len 80 [89, 77] F.data.toList hF2
  rw [hD] at c1 hv dl
  have HV := Lib.hid hv
  clear hF hFl hbl hpl hsl hv hD hm hml hb1 hl1 bx1 bx2 hW2 hm2 hb2 hg
  go_enter Tryz.func11, Tryz.ntmps11
  go_wp2_with fail
  refine (cP w).mono ?_
  rintro e w1 ⟨rfl, hw1⟩
  rw [hw1]
  clear hw1 w1
  go_wp2_with fail
  refine (reading_du F w).mono ?_
  rintro e w1 ⟨rfl, hw1⟩
  rw [hw1]
  clear hw1 w1
  go_wp2_with fail
  try rw [HW2.out]
  refine c1.mono ?_
  rintro e w3 ⟨v1, R, rfl, hR, ow3, bx3, old3⟩
  clear c1 cP
  obtain ⟨pv, cv, hpv⟩ := ow3.shape
  rw [dl.1] at hpv
  subst hpv
  obtain ⟨m1, k1, n1, R1⟩ := D
  simp only at hR ow3 dl HV ⊢
  obtain ⟨e1, he1⟩ : ∃ b : Bool, decide (R1 = []) = b := ⟨_, rfl⟩
  rw [he1]
  have vD : SecAt (w3.alloc (.cells #[.bool m1, .int .i64 (k1 : Int), .slice pv 2 cv, .bool e1] 43)) w3.heap.size m1 k1 (.slice pv 2 cv) e1 := SecAt.new w3 m1 k1 _ e1
  obtain ⟨W4, hW4⟩ : ∃ W4, w3.alloc (.cells #[.bool m1, .int .i64 (k1 : Int), .slice pv 2 cv, .bool e1] 43) = W4 := ⟨_, rfl⟩
  have hb34 : Below w3.heap.size w3 W4 := by rw [← hW4]; exact (Below.refl _ _).alloc (Nat.le_refl _) _
  rw [hW4] at vD
  have hbw3 : Below w.heap.size w w3 := old3.below _ _ (Nat.le_refl _) HB2.out
  have hbw4 : Below w.heap.size w W4 := hbw3.trans (hb34.mono hbw3.size)
  have HST := Lib.hid (ow3.strs.later hb34)
  have HVD := Lib.hid vD
  have HE1 := Lib.hid he1
  have HDL := Lib.hid dl
  have HW4 := Lib.hid hW4
  clear hR ow3 bx3 old3 dl he1 vD hb34 hbw3 hW4 HW2
  by_cases hk : k1 = 0
  · subst hk
    have HF := Lib.hid (show parseM s.data.toList = (0, 5) by rw [HV.out]; simp)
    go_wp2_with fail
    try rw [HW4.out]
    go_ret2
    exact ⟨by rw [HF.out]; rfl, by have h := hbw4; rw [← HW4.out] at h; exact h⟩
  have hkb : ((k1 : Int) == 0) = false := beq_eq_false_iff_ne.2 (by omega)
  cases e1 with
  | false =>
    have HF := Lib.hid (show parseM s.data.toList = (0, 5) by
      rw [HV.out]
      have : ¬ R1 = [] := of_decide_eq_false HE1.out
      simp [this])
    go_wp2_with fail
    try rw [HW4.out]
    go_ret2
    exact ⟨by rw [HF.out]; rfl, hbw4⟩
  | true =>
    have hr1 : R1 = [] := of_decide_eq_true HE1.out
    obtain ⟨RS, z, hRS⟩ := res_ex (sumR bl [48] n1 [[49, 50], [49]])
    have hv2 := HV.out
    rw [if_neg (by simp [hk, hr1]), hRS] at hv2
    simp only at hv2
    have HV2 := Lib.hid hv2
    have hRs : RS.size ≤ 52 := canonR_size (z := z) (by
      rw [← hRS]
      exact sumR_canonR bl _ _ [48] (.inr ⟨rfl, by decide +kernel, by decide⟩))
    have HRS := Lib.hid hRS
    clear hRS hv2
    -- the region
    have bD : Below W4.heap.size W4 W4.drew := (Below.refl W4.heap.size W4).drew
    have bE : Below W4.heap.size W4 (W4.drew.alloc (.cells #[.string ⟨#[49, 50]⟩, .string ⟨#[49]⟩] 9)) := bD.alloc (Nat.le_refl _) _
    have hvD := HVD.out
    have y2 := hvD.c2
    have E2 : (W4.drew.alloc (.cells #[.string ⟨#[49, 50]⟩, .string ⟨#[49]⟩] 9)).cell? ⟨w3.heap.size, 2, none⟩ = some (.slice pv 2 cv) := (bE.cell (p := ⟨w3.heap.size, 2, none⟩) hvD.lt).trans y2
    have cI : ∀ W, Calls Tryz.prog 27 #[.int .i64 12] W fun e w' => e = .returned (.string ⟨#[49, 50]⟩) ∧ w' = W := fun W => by
      have := Tryz.strconv_Itoa_small 12 (by omega) W
      rw [show Lib.decDigits 12 = [49, 50] by decide +kernel] at this
      exact this
    have hbE : Below w.heap.size w (W4.drew.alloc (.cells #[.string ⟨#[49, 50]⟩, .string ⟨#[49]⟩] 9)) := hbw4.trans (bE.mono hbw4.size)
    have cS := sum_du bl (.slice pv 2 cv) (.slice (some ⟨W4.heap.size, 0, none⟩) 2 2) n1 [[49, 50], [49]] (by rw [HDL.out.1]; rfl) (by decide) (fun l hl => by have := HDL.out.2 l hl; omega) (by decide) _ (HG.out.num.later hbE) (HST.out.later bE) (strs_lit W4.drew [[49, 50], [49]])
    rw [HRS.out] at cS
    have e5 : resV (RS.data.toList, z) = .tuple #[.string RS, .int .i64 z] := rfl
    rw [e5] at cS
    obtain ⟨f0, f1, _, f3, _, _, _, _, fl⟩ := id hvD
    have hHW4 := HW4.out
    clear e5 hvD hbE
    go_wp2_with fail
    try rw [HW4.out]
    go_region_held3 (fun w' => w'.cell? ⟨w3.heap.size, 2, none⟩ = some (.slice pv 2 cv)) (first | exact Z2 | exact E2 | exact y2) (first | (go_at_call 27; refine (cI _).mono ?_; rintro e wI ⟨rfl, rfl⟩) | (go_at_call 26; refine cS.mono ?_; rintro e wS ⟨rfl, hbS⟩; have bS : Below W4.heap.size W4 wS := bE.trans (hbS.mono bE.size); have Z2 := (bS.cell (p := ⟨w3.heap.size, 2, none⟩) fl).trans y2))
    all_goals
      have hbwS := hbw4.trans (bS.mono hbw4.size)
      have HGS := Lib.hid (HG.out.later hbwS)
      clear cS cI bD bE E2 y2 Z2 hbS bS hHW4
      by_cases hz : z = 0
      · subst hz
        cases ha : Lib.atoiAll RS.data.toList with
        | ok v =>
          have cA := atoi_good RS (by omega) v ha wS
          have hv3 := HV2.out
          rw [if_neg (by simp), ha] at hv3
          simp only at hv3
          have HV3 := Lib.hid hv3
          clear hv3 ha
          by_cases h1 : v < -9999999999
          · have HF := Lib.hid (show parseM s.data.toList = (0, 6) by rw [HV3.out, if_pos (.inl h1)])
            go_wp2_with fail
            refine cA.mono ?_
            rintro e w7 ⟨rfl, hb7⟩
            go_wp2_with fail
            go_ret2
            exact ⟨by rw [HF.out]; rfl, hbwS.trans (hb7.mono hbwS.size)⟩
          · by_cases h2 : 9999999999 < v
            · have HF := Lib.hid (show parseM s.data.toList = (0, 6) by rw [HV3.out, if_pos (.inr h2)])
              go_wp2_with fail
              refine cA.mono ?_
              rintro e w7 ⟨rfl, hb7⟩
              go_wp2_with fail
              go_ret2
              exact ⟨by rw [HF.out]; rfl, hbwS.trans (hb7.mono hbwS.size)⟩
            · have HF := Lib.hid (show parseM s.data.toList = (v, 0) by rw [HV3.out, if_neg (by rintro (h | h); exact h1 h; exact h2 h)])
              go_wp2_with fail
              refine cA.mono ?_
              rintro e w7 ⟨rfl, hb7⟩
              go_wp2_with fail
              go_ret2
              exact ⟨by rw [HF.out]; rfl, hbwS.trans (hb7.mono hbwS.size)⟩
        | range =>
          have cA := atoi_bad RS (by omega) (by rw [ha]; intro v h; cases h) wS HGS.out
          have HF := Lib.hid (show parseM s.data.toList = (0, 6) by rw [HV2.out, if_neg (by simp), ha])
          clear ha
          go_wp2_with fail
          refine cA.mono ?_
          rintro e w7 ⟨x, t, p, rfl, hb7⟩
          go_wp2_with fail
          go_ret2
          exact ⟨by rw [HF.out]; rfl, hbwS.trans (hb7.mono hbwS.size)⟩
        | _ =>
          have cA := atoi_bad RS (by omega) (by rw [ha]; intro v h; cases h) wS HGS.out
          have HF := Lib.hid (show parseM s.data.toList = (0, 6) by rw [HV2.out, if_neg (by simp), ha])
          clear ha
          go_wp2_with fail
          refine cA.mono ?_
          rintro e w7 ⟨x, t, p, rfl, hb7⟩
          go_wp2_with fail
          go_ret2
          exact ⟨by rw [HF.out]; rfl, hbwS.trans (hb7.mono hbwS.size)⟩
      · have HF := Lib.hid (show parseM s.data.toList = (0, 6) by rw [HV2.out, if_pos hz])
        have hzb : (z == 0) = false := beq_eq_false_iff_ne.2 hz
        have hzc : (z != 0) = true := by simp [hz]
        go_wp2_with fail
        go_ret2
        exact ⟨by rw [HF.out]; rfl, hbwS⟩
end Go.Proofs.YtdfgifnccghlmabGreatDoor
namespace Go.Proofs.YtdfgifnccghlmabGreatDoor
open Go.RowKit Go.Lib

theorem onD_of {w : World} (hg : GrD w) {f : Nat} {args : Array Value} {v : Value} (h : ∀ W, GrD W → Calls Tryz.prog f args W fun e w' => e = .returned v ∧ Below W.heap.size W w') : On w f args v :=
  fun W hW => (h W (hg.later hW)).mono fun _ _ k => ⟨k.1, hW.trans (k.2.mono hW.size)⟩
section
variable {w : World} (hg : GrD w)
include hg
theorem parseM_on (s : ByteArray) (n z : Int) (h : parseM s.data.toList = (n, z)) : On w 11 #[.string s] (.tuple #[.int .i64 n, .int .i64 z]) := onD_of hg fun W hW => by
  have := parseMonths_du s W hW
  rw [h] at this
  exact this
theorem textM_on (n : Int) (h1 : -9223372036854775808 ≤ n) (h2 : n ≤ 9223372036854775807) (s : ByteArray) (z : Int) (h : textM n = (s.data.toList, z)) : On w 14 #[.int .i64 n] (.tuple #[.string s, .int .i64 z]) := onD_of hg fun W hW => by
  rw [← resV_on h]; exact textMonths_du n h1 h2 W hW.num
theorem parseS_on (s r : ByteArray) (z : Int) (h : parseS s.data.toList = (r.data.toList, z)) : On w 16 #[.string s] (.tuple #[.string r, .int .i64 z]) := onD_of hg fun W hW => by
  rw [← resV_on h]; exact parseSeconds_du s W hW.num
theorem textS_on (n r : ByteArray) (z : Int) (hn : n.size < 4294967281) (h : textS n.data.toList = (r.data.toList, z)) : On w 18 #[.string n] (.tuple #[.string r, .int .i64 z]) := onD_of hg fun W hW => by
  rw [← resV_on h]; exact textSeconds_du n hn W hW.num
set_option maxRecDepth 100000 in
set_option maxHeartbeats 4000000 in
theorem works_du : On w 13 #[] (.bool true) := onD_of hg fun W hW => by
  have c1 := (parseM_on hW ⟨#[80, 49, 89, 50, 77]⟩ 14 0 (by decide +kernel)).use
  have c2 := (textM_on hW 14 (by omega) (by omega) ⟨#[80, 49, 89, 50, 77]⟩ 0 (by decide +kernel)).use
  have c3 := (parseS_on hW ⟨#[80, 49, 68, 84, 50, 72, 51, 77, 52, 46, 53, 83]⟩ ⟨#[57, 51, 55, 56, 52, 46, 53]⟩ 0 (by decide +kernel)).use
  have c4 := (textS_on hW ⟨#[57, 51, 55, 56, 52, 46, 53]⟩ ⟨#[80, 49, 68, 84, 50, 72, 51, 77, 52, 46, 53, 83]⟩ 0 (by decide) (by decide +kernel)).use
  clear hW hg
  go_enter Tryz.func13, Tryz.ntmps13
  go_wp2_with fail
  refine (c1 W (Below.refl _ _)).mono ?_
  rintro e w1 ⟨rfl, b1⟩
  go_wp2_with fail
  refine (c2 w1 b1).mono ?_
  rintro e w2 ⟨rfl, b2⟩
  go_wp2_with fail
  refine (c3 w2 b2).mono ?_
  rintro e w3 ⟨rfl, b3⟩
  go_wp2_with fail
  refine (c4 w3 b3).mono ?_
  rintro e w4 ⟨rfl, b4⟩
  go_wp2_with fail
  go_ret
  exact ⟨rfl, b4⟩
end
end Go.Proofs.YtdfgifnccghlmabGreatDoor

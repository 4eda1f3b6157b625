/- The specification of num: the contracts of Canonical, Parse and two. The specification of num: the contracts of Parse and two. -/
import Derived.Test.YtdfgifnccghlmabGreatDoorMRfRead
namespace Go.Proofs.YtdfgifnccghlmabGreatDoor.R
open Go.RowKit Go.Lib
open Go.Proofs.YtdfgifnccghlmabGreatDoor (isDg valD signOf Wr splitL numL divW evenW wayL VarAt Stored lt_of_cell trimW canonL bodyL resR resV readR bytes_eq)

theorem text_of {b : Bool} {n : Nat} {t : List UInt8} (hb : b = true → n ≠ 0) (hn : n < 10 ^ 50) (h : resR b n = (t, 0)) : (if b = true then [45] else []) ++ bodyL n = t := by
  rw [res_text b n hn] at h
  have e : (b && decide (n ≠ 0)) = b := by
    cases b with
    | false => rfl
    | true => simpa using hb rfl
  rw [e] at h
  exact congrArg Prod.fst h
set_option maxHeartbeats 4000000 in
set_option maxRecDepth 100000 in
theorem can_some (s : ByteArray) (b : Bool) (n : Nat) (hc : canonL s.data.toList = some (b, n)) (w : World) :
    Calls Tryz.prog 97 #[.string s] w fun e w' => ∃ p c, e = .returned (.tuple #[.agg #[.bool b, .slice p (wordsOf n).length c], .bool true]) ∧ Digs w' (.slice p (wordsOf n).length c) (wordsOf n) ∧ Below w.heap.size w w' := by
  obtain ⟨h1, h2, h3⟩ := readN_canon hc
  have hbn : b = true → n ≠ 0 := (canon_readN h1).2.1
  have ht := text_of hbn h2 h3
  have hs : (⟨((if b = true then [45] else []) ++ bodyL n).toArray⟩ : ByteArray) = s := bytes_eq.2 (by rw [ht])
  have hwl : (wordsOf n).length ≤ 50 := (len_50 n).2 h2
  have vR0 := var_new w false none 0 0
  have hb0 : Below w.heap.size w (w.alloc (.cells #[.bool false, .slice none 0 0] 86)) := (Below.refl _ _).alloc (Nat.le_refl _) _
  obtain ⟨W0, hW0⟩ : ∃ W0, w.alloc (.cells #[.bool false, .slice none 0 0] 86) = W0 := ⟨_, rfl⟩
  rw [hW0] at vR0 hb0
  have cR := read_any s W0
  rw [h1] at cR
  have cT := fun W u (hu : Digs W u (wordsOf n)) => text_any b n u (by omega) W hu
  rw [hs] at cT
  have HW0 := Lib.hid hW0
  clear hc h1 h2 h3 ht hs hwl hW0 hbn
  go_enter Tryz.func97, Tryz.ntmps97
  go_wp2_with fail
  try rw [HW0.out]
  refine cR.mono ?_
  rintro e w1 ⟨⟨p, c, rfl, hD⟩, hb1⟩
  simp only at hD ⊢
  have vR1 := vR0.below hb1
  have hbw1 := hb0.trans (hb1.mono hb0.size)
  obtain ⟨l, hl⟩ : ∃ l, (wordsOf n).length = l := ⟨_, rfl⟩
  rw [hl] at hD ⊢
  have vX := var_new w1 b p l c
  have hbA : Below w1.heap.size w1 (w1.alloc (.cells #[.bool b, .slice p l c] 86)) := (Below.refl _ _).alloc (Nat.le_refl _) _
  have hD2 := hD.later hbA
  have vR2 := vR1.below hbA
  have hbw2 := hbw1.trans (hbA.mono hbw1.size)
  obtain ⟨W2, hW2⟩ : ∃ W2, w1.alloc (.cells #[.bool b, .slice p l c] 86) = W2 := ⟨_, rfl⟩
  rw [hW2] at vX hD2 vR2 hbw2
  have HD2 := Lib.hid hD2
  have cT2 := cT W2 _ hD2
  have HX := Lib.hid vX
  have HR := Lib.hid vR2
  obtain ⟨x0, x1, x2, x3, _⟩ := id vX
  have HL := Lib.hid hl
  clear hD hD2 cT cR vR0 vR1 hb1 hbA HW0 hbw1 vX vR2 hl
  go_wp2_with fail
  try rw [hW2]
  clear hW2
  go_wp2_with fail
  refine cT2.mono ?_
  rintro e w3 ⟨rfl, hb3⟩
  have vR3 := HR.out.below hb3
  have vX3 := HX.out.below hb3
  obtain ⟨y0, y1, y2, y3, _⟩ := id vX3
  obtain ⟨z0, z1, z2, z3, _⟩ := id vR3
  obtain ⟨W8, hW8, v8, st8⟩ := vR3.set b p l c
  have hb8 := st8.below (hbw2.trans (hb3.mono hbw2.size)) (Nat.le_refl _)
  have HD8 := Lib.hid (show Digs W8 (.slice p l c) (wordsOf n) by
    have := ((HD2.out.later hb3).setCell (.bool b) vR3.c0 (fun k i h => by cases h)).setCell (.slice p l c) ((World.cell?_setCell_other _ _ _ _ (by simp)).trans vR3.c1) (fun k i h => by cases h)
    rw [hW8] at this
    exact this)
  obtain ⟨r0, r1, _, _, _⟩ := id v8
  clear cT2 vX3 vR3 x0 x1 x2 x3 v8 st8
  go_wp2_with fail
  exact bodyPost_ret (v := .tuple #[.agg #[.bool b, .slice p l c], .bool true]) (by simp [results, Tryz.results97, go_sem, r0, r1]) rfl ⟨p, c, by rw [HL.out], by rw [HL.out]; exact HD8.out, hb8⟩
set_option maxHeartbeats 4000000 in
set_option maxRecDepth 100000 in
theorem can_none (s : ByteArray) (hc : canonL s.data.toList = none) (w : World) :
    Calls Tryz.prog 97 #[.string s] w fun e w' => e = .returned (.tuple #[.agg #[.bool false, .slice none 0 0], .bool false]) ∧ Below w.heap.size w w' := by
  have vR0 := var_new w false none 0 0
  have hb0 : Below w.heap.size w (w.alloc (.cells #[.bool false, .slice none 0 0] 86)) := (Below.refl _ _).alloc (Nat.le_refl _) _
  obtain ⟨W0, hW0⟩ : ∃ W0, w.alloc (.cells #[.bool false, .slice none 0 0] 86) = W0 := ⟨_, rfl⟩
  rw [hW0] at vR0 hb0
  have cR := read_any s W0
  have HW0 := Lib.hid hW0
  cases hr : readN s.data.toList with
  | inl z =>
    rw [hr] at cR
    have hz : z ≠ 0 := by
      rintro rfl
      unfold readN at hr
      split at hr
      · cases hr
      · split at hr
        · cases hr
        · split at hr
          · cases hr
          · cases hr
    have hzb : (z == 0) = false := beq_eq_false_iff_ne.2 hz
    have hzc : (z != 0) = true := by simp [hz]
    clear hW0 hc hr
    go_enter Tryz.func97, Tryz.ntmps97
    go_wp2_with fail
    try rw [HW0.out]
    refine cR.mono ?_
    rintro e w1 ⟨hG, hb1⟩
    obtain rfl : e = .returned (.tuple #[.agg #[.bool false, .slice none 0 0], .int .i64 z]) := hG
    have vR1 := vR0.below hb1
    have hbw1 := hb0.trans (hb1.mono hb0.size)
    obtain ⟨W8, hW8, v8, st8⟩ := vR1.set false none 0 0
    have hb8 := st8.below hbw1 (Nat.le_refl _)
    have v9 := v8.below (W' := W8.alloc (.cells #[.bool false, .slice none 0 0] 86)) ((Below.refl _ _).alloc (Nat.le_refl _) _)
    have hb9 : Below w.heap.size w (W8.alloc (.cells #[.bool false, .slice none 0 0] 86)) := hb8.alloc hb8.size _
    obtain ⟨r0, r1, _, _, _⟩ := id v9
    obtain ⟨z0, z1, z2, z3, zlt⟩ := id vR1
    have HW8 := Lib.hid hW8
    clear cR vR0 vR1 hb1 HW0 hbw1 v8 v9 st8 hW8
    go_wp2_with fail
    try rw [HW8.out]
    exact bodyPost_ret (v := .tuple #[.agg #[.bool false, .slice none 0 0], .bool false]) (by simp [results, Tryz.results97, go_sem, r0, r1]) rfl ⟨rfl, hb9⟩
  | inr x =>
    obtain ⟨b, n⟩ := x
    obtain ⟨h2, hbn, t, h3, ht4⟩ := canon_readN hr
    rw [hr] at cR
    have ht := text_of hbn h2 h3
    obtain ⟨T, hT⟩ : ∃ T : ByteArray, (⟨((if b = true then [45] else []) ++ bodyL n).toArray⟩ : ByteArray) = T := ⟨_, rfl⟩
    have hne : ¬ T = s := fun e => by
      have : t = s.data.toList := by rw [← ht, ← e, ← hT]
      rw [ht4 this] at hc
      cases hc
    have hneb : (T.toList == s.toList) = false := by
      rw [beq_eq_false_iff_ne]
      intro h
      rw [ByteArray.toList_eq, ByteArray.toList_eq] at h
      exact hne (bytes_eq.2 h)
    have hwl : (wordsOf n).length ≤ 50 := (len_50 n).2 h2
    have cT := fun W u (hu : Digs W u (wordsOf n)) => text_any b n u (by omega) W hu
    rw [hT] at cT
    clear hc hr h2 h3 ht ht4 hT hwl hW0 hbn
    go_enter Tryz.func97, Tryz.ntmps97
    go_wp2_with fail
    try rw [HW0.out]
    refine cR.mono ?_
    rintro e w1 ⟨⟨p, c, rfl, hD⟩, hb1⟩
    simp only at hD ⊢
    have vR1 := vR0.below hb1
    have hbw1 := hb0.trans (hb1.mono hb0.size)
    obtain ⟨l, hl⟩ : ∃ l, (wordsOf n).length = l := ⟨_, rfl⟩
    rw [hl] at hD ⊢
    have vX := var_new w1 b p l c
    have hbA : Below w1.heap.size w1 (w1.alloc (.cells #[.bool b, .slice p l c] 86)) := (Below.refl _ _).alloc (Nat.le_refl _) _
    have hD2 := hD.later hbA
    have vR2 := vR1.below hbA
    have hbw2 := hbw1.trans (hbA.mono hbw1.size)
    obtain ⟨W2, hW2⟩ : ∃ W2, w1.alloc (.cells #[.bool b, .slice p l c] 86) = W2 := ⟨_, rfl⟩
    rw [hW2] at vX hD2 vR2 hbw2
    have cT2 := cT W2 _ hD2
    have HR := Lib.hid vR2
    obtain ⟨x0, x1, x2, x3, _⟩ := id vX
    clear hD hD2 cT cR vR0 vR1 hb1 hbA HW0 hbw1 vX vR2 hl
    go_wp2_with fail
    try rw [hW2]
    clear hW2
    go_wp2_with fail
    refine cT2.mono ?_
    rintro e w3 ⟨rfl, hb3⟩
    have vR3 := HR.out.below hb3
    obtain ⟨z0, z1, z2, z3, _⟩ := id vR3
    obtain ⟨W8, hW8, v8, st8⟩ := vR3.set false none 0 0
    have hb8 := st8.below (hbw2.trans (hb3.mono hbw2.size)) (Nat.le_refl _)
    obtain ⟨r0, r1, _, _, _⟩ := id v8
    have HW8 := Lib.hid hW8
    clear cT2 vR3 x0 x1 x2 x3 v8 st8 hW8
    go_wp2_with fail
    try rw [HW8.out]
    exact bodyPost_ret (v := .tuple #[.agg #[.bool false, .slice none 0 0], .bool false]) (by simp [results, Tryz.results97, go_sem, r0, r1]) rfl ⟨rfl, hb8⟩
end Go.Proofs.YtdfgifnccghlmabGreatDoor.R
namespace Go.Proofs.YtdfgifnccghlmabGreatDoor.R
open Go.RowKit Go.Lib
open Go.Proofs.YtdfgifnccghlmabGreatDoor (isDg valD signOf Wr splitL numL divW evenW wayL VarAt Stored lt_of_cell trimW canonL bodyL resR resV readR bytes_eq)

set_option maxHeartbeats 4000000 in
set_option maxRecDepth 100000 in
theorem parse_any (s : ByteArray) (w : World) :
    Calls Tryz.prog 41 #[.string s] w fun e w' => e = .returned (resV (readR s.data.toList)) ∧ Below w.heap.size w w' := by
  have cR := read_any s w
  rw [← readN_res]
  cases hr : readN s.data.toList with
  | inl z =>
    rw [hr] at cR
    have hz : z ≠ 0 := by
      rintro rfl
      unfold readN at hr
      split at hr
      · cases hr
      · split at hr
        · cases hr
        · split at hr
          · cases hr
          · cases hr
    have hzb : (z == 0) = false := beq_eq_false_iff_ne.2 hz
    have hzc : (z != 0) = true := by simp [hz]
    clear hr
    go_enter Tryz.func41, Tryz.ntmps41
    go_wp2_with fail
    refine cR.mono ?_
    rintro e w1 ⟨hG, hb1⟩
    obtain rfl : e = .returned (.tuple #[.agg #[.bool false, .slice none 0 0], .int .i64 z]) := hG
    go_wp2_with fail
    go_ret2
    exact ⟨rfl, hb1.alloc hb1.size _⟩
  | inr x =>
    obtain ⟨b, n⟩ := x
    obtain ⟨h2, hbn, t, h3, _⟩ := canon_readN hr
    rw [hr] at cR
    have ht := text_of hbn h2 h3
    have hwl : (wordsOf n).length ≤ 50 := (len_50 n).2 h2
    have cT := fun W u (hu : Digs W u (wordsOf n)) => text_any b n u (by omega) W hu
    rw [ht] at cT
    have HV := Lib.hid (show resV (resN (.inr (b, n))) = .tuple #[.string ⟨t.toArray⟩, .int .i64 0] by show resV (resR b n) = _; rw [h3]; rfl)
    rw [HV.out]
    obtain ⟨T, hT⟩ : ∃ T : ByteArray, (⟨t.toArray⟩ : ByteArray) = T := ⟨_, rfl⟩
    rw [hT] at cT ⊢
    clear hr h2 h3 ht hwl hbn HV hT
    go_enter Tryz.func41, Tryz.ntmps41
    go_wp2_with fail
    refine cR.mono ?_
    rintro e w1 ⟨⟨p, c, rfl, hD⟩, hb1⟩
    simp only at hD ⊢
    obtain ⟨l, hl⟩ : ∃ l, (wordsOf n).length = l := ⟨_, rfl⟩
    rw [hl] at hD ⊢
    have vX := var_new w1 b p l c
    have hbA : Below w1.heap.size w1 (w1.alloc (.cells #[.bool b, .slice p l c] 86)) := (Below.refl _ _).alloc (Nat.le_refl _) _
    have hD2 := hD.later hbA
    have hbw2 := hb1.trans (hbA.mono hb1.size)
    obtain ⟨W2, hW2⟩ : ∃ W2, w1.alloc (.cells #[.bool b, .slice p l c] 86) = W2 := ⟨_, rfl⟩
    rw [hW2] at vX hD2 hbw2
    have cT2 := cT W2 _ hD2
    obtain ⟨x0, x1, x2, x3, _⟩ := id vX
    clear hD hD2 cT cR hb1 hbA vX hl
    go_wp2_with fail
    try rw [hW2]
    clear hW2
    go_wp2_with fail
    refine cT2.mono ?_
    rintro e w3 ⟨rfl, hb3⟩
    go_wp2_with fail
    go_ret2
    exact ⟨rfl, hbw2.trans (hb3.mono hbw2.size)⟩
/-- What Canonical gives. -/
def CanG (w' : World) (s : List UInt8) (v : Value) (ok : Bool) : Prop := (ok = true ∧ ∃ b n p c, canonL s = some (b, n) ∧ v = .agg #[.bool b, .slice p (wordsOf n).length c] ∧ Digs w' (.slice p (wordsOf n).length c) (wordsOf n)) ∨ (ok = false ∧ canonL s = none ∧ v = .agg #[.bool false, .slice none 0 0])
theorem CanG.shape {w' : World} {s : List UInt8} {v : Value} {ok : Bool} (h : CanG w' s v ok) : ∃ b p l c, v = .agg #[.bool b, .slice p l c] := by
  rcases h with ⟨_, b, n, p, c, _, rfl, _⟩ | ⟨_, _, rfl⟩
  · exact ⟨_, _, _, _, rfl⟩
  · exact ⟨_, _, _, _, rfl⟩
theorem CanG.later {w w' : World} {s : List UInt8} {v : Value} {ok : Bool} (h : CanG w s v ok) (hb : Below w.heap.size w w') : CanG w' s v ok := by
  rcases h with ⟨h1, b, n, p, c, h2, h3, h4⟩ | h
  · exact .inl ⟨h1, b, n, p, c, h2, h3, h4.later hb⟩
  · exact .inr h
theorem CanG.set {w : World} {s : List UInt8} {v : Value} {ok : Bool} (h : CanG w s v ok) {B : Nat} {b : Bool} {p : Option Addr} {l c : Nat} (hv : VarAt w B b p l c) (b' : Bool) (p' : Option Addr) (l' c' : Nat) : CanG ((w.setCell ⟨B, 0, none⟩ (.bool b')).setCell ⟨B, 1, none⟩ (.slice p' l' c')) s v ok := by
  rcases h with ⟨h1, b1, n, p1, c1, h2, h3, h4⟩ | h
  · exact .inl ⟨h1, b1, n, p1, c1, h2, h3, (h4.setCell (.bool b') hv.c0 (fun k i h => by cases h)).setCell (.slice p' l' c') ((World.cell?_setCell_other _ _ _ _ (by simp)).trans hv.c1) (fun k i h => by cases h)⟩
  · exact .inr h
theorem can_any (s : ByteArray) (w : World) :
    Calls Tryz.prog 97 #[.string s] w fun e w' => ∃ v ok, e = .returned (.tuple #[v, .bool ok]) ∧ CanG w' s.data.toList v ok ∧ Below w.heap.size w w' := by
  cases hc : canonL s.data.toList with
  | none => exact (can_none s hc w).mono fun e w' ⟨h1, h2⟩ => ⟨_, false, h1, .inr ⟨rfl, hc, rfl⟩, h2⟩
  | some x => exact (can_some s x.1 x.2 hc w).mono fun e w' ⟨p, c, h1, h2, h3⟩ => ⟨_, true, h1, .inl ⟨rfl, _, _, p, c, hc, rfl, h2⟩, h3⟩
/-- What two gives. -/
def TwoG (w' : World) (a b : List UInt8) (v1 v2 : Value) (ok : Bool) : Prop := ∃ o1 o2, CanG w' a v1 o1 ∧ CanG w' b v2 o2 ∧ ok = (o1 && o2)
set_option maxHeartbeats 8000000 in
set_option maxRecDepth 100000 in
theorem two_any (a b : ByteArray) (w : World) :
    Calls Tryz.prog 65 #[.string a, .string b] w fun e w' => ∃ v1 v2 ok, e = .returned (.tuple #[v1, v2, .bool ok]) ∧ TwoG w' a.data.toList b.data.toList v1 v2 ok ∧ Below w.heap.size w w' := by
  have vB0 : VarAt ((w.alloc (.cells #[.bool false, .slice none 0 0] 86)).alloc (.cells #[.bool false, .slice none 0 0] 86)) w.heap.size false none 0 0 := (var_new w _ _ _ _).below ((Below.refl _ _).alloc (Nat.le_refl _) _)
  have vC0 : VarAt ((w.alloc (.cells #[.bool false, .slice none 0 0] 86)).alloc (.cells #[.bool false, .slice none 0 0] 86)) (w.heap.size + 1) false none 0 0 := by
    have := var_new (w.alloc (.cells #[.bool false, .slice none 0 0] 86)) false none 0 0
    rwa [World.size_alloc] at this
  have hb0 : Below w.heap.size w ((w.alloc (.cells #[.bool false, .slice none 0 0] 86)).alloc (.cells #[.bool false, .slice none 0 0] 86)) := ((Below.refl _ w).alloc (Nat.le_refl _) _).alloc (by simp) _
  obtain ⟨W0, hW0⟩ : ∃ W0, (w.alloc (.cells #[.bool false, .slice none 0 0] 86)).alloc (.cells #[.bool false, .slice none 0 0] 86) = W0 := ⟨_, rfl⟩
  rw [hW0] at vB0 vC0 hb0
  have HW0 := Lib.hid hW0
  have cA := can_any a W0
  have cB := fun W => can_any b W
  clear hW0
  go_enter Tryz.func65, Tryz.ntmps65
  go_wp2_with fail
  try rw [HW0.out]
  refine cA.mono ?_
  rintro e w1 ⟨v1, o1, rfl, hv1, hb1⟩
  obtain ⟨b1, p1, l1, c1, rfl⟩ := hv1.shape
  have vB1 := vB0.below hb1
  have vC1 := vC0.below hb1
  have hbw1 := hb0.trans (hb1.mono hb0.size)
  have vX := var_new w1 b1 p1 l1 c1
  have hbA : Below w1.heap.size w1 (w1.alloc (.cells #[.bool b1, .slice p1 l1 c1] 86)) := (Below.refl _ _).alloc (Nat.le_refl _) _
  have hv2 := hv1.later hbA
  have vB2 := vB1.below hbA
  have vC2 := vC1.below hbA
  have hbw2 := hbw1.trans (hbA.mono hbw1.size)
  obtain ⟨W2, hW2⟩ : ∃ W2, w1.alloc (.cells #[.bool b1, .slice p1 l1 c1] 86) = W2 := ⟨_, rfl⟩
  rw [hW2] at vX hv2 vB2 vC2 hbw2
  have cB2 := cB W2
  obtain ⟨N1, hN1⟩ : ∃ N, w1.heap.size = N := ⟨_, rfl⟩
  have HW2 := Lib.hid hW2
  have hN1w : w.heap.size + 1 < N1 := by rw [← hN1]; exact vC1.lt
  rw [hN1] at vX
  have HN1 := Lib.hid hN1
  clear hv1 cA cB hb1 hbA HW0 hbw1 hW2 vB0 vC0 vB1 vC1 hN1
  go_wp2_with fail
  try rw [HW2.out]
  try rw [HN1.out]
  refine cB2.mono ?_
  rintro e w3 ⟨v2, o2, rfl, hv3, hb3⟩
  obtain ⟨b2, p2, l2, c2, rfl⟩ := hv3.shape
  have vB3 := vB2.below hb3
  have vC3 := vC2.below hb3
  have vX3 := vX.below hb3
  have hv4 := hv2.later hb3
  have hbw3 := hbw2.trans (hb3.mono hbw2.size)
  have vY := var_new w3 b2 p2 l2 c2
  have hbA : Below w3.heap.size w3 (w3.alloc (.cells #[.bool b2, .slice p2 l2 c2] 86)) := (Below.refl _ _).alloc (Nat.le_refl _) _
  have hg1 := hv4.later hbA
  have hg2 := hv3.later hbA
  have vB4 := vB3.below hbA
  have vC4 := vC3.below hbA
  have vX4 := vX3.below hbA
  have hbw4 := hbw3.trans (hbA.mono hbw3.size)
  obtain ⟨W4, hW4⟩ : ∃ W4, w3.alloc (.cells #[.bool b2, .slice p2 l2 c2] 86) = W4 := ⟨_, rfl⟩
  rw [hW4] at vY hg1 hg2 vB4 vC4 vX4 hbw4
  have hN3 := vX3.lt
  have HW4 := Lib.hid hW4
  clear hv2 hv3 hv4 cB2 hb3 hbA hbw2 hbw3 hW4 vB2 vC2 vB3 vC3 vX vX3 HW2
  go_wp2_with fail
  try rw [HW4.out]
  clear HW4
  obtain ⟨N3, hN3e⟩ : ∃ N, w3.heap.size = N := ⟨_, rfl⟩
  rw [hN3e] at vY hN3 ⊢
  clear hN3e HN1
  obtain ⟨W5, hW5, vB5, st5⟩ := vB4.set b1 p1 l1 c1
  have vC5 := st5.var (B' := w.heap.size + 1) (by omega) vC4
  have hb5 := st5.below hbw4 (Nat.le_refl _)
  have he1 := hg1.set vB4 b1 p1 l1 c1
  have he2 := hg2.set vB4 b1 p1 l1 c1
  rw [hW5] at he1 he2
  obtain ⟨W6, hW6, vC6, st6⟩ := vC5.set b2 p2 l2 c2
  have vB6 := st6.var (B' := w.heap.size) (by omega) vB5
  have hb6 := (st6.below hb5 (Nat.le_succ _)).drew
  have hf1 := he1.set vC5 b2 p2 l2 c2
  have hf2 := he2.set vC5 b2 p2 l2 c2
  rw [hW6] at hf1 hf2
  have HF := Lib.hid (And.intro (hf1.later (Below.refl W6.heap.size W6).drew) (hf2.later (Below.refl W6.heap.size W6).drew))
  obtain ⟨x0, x1, _, _, _⟩ := id vX4
  obtain ⟨y0, y1, _, _, _⟩ := id vY
  obtain ⟨x2, x3, _, _, _⟩ := st5.var (B' := N1) (by omega) vX4
  obtain ⟨y2, y3, _, _, _⟩ := st5.var (B' := N3) (by omega) vY
  obtain ⟨s0, s1, s2, s3, _⟩ := id vB4
  obtain ⟨t0, t1, t2, t3, _⟩ := id vC5
  obtain ⟨r0, r1, _, _, _⟩ := id vB6
  obtain ⟨q0, q1, _, _, _⟩ := id vC6
  clear hf1 hf2 he1 he2 hg1 hg2 vB4 vC4 vX4 vY vB5 vC5 vB6 vC6 st5 st6 hbw4 hb5
  cases o1 with
  | true =>
    go_region_law (fail)
    all_goals
      go_wp2_with fail
      exact bodyPost_ret (v := .tuple #[.agg #[.bool b1, .slice p1 l1 c1], .agg #[.bool b2, .slice p2 l2 c2], .bool o2]) (by simp [results, Tryz.results65, go_sem, r0, r1, q0, q1]) rfl ⟨_, _, _, rfl, ⟨true, o2, HF.out.1, HF.out.2, rfl⟩, hb6⟩
  | false =>
    go_region
    all_goals
      go_wp2_with fail
      exact bodyPost_ret (v := .tuple #[.agg #[.bool b1, .slice p1 l1 c1], .agg #[.bool b2, .slice p2 l2 c2], .bool false]) (by simp [results, Tryz.results65, go_sem, r0, r1, q0, q1]) rfl ⟨_, _, _, rfl, ⟨false, o2, HF.out.1, HF.out.2, rfl⟩, hb6⟩
end Go.Proofs.YtdfgifnccghlmabGreatDoor.R

/- Numbers as they are written: the contract of isDigits. Numbers as they are written: what strings.Cut gives at a point; the fields of a written number. Numbers as they are written: the contract of split. -/
import Derived.Test.YtgmnjghbafbopaaGreatDoorMNuNum
import Derived.Laws.RangeString
import Derived.Laws.RangeAny
import Derived.Shelf.GgClosure.StringsIndexFunc
import Derived.Lib.IndexMore
namespace Go.Proofs.YtgmnjghbafbopaaGreatDoor
open Go.RowKit Go.Lib

def nonDg (x : Nat) : Bool := decide (x < 48 ∨ 57 < x)
theorem nonDg_byte (b : UInt8) : nonDg b.toNat = !isDg b := by
  unfold nonDg
  cases h : isDg b with
  | true => rw [isDg_iff] at h; exact decide_eq_false (by omega)
  | false =>
    have : ¬ (48 ≤ b.toNat ∧ b.toNat ≤ 57) := fun k => by rw [(isDg_iff b).2 k] at h; cases h
    exact decide_eq_true (by omega)
theorem idx_digits (s : ByteArray) : decide (0 ≤ idxFunc nonDg true s) = !(s.data.toList.all isDg) := by
  have key : ∀ f pos, s.size ≤ pos + f → decide (0 ≤ idxFuncFrom nonDg true s f pos) = !((s.data.toList.drop pos).all isDg) := by
    intro f
    induction f with
    | zero =>
      intro pos h
      rw [List.drop_of_length_le (by rw [Array.length_toList]; exact h)]
      rfl
    | succ f ih =>
      intro pos h
      unfold idxFuncFrom
      by_cases hp : pos < s.size
      · have hpl : pos < s.data.toList.length := by rw [Array.length_toList]; exact hp
        have hd : s.data.toList.drop pos = s[pos] :: s.data.toList.drop (pos + 1) := by
          rw [List.drop_eq_getElem_cons hpl]; rfl
        rw [if_pos hp, hd, List.all_cons]
        by_cases ha : (s[pos]).toNat < 128
        · rw [decode_ascii s pos hp ha, nonDg_byte]
          have hi := ih (pos + 1) (by omega)
          cases isDg s[pos]
          · simp
          · simpa using hi
        · have h2 := (decode_high s pos hp (by omega)).1
          have e1 : nonDg (Utf8.decode s pos).1 = true := decide_eq_true (by omega)
          have e2 : isDg s[pos] = false := by
            cases hh : isDg s[pos] with
            | false => rfl
            | true => rw [isDg_iff] at hh; omega
          rw [e1, e2]
          simp
      · rw [if_neg hp, List.drop_of_length_le (by rw [Array.length_toList]; exact Nat.le_of_not_lt hp)]
        rfl
  have := key s.size 0 (by omega)
  rw [List.drop_zero] at this
  exact this

set_option maxHeartbeats 1000000 in
theorem dgFn_any (x : Nat) (W : World) : Calls Tryz.prog 167 #[.int .i32 (x : Int)] W fun e w' => e = .returned (.bool (nonDg x)) ∧ W = w' := by
  by_cases h1 : x < 48
  · rw [show nonDg x = true from decide_eq_true (by omega)]
    have z1 : (x : Int) < 48 := by omega
    go_enter Tryz.func167, Tryz.ntmps167
    go_wp2_with fail
    go_ret
    exact ⟨rfl, rfl⟩
  · by_cases h2 : 57 < x
    · rw [show nonDg x = true from decide_eq_true (by omega)]
      have z1 : ¬ (x : Int) < 48 := by omega
      have z2 : (57 : Int) < x := by omega
      go_enter Tryz.func167, Tryz.ntmps167
      go_wp2_with fail
      go_ret
      exact ⟨rfl, rfl⟩
    · rw [show nonDg x = false from decide_eq_false (by omega)]
      have z1 : ¬ (x : Int) < 48 := by omega
      have z2 : ¬ (57 : Int) < x := by omega
      go_enter Tryz.func167, Tryz.ntmps167
      go_wp2_with fail
      go_ret
      exact ⟨rfl, rfl⟩

set_option maxHeartbeats 1000000 in
theorem isDigits_any (s : ByteArray) (w : World) :
    Calls Tryz.prog 124 #[.string s] w fun e w' => e = .returned (.bool (s.data.toList.all isDg)) ∧ Below w.heap.size w w' := by
  have cF := Tryz.strings_ContainsFunc 167 #[] (fun args w => by kernel_rfl) nonDg s w (fun W x _ => by
    refine (dgFn_any x W).mono ?_
    rintro e w' ⟨rfl, rfl⟩
    exact ⟨rfl, 0, rfl⟩)
  rw [idx_digits] at cF
  generalize s.data.toList.all isDg = V at cF ⊢
  go_enter Tryz.func124, Tryz.ntmps124
  go_wp2_with (go_at_call 166; refine cF.mono ?_; rintro e w' ⟨rfl, hb⟩)
  go_ret
  exact ⟨rfl, hb⟩
end Go.Proofs.YtgmnjghbafbopaaGreatDoor
namespace Go.Proofs.YtgmnjghbafbopaaGreatDoor
open Go.RowKit Go.Lib

theorem cut_dot : ∀ s : List UInt8, Lib.cut s [46] = dotL s
  | [] => rfl
  | b :: t => by
    have ih := cut_dot t
    have hg := index_ge t [46]
    unfold Lib.cut at ih ⊢
    rw [dotL, index]
    by_cases hb : b = 46
    · subst hb
      rw [if_pos (show List.isPrefixOf [46] (46 :: t) = true by simp [List.isPrefixOf]), if_pos rfl]
      simp
    · have hp : ¬ List.isPrefixOf [46] (b :: t) = true := by simp [List.isPrefixOf]; exact fun e => hb e.symm
      rw [if_neg hp, if_neg hb, ← ih]
      by_cases hi : index t [46] = -1
      · rw [hi]; simp
      · have h0 : 0 ≤ index t [46] := by omega
        have hbq : (index t [46] == -1) = false := by rw [beq_eq_false_iff_ne]; exact hi
        rw [hbq, if_pos h0]
        have e : (index t [46] + 1).toNat = (index t [46]).toNat + 1 := by omega
        simp only [Bool.false_eq_true, if_false]
        rw [if_pos (by omega), e, List.take_succ_cons, Nat.add_right_comm, List.drop_succ_cons]
end Go.Proofs.YtgmnjghbafbopaaGreatDoor
namespace Go.Proofs.YtgmnjghbafbopaaGreatDoor
open Go.RowKit Go.Lib

def str (l : List UInt8) : Value := .string ⟨l.toArray⟩
def wrV (x : Wr) : Value := .agg #[str x.sign, str x.before, str x.after, .bool x.point]
def noWr : Wr := ⟨[], [], [], false⟩

/-- A written number in its variable. -/
structure WrAt (W : World) (B : Nat) (a b c : ByteArray) (p : Bool) : Prop where
  c0 : W.cell? ⟨B, 0, none⟩ = some (.string a)
  c1 : W.cell? ⟨B, 1, none⟩ = some (.string b)
  c2 : W.cell? ⟨B, 2, none⟩ = some (.string c)
  c3 : W.cell? ⟨B, 3, none⟩ = some (.bool p)
  f0 : W.frozen? ⟨B, 0, none⟩ = false
  f1 : W.frozen? ⟨B, 1, none⟩ = false
  f2 : W.frozen? ⟨B, 2, none⟩ = false
  f3 : W.frozen? ⟨B, 3, none⟩ = false
  lt : B < W.heap.size
theorem WrAt.below {W W' : World} {B : Nat} {a b c : ByteArray} {p : Bool} (h : WrAt W B a b c p) (hb : Below W.heap.size W W') : WrAt W' B a b c p :=
  ⟨(hb.cell (p := ⟨B, 0, none⟩) h.lt).trans h.c0, (hb.cell (p := ⟨B, 1, none⟩) h.lt).trans h.c1, (hb.cell (p := ⟨B, 2, none⟩) h.lt).trans h.c2, (hb.cell (p := ⟨B, 3, none⟩) h.lt).trans h.c3, (hb.frozen (p := ⟨B, 0, none⟩) h.lt).trans h.f0, (hb.frozen (p := ⟨B, 1, none⟩) h.lt).trans h.f1, (hb.frozen (p := ⟨B, 2, none⟩) h.lt).trans h.f2, (hb.frozen (p := ⟨B, 3, none⟩) h.lt).trans h.f3, Nat.lt_of_lt_of_le h.lt hb.size⟩
theorem WrAt.set {W : World} {B : Nat} {a b c : ByteArray} {p : Bool} (h : WrAt W B a b c p) (b' c' : ByteArray) (p' : Bool) :
    WrAt (((W.setCell ⟨B, 1, none⟩ (.string b')).setCell ⟨B, 2, none⟩ (.string c')).setCell ⟨B, 3, none⟩ (.bool p')) B a b' c' p' := by
  obtain ⟨c0, c1, c2, c3, f0, f1, f2, f3, hl⟩ := h
  refine ⟨?_, ?_, ?_, ?_, by simpa using f0, by simpa using f1, by simpa using f2, by simpa using f3, by simpa using hl⟩
  · rw [World.cell?_setCell_other _ _ _ _ (by simp), World.cell?_setCell_other _ _ _ _ (by simp), World.cell?_setCell_other _ _ _ _ (by simp), c0]
  · rw [World.cell?_setCell_other _ _ _ _ (by simp), World.cell?_setCell_other _ _ _ _ (by simp), World.cell?_setCell_same _ _ _ c1]
  · rw [World.cell?_setCell_other _ _ _ _ (by simp)]
    exact World.cell?_setCell_same _ _ _ ((World.cell?_setCell_other _ _ _ _ (by simp)).trans c2)
  · exact World.cell?_setCell_same _ _ _ ((World.cell?_setCell_other _ _ _ _ (by simp)).trans ((World.cell?_setCell_other _ _ _ _ (by simp)).trans c3))
theorem WrAt.set0 {W : World} {B : Nat} {a b c : ByteArray} {p : Bool} (h : WrAt W B a b c p) (a' : ByteArray) : WrAt (W.setCell ⟨B, 0, none⟩ (.string a')) B a' b c p := by
  obtain ⟨c0, c1, c2, c3, f0, f1, f2, f3, hl⟩ := h
  refine ⟨World.cell?_setCell_same _ _ _ c0, ?_, ?_, ?_, by simpa using f0, by simpa using f1, by simpa using f2, by simpa using f3, by simpa using hl⟩
  · rw [World.cell?_setCell_other _ _ _ _ (by simp), c1]
  · rw [World.cell?_setCell_other _ _ _ _ (by simp), c2]
  · rw [World.cell?_setCell_other _ _ _ _ (by simp), c3]
theorem set3_below {w W : World} {B : Nat} (h : Below w.heap.size w W) (hB : w.heap.size ≤ B) (x y z : Value) : Below w.heap.size w (((W.setCell ⟨B, 1, none⟩ x).setCell ⟨B, 2, none⟩ y).setCell ⟨B, 3, none⟩ z) :=
  ((h.setCell (p := ⟨B, 1, none⟩) hB _).setCell (p := ⟨B, 2, none⟩) hB _).setCell (p := ⟨B, 3, none⟩) hB _

/-- What split gives, from the parts. -/
def splitR (sg bf af : ByteArray) (pt : Bool) : Array Value :=
  if (!(bf.toList.isEmpty && af.toList.isEmpty) && (bf.data.toList.all isDg && af.data.toList.all isDg)) = true then #[.agg #[.string sg, .string bf, .string af, .bool pt], .bool true] else #[.agg #[.string ⟨#[]⟩, .string ⟨#[]⟩, .string ⟨#[]⟩, .bool false], .bool false]

theorem splitR_eq (sg : List UInt8) (t : List UInt8) (s : List UInt8) (hs : signOf s = (sg, t)) :
    splitR ⟨sg.toArray⟩ ⟨(dotL t).1.toArray⟩ ⟨(dotL t).2.1.toArray⟩ (dotL t).2.2 = (match splitL s with | some x => #[wrV x, .bool true] | none => #[wrV noWr, .bool false]) := by
  unfold splitR splitL splitOk wrOf
  rw [hs, ByteArray.toList_mk, ByteArray.toList_mk]
  simp only []
  split <;> rfl

set_option maxRecDepth 100000 in
set_option maxHeartbeats 4000000 in
theorem split_plain (s : ByteArray) (m : Int) (hs : s.size < 4294967281) (w : World) (hm : w.cell? ⟨3, 0, none⟩ = some (.int .i64 m)) (h0n : 0 < s.size) (h1 : s[0].toNat ≠ 43) (h2 : s[0].toNat ≠ 45) :
    Calls Tryz.prog 75 #[.string s] w fun e w' => e = .returned (.tuple (splitR ⟨#[]⟩ ⟨(dotL s.data.toList).1.toArray⟩ ⟨(dotL s.data.toList).2.1.toArray⟩ (dotL s.data.toList).2.2)) ∧ Below w.heap.size w w' := by
  have cC := fun W (hW : Below w.heap.size w W) => Tryz.strings_Cut s ⟨#[46]⟩ m W hs ((hW.cell (p := ⟨3, 0, none⟩) (lt_of_cell hm)).trans hm)
  rw [show (⟨#[46]⟩ : ByteArray).data.toList = [46] from rfl, cut_dot] at cC
  generalize dotL s.data.toList = D at cC ⊢
  obtain ⟨bf, hbf⟩ : ∃ bf : ByteArray, (⟨D.1.toArray⟩ : ByteArray) = bf := ⟨_, rfl⟩
  obtain ⟨af, haf⟩ : ∃ af : ByteArray, (⟨D.2.1.toArray⟩ : ByteArray) = af := ⟨_, rfl⟩
  obtain ⟨pt, hpt⟩ : ∃ pt, D.2.2 = pt := ⟨_, rfl⟩
  rw [hbf, haf, hpt]
  rw [hbf, haf, hpt] at cC
  clear hbf haf hpt
  have cD1 := fun W => isDigits_any bf W
  have cD2 := fun W => isDigits_any af W
  obtain ⟨R, hR⟩ : ∃ R, splitR ⟨#[]⟩ bf af pt = R := ⟨_, rfl⟩
  rw [hR]
  obtain ⟨V1, hV1⟩ : ∃ V, bf.data.toList.all isDg = V := ⟨_, rfl⟩
  obtain ⟨V2, hV2⟩ : ∃ V, af.data.toList.all isDg = V := ⟨_, rfl⟩
  rw [hV1] at cD1
  rw [hV2] at cD2
  have HR := Lib.hid hR
  have HV := Lib.hid (And.intro hV1 hV2)
  clear hR hV1 hV2
  have hne : s.toList.isEmpty = false := by
    rw [List.isEmpty_eq_false_iff, ByteArray.toList_eq]
    intro h
    have := congrArg List.length h
    rw [Array.length_toList] at this
    exact absurd (show s.size = 0 from this) (by omega)
  have h0i : (0 : Int) < (s.size : Int) := by omega
  have q1 : ((s[0].toNat : Int) == 43) = false := by rw [beq_eq_false_iff_ne]; omega
  have q2 : ((s[0].toNat : Int) == 45) = false := by rw [beq_eq_false_iff_ne]; omega
  obtain ⟨W1, hW1⟩ : ∃ W1, w.alloc (.cells #[.string ⟨#[]⟩, .string ⟨#[]⟩, .string ⟨#[]⟩, .bool false] 94) = W1 := ⟨_, rfl⟩
  have hW : WrAt W1 w.heap.size ⟨#[]⟩ ⟨#[]⟩ ⟨#[]⟩ false := by
    rw [← hW1]
    exact ⟨by simp [go_sem], by simp [go_sem], by simp [go_sem], by simp [go_sem], by simp [go_sem], by simp [go_sem], by simp [go_sem], by simp [go_sem], by simp⟩
  have hb1 : Below w.heap.size w W1 := by rw [← hW1]; exact (Below.refl _ w).alloc (Nat.le_refl _) _
  have HW1 := Lib.hid hW1
  clear hW1
  go_enter Tryz.func75, Tryz.ntmps75
  go_wp2_with fail
  rw [HW1.out]
  clear HW1
  refine (cC _ hb1).mono ?_
  rintro e w2 ⟨rfl, n, rfl⟩
  have hWd : WrAt (W1.drewN n) w.heap.size ⟨#[]⟩ ⟨#[]⟩ ⟨#[]⟩ false := hW.below (below_drewN (Below.refl _ _) n)
  have hbd : Below w.heap.size w (W1.drewN n) := below_drewN hb1 n
  have HW5 := Lib.hid (hWd.set bf af pt)
  have HB5 := Lib.hid (set3_below hbd (Nat.le_refl _) (.string bf) (.string af) (.bool pt))
  obtain ⟨c0, c1, c2, c3, f0, f1, f2, f3, hl⟩ := hWd
  clear hW hb1 hbd cC
  cases E1 : bf.toList.isEmpty <;> cases E2 : af.toList.isEmpty
  · cases V1
    · go_wp2_with fail
      refine (cD1 _).mono ?_
      rintro e w5 ⟨rfl, hb5⟩
      have HN := Lib.hid (HW5.out.below hb5)
      have HM := Lib.hid (HB5.out.trans (hb5.mono HB5.out.size))
      clear hb5 c0 c1 c2 c3 f0 f1 f2 f3 hl
      obtain ⟨c0, c1, c2, c3, f0, f1, f2, f3, hl⟩ := HN.out
      go_wp2_with fail
      have hW6 := (HN.out.set0 ⟨#[]⟩).set ⟨#[]⟩ ⟨#[]⟩ false
      have hb6 := set3_below (HM.out.setCell (p := ⟨w.heap.size, 0, none⟩) (Nat.le_refl _) (.string ⟨#[]⟩)) (Nat.le_refl _) (.string ⟨#[]⟩) (.string ⟨#[]⟩) (.bool false)
      exact bodyPost_ret (v := .tuple #[.agg #[.string ⟨#[]⟩, .string ⟨#[]⟩, .string ⟨#[]⟩, .bool false], .bool false]) (by simp [results, Tryz.results75, go_sem, hW6.c0, hW6.c1, hW6.c2, hW6.c3]) rfl ⟨by rw [← HR.out]; unfold splitR; rw [HV.out.1, HV.out.2, E1, E2]; rfl, hb6⟩
    · go_wp2_with fail
      refine (cD1 _).mono ?_
      rintro e w5 ⟨rfl, hb5⟩
      have h5 := HW5.out.below hb5
      have HM5 := Lib.hid (HB5.out.trans (hb5.mono HB5.out.size))
      clear c0 c1 c2 c3 f0 f1 f2 f3 hl hb5
      obtain ⟨c0, c1, c2, c3, f0, f1, f2, f3, hl⟩ := id h5
      have H5 := Lib.hid h5
      clear h5
      cases V2
      · go_wp2_with fail
        refine (cD2 _).mono ?_
        rintro e w6 ⟨rfl, hb6⟩
        have HN := Lib.hid (H5.out.below hb6)
        have HM := Lib.hid (HM5.out.trans (hb6.mono HM5.out.size))
        clear hb6 c0 c1 c2 c3 f0 f1 f2 f3 hl
        obtain ⟨c0, c1, c2, c3, f0, f1, f2, f3, hl⟩ := HN.out
        go_wp2_with fail
        have hW6 := (HN.out.set0 ⟨#[]⟩).set ⟨#[]⟩ ⟨#[]⟩ false
        have hb6 := set3_below (HM.out.setCell (p := ⟨w.heap.size, 0, none⟩) (Nat.le_refl _) (.string ⟨#[]⟩)) (Nat.le_refl _) (.string ⟨#[]⟩) (.string ⟨#[]⟩) (.bool false)
        exact bodyPost_ret (v := .tuple #[.agg #[.string ⟨#[]⟩, .string ⟨#[]⟩, .string ⟨#[]⟩, .bool false], .bool false]) (by simp [results, Tryz.results75, go_sem, hW6.c0, hW6.c1, hW6.c2, hW6.c3]) rfl ⟨by rw [← HR.out]; unfold splitR; rw [HV.out.1, HV.out.2, E1, E2]; rfl, hb6⟩
      · go_wp2_with fail
        refine (cD2 _).mono ?_
        rintro e w6 ⟨rfl, hb6⟩
        have h6 := H5.out.below hb6
        have hm6 := HM5.out.trans (hb6.mono HM5.out.size)
        clear hb6 c0 c1 c2 c3 f0 f1 f2 f3 hl
        have hW7 := (h6.set0 ⟨#[]⟩).set bf af pt
        have hb7 := set3_below (hm6.setCell (p := ⟨w.heap.size, 0, none⟩) (Nat.le_refl _) (.string ⟨#[]⟩)) (Nat.le_refl _) (.string bf) (.string af) (.bool pt)
        obtain ⟨c0, c1, c2, c3, f0, f1, f2, f3, hl⟩ := h6
        have H7 := Lib.hid (And.intro hW7 hb7)
        clear hW7 hb7 hm6
        go_wp2_with fail
        obtain ⟨hW7, hb7⟩ := H7.out
        exact bodyPost_ret (v := .tuple #[.agg #[.string ⟨#[]⟩, .string bf, .string af, .bool pt], .bool true]) (by simp [results, Tryz.results75, go_sem, hW7.c0, hW7.c1, hW7.c2, hW7.c3]) rfl ⟨by rw [← HR.out]; unfold splitR; rw [HV.out.1, HV.out.2, E1, E2]; rfl, hb7⟩
  · cases V1
    · go_wp2_with fail
      refine (cD1 _).mono ?_
      rintro e w5 ⟨rfl, hb5⟩
      have HN := Lib.hid (HW5.out.below hb5)
      have HM := Lib.hid (HB5.out.trans (hb5.mono HB5.out.size))
      clear hb5 c0 c1 c2 c3 f0 f1 f2 f3 hl
      obtain ⟨c0, c1, c2, c3, f0, f1, f2, f3, hl⟩ := HN.out
      go_wp2_with fail
      have hW6 := (HN.out.set0 ⟨#[]⟩).set ⟨#[]⟩ ⟨#[]⟩ false
      have hb6 := set3_below (HM.out.setCell (p := ⟨w.heap.size, 0, none⟩) (Nat.le_refl _) (.string ⟨#[]⟩)) (Nat.le_refl _) (.string ⟨#[]⟩) (.string ⟨#[]⟩) (.bool false)
      exact bodyPost_ret (v := .tuple #[.agg #[.string ⟨#[]⟩, .string ⟨#[]⟩, .string ⟨#[]⟩, .bool false], .bool false]) (by simp [results, Tryz.results75, go_sem, hW6.c0, hW6.c1, hW6.c2, hW6.c3]) rfl ⟨by rw [← HR.out]; unfold splitR; rw [HV.out.1, HV.out.2, E1, E2]; rfl, hb6⟩
    · go_wp2_with fail
      refine (cD1 _).mono ?_
      rintro e w5 ⟨rfl, hb5⟩
      have h5 := HW5.out.below hb5
      have HM5 := Lib.hid (HB5.out.trans (hb5.mono HB5.out.size))
      clear c0 c1 c2 c3 f0 f1 f2 f3 hl hb5
      obtain ⟨c0, c1, c2, c3, f0, f1, f2, f3, hl⟩ := id h5
      have H5 := Lib.hid h5
      clear h5
      cases V2
      · go_wp2_with fail
        refine (cD2 _).mono ?_
        rintro e w6 ⟨rfl, hb6⟩
        have HN := Lib.hid (H5.out.below hb6)
        have HM := Lib.hid (HM5.out.trans (hb6.mono HM5.out.size))
        clear hb6 c0 c1 c2 c3 f0 f1 f2 f3 hl
        obtain ⟨c0, c1, c2, c3, f0, f1, f2, f3, hl⟩ := HN.out
        go_wp2_with fail
        have hW6 := (HN.out.set0 ⟨#[]⟩).set ⟨#[]⟩ ⟨#[]⟩ false
        have hb6 := set3_below (HM.out.setCell (p := ⟨w.heap.size, 0, none⟩) (Nat.le_refl _) (.string ⟨#[]⟩)) (Nat.le_refl _) (.string ⟨#[]⟩) (.string ⟨#[]⟩) (.bool false)
        exact bodyPost_ret (v := .tuple #[.agg #[.string ⟨#[]⟩, .string ⟨#[]⟩, .string ⟨#[]⟩, .bool false], .bool false]) (by simp [results, Tryz.results75, go_sem, hW6.c0, hW6.c1, hW6.c2, hW6.c3]) rfl ⟨by rw [← HR.out]; unfold splitR; rw [HV.out.1, HV.out.2, E1, E2]; rfl, hb6⟩
      · go_wp2_with fail
        refine (cD2 _).mono ?_
        rintro e w6 ⟨rfl, hb6⟩
        have h6 := H5.out.below hb6
        have hm6 := HM5.out.trans (hb6.mono HM5.out.size)
        clear hb6 c0 c1 c2 c3 f0 f1 f2 f3 hl
        have hW7 := (h6.set0 ⟨#[]⟩).set bf af pt
        have hb7 := set3_below (hm6.setCell (p := ⟨w.heap.size, 0, none⟩) (Nat.le_refl _) (.string ⟨#[]⟩)) (Nat.le_refl _) (.string bf) (.string af) (.bool pt)
        obtain ⟨c0, c1, c2, c3, f0, f1, f2, f3, hl⟩ := h6
        have H7 := Lib.hid (And.intro hW7 hb7)
        clear hW7 hb7 hm6
        go_wp2_with fail
        obtain ⟨hW7, hb7⟩ := H7.out
        exact bodyPost_ret (v := .tuple #[.agg #[.string ⟨#[]⟩, .string bf, .string af, .bool pt], .bool true]) (by simp [results, Tryz.results75, go_sem, hW7.c0, hW7.c1, hW7.c2, hW7.c3]) rfl ⟨by rw [← HR.out]; unfold splitR; rw [HV.out.1, HV.out.2, E1, E2]; rfl, hb7⟩
  · cases V1
    · go_wp2_with fail
      refine (cD1 _).mono ?_
      rintro e w5 ⟨rfl, hb5⟩
      have HN := Lib.hid (HW5.out.below hb5)
      have HM := Lib.hid (HB5.out.trans (hb5.mono HB5.out.size))
      clear hb5 c0 c1 c2 c3 f0 f1 f2 f3 hl
      obtain ⟨c0, c1, c2, c3, f0, f1, f2, f3, hl⟩ := HN.out
      go_wp2_with fail
      have hW6 := (HN.out.set0 ⟨#[]⟩).set ⟨#[]⟩ ⟨#[]⟩ false
      have hb6 := set3_below (HM.out.setCell (p := ⟨w.heap.size, 0, none⟩) (Nat.le_refl _) (.string ⟨#[]⟩)) (Nat.le_refl _) (.string ⟨#[]⟩) (.string ⟨#[]⟩) (.bool false)
      exact bodyPost_ret (v := .tuple #[.agg #[.string ⟨#[]⟩, .string ⟨#[]⟩, .string ⟨#[]⟩, .bool false], .bool false]) (by simp [results, Tryz.results75, go_sem, hW6.c0, hW6.c1, hW6.c2, hW6.c3]) rfl ⟨by rw [← HR.out]; unfold splitR; rw [HV.out.1, HV.out.2, E1, E2]; rfl, hb6⟩
    · go_wp2_with fail
      refine (cD1 _).mono ?_
      rintro e w5 ⟨rfl, hb5⟩
      have h5 := HW5.out.below hb5
      have HM5 := Lib.hid (HB5.out.trans (hb5.mono HB5.out.size))
      clear c0 c1 c2 c3 f0 f1 f2 f3 hl hb5
      obtain ⟨c0, c1, c2, c3, f0, f1, f2, f3, hl⟩ := id h5
      have H5 := Lib.hid h5
      clear h5
      cases V2
      · go_wp2_with fail
        refine (cD2 _).mono ?_
        rintro e w6 ⟨rfl, hb6⟩
        have HN := Lib.hid (H5.out.below hb6)
        have HM := Lib.hid (HM5.out.trans (hb6.mono HM5.out.size))
        clear hb6 c0 c1 c2 c3 f0 f1 f2 f3 hl
        obtain ⟨c0, c1, c2, c3, f0, f1, f2, f3, hl⟩ := HN.out
        go_wp2_with fail
        have hW6 := (HN.out.set0 ⟨#[]⟩).set ⟨#[]⟩ ⟨#[]⟩ false
        have hb6 := set3_below (HM.out.setCell (p := ⟨w.heap.size, 0, none⟩) (Nat.le_refl _) (.string ⟨#[]⟩)) (Nat.le_refl _) (.string ⟨#[]⟩) (.string ⟨#[]⟩) (.bool false)
        exact bodyPost_ret (v := .tuple #[.agg #[.string ⟨#[]⟩, .string ⟨#[]⟩, .string ⟨#[]⟩, .bool false], .bool false]) (by simp [results, Tryz.results75, go_sem, hW6.c0, hW6.c1, hW6.c2, hW6.c3]) rfl ⟨by rw [← HR.out]; unfold splitR; rw [HV.out.1, HV.out.2, E1, E2]; rfl, hb6⟩
      · go_wp2_with fail
        refine (cD2 _).mono ?_
        rintro e w6 ⟨rfl, hb6⟩
        have h6 := H5.out.below hb6
        have hm6 := HM5.out.trans (hb6.mono HM5.out.size)
        clear hb6 c0 c1 c2 c3 f0 f1 f2 f3 hl
        have hW7 := (h6.set0 ⟨#[]⟩).set bf af pt
        have hb7 := set3_below (hm6.setCell (p := ⟨w.heap.size, 0, none⟩) (Nat.le_refl _) (.string ⟨#[]⟩)) (Nat.le_refl _) (.string bf) (.string af) (.bool pt)
        obtain ⟨c0, c1, c2, c3, f0, f1, f2, f3, hl⟩ := h6
        have H7 := Lib.hid (And.intro hW7 hb7)
        clear hW7 hb7 hm6
        go_wp2_with fail
        obtain ⟨hW7, hb7⟩ := H7.out
        exact bodyPost_ret (v := .tuple #[.agg #[.string ⟨#[]⟩, .string bf, .string af, .bool pt], .bool true]) (by simp [results, Tryz.results75, go_sem, hW7.c0, hW7.c1, hW7.c2, hW7.c3]) rfl ⟨by rw [← HR.out]; unfold splitR; rw [HV.out.1, HV.out.2, E1, E2]; rfl, hb7⟩
  · have HN := Lib.hid HW5.out
    have HM := Lib.hid HB5.out
    go_wp2_with fail
    have hW6 := (HN.out.set0 ⟨#[]⟩).set ⟨#[]⟩ ⟨#[]⟩ false
    have hb6 := set3_below (HM.out.setCell (p := ⟨w.heap.size, 0, none⟩) (Nat.le_refl _) (.string ⟨#[]⟩)) (Nat.le_refl _) (.string ⟨#[]⟩) (.string ⟨#[]⟩) (.bool false)
    exact bodyPost_ret (v := .tuple #[.agg #[.string ⟨#[]⟩, .string ⟨#[]⟩, .string ⟨#[]⟩, .bool false], .bool false]) (by simp [results, Tryz.results75, go_sem, hW6.c0, hW6.c1, hW6.c2, hW6.c3]) rfl ⟨by rw [← HR.out]; unfold splitR; rw [E1, E2]; rfl, hb6⟩
end Go.Proofs.YtgmnjghbafbopaaGreatDoor

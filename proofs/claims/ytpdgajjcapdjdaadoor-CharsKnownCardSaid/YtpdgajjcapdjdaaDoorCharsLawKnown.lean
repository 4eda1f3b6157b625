/- CharsKnown: the examples of the chapter: the law's walk, through its four loops. -/
import Derived.Test.YtpdgajjcapdjdaaDoorCharsLawBack
import Derived.Test.YtpdgajjcapdjdaaDoorCharsLawNames
namespace Go.Proofs.YtpdgajjcapdjdaaDoor
open Go.RowKit Go.Lib

def badL : List (List UInt8) := [[0], [237, 160, 128], [192, 128], [224, 128, 128], [244, 144, 128, 128], [239, 191, 190], [239, 191, 191], [97, 195], [31], [248, 136, 128, 128, 128]]
def nonL : List (List UInt8) := [[], [57, 97], [58, 97], [97, 58], [97, 58, 57], [97, 58, 98, 58, 99], [97, 58, 58, 98], [45, 97], [46, 97], [97, 32, 98], [195, 151], [195, 183], [194, 183], [194, 191]] ++ [repeatL [97] 101]
def yesL : List (List UInt8) := [[97], [95, 45, 46, 57], [120, 58, 121], [195, 128], [97, 194, 183], [195, 169, 116, 195, 169], [240, 159, 152, 128], [90, 58, 95]] ++ [repeatL [195, 169] 100]
def badI : List Int := [0, -1, 8, 11, 55296, 57343, 65534, 1114112, 1099511627776, -9223372036854775808]
theorem badL_all : ∀ l ∈ badL, text l = false ∧ l.length ≤ 20 := by decide
set_option maxRecDepth 100000 in
theorem nonL_all : ∀ l ∈ nonL, nameL l = false ∧ l.length ≤ 300 := by decide +kernel
set_option maxRecDepth 100000 in
theorem yesL_all : ∀ l ∈ yesL, nameL l = true ∧ l.length ≤ 300 := by decide +kernel
theorem badI_all : ∀ z ∈ badI, chrZ z = false ∧ -9223372036854775808 ≤ z ∧ z ≤ 9223372036854775807 := by decide
theorem str_size (l : List UInt8) : (⟨l.toArray⟩ : ByteArray).size = l.length := by rw [size_eq]
theorem cell_lit (w : World) (cs : Array Value) (t : TypeId) (i : Nat) (v : Value) (h : cs[i]? = some v) : (w.alloc (.cells cs t)).cell? ⟨w.heap.size, i, none⟩ = some v := by
  have e : (w.alloc (.cells cs t)).heap[w.heap.size]? = some (.cells cs t) := by
    show (w.heap.push _)[w.heap.size]? = _
    simp
  unfold World.cell?
  rw [e]
  exact h
def strCells (L : List (List UInt8)) : Array Value := (L.map fun l => Value.string ⟨l.toArray⟩).toArray
theorem strCells_at (L : List (List UInt8)) (i : Nat) (l : List UInt8) (h : L[i]? = some l) : (strCells L)[i]? = some (.string ⟨l.toArray⟩) := by
  unfold strCells; simp [h]
def Strs (w : World) (B : Nat) (L : List (List UInt8)) : Prop := B < w.heap.size ∧ ∀ i l, L[i]? = some l → w.cell? ⟨B, i, none⟩ = some (.string ⟨l.toArray⟩)
theorem Strs.later {w w' : World} {B : Nat} {L : List (List UInt8)} (h : Strs w B L) (hb : Below w.heap.size w w') : Strs w' B L :=
  ⟨Nat.lt_of_lt_of_le h.1 hb.size, fun i l hi => (hb.cell (p := ⟨B, i, none⟩) h.1).trans (h.2 i l hi)⟩
theorem Strs.made (w : World) (t : TypeId) (L : List (List UInt8)) : Strs (w.alloc (.cells (strCells L) t)) w.heap.size L :=
  ⟨by simp, fun i l hi => cell_lit w _ t i _ (strCells_at L i l hi)⟩
def intLit (L : List Int) : Array Value := (L.map fun z => Value.int .i64 z).toArray
def IntsAt (w : World) (B : Nat) (L : List Int) : Prop := B < w.heap.size ∧ ∀ i z, L[i]? = some z → w.cell? ⟨B, i, none⟩ = some (.int .i64 z)
theorem IntsAt.later {w w' : World} {B : Nat} {L : List Int} (h : IntsAt w B L) (hb : Below w.heap.size w w') : IntsAt w' B L :=
  ⟨Nat.lt_of_lt_of_le h.1 hb.size, fun i l hi => (hb.cell (p := ⟨B, i, none⟩) h.1).trans (h.2 i l hi)⟩
theorem IntsAt.made (w : World) (t : TypeId) (L : List Int) : IntsAt (w.alloc (.cells (intLit L) t)) w.heap.size L :=
  ⟨by simp, fun i z hi => cell_lit w _ t i _ (by unfold intLit; simp [hi])⟩
theorem repeat_is (s : ByteArray) (c : Nat) (w : World) (hc : c ≤ 1000) (hs : s.size ≤ 1000) (l : List UInt8) (hl : repeatL s.data.toList c = l) :
    Calls Tryd.prog 35 #[.string s, .int .i64 c] w fun e w' => e = .returned (.string ⟨l.toArray⟩) ∧ Below w.heap.size w w' := by
  have := Tryd.strings_Repeat s c w (by omega) (by
    have := Nat.mul_le_mul hs hc
    omega)
  rw [hl] at this; exact this
theorem repeat_a (w : World) : Calls Tryd.prog 35 #[.string ⟨#[97]⟩, .int .i64 101] w fun e w' => e = .returned (.string ⟨(repeatL [97] 101).toArray⟩) ∧ Below w.heap.size w w' :=
  repeat_is ⟨#[97]⟩ 101 w (by omega) (by decide) _ rfl
theorem repeat_e (w : World) : Calls Tryd.prog 35 #[.string ⟨#[195, 169]⟩, .int .i64 100] w fun e w' => e = .returned (.string ⟨(repeatL [195, 169] 100).toArray⟩) ∧ Below w.heap.size w w' :=
  repeat_is ⟨#[195, 169]⟩ 100 w (by omega) (by decide) _ rfl
theorem space_is (s : ByteArray) (b : Bool) (h : spaceL s.data.toList = b) (w : World) :
    Calls Tryd.prog 18 #[.string s] w fun e w' => e = .returned (.bool b) ∧ Below w.heap.size w w' := by
  have := isSpace_any s w
  rw [h] at this; exact this
theorem from_two (z : Int) (w : World) (t : TypeId) (h : chrZ z = false) (h1 : -9223372036854775808 ≤ z) (h2 : z ≤ 9223372036854775807) :
    Calls Tryd.prog 25 #[.slice (some ⟨w.heap.size, 0, none⟩) 2 2] (w.alloc (.cells #[.int .i64 97, .int .i64 z] t)) fun e w' => e = .returned (.tuple #[.string ⟨#[]⟩, .int .i64 10]) ∧ Below w.heap.size w w' := by
  have hb : Below w.heap.size w (w.alloc (.cells #[.int .i64 97, .int .i64 z] t)) := (Below.refl _ w).alloc (Nat.le_refl _) _
  refine (from_bad _ [97, z] (by simp [h]) _ (.inr ⟨w.heap.size, 0, 2, rfl, fun j y hj => ?_⟩) (by simp) (fun y hy => ?_)).mono ?_
  · rw [Nat.zero_add]
    refine cell_lit w _ t j _ ?_
    match j, hj with
    | 0, hj => simp at hj; subst hj; rfl
    | 1, hj => simp at hj; subst hj; rfl
  · simp only [List.mem_cons, List.not_mem_nil, or_false] at hy
    rcases hy with rfl | rfl <;> omega
  · rintro e w' ⟨rfl, hb2⟩
    exact ⟨rfl, hb.trans (hb2.mono hb.size)⟩
set_option maxHeartbeats 8000000 in
set_option maxRecDepth 1000000 in
theorem known_law (w : World) (hg : Gr w) :
    Calls Tryd.prog 12 #[] w fun e w' => e = .returned (.bool true) ∧ Below w.heap.size w w' := by
  go_enter Tryd.func12, Tryd.ntmps12
  have hb0 : Below w.heap.size w w := Below.refl _ _
  go_wp2
  go_loopg [15] 10 (fun g sx wx => ∃ i : Nat, sx = .int .i64 i ∧ i + g = 10 ∧ Below w.heap.size w wx ∧ Hid (Strs wx w.heap.size badL))
  case atStart => exact ⟨0, rfl, rfl, hb0.alloc hb0.size _, Lib.hid (Strs.made _ _ badL)⟩
  case round =>
    obtain ⟨i, rfl, hig, hbw, HS⟩ := hrel
    clear hb0
    by_cases hlt : i < 10
    · obtain ⟨g, rfl⟩ : ∃ g, gk = g + 1 := ⟨gk - 1, by omega⟩
      obtain ⟨x, hx⟩ : ∃ x, badL[i]? = some x := ⟨_, List.getElem?_eq_getElem (show i < badL.length from hlt)⟩
      have hcx := HS.out.2 i x hx
      have hgr := hg.later hbw
      have hfx := badL_all x (List.mem_of_getElem? hx)
      have HT := Lib.hid hfx.1
      have hsz : (⟨x.toArray⟩ : ByteArray).size ≤ 20 := by rw [str_size]; exact hfx.2
      have HN := Lib.hid (show nameL x = false by unfold nameL; rw [hfx.1]; rfl)
      clear hfx hx
      have hbv0 : Below wr.heap.size wr wr := Below.refl _ _
      have hgv0 := hgr
      go_wp2_with fail
      refine (points_bad ⟨x.toArray⟩ HT.out _ (by omega) hgv0).mono ?_
      rintro e v1 ⟨rfl, hx⟩
      have hbv1 := hbv0.trans (hx.mono hbv0.size)
      have hgv1 := hgr.later hbv1
      clear hx hbv0 hgv0
      go_wp2_with fail
      refine (isText_is ⟨x.toArray⟩ false HT.out _ (by omega) hgv1).mono ?_
      rintro e v2 ⟨rfl, hx⟩
      have hbv2 := hbv1.trans (hx.mono hbv1.size)
      have hgv2 := hgr.later hbv2
      clear hx hbv1 hgv1
      go_wp2_with fail
      refine (name_is ⟨x.toArray⟩ false HN.out _ (by omega) hgv2).mono ?_
      rintro e v3 ⟨rfl, hx⟩
      have hbv3 := hbv2.trans (hx.mono hbv2.size)
      have hgv3 := hgr.later hbv3
      clear hx hbv2 hgv2
      go_wp2_with fail
      refine (len_bad ⟨x.toArray⟩ HT.out _ (by omega) hgv3).mono ?_
      rintro e v4 ⟨rfl, hx⟩
      have hbv4 := hbv3.trans (hx.mono hbv3.size)
      have hgv4 := hgr.later hbv4
      clear hx hbv3 hgv3
      go_wp2_with fail
      refine (cut_bad ⟨x.toArray⟩ 0 9 _ (by omega) hgv4 HT.out).mono ?_
      rintro e v5 ⟨rfl, hx⟩
      have hbv5 := hbv4.trans (hx.mono hbv4.size)
      have hgv5 := hgr.later hbv5
      clear hx hbv4 hgv4
      go_wp2
      go_roundg g
      case measure => omega
      case rel => exact ⟨i + 1, by go_num, by omega, hbw.trans (hbv5.mono hbw.size), Lib.hid (HS.out.later hbv5)⟩
    · obtain rfl : gk = 0 := by omega
      obtain rfl : i = 10 := by omega
      clear HS
      obtain ⟨u1, rfl⟩ : ∃ u : World, u = wr := ⟨_, rfl⟩
      have hbu1 := hbw
      have hgu1 := hg.later hbw
      clear hbw
      go_wp2_with fail
      refine (repeat_a _).mono ?_
      rintro e u1' ⟨rfl, hx⟩
      have hbr1 := hbu1.trans (hx.mono hbu1.size)
      clear hx hbu1 hgu1
      go_wp2
      go_loopg [53] 15 (fun g sx wx => ∃ i : Nat, sx = .int .i64 i ∧ i + g = 15 ∧ Below w.heap.size w wx ∧ Hid (Strs wx u1'.heap.size nonL))
      case atStart => exact ⟨0, rfl, rfl, hbr1.alloc hbr1.size _, Lib.hid (Strs.made _ _ nonL)⟩
      case round =>
        obtain ⟨i, rfl, hig, hbw, HS⟩ := hrel
        clear hbr1
        by_cases hlt : i < 15
        · obtain ⟨g, rfl⟩ : ∃ g, gk = g + 1 := ⟨gk - 1, by omega⟩
          obtain ⟨x, hx⟩ : ∃ x, nonL[i]? = some x := ⟨_, List.getElem?_eq_getElem (show i < nonL.length from hlt)⟩
          have hcx := HS.out.2 i x hx
          have hgr := hg.later hbw
          have hfx := nonL_all x (List.mem_of_getElem? hx)
          have HT := Lib.hid hfx.1
          have hsz : (⟨x.toArray⟩ : ByteArray).size ≤ 300 := by rw [str_size]; exact hfx.2
          clear hfx hx
          have hbv0 : Below wr.heap.size wr wr := Below.refl _ _
          have hgv0 := hgr
          go_wp2_with fail
          refine (name_is ⟨x.toArray⟩ false HT.out _ (by omega) hgv0).mono ?_
          rintro e v1 ⟨rfl, hx⟩
          have hbv1 := hbv0.trans (hx.mono hbv0.size)
          have hgv1 := hgr.later hbv1
          clear hx hbv0 hgv0
          go_wp2
          go_roundg g
          case measure => omega
          case rel => exact ⟨i + 1, by go_num, by omega, hbw.trans (hbv1.mono hbw.size), Lib.hid (HS.out.later hbv1)⟩
        · obtain rfl : gk = 0 := by omega
          obtain rfl : i = 15 := by omega
          clear HS
          obtain ⟨u2, rfl⟩ : ∃ u : World, u = wr := ⟨_, rfl⟩
          have hbu2 := hbw
          have hgu2 := hg.later hbw
          clear hbw
          go_wp2_with fail
          refine (repeat_e _).mono ?_
          rintro e u2' ⟨rfl, hx⟩
          have hbr2 := hbu2.trans (hx.mono hbu2.size)
          clear hx hbu2 hgu2
          go_wp2
          go_loopg [63] 9 (fun g sx wx => ∃ i : Nat, sx = .int .i64 i ∧ i + g = 9 ∧ Below w.heap.size w wx ∧ Hid (Strs wx u2'.heap.size yesL))
          case atStart => exact ⟨0, rfl, rfl, hbr2.alloc hbr2.size _, Lib.hid (Strs.made _ _ yesL)⟩
          case round =>
            obtain ⟨i, rfl, hig, hbw, HS⟩ := hrel
            clear hbr2
            by_cases hlt : i < 9
            · obtain ⟨g, rfl⟩ : ∃ g, gk = g + 1 := ⟨gk - 1, by omega⟩
              obtain ⟨x, hx⟩ : ∃ x, yesL[i]? = some x := ⟨_, List.getElem?_eq_getElem (show i < yesL.length from hlt)⟩
              have hcx := HS.out.2 i x hx
              have hgr := hg.later hbw
              have hfx := yesL_all x (List.mem_of_getElem? hx)
              have HT := Lib.hid hfx.1
              have hsz : (⟨x.toArray⟩ : ByteArray).size ≤ 300 := by rw [str_size]; exact hfx.2
              clear hfx hx
              have hbv0 : Below wr.heap.size wr wr := Below.refl _ _
              have hgv0 := hgr
              go_wp2_with fail
              refine (name_is ⟨x.toArray⟩ true HT.out _ (by omega) hgv0).mono ?_
              rintro e v1 ⟨rfl, hx⟩
              have hbv1 := hbv0.trans (hx.mono hbv0.size)
              have hgv1 := hgr.later hbv1
              clear hx hbv0 hgv0
              go_wp2
              go_roundg g
              case measure => omega
              case rel => exact ⟨i + 1, by go_num, by omega, hbw.trans (hbv1.mono hbw.size), Lib.hid (HS.out.later hbv1)⟩
            · obtain rfl : gk = 0 := by omega
              obtain rfl : i = 9 := by omega
              clear HS
              obtain ⟨u3, rfl⟩ : ∃ u : World, u = wr := ⟨_, rfl⟩
              have hbu3 := hbw
              have hgu3 := hg.later hbw
              clear hbw
              go_wp2
              go_loopg [73] 10 (fun g sx wx => ∃ i : Nat, sx = .int .i64 i ∧ i + g = 10 ∧ Below w.heap.size w wx ∧ Hid (IntsAt wx u3.heap.size badI))
              case atStart => exact ⟨0, rfl, rfl, hbu3.alloc hbu3.size _, Lib.hid (IntsAt.made _ _ badI)⟩
              case round =>
                obtain ⟨i, rfl, hig, hbw, HS⟩ := hrel
                clear hbu3
                by_cases hlt : i < 10
                · obtain ⟨g, rfl⟩ : ∃ g, gk = g + 1 := ⟨gk - 1, by omega⟩
                  obtain ⟨x, hx⟩ : ∃ x, badI[i]? = some x := ⟨_, List.getElem?_eq_getElem (show i < badI.length from hlt)⟩
                  have hcx := HS.out.2 i x hx
                  have hgr := hg.later hbw
                  have hfx := badI_all x (List.mem_of_getElem? hx)
                  have HT := Lib.hid hfx.1
                  have hx1 := hfx.2.1
                  have hx2 := hfx.2.2
                  clear hfx hx
                  have hbv0 : Below wr.heap.size wr wr := Below.refl _ _
                  have hgv0 := hgr
                  go_wp2_with fail
                  refine (from_two x _ _ HT.out hx1 hx2).mono ?_
                  rintro e v1 ⟨rfl, hx⟩
                  have hbv1 := hbv0.trans (hx.mono hbv0.size)
                  have hgv1 := hgr.later hbv1
                  clear hx hbv0 hgv0
                  go_wp2
                  go_roundg g
                  case measure => omega
                  case rel => exact ⟨i + 1, by go_num, by omega, hbw.trans (hbv1.mono hbw.size), Lib.hid (HS.out.later hbv1)⟩
                · obtain rfl : gk = 0 := by omega
                  obtain rfl : i = 10 := by omega
                  clear HS
                  obtain ⟨u4, rfl⟩ : ∃ u : World, u = wr := ⟨_, rfl⟩
                  have hbu4 := hbw
                  have hgu4 := hg.later hbw
                  clear hbw
                  have hbz0 : Below u4.heap.size u4 u4 := Below.refl _ _
                  have hgz0 := hgu4
                  go_wp2_with fail
                  refine (cut_is ⟨#[97, 195, 169, 98]⟩ ⟨#[97, 195, 169, 98]⟩ (-5) 99 (by decide) _ (by decide) hgz0 (by decide)).mono ?_
                  rintro e z1 ⟨rfl, hx⟩
                  have hbz1 := hbz0.trans (hx.mono hbz0.size)
                  have hgz1 := hgu4.later hbz1
                  clear hx hbz0 hgz0
                  go_wp2_with fail
                  refine (cut_is ⟨#[97, 195, 169, 98]⟩ ⟨#[]⟩ 2 1 (by decide) _ (by decide) hgz1 (by decide)).mono ?_
                  rintro e z2 ⟨rfl, hx⟩
                  have hbz2 := hbz1.trans (hx.mono hbz1.size)
                  have hgz2 := hgu4.later hbz2
                  clear hx hbz1 hgz1
                  go_wp2_with fail
                  refine (space_is ⟨#[]⟩ true (by decide) _).mono ?_
                  rintro e z3 ⟨rfl, hx⟩
                  have hbz3 := hbz2.trans (hx.mono hbz2.size)
                  have hgz3 := hgu4.later hbz3
                  clear hx hbz2 hgz2
                  go_wp2_with fail
                  refine (space_is ⟨#[32, 9, 13, 10]⟩ true (by decide) _).mono ?_
                  rintro e z4 ⟨rfl, hx⟩
                  have hbz4 := hbz3.trans (hx.mono hbz3.size)
                  have hgz4 := hgu4.later hbz4
                  clear hx hbz3 hgz3
                  go_wp2_with fail
                  refine (space_is ⟨#[194, 160]⟩ false (by decide) _).mono ?_
                  rintro e z5 ⟨rfl, hx⟩
                  have hbz5 := hbz4.trans (hx.mono hbz4.size)
                  have hgz5 := hgu4.later hbz5
                  clear hx hbz4 hgz4
                  go_wp2_with fail
                  refine (norm_is ⟨#[194, 160, 32]⟩ ⟨#[194, 160]⟩ (by decide) _ (by decide)).mono ?_
                  rintro e z6 ⟨rfl, hx⟩
                  have hbz6 := hbz5.trans (hx.mono hbz5.size)
                  have hgz6 := hgu4.later hbz6
                  clear hx hbz5 hgz5
                  go_wp2_with fail
                  refine (works_any _ hgz6).mono ?_
                  rintro e z7 ⟨rfl, hx⟩
                  have hbz7 := hbz6.trans (hx.mono hbz6.size)
                  have hgz7 := hgu4.later hbz7
                  clear hx hbz6 hgz6
                  go_wp2
                  go_ret
                  exact ⟨rfl, hbu4.trans (hbz7.mono hbu4.size)⟩
end Go.Proofs.YtpdgajjcapdjdaaDoor

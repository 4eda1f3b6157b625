/- Dates: the contracts of the functions that reading returns. -/
import Derived.Test.YtgmnjghbafbopaaGreatDoorMTiFit
import Derived.WalkLawsBesides
namespace Go.Proofs.YtgmnjghbafbopaaGreatDoor
open Go.RowKit Go.Lib

/-- A text in its box. -/
structure BoxS (W : World) (B : Nat) (s : ByteArray) : Prop where
  c : W.cell? ⟨B, 0, none⟩ = some (.string s)
  f : W.frozen? ⟨B, 0, none⟩ = false
  lt : B < W.heap.size
theorem BoxS.other {W W' : World} {B : Nat} {s : ByteArray} (h : BoxS W B s) (hk : W'.heap[B]? = W.heap[B]?) (hs : W.heap.size ≤ W'.heap.size) : BoxS W' B s :=
  ⟨(World.cell?_of_block (a := ⟨B, 0, none⟩) hk).trans h.c, (World.frozen?_of_block (a := ⟨B, 0, none⟩) hk).trans h.f, Nat.lt_of_lt_of_le h.lt hs⟩
theorem BoxS.later {W W' : World} {B : Nat} {s : ByteArray} (h : BoxS W B s) (hb : Below W.heap.size W W') : BoxS W' B s := h.other (hb.block B h.lt) hb.size
theorem BoxS.set {W : World} {B : Nat} {s : ByteArray} (h : BoxS W B s) (s' : ByteArray) : BoxS (W.setCell ⟨B, 0, none⟩ (.string s')) B s' :=
  ⟨World.cell?_setCell_same _ _ _ h.c, by simpa using h.f, by simpa [World.setCell] using h.lt⟩
theorem BoxS.keep {W : World} {B : Nat} {s : ByteArray} (h : BoxS W B s) {S o : Nat} (hne : B ≠ S) (u : Value) : BoxS (W.setCell ⟨S, o, none⟩ u) B s :=
  h.other (Below.heap_setCell _ _ _ _ hne) (by simp [World.setCell])
theorem BoxS.new (w : World) (s : ByteArray) : BoxS (w.alloc (.cells #[.string s] 9)) w.heap.size s := ⟨by simp [go_sem], by simp [go_sem], by simp⟩
/-- All that was there stays, but for the box. -/
structure KB (w : World) (B : Nat) (W : World) : Prop where
  heap : ∀ j, j < w.heap.size → j ≠ B → W.heap[j]? = w.heap[j]?
  size : w.heap.size ≤ W.heap.size
  below : ∀ N a, N ≤ B → Below N a w → Below N a W
theorem KB.of {w W : World} {B : Nat} (hB : B < w.heap.size) (h : Below w.heap.size w W) : KB w B W :=
  ⟨fun j hj _ => h.block j hj, h.size, fun N a hN ha => ha.trans (h.mono (by omega))⟩
theorem KB.set {w W : World} {B : Nat} (h : KB w B W) (u : Value) : KB w B (W.setCell ⟨B, 0, none⟩ u) :=
  ⟨fun j hj hne => (Below.heap_setCell _ _ _ _ hne).trans (h.heap j hj hne), by simpa [World.setCell] using h.size, fun N a hN ha => (h.below N a hN ha).setCell (p := ⟨B, 0, none⟩) hN u⟩
/-- The panic by which the reading is given up. -/
def gaveUp : List PanicEntry := [{ v := .iface 25 (.int .i64 5), recovered := false }]
/-- What reading a part gives. -/
def RdG (w : World) (B : Nat) (o : Option (List UInt8 × List UInt8)) (e : Ending) (w' : World) : Prop := match o with
  | none => e = .panicked gaveUp ∧ KB w B w'
  | some x => ∃ P R : ByteArray, e = .returned (.string P) ∧ P.data.toList = x.1 ∧ R.data.toList = x.2 ∧ BoxS w' B R ∧ KB w B w'
theorem toArr (l : List UInt8) : (⟨l.toArray⟩ : ByteArray).data.toList = l := rfl
theorem extract_all (t : ByteArray) (a b : Nat) : (t.extract a b).data.toList = (t.data.toList.take b).drop a := by
  rw [ByteArray.data_extract, Array.toList_extract, List.extract_eq_take_drop]
  rw [List.drop_take]
theorem bsize (t : ByteArray) : t.data.toList.length = t.size := by rw [Array.length_toList]; rfl
set_option maxRecDepth 100000 in
set_option maxHeartbeats 4000000 in
theorem read_ti (b : Nat) (F : List (List UInt8)) (hF : F.length ≤ 10) (hF2 : ∀ x ∈ F, x.length ≤ 10) (B : Nat) (t : ByteArray) (w : World)
    (hc : ∀ j, j < F.length → w.cell? ⟨b, j, none⟩ = some (.string ⟨(F.getD j []).toArray⟩)) (hbl : b < w.heap.size) (hx : BoxS w B t) (N : Nat) (hN : F.length = N) :
    Calls Tryz.prog 150 #[.slice (some ⟨b, 0, none⟩) N N, .pointer (some ⟨B, 0, none⟩)] w (RdG w B (readL t.data.toList F)) := by
  have hB := hx.lt
  have HC := Lib.hid hc
  have HX := Lib.hid hx
  have HF2 := Lib.hid hF2
  have HNN := Lib.hid hN
  have hN9 : N ≤ 10 := by omega
  obtain ⟨G, hG⟩ : ∃ G, RdG w B (readL t.data.toList F) = G := ⟨_, rfl⟩
  have HG := Lib.hid hG
  rw [hG]
  clear hc hx hF2 hG hN hF
  go_enter Tryz.func150, Tryz.ntmps150
  go_wp2_with fail
  go_loopg [9] (N) (fun g s9 wx => ∃ k : Nat, s9 = .int .i64 k ∧ k + g = N ∧ Below w.heap.size w wx ∧ Hid (readL t.data.toList F = readL t.data.toList (F.drop k)))
  case atStart => exact ⟨0, rfl, by omega, Below.refl _ _, Lib.hid rfl⟩
  case round =>
    obtain ⟨k, rfl, hkg, hbx, HK⟩ := hrel
    have x2 := HX.out.later hbx
    have c0 := x2.c
    have f0 := x2.f
    have X2 := Lib.hid x2
    clear x2
    by_cases hlt : k < N
    · obtain ⟨g, rfl⟩ : ∃ g, gk = g + 1 := ⟨gk - 1, by omega⟩
      have hil : (k : Int) < (N : Int) := by omega
      have hkF : k < F.length := by rw [HNN.out]; exact hlt
      obtain ⟨f, hf⟩ : ∃ f, F.getD k [] = f := ⟨_, rfl⟩
      have hdr : F.drop k = f :: F.drop (k + 1) := by
        rw [List.drop_eq_getElem_cons hkF, ← hf, List.getD_eq_getElem?_getD, List.getElem?_eq_getElem hkF]; rfl
      have hf9 : f.length ≤ 10 := by
        refine HF2.out f ?_
        rw [← hf, List.getD_eq_getElem?_getD, List.getElem?_eq_getElem hkF]
        exact List.getElem_mem _
      obtain ⟨M, hM, hMl⟩ : ∃ M : ByteArray, (⟨f.toArray⟩ : ByteArray) = M ∧ M.data.toList = f := ⟨_, rfl, rfl⟩
      have ck : wr.cell? ⟨b, k, none⟩ = some (.string M) := by
        rw [← hM, ← hf]
        exact (hbx.cell (p := ⟨b, k, none⟩) hbl).trans (HC.out k hkF)
      have hMs : M.size = f.length := by rw [← bsize, hMl]
      obtain ⟨L, hL⟩ : ∃ L, f.length = L := ⟨_, rfl⟩
      rw [hL] at hMs hf9
      have hk2 := HK.out
      rw [hdr, readL, hL] at hk2
      have HE0 := Lib.hid (And.intro hk2 (And.intro hMl hL))
      clear hk2 hMl hM hf hdr HK hkF hL
      by_cases hq : L ≤ t.size
      · have q : (L : Int) ≤ (t.size : Int) := by omega
        obtain ⟨P, hP⟩ : ∃ P, t.extract 0 L = P := ⟨_, rfl⟩
        have hPl : P.data.toList = t.data.toList.take L := by rw [← hP, extract_all, List.drop_zero]
        have hPs : P.size = L := by rw [← bsize, hPl, List.length_take, bsize]; omega
        obtain ⟨fb, hfb⟩ : ∃ fb, fitsL P.data.toList f = fb := ⟨_, rfl⟩
        have cF := fits_ti P M (by omega) fb (by rw [HE0.out.2.1]; exact hfb) wr
        cases fb with
        | true =>
          obtain ⟨R, hR⟩ : ∃ R, t.extract L t.size = R := ⟨_, rfl⟩
          have hRl : R.data.toList = t.data.toList.drop L := by
            rw [← hR, extract_all, List.take_of_length_le (by rw [bsize]; exact Nat.le_refl _)]
          have HE := Lib.hid (show readL t.data.toList F = some (P.data.toList, R.data.toList) by rw [HE0.out.1, ← hPl, hfb, if_pos rfl, hRl])
          clear hRl hPl hfb HE0
          go_wp2_with fail
          refine cF.mono ?_
          rintro e w5 ⟨rfl, hb5⟩
          have x5 := X2.out.later hb5
          have c5 := x5.c
          have f5 := x5.f
          have x6 := x5.set R
          have k6 := (KB.of hB (hbx.trans (hb5.mono hbx.size))).set (.string R)
          obtain ⟨W6, hW6⟩ : ∃ W6, w5.setCell ⟨B, 0, none⟩ (.string R) = W6 := ⟨_, rfl⟩
          rw [hW6] at x6 k6
          have HW6 := Lib.hid hW6
          have H6 := Lib.hid (And.intro x6 k6)
          clear x5 x6 k6 hW6 c0 f0 cF
          go_wp2_with fail
          rw [← HG.out, HE.out]
          exact ⟨P, R, rfl, rfl, rfl, by rw [HW6.out]; exact H6.out.1, by rw [HW6.out]; exact H6.out.2⟩
        | false =>
          have HK := Lib.hid (show readL t.data.toList F = readL t.data.toList (F.drop (k + 1)) by rw [HE0.out.1, ← hPl, hfb, if_neg (by decide)])
          clear hPl hfb HE0
          go_wp2_with fail
          refine cF.mono ?_
          rintro e w5 ⟨rfl, hb5⟩
          have hb6 := hbx.trans (hb5.mono hbx.size)
          clear c0 f0 cF
          go_wp2_with fail
          go_roundg g
          case rel => exact ⟨k + 1, by congr 1, by omega, hb6, HK⟩
          all_goals omega
      · have q : ¬ (L : Int) ≤ (t.size : Int) := by omega
        obtain ⟨P, hP⟩ : ∃ P, t.extract 0 t.size = P := ⟨_, rfl⟩
        have hPl : P.data.toList = t.data.toList := by rw [← hP, extract_all, List.drop_zero, List.take_of_length_le (by rw [bsize]; exact Nat.le_refl _)]
        have hfb : fitsL P.data.toList f = false := fits_no_len (by rw [hPl, bsize, HE0.out.2.2]; omega)
        have cF := fits_ti P M (by omega) false (by rw [HE0.out.2.1]; exact hfb) wr
        have HK := Lib.hid (show readL t.data.toList F = readL t.data.toList (F.drop (k + 1)) by
          rw [HE0.out.1, List.take_of_length_le (by rw [bsize]; omega), ← hPl, hfb, if_neg (by decide)])
        clear hPl hfb HE0
        go_wp2_with fail
        refine cF.mono ?_
        rintro e w5 ⟨rfl, hb5⟩
        have hb6 := hbx.trans (hb5.mono hbx.size)
        clear c0 f0 cF
        go_wp2_with fail
        go_roundg g
        case rel => exact ⟨k + 1, by congr 1, by omega, hb6, HK⟩
        all_goals omega
    · have hil : ¬ (k : Int) < (N : Int) := by omega
      obtain rfl : k = N := by omega
      have HE := Lib.hid (show readL t.data.toList F = none by rw [HK.out, List.drop_of_length_le (by rw [HNN.out]; exact Nat.le_refl _)]; rfl)
      have k6 := KB.of hB hbx
      clear c0 f0
      go_wp2_with fail
      rw [← HG.out, HE.out]
      exact ⟨rfl, rfl, k6⟩
set_option maxRecDepth 100000 in
set_option maxHeartbeats 4000000 in
theorem reading_ti (s : ByteArray) (w : World) :
    Calls Tryz.prog 93 #[.string s] w fun e w' => e = .returned (.tuple #[.func (Fn.func 150) #[] #[.pointer (some ⟨w.heap.size, 0, none⟩)], .func (Fn.func 152) #[] #[.pointer (some ⟨w.heap.size, 0, none⟩)]]) ∧ w' = w.alloc (.cells #[.string s] 9) := by
  have hmf : ∀ (fn : Fn) (first cap : Array Value) (w : World), (Instr.makeFunc fn first cap).run Tryz.prog w = .ok (.func fn first cap) w := fun _ _ _ _ => rfl
  go_enter Tryz.func93, Tryz.ntmps93
  go_wp2_with fail
  go_ret2
  exact ⟨rfl, rfl⟩
set_option maxRecDepth 100000 in
set_option maxHeartbeats 4000000 in
theorem end_ok (B : Nat) (t : ByteArray) (h : t.data.toList = []) (w : World) (hx : BoxS w B t) :
    Calls Tryz.prog 152 #[.pointer (some ⟨B, 0, none⟩)] w fun e w' => e = .returned (.tuple #[]) ∧ w' = w := by
  have tl : t.toList = t.data.toList := ByteArray.toList_eq t
  have k1 : (t.toList == []) = true := by rw [tl, h]; rfl
  have k2 : t.toList.isEmpty = true := by rw [tl, h]; rfl
  have k3 : t.toList = [] := by rw [tl, h]
  have c0 := hx.c
  clear tl h hx
  go_enter Tryz.func152, Tryz.ntmps152
  go_wp2_with fail
  go_end0
  exact ⟨rfl, rfl⟩
set_option maxRecDepth 100000 in
set_option maxHeartbeats 4000000 in
theorem end_no (B : Nat) (t : ByteArray) (h : t.data.toList ≠ []) (w : World) (hx : BoxS w B t) :
    Calls Tryz.prog 152 #[.pointer (some ⟨B, 0, none⟩)] w fun e w' => e = .panicked gaveUp ∧ w' = w := by
  have tl : t.toList = t.data.toList := ByteArray.toList_eq t
  have k1 : (t.toList == []) = false := by rw [tl]; exact beq_eq_false_iff_ne.2 h
  have k2 : t.toList.isEmpty = false := by rw [tl]; simpa using h
  have k3 : ¬ t.toList = [] := by rw [tl]; exact h
  have c0 := hx.c
  clear tl h hx
  go_enter Tryz.func152, Tryz.ntmps152
  go_wp2_with fail
  exact ⟨rfl, rfl, rfl⟩
end Go.Proofs.YtgmnjghbafbopaaGreatDoor

/- Durations: a section that is read, in memory; rows of texts that grow. Durations: the contract of the function that reading returns: a section is read. -/
import Derived.Test.YtdfgifnccghlmabGreatDoorMDuA
import Derived.Test.YtdfgifnccghlmabGreatDoorMNuB
import Derived.Lib.AppendZeros
namespace Go.Proofs.YtdfgifnccghlmabGreatDoor
open Go.RowKit Go.Lib

def strL (l : List (List UInt8)) : List Value := l.map fun x => Value.string ⟨x.toArray⟩
theorem infoStr : (Tryz.prog.info? 9).map (fun i => (i.zero, i.size, i.bytes)) = some (some (.string ⟨#[]⟩), 1, 16) := by kernel_rfl
/-- A row of texts of one's own. -/
def OwnS (w : World) (base : Nat) (v : Value) (l : List (List UInt8)) : Prop := w.ownsRow base 9 1 v l.length (strL l)
theorem OwnS.nil (w : World) (base : Nat) : OwnS w base (.slice none 0 0) [] := World.ownsRow_nil w base _ _
theorem OwnS.strs {w : World} {base : Nat} {v : Value} {l : List (List UInt8)} (h : OwnS w base v l) : Strs w v l := by
  rcases h.2 with ⟨rfl, h0⟩ | ⟨g, cap, cur, rfl, _, hgb, hc, _, hsz, htk⟩
  · exact .inl ⟨List.eq_nil_of_length_eq_zero h0, none, 0, rfl⟩
  · refine .inr ⟨g, 0, cap, rfl, hc, fun j hj => ?_⟩
    have hcur : w.cell? ⟨g, 0 + j, none⟩ = cur[j]? := by simp [World.cell?, hgb]
    rw [hcur]
    have h1 : (cur.toList.take (l.length * 1))[j]? = cur[j]? := by rw [List.getElem?_take_of_lt (by omega), Array.getElem?_toList]
    rw [← h1, htk]
    unfold strL
    rw [List.getElem?_map, List.getD_eq_getElem?_getD, List.getElem?_eq_getElem hj]
    rfl
theorem OwnS.shape {w : World} {base : Nat} {v : Value} {l : List (List UInt8)} (h : OwnS w base v l) : ∃ a cap, v = .slice a l.length cap := h.strs.shape
theorem OwnS.below {w w' : World} {base : Nat} {v : Value} {l : List (List UInt8)} (h : OwnS w base v l) (hb : ∀ k, base ≤ k → k < w.heap.size → w'.heap[k]? = w.heap[k]?) : OwnS w' base v l := by
  unfold OwnS at h ⊢
  rcases h with ⟨h1, h2 | ⟨g, cap, cur, e1, e2, e3, e4⟩⟩
  · exact ⟨h1, .inl h2⟩
  · exact ⟨h1, .inr ⟨g, cap, cur, e1, e2, (hb g e2 (Array.getElem?_eq_some_iff.1 e3).1).trans e3, e4⟩⟩
theorem append_str (base : Nat) (v : Value) (l : List (List UInt8)) (x : ByteArray) (hl : l.length ≤ 1000) (w : World) (h : OwnS w base v l) (hb : base ≤ w.heap.size) :
    ∃ v' w', (Builtin.append_ #[41, 41] 41 #[v, .slice (some ⟨w.heap.size, 0, none⟩) 1 1]).run Tryz.prog (w.alloc (.cells #[.string x] 9)) = .ok v' w' ∧ OwnS w' base v' (l ++ [x.data.toList]) ∧ (∀ k, k < base → w'.heap[k]? = w.heap[k]?) ∧ (∀ N a, N ≤ base → Below N a w → Below N a w') ∧ w.heap.size ≤ w'.heap.size := by
  obtain ⟨i, hi, hh⟩ := Option.map_eq_some_iff.1 infoStr
  simp only [Prod.mk.injEq] at hh
  obtain ⟨hz, hs, hby⟩ := hh
  have ho := World.ownsRow.alloc h (.cells #[.string x] 9)
  obtain ⟨v', w', h1, h2, h3, _, _⟩ := run_append_own_at (P := Tryz.prog) (w.alloc (.cells #[.string x] 9)) base 41 41 9 i _ 1 16 Tryz.underlying41 hi hz hs hby rfl (by omega) v l.length (strL l) ho ⟨w.heap.size, 0, none⟩ 1 1 [.string x] rfl (cell_one_new w _ _) (fun u hu => by simp at hu; subst hu; rfl) (by unfold maxLen; omega) (by omega) (by rw [World.size_alloc]; omega)
  have hbl : Below base w (w.alloc (.cells #[.string x] 9)) := (Below.refl base w).alloc hb _
  have hbase := hbl.grown h3 (by rw [World.size_alloc]; omega) (fun j hj => (ho.lt j hj).1)
  refine ⟨v', w', h1, ?_, fun k hk => hbase.block k hk, fun N a hN ha => ?_, ?_⟩
  · unfold OwnS
    rw [List.length_append, show strL (l ++ [x.data.toList]) = strL l ++ [.string x] by simp [strL]]
    exact h2
  · exact (ha.alloc (Nat.le_trans hN hb) _).grown h3 (by rw [World.size_alloc]; omega) (fun j hj => Nat.le_trans hN (ho.lt j hj).1)
  · have := h3.size
    rw [World.size_alloc] at this
    omega
/-- Four cells of a section. -/
structure SecAt (W : World) (S : Nat) (m : Bool) (k : Nat) (v : Value) (e : Bool) : Prop where
  c0 : W.cell? ⟨S, 0, none⟩ = some (.bool m)
  c1 : W.cell? ⟨S, 1, none⟩ = some (.int .i64 (k : Int))
  c2 : W.cell? ⟨S, 2, none⟩ = some v
  c3 : W.cell? ⟨S, 3, none⟩ = some (.bool e)
  f0 : W.frozen? ⟨S, 0, none⟩ = false
  f1 : W.frozen? ⟨S, 1, none⟩ = false
  f2 : W.frozen? ⟨S, 2, none⟩ = false
  f3 : W.frozen? ⟨S, 3, none⟩ = false
  lt : S < W.heap.size
theorem SecAt.other {W W' : World} {S k : Nat} {m e : Bool} {v : Value} (h : SecAt W S m k v e) (hk : W'.heap[S]? = W.heap[S]?) (hs : W.heap.size ≤ W'.heap.size) : SecAt W' S m k v e :=
  ⟨(World.cell?_of_block (a := ⟨S, 0, none⟩) hk).trans h.c0, (World.cell?_of_block (a := ⟨S, 1, none⟩) hk).trans h.c1, (World.cell?_of_block (a := ⟨S, 2, none⟩) hk).trans h.c2, (World.cell?_of_block (a := ⟨S, 3, none⟩) hk).trans h.c3, (World.frozen?_of_block (a := ⟨S, 0, none⟩) hk).trans h.f0, (World.frozen?_of_block (a := ⟨S, 1, none⟩) hk).trans h.f1, (World.frozen?_of_block (a := ⟨S, 2, none⟩) hk).trans h.f2, (World.frozen?_of_block (a := ⟨S, 3, none⟩) hk).trans h.f3, Nat.lt_of_lt_of_le h.lt hs⟩
theorem SecAt.new (w : World) (m : Bool) (k : Nat) (v : Value) (e : Bool) : SecAt (w.alloc (.cells #[.bool m, .int .i64 (k : Int), v, .bool e] 43)) w.heap.size m k v e :=
  ⟨by simp [go_sem], by simp [go_sem], by simp [go_sem], by simp [go_sem], by simp [go_sem], by simp [go_sem], by simp [go_sem], by simp [go_sem], by simp⟩
theorem SecAt.setMark {W : World} {S k : Nat} {m e : Bool} {v : Value} (h : SecAt W S m k v e) (m' : Bool) : SecAt (W.setCell ⟨S, 0, none⟩ (.bool m')) S m' k v e :=
  ⟨World.cell?_setCell_same _ _ _ h.c0, (World.cell?_setCell_other _ _ _ _ (by simp)).trans h.c1, (World.cell?_setCell_other _ _ _ _ (by simp)).trans h.c2, (World.cell?_setCell_other _ _ _ _ (by simp)).trans h.c3, by simpa using h.f0, by simpa using h.f1, by simpa using h.f2, by simpa using h.f3, by simpa [World.setCell] using h.lt⟩
theorem SecAt.setCount {W : World} {S k : Nat} {m e : Bool} {v : Value} (h : SecAt W S m k v e) (k' : Nat) : SecAt (W.setCell ⟨S, 1, none⟩ (.int .i64 (k' : Int))) S m k' v e :=
  ⟨(World.cell?_setCell_other _ _ _ _ (by simp)).trans h.c0, World.cell?_setCell_same _ _ _ h.c1, (World.cell?_setCell_other _ _ _ _ (by simp)).trans h.c2, (World.cell?_setCell_other _ _ _ _ (by simp)).trans h.c3, by simpa using h.f0, by simpa using h.f1, by simpa using h.f2, by simpa using h.f3, by simpa [World.setCell] using h.lt⟩
theorem SecAt.setNums {W : World} {S k : Nat} {m e : Bool} {v : Value} (h : SecAt W S m k v e) (v' : Value) : SecAt (W.setCell ⟨S, 2, none⟩ v') S m k v' e :=
  ⟨(World.cell?_setCell_other _ _ _ _ (by simp)).trans h.c0, (World.cell?_setCell_other _ _ _ _ (by simp)).trans h.c1, World.cell?_setCell_same _ _ _ h.c2, (World.cell?_setCell_other _ _ _ _ (by simp)).trans h.c3, by simpa using h.f0, by simpa using h.f1, by simpa using h.f2, by simpa using h.f3, by simpa [World.setCell] using h.lt⟩
theorem SecAt.setEnds {W : World} {S k : Nat} {m e : Bool} {v : Value} (h : SecAt W S m k v e) (e' : Bool) : SecAt (W.setCell ⟨S, 3, none⟩ (.bool e')) S m k v e' :=
  ⟨(World.cell?_setCell_other _ _ _ _ (by simp)).trans h.c0, (World.cell?_setCell_other _ _ _ _ (by simp)).trans h.c1, (World.cell?_setCell_other _ _ _ _ (by simp)).trans h.c2, World.cell?_setCell_same _ _ _ h.c3, by simpa using h.f0, by simpa using h.f1, by simpa using h.f2, by simpa using h.f3, by simpa [World.setCell] using h.lt⟩
theorem SecAt.set {W : World} {S k : Nat} {m e : Bool} {v : Value} (h : SecAt W S m k v e) (m' : Bool) (k' : Nat) (v' : Value) (e' : Bool) :
    ∃ W5, (((W.setCell ⟨S, 0, none⟩ (.bool m')).setCell ⟨S, 1, none⟩ (.int .i64 (k' : Int))).setCell ⟨S, 2, none⟩ v').setCell ⟨S, 3, none⟩ (.bool e') = W5 ∧ SecAt W5 S m' k' v' e' :=
  ⟨_, rfl, ((((h.setMark m').setCount k').setNums v').setEnds e')⟩
theorem SecAt.keep {W : World} {S k : Nat} {m e : Bool} {v : Value} (h : SecAt W S m k v e) {B o : Nat} (hne : S ≠ B) (u : Value) : SecAt (W.setCell ⟨B, o, none⟩ u) S m k v e :=
  h.other (Below.heap_setCell _ _ _ _ hne) (by simp [World.setCell])
/-- A text in its box. -/
structure BoxAt (W : World) (B : Nat) (s : ByteArray) : Prop where
  c : W.cell? ⟨B, 0, none⟩ = some (.string s)
  f : W.frozen? ⟨B, 0, none⟩ = false
  lt : B < W.heap.size
theorem BoxAt.other {W W' : World} {B : Nat} {s : ByteArray} (h : BoxAt W B s) (hk : W'.heap[B]? = W.heap[B]?) (hs : W.heap.size ≤ W'.heap.size) : BoxAt W' B s :=
  ⟨(World.cell?_of_block (a := ⟨B, 0, none⟩) hk).trans h.c, (World.frozen?_of_block (a := ⟨B, 0, none⟩) hk).trans h.f, Nat.lt_of_lt_of_le h.lt hs⟩
theorem BoxAt.set {W : World} {B : Nat} {s : ByteArray} (h : BoxAt W B s) (s' : ByteArray) : BoxAt (W.setCell ⟨B, 0, none⟩ (.string s')) B s' :=
  ⟨World.cell?_setCell_same _ _ _ h.c, by simpa using h.f, by simpa [World.setCell] using h.lt⟩
theorem BoxAt.keep {W : World} {B : Nat} {s : ByteArray} (h : BoxAt W B s) {S o : Nat} (hne : B ≠ S) (u : Value) : BoxAt (W.setCell ⟨S, o, none⟩ u) B s :=
  h.other (Below.heap_setCell _ _ _ _ hne) (by simp [World.setCell])
end Go.Proofs.YtdfgifnccghlmabGreatDoor
namespace Go.Proofs.YtdfgifnccghlmabGreatDoor
open Go.RowKit Go.Lib

/-- What stays: all that was there, but for the box. -/
structure Old (w : World) (B : Nat) (W : World) : Prop where
  heap : ∀ j, j < w.heap.size → j ≠ B → W.heap[j]? = w.heap[j]?
  size : w.heap.size + 2 ≤ W.heap.size
  below : ∀ N a, N ≤ B → Below N a w → Below N a W
theorem Old.later {w W W' : World} {B : Nat} (h : Old w B W) (hB : B < w.heap.size) (hb : Below W.heap.size W W') : Old w B W' :=
  ⟨fun j hj hne => (hb.block j (by have := h.size; omega)).trans (h.heap j hj hne), Nat.le_trans h.size hb.size, fun N a hN ha => (h.below N a hN ha).trans (hb.mono (by have := h.size; omega))⟩
theorem Old.setBox {w W : World} {B : Nat} (h : Old w B W) (u : Value) : Old w B (W.setCell ⟨B, 0, none⟩ u) :=
  ⟨fun j hj hne => (Below.heap_setCell _ _ _ _ hne).trans (h.heap j hj hne), by simpa [World.setCell] using h.size, fun N a hN ha => (h.below N a hN ha).setCell (p := ⟨B, 0, none⟩) hN u⟩
theorem Old.setNew {w W : World} {B S o : Nat} (h : Old w B W) (hB : B < w.heap.size) (hS : w.heap.size ≤ S) (u : Value) : Old w B (W.setCell ⟨S, o, none⟩ u) :=
  ⟨fun j hj hne => (Below.heap_setCell _ _ _ _ (show j ≠ S by omega)).trans (h.heap j hj hne), by simpa [World.setCell] using h.size, fun N a hN ha => (h.below N a hN ha).setCell (p := ⟨S, o, none⟩) (by show N ≤ S; omega) u⟩
theorem Old.grown {w W W' : World} {B : Nat} (h : Old w B W) (hB : B < w.heap.size) (h1 : ∀ k, k < w.heap.size + 2 → W'.heap[k]? = W.heap[k]?) (h2 : ∀ N a, N ≤ w.heap.size + 2 → Below N a W → Below N a W') (h3 : W.heap.size ≤ W'.heap.size) : Old w B W' :=
  ⟨fun j hj hne => (h1 j (by omega)).trans (h.heap j hj hne), Nat.le_trans h.size h3, fun N a hN ha => h2 N a (by omega) (h.below N a hN ha)⟩
theorem Strs.old {w W : World} {B : Nat} {v : Value} {l : List (List UInt8)} (h : Strs w v l) (ho : Old w B W) (hne : v.ownBlock ≠ some B) : Strs W v l := by
  rcases h with h | ⟨b, off, cap, rfl, hc, h⟩
  · exact .inl h
  · refine .inr ⟨b, off, cap, rfl, hc, fun j hj => ?_⟩
    have hlt : b < w.heap.size := lt_of_cell (h j hj)
    exact (World.cell?_of_block (a := ⟨b, off + j, none⟩) (ho.heap b hlt (fun e => hne (by rw [e]; rfl)))).trans (h j hj)
theorem parts_step (m : Bool) (c : UInt8) (cs s : List UInt8) : partsL m (c :: cs) s = match (if m = true then partL c s else none) with
    | some x => ((partsL m cs x.2).1 + 1, x.1 :: (partsL m cs x.2).2.1, (partsL m cs x.2).2.2)
    | none => ((partsL m cs s).1, [48] :: (partsL m cs s).2.1, (partsL m cs s).2.2) := rfl
theorem parts_some {m : Bool} {c : UInt8} {cs s n r : List UInt8} (hm : m = true) (h : partL c s = some (n, r)) : partsL m (c :: cs) s = ((partsL m cs r).1 + 1, n :: (partsL m cs r).2.1, (partsL m cs r).2.2) := by
  rw [parts_step, if_pos hm, h]
theorem parts_none {m : Bool} {c : UInt8} {cs s : List UInt8} (h : m = false ∨ partL c s = none) : partsL m (c :: cs) s = ((partsL m cs s).1, [48] :: (partsL m cs s).2.1, (partsL m cs s).2.2) := by
  rw [parts_step]
  rcases h with h | h
  · rw [h]; rfl
  · rw [h]; cases m <;> rfl
/-- How a section goes on. -/
def GoesOn (m : Bool) (cs s : List UInt8) (k : Nat) (ns : List (List UInt8)) (T : Nat × List (List UInt8) × List UInt8) : Prop :=
  k + (partsL m cs s).1 = T.1 ∧ ns ++ (partsL m cs s).2.1 = T.2.1 ∧ (partsL m cs s).2.2 = T.2.2
/-- What a section gives: its four fields, and what is left, in the box. -/
def SecG (w : World) (B : Nat) (T : Bool × Nat × List (List UInt8) × List UInt8) (e : Ending) (w' : World) : Prop :=
  ∃ v R, e = .returned (.agg #[.bool T.1, .int .i64 (T.2.1 : Nat), v, .bool (decide (T.2.2.2 = []))]) ∧ R.data.toList = T.2.2.2 ∧ OwnS w' (w.heap.size + 2) v T.2.2.1 ∧ BoxAt w' B R ∧ Old w B w'
set_option maxRecDepth 100000 in
set_option maxHeartbeats 8000000 in
theorem read_du (mk : UInt8) (M : ByteArray) (hM : M.data.toList = [mk]) (cs : List UInt8) (hcs : cs.length ≤ 10) (v1 : Value) (form : ByteArray) (hf : form.size ≤ 1000) (B : Nat) (w : World) (m : Int) (hm : w.cell? ⟨3, 0, none⟩ = some (.int .i64 m)) (hmB : 3 ≠ B)
    (h1 : Strs w v1 (cs.map fun c => [c])) (hne : v1.ownBlock ≠ some B) (hBox : BoxAt w B form) :
    Calls Tryz.prog 50 #[.string M, v1, .pointer (some ⟨B, 0, none⟩)] w (SecG w B (secL mk cs form.data.toList)) := by
  have hB := hBox.lt
  have vR0 : SecAt (w.alloc (.cells #[.bool false, .int .i64 0, .slice none 0 0, .bool false] 43)) w.heap.size false 0 (.slice none 0 0) false := SecAt.new w false 0 (.slice none 0 0) false
  have vS : SecAt ((w.alloc (.cells #[.bool false, .int .i64 0, .slice none 0 0, .bool false] 43)).alloc (.cells #[.bool false, .int .i64 0, .slice none 0 0, .bool false] 43)) (w.heap.size + 1) false 0 (.slice none 0 0) false := by
    have := SecAt.new (w.alloc (.cells #[.bool false, .int .i64 0, .slice none 0 0, .bool false] 43)) false 0 (.slice none 0 0) false
    rw [World.size_alloc] at this
    exact this
  have hb1 : Below w.heap.size w (w.alloc (.cells #[.bool false, .int .i64 0, .slice none 0 0, .bool false] 43)) := (Below.refl _ _).alloc (Nat.le_refl _) _
  have hb2 : Below w.heap.size w ((w.alloc (.cells #[.bool false, .int .i64 0, .slice none 0 0, .bool false] 43)).alloc (.cells #[.bool false, .int .i64 0, .slice none 0 0, .bool false] 43)) := hb1.alloc hb1.size _
  have vR : SecAt ((w.alloc (.cells #[.bool false, .int .i64 0, .slice none 0 0, .bool false] 43)).alloc (.cells #[.bool false, .int .i64 0, .slice none 0 0, .bool false] 43)) w.heap.size false 0 (.slice none 0 0) false := vR0.other (((Below.refl _ _).alloc (Nat.le_refl _) _ : Below (w.alloc (.cells #[.bool false, .int .i64 0, .slice none 0 0, .bool false] 43)).heap.size _ _).block _ vR0.lt) (by simp)
  have hO2 : Old w B ((w.alloc (.cells #[.bool false, .int .i64 0, .slice none 0 0, .bool false] 43)).alloc (.cells #[.bool false, .int .i64 0, .slice none 0 0, .bool false] 43)) := ⟨fun j hj _ => hb2.block j hj, by simp, fun N a hN ha => ha.trans (hb2.mono (by omega))⟩
  obtain ⟨W2, hW2⟩ : ∃ W2, (w.alloc (.cells #[.bool false, .int .i64 0, .slice none 0 0, .bool false] 43)).alloc (.cells #[.bool false, .int .i64 0, .slice none 0 0, .bool false] 43) = W2 := ⟨_, rfl⟩
  rw [hW2] at vS hb2 vR hO2
  have bx2 := hBox.other (hb2.block B hB) hb2.size
  -- the mark
  have cP := Tryz.strings_CutPrefix form M W2
  rw [hM] at cP
  have hsec : secL mk cs form.data.toList = (Lib.hasPrefix form.data.toList [mk], partsL (Lib.hasPrefix form.data.toList [mk]) cs (Lib.trimPrefix form.data.toList [mk])) := rfl
  rw [hsec]
  clear hsec
  have hfl := ba_size form
  have hpl : (Lib.trimPrefix form.data.toList [mk]).length ≤ form.data.toList.length := by unfold Lib.trimPrefix; split <;> simp
  obtain ⟨C0, hC0, hCl⟩ := ba_ex (Lib.trimPrefix form.data.toList [mk])
  obtain ⟨m0, hm0⟩ : ∃ b, Lib.hasPrefix form.data.toList [mk] = b := ⟨_, rfl⟩
  rw [hC0, hm0] at cP
  rw [hm0, ← hCl]
  have hC9 : C0.size ≤ 1000 := by rw [ba_size, hCl]; omega
  obtain ⟨T, hT⟩ : ∃ t, partsL m0 cs C0.data.toList = t := ⟨_, rfl⟩
  rw [hT]
  have HG0 := Lib.hid (show GoesOn m0 (cs.drop 0) C0.data.toList 0 [] T by rw [← hT]; exact ⟨by simp, by simp, by simp⟩)
  -- the letters
  obtain ⟨a1, cap1, rfl⟩ := h1.shape
  have hl1 : (cs.map fun c => [c]).length = cs.length := by simp
  rw [hl1]
  rw [hl1] at h1 hne
  have H1 := Lib.hid h1
  have HNE := Lib.hid hne
  have HM := Lib.hid (And.intro hm hmB)
  have HHB := Lib.hid hB
  have HBW := Lib.hid hBox
  clear h1 hne hm hmB hM hfl hpl hC0 hCl hm0 hT hl1 hf hBox vR0 hb1
  -- behind the mark
  have bx3 := bx2.set C0
  have vS3 := vS.keep (show w.heap.size + 1 ≠ B by omega) (B := B) (o := 0) (.string C0)
  have vR3 := vR.keep (show w.heap.size ≠ B by omega) (B := B) (o := 0) (.string C0)
  have hO3 := hO2.setBox (.string C0)
  obtain ⟨W3, hW3⟩ : ∃ W3, W2.setCell ⟨B, 0, none⟩ (.string C0) = W3 := ⟨_, rfl⟩
  rw [hW3] at bx3 vS3 vR3 hO3
  have bx4 := bx3.keep (show B ≠ w.heap.size + 1 by omega) (S := w.heap.size + 1) (o := 0) (.bool m0)
  have vS4 := vS3.setMark m0
  have vR4 := vR3.keep (show w.heap.size ≠ w.heap.size + 1 by omega) (B := w.heap.size + 1) (o := 0) (.bool m0)
  have hO4 := hO3.setNew hB (show w.heap.size ≤ w.heap.size + 1 by omega) (o := 0) (.bool m0)
  obtain ⟨W4, hW4⟩ : ∃ W4, W3.setCell ⟨w.heap.size + 1, 0, none⟩ (.bool m0) = W4 := ⟨_, rfl⟩
  rw [hW4] at bx4 vS4 vR4 hO4
  obtain ⟨x0, x1, xl⟩ := id bx2
  obtain ⟨s0, _, _, _, s4, _, _, _, sl⟩ := id vS3
  have HS4 := Lib.hid vS4
  have HR4 := Lib.hid vR4
  have HB4 := Lib.hid bx4
  have HO4 := Lib.hid hO4
  have HW2 := Lib.hid hW2
  clear vS vR bx2 bx3 vS3 vR3 hO2 hO3 vS4 vR4 bx4 hO4 hb2 hW2
  have bz : w.cell? ⟨B, 0, none⟩ = some (.string form) := by
    have := HBW.out.c
    exact this
  go_enter Tryz.func50, Tryz.ntmps50
  go_wp2_with fail
  try rw [HW2.out]
  refine cP.mono ?_
  rintro e w3 ⟨rfl, rfl⟩
  clear bz cP
  go_wp2_with fail
  try rw [hW3]
  try rw [hW4]
  have HL5 := Lib.hid hcs
  clear hW3 hW4 x0 x1 s0 s4
  go_loopg [21] cs.length (fun g s21 wx => ∃ (i k : Nat) (cur : ByteArray) (vn : Value) (ns : List (List UInt8)), s21 = .int .i64 i ∧ i + g = cs.length ∧ k ≤ i ∧ Hid (ns.length = i) ∧ cur.size ≤ 1000 ∧ Hid (GoesOn m0 (cs.drop i) cur.data.toList k ns T) ∧ Hid (SecAt wx (w.heap.size + 1) m0 k vn false) ∧ Hid (SecAt wx w.heap.size false 0 (.slice none 0 0) false) ∧ Hid (BoxAt wx B cur) ∧ Hid (OwnS wx (w.heap.size + 2) vn ns) ∧ Hid (Old w B wx))
  case atStart => exact ⟨0, 0, C0, .slice none 0 0, [], rfl, by omega, by omega, Lib.hid rfl, hC9, HG0, HS4, HR4, HB4, Lib.hid (OwnS.nil _ _), HO4⟩
  case round =>
    clear HG0 HS4 HR4 HB4 HO4 HW2
    obtain ⟨i, k, cur, vn, ns, rfl, hig, hki, HNS, hcur, HGo, HS, HR, HBx, HOwn, HO⟩ := hrel
    obtain ⟨pv, cv, hvn⟩ := HOwn.out.shape
    rw [HNS.out] at hvn
    subst hvn
    by_cases hlt : i < cs.length
    · obtain ⟨g, rfl⟩ : ∃ g, gk = g + 1 := ⟨gk - 1, by omega⟩
      have hil : (i : Int) < (cs.length : Int) := by omega
      have hcons : cs.drop i = cs[i] :: cs.drop (i + 1) := List.drop_eq_getElem_cons hlt
      obtain ⟨c, hc⟩ : ∃ c, cs[i] = c := ⟨_, rfl⟩
      rw [hc] at hcons
      obtain ⟨b1, o1, rfl, d1⟩ := (H1.out.old HO.out HNE.out).at i (by simpa using hlt)
      have hgd : (cs.map fun c => [c]).getD i [] = [c] := by rw [List.getD_eq_getElem?_getD, List.getElem?_map, List.getElem?_eq_getElem hlt, hc]; rfl
      rw [hgd] at d1
      obtain ⟨LB, hLB, hLl⟩ := ba_ex [c]
      rw [hLB] at d1
      have hgm : wr.cell? ⟨3, 0, none⟩ = some (.int .i64 m) := (World.cell?_of_block (a := ⟨3, 0, none⟩) (HO.out.heap _ (lt_of_cell HM.out.1) HM.out.2)).trans HM.out.1
      have cC := cutPart_du cur LB c hLl hcur wr m hgm
      obtain ⟨y0, y1, _⟩ := id HBx.out
      have hki9 : k ≤ 10 := by have := HL5.out; omega
      have hi9 : i ≤ 10 := by have := HL5.out; omega
      clear hgm hgd hLB hLl hc
      cases hpl : partL c cur.data.toList with
      | some x =>
        rw [hpl] at cC
        have hxl := partL_len (n := x.1) (r := x.2) hpl
        have hcz := ba_size cur
        obtain ⟨NB, hNB, hNl⟩ := ba_ex x.1
        obtain ⟨RB, hRB, hRl⟩ := ba_ex x.2
        have hRs : RB.size ≤ 1000 := by rw [ba_size, hRl]; omega
        rw [show cutV (some x) = .tuple #[.string NB, .string RB, .bool true] by rw [← hNB, ← hRB]; rfl] at cC
        have hpl : partL c cur.data.toList = some (x.1, x.2) := hpl
        clear hxl hcz hNB hRB
        rcases Bool.eq_false_or_eq_true m0 with hm0 | hm0
        · clear HNE HM
          go_wp2_with fail
          refine cC.mono ?_
          rintro e w5 ⟨rfl, hb5⟩
          have vS5 := HS.out.other (hb5.block _ HS.out.lt) hb5.size
          have vR5 := HR.out.other (hb5.block _ HR.out.lt) hb5.size
          have bx5 := HBx.out.other (hb5.block _ HBx.out.lt) hb5.size
          have hOld5 := HO.out.later HHB.out hb5
          have HOwn5a := Lib.hid (HOwn.out.below (fun k _ h => hb5.block k h))
          clear cC y0 y1
          have hpn := parts_some (cs := cs.drop (i + 1)) hm0 hpl
          have HGo2 := Lib.hid (show GoesOn m0 (cs.drop (i + 1)) RB.data.toList (k + 1) (ns ++ [NB.data.toList]) T by
            have h := HGo.out
            rw [hcons] at h
            unfold GoesOn at h ⊢
            rw [hpn] at h
            rw [hNl, hRl]
            refine ⟨?_, ?_, h.2.2⟩
            · have := h.1; simp only at this; omega
            · have := h.2.1; simp only at this; rw [← this, List.append_assoc]; rfl)
          have hb6 := bx5.set RB
          have vS6 := vS5.keep (show w.heap.size + 1 ≠ B by have := HHB.out; omega) (B := B) (o := 0) (.string RB)
          have vR6 := vR5.keep (show w.heap.size ≠ B by have := HHB.out; omega) (B := B) (o := 0) (.string RB)
          have hOld6 := hOld5.setBox (.string RB)
          have hOwn6 := HOwn5a.out.below (w' := w5.setCell ⟨B, 0, none⟩ (.string RB)) (fun k h1 h2 => Below.heap_setCell _ _ _ _ (show k ≠ B by have := HHB.out; omega))
          obtain ⟨W6, hW6⟩ : ∃ W6, w5.setCell ⟨B, 0, none⟩ (.string RB) = W6 := ⟨_, rfl⟩
          rw [hW6] at hb6 vS6 vR6 hOld6 hOwn6
          have vSZ := vS6.setCount (k + 1)
          have vRZ := vR6.keep (show w.heap.size ≠ w.heap.size + 1 by omega) (B := w.heap.size + 1) (o := 1) (.int .i64 ((k + 1 : Nat) : Int))
          have bxZ := hb6.keep (show B ≠ w.heap.size + 1 by have := HHB.out; omega) (S := w.heap.size + 1) (o := 1) (.int .i64 ((k + 1 : Nat) : Int))
          have hOldZ := hOld6.setNew HHB.out (show w.heap.size ≤ w.heap.size + 1 by omega) (o := 1) (.int .i64 ((k + 1 : Nat) : Int))
          have HOwn5 := Lib.hid (hOwn6.below (w' := W6.setCell ⟨w.heap.size + 1, 1, none⟩ (.int .i64 ((k + 1 : Nat) : Int))) (fun k h1 h2 => Below.heap_setCell _ _ _ _ (show k ≠ w.heap.size + 1 by omega)))
          have hkc : ((k + 1 : Nat) : Int) = (k : Int) + 1 := by omega
          rw [hkc] at vRZ bxZ hOldZ HOwn5
          have vSZ : SecAt (W6.setCell ⟨w.heap.size + 1, 1, none⟩ (.int .i64 ((k : Int) + 1))) (w.heap.size + 1) m0 (k + 1) (.slice pv i cv) false := by rw [← hkc]; exact vSZ
          obtain ⟨W7, hW7⟩ : ∃ W7, W6.setCell ⟨w.heap.size + 1, 1, none⟩ (.int .i64 ((k : Int) + 1)) = W7 := ⟨_, rfl⟩
          rw [hW7] at vSZ vRZ bxZ hOldZ HOwn5
          obtain ⟨e0, e1, _⟩ := id bx5
          obtain ⟨c0, _, _, _, _, _, _, _, _⟩ := id vS5
          obtain ⟨_, q1, _, _, _, q5, _, _, _⟩ := id vS6
          have hOwZ := HOwn5.out
          obtain ⟨v8, w8, hr8, ho8, hk8, hn8, hs8⟩ := append_str (w.heap.size + 2) (.slice pv i cv) ns NB (by rw [HNS.out]; omega) W7 hOwZ hOldZ.size
          obtain ⟨p8, c8, hv8⟩ := ho8.shape
          rw [show (ns ++ [(NB : ByteArray).data.toList]).length = i + 1 by rw [List.length_append, HNS.out]; rfl] at hv8
          subst hv8
          have vS8 := vSZ.other (hk8 _ (by omega)) hs8
          have vR8 := vRZ.other (hk8 _ (by omega)) hs8
          have bx8 := bxZ.other (hk8 _ (by have := HHB.out; omega)) hs8
          have hOld8 := hOldZ.grown HHB.out hk8 hn8 hs8
          have vS9 := vS8.setNums (.slice p8 (i + 1) c8)
          have vR9 := vR8.keep (show w.heap.size ≠ w.heap.size + 1 by omega) (B := w.heap.size + 1) (o := 2) (.slice p8 (i + 1) c8)
          have bx9 := bx8.keep (show B ≠ w.heap.size + 1 by have := HHB.out; omega) (S := w.heap.size + 1) (o := 2) (.slice p8 (i + 1) c8)
          have hOld9 := hOld8.setNew HHB.out (show w.heap.size ≤ w.heap.size + 1 by omega) (o := 2) (.slice p8 (i + 1) c8)
          have hOwn9 := ho8.below (w' := w8.setCell ⟨w.heap.size + 1, 2, none⟩ (.slice p8 (i + 1) c8)) (fun k h1 h2 => Below.heap_setCell _ _ _ _ (show k ≠ w.heap.size + 1 by omega))
          obtain ⟨W9, hW9⟩ : ∃ W9, w8.setCell ⟨w.heap.size + 1, 2, none⟩ (.slice p8 (i + 1) c8) = W9 := ⟨_, rfl⟩
          rw [hW9] at vS9 vR9 bx9 hOld9 hOwn9
          obtain ⟨_, _, t2, _, _, _, _, _, tl⟩ := id vSZ
          obtain ⟨_, _, p2, _, _, _, p6, _, pl⟩ := id vS8
          have HS9 := Lib.hid vS9
          have HR9 := Lib.hid vR9
          have HB9 := Lib.hid bx9
          have HO9 := Lib.hid hOld9
          have HOw9 := Lib.hid hOwn9
          have H8 := Lib.hid hr8
          have HNS2 := Lib.hid (show (ns ++ [NB.data.toList]).length = i + 1 by rw [List.length_append, HNS.out]; rfl)
          clear hpn hkc vSZ vRZ bxZ hOldZ hOwZ hr8 ho8 hk8 hn8 hs8 vS8 vR8 bx8 hOld8 vS9 vR9 bx9 hOld9 hOwn9 hb6 vS6 vR6 hOld6 hOwn6 bx5 vS5 vR5 hOld5 hcons hpl hNl hRl
          rw [hm0] at c0
          clear hm0
          go_wp2_with (at_builtin; refine Lib.wpList_append_run _ rfl (.tmp 43) (.tmp 45) 41 41 rfl _ _ rfl rfl _ _ H8.out ?_)
          go_roundg g
          case rel => exact ⟨i + 1, k + 1, RB, .slice p8 (i + 1) c8, ns ++ [NB.data.toList], by congr 1, by omega, by omega, HNS2, hRs, HGo2, HS9, HR9, HB9, HOw9, HO9⟩
          all_goals omega
        · clear hNl hRl hRs
          clear HNE HM
          go_wp2_with fail
          refine cC.mono ?_
          rintro e w5 ⟨rfl, hb5⟩
          have vS5 := HS.out.other (hb5.block _ HS.out.lt) hb5.size
          have vR5 := HR.out.other (hb5.block _ HR.out.lt) hb5.size
          have bx5 := HBx.out.other (hb5.block _ HBx.out.lt) hb5.size
          have hOld5 := HO.out.later HHB.out hb5
          have HOwn5a := Lib.hid (HOwn.out.below (fun k _ h => hb5.block k h))
          clear cC y0 y1
          have hpn := parts_none (cs := cs.drop (i + 1)) (c := c) (s := cur.data.toList) (m := m0) (.inl hm0)
          have HGo2 := Lib.hid (show GoesOn m0 (cs.drop (i + 1)) cur.data.toList k (ns ++ [(⟨#[48]⟩ : ByteArray).data.toList]) T by
            have h := HGo.out
            rw [hcons] at h
            unfold GoesOn at h ⊢
            rw [hpn] at h
            refine ⟨h.1, ?_, h.2.2⟩
            have := h.2.1; simp only at this; rw [← this, List.append_assoc]; rfl)
          have vSZ := vS5
          have vRZ := vR5
          have bxZ := bx5
          have hOldZ := hOld5
          have HOwn5 := HOwn5a
          obtain ⟨c0, _, _, _, _, _, _, _, _⟩ := id vS5
          have hOwZ := HOwn5.out
          obtain ⟨v8, w8, hr8, ho8, hk8, hn8, hs8⟩ := append_str (w.heap.size + 2) (.slice pv i cv) ns ⟨#[48]⟩ (by rw [HNS.out]; omega) w5 hOwZ hOldZ.size
          obtain ⟨p8, c8, hv8⟩ := ho8.shape
          rw [show (ns ++ [(⟨#[48]⟩ : ByteArray).data.toList]).length = i + 1 by rw [List.length_append, HNS.out]; rfl] at hv8
          subst hv8
          have vS8 := vSZ.other (hk8 _ (by omega)) hs8
          have vR8 := vRZ.other (hk8 _ (by omega)) hs8
          have bx8 := bxZ.other (hk8 _ (by have := HHB.out; omega)) hs8
          have hOld8 := hOldZ.grown HHB.out hk8 hn8 hs8
          have vS9 := vS8.setNums (.slice p8 (i + 1) c8)
          have vR9 := vR8.keep (show w.heap.size ≠ w.heap.size + 1 by omega) (B := w.heap.size + 1) (o := 2) (.slice p8 (i + 1) c8)
          have bx9 := bx8.keep (show B ≠ w.heap.size + 1 by have := HHB.out; omega) (S := w.heap.size + 1) (o := 2) (.slice p8 (i + 1) c8)
          have hOld9 := hOld8.setNew HHB.out (show w.heap.size ≤ w.heap.size + 1 by omega) (o := 2) (.slice p8 (i + 1) c8)
          have hOwn9 := ho8.below (w' := w8.setCell ⟨w.heap.size + 1, 2, none⟩ (.slice p8 (i + 1) c8)) (fun k h1 h2 => Below.heap_setCell _ _ _ _ (show k ≠ w.heap.size + 1 by omega))
          obtain ⟨W9, hW9⟩ : ∃ W9, w8.setCell ⟨w.heap.size + 1, 2, none⟩ (.slice p8 (i + 1) c8) = W9 := ⟨_, rfl⟩
          rw [hW9] at vS9 vR9 bx9 hOld9 hOwn9
          obtain ⟨_, _, t2, _, _, _, _, _, tl⟩ := id vSZ
          obtain ⟨_, _, p2, _, _, _, p6, _, pl⟩ := id vS8
          have HS9 := Lib.hid vS9
          have HR9 := Lib.hid vR9
          have HB9 := Lib.hid bx9
          have HO9 := Lib.hid hOld9
          have HOw9 := Lib.hid hOwn9
          have H8 := Lib.hid hr8
          have HNS2 := Lib.hid (show (ns ++ [(⟨#[48]⟩ : ByteArray).data.toList]).length = i + 1 by rw [List.length_append, HNS.out]; rfl)
          clear hpn vSZ vRZ bxZ hOldZ hOwZ hr8 ho8 hk8 hn8 hs8 vS8 vR8 bx8 hOld8 vS9 vR9 bx9 hOld9 hOwn9 bx5 vS5 vR5 hOld5 hcons
          rw [hm0] at c0
          clear hm0 hpl
          go_wp2_with (at_builtin; refine Lib.wpList_append_run _ rfl (.tmp 43) (.tmp 45) 41 41 rfl _ _ rfl rfl _ _ H8.out ?_)
          go_roundg g
          case rel => exact ⟨i + 1, k, cur, .slice p8 (i + 1) c8, ns ++ [(⟨#[48]⟩ : ByteArray).data.toList], by congr 1, by omega, by omega, HNS2, hcur, HGo2, HS9, HR9, HB9, HOw9, HO9⟩
          all_goals omega
      | none =>
        rw [hpl] at cC
        rw [show cutV none = .tuple #[.string ⟨#[]⟩, .string ⟨#[]⟩, .bool false] from rfl] at cC
        rcases Bool.eq_false_or_eq_true m0 with hm0 | hm0
        all_goals
          clear HNE HM
          go_wp2_with fail
          refine cC.mono ?_
          rintro e w5 ⟨rfl, hb5⟩
          have vS5 := HS.out.other (hb5.block _ HS.out.lt) hb5.size
          have vR5 := HR.out.other (hb5.block _ HR.out.lt) hb5.size
          have bx5 := HBx.out.other (hb5.block _ HBx.out.lt) hb5.size
          have hOld5 := HO.out.later HHB.out hb5
          have HOwn5a := Lib.hid (HOwn.out.below (fun k _ h => hb5.block k h))
          clear cC y0 y1
          have hpn := parts_none (cs := cs.drop (i + 1)) (c := c) (s := cur.data.toList) (m := m0) (.inr hpl)
          have HGo2 := Lib.hid (show GoesOn m0 (cs.drop (i + 1)) cur.data.toList k (ns ++ [(⟨#[48]⟩ : ByteArray).data.toList]) T by
            have h := HGo.out
            rw [hcons] at h
            unfold GoesOn at h ⊢
            rw [hpn] at h
            refine ⟨h.1, ?_, h.2.2⟩
            have := h.2.1; simp only at this; rw [← this, List.append_assoc]; rfl)
          have vSZ := vS5
          have vRZ := vR5
          have bxZ := bx5
          have hOldZ := hOld5
          have HOwn5 := HOwn5a
          obtain ⟨c0, _, _, _, _, _, _, _, _⟩ := id vS5
          have hOwZ := HOwn5.out
          obtain ⟨v8, w8, hr8, ho8, hk8, hn8, hs8⟩ := append_str (w.heap.size + 2) (.slice pv i cv) ns ⟨#[48]⟩ (by rw [HNS.out]; omega) w5 hOwZ hOldZ.size
          obtain ⟨p8, c8, hv8⟩ := ho8.shape
          rw [show (ns ++ [(⟨#[48]⟩ : ByteArray).data.toList]).length = i + 1 by rw [List.length_append, HNS.out]; rfl] at hv8
          subst hv8
          have vS8 := vSZ.other (hk8 _ (by omega)) hs8
          have vR8 := vRZ.other (hk8 _ (by omega)) hs8
          have bx8 := bxZ.other (hk8 _ (by have := HHB.out; omega)) hs8
          have hOld8 := hOldZ.grown HHB.out hk8 hn8 hs8
          have vS9 := vS8.setNums (.slice p8 (i + 1) c8)
          have vR9 := vR8.keep (show w.heap.size ≠ w.heap.size + 1 by omega) (B := w.heap.size + 1) (o := 2) (.slice p8 (i + 1) c8)
          have bx9 := bx8.keep (show B ≠ w.heap.size + 1 by have := HHB.out; omega) (S := w.heap.size + 1) (o := 2) (.slice p8 (i + 1) c8)
          have hOld9 := hOld8.setNew HHB.out (show w.heap.size ≤ w.heap.size + 1 by omega) (o := 2) (.slice p8 (i + 1) c8)
          have hOwn9 := ho8.below (w' := w8.setCell ⟨w.heap.size + 1, 2, none⟩ (.slice p8 (i + 1) c8)) (fun k h1 h2 => Below.heap_setCell _ _ _ _ (show k ≠ w.heap.size + 1 by omega))
          obtain ⟨W9, hW9⟩ : ∃ W9, w8.setCell ⟨w.heap.size + 1, 2, none⟩ (.slice p8 (i + 1) c8) = W9 := ⟨_, rfl⟩
          rw [hW9] at vS9 vR9 bx9 hOld9 hOwn9
          obtain ⟨_, _, t2, _, _, _, _, _, tl⟩ := id vSZ
          obtain ⟨_, _, p2, _, _, _, p6, _, pl⟩ := id vS8
          have HS9 := Lib.hid vS9
          have HR9 := Lib.hid vR9
          have HB9 := Lib.hid bx9
          have HO9 := Lib.hid hOld9
          have HOw9 := Lib.hid hOwn9
          have H8 := Lib.hid hr8
          have HNS2 := Lib.hid (show (ns ++ [(⟨#[48]⟩ : ByteArray).data.toList]).length = i + 1 by rw [List.length_append, HNS.out]; rfl)
          clear hpn vSZ vRZ bxZ hOldZ hOwZ hr8 ho8 hk8 hn8 hs8 vS8 vR8 bx8 hOld8 vS9 vR9 bx9 hOld9 hOwn9 bx5 vS5 vR5 hOld5 hcons
          rw [hm0] at c0
          clear hm0 hpl
          go_wp2_with (at_builtin; refine Lib.wpList_append_run _ rfl (.tmp 43) (.tmp 45) 41 41 rfl _ _ rfl rfl _ _ H8.out ?_)
          go_roundg g
          case rel => exact ⟨i + 1, k, cur, .slice p8 (i + 1) c8, ns ++ [(⟨#[48]⟩ : ByteArray).data.toList], by congr 1, by omega, by omega, HNS2, hcur, HGo2, HS9, HR9, HB9, HOw9, HO9⟩
          all_goals omega
    · obtain rfl : i = cs.length := by omega
      obtain rfl : gk = 0 := by omega
      have hil : ¬ (cs.length : Int) < (cs.length : Int) := by omega
      have hgo := HGo.out
      rw [List.drop_length] at hgo
      obtain ⟨g1, g2, g3⟩ := hgo
      have g1 : k = T.1 := by simpa [partsL] using g1
      have g2 : ns = T.2.1 := by simpa [partsL] using g2
      have g3 : cur.data.toList = T.2.2 := by simpa [partsL] using g3
      have tlc : cur.toList = cur.data.toList := ByteArray.toList_eq cur
      obtain ⟨en, hen⟩ : ∃ b : Bool, decide (T.2.2 = []) = b := ⟨_, rfl⟩
      have k1 : (cur.toList == []) = en := by
        rw [tlc, g3, ← hen]
        by_cases h : T.2.2 = []
        · rw [h]; rfl
        · rw [decide_eq_false h]; exact beq_eq_false_iff_ne.2 h
      have k2 : cur.toList.isEmpty = en := by
        rw [tlc, g3, ← hen]
        by_cases h : T.2.2 = []
        · rw [h]; rfl
        · rw [decide_eq_false h]; simpa using h
      have vS6 := HS.out.setEnds en
      have vR6 := HR.out.keep (show w.heap.size ≠ w.heap.size + 1 by omega) (B := w.heap.size + 1) (o := 3) (.bool en)
      have bx6 := HBx.out.keep (show B ≠ w.heap.size + 1 by have := HHB.out; omega) (S := w.heap.size + 1) (o := 3) (.bool en)
      have old6 := HO.out.setNew HHB.out (show w.heap.size ≤ w.heap.size + 1 by omega) (o := 3) (.bool en)
      have own6 := HOwn.out.below (w' := wr.setCell ⟨w.heap.size + 1, 3, none⟩ (.bool en)) (fun k h1 h2 => Below.heap_setCell _ _ _ _ (show k ≠ w.heap.size + 1 by omega))
      obtain ⟨W6, hW6⟩ : ∃ W6, wr.setCell ⟨w.heap.size + 1, 3, none⟩ (.bool en) = W6 := ⟨_, rfl⟩
      rw [hW6] at vS6 vR6 bx6 old6 own6
      obtain ⟨W7, hW7, v7⟩ := vR6.set m0 k (.slice pv cs.length cv) en
      have bx7 : BoxAt W7 B cur := by
        rw [← hW7]
        exact (((bx6.keep (show B ≠ w.heap.size by have := HHB.out; omega) (o := 0) _).keep (show B ≠ w.heap.size by have := HHB.out; omega) (o := 1) _).keep (show B ≠ w.heap.size by have := HHB.out; omega) (o := 2) _).keep (show B ≠ w.heap.size by have := HHB.out; omega) (o := 3) _
      have old7 : Old w B W7 := by
        rw [← hW7]
        exact (((old6.setNew HHB.out (Nat.le_refl _) _).setNew HHB.out (Nat.le_refl _) _).setNew HHB.out (Nat.le_refl _) _).setNew HHB.out (Nat.le_refl _) _
      have own7 : OwnS W7 (w.heap.size + 2) (.slice pv cs.length cv) ns := by
        rw [← hW7]
        refine own6.below (fun k h1 h2 => ?_)
        have hk : k ≠ w.heap.size := by omega
        exact (Below.heap_setCell _ _ _ _ (show k ≠ w.heap.size from hk)).trans ((Below.heap_setCell _ _ _ _ (show k ≠ w.heap.size from hk)).trans ((Below.heap_setCell _ _ _ _ (show k ≠ w.heap.size from hk)).trans (Below.heap_setCell _ _ _ _ (show k ≠ w.heap.size from hk))))
      have HFIN := Lib.hid (And.intro own7 (And.intro bx7 old7))
      have HT := Lib.hid (And.intro g1 (And.intro g2 (And.intro g3 hen)))
      obtain ⟨y0, y1, _⟩ := id HBx.out
      obtain ⟨_, _, _, x3, _, _, _, x7, _⟩ := id HS.out
      obtain ⟨s0, s1, s2, s3, _, _, _, _, _⟩ := id vS6
      obtain ⟨t0, t1, t2, t3, t4, t5, t6, t7, _⟩ := id vR6
      obtain ⟨r0, r1, r2, r3, _, _, _, _, _⟩ := id v7
      clear own7 bx7 old7 g1 g2 g3 hen tlc vS6 vR6 bx6 old6 own6 v7
      go_wp2_with fail
      exact bodyPost_ret (v := .agg #[.bool m0, .int .i64 (k : Int), .slice pv cs.length cv, .bool en]) (by simp [results, Tryz.results50, go_sem, r0, r1, r2, r3]) rfl ⟨.slice pv cs.length cv, cur, by simp only [← HT.out.1, HT.out.2.2.2], HT.out.2.2.1, by simp only [← HT.out.2.1]; exact HFIN.out.1, HFIN.out.2.1, HFIN.out.2.2⟩
end Go.Proofs.YtdfgifnccghlmabGreatDoor

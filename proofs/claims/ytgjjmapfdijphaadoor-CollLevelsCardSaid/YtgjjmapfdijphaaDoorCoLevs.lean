/- The contract of chisellaw03.levels: the collations of a description with each of the strengths. -/
import Derived.Test.YtgjjmapfdijphaaDoorCoTwo
import Derived.Test.YtgjjmapfdijphaaDoorCoUtf
import Derived.Test.YtgjjmapfdijphaaDoorShelfCo
import Derived.Deep.RegionHeld3
namespace Go.Proofs.YtgjjmapfdijphaaDoor
open Go.RowKit Go.Lib Go.Shelf

theorem str_line (t : ByteArray) (n : UInt8) : (t ++ ⟨#[10, 115, 116, 114, 101, 110, 103, 116, 104, 32]⟩ ++ ⟨#[n]⟩ : ByteArray).data.toList = t.data.toList ++ 10 :: strLine n := by
  rw [ByteArray.data_append, Array.toList_append, ByteArray.data_append, Array.toList_append, List.append_assoc]
  rfl
theorem linesGo_err : ∀ (l : List (List UInt8)) (n : Nat) (d : Ds) (x : Nat × Nat), linesGo n d l = .error x → x.2 ≠ 0
  | [], n, d, x, h => by rw [linesGo_nil] at h; cases h
  | a :: t, n, d, x, h => by
    rw [linesGo_cons] at h
    cases ha : addL a d with
    | error e =>
      rw [ha] at h
      cases h
      have := addL_err a d e ha
      simp only
      omega
    | ok d' =>
      rw [ha] at h
      exact linesGo_err t (n + 1) d' x h
theorem parse_err (l : List UInt8) (x : Nat × Nat) (h : parseL l = .error x) : x.2 ≠ 0 := by
  unfold parseL at h
  split at h
  · cases h; decide
  · split at h
    · cases h; decide
    · split at h
      · rename_i y hy
        cases h
        exact linesGo_err _ _ _ _ hy
      · cases h
/-- Three pointers in a block. -/
def PtrsAt (W : World) (L : Nat) (a b c : Option Addr) : Prop := W.heap[L]? = some (.cells #[.pointer a, .pointer b, .pointer c] 25 (0, 0))
theorem PtrsAt.lt {W : World} {L : Nat} {a b c : Option Addr} (h : PtrsAt W L a b c) : L < W.heap.size := (Array.getElem?_eq_some_iff.1 h).1
theorem PtrsAt.frozen {W : World} {L : Nat} {a b c : Option Addr} (h : PtrsAt W L a b c) (k : Nat) : W.frozen? ⟨L, k, none⟩ = false := by
  unfold PtrsAt at h
  simp [World.frozen?, h]
theorem PtrsAt.cells {W : World} {L : Nat} {a b c : Option Addr} (h : PtrsAt W L a b c) : W.cell? ⟨L, 0, none⟩ = some (.pointer a) ∧ W.cell? ⟨L, 1, none⟩ = some (.pointer b) ∧ W.cell? ⟨L, 2, none⟩ = some (.pointer c) :=
  ⟨cell_of_row _ _ 0 _ _ _ h, cell_of_row _ _ 1 _ _ _ h, cell_of_row _ _ 2 _ _ _ h⟩
theorem PtrsAt.set0 {W : World} {L : Nat} {a b c : Option Addr} (h : PtrsAt W L a b c) (o : Option Addr) : PtrsAt (W.setCell ⟨L, 0, none⟩ (.pointer o)) L o b c := by
  unfold PtrsAt at h ⊢
  unfold World.setCell
  simp [Array.getElem?_modify, h]
theorem PtrsAt.set1 {W : World} {L : Nat} {a b c : Option Addr} (h : PtrsAt W L a b c) (o : Option Addr) : PtrsAt (W.setCell ⟨L, 1, none⟩ (.pointer o)) L a o c := by
  unfold PtrsAt at h ⊢
  unfold World.setCell
  simp [Array.getElem?_modify, h]
theorem PtrsAt.set2 {W : World} {L : Nat} {a b c : Option Addr} (h : PtrsAt W L a b c) (o : Option Addr) : PtrsAt (W.setCell ⟨L, 2, none⟩ (.pointer o)) L a b o := by
  unfold PtrsAt at h ⊢
  unfold World.setCell
  simp [Array.getElem?_modify, h]
theorem PtrsAt.later {W W' : World} {L : Nat} {a b c : Option Addr} (h : PtrsAt W L a b c) (hb : Below W.heap.size W W') : PtrsAt W' L a b c := (hb.block L h.lt).trans h
theorem PtrsAt.other {W W' : World} {L : Nat} {a b c : Option Addr} (h : PtrsAt W L a b c) (hb : W'.heap[L]? = W.heap[L]?) : PtrsAt W' L a b c := hb.trans h
/-- A collation is not in a block of three pointers: such a block may be written. -/
theorem TabAt.beside {W W' : World} {L : Nat} {a b c : Option Addr} {v : Value} {T : Tb} (h : TabAt W v T) (hL : PtrsAt W L a b c) (hs : ∀ k, k ≠ L → k < W.heap.size → W'.heap[k]? = W.heap[k]?) : TabAt W' v T := by
  rcases h with h | ⟨p, mv, rfl, h1, h2⟩
  · exact .inl h
  · have hp : p ≠ L := by
      rintro rfl
      unfold PtrsAt at hL
      rw [hL] at h1
      simp only [Option.some.injEq, Obj.cells.injEq] at h1
      have h3 := congrArg Array.toList h1.1
      simp only [List.cons.injEq] at h3
      rcases h2 with ⟨rfl, _⟩ | ⟨mb, rfl, _⟩
      · cases h3.1
      · cases h3.1
    refine .inr ⟨p, mv, rfl, (hs p hp (Array.getElem?_eq_some_iff.1 h1).1).trans h1, ?_⟩
    rcases h2 with h2 | ⟨mb, rfl, h3, h4⟩
    · exact .inl h2
    · refine .inr ⟨mb, rfl, h3, h4.same (hs mb ?_ h4.lt)⟩
      rintro rfl
      obtain ⟨D, ⟨es, clock, k1, _⟩, _⟩ := h4
      unfold PtrsAt at hL
      rw [hL] at k1
      cases k1
theorem str_cells (w : World) (a b c : ByteArray) (t : TypeId) (S : Nat) (hS : S = w.heap.size) : ∀ (j : Nat) s, [a, b, c][j]? = some s → (w.alloc (.cells #[.string a, .string b, .string c] t)).cell? ⟨S, j, none⟩ = some (.string s) := by
  subst hS
  intro j s hj
  match j, hj with
  | 0, hj => cases hj; rw [cell_of_row _ _ 0 _ _ (0, 0) (heap_alloc_new _ _)]; rfl
  | 1, hj => cases hj; rw [cell_of_row _ _ 1 _ _ (0, 0) (heap_alloc_new _ _)]; rfl
  | 2, hj => cases hj; rw [cell_of_row _ _ 2 _ _ (0, 0) (heap_alloc_new _ _)]; rfl
  | n + 3, hj => simp at hj
theorem res_levels {W : World} {R : Nat} {a b c : Option Addr} (h : PtrsAt W R a b c) (tmps : Array Value) (v : Bool) (t2 : tmps.getD 2 undef = .pointer (some ⟨R, 0, none⟩)) (t3 : tmps.getD 3 undef = .bool v) :
    (results Tryd.f11 tmps).run Tryd.prog W = .ok (.tuple #[.agg #[.pointer a, .pointer b, .pointer c], .bool v]) W := by
  obtain ⟨c0, c1, c2⟩ := h.cells
  have u2 : tmps[2]?.getD undef = .pointer (some ⟨R, 0, none⟩) := by simpa using t2
  have u3 : tmps[3]?.getD undef = .bool v := by simpa using t3
  simp [results, Tryd.results11, go_sem, u2, u3, c0, c1, c2]
/-- What the rounds of levels stand on. -/
structure LvI (R : Nat) (T : Tb) (w : World) (i : Nat) (W : World) : Prop where
  res : PtrsAt W R none none none
  row : ∃ a b c, PtrsAt W (R + 1) a b c ∧ (1 ≤ i → TabAt W (.pointer a) (withStr T 1)) ∧ (2 ≤ i → TabAt W (.pointer b) (withStr T 2)) ∧ (3 ≤ i → TabAt W (.pointer c) (withStr T 3))
  str : ∀ (j : Nat) s, [(⟨#[49]⟩ : ByteArray), ⟨#[50]⟩, ⟨#[51]⟩][j]? = some s → W.cell? ⟨R + 1 + 1, j, none⟩ = some (.string s)
  big : R + 2 < W.heap.size
  below : Below R w W
theorem levels_start (w : World) (T : Tb) : LvI w.heap.size T w 0 (((w.alloc (.cells #[.pointer none, .pointer none, .pointer none] 25)).alloc (.cells #[.pointer none, .pointer none, .pointer none] 25)).alloc (.cells #[.string ⟨#[49]⟩, .string ⟨#[50]⟩, .string ⟨#[51]⟩] 9)) := by
  refine ⟨?_, ⟨none, none, none, ?_, by omega, by omega, by omega⟩, ?_, by simp, ?_⟩
  · unfold PtrsAt
    rw [Below.heap_alloc _ _ _ (by simp; omega), Below.heap_alloc _ _ _ (by simp)]
    exact heap_alloc_new _ _
  · unfold PtrsAt
    rw [Below.heap_alloc _ _ _ (by simp)]
    have := heap_alloc_new (w.alloc (.cells #[.pointer none, .pointer none, .pointer none] 25)) (.cells #[.pointer none, .pointer none, .pointer none] 25)
    rwa [World.size_alloc] at this
  · exact str_cells _ _ _ _ _ _ (by simp)
  · exact (((Below.refl _ _).alloc (Nat.le_refl _) _).alloc (by simp) _).alloc (by simp; omega) _
set_option maxHeartbeats 4000000 in
set_option maxRecDepth 100000 in
theorem levels_no (t : ByteArray) (ht : t.size ≤ 2000) (x : Nat × Nat) (w : World) (hg : GrC w) (h : parseL (t.data.toList ++ 10 :: strLine 49) = .error x) :
    Calls Tryd.prog 11 #[.string t] w fun e w' => (∃ a b c, e = .returned (.tuple #[.agg #[.pointer a, .pointer b, .pointer c], .bool false])) ∧ Below w.heap.size w w' := by
  have hx0 := parse_err _ _ h
  have hx1 : ((x.2 : Int) != 0) = true := by rw [bne_iff_ne]; omega
  have hx2 : ¬ (x.2 : Int) = 0 := by omega
  have cP := fun W hW => parse_bad (t ++ ⟨#[10, 115, 116, 114, 101, 110, 103, 116, 104, 32]⟩ ++ ⟨#[49]⟩) x.1 x.2 W hW (by rw [str_line]; exact h)
  clear h hx0
  obtain ⟨n, k⟩ := x
  simp only at cP hx1 hx2
  obtain ⟨J, hJ⟩ : ∃ J, (t ++ ⟨#[10, 115, 116, 114, 101, 110, 103, 116, 104, 32]⟩ ++ ⟨#[49]⟩ : ByteArray) = J := ⟨_, rfl⟩
  have hS := levels_start w ⟨[], 0, 0⟩
  rw [hJ] at cP
  obtain ⟨W3, hW3⟩ : ∃ W3, ((w.alloc (.cells #[.pointer none, .pointer none, .pointer none] 25)).alloc (.cells #[.pointer none, .pointer none, .pointer none] 25)).alloc (.cells #[.string ⟨#[49]⟩, .string ⟨#[50]⟩, .string ⟨#[51]⟩] 9) = W3 := ⟨_, rfl⟩
  rw [hW3] at hS
  go_enter Tryd.func11, Tryd.ntmps11
  go_wp2_with fail
  clear hW3
  go_loopg [12] 1 (fun g s12 wx => g = 1 ∧ s12 = .int .i64 0 ∧ wx = W3)
  case atStart => exact ⟨rfl, rfl, rfl⟩
  case round =>
    obtain ⟨rfl, rfl, rfl⟩ := hrel
    have c0 := hS.str 0 _ rfl
    go_wp2_with fail
    refine (cP _ (hg.later hS.below)).mono ?_
    rintro e w4 ⟨rfl, hb4⟩
    have hbw := hS.below.trans (hb4.mono hS.below.size)
    have hR := hS.res.later hb4
    obtain ⟨a, b, c, hL, _⟩ := hS.row
    have hL4 := hL.later hb4
    clear hL cP c0
    obtain ⟨d0, d1, d2⟩ := hL4.cells
    obtain ⟨e0, e1, e2⟩ := hR.cells
    have g0 := hR.frozen 0
    have g1 := hR.frozen 1
    have g2 := hR.frozen 2
    obtain ⟨W5, hW5⟩ : ∃ W5, ((w4.setCell ⟨w.heap.size, 0, none⟩ (.pointer a)).setCell ⟨w.heap.size, 1, none⟩ (.pointer b)).setCell ⟨w.heap.size, 2, none⟩ (.pointer c) = W5 := ⟨_, rfl⟩
    have hR5 : PtrsAt W5 w.heap.size a b c := by rw [← hW5]; exact ((hR.set0 a).set1 b).set2 c
    have hb5 : Below w.heap.size w W5 := by rw [← hW5]; exact ((hbw.setCell (p := ⟨w.heap.size, 0, none⟩) (Nat.le_refl _) _).setCell (p := ⟨w.heap.size, 1, none⟩) (Nat.le_refl _) _).setCell (p := ⟨w.heap.size, 2, none⟩) (Nat.le_refl _) _
    go_wp2_with fail
    refine bodyPost_ret (res_levels hR5 _ false rfl rfl) rfl ?_
    exact ⟨⟨_, _, _, rfl⟩, hb5⟩
set_option maxHeartbeats 4000000 in
set_option maxRecDepth 100000 in
theorem levels_yes (t : ByteArray) (ht : t.size ≤ 2000) (T : Tb) (w : World) (hg : GrC w) (h1 : parseL (t.data.toList ++ 10 :: strLine 49) = .ok (withStr T 1)) (h2 : parseL (t.data.toList ++ 10 :: strLine 50) = .ok (withStr T 2)) (h3 : parseL (t.data.toList ++ 10 :: strLine 51) = .ok (withStr T 3)) :
    Calls Tryd.prog 11 #[.string t] w fun e w' => (∃ a b c, e = .returned (.tuple #[.agg #[.pointer a, .pointer b, .pointer c], .bool true]) ∧ TabAt w' (.pointer a) (withStr T 1) ∧ TabAt w' (.pointer b) (withStr T 2) ∧ TabAt w' (.pointer c) (withStr T 3)) ∧ Below w.heap.size w w' := by
  have cP1 := fun W hW => parse_ok (t ++ ⟨#[10, 115, 116, 114, 101, 110, 103, 116, 104, 32]⟩ ++ ⟨#[49]⟩) (withStr T 1) W hW (by rw [str_line]; exact h1)
  obtain ⟨J1, hJ1⟩ : ∃ J, (t ++ ⟨#[10, 115, 116, 114, 101, 110, 103, 116, 104, 32]⟩ ++ ⟨#[49]⟩ : ByteArray) = J := ⟨_, rfl⟩
  rw [hJ1] at cP1
  have cP2 := fun W hW => parse_ok (t ++ ⟨#[10, 115, 116, 114, 101, 110, 103, 116, 104, 32]⟩ ++ ⟨#[50]⟩) (withStr T 2) W hW (by rw [str_line]; exact h2)
  obtain ⟨J2, hJ2⟩ : ∃ J, (t ++ ⟨#[10, 115, 116, 114, 101, 110, 103, 116, 104, 32]⟩ ++ ⟨#[50]⟩ : ByteArray) = J := ⟨_, rfl⟩
  rw [hJ2] at cP2
  have cP3 := fun W hW => parse_ok (t ++ ⟨#[10, 115, 116, 114, 101, 110, 103, 116, 104, 32]⟩ ++ ⟨#[51]⟩) (withStr T 3) W hW (by rw [str_line]; exact h3)
  obtain ⟨J3, hJ3⟩ : ∃ J, (t ++ ⟨#[10, 115, 116, 114, 101, 110, 103, 116, 104, 32]⟩ ++ ⟨#[51]⟩ : ByteArray) = J := ⟨_, rfl⟩
  rw [hJ3] at cP3
  have hS := levels_start w T
  obtain ⟨W3, hW3⟩ : ∃ W3, ((w.alloc (.cells #[.pointer none, .pointer none, .pointer none] 25)).alloc (.cells #[.pointer none, .pointer none, .pointer none] 25)).alloc (.cells #[.string ⟨#[49]⟩, .string ⟨#[50]⟩, .string ⟨#[51]⟩] 9) = W3 := ⟨_, rfl⟩
  rw [hW3] at hS
  clear h1 h2 h3
  go_enter Tryd.func11, Tryd.ntmps11
  go_wp2_with fail
  clear hW3
  go_loopg [12] 3 (fun g s12 wx => ∃ (i : Nat) (z : Int), s12 = .int .i64 z ∧ z = (i : Int) ∧ i + g = 3 ∧ LvI w.heap.size T w i wx)
  case atStart => exact ⟨0, 0, rfl, rfl, rfl, hS⟩
  case round =>
    clear hS
    obtain ⟨i, z, rfl, hz, hig, HI⟩ := hrel
    rcases (show i = 0 ∨ i = 1 ∨ i = 2 ∨ i = 3 by omega) with rfl | rfl | rfl | rfl
    · obtain rfl : z = 0 := by simpa using hz
      obtain rfl : gk = 3 := by omega
      obtain ⟨a, b, c, hL, h1, h2, h3⟩ := HI.row
      have c0 := HI.str 0 _ rfl
      have hlt0 := HI.big
      have hbe := HI.below
      clear cP2 hJ2 cP3 hJ3 hz
      go_wp2_with fail
      refine (cP1 _ (hg.later HI.below)).mono ?_
      rintro e w4 ⟨p, rfl, hT, _, hb4⟩
      have hL4 := hL.later hb4
      have hR4 := HI.res.later hb4
      have hst4 : ∀ (j : Nat) s, [(⟨#[49]⟩ : ByteArray), ⟨#[50]⟩, ⟨#[51]⟩][j]? = some s → w4.cell? ⟨w.heap.size + 1 + 1, j, none⟩ = some (.string s) := fun j s hj => (hb4.cell (p := ⟨w.heap.size + 1 + 1, j, none⟩) (by have := HI.big; simp; omega)).trans (HI.str j s hj)
      have hbw4 := hbe.trans (hb4.mono hbe.size)
      have hz4 := hb4.size
      obtain ⟨d0, d1, d2⟩ := hL4.cells
      have g0 := hL4.frozen 0
      obtain ⟨W5, hW5⟩ : ∃ W5, w4.setCell ⟨w.heap.size + 1, 0, none⟩ (.pointer (some ⟨p, 0, none⟩)) = W5 := ⟨_, rfl⟩
      have hL5 : PtrsAt W5 (w.heap.size + 1) (some ⟨p, 0, none⟩) b c := by rw [← hW5]; exact hL4.set0 _
      have hs : ∀ k, k ≠ w.heap.size + 1 → k < w4.heap.size → W5.heap[k]? = w4.heap[k]? := fun k hk _ => by rw [← hW5]; exact Below.heap_setCell _ _ _ _ hk
      have hz5 : W5.heap.size = w4.heap.size := by rw [← hW5]; simp [World.setCell]
      have hbw5 : Below w.heap.size w W5 := by rw [← hW5]; exact hbw4.setCell (p := ⟨w.heap.size + 1, 0, none⟩) (by simp) _
      have HI5 : LvI w.heap.size T w 1 W5 := ⟨hR4.other (hs _ (by omega) hR4.lt), ⟨_, _, _, hL5, fun _ => hT.beside hL4 hs, fun h => by omega, fun h => by omega⟩, fun j s hj => (World.cell?_of_block (a := ⟨w.heap.size + 1 + 1, j, none⟩) (hs (w.heap.size + 1 + 1) (by omega) (by omega))).trans (hst4 j s hj), by omega, hbw5⟩
      clear HI hT hL hL4 hR4 hst4 hL5 hs h1 h2 h3 hbe hbw4 hbw5 cP1
      go_wp2_with fail
      go_roundg 2
      case rel => exact ⟨1, 1, rfl, rfl, rfl, HI5⟩
      all_goals omega
    · obtain rfl : z = 1 := by simpa using hz
      obtain rfl : gk = 2 := by omega
      obtain ⟨a, b, c, hL, h1, h2, h3⟩ := HI.row
      have c0 := HI.str 1 _ rfl
      have hlt0 := HI.big
      have hbe := HI.below
      clear cP1 hJ1 cP3 hJ3 hz
      go_wp2_with fail
      refine (cP2 _ (hg.later HI.below)).mono ?_
      rintro e w4 ⟨p, rfl, hT, _, hb4⟩
      have hL4 := hL.later hb4
      have hR4 := HI.res.later hb4
      have hst4 : ∀ (j : Nat) s, [(⟨#[49]⟩ : ByteArray), ⟨#[50]⟩, ⟨#[51]⟩][j]? = some s → w4.cell? ⟨w.heap.size + 1 + 1, j, none⟩ = some (.string s) := fun j s hj => (hb4.cell (p := ⟨w.heap.size + 1 + 1, j, none⟩) (by have := HI.big; simp; omega)).trans (HI.str j s hj)
      have hbw4 := hbe.trans (hb4.mono hbe.size)
      have hz4 := hb4.size
      obtain ⟨d0, d1, d2⟩ := hL4.cells
      have g0 := hL4.frozen 1
      obtain ⟨W5, hW5⟩ : ∃ W5, w4.setCell ⟨w.heap.size + 1, 1, none⟩ (.pointer (some ⟨p, 0, none⟩)) = W5 := ⟨_, rfl⟩
      have hL5 : PtrsAt W5 (w.heap.size + 1) a (some ⟨p, 0, none⟩) c := by rw [← hW5]; exact hL4.set1 _
      have hs : ∀ k, k ≠ w.heap.size + 1 → k < w4.heap.size → W5.heap[k]? = w4.heap[k]? := fun k hk _ => by rw [← hW5]; exact Below.heap_setCell _ _ _ _ hk
      have hz5 : W5.heap.size = w4.heap.size := by rw [← hW5]; simp [World.setCell]
      have hbw5 : Below w.heap.size w W5 := by rw [← hW5]; exact hbw4.setCell (p := ⟨w.heap.size + 1, 1, none⟩) (by simp) _
      have HI5 : LvI w.heap.size T w 2 W5 := ⟨hR4.other (hs _ (by omega) hR4.lt), ⟨_, _, _, hL5, fun _ => ((h1 (by omega)).later hb4).beside hL4 hs, fun _ => hT.beside hL4 hs, fun h => by omega⟩, fun j s hj => (World.cell?_of_block (a := ⟨w.heap.size + 1 + 1, j, none⟩) (hs (w.heap.size + 1 + 1) (by omega) (by omega))).trans (hst4 j s hj), by omega, hbw5⟩
      clear HI hT hL hL4 hR4 hst4 hL5 hs h1 h2 h3 hbe hbw4 hbw5 cP2
      go_wp2_with fail
      go_roundg 1
      case rel => exact ⟨2, 2, rfl, rfl, rfl, HI5⟩
      all_goals omega
    · obtain rfl : z = 2 := by simpa using hz
      obtain rfl : gk = 1 := by omega
      obtain ⟨a, b, c, hL, h1, h2, h3⟩ := HI.row
      have c0 := HI.str 2 _ rfl
      have hlt0 := HI.big
      have hbe := HI.below
      clear cP1 hJ1 cP2 hJ2 hz
      go_wp2_with fail
      refine (cP3 _ (hg.later HI.below)).mono ?_
      rintro e w4 ⟨p, rfl, hT, _, hb4⟩
      have hL4 := hL.later hb4
      have hR4 := HI.res.later hb4
      have hst4 : ∀ (j : Nat) s, [(⟨#[49]⟩ : ByteArray), ⟨#[50]⟩, ⟨#[51]⟩][j]? = some s → w4.cell? ⟨w.heap.size + 1 + 1, j, none⟩ = some (.string s) := fun j s hj => (hb4.cell (p := ⟨w.heap.size + 1 + 1, j, none⟩) (by have := HI.big; simp; omega)).trans (HI.str j s hj)
      have hbw4 := hbe.trans (hb4.mono hbe.size)
      have hz4 := hb4.size
      obtain ⟨d0, d1, d2⟩ := hL4.cells
      have g0 := hL4.frozen 2
      obtain ⟨W5, hW5⟩ : ∃ W5, w4.setCell ⟨w.heap.size + 1, 2, none⟩ (.pointer (some ⟨p, 0, none⟩)) = W5 := ⟨_, rfl⟩
      have hL5 : PtrsAt W5 (w.heap.size + 1) a b (some ⟨p, 0, none⟩) := by rw [← hW5]; exact hL4.set2 _
      have hs : ∀ k, k ≠ w.heap.size + 1 → k < w4.heap.size → W5.heap[k]? = w4.heap[k]? := fun k hk _ => by rw [← hW5]; exact Below.heap_setCell _ _ _ _ hk
      have hz5 : W5.heap.size = w4.heap.size := by rw [← hW5]; simp [World.setCell]
      have hbw5 : Below w.heap.size w W5 := by rw [← hW5]; exact hbw4.setCell (p := ⟨w.heap.size + 1, 2, none⟩) (by simp) _
      have HI5 : LvI w.heap.size T w 3 W5 := ⟨hR4.other (hs _ (by omega) hR4.lt), ⟨_, _, _, hL5, fun _ => ((h1 (by omega)).later hb4).beside hL4 hs, fun _ => ((h2 (by omega)).later hb4).beside hL4 hs, fun _ => hT.beside hL4 hs⟩, fun j s hj => (World.cell?_of_block (a := ⟨w.heap.size + 1 + 1, j, none⟩) (hs (w.heap.size + 1 + 1) (by omega) (by omega))).trans (hst4 j s hj), by omega, hbw5⟩
      clear HI hT hL hL4 hR4 hst4 hL5 hs h1 h2 h3 hbe hbw4 hbw5 cP3
      go_wp2_with fail
      go_roundg 0
      case rel => exact ⟨3, 3, rfl, rfl, rfl, HI5⟩
      all_goals omega
    · have hz3 : z = 3 := by simpa using hz
      have hil : ¬ z < 3 := by omega
      clear hz hz3
      obtain ⟨a, b, c, hL, h1, h2, h3⟩ := HI.row
      have hR := HI.res
      have hbe := HI.below
      obtain ⟨d0, d1, d2⟩ := hL.cells
      obtain ⟨e0, e1, e2⟩ := hR.cells
      have g0 := hR.frozen 0
      have g1 := hR.frozen 1
      have g2 := hR.frozen 2
      obtain ⟨W5, hW5⟩ : ∃ W5, ((wr.setCell ⟨w.heap.size, 0, none⟩ (.pointer a)).setCell ⟨w.heap.size, 1, none⟩ (.pointer b)).setCell ⟨w.heap.size, 2, none⟩ (.pointer c) = W5 := ⟨_, rfl⟩
      have hR5 : PtrsAt W5 w.heap.size a b c := by rw [← hW5]; exact ((hR.set0 a).set1 b).set2 c
      have hs : ∀ k, k ≠ w.heap.size → k < wr.heap.size → W5.heap[k]? = wr.heap[k]? := fun k hk _ => by rw [← hW5, Below.heap_setCell _ _ _ _ hk, Below.heap_setCell _ _ _ _ hk, Below.heap_setCell _ _ _ _ hk]
      have hb5 : Below w.heap.size w W5 := by rw [← hW5]; exact ((hbe.setCell (p := ⟨w.heap.size, 0, none⟩) (Nat.le_refl _) _).setCell (p := ⟨w.heap.size, 1, none⟩) (Nat.le_refl _) _).setCell (p := ⟨w.heap.size, 2, none⟩) (Nat.le_refl _) _
      have k1 := (h1 (by omega)).beside hR hs
      have k2 := (h2 (by omega)).beside hR hs
      have k3 := (h3 (by omega)).beside hR hs
      clear cP1 cP2 cP3 hJ1 hJ2 hJ3 HI h1 h2 h3 hs hbe hL hR
      go_wp2_with fail
      (try simp only [Exit.inBlock, Exit.then])
      refine bodyPost_ret (res_levels hR5 _ true rfl rfl) rfl ?_
      exact ⟨⟨a, b, c, rfl, k1, k2, k3⟩, hb5⟩
theorem linesGo_inv : ∀ (l : List (List UInt8)) (n : Nat) (d d' : Ds), linesGo n d l = .ok d' → Inv d → Inv d'
  | [], n, d, d', h, hd => by rw [linesGo_nil] at h; cases h; exact hd
  | a :: t, n, d, d', h, hd => by
    rw [linesGo_cons] at h
    cases ha : addL a d with
    | error e => rw [ha] at h; cases h
    | ok d1 =>
      rw [ha] at h
      exact linesGo_inv t (n + 1) d1 d' h (addL_inv a d d1 ha hd)
theorem parse_small (l : List UInt8) (T : Tb) (h : parseL l = .ok T) : TabSmall T := by
  unfold parseL at h
  split at h
  · cases h
  · split at h
    · cases h
    · split at h
      · cases h
      · rename_i d hd
        cases h
        exact (linesGo_inv _ 0 _ d hd ⟨by simp, ⟨by simp, by simp, by simp⟩, (fun x h => by cases h), by simp⟩).small
theorem small_str (T : Tb) (n : Nat) (hn : n ≤ 3) (h : TabSmall (withStr T 3)) : TabSmall (withStr T n) := ⟨h.1, hn, h.2.2⟩
theorem prefix_app (a b : List UInt8) : Lib.hasPrefix (a ++ b) a = true := by
  unfold Lib.hasPrefix
  simp
theorem prefix_bytes (u v : Value) (a b : List UInt8) (w : World) (hu : BytesV w u (a ++ b)) (hv : BytesV w v a) :
    Calls Tryd.prog 14 #[u, v] w fun e w' => e = .returned (.bool true) ∧ w = w' := by
  obtain ⟨p1, c1, rfl, hc, h1⟩ := hu
  obtain ⟨p2, c2, rfl, _, h2⟩ := hv
  refine (Tryd.bytes_HasPrefix_all p1 p2 (a ++ b).length c1 a.length c2 _ _ w (List.length_map _) (List.length_map _) hc h1 h2).mono ?_
  rintro e w' ⟨rfl, rfl⟩
  rw [bytes_back, bytes_back, prefix_app]
  exact ⟨rfl, rfl⟩
end Go.Proofs.YtgjjmapfdijphaaDoor

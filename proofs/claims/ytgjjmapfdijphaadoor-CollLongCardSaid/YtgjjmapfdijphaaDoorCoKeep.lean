/- The contract of (*coll.description).keep. -/
import Derived.Test.YtgjjmapfdijphaaDoorCoWorld
import Derived.Test.YtgjjmapfdijphaaDoorCharsGround
import Derived.Test.YtgjjmapfdijphaaDoorCharsFrom
import Derived.Deep.RegionLaw
import Derived.BigRegion
namespace Go.Proofs.YtgjjmapfdijphaaDoor
open Go.RowKit Go.Lib

/-- A description in memory: its block p, its map's block mb. -/
structure DsAt (w : World) (p mb : Nat) (d : Ds) : Prop where
  blk : w.heap[p]? = some (.cells #[.map (some mb), .int .i64 (d.last.1 : Int), .int .i64 (d.last.2.1 : Int), .int .i64 (d.last.2.2 : Int), .int .i64 (d.str : Int)] 66 (0, 0))
  ne : mb ≠ p
  map : MapIs w mb d.tab
theorem DsAt.lt {w : World} {p mb : Nat} {d : Ds} (h : DsAt w p mb d) : p < w.heap.size ∧ mb < w.heap.size := ⟨(Array.getElem?_eq_some_iff.1 h.blk).1, h.map.lt⟩
theorem DsAt.later {w w' : World} {p mb : Nat} {d : Ds} (h : DsAt w p mb d) (hp : w'.heap[p]? = w.heap[p]?) (hm : w'.heap[mb]? = w.heap[mb]?) : DsAt w' p mb d := ⟨hp.trans h.blk, h.ne, h.map.same hm⟩
theorem DsAt.below {w w' : World} {p mb : Nat} {d : Ds} (h : DsAt w p mb d) (hb : Below w.heap.size w w') : DsAt w' p mb d := h.later (hb.block _ h.lt.1) (hb.block _ h.lt.2)
theorem DsAt.cells {w : World} {p mb : Nat} {d : Ds} (h : DsAt w p mb d) : w.cell? ⟨p, 0, none⟩ = some (.map (some mb)) ∧ w.cell? ⟨p, 1, none⟩ = some (.int .i64 (d.last.1 : Int)) ∧ w.cell? ⟨p, 2, none⟩ = some (.int .i64 (d.last.2.1 : Int)) ∧ w.cell? ⟨p, 3, none⟩ = some (.int .i64 (d.last.2.2 : Int)) ∧ w.cell? ⟨p, 4, none⟩ = some (.int .i64 (d.str : Int)) ∧ ∀ i, w.frozen? ⟨p, i, none⟩ = false := by
  have hb := h.blk
  refine ⟨?_, ?_, ?_, ?_, ?_, fun i => ?_⟩
  all_goals first | (simp [World.cell?, hb]; done) | (simp [World.frozen?, hb]; done)
/-- The cells of entries. -/
def entCells : List (Nat × Wt) → List Value
  | [] => []
  | x :: r => .int .i32 (x.1 : Int) :: .int .i64 (x.2.1 : Int) :: .int .i64 (x.2.2.1 : Int) :: .int .i64 (x.2.2.2 : Int) :: entCells r
theorem entCells_len : ∀ l, (entCells l).length = l.length * 4
  | [] => rfl
  | x :: r => by simp [entCells, entCells_len r]; omega
theorem entCells_at : ∀ (l : List (Nat × Wt)) (i : Nat) (x : Nat × Wt), l[i]? = some x → (entCells l)[i * 4]? = some (.int .i32 (x.1 : Int)) ∧ (entCells l)[i * 4 + 1]? = some (.int .i64 (x.2.1 : Int)) ∧ (entCells l)[i * 4 + 2]? = some (.int .i64 (x.2.2.1 : Int)) ∧ (entCells l)[i * 4 + 3]? = some (.int .i64 (x.2.2.2 : Int))
  | [], i, x, h => by cases h
  | y :: r, 0, x, h => by cases h; exact ⟨rfl, rfl, rfl, rfl⟩
  | y :: r, i + 1, x, h => by
    have := entCells_at r i x h
    rw [show (i + 1) * 4 = i * 4 + 4 by omega]
    exact this
theorem entCells_app : ∀ a b, entCells (a ++ b) = entCells a ++ entCells b
  | [], b => rfl
  | x :: a, b => by simp [entCells, entCells_app a b]
/-- A slice of entries in memory. -/
def EntsAt (w : World) (v : Value) (es : List (Nat × Wt)) : Prop :=
  ∃ a cap, v = .slice a es.length cap ∧ (es ≠ [] → ∃ g, a = some ⟨g, 0, none⟩ ∧ ∀ (j : Nat) u, (entCells es)[j]? = some u → w.cell? ⟨g, j, none⟩ = some u)
/-- What keep leaves. -/
def KeepGives (w : World) (p mb : Nat) (r : Except Nat Ds) (e : Ending) (w' : World) : Prop :=
  Ch (fun k => k = p ∨ k = mb) w w' ∧ match r with
    | .ok d' => e = .returned (.int .i64 0) ∧ DsAt w' p mb d'
    | .error k => e = .returned (.int .i64 (k : Int))
def keepT (t : Option (List (Nat × Wt))) (d : Ds) : Except Nat Ds := match t with
  | none => .error 4
  | some tab => if 4096 < tab.length then .error 2 else .ok { d with tab := tab }
theorem keepD_T (es : List (Nat × Wt)) (d : Ds) : keepD es d = keepT (keepL es d.tab) d := rfl
theorem keepL_cons (x : Nat × Wt) (r tab : List (Nat × Wt)) : keepL (x :: r) tab = if (lookL tab x.1).isSome = true then none else keepL r (x :: tab) := rfl
set_option maxHeartbeats 2000000 in
set_option maxRecDepth 100000 in
theorem keep_some (p mb : Nat) (d : Ds) (g cap : Nat) (es : List (Nat × Wt)) (w : World) (hd : DsAt w p mb d) (hgp : g ≠ p) (hgm : g ≠ mb) (hc : ∀ (j : Nat) u, (entCells es)[j]? = some u → w.cell? ⟨g, j, none⟩ = some u)
    (hl : d.tab.length ≤ 5000) (hes : es.length ≤ 2000000) (hch : ∀ x ∈ es, x.1 ≤ 1114111) :
    Calls Tryd.prog 71 #[.pointer (some ⟨p, 0, none⟩), .slice (some ⟨g, 0, none⟩) es.length cap] w (KeepGives w p mb (keepD es d)) := by
  obtain ⟨R, hR⟩ : ∃ R, keepD es d = R := ⟨_, rfl⟩
  rw [hR]
  rw [keepD_T] at hR
  have HR := Lib.hid (show keepT (keepL (es.drop 0) d.tab) d = R by rw [List.drop_zero]; exact hR)
  clear hR
  go_enter Tryd.func71, Tryd.ntmps71
  go_wp2
  go_loopg [11] es.length (fun gg s11 wx => ∃ (i : Nat) (tab : List (Nat × Wt)), s11 = .int .i64 i ∧ i + gg = es.length ∧ Hid (keepT (keepL (es.drop i) tab) d = R) ∧ DsAt wx p mb { d with tab := tab } ∧ Ch (fun k => k = p ∨ k = mb) w wx ∧ tab.length ≤ 5000 + i)
  case atStart => exact ⟨0, d.tab, rfl, by omega, HR, hd, Ch.refl _ _, by omega⟩
  case round =>
    obtain ⟨i, tab, rfl, hig, HK, hD, hch2, htl⟩ := hrel
    by_cases hlt : i < es.length
    · obtain ⟨gg, rfl⟩ : ∃ g, gk = g + 1 := ⟨gk - 1, by omega⟩
      obtain ⟨⟨c, x1, x2, x3⟩, hx⟩ : ∃ x, es[i]? = some x := ⟨_, List.getElem?_eq_getElem hlt⟩
      obtain ⟨k0, k1, k2, k3⟩ := entCells_at es i _ hx
      have hgl := lt_of_cell (hc _ _ k0)
      have hcc := fun j u (h : (entCells es)[j]? = some u) => (hch2.cell (p := ⟨g, j, none⟩) hgl (by simp [hgp, hgm])).trans (hc j u h)
      have e0 := hcc _ _ k0
      have e1 := hcc _ _ k1
      have e2 := hcc _ _ k2
      have e3 := hcc _ _ k3
      have hcb := hch _ (List.mem_of_getElem? hx)
      simp only at e0 e1 e2 e3 hcb
      have hdr : es.drop i = (c, x1, x2, x3) :: es.drop (i + 1) := by
        rw [List.drop_eq_getElem_cons hlt]; congr 1
        rw [List.getElem?_eq_getElem hlt] at hx; exact Option.some.inj hx
      have hk := HK.out
      rw [hdr] at hk
      rw [keepL_cons] at hk
      simp only at hk
      clear hdr HK k0 k1 k2 k3 hcc hx
      obtain ⟨d0, d1, d2, d3, d4, d5⟩ := hD.cells
      have hmap := hD.map
      simp only at hmap d0
      have hil : (i : Int) < (es.length : Int) := by omega
      obtain ⟨hpl, hml⟩ := hD.lt
      obtain ⟨W1, hW1⟩ : ∃ W1, wr.alloc (.cells #[.int .i32 (c : Int), .int .i64 (x1 : Int), .int .i64 (x2 : Int), .int .i64 (x3 : Int)] 118) = W1 := ⟨_, rfl⟩
      have hb1 : Below wr.heap.size wr W1 := by rw [← hW1]; exact (Below.refl _ wr).alloc (Nat.le_refl _) _
      have hz1 : wr.heap.size < W1.heap.size := by rw [← hW1]; simp
      have y0 : W1.cell? ⟨wr.heap.size, 0, none⟩ = some (.int .i32 (c : Int)) := by rw [← hW1, cell_of_row _ wr.heap.size 0 _ _ (0, 0) (heap_alloc_new wr _)]; rfl
      have y1 : W1.cell? ⟨wr.heap.size, 1, none⟩ = some (.int .i64 (x1 : Int)) := by rw [← hW1, cell_of_row _ wr.heap.size 1 _ _ (0, 0) (heap_alloc_new wr _)]; rfl
      have y2 : W1.cell? ⟨wr.heap.size, 2, none⟩ = some (.int .i64 (x2 : Int)) := by rw [← hW1, cell_of_row _ wr.heap.size 2 _ _ (0, 0) (heap_alloc_new wr _)]; rfl
      have y3 : W1.cell? ⟨wr.heap.size, 3, none⟩ = some (.int .i64 (x3 : Int)) := by rw [← hW1, cell_of_row _ wr.heap.size 3 _ _ (0, 0) (heap_alloc_new wr _)]; rfl
      have HW1 := Lib.hid hW1
      have hD1 := hD.below hb1
      obtain ⟨f0, _, _, _, _, _⟩ := hD1.cells
      have hlk := hD1.map.drew.look c (by omega)
      have hbz : Below W1.heap.size W1 (W1.alloc (.cells #[.int .i64 0, .int .i64 0, .int .i64 0] 64)) := (Below.refl _ W1).alloc (Nat.le_refl _) _
      have hDz := hD1.below hbz
      have hlkz := hDz.map.drew.look c (by omega)
      obtain ⟨f0z, _, _, _, _, _⟩ := hDz.cells
      have y0z := (hbz.cell (p := ⟨wr.heap.size, 0, none⟩) hz1).trans y0
      simp only at hlk hlkz
      clear hW1 d0 d1 d2 d3 d4 d5
      cases hlook : lookL tab c with
      | some y =>
        rw [hlook] at hlk hlkz hk
        simp only [Option.getD_some, Option.isSome_some] at hlk hlkz
        unfold wtV at hlk hlkz
        go_wp2_with fail
        rw [HW1.out]
        rw [Option.isSome_some, if_pos rfl] at hk
        have hRe : R = .error 4 := hk.symm
        subst hRe
        clear hk
        clear hlook
        go_region
        all_goals
          go_wp2_with fail
          go_ret
          refine ⟨hch2.trans (Ch.of_below (hb1.trans (Below.mono (B := W1.heap.size) ?_ hb1.size))), rfl⟩
          repeat (first | exact Below.refl _ _ | refine Below.drew ?_ | refine Below.setCell ?_ (by simp) _ | refine Below.alloc ?_ (by simp) _)
      | none =>
        rw [hlook] at hlk hlkz hk
        simp only [Option.isSome_none, Bool.false_eq_true, if_false] at hk
        have HK := Lib.hid hk
        clear hk
        simp only [Option.getD_none, Option.isSome_none] at hlk hlkz
        unfold wtV at hlk hlkz
        have y1z := (hbz.cell (p := ⟨wr.heap.size, 1, none⟩) hz1).trans y1
        have y2z := (hbz.cell (p := ⟨wr.heap.size, 2, none⟩) hz1).trans y2
        have y3z := (hbz.cell (p := ⟨wr.heap.size, 3, none⟩) hz1).trans y3
        obtain ⟨W3, hst, hm3, hg3⟩ := hDz.map.drew.drew.store c (by omega) (x1, x2, x3) hlook (by simp only; omega)
        unfold wtV at hst
        simp only at hst hm3
        clear hlook
        go_wp2_with fail
        rw [HW1.out]
        go_region
        all_goals
          go_wp2_with fail
          go_region
          all_goals
            go_wp2_with fail
            go_roundg gg
            case measure => omega
            case rel =>
              have hgz := hg3.size
              have hb13 : Below wr.heap.size wr (W1.alloc (.cells #[.int .i64 0, .int .i64 0, .int .i64 0] 64)).drew.drew := (hb1.trans (hbz.mono hb1.size)).drew.drew
              exact ⟨i + 1, (c, x1, x2, x3) :: tab, by go_num, by omega, HK, ⟨(hg3.block p (by simp; omega) (fun e => hD.ne (Option.some.inj e).symm)).trans ((hb13.block p hpl).trans hD.blk), hD.ne, hm3⟩,
                hch2.trans ((Ch.of_below hb13).trans (Ch.of_grown hg3 (fun k e => .inr (Option.some.inj e).symm))), by simp; omega⟩
    · obtain rfl : gk = 0 := by omega
      have hk := HK.out
      rw [List.drop_eq_nil_of_le (by omega)] at hk
      have hk2 : (if 4096 < tab.length then .error 2 else .ok { d with tab := tab }) = R := hk
      obtain ⟨d0, _, _, _, _, _⟩ := hD.cells
      have hln := fun ty => hD.map.len ty
      simp only at hln d0
      have hil : ¬ (i : Int) < (es.length : Int) := by omega
      by_cases hbig : 4096 < tab.length
      · rw [if_pos hbig] at hk2
        subst hk2
        have hbig' : (4096 : Int) < (tab.length : Int) := by omega
        clear hk HK
        go_wp2_with fail
        go_ret
        exact ⟨hch2, rfl⟩
      · rw [if_neg hbig] at hk2
        subst hk2
        have hbig' : ¬ (4096 : Int) < (tab.length : Int) := by omega
        clear hk HK
        go_wp2_with fail
        go_ret
        exact ⟨hch2, rfl, hD⟩
end Go.Proofs.YtgjjmapfdijphaaDoor

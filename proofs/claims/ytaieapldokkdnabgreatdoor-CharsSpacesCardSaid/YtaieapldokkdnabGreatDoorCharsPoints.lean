/- The contracts of chars.Points and chars.Len. -/
import Derived.Test.YtaieapldokkdnabGreatDoorCharsSpace
import Derived.Laws.MakeOwn
import Derived.Laws.OwnMore
import Derived.Maps.AppendAt
import Derived.Deep.DeepMust
namespace Go.Proofs.YtaieapldokkdnabGreatDoor
open Go.RowKit Go.Lib

theorem infoInt : (Tryz.prog.info? 3).map (fun i => (i.zero, i.size, i.bytes)) = some (some (.int .i64 0), 1, 8) := by kernel_rfl
def intCells (p : List Nat) : List Value := p.map fun (c : Nat) => Value.int .i64 (c : Int)
theorem intCells_len (p : List Nat) : (intCells p).length = p.length := List.length_map _
theorem intCells_snoc (p : List Nat) (c : Nat) : intCells (p ++ [c]) = intCells p ++ [Value.int .i64 (c : Int)] := by simp [intCells]

set_option maxHeartbeats 1000000 in
theorem len_any (s : ByteArray) (w : World) (hs : s.size < 9223372036854775807) (hg : Gr w) :
    Calls Tryz.prog 22 #[.string s] w fun e w' => e = .returned (.int .i64 (if text s.data.toList then ((codes s.data.toList).length : Int) else 0)) ∧ Below w.heap.size w w' := by
  have cT := isText_any s w (by omega) hg
  cases hT : text s.data.toList <;> rw [hT] at cT <;> clear hT
  · go_enter Tryz.func22, Tryz.ntmps22
    go_wp2_with (go_at_call 20; refine cT.mono ?_; rintro e w' ⟨rfl, hb⟩)
    go_ret
    exact ⟨by simp, hb⟩
  · have cR : ∀ W, Calls Tryz.prog _ _ W _ := fun W => Tryz.utf8_RuneCountInString s W hs
    rw [runeCount_steps] at cR
    rw [show (codes s.data.toList).length = (steps s.data.toList).length from List.length_map _]
    generalize (steps s.data.toList).length = n at cR ⊢
    go_enter Tryz.func22, Tryz.ntmps22
    go_wp2_with (go_at_call 20; refine cT.mono ?_; rintro e w1 ⟨rfl, hb⟩)
    go_wp2_with (go_at_call 46; refine (cR _).mono ?_; rintro e w2 ⟨rfl, p, rfl⟩)
    go_ret
    exact ⟨by simp, hb.trans ((iter_below w1 s p).mono hb.size)⟩

set_option maxHeartbeats 1000000 in
theorem points_no (s : ByteArray) (w : World) (hs : s.size < 9223372036854775807) (hg : Gr w) (hT : text s.data.toList = false) :
    Calls Tryz.prog 18 #[.string s] w fun e w' => e = .returned (.tuple #[.slice none 0 0, .int .i64 10]) ∧ Below w.heap.size w w' := by
  have cT := isText_any s w (by omega) hg
  rw [hT] at cT
  clear hT
  go_enter Tryz.func18, Tryz.ntmps18
  go_wp2_with (go_at_call 20; refine cT.mono ?_; rintro e w' ⟨rfl, hb⟩)
  go_ret2
  exact ⟨rfl, hb⟩

/-- What Points hands back of a text: a row of its own that holds the code points. -/
def PointsGive (w : World) (p : List Nat) (e : Ending) (w' : World) : Prop :=
  ∃ v, e = .returned (.tuple #[v, .int .i64 0]) ∧ w'.ownsRow w.heap.size 3 1 v p.length (intCells p) ∧ v ≠ .slice none 0 0 ∧ Below w.heap.size w w'

set_option maxHeartbeats 2000000 in
set_option maxRecDepth 100000 in
theorem points_yes (s : ByteArray) (w : World) (hs : s.size ≤ 17592186044416) (hg : Gr w) (hT : text s.data.toList = true) :
    Calls Tryz.prog 18 #[.string s] w (PointsGive w (codes s.data.toList)) := by
  have cT := isText_any s w (by omega) hg
  rw [hT] at cT
  clear hT
  have cR : ∀ W, Calls Tryz.prog _ _ W _ := fun W => Tryz.utf8_RuneCountInString s W (by omega)
  rw [runeCount_steps] at cR
  have hlen := steps_len s.data.toList
  rw [← size_eq] at hlen
  have HS := Lib.hid (show codes s.data.toList = [] ++ (steps (s.data.toList.drop 0)).map Prod.fst by rw [List.drop_zero]; rfl)
  obtain ⟨C, hC⟩ : ∃ C, codes s.data.toList = C := ⟨_, rfl⟩
  rw [hC] at HS ⊢
  clear hC
  generalize (steps s.data.toList).length = n at cR hlen
  obtain ⟨i0, hi, hz0, hz1, hz2⟩ := info_parts infoInt
  go_enter Tryz.func18, Tryz.ntmps18
  go_wp2_with (go_at_call 20; refine cT.mono ?_; rintro e w1 ⟨rfl, hb⟩)
  go_wp2_with (go_at_call 46; refine (cR _).mono ?_; rintro e w2 ⟨rfl, p, rfl⟩)
  have hb1 : Below w.heap.size w (w1.iter s p) := hb.trans ((iter_below w1 s p).mono hb.size)
  generalize w1.iter s p = W1 at hb1 ⊢
  clear cT cR hb
  obtain ⟨W0, hmk, hown0, hg0⟩ := run_make_own (P := Tryz.prog) W1 w.heap.size 37 3 i0 _ 1 Tryz.underlying37 hi hz0 hz1 .i64 .i64 n (by rw [hz2]; omega) (by unfold maxLen; omega) hb1.size
  have hb0 : Below w.heap.size w W0 := hb1.grown hg0 hb1.size (fun k hk => by cases hk)
  go_wp2
  rw [hmk]
  go_wp2
  go_loopg [4] s.size (fun g v wx => ∃ (pos : Nat) (acc : List Nat), wx.ownsRow w.heap.size 3 1 v acc.length (intCells acc) ∧ wx.heap[W0.heap.size]? = some (.stringIter s pos) ∧ Below w.heap.size w wx ∧
      C = acc ++ (steps (s.data.toList.drop pos)).map Prod.fst ∧ s.size ≤ pos + g ∧ acc.length ≤ pos ∧ pos ≤ s.size ∧ v ≠ .slice none 0 0)
  case atStart => exact ⟨0, [], hown0.alloc _, World.iter_heap W0 s 0, hb0.alloc hb0.size _, HS.out, by omega, Nat.le_refl _, Nat.zero_le _, fun h => by cases h⟩
  case round =>
    clear hmk hown0 HS
    obtain ⟨pos, acc, hown, hit, hbw, hc, hgf, hal, hps, hnn⟩ := hrel
    by_cases hlt : pos < s.size
    · obtain ⟨g, rfl⟩ : ∃ g, gk = g + 1 := ⟨gk - 1, by omega⟩
      have hnx : ∀ ty, (Instr.next (.pointer (some ⟨W0.heap.size, 0, none⟩)) true ty).run Tryz.prog wr = _ := fun ty => Lib.run_next_any_at wr W0.heap.size s pos ty hit hlt
      have hw := width_pos s pos
      have hwn : pos + (Utf8.decode s pos).2 ≤ s.size := by
        have := decodeN_le_n' (s.size - pos) (s.get! pos).toNat (s.get! (pos + 1)).toNat (s.get! (pos + 2)).toNat (s.get! (pos + 3)).toNat (by omega)
        rw [← decode_at] at this
        omega
      have hrl := rune_le s pos
      rw [steps_at s pos hlt, List.map_cons] at hc
      obtain ⟨R, hR⟩ : ∃ R, (Utf8.decode s pos).1 = R := ⟨_, rfl⟩
      obtain ⟨K, hK⟩ : ∃ K, (Utf8.decode s pos).2 = K := ⟨_, rfl⟩
      rw [hR, hK] at hnx
      rw [hR, hK] at hc
      rw [hR] at hrl
      rw [hK] at hw hwn
      clear hR hK
      have Hc := Lib.hid hc
      clear hc
      have hit2 := Lib.iterAt_heap wr W0.heap.size s pos (pos + K) hit
      have hbw2 := Lib.below_iterAt hbw (k := W0.heap.size) hb0.size s (pos + K)
      have hown2 := own_iterAt hown hit (pos + K)
      obtain ⟨W, hWd⟩ : ∃ W, wr.iterAt W0.heap.size s (pos + K) = W := ⟨_, rfl⟩
      rw [hWd] at hnx hit2 hbw2 hown2
      have hITW : W0.heap.size < W.heap.size := (Array.getElem?_eq_some_iff.1 hit2).1
      clear hWd hown hit hbw
      go_wp2_with (at_builtin; go_must (refine wpList_append_own _ rfl (.tmp 18) (.tmp 21) 37 rfl w.heap.size 3 i0 (.int .i64 0) 1 8 Tryz.underlying37 hi hz0 hz1 hz2 rfl (by decide) _ _ _ rfl (hown2.alloc _) ⟨W.heap.size, 0, none⟩ 1 1 [.int .i64 (R : Int)] rfl rfl (cell_one_new _ _ _) (by intro u hu; simp at hu; rcases hu with rfl; rfl) (by unfold maxLen; omega) (by omega) (by have := hbw2.size; simp; omega) ?_; intro v3 w3 hown3 hgrow3 hnil3))
      go_roundg g
      case measure => omega
      case rel =>
        have hX := hown2.alloc (.cells #[.int .i64 (R : Int)] 3)
        refine ⟨pos + K, acc ++ [R], by rw [List.length_append, intCells_snoc]; exact hown3, ?_, ?_, by rw [List.append_assoc]; exact Hc.out, by omega, by simp; omega, hwn, fun h => by have := (hnil3.1 h).2; omega⟩
        · exact (hgrow3.block W0.heap.size (by simp; omega) (own_ne_iter hown2 hit2)).trans ((Below.heap_alloc _ _ _ hITW).trans hit2)
        · exact (hbw2.alloc (by have := hbw2.size; omega) _).grown hgrow3 (by have := hbw2.size; simp; omega) (fun j hj => (hX.lt j hj).1)
    · have hnx : ∀ ty, (Instr.next (.pointer (some ⟨W0.heap.size, 0, none⟩)) true ty).run Tryz.prog wr = _ := fun ty => Lib.run_next_end_at wr W0.heap.size s pos ty hit hlt
      rw [steps_end s pos hlt] at hc
      have hC : C = acc := by simpa using hc
      subst hC
      clear hc
      go_wp2
      go_ret2
      exact ⟨_, rfl, hown, hnn, hbw⟩
end Go.Proofs.YtaieapldokkdnabGreatDoor

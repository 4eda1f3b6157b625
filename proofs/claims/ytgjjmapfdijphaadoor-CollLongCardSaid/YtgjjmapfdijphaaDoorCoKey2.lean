/- The contracts of (*coll.Table).Key and Compare. -/
import Derived.Test.YtgjjmapfdijphaaDoorCoKey
import Derived.Test.YtgjjmapfdijphaaDoorCoCmp
import Derived.RangeFuncNested
namespace Go.Proofs.YtgjjmapfdijphaaDoor
open Go.RowKit Go.Lib

/-- What Key hands back: a slice whose bytes are these. -/
def BytesV (w : World) (v : Value) (l : List UInt8) : Prop :=
  ∃ a cap, v = .slice a l.length cap ∧ l.length ≤ cap ∧ Lib.BytesIn w a l.length (l.map fun b => (b.toNat : Int))
theorem BytesV.of_row {w : World} {B : Nat} {v : Value} {l : List UInt8} (h : w.ownsRow B 5 1 v l.length (byteCellsOf l)) : BytesV w v l := by
  rcases h.2 with ⟨rfl, h0⟩ | ⟨g, cap, cur, rfl, _, _, hc, _⟩
  · exact ⟨none, 0, by rw [h0], by omega, fun hn => by omega⟩
  · refine ⟨_, cap, rfl, hc, fun _ => ⟨g, 0, rfl, fun i hi => ?_⟩⟩
    rw [Nat.zero_add, h.cellAt i (by omega)]
    unfold byteCellsOf
    simp [hi]
theorem BytesV.later {w w' : World} {v : Value} {l : List UInt8} (h : BytesV w v l) (hb : Below w.heap.size w w') : BytesV w' v l := by
  obtain ⟨a, cap, rfl, hc, h⟩ := h
  refine ⟨a, cap, rfl, hc, fun hn => ?_⟩
  obtain ⟨b, o, rfl, h'⟩ := h hn
  exact ⟨b, o, rfl, fun i hi => (hb.cell (p := ⟨b, o + i, none⟩) (lt_of_cell (h' i hi))).trans (h' i hi)⟩
theorem TabAt.block {w : World} {v : Value} {T : Tb} (h : TabAt w v T) : (v = .pointer none ∧ T = ⟨[], 0, 0⟩) ∨ ∃ p, v = .pointer (some ⟨p, 0, none⟩) ∧ BlockIn w.heap.size w p T := by
  rcases h with h | ⟨p, mv, rfl, h1, h2⟩
  · exact .inl h
  · refine .inr ⟨p, rfl, mv, h1, (Array.getElem?_eq_some_iff.1 h1).1, ?_⟩
    rcases h2 with h2 | ⟨mb, rfl, h3, h4⟩
    · exact .inl h2
    · exact .inr ⟨mb, rfl, h3, h4.lt, h4⟩
set_option maxHeartbeats 2000000 in
set_option maxRecDepth 100000 in
theorem key_bad (v : Value) (s : ByteArray) (T : Tb) (w : World) (hg : Gr w) (hs : s.size ≤ 1000000) (ht : text s.data.toList = false) (hv : TabAt w v T) :
    Calls Tryd.prog 15 #[v, .string s] w fun e w' => e = .returned (.slice none 0 0) ∧ Below w.heap.size w w' := by
  have cT := fun W (hW : Gr W) => isText_any s W (by omega) hW
  rw [ht] at cT
  have hb0 : ∀ o1 o2, Below w.heap.size w ((w.alloc o1).alloc o2) := fun o1 o2 => ((Below.refl _ w).alloc (Nat.le_refl _) o1).alloc (by simp) o2
  have hg2 := fun o1 o2 => hg.later (hb0 o1 o2)
  rcases hv with ⟨rfl, _⟩ | ⟨p, mv, rfl, _, _⟩
  all_goals
    go_enter Tryd.func15, Tryd.ntmps15
    go_wp2_with (go_at_call 16; refine (cT _ (hg2 _ _)).mono ?_; rintro e w1 ⟨rfl, hb⟩)
    go_ret
    exact ⟨rfl, (hb0 _ _).trans (hb.mono (by simp; omega))⟩
/-- The levels behind the first one and before a level. -/
def restsL (T : Tb) (cs : List Nat) : Nat → List UInt8
  | 0 => []
  | 1 => []
  | n + 2 => restsL T cs (n + 1) ++ restL T cs (n + 1)
theorem keyC_rests (T : Tb) (cs : List Nat) (h : T.str ≤ 3) (n : Nat) (h1 : 1 ≤ n) (h2 : T.str ≤ n) (h3 : n ≤ 1 ∨ n ≤ T.str) : keyC T cs = levelL T 0 cs ++ restsL T cs n := by
  unfold keyC
  congr 1
  rcases (show n = 1 ∨ n = 2 ∨ n = 3 by omega) with rfl | rfl | rfl
  · rw [if_neg (by omega), if_neg (by omega)]; rfl
  · rw [if_pos (by omega), if_neg (by omega)]; simp [restsL]
  · rw [if_pos (by omega), if_pos (by omega)]; simp [restsL]
theorem rests_len (T : Tb) (cs : List Nat) : ∀ n, (restsL T cs n).length ≤ n * (3 * cs.length + 3)
  | 0 => by simp [restsL]
  | 1 => by simp [restsL]
  | n + 2 => by
    have h1 := rests_len T cs (n + 1)
    have h2 := levelL_len T (n + 1) cs
    unfold restsL restL
    rw [List.length_append, List.length_append, three_len]
    have : (n + 2) * (3 * cs.length + 3) = (n + 1) * (3 * cs.length + 3) + (3 * cs.length + 3) := by rw [Nat.succ_mul]
    omega
theorem KeyIs.new (w : World) : KeyIs (w.alloc (.cells #[.slice none 0 0] 33)) w.heap.size [] := ⟨_, Boxed.new w _ _, World.ownsRow_nil _ _ _ _⟩
set_option maxHeartbeats 4000000 in
set_option maxRecDepth 100000 in
theorem key_block (p : Nat) (s : ByteArray) (T : Tb) (w : World) (hg : Gr w) (hs : s.size ≤ 1000000) (ht : text s.data.toList = true) (hB : BlockIn w.heap.size w p T) (hT : TabSmall T) :
    Calls Tryd.prog 15 #[.pointer (some ⟨p, 0, none⟩), .string s] w fun e w' => ∃ v, e = .returned v ∧ BytesV w' v (keyC T (codes s.data.toList)) ∧ Below w.heap.size w w' := by
  have cT := fun W (hW : Gr W) => isText_any s W (by omega) hW
  rw [ht] at cT
  obtain ⟨W0, hW0⟩ : ∃ W0, (w.alloc (.cells #[.pointer (some ⟨p, 0, none⟩)] 24)).alloc (.cells #[.string s] 9) = W0 := ⟨_, rfl⟩
  have hb0 : Below w.heap.size w W0 := by rw [← hW0]; exact ((Below.refl _ w).alloc (Nat.le_refl _) _).alloc (by simp) _
  have hz0 : W0.heap.size = w.heap.size + 2 := by rw [← hW0]; simp
  have x1 : Boxed W0 w.heap.size 24 (.pointer (some ⟨p, 0, none⟩)) := by rw [← hW0]; exact (Boxed.new w _ _).alloc _
  have x2 : Boxed W0 (w.heap.size + 1) 9 (.string s) := by
    rw [← hW0]
    have := Boxed.new (w.alloc (.cells #[.pointer (some ⟨p, 0, none⟩)] 24)) 9 (.string s)
    rwa [World.size_alloc] at this
  have cT0 := cT W0 (hg.later hb0)
  have HW0 := Lib.hid hW0
  clear hW0 cT
  have hcl := codes_len s.data.toList
  rw [← size_eq] at hcl
  have hlv := fun lv => levelL_len T lv (codes s.data.toList)
  have hrl := rests_len T (codes s.data.toList)
  have HK := Lib.hid (keyC_rests T (codes s.data.toList) hT.2.1)
  obtain ⟨C, hC⟩ : ∃ C, codes s.data.toList = C := ⟨_, rfl⟩
  have cW := fun (lv : Nat) (hl : lv ≤ 2) (Bk : Nat) (W : World) (E : KeyEnv W (w.heap.size + 1) w.heap.size Bk p s T) (xs : List UInt8) (hk : KeyIs W Bk xs) (hx : xs.length ≤ 100000000) => write_any lv hl (w.heap.size + 1) w.heap.size Bk p s T W E xs hk hT hs hx
  rw [hC] at hcl hlv hrl HK cW ⊢
  clear hC
  go_enter Tryd.func15, Tryd.ntmps15
  go_wp2_with fail
  rw [HW0.out]
  refine cT0.mono ?_
  rintro e w1 ⟨rfl, hb1⟩
  have hb1s := hb1.size
  have hbw1 : Below w.heap.size w w1 := hb0.trans (hb1.mono (by omega))
  have y1 : Boxed w1 w.heap.size 24 (.pointer (some ⟨p, 0, none⟩)) := (hb1.block _ (by omega)).trans x1
  have y2 : Boxed w1 (w.heap.size + 1) 9 (.string s) := (hb1.block _ (by omega)).trans x2
  have hpl : p < w.heap.size := by obtain ⟨_, _, h, _⟩ := hB; exact h
  have hB1 := hB.kept hbw1
  have E2 : KeyEnv (w1.alloc (.cells #[.slice none 0 0] 33)) (w.heap.size + 1) w.heap.size w1.heap.size p s T :=
    ⟨y2.alloc _, y1.alloc _, (hB1.kept ((Below.refl w1.heap.size w1).alloc (Nat.le_refl _) _ |>.mono (by omega))).mono (by omega), by omega, by omega⟩
  have c1 := y1.cell
  have K2 := KeyIs.new w1
  have cW0 := cW 0 (by omega) _ _ E2 [] K2 (by simp)
  clear cT0 x1 x2 y1 y2 K2 hB1
  go_wp2_with fail
  refine cW0.mono ?_
  rintro e w2 ⟨rfl, hb2, hk2⟩
  clear cW0
  have E3 := E2.kept hb2
  have hbw2 : Below w.heap.size w w2 := (hbw1.alloc (by omega) _).trans (hb2.mono (by omega))
  clear E2 c1
  rw [List.nil_append] at hk2
  go_wp2_with fail
  go_loopg [7] 3 (fun g s7 wx => ∃ n : Nat, s7 = .int .i64 n ∧ 1 ≤ n ∧ (n ≤ 1 ∨ n ≤ T.str) ∧ n + g = 4 ∧ KeyEnv wx (w.heap.size + 1) w.heap.size w1.heap.size p s T ∧ KeyIs wx w1.heap.size (levelL T 0 C ++ restsL T C n) ∧ Below w.heap.size w wx)
  case atStart => exact ⟨1, rfl, Nat.le_refl _, .inl (Nat.le_refl _), by omega, E3, by rw [show restsL T C 1 = [] from rfl, List.append_nil]; exact hk2, hbw2⟩
  case round =>
    clear E3 hk2 hbw2
    obtain ⟨n, rfl, hn1, hn2, hng, E, hk, hbw⟩ := hrel
    obtain ⟨v, hv, ho⟩ := hk
    obtain ⟨_, _, _, d2, _, _⟩ := E.tb.look
    have d1 := E.bt.cell
    have d3 := hv.cell
    have hst := hT.2.1
    by_cases hlt : n < T.str
    · have hlt' : (n : Int) < (T.str : Int) := by omega
      obtain ⟨g, rfl⟩ : ∃ g, gk = g + 1 := ⟨gk - 1, by omega⟩
      have hr1 := hrl n
      have hl0 := hlv 0
      have hmul : n * (3 * C.length + 3) ≤ 3 * (3 * C.length + 3) := Nat.mul_le_mul_right _ (by omega)
      obtain ⟨XS, hXS⟩ : ∃ XS, levelL T 0 C ++ restsL T C n = XS := ⟨_, rfl⟩
      have hXl : XS.length ≤ 50000000 := by rw [← hXS, List.length_append]; omega
      rw [hXS] at ho
      have HXS := Lib.hid hXS
      have HL := Lib.hid (show XS ++ three 0 ++ levelL T n C = levelL T 0 C ++ restsL T C (n + 1) by
        obtain ⟨m, rfl⟩ : ∃ m, n = m + 1 := ⟨n - 1, by omega⟩
        rw [← hXS, List.append_assoc, List.append_assoc]
        rfl)
      clear hXS hr1 hl0 hmul hrl hlv hn2
      have hBk : w1.heap.size < wr.heap.size := hv.lt
      have cA := appendNumber_any (w1.heap.size + 1) v XS 0 wr (by omega) ho (by omega) (by omega)
      have hneB : some w1.heap.size ≠ v.ownBlock := fun e => by have := (ho.lt _ e.symm).1; omega
      have HneB := Lib.hid hneB
      clear hneB
      go_wp2_with fail
      refine Calls.mono (by exact cA) ?_
      rintro e w4 ⟨v4, rfl, ho4, hg4, ha4⟩
      obtain ⟨g4, cp4, rfl⟩ := ownsRow_succ (k := XS.length + 2) (by rw [List.length_append, three_len] at ho4; exact ho4)
      have z4 := hg4.cell d3 HneB.out
      have f4 : w4.frozen? ⟨w1.heap.size, 0, none⟩ = false := ((hv.kept hg4 HneB.out)).frozen
      have hv6 := (hv.kept hg4 HneB.out).set (.slice (some ⟨g4, 0, none⟩) (XS.length + 2 + 1) cp4)
      have ho6 := ownsRow_setCell_below ho4 (a := ⟨w1.heap.size, 0, none⟩) (by show w1.heap.size < w1.heap.size + 1; omega) (.slice (some ⟨g4, 0, none⟩) (XS.length + 2 + 1) cp4)
      have hbk6 : Below w1.heap.size wr (w4.setCell ⟨w1.heap.size, 0, none⟩ (.slice (some ⟨g4, 0, none⟩) (XS.length + 2 + 1) cp4)) :=
        ((Below.refl w1.heap.size wr).grown hg4 (by omega) (fun k hk => by have := (ho.lt k hk).1; omega)).setCell (p := ⟨w1.heap.size, 0, none⟩) (Nat.le_refl _) _
      have E6 := E.kept hbk6
      have hbw6 : Below w.heap.size w (w4.setCell ⟨w1.heap.size, 0, none⟩ (.slice (some ⟨g4, 0, none⟩) (XS.length + 2 + 1) cp4)) := hbw.trans (hbk6.mono (by omega))
      have cX := cW n (by omega) _ _ E6 (XS ++ three 0) ⟨_, hv6, ho6⟩ (by rw [List.length_append, three_len]; omega)
      clear hbk6 ho6 hv6 ho4 hg4 ha4 cA d1 d2 d3
      go_wp2_with fail
      refine cX.mono ?_
      rintro e w7 ⟨rfl, hb7, hk7⟩
      go_wp2_with fail
      go_roundg g
      case measure => omega
      case rel => exact ⟨n + 1, by go_num, by omega, .inr (by omega), by omega, E6.kept hb7, by rw [← HL.out]; exact hk7, hbw6.trans (hb7.mono (by omega))⟩
    · have hlt' : ¬ (n : Int) < (T.str : Int) := by omega
      have hend := BytesV.of_row ho
      rw [← HK.out n hn1 (by omega) hn2] at hend
      go_wp2_with fail
      go_ret
      exact ⟨_, rfl, hend, hbw⟩
set_option maxHeartbeats 4000000 in
set_option maxRecDepth 100000 in
theorem key_nil (s : ByteArray) (w : World) (hg : Gr w) (hs : s.size ≤ 1000000) (ht : text s.data.toList = true) :
    Calls Tryd.prog 15 #[.pointer none, .string s] w fun e w' => ∃ v, e = .returned v ∧ BytesV w' v (keyC ⟨[], 0, 0⟩ (codes s.data.toList)) ∧ Below w.heap.size w w' := by
  have hT : TabSmall ⟨[], 0, 0⟩ := ⟨by decide, by decide, fun c x h => by cases h⟩
  have cT := fun W (hW : Gr W) => isText_any s W (by omega) hW
  rw [ht] at cT
  obtain ⟨W0, hW0⟩ : ∃ W0, (w.alloc (.cells #[.pointer none] 24)).alloc (.cells #[.string s] 9) = W0 := ⟨_, rfl⟩
  have hb0 : Below w.heap.size w W0 := by rw [← hW0]; exact ((Below.refl _ w).alloc (Nat.le_refl _) _).alloc (by simp) _
  have hz0 : W0.heap.size = w.heap.size + 2 := by rw [← hW0]; simp
  have x1 : Boxed W0 w.heap.size 24 (.pointer none) := by rw [← hW0]; exact (Boxed.new w _ _).alloc _
  have x2 : Boxed W0 (w.heap.size + 1) 9 (.string s) := by
    rw [← hW0]
    have := Boxed.new (w.alloc (.cells #[.pointer none] 24)) 9 (.string s)
    rwa [World.size_alloc] at this
  have cT0 := cT W0 (hg.later hb0)
  have HW0 := Lib.hid hW0
  clear hW0 cT
  go_enter Tryd.func15, Tryd.ntmps15
  go_wp2_with fail
  rw [HW0.out]
  refine cT0.mono ?_
  rintro e w1 ⟨rfl, hb1⟩
  have hb1s := hb1.size
  have hbw1 : Below w.heap.size w w1 := hb0.trans (hb1.mono (by omega))
  have y1 : Boxed w1 w.heap.size 24 (.pointer none) := (hb1.block _ (by omega)).trans x1
  have y2 : Boxed w1 (w.heap.size + 1) 9 (.string s) := (hb1.block _ (by omega)).trans x2
  obtain ⟨W2, hW2⟩ : ∃ W2, (w1.alloc (.cells #[.map none, .int .i64 0, .int .i64 0] 44)).setCell ⟨w.heap.size, 0, none⟩ (.pointer (some ⟨w1.heap.size, 0, none⟩)) = W2 := ⟨_, rfl⟩
  have hz2 : W2.heap.size = w1.heap.size + 1 := by rw [← hW2]; simp [World.setCell]
  have z1 : Boxed W2 w.heap.size 24 (.pointer (some ⟨w1.heap.size, 0, none⟩)) := by rw [← hW2]; exact (y1.alloc _).set _
  have z2 : Boxed W2 (w.heap.size + 1) 9 (.string s) := by rw [← hW2]; exact Boxed.other (y2.alloc _) (by omega) _
  have z3 : W2.heap[w1.heap.size]? = some (.cells #[.map none, .int .i64 0, .int .i64 0] 44 (0, 0)) := by
    rw [← hW2, Below.heap_setCell _ _ _ _ (by show w1.heap.size ≠ w.heap.size; omega)]
    exact World.alloc_heap_new w1 _
  have hbw2 : Below w.heap.size w W2 := by rw [← hW2]; exact (hbw1.alloc (by omega) _).setCell (p := ⟨w.heap.size, 0, none⟩) (Nat.le_refl _) _
  have hB2 : BlockIn W2.heap.size W2 w1.heap.size ⟨[], 0, 0⟩ := ⟨_, z3, by omega, .inl ⟨rfl, rfl⟩⟩
  have E2 : KeyEnv (W2.alloc (.cells #[.slice none 0 0] 33)) (w.heap.size + 1) w.heap.size W2.heap.size w1.heap.size s ⟨[], 0, 0⟩ :=
    ⟨z2.alloc _, z1.alloc _, hB2.kept ((Below.refl W2.heap.size W2).alloc (Nat.le_refl _) _), by omega, by omega⟩
  have c1 := y1.cell
  have f1 := y1.frozen
  have c2 := (y1.alloc (.cells #[.map none, .int .i64 0, .int .i64 0] 44)).cell
  have f2 := (y1.alloc (.cells #[.map none, .int .i64 0, .int .i64 0] 44)).frozen
  have K2 := KeyIs.new W2
  have cW0 := write_any 0 (by omega) (w.heap.size + 1) w.heap.size _ _ s _ _ E2 [] K2 hT hs (by simp)
  have hbw3 : Below w.heap.size w (W2.alloc (.cells #[.slice none 0 0] 33)) := hbw2.alloc (by omega) _
  have HW2 := Lib.hid hW2
  clear cT0 x1 x2 y1 y2 K2 z1 z2 z3 hB2 hW2 hbw2
  rw [List.nil_append] at cW0
  have hlt' : ¬ ((1 : Int) < 0) := by omega
  rw [hz2] at cW0
  have Hz2 := Lib.hid hz2
  clear hz2
  go_wp2_with fail
  rw [HW2.out]
  refine Calls.mono (by exact cW0) ?_
  rintro e w2 ⟨rfl, hb2, hk2⟩
  have hz2 := Hz2.out
  rw [← hz2] at hb2 hk2
  have E3 := E2.kept hb2
  have hbw4 : Below w.heap.size w w2 := hbw3.trans (hb2.mono (by omega))
  obtain ⟨v, hv, ho⟩ := hk2
  obtain ⟨_, _, _, d2, _, _⟩ := E3.tb.look
  have d1 := E3.bt.cell
  have d3 := hv.cell
  have hend := BytesV.of_row ho
  rw [show levelL ⟨[], 0, 0⟩ 0 (codes s.data.toList) = keyC ⟨[], 0, 0⟩ (codes s.data.toList) from by simp [keyC]] at hend
  rw [hz2] at hv d3
  clear cW0 hbw3 E2 c1 f1 c2 f2 HW2 hz2 Hz2
  go_wp2_with fail
  refine wp_loop_rounds 1 ?_
  rw [rounds_succ]
  go_wp2_with fail
  go_ret
  exact ⟨_, rfl, hend, hbw4⟩
/-- What Key hands back of any string. -/
theorem key_any (v : Value) (s : ByteArray) (T : Tb) (w : World) (hg : Gr w) (hs : s.size ≤ 1000000) (hv : TabAt w v T) (hT : TabSmall T) :
    Calls Tryd.prog 15 #[v, .string s] w fun e w' => ∃ u, e = .returned u ∧ BytesV w' u (keyL T s.data.toList) ∧ Below w.heap.size w w' := by
  unfold keyL
  cases ht : text s.data.toList with
  | false =>
    refine (key_bad v s T w hg hs ht hv).mono ?_
    rintro e w' ⟨rfl, hb⟩
    exact ⟨_, rfl, ⟨none, 0, rfl, Nat.le_refl _, fun h => absurd h (Nat.lt_irrefl 0)⟩, hb⟩
  | true =>
    rw [if_pos rfl]
    rcases hv.block with ⟨rfl, rfl⟩ | ⟨p, rfl, hB⟩
    · exact key_nil s w hg hs ht
    · exact key_block p s T w hg hs ht hB hT
end Go.Proofs.YtgjjmapfdijphaaDoor

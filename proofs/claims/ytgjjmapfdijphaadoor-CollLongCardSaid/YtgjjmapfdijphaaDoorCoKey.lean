/- The contracts of (*coll.Table).weigh, Key and Compare. -/
import Derived.Test.YtgjjmapfdijphaaDoorCoWorld
import Derived.Test.YtgjjmapfdijphaaDoorCoEq
import Derived.Deep.RegionHeld3
import Derived.RangeFuncBox
namespace Go.Proofs.YtgjjmapfdijphaaDoor
open Go.RowKit Go.Lib

/-- A collation's block, and its map's (nil, or one of weights), lie below B. -/
def BlockIn (B : Nat) (w : World) (p : Nat) (T : Tb) : Prop :=
  ∃ mv, w.heap[p]? = some (.cells #[mv, .int .i64 T.last, .int .i64 T.str] 44 (0, 0)) ∧ p < B ∧ ((mv = .map none ∧ T.tab = []) ∨ ∃ mb, mv = .map (some mb) ∧ mb ≠ p ∧ mb < B ∧ MapIs w mb T.tab)
theorem BlockIn.kept {B : Nat} {w w' : World} {p : Nat} {T : Tb} (h : BlockIn B w p T) (hb : Below B w w') : BlockIn B w' p T := by
  obtain ⟨mv, h1, hp, h2⟩ := h
  refine ⟨mv, (hb.block p hp).trans h1, hp, ?_⟩
  rcases h2 with h2 | ⟨mb, rfl, h3, hl, h4⟩
  · exact .inl h2
  · exact .inr ⟨mb, rfl, h3, hl, h4.same (hb.block mb hl)⟩
theorem BlockIn.mono {B B' : Nat} {w : World} {p : Nat} {T : Tb} (h : BlockIn B w p T) (hb : B ≤ B') : BlockIn B' w p T := by
  obtain ⟨mv, h1, hp, h2⟩ := h
  refine ⟨mv, h1, by omega, ?_⟩
  rcases h2 with h2 | ⟨mb, rfl, h3, hl, h4⟩
  · exact .inl h2
  · exact .inr ⟨mb, rfl, h3, by omega, h4⟩
theorem BlockIn.look {B : Nat} {w : World} {p : Nat} {T : Tb} (h : BlockIn B w p T) : ∃ mv, w.cell? ⟨p, 0, none⟩ = some mv ∧ w.cell? ⟨p, 1, none⟩ = some (.int .i64 T.last) ∧ w.cell? ⟨p, 2, none⟩ = some (.int .i64 T.str) ∧ p < w.heap.size ∧
    ∀ (c : Nat) (o : Obj), c ≤ 2147483647 → (Instr.lookup 42 mv (.int .i32 (c : Int)) true).run Tryd.prog (w.alloc o) = .ok (.tuple #[wtV ((lookL T.tab c).getD (0, 0, 0)), .bool (lookL T.tab c).isSome]) (w.alloc o) := by
  obtain ⟨mv, h1, _, h2⟩ := h
  refine ⟨mv, by simp [World.cell?, h1], by simp [World.cell?, h1], by simp [World.cell?, h1], (Array.getElem?_eq_some_iff.1 h1).1, fun c o hc => ?_⟩
  rcases h2 with ⟨rfl, h2⟩ | ⟨mb, rfl, _, _, h4⟩
  · rw [look_nilmap _ c hc, h2]; rfl
  · exact (h4.alloc o).look c hc
set_option maxHeartbeats 2000000 in
set_option maxRecDepth 100000 in
theorem weigh_any (B : Nat) (T : Tb) (p : Nat) (c : Nat) (w : World) (h : BlockIn B w p T) (hc : c ≤ 1114111) (hl : T.last ≤ 1000000000) :
    Calls Tryd.prog 31 #[.pointer (some ⟨p, 0, none⟩), .int .i32 (c : Int)] w fun e w' => e = .returned (wtV (wtOf T c)) ∧ Below w.heap.size w w' := by
  obtain ⟨mv, h0, h1, h2, hp, hlk⟩ := h.look
  have hk := hlk c (.cells #[.int .i64 0, .int .i64 0, .int .i64 0] 64) (by omega)
  clear hlk h h2
  unfold wtOf
  cases hx : lookL T.tab c with
  | none =>
    rw [hx] at hk
    simp only [Option.getD_none, Option.isSome_none] at hk
    clear hx
    unfold wtV at hk ⊢
    go_enter Tryd.func31, Tryd.ntmps31
    go_wp2
    refine bodyPost_ret (v := wtV (c + T.last + 1, 1, 1)) (by simp [results, Tryd.results31, go_sem, wtV]) rfl ⟨rfl, ?_⟩
    repeat (first | exact Below.refl _ _ | (refine Below.setCell ?_ (by simp) _) | (refine Below.alloc ?_ (by simp) _))
  | some x =>
    rw [hx] at hk
    simp only [Option.getD_some, Option.isSome_some] at hk
    clear hx
    unfold wtV at hk ⊢
    go_enter Tryd.func31, Tryd.ntmps31
    go_wp2
    refine bodyPost_ret (v := wtV x) (by simp [results, Tryd.results31, go_sem, wtV]) rfl ⟨rfl, ?_⟩
    repeat (first | exact Below.refl _ _ | (refine Below.setCell ?_ (by simp) _) | (refine Below.alloc ?_ (by simp) _))
theorem ownsRow_below {w w' : World} {base : Nat} {e : TypeId} {size : Nat} {v : Value} {n : Nat} {xs : List Value} (h : w.ownsRow base e size v n xs) (hb : Below w.heap.size w w') : w'.ownsRow base e size v n xs := by
  exact h.kept (row := none) ⟨hb.os, hb.tape, hb.output, hb.size, fun k hk _ => hb.block k hk⟩ (by cases v.ownBlock <;> simp)
/-- What the closure of Key has captured, but for the key. -/
structure KeyEnv (w : World) (Bs Bt Bk p : Nat) (s : ByteArray) (T : Tb) : Prop where
  bs : Boxed w Bs 9 (.string s)
  bt : Boxed w Bt 24 (.pointer (some ⟨p, 0, none⟩))
  tb : BlockIn Bk w p T
  s_lt : Bs < Bk
  t_lt : Bt < Bk
theorem KeyEnv.kept {w w' : World} {Bs Bt Bk p : Nat} {s : ByteArray} {T : Tb} (h : KeyEnv w Bs Bt Bk p s T) (hb : Below Bk w w') : KeyEnv w' Bs Bt Bk p s T :=
  ⟨(hb.block Bs h.s_lt).trans h.bs, (hb.block Bt h.t_lt).trans h.bt, h.tb.kept hb, h.s_lt, h.t_lt⟩
/-- The box of the key, and its row. -/
def KeyIs (w : World) (Bk : Nat) (xs : List UInt8) : Prop :=
  ∃ v, Boxed w Bk 33 v ∧ w.ownsRow (Bk + 1) 5 1 v xs.length (byteCellsOf xs)
theorem KeyIs.alloc {w : World} {Bk : Nat} {xs : List UInt8} (h : KeyIs w Bk xs) (o : Obj) : KeyIs (w.alloc o) Bk xs := by
  obtain ⟨v, h1, h2⟩ := h
  exact ⟨v, h1.alloc o, h2.alloc o⟩
theorem KeyIs.iterAt {w : World} {Bk k : Nat} {xs : List UInt8} (h : KeyIs w Bk xs) {s : ByteArray} {pos : Nat} (hit : w.heap[k]? = some (.stringIter s pos)) (q : Nat) : KeyIs (w.iterAt k s q) Bk xs := by
  obtain ⟨v, h1, h2⟩ := h
  refine ⟨v, ?_, own_iterAt h2 hit q⟩
  have hne : Bk ≠ k := fun e => by subst e; rw [show w.heap[Bk]? = _ from h1] at hit; cases hit
  exact (Lib.iterAt_other w k Bk s q hne).trans h1
theorem KeyIs.below {w w' : World} {Bk : Nat} {xs : List UInt8} (h : KeyIs w Bk xs) (hb : Below w.heap.size w w') : KeyIs w' Bk xs := by
  obtain ⟨v, h1, h2⟩ := h
  refine ⟨v, (hb.block Bk h1.lt).trans h1, ownsRow_below h2 hb⟩
theorem levelL_snoc (T : Tb) (lv : Nat) (cs : List Nat) (c : Nat) : levelL T lv (cs ++ [c]) = levelL T lv cs ++ (if wtOf T c = (0, 0, 0) then [] else three (wtAt (wtOf T c) lv)) := by
  unfold levelL; rw [List.flatMap_append]; simp
theorem levelL_len (T : Tb) (lv : Nat) (cs : List Nat) : (levelL T lv cs).length ≤ 3 * cs.length := by
  induction cs with
  | nil => simp [levelL]
  | cons c cs ih =>
    unfold levelL at ih ⊢
    rw [List.flatMap_cons, List.length_append, List.length_cons]
    split <;> simp [three_len] at ih ⊢ <;> omega
def TabSmall (T : Tb) : Prop := T.last ≤ 1000000 ∧ T.str ≤ 3 ∧ ∀ c x, lookL T.tab c = some x → x.1 ≤ 1000000 ∧ x.2.1 ≤ 1000000 ∧ x.2.2 ≤ 1000000
theorem TabSmall.wt {T : Tb} (h : TabSmall T) (c : Nat) (hc : c ≤ 1114111) : (wtOf T c).1 ≤ 3000000 ∧ (wtOf T c).2.1 ≤ 3000000 ∧ (wtOf T c).2.2 ≤ 3000000 := by
  unfold wtOf
  cases hx : lookL T.tab c with
  | none => have := h.1; simp only; omega
  | some x => have := h.2.2 c x hx; simp only; omega
set_option maxHeartbeats 4000000 in
set_option maxRecDepth 100000 in
theorem write_any (lv : Nat) (hlv : lv ≤ 2) (Bs Bt Bk p : Nat) (s : ByteArray) (T : Tb) (w : World) (E : KeyEnv w Bs Bt Bk p s T) (xs : List UInt8) (hk : KeyIs w Bk xs) (hT : TabSmall T) (hs : s.size ≤ 1000000) (hx : xs.length ≤ 100000000) :
    Calls Tryd.prog 30 #[.int .i64 lv, .pointer (some ⟨Bs, 0, none⟩), .pointer (some ⟨Bt, 0, none⟩), .pointer (some ⟨Bk, 0, none⟩)] w fun e w' => e = .returned (.tuple #[]) ∧ Below Bk w w' ∧ KeyIs w' Bk (xs ++ levelL T lv (codes s.data.toList)) := by
  have cs := E.bs.cell
  have HS := Lib.hid (show codes s.data.toList = [] ++ (steps (s.data.toList.drop 0)).map Prod.fst by rw [List.drop_zero]; rfl)
  obtain ⟨C, hC⟩ : ∃ C, codes s.data.toList = C := ⟨_, rfl⟩
  rw [hC] at HS ⊢
  clear hC
  have hkB : Bk < w.heap.size := by obtain ⟨v, h, _⟩ := hk; exact h.lt
  go_enter Tryd.func30, Tryd.ntmps30
  go_wp2
  go_loopg [] s.size (fun g wx => ∃ (pos : Nat) (acc : List Nat), KeyIs wx Bk (xs ++ levelL T lv acc) ∧ wx.heap[w.heap.size]? = some (.stringIter s pos) ∧ Below Bk w wx ∧
      C = acc ++ (steps (s.data.toList.drop pos)).map Prod.fst ∧ s.size ≤ pos + g ∧ acc.length ≤ pos ∧ pos ≤ s.size)
  case atStart => exact ⟨0, [], by rw [show levelL T lv [] = [] from rfl, List.append_nil]; exact hk.alloc _, World.iter_heap w s 0, (Below.refl _ _).alloc (by omega) _, HS.out, by omega, Nat.le_refl _, Nat.zero_le _⟩
  case round =>
    clear HS hk cs
    obtain ⟨pos, acc, hk, hit, hbw, hc, hgf, hal, hps⟩ := hrel
    by_cases hlt : pos < s.size
    · obtain ⟨g, rfl⟩ : ∃ g, gk = g + 1 := ⟨gk - 1, by omega⟩
      have hnx : ∀ ty, (Instr.next (.pointer (some ⟨w.heap.size, 0, none⟩)) true ty).run Tryd.prog wr = _ := fun ty => Lib.run_next_any_at wr w.heap.size s pos ty hit hlt
      have hw := width_pos s pos
      have hwn : pos + (Utf8.decode s pos).2 ≤ s.size := by
        have := decodeN_le_n' (s.size - pos) (s.get! pos).toNat (s.get! (pos + 1)).toNat (s.get! (pos + 2)).toNat (s.get! (pos + 3)).toNat (by omega)
        rw [← decode_at] at this
        omega
      have hrl := rune_le s pos
      rw [steps_at s pos hlt, List.map_cons] at hc
      obtain ⟨R, hR⟩ : ∃ R, (Utf8.decode s pos).1 = R := ⟨_, rfl⟩
      obtain ⟨K, hK⟩ : ∃ K, (Utf8.decode s pos).2 = K := ⟨_, rfl⟩
      rw [hR, hK] at hnx
      rw [hR, hK] at hc
      rw [hR] at hrl
      rw [hK] at hw hwn
      clear hR hK
      have Hc := Lib.hid hc
      clear hc
      have hit2 := Lib.iterAt_heap wr w.heap.size s pos (pos + K) hit
      have hbw2 := Lib.below_iterAt hbw (k := w.heap.size) (by omega) s (pos + K)
      have hk2 := hk.iterAt hit (pos + K)
      obtain ⟨W, hWd⟩ : ∃ W, wr.iterAt w.heap.size s (pos + K) = W := ⟨_, rfl⟩
      rw [hWd] at hnx hit2 hbw2 hk2
      have hITW : w.heap.size < W.heap.size := (Array.getElem?_eq_some_iff.1 hit2).1
      have E2 := E.kept hbw2
      clear hWd hk hit hbw
      have hsm := hT.wt R (by omega)
      obtain ⟨⟨x1, x2, x3⟩, hx⟩ : ∃ x, wtOf T R = x := ⟨_, rfl⟩
      have Hx := Lib.hid hx
      have cW : Calls Tryd.prog 31 #[.pointer (some ⟨p, 0, none⟩), .int .i32 (R : Int)] W fun e w' => e = .returned (.agg #[.int .i64 (x1 : Int), .int .i64 (x2 : Int), .int .i64 (x3 : Int)]) ∧ Below W.heap.size W w' := by
        have := weigh_any Bk T p R W E2.tb (by omega) (by have := hT.1; omega)
        rw [hx] at this; exact this
      rw [hx] at hsm
      simp only at hsm
      clear hx
      have cI := fun W => ignored_any W
      unfold wtV at cI
      have b2 := E2.bt.cell
      go_wp2_with (go_at_call 31; refine cW.mono ?_; rintro e w1 ⟨rfl, hb1⟩)
      have hb1s := hb1.size
      have hkW : Below Bk w w1 := hbw2.trans (hb1.mono (by omega))
      have hk3 : KeyIs w1 Bk (xs ++ levelL T lv acc) := hk2.below hb1
      have hit3 : w1.heap[w.heap.size]? = some (.stringIter s (pos + K)) := (hb1.block _ hITW).trans hit2
      clear cW hk2 hit2 hb1 E2 b2 hnx
      obtain ⟨v, hv1, hv2⟩ := hk3
      have hvl := hv1.lt
      have hvb : ∀ k, v.ownBlock = some k → k < w1.heap.size := fun k hk => (hv2.lt k hk).2
      obtain ⟨W1, hW1⟩ : ∃ W1, w1.alloc (.cells #[.int .i64 (x1 : Int), .int .i64 (x2 : Int), .int .i64 (x3 : Int)] 64) = W1 := ⟨_, rfl⟩
      have y0 : W1.cell? ⟨w1.heap.size, 0, none⟩ = some (.int .i64 (x1 : Int)) := by rw [← hW1, cell_of_row _ w1.heap.size 0 _ _ (0, 0) (heap_alloc_new w1 _)]; rfl
      have y1 : W1.cell? ⟨w1.heap.size, 1, none⟩ = some (.int .i64 (x2 : Int)) := by rw [← hW1, cell_of_row _ w1.heap.size 1 _ _ (0, 0) (heap_alloc_new w1 _)]; rfl
      have y2 : W1.cell? ⟨w1.heap.size, 2, none⟩ = some (.int .i64 (x3 : Int)) := by rw [← hW1, cell_of_row _ w1.heap.size 2 _ _ (0, 0) (heap_alloc_new w1 _)]; rfl
      have hsz : w1.heap.size < W1.heap.size := by rw [← hW1]; simp
      have hv1' : Boxed W1 Bk 33 v := by rw [← hW1]; exact hv1.alloc _
      have hv2' : W1.ownsRow (Bk + 1) 5 1 v (xs ++ levelL T lv acc).length (byteCellsOf (xs ++ levelL T lv acc)) := by rw [← hW1]; exact hv2.alloc _
      have hit4 : W1.heap[w.heap.size]? = some (.stringIter s (pos + K)) := by rw [← hW1]; exact (Below.heap_alloc _ _ _ (by omega)).trans hit3
      have hkW1 : Below Bk w W1 := by rw [← hW1]; exact hkW.alloc (by omega) _
      rw [hW1]
      clear hW1 hv1 hv2 hit3 hkW
      have hq : ∀ W, (Op.equalIn 10000 64 (.agg #[.int .i64 (x1 : Int), .int .i64 (x2 : Int), .int .i64 (x3 : Int)]) (.agg #[.int .i64 0, .int .i64 0, .int .i64 0])).run Tryd.prog W = .ok (decide (((x1, x2, x3) : Wt) = (0, 0, 0))) W := fun W => eqIn_wt (x1, x2, x3) (0, 0, 0) W
      obtain ⟨q, hqd⟩ : ∃ q, decide (((x1, x2, x3) : Wt) = (0, 0, 0)) = q := ⟨_, rfl⟩
      rw [hqd] at hq
      have Hqd := Lib.hid hqd
      clear hqd
      go_region_held3 (fun w' => w'.cell? ⟨w1.heap.size, 0, none⟩ = some (.int .i64 (x1 : Int)) ∧ w'.cell? ⟨w1.heap.size, 1, none⟩ = some (.int .i64 (x2 : Int)) ∧ w'.cell? ⟨w1.heap.size, 2, none⟩ = some (.int .i64 (x3 : Int))) (first | exact ⟨y0, y1, y2⟩ | exact ⟨(hb3.cell (p := ⟨w1.heap.size, 0, none⟩) hsz).trans y0, (hb3.cell (p := ⟨w1.heap.size, 1, none⟩) hsz).trans y1, (hb3.cell (p := ⟨w1.heap.size, 2, none⟩) hsz).trans y2⟩) (first | (go_at_call 32; refine (cI _).mono ?_; rintro e w3 ⟨rfl, hb3⟩))
      have hb3' : Below W1.heap.size W1 w3 := (Below.refl _ W1).drew.trans hb3
      have hb3s := hb3'.size
      have hk5 : Below Bk w w3 := hkW1.trans (hb3'.mono (by omega))
      have hit5 : w3.heap[w.heap.size]? = some (.stringIter s (pos + K)) := (hb3'.block _ (by omega)).trans hit4
      have hv5 : Boxed w3 Bk 33 v := (hb3'.block Bk hv1'.lt).trans hv1'
      have ho5 := ownsRow_below hv2' hb3'
      cases q
      · have z2 : w3.cell? ⟨w1.heap.size, lv, none⟩ = some (.int .i64 ((wtAt (x1, x2, x3) lv : Nat) : Int)) := by
          refine (hb3'.cell (p := ⟨w1.heap.size, lv, none⟩) hsz).trans ?_
          rcases (show lv = 0 ∨ lv = 1 ∨ lv = 2 by omega) with rfl | rfl | rfl
          · exact y0
          · exact y1
          · exact y2
        have hn : wtAt (x1, x2, x3) lv ≤ 3000000 := by
          unfold wtAt; simp only; split
          · omega
          · split <;> omega
        have HL := Lib.hid (show levelL T lv (acc ++ [R]) = levelL T lv acc ++ three (wtAt (x1, x2, x3) lv) by
          rw [levelL_snoc, Hx.out, if_neg (of_decide_eq_false Hqd.out)])
        obtain ⟨n, hN⟩ : ∃ n, wtAt (x1, x2, x3) lv = n := ⟨_, rfl⟩
        rw [hN] at z2 hn HL
        clear hN y0 y1 y2 hq Hqd hsm
        have hll := levelL_len T lv acc
        have hl0 : (0 : Int) ≤ lv := by omega
        have hl3 : (lv : Int) < 3 := by omega
        have z0 := hv5.cell
        have f0 := hv5.frozen
        have hgsz : w1.heap.size < w3.heap.size := by omega
        have hB3 : Bk + 1 ≤ w3.heap.size := by omega
        obtain ⟨XS, hXS⟩ : ∃ XS, xs ++ levelL T lv acc = XS := ⟨_, rfl⟩
        have hXl : XS.length ≤ 200000000 := by rw [← hXS, List.length_append]; omega
        rw [hXS] at ho5
        have HXS := Lib.hid hXS
        clear hXS
        go_wp2_with fail
        have hneB : some Bk ≠ v.ownBlock := fun e => by have := (ho5.lt Bk e.symm).1; omega
        have hneC : some w1.heap.size ≠ v.ownBlock := fun e => by have := hvb _ e.symm; omega
        have HneB := Lib.hid hneB
        have HneC := Lib.hid hneC
        clear hneB hneC
        go_region_with (first | (go_at_call 33; refine (appendNumber_any (Bk + 1) v XS n _ (by exact hB3) (by exact ho5) (by omega) (by omega)).mono ?_; rintro e w4 ⟨v4, rfl, ho4, hg4, ha4⟩; obtain ⟨g4, cp4, rfl⟩ := ownsRow_succ (k := XS.length + 2) (by rw [List.length_append, three_len] at ho4; exact ho4); have z4 := hg4.cell z0 HneB.out; have f4 : w4.frozen? ⟨Bk, 0, none⟩ = false := (World.frozen?_of_block (a := ⟨Bk, 0, none⟩) (hg4.block Bk (by exact hv5.lt) HneB.out)).trans f0))
        all_goals
          go_wp2_with fail
          go_roundg g
          case measure => omega
          case rel =>
            have hv6 := (hv5.kept (W := w3.drew) hg4 HneB.out).set (.slice (some ⟨g4, 0, none⟩) (XS.length + 2 + 1) cp4)
            refine ⟨pos + K, acc ++ [R], ⟨_, hv6, ?_⟩, ?_, ?_, by rw [List.append_assoc]; exact Hc.out, by omega, by simp; omega, hwn⟩
            · rw [HL.out, ← List.append_assoc, HXS.out]
              exact ownsRow_setCell_below ho4 (by show Bk < Bk + 1; omega) _
            · exact (Below.heap_setCell _ _ _ _ (by show w.heap.size ≠ Bk; omega)).trans ((hg4.block w.heap.size (by show w.heap.size < w3.heap.size; omega) (own_ne_iter ho5 hit5)).trans hit5)
            · exact (hk5.drew.grown hg4 (by show Bk ≤ w3.heap.size; omega) (fun k hk => by have := (ho5.lt k hk).1; omega)).setCell (p := ⟨Bk, 0, none⟩) (Nat.le_refl _) _
      · have HL := Lib.hid (show levelL T lv (acc ++ [R]) = levelL T lv acc by
          rw [levelL_snoc, Hx.out, if_pos (of_decide_eq_true Hqd.out), List.append_nil])
        go_wp2_with fail
        go_roundg g
        case measure => omega
        case rel => exact ⟨pos + K, acc ++ [R], ⟨v, hv5, by rw [HL.out]; exact ho5⟩, hit5, hk5, by rw [List.append_assoc]; exact Hc.out, by omega, by simp; omega, hwn⟩
    · have hnx : ∀ ty, (Instr.next (.pointer (some ⟨w.heap.size, 0, none⟩)) true ty).run Tryd.prog wr = _ := fun ty => Lib.run_next_end_at wr w.heap.size s pos ty hit hlt
      rw [steps_end s pos hlt] at hc
      have hC : C = acc := by simpa using hc
      subst hC
      clear hc
      go_wp2
      go_end0
      exact ⟨rfl, hbw, hk⟩
end Go.Proofs.YtgjjmapfdijphaaDoor

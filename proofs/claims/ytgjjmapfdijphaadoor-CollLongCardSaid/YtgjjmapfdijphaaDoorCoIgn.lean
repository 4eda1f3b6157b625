/- The contract of (*coll.description).ignore. -/
import Derived.Test.YtgjjmapfdijphaaDoorCoSet
import Derived.RangeFuncBox
namespace Go.Proofs.YtgjjmapfdijphaaDoor
open Go.RowKit Go.Lib

theorem infoEnt : (Tryd.prog.info? 118).map (fun i => (i.zero, i.size, i.bytes)) = some (some (.agg #[.int .i32 0, .int .i64 0, .int .i64 0, .int .i64 0]), 4, 32) := by kernel_rfl
theorem new_four (w : World) (x y z u : Value) (t : TypeId) : ∀ (j : Nat) (v : Value), [x, y, z, u][j]? = some v → (w.alloc (.cells #[x, y, z, u] t)).cell? ((⟨w.heap.size, 0, none⟩ : Addr).add j) = some v := by
  intro j v hv
  have hadd : (⟨w.heap.size, 0, none⟩ : Addr).add j = ⟨w.heap.size, j, none⟩ := by unfold Addr.add; split <;> simp_all
  rw [hadd, cell_of_row _ w.heap.size _ _ _ (0, 0) (heap_alloc_new w _)]
  simpa using hv
theorem row_below {w w' : World} {base : Nat} {e : TypeId} {size : Nat} {v : Value} {n : Nat} {xs : List Value} (h : w.ownsRow base e size v n xs) (hb : Below w.heap.size w w') : w'.ownsRow base e size v n xs :=
  h.kept (row := none) ⟨hb.os, hb.tape, hb.output, hb.size, fun k hk _ => hb.block k hk⟩ (by cases v.ownBlock <;> simp)
def zeroEnts (cs : List Nat) : List (Nat × Wt) := cs.map fun c => (c, (0, 0, 0))
/-- What is still to come of the characters, behind those that have. -/
def behindL (done : List Nat) : Option (List Nat) → Option (List Nat)
  | none => none
  | some r => some (done ++ r)
def ignT (t : Option (List Nat)) (d : Ds) : Except Nat Ds := match t with
  | none => .error 5
  | some cs => keepD (zeroEnts cs) d
theorem ignoreD_T (ws : List (List UInt8)) (d : Ds) (h : ws ≠ []) : ignoreD ws d = ignT (charsL ws) d := by
  unfold ignoreD ignT zeroEnts
  rw [if_neg h]
  cases charsL ws <;> rfl
theorem charsL_cons (x : List UInt8) (r : List (List UInt8)) : charsL (x :: r) = match charL x with
    | none => none
    | some c => match charsL r with
      | none => none
      | some l => some (c :: l) := rfl
theorem charL_lt (x : List UInt8) (c : Nat) (h : charL x = some c) : c ≤ 1114111 := by
  unfold charL at h
  split at h
  · unfold numL at h
    split at h
    · cases h
    · split at h
      · split at h
        · rename_i hc
          cases h
          rw [chr_iff] at hc; omega
        · cases h
      · cases h
  · split at h
    · cases h
    · rename_i hn
      have h1 : lenL x = 1 := by
        rcases Nat.decEq (lenL x) 1 with h' | h'
        · exact absurd (.inr h') hn
        · exact h'
      obtain ⟨c', hc, ht, _⟩ := one_char x h1
      rw [hc] at h
      cases h
      have := text_chr x ht c (by rw [hc]; simp)
      rw [chr_iff] at this; omega
theorem KeepGives.behind {w a w' : World} {p mb : Nat} {r : Except Nat Ds} {e : Ending} (h : KeepGives a p mb r e w') (hb : Below w.heap.size w a) : KeepGives w p mb r e w' :=
  ⟨(Ch.of_below hb).trans h.1, h.2⟩
set_option maxHeartbeats 2000000 in
set_option maxRecDepth 100000 in
theorem ignore_any (p mb : Nat) (d : Ds) (v : Value) (ws : List (List UInt8)) (w : World) (hg : GrC w) (hd : DsAt w p mb d) (hv : StrsAt w v ws) (hl : ws.length ≤ 1500000) (hsz : ∀ x ∈ ws, x.length ≤ 4000000) (htab : d.tab.length ≤ 5000) :
    Calls Tryd.prog 51 #[.pointer (some ⟨p, 0, none⟩), v] w (KeepGives w p mb (ignoreD ws d)) := by
  obtain ⟨a, cap, rfl, hv⟩ := hv
  by_cases h0 : ws = []
  · subst h0
    rw [show ignoreD [] d = .error 5 from rfl]
    go_enter Tryd.func51, Tryd.ntmps51
    go_wp2_with fail
    go_ret
    exact ⟨Ch.refl _ _, rfl⟩
  · rw [ignoreD_T ws d h0]
    have hpos : 0 < ws.length := List.length_pos_iff.2 h0
    obtain ⟨A, off, rfl, hc⟩ := hv h0
    clear h0 hv
    obtain ⟨R, hR⟩ : ∃ R, ignT (charsL ws) d = R := ⟨_, rfl⟩
    rw [hR]
    have HR := Lib.hid (show ignT (behindL [] (charsL (ws.drop 0))) d = R by rw [List.drop_zero]; rw [← hR]; cases charsL ws <;> rfl)
    clear hR
    have q1 : ((ws.length : Int) == 0) = false := by rw [beq_eq_false_iff_ne]; omega
    obtain ⟨i0, hi, hz0, hz1, hz2⟩ := info_parts infoEnt
    have hdl := hd.lt
    go_enter Tryd.func51, Tryd.ntmps51
    go_wp2_with fail
    go_loopg [5, 15] ws.length (fun g s5 s15 wx => ∃ (i : Nat) (cs : List Nat), s15 = .int .i64 i ∧ i + g = ws.length ∧ cs.length = i ∧ wx.ownsRow w.heap.size 118 4 s5 cs.length (entCells (zeroEnts cs)) ∧ Below w.heap.size w wx ∧ Hid (ignT (behindL cs (charsL (ws.drop i))) d = R) ∧ (∀ c ∈ cs, c ≤ 1114111))
    case atStart => exact ⟨0, [], rfl, by omega, rfl, World.ownsRow_nil _ _ _ _, Below.refl _ _, HR, fun c hc => by cases hc⟩
    case round =>
      clear HR
      obtain ⟨i, cs, rfl, hig, hcl, hown, hbw, HK, hall⟩ := hrel
      by_cases hlt : i < ws.length
      · obtain ⟨g, rfl⟩ : ∃ g, gk = g + 1 := ⟨gk - 1, by omega⟩
        obtain ⟨x, hx⟩ : ∃ x, ws[i]? = some x := ⟨_, List.getElem?_eq_getElem hlt⟩
        have hxl := hsz x (List.mem_of_getElem? hx)
        have c0 := hc i x hx
        have cw := (hbw.cell (p := ⟨A, off + i, none⟩) (lt_of_cell c0)).trans c0
        have hdr : ws.drop i = x :: ws.drop (i + 1) := by
          rw [List.drop_eq_getElem_cons hlt]; congr 1
          rw [List.getElem?_eq_getElem hlt] at hx; exact Option.some.inj hx
        have hk := HK.out
        rw [hdr, charsL_cons] at hk
        have cC := character_any ⟨x.toArray⟩ wr (hg.later hbw) (by show x.toArray.size ≤ _; simpa using hxl)
        simp only at cC
        have hil : (i : Int) < (ws.length : Int) := by omega
        clear hdr hx c0 HK
        cases hch : charL x with
        | none =>
          rw [hch] at cC hk
          have hRe : R = .error 5 := hk.symm
          subst hRe
          clear hk hch
          simp only [chV] at cC
          go_wp2_with fail
          refine cC.mono ?_
          rintro e w1 ⟨rfl, hb1⟩
          go_wp2_with fail
          go_ret
          exact ⟨Ch.of_below (hbw.trans (hb1.mono hbw.size)), rfl⟩
        | some c =>
          have hcb := charL_lt x c hch
          rw [hch] at cC hk
          have hk2 : ignT (behindL (cs ++ [c]) (charsL (ws.drop (i + 1)))) d = R := by
            rw [← hk]
            simp only
            cases charsL (ws.drop (i + 1)) with
            | none => rfl
            | some r => simp [behindL]
          have HK2 := Lib.hid hk2
          clear hk hk2 hch
          simp only [chV] at cC
          go_wp2_with fail
          refine cC.mono ?_
          rintro e w1 ⟨rfl, hb1⟩
          have hbw1 := hbw.trans (hb1.mono hbw.size)
          have hown1 := row_below hown hb1
          have cI := ignored_any w1
          unfold wtV at cI
          clear cC hown cw
          go_wp2_with fail
          refine cI.mono ?_
          rintro e w2 ⟨rfl, hb2⟩
          have hbw2 := hbw1.trans (hb2.mono hbw1.size)
          have hown2 := row_below hown1 hb2
          clear cI hown1
          go_wp2_with (at_builtin; go_must (refine wpList_append_own_at _ rfl (.tmp 26) (.tmp 30) 114 rfl w.heap.size 118 i0 _ 4 32 Tryd.underlying114 hi hz0 hz1 hz2 rfl (by decide) _ _ _ rfl (hown2.alloc _) ⟨w2.heap.size, 0, none⟩ 1 1 [.int .i32 (c : Int), .int .i64 0, .int .i64 0, .int .i64 0] rfl rfl (new_four _ _ _ _ _ _) (by intro u hu; simp at hu; rcases hu with rfl | rfl <;> rfl) (by unfold maxLen; omega) (by omega) (by have := hbw2.size; simp; omega) ?_; intro v3 w3 hown3 hgrow3 hnil3 hat3))
          go_roundg g
          case measure => omega
          case rel =>
            refine ⟨i + 1, cs ++ [c], by go_num, by omega, by simp [hcl], ?_, ?_, HK2, fun y hy => ?_⟩
            · rw [List.length_append, show entCells (zeroEnts (cs ++ [c])) = entCells (zeroEnts cs) ++ [.int .i32 (c : Int), .int .i64 0, .int .i64 0, .int .i64 0] by unfold zeroEnts; rw [List.map_append, entCells_app]; rfl]
              exact hown3
            · exact (hbw2.alloc hbw2.size _).grown hgrow3 (by have := hbw2.size; simp; omega) (fun k hk => (hown2.lt k hk).1)
            · rcases List.mem_append.1 hy with h | h
              · exact hall y h
              · simp at h; subst h; exact hcb
      · obtain rfl : gk = 0 := by omega
        subst hcl
        have hk := HK.out
        rw [List.drop_eq_nil_of_le (by omega)] at hk
        have hRe : R = keepD (zeroEnts cs) d := by rw [← hk]; show keepD (zeroEnts (cs ++ [])) d = _; rw [List.append_nil]
        subst hRe
        have hil : ¬ (cs.length : Int) < (ws.length : Int) := by omega
        have hdw := hd.below hbw
        obtain ⟨vg, vc, rfl⟩ := ownsRow_succ (k := cs.length - 1) (by rw [show cs.length - 1 + 1 = cs.length by omega]; exact hown)
        rw [show cs.length - 1 + 1 = cs.length by omega] at hown
        have hvg := (hown.lt vg rfl).1
        have cK := keep_some p mb d vg vc (zeroEnts cs) wr hdw (by omega) (by omega) (fun j u hu => by
          have hj := (List.getElem?_eq_some_iff.1 hu).1
          rw [entCells_len] at hj
          unfold zeroEnts at hj
          rw [List.length_map] at hj
          rw [hown.cellAt j hj]; exact hu) htab (by unfold zeroEnts; rw [List.length_map]; omega) (fun y hy => by
          unfold zeroEnts at hy
          obtain ⟨c, hc1, rfl⟩ := List.mem_map.1 hy
          exact hall c hc1)
        rw [show (zeroEnts cs).length = cs.length by unfold zeroEnts; exact List.length_map _] at cK
        rw [show cs.length - 1 + 1 = cs.length by omega]
        clear hk HK
        go_wp2_with fail
        refine cK.mono ?_
        rintro e w' hKG
        have hK2 := hKG.behind hbw
        have he : ∃ n : Nat, e = .returned (.int .i64 (n : Int)) := by
          have := hKG.2
          cases hr : keepD (zeroEnts cs) d with
          | ok d' => rw [hr] at this; exact ⟨0, this.1⟩
          | error k => rw [hr] at this; exact ⟨k, this⟩
        obtain ⟨n, rfl⟩ := he
        have HK3 := Lib.hid hK2
        clear hK2 hKG cK
        go_wp2_with fail
        go_ret
        exact HK3.out
end Go.Proofs.YtgjjmapfdijphaaDoor

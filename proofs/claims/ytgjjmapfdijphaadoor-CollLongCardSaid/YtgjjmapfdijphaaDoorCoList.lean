/- The contract of (*coll.description).list. -/
import Derived.Test.YtgjjmapfdijphaaDoorCoListI
namespace Go.Proofs.YtgjjmapfdijphaaDoor
open Go.RowKit Go.Lib Go.Shelf
attribute [local go_sem] Oper.semAt_some

set_option maxHeartbeats 4000000 in
set_option maxRecDepth 100000 in
theorem list_any (p mb : Nat) (d : Ds) (v : Value) (ws : List (List UInt8)) (w w0 : World) (hg : GrC w0) (hb0 : Below w0.heap.size w0 w) (hp0 : w0.heap.size ≤ p ∧ w0.heap.size ≤ mb) (hd : DsAt w p mb d) (hv : StrsAt w v ws) (hne : ws ≠ []) (hl : ws.length ≤ 1100000) (hsz : ∀ x ∈ ws, x.length ≤ 4000000) (htab : d.tab.length ≤ 5000)
    (hM : d.last.1 ≤ 10000000 ∧ d.last.2.1 ≤ 10000000 ∧ d.last.2.2 ≤ 10000000) :
    Calls Tryd.prog 52 #[.pointer (some ⟨p, 0, none⟩), v] w (KeepGives w p mb (listD ws d)) := by
  obtain ⟨A2, o2, c2, rfl, hvc⟩ := hv.cells hne
  refine (callsIn_wide (n := 8)).1 ?_
  refine callsIn_of_wp_marks Tryd.func52 rfl trivial ?_ rfl
  simp only [Tryd.ntmps52, List.size_toArray, List.length_cons, List.length_nil, Nat.reduceAdd, Nat.reduceSub, Array.replicate_succ, Array.replicate_zero, List.push_toArray, List.append_toArray, List.nil_append, List.cons_append]
  have cC := concat_here A2 o2 c2 ws w (.cells #[.pointer (some ⟨p, 0, none⟩)] 62) (.cells #[.int .i64 0] 29) (.cells #[.slice none 0 0] 114)
  obtain ⟨W3, hW3⟩ : ∃ W3, ((w.alloc (.cells #[.pointer (some ⟨p, 0, none⟩)] 62)).alloc (.cells #[.int .i64 0] 29)).alloc (.cells #[.slice none 0 0] 114) = W3 := ⟨_, rfl⟩
  simp only [hW3] at cC
  have hz3 : W3.heap.size = w.heap.size + 3 := by rw [← hW3]; simp
  have b2 : Boxed W3 w.heap.size 62 (.pointer (some ⟨p, 0, none⟩)) := by
    rw [← hW3]; exact ((Boxed.new w _ _).alloc _).alloc _
  have b4 : Boxed W3 (w.heap.size + 1) 29 (.int .i64 0) := by
    rw [← hW3]; exact (by simpa using Boxed.new (w.alloc (.cells #[.pointer (some ⟨p, 0, none⟩)] 62)) 29 (.int .i64 0) : Boxed _ (w.heap.size + 1) _ _).alloc _
  have b5 : Boxed W3 (w.heap.size + 2) 114 (.slice none 0 0) := by
    rw [← hW3]; exact (by simpa using Boxed.new ((w.alloc (.cells #[.pointer (some ⟨p, 0, none⟩)] 62)).alloc (.cells #[.int .i64 0] 29)) 114 (.slice none 0 0))
  have hb3 : Below w.heap.size w W3 := by rw [← hW3]; exact (((Below.refl _ w).alloc (Nat.le_refl _) _).alloc (by simp) _).alloc (by simp; omega) _
  have cC := fun t1 t2 => cC t1 t2 hl hvc
  clear hv
  gi_wp2_with (first | (refine ⟨trivial, ?_⟩; gi_at_call 73; refine (callsIn_wide.2 (cC _ _)).mono ?_; rintro e W4 ⟨A, cap, rfl, hc1, hc2, hA3, hA4, hcc, hb4⟩; clear cC hW3) | (refine ⟨trivial, ?_⟩; gi_at_call 72; refine (chunk_any _ _ _ _ W4).mono ?_; rintro e W5 ⟨rfl, hW5⟩))
  have hz4 := hb4.size
  have hb45 : Below W4.heap.size W4 W5 := by rw [hW5]; exact ((Below.refl _ W4).alloc (Nat.le_refl _) _).alloc (by simp) _
  have hz5 : W5.heap.size = W4.heap.size + 2 := by rw [hW5]; simp
  have bC : Boxed W5 W4.heap.size 60 (.slice (some ⟨A, 0, none⟩) (ws.length + 1) cap) := by rw [hW5]; exact (Boxed.new W4 _ _).alloc _
  have bN : Boxed W5 (W4.heap.size + 1) 3 (.int .i64 2) := by rw [hW5]; exact (by simpa using Boxed.new (W4.alloc (.cells #[.slice (some ⟨A, 0, none⟩) (ws.length + 1) cap] 60)) 3 (.int .i64 2))
  have hdl := hd.lt
  have hb5 : Below w.heap.size w W5 := (hb3.trans (hb4.mono (by omega))).trans (hb45.mono (by omega))
  have hb35 : Below W3.heap.size W3 W5 := (hb4.mono (by omega)).trans (hb45.mono (by omega))
  have e2 : Boxed W5 w.heap.size 62 (.pointer (some ⟨p, 0, none⟩)) := (hb35.block _ b2.lt).trans b2
  have e4 : Boxed W5 (w.heap.size + 1) 29 (.int .i64 0) := (hb35.block _ b4.lt).trans b4
  have e5 : Boxed W5 (w.heap.size + 2) 114 (.slice none 0 0) := (hb35.block _ b5.lt).trans b5
  have ecc : ∀ (j : Nat) x, ([60] :: ws)[j]? = some x → W5.cell? ⟨A, 0 + j, none⟩ = some (.string ⟨x.toArray⟩) := cells_later hcc hb45
  have hseq : SeqRuns Fence.wide 7 Tryd.prog 86 #[.pointer (some ⟨W4.heap.size, 0, none⟩), .pointer (some ⟨W4.heap.size + 1, 0, none⟩)] (fun x : Nat => #[pieceV A (ws.length + 1) x]) Draws (Kept2 W4.heap.size (W4.heap.size + 1))
      (fun pre x => x = 2 * pre.length ∧ x < ws.length + 1) (fun ys => ws.length + 1 ≤ 2 * ys.length) (fun _ => True) W5 := fun l J Jx W hW hJ _ hY h0 =>
    chunk1_in Fence.wide 7 trivial rfl (by omega) l _ _ A (ws.length + 1) cap (by omega) (by omega) (by unfold maxLen at hc2; omega) J Jx hJ hY W ((hW.block _ bC.lt).trans bC) ((hW.block _ bN.lt).trans bN) h0
  obtain ⟨ANS, hANS⟩ : ∃ R, listGo d.last [] ([60] :: ws) = R := ⟨_, rfl⟩
  have HLD := Lib.hid (show listD ws d = listT ANS d by rw [listD_T, hANS])
  rw [← hW5]
  clear b2 b4 b5 hcc hb3 hb4 hc1 hc2 hb45 hW5 bC bN
  have HA := Lib.hid hANS
  clear hANS
  have h0 : LI W5.heap.size p mb w.heap.size (w.heap.size + 1) (w.heap.size + 2) A d ([60] :: ws) w 0 d.last [] W5 :=
    ⟨hd.below hb5, ⟨_, e5, World.ownsRow_nil _ _ _ _⟩, e2, e4, ecc, Ch.of_below hb5, by omega⟩
  have hwB : w.heap.size ≤ W5.heap.size := hb5.size
  refine wpIn_rangeFunc_runs rfl (by omega) (gf := 86) rfl trivial (enters_of Tryd.func86 (by kernel_rfl) rfl) hseq (fun h k => h.trans k) ?kb ?ab (fun _ => rfl)
    (ListI W5.heap.size p mb w.heap.size A W4.heap.size d ([60] :: ws) w ANS)
    (ListX W5.heap.size p mb w.heap.size A d ([60] :: ws) w ANS)
    ?own ?ownx ?ia ?ixa ⟨d.last, [], by simpa using HA, rfl, ⟨by simp, by simpa using hM⟩, (fun x h => by cases h), h0, by omega⟩
    (fun x : Nat => { tmps := #[.pointer (some ⟨p, 0, none⟩), .slice (some ⟨A2, o2, none⟩) ws.length c2, .pointer (some ⟨w.heap.size, 0, none⟩), undef, .pointer (some ⟨w.heap.size + 1, 0, none⟩), .pointer (some ⟨w.heap.size + 1 + 1, 0, none⟩), pieceV A (ws.length + 1) x, undef, undef, undef, undef, .slice (some ⟨w.heap.size + 3, 0, none⟩) 1 1, .slice (some ⟨A2, o2, none⟩) ws.length c2, .slice (some ⟨w.heap.size + 3 + 1, 0, none⟩) 2 2, .slice (some ⟨A, 0, none⟩) (ws.length + 1) cap, .func (.func 86) #[] #[.pointer (some ⟨W4.heap.size, 0, none⟩), .pointer (some ⟨W4.heap.size + 1, 0, none⟩)], pieceV A (ws.length + 1) x, undef, undef, undef, undef, undef, undef, undef, undef, undef, undef, undef, undef, undef, undef, undef, undef, undef, undef, undef, undef, undef, undef, undef, undef, undef, undef, undef, undef, undef, undef, undef, undef, undef, undef, undef, undef, undef, undef, undef, undef, undef, undef, undef, undef], defers := [] })
    ?assign ?body ?done ?stop
  case kb =>
    intro W l o o' hB ho _ _
    have hl := (Array.getElem?_eq_some_iff.1 ho).1
    exact ⟨(grownBy_putObj' W l o').block _ (by omega) (by intro e; cases e; omega), (grownBy_putObj' W l o').block _ (by omega) (by intro e; cases e; omega)⟩
  case ab =>
    rintro X Y ⟨q, rfl⟩ k o _ ho _ _
    exact ho
  case own =>
    rintro s X Y row ⟨last, es, h1, h2, h3, h5, h4, h6⟩ hgr hr
    exact ⟨last, es, h1, h2, h3, h5, h4.other hwB (R := fun k => row = some k) (Ch.of_grown hgr (fun k e => e)) (fun k e => hr k e), h6⟩
  case ownx =>
    rintro c s X Y row ⟨rfl, h1, last, es, h4⟩ hgr hr
    exact ⟨rfl, h1, last, es, h4.other hwB (R := fun k => row = some k) (Ch.of_grown hgr (fun k e => e)) (fun k e => hr k e)⟩
  case ia =>
    rintro s X Y ⟨last, es, h1, h2, h3, h5, h4, h6⟩ ⟨q, rfl⟩
    exact ⟨last, es, h1, h2, h3, h5, h4.other hwB (R := fun _ => False) ⟨rfl, rfl, rfl, Nat.le_refl _, fun _ _ _ => rfl⟩ (fun _ h => h.elim), h6⟩
  case ixa =>
    rintro c s X Y ⟨rfl, h1, last, es, h4⟩ ⟨q, rfl⟩
    exact ⟨rfl, h1, last, es, h4.other hwB (R := fun _ => False) ⟨rfl, rfl, rfl, Nat.le_refl _, fun _ _ _ => rfl⟩ (fun _ h => h.elim)⟩
  case assign =>
    intro l x W K hK
    gi_wp2
    exact hK
  case body =>
    rintro l pre x W ⟨hx0, hxl⟩ ⟨last, es, HK, hel, hbd, hch, hL, hc1B⟩ hlt
    rw [show (([60] : List UInt8) :: ws).length = ws.length + 1 from rfl] at hbd
    have c1 := hL.bx.cell
    have c4 := hL.res.cell
    have f4 := hL.res.frozen
    have hB := hL.B
    have hret : ∀ W', LI W5.heap.size p mb w.heap.size (w.heap.size + 1) (w.heap.size + 2) A d ([60] :: ws) w 0 last es W' → KeepsFrom W5.heap.size W W' → ANS = none → ownPostG W5.heap.size (Kept2 W4.heap.size (W4.heap.size + 1)) 
        (ListI W5.heap.size p mb w.heap.size A W4.heap.size d ([60] :: ws) w ANS)
        (ListX W5.heap.size p mb w.heap.size A d ([60] :: ws) w ANS) (pre ++ [x]) W .ret { tmps := #[], defers := [] } (W'.setCell ⟨w.heap.size + 1, 0, none⟩ (.int .i64 5)) := by
      intro W' hL' hk hA
      exact ⟨hk.trans (KeepsFrom.of_grownBy (grownBy_setCell' _ _ _) (fun j e => by cases e; omega)), rfl, hA, last, es, hL'.ret 5⟩
    clear h0
    by_cases h2 : x + 1 < ws.length + 1
    · have hp : pieceV A (ws.length + 1) x = .slice (some ⟨A, x, none⟩) 2 2 := by unfold pieceV; rw [show min 2 (ws.length + 1 - x) = 2 by omega]
      rw [hp]
      obtain ⟨s, t, hs, ht, hdr⟩ := drop_two ([60] :: ws) x (by simpa using h2)
      have hk := HK.out
      rw [← hx0, hdr, listGo_two] at hk
      have g0 := hL.cc x s hs
      have g1 := hL.cc (x + 1) t ht
      rw [Nat.zero_add] at g0 g1
      have hgW : GrC W := hg.later (hb0.trans (hL.ch.below hb0.size (fun k hk => by omega)))
      have htl : t.length ≤ 4000000 := hsz t (List.mem_of_getElem? (show ws[x]? = some t from ht))
      have cS := levelOf_any ⟨s.toArray⟩ W
      have cX := character_any ⟨t.toArray⟩ W hgW (by show t.toArray.size ≤ _; simpa using htl)
      simp only at cS cX
      have HX := Lib.hid hx0
      have HE := Lib.hid hel
      clear hp hdr hs ht HK hvc hsz hx0 hel
      cases hsg : signL s with
      | none =>
        rw [hsg] at cS hk
        have hA2 : ANS = none := hk.symm
        simp only [sgV] at cS
        clear hk
        cases hcc : charL t with
        | none =>
          rw [hcc] at cX
          simp only [chV] at cX
          gi_wp2_with (first | (refine ⟨trivial, ?_⟩; gi_at_call 74; refine (CallsIn.inRound l (callsIn_wide.2 cS)).mono ?_; rintro e W6 ⟨rfl, rfl⟩) | (refine ⟨trivial, ?_⟩; gi_at_call 70; refine (CallsIn.inRound l (callsIn_wide.2 cX)).mono ?_; rintro e W6 ⟨rfl, hb6⟩; have hR := hret W6 (hL.later hwB hb6) (keepsFrom_below hb6) hA2; have HR := Lib.hid hR; have d4 := (hL.later hwB hb6).res.cell; have f4 := (hL.later hwB hb6).res.frozen; clear hR hret))
          exact HR.out
        | some ch =>
          rw [hcc] at cX
          simp only [chV] at cX
          gi_wp2_with (first | (refine ⟨trivial, ?_⟩; gi_at_call 74; refine (CallsIn.inRound l (callsIn_wide.2 cS)).mono ?_; rintro e W6 ⟨rfl, rfl⟩) | (refine ⟨trivial, ?_⟩; gi_at_call 70; refine (CallsIn.inRound l (callsIn_wide.2 cX)).mono ?_; rintro e W6 ⟨rfl, hb6⟩; have hR := hret W6 (hL.later hwB hb6) (keepsFrom_below hb6) hA2; have HR := Lib.hid hR; have d4 := (hL.later hwB hb6).res.cell; have f4 := (hL.later hwB hb6).res.frozen; clear hR hret))
          exact HR.out
      | some lv =>
        rw [hsg] at cS hk
        simp only [sgV] at cS
        cases hcc : charL t with
        | none =>
          rw [hcc] at cX hk
          have hA2 : ANS = none := hk.symm
          simp only [chV] at cX
          clear hk
          gi_wp2_with (first | (refine ⟨trivial, ?_⟩; gi_at_call 74; refine (CallsIn.inRound l (callsIn_wide.2 cS)).mono ?_; rintro e W6 ⟨rfl, rfl⟩) | (refine ⟨trivial, ?_⟩; gi_at_call 70; refine (CallsIn.inRound l (callsIn_wide.2 cX)).mono ?_; rintro e W6 ⟨rfl, hb6⟩; have hR := hret W6 (hL.later hwB hb6) (keepsFrom_below hb6) hA2; have HR := Lib.hid hR; have d4 := (hL.later hwB hb6).res.cell; have f4 := (hL.later hwB hb6).res.frozen; clear hR hret))
          exact HR.out
        | some ch =>
          rw [hcc] at cX hk
          simp only at hk
          simp only [chV] at cX
          have HK2 := Lib.hid hk
          have hlv := signL_le s lv hsg
          have hcb := charL_lt t ch hcc
          obtain ⟨a, b, c⟩ := last
          simp only at hbd
          clear hk hret
          gi_wp2_with (first | (refine ⟨trivial, ?_⟩; gi_at_call 74; refine (CallsIn.inRound l (callsIn_wide.2 cS)).mono ?_; rintro e W6 ⟨rfl, rfl⟩) | (refine ⟨trivial, ?_⟩; gi_at_call 70; refine (CallsIn.inRound l (callsIn_wide.2 cX)).mono ?_; rintro e W6 ⟨rfl, hb6⟩))
          have hL6 := hL.later hwB hb6
          have cN := next_any (a, b, c) lv hlv (by simp only; omega) (by simp only; omega) (by simp only; omega) W6.drew
          obtain ⟨a', b', c', hnx⟩ : ∃ a' b' c', wtNext (a, b, c) lv = (a', b', c') := ⟨_, _, _, rfl⟩
          rw [hnx] at cN
          have HN := Lib.hid hnx
          clear hnx
          unfold wtV at cN
          have b1 := hL6.bx.cell
          obtain ⟨d0, d1, d2, d3, d4, d5⟩ := hL6.ds.cells
          simp only at d1 d2 d3 cN
          have hmix : Tryd.prog.follows .mixedOrders = true := by kernel_rfl
          refine Code.wpIn_mono (Q := fun e ac wx => e = .normal ∧ ac = { tmps := #[.pointer (some ⟨p, 0, none⟩), .slice (some ⟨A2, o2, none⟩) ws.length c2, .pointer (some ⟨w.heap.size, 0, none⟩), undef, .pointer (some ⟨w.heap.size + 1, 0, none⟩), .pointer (some ⟨w.heap.size + 1 + 1, 0, none⟩), .slice (some ⟨A, x, none⟩) 2 2, .int .i64 lv, .bool true, .int .i32 ch, .bool true, .slice (some ⟨w.heap.size + 3, 0, none⟩) 1 1, .slice (some ⟨A2, o2, none⟩) ws.length c2, .slice (some ⟨w.heap.size + 3 + 1, 0, none⟩) 2 2, .slice (some ⟨A, 0, none⟩) (ws.length + 1) cap, .func (.func 86) #[] #[.pointer (some ⟨W4.heap.size, 0, none⟩), .pointer (some ⟨W4.heap.size + 1, 0, none⟩)], .slice (some ⟨A, x, none⟩) 2 2, .slice (some ⟨A, x, none⟩) 2 2, .int .i64 2, .bool false, .tuple #[.int .i64 lv, .bool true], .slice (some ⟨A, x, none⟩) 2 2, .pointer (some ⟨A, x, none⟩), .string ⟨s.toArray⟩, .tuple #[.int .i64 lv, .bool true], .int .i64 lv, .bool true, .tuple #[.int .i32 ch, .bool true], .slice (some ⟨A, x, none⟩) 2 2, .pointer (some ⟨A, x + 1, none⟩), .string ⟨t.toArray⟩, .tuple #[.int .i32 ch, .bool true], .int .i32 ch, .bool true, .bool true, .bool false, .bool false, .bool true, .bool false, .bool false, .pointer (some ⟨p, 0, none⟩), .pointer (some ⟨p, 0, none⟩), .pointer (some ⟨p, 0, none⟩), .pointer (some ⟨p, 1, none⟩), .agg #[.int .i64 a, .int .i64 b, .int .i64 c], .int .i64 lv, .agg #[.int .i64 a', .int .i64 b', .int .i64 c'], .pointer (some ⟨p, 0, none⟩), .pointer (some ⟨p, 1, none⟩), undef, undef, undef, undef, undef, undef, undef, undef, undef, undef, undef, undef], defers := [] } ∧ ∃ W7, Below W6.heap.size W6 W7 ∧ wx = ((W7.setCell ⟨p, 1, none⟩ (.int .i64 a')).setCell ⟨p, 2, none⟩ (.int .i64 b')).setCell ⟨p, 3, none⟩ (.int .i64 c')) ?after ?region
          case region =>
            gi_region_with_o (refine ⟨trivial, ?_⟩; gi_at_call 75; refine (CallsIn.inRound l (callsIn_wide.2 cN)).mono ?_; rintro e W7 ⟨rfl, hb7⟩; have hb67 : Below W6.heap.size W6 W7 := ((Below.refl _ W6).drew).trans hb7; have hL7 := hL6.later hwB hb67; obtain ⟨y0, y1, y2, y3, y4, y5⟩ := hL7.ds.cells; have b7 := hL7.bx.cell; simp only at y1 y2 y3)
            all_goals exact ⟨rfl, rfl, W7, hb67, rfl⟩
          case after =>
            rintro e ac wx ⟨rfl, rfl, W7, hb67, rfl⟩
            have hL7 := hL6.later hwB hb67
            clear cN d0 d1 d2 d3 d4 d5 b1
            gi_wp2
            obtain ⟨FIN, hFIN⟩ : ∃ FIN : World → Prop, FIN = fun WX => (KeepsFrom W5.heap.size W WX ∧ Kept2 W4.heap.size (W4.heap.size + 1) W WX ∧ ListI W5.heap.size p mb w.heap.size A W4.heap.size d ([60] :: ws) w ANS (pre ++ [x]) WX) := ⟨_, rfl⟩
            obtain ⟨W8, hW8⟩ : ∃ W8, ((W7.setCell ⟨p, 1, none⟩ (.int .i64 a')).setCell ⟨p, 2, none⟩ (.int .i64 b')).setCell ⟨p, 3, none⟩ (.int .i64 c') = W8 := ⟨_, rfl⟩
            have hL8 : LI W5.heap.size p mb w.heap.size (w.heap.size + 1) (w.heap.size + 2) A d ([60] :: ws) w 0 (a', b', c') es W8 := by rw [← hW8]; exact hL7.setLast a' b' c'
            rw [hW8]
            have hc78 : Ch (fun k => k = p) W7 W8 := by rw [← hW8]; exact Ch.setCell (p := ⟨p, 3, none⟩) (Ch.setCell (p := ⟨p, 2, none⟩) (Ch.setCell (p := ⟨p, 1, none⟩) (Ch.refl (fun k => k = p) W7) (.inl rfl) _) (.inl rfl) _) (.inl rfl) _
            have hch8 : Ch (fun k => k = p) W W8 := ((Ch.of_below hb6).trans (Ch.of_below hb67)).trans hc78
            clear hW8 hc78 hL7 hb67 hL6
            obtain ⟨v, hv, hrow⟩ := hL8.row
            have q1 := hL8.bx.cell
            have q2 := hv.cell
            obtain ⟨d0, d1, d2, d3, d4, d5⟩ := hL8.ds.cells
            simp only at d1 d2 d3
            have q3 : ∀ o, (W8.alloc o).drew.cell? ⟨w.heap.size + 2, 0, none⟩ = some v := fun o => ((hv.alloc o).cell : _)
            have hBW : W5.heap.size ≤ W8.heap.size := Nat.le_trans (Nat.le_of_lt hlt) hch8.size
            obtain ⟨i0, hi, hz0, hz1, hz2⟩ := info_parts infoEnt
            have hesl : es.length ≤ 1000002 := by have := HE.out; omega
            have hfin : ∀ (o : Obj) (v' : Value) (w' : World), w'.ownsRow W5.heap.size 118 4 v' (es.length + 1) (entCells es ++ [.int .i32 ch, .int .i64 a', .int .i64 b', .int .i64 c']) → (W8.drew.alloc o).grownBy w' v.ownBlock →
                w'.cell? ⟨w.heap.size + 2, 0, none⟩ = some v ∧ w'.frozen? ⟨w.heap.size + 2, 0, none⟩ = false ∧ FIN (w'.setCell ⟨w.heap.size + 2, 0, none⟩ v') := by
              intro o v' w' hown hgr
              have hL8d : LI W5.heap.size p mb w.heap.size (w.heap.size + 1) (w.heap.size + 2) A d ([60] :: ws) w 0 (a', b', c') es W8.drew := hL8.other hwB (R := fun _ => False) ⟨rfl, rfl, rfl, Nat.le_refl _, fun _ _ _ => rfl⟩ (fun _ h => h.elim)
              have hlen : (es ++ [(ch, (a', b', c'))]).length = es.length + 1 := by simp
              have hap := hL8d.app (v := v) (v' := v') (w1 := w') (o := o) (es' := es ++ [(ch, (a', b', c'))]) hv hrow (by rw [hlen, entCells_app]; exact hown) hgr
              have hv1 : Boxed w' (w.heap.size + 2) 114 v := (Boxed.alloc (show Boxed W8.drew _ _ v from hv) o).kept hgr (fun e => by have := (hrow.lt _ e.symm).1; omega)
              refine ⟨hv1.cell, hv1.frozen, ?_⟩
              rw [hFIN]
              have hown8 : ∀ k, v.ownBlock = some k → W5.heap.size ≤ k ∧ ∀ ob, W8.heap[k]? = some ob → ob.isCells = true := by
                intro k hk
                refine ⟨(hrow.lt k hk).1, fun ob hob => ?_⟩
                rcases hrow.2 with ⟨rfl, _⟩ | ⟨g, cap, cur, rfl, _, hgb, _⟩
                · simp [Value.ownBlock] at hk
                · obtain rfl : g = k := by simpa [Value.ownBlock] using hk
                  rw [hgb] at hob; cases hob; rfl
              refine ⟨⟨Nat.le_trans hch8.size hap.2.size, fun k ob hB5 hk hoc => ?_⟩, ?_, (a', b', c'), es ++ [(ch, (a', b', c'))], ?_, ?_, ?_, ?_, hap.1, hc1B⟩
              · have hkl := (Array.getElem?_eq_some_iff.1 hk).1
                have h8 : W8.heap[k]? = some ob := (hch8.block k hkl (by omega)).trans hk
                refine (hap.2.block k (Array.getElem?_eq_some_iff.1 h8).1 ?_).trans h8
                rintro (e | e)
                · omega
                · have := (hown8 k e).2 ob h8
                  rw [hoc] at this; cases this
              · have hk2 : ∀ k, k < W5.heap.size → k ≠ p → k ≠ w.heap.size + 2 → (w'.setCell ⟨w.heap.size + 2, 0, none⟩ v').heap[k]? = W.heap[k]? := fun k hk h1 h2 => by
                  refine (hap.2.block k (by show k < W8.heap.size; omega) ?_).trans (hch8.block k (by omega) h1)
                  rintro (e | e)
                  · omega
                  · have := (hown8 k e).1; omega
                exact ⟨hk2 _ (by omega) (by omega) (by omega), hk2 _ (by omega) (by omega) (by omega)⟩
              · refine Lib.hid ?_
                rw [← HK2.out, HN.out]
                rw [show 2 * (pre ++ [x]).length = x + 2 by rw [List.length_append, List.length_singleton, HX.out]; omega]
              · rw [hlen, HE.out]; simp
              · have hx' := HX.out
                have hnn := wtNext_le a b c lv a' b' c' (10000000 + pre.length) HN.out hbd.2.1 hbd.2.2.1 hbd.2.2.2
                rw [show (([60] : List UInt8) :: ws).length = ws.length + 1 from rfl, List.length_append, List.length_singleton]
                simp only
                omega
              · intro y hy
                rcases List.mem_append.1 hy with hy | hy
                · exact hch y hy
                · obtain rfl := List.mem_singleton.1 hy
                  exact hcb
            clear HX HE
            refine Code.wpIn_mono (Q := fun e _ wx => e = .normal ∧ FIN wx) ?after2 ?region2
            case after2 =>
              rintro e ac wx ⟨rfl, hF⟩
              rw [hFIN] at hF
              have HF := Lib.hid hF
              clear hF hFIN hfin hz5
              gi_wp2
              exact HF.out
            case region2 =>
              refine wpIn_region_any hmix (wpAny_round l _ (by rintro ⟨_, _, h, _⟩; cases h) (by rintro (_ | _ | _ | _ | _ | _ | _ | _ | _ | _ | i) o ho c hc <;> (first | (cases ho; cases hc) | cases ho)) _ _ _ _ ?_)
              clear hFIN hb6 hch8 hbd
              try (change wpAny _ _ _ _ _ _ _ (World.drew _))
              refine wpAny_take (i := 1) (v := .int .i32 ch) rfl (by kernel_rfl) (by kernel_rfl) (by kernel_rfl) (fun _ _ _ h => h) (Or.inl ⟨by rfl, ?_⟩) ?_
              · intro w; go_simp
              refine wpAny_ready (rs := [0, 2]) (by kernel_rfl) (by simp) (AllReady.cons rfl (fun K hK => ?_) (AllReady.cons rfl (fun K hK => ?_) AllReady.nil))
              · go_simp
                refine hK _ _ ?_
                clear hK K
                refine wpAny_ready (rs := [2]) (by kernel_rfl) (by simp) (AllReady.cons rfl (fun K hK => ?_) AllReady.nil)
                go_simp
                refine hK _ _ ?_
                clear hK K
                refine wpAny_ready (rs := [3]) (by kernel_rfl) (by simp) (AllReady.cons rfl (fun K hK => ?_) AllReady.nil)
                go_simp
                refine hK _ _ ?_
                clear hK K
                refine wpAny_ready (rs := [4]) (by kernel_rfl) (by simp) (AllReady.cons rfl (fun K hK => ?_) AllReady.nil)
                go_simp
                refine hK _ _ ?_
                clear hK K
                refine wpAny_ready (rs := [5]) (by kernel_rfl) (by simp) (AllReady.cons rfl (fun K hK => ?_) AllReady.nil)
                go_simp
                refine hK _ _ ?_
                clear hK K
                refine wpAny_ready (rs := [6]) (by kernel_rfl) (by simp) (AllReady.cons rfl (fun K hK => ?_) AllReady.nil)
                go_simp
                refine hK _ _ ?_
                clear hK K
                refine wpAny_ready (rs := [7]) (by kernel_rfl) (by simp) (AllReady.cons rfl (fun K hK => ?_) AllReady.nil)
                go_simp
                refine hK _ _ ?_
                clear hK K
                refine wpAny_ready (rs := [8]) (by kernel_rfl) (by simp) (AllReady.cons rfl (fun K hK => ?_) AllReady.nil)
                refine step_append_row rfl (.tmp 49) (.tmp 56) 114 rfl W5.heap.size 118 i0 _ 4 32 Tryd.underlying114 hi hz0 hz1 hz2 rfl (by decide) v es.length (entCells es) rfl (hrow.alloc _) ⟨W8.heap.size, 0, none⟩ 1 1 [.int .i32 ch, .int .i64 a', .int .i64 b', .int .i64 c'] rfl rfl (new_four _ _ _ _ _ _) (by simp [Value.oneCell']) (by unfold maxLen; omega) (by omega) (by simp; omega) ?_
                intro v' w' hown' hgrow' hat'
                obtain ⟨g', cp', rfl⟩ := ownsRow_succ hown'
                obtain ⟨k0, k1, k2⟩ := hfin _ _ _ hown' hgrow'
                refine hK _ _ ?_
                clear hK K
                refine wpAny_ready (rs := [9]) (by kernel_rfl) (by simp) (AllReady.cons rfl (fun K hK => ?_) AllReady.nil)
                go_simp
                refine hK _ _ ?_
                clear hK K
                refine wpAny_done (by kernel_rfl) ?_ _
                exact ⟨rfl, k2⟩
              · go_simp
                refine hK _ _ ?_
                clear hK K
                refine wpAny_ready (rs := [0, 3]) (by kernel_rfl) (by simp) (AllReady.cons rfl (fun K hK => ?_) (AllReady.cons rfl (fun K hK => ?_) AllReady.nil))
                · go_simp
                  refine hK _ _ ?_
                  clear hK K
                  refine wpAny_ready (rs := [3]) (by kernel_rfl) (by simp) (AllReady.cons rfl (fun K hK => ?_) AllReady.nil)
                  go_simp
                  refine hK _ _ ?_
                  clear hK K
                  refine wpAny_ready (rs := [4]) (by kernel_rfl) (by simp) (AllReady.cons rfl (fun K hK => ?_) AllReady.nil)
                  go_simp
                  refine hK _ _ ?_
                  clear hK K
                  refine wpAny_ready (rs := [5]) (by kernel_rfl) (by simp) (AllReady.cons rfl (fun K hK => ?_) AllReady.nil)
                  go_simp
                  refine hK _ _ ?_
                  clear hK K
                  refine wpAny_ready (rs := [6]) (by kernel_rfl) (by simp) (AllReady.cons rfl (fun K hK => ?_) AllReady.nil)
                  go_simp
                  refine hK _ _ ?_
                  clear hK K
                  refine wpAny_ready (rs := [7]) (by kernel_rfl) (by simp) (AllReady.cons rfl (fun K hK => ?_) AllReady.nil)
                  go_simp
                  refine hK _ _ ?_
                  clear hK K
                  refine wpAny_ready (rs := [8]) (by kernel_rfl) (by simp) (AllReady.cons rfl (fun K hK => ?_) AllReady.nil)
                  refine step_append_row rfl (.tmp 49) (.tmp 56) 114 rfl W5.heap.size 118 i0 _ 4 32 Tryd.underlying114 hi hz0 hz1 hz2 rfl (by decide) v es.length (entCells es) rfl (hrow.alloc _) ⟨W8.heap.size, 0, none⟩ 1 1 [.int .i32 ch, .int .i64 a', .int .i64 b', .int .i64 c'] rfl rfl (new_four _ _ _ _ _ _) (by simp [Value.oneCell']) (by unfold maxLen; omega) (by omega) (by simp; omega) ?_
                  intro v' w' hown' hgrow' hat'
                  obtain ⟨g', cp', rfl⟩ := ownsRow_succ hown'
                  obtain ⟨k0, k1, k2⟩ := hfin _ _ _ hown' hgrow'
                  refine hK _ _ ?_
                  clear hK K
                  refine wpAny_ready (rs := [9]) (by kernel_rfl) (by simp) (AllReady.cons rfl (fun K hK => ?_) AllReady.nil)
                  go_simp
                  refine hK _ _ ?_
                  clear hK K
                  refine wpAny_done (by kernel_rfl) ?_ _
                  exact ⟨rfl, k2⟩
                · go_simp
                  refine hK _ _ ?_
                  clear hK K
                  refine wpAny_ready (rs := [0, 4]) (by kernel_rfl) (by simp) (AllReady.cons rfl (fun K hK => ?_) (AllReady.cons rfl (fun K hK => ?_) AllReady.nil))
                  · go_simp
                    refine hK _ _ ?_
                    clear hK K
                    refine wpAny_ready (rs := [4]) (by kernel_rfl) (by simp) (AllReady.cons rfl (fun K hK => ?_) AllReady.nil)
                    go_simp
                    refine hK _ _ ?_
                    clear hK K
                    refine wpAny_ready (rs := [5]) (by kernel_rfl) (by simp) (AllReady.cons rfl (fun K hK => ?_) AllReady.nil)
                    go_simp
                    refine hK _ _ ?_
                    clear hK K
                    refine wpAny_ready (rs := [6]) (by kernel_rfl) (by simp) (AllReady.cons rfl (fun K hK => ?_) AllReady.nil)
                    go_simp
                    refine hK _ _ ?_
                    clear hK K
                    refine wpAny_ready (rs := [7]) (by kernel_rfl) (by simp) (AllReady.cons rfl (fun K hK => ?_) AllReady.nil)
                    go_simp
                    refine hK _ _ ?_
                    clear hK K
                    refine wpAny_ready (rs := [8]) (by kernel_rfl) (by simp) (AllReady.cons rfl (fun K hK => ?_) AllReady.nil)
                    refine step_append_row rfl (.tmp 49) (.tmp 56) 114 rfl W5.heap.size 118 i0 _ 4 32 Tryd.underlying114 hi hz0 hz1 hz2 rfl (by decide) v es.length (entCells es) rfl (hrow.alloc _) ⟨W8.heap.size, 0, none⟩ 1 1 [.int .i32 ch, .int .i64 a', .int .i64 b', .int .i64 c'] rfl rfl (new_four _ _ _ _ _ _) (by simp [Value.oneCell']) (by unfold maxLen; omega) (by omega) (by simp; omega) ?_
                    intro v' w' hown' hgrow' hat'
                    obtain ⟨g', cp', rfl⟩ := ownsRow_succ hown'
                    obtain ⟨k0, k1, k2⟩ := hfin _ _ _ hown' hgrow'
                    refine hK _ _ ?_
                    clear hK K
                    refine wpAny_ready (rs := [9]) (by kernel_rfl) (by simp) (AllReady.cons rfl (fun K hK => ?_) AllReady.nil)
                    go_simp
                    refine hK _ _ ?_
                    clear hK K
                    refine wpAny_done (by kernel_rfl) ?_ _
                    exact ⟨rfl, k2⟩
                  · go_simp
                    refine hK _ _ ?_
                    clear hK K
                    refine wpAny_ready (rs := [0, 5]) (by kernel_rfl) (by simp) (AllReady.cons rfl (fun K hK => ?_) (AllReady.cons rfl (fun K hK => ?_) AllReady.nil))
                    · go_simp
                      refine hK _ _ ?_
                      clear hK K
                      refine wpAny_ready (rs := [5]) (by kernel_rfl) (by simp) (AllReady.cons rfl (fun K hK => ?_) AllReady.nil)
                      go_simp
                      refine hK _ _ ?_
                      clear hK K
                      refine wpAny_ready (rs := [6]) (by kernel_rfl) (by simp) (AllReady.cons rfl (fun K hK => ?_) AllReady.nil)
                      go_simp
                      refine hK _ _ ?_
                      clear hK K
                      refine wpAny_ready (rs := [7]) (by kernel_rfl) (by simp) (AllReady.cons rfl (fun K hK => ?_) AllReady.nil)
                      go_simp
                      refine hK _ _ ?_
                      clear hK K
                      refine wpAny_ready (rs := [8]) (by kernel_rfl) (by simp) (AllReady.cons rfl (fun K hK => ?_) AllReady.nil)
                      refine step_append_row rfl (.tmp 49) (.tmp 56) 114 rfl W5.heap.size 118 i0 _ 4 32 Tryd.underlying114 hi hz0 hz1 hz2 rfl (by decide) v es.length (entCells es) rfl (hrow.alloc _) ⟨W8.heap.size, 0, none⟩ 1 1 [.int .i32 ch, .int .i64 a', .int .i64 b', .int .i64 c'] rfl rfl (new_four _ _ _ _ _ _) (by simp [Value.oneCell']) (by unfold maxLen; omega) (by omega) (by simp; omega) ?_
                      intro v' w' hown' hgrow' hat'
                      obtain ⟨g', cp', rfl⟩ := ownsRow_succ hown'
                      obtain ⟨k0, k1, k2⟩ := hfin _ _ _ hown' hgrow'
                      refine hK _ _ ?_
                      clear hK K
                      refine wpAny_ready (rs := [9]) (by kernel_rfl) (by simp) (AllReady.cons rfl (fun K hK => ?_) AllReady.nil)
                      go_simp
                      refine hK _ _ ?_
                      clear hK K
                      refine wpAny_done (by kernel_rfl) ?_ _
                      exact ⟨rfl, k2⟩
                    · go_simp
                      refine hK _ _ ?_
                      clear hK K
                      refine wpAny_ready (rs := [0, 6]) (by kernel_rfl) (by simp) (AllReady.cons rfl (fun K hK => ?_) (AllReady.cons rfl (fun K hK => ?_) AllReady.nil))
                      · go_simp
                        refine hK _ _ ?_
                        clear hK K
                        refine wpAny_ready (rs := [6]) (by kernel_rfl) (by simp) (AllReady.cons rfl (fun K hK => ?_) AllReady.nil)
                        go_simp
                        refine hK _ _ ?_
                        clear hK K
                        refine wpAny_ready (rs := [7]) (by kernel_rfl) (by simp) (AllReady.cons rfl (fun K hK => ?_) AllReady.nil)
                        go_simp
                        refine hK _ _ ?_
                        clear hK K
                        refine wpAny_ready (rs := [8]) (by kernel_rfl) (by simp) (AllReady.cons rfl (fun K hK => ?_) AllReady.nil)
                        refine step_append_row rfl (.tmp 49) (.tmp 56) 114 rfl W5.heap.size 118 i0 _ 4 32 Tryd.underlying114 hi hz0 hz1 hz2 rfl (by decide) v es.length (entCells es) rfl (hrow.alloc _) ⟨W8.heap.size, 0, none⟩ 1 1 [.int .i32 ch, .int .i64 a', .int .i64 b', .int .i64 c'] rfl rfl (new_four _ _ _ _ _ _) (by simp [Value.oneCell']) (by unfold maxLen; omega) (by omega) (by simp; omega) ?_
                        intro v' w' hown' hgrow' hat'
                        obtain ⟨g', cp', rfl⟩ := ownsRow_succ hown'
                        obtain ⟨k0, k1, k2⟩ := hfin _ _ _ hown' hgrow'
                        refine hK _ _ ?_
                        clear hK K
                        refine wpAny_ready (rs := [9]) (by kernel_rfl) (by simp) (AllReady.cons rfl (fun K hK => ?_) AllReady.nil)
                        go_simp
                        refine hK _ _ ?_
                        clear hK K
                        refine wpAny_done (by kernel_rfl) ?_ _
                        exact ⟨rfl, k2⟩
                      · go_simp
                        refine hK _ _ ?_
                        clear hK K
                        refine wpAny_ready (rs := [0, 7]) (by kernel_rfl) (by simp) (AllReady.cons rfl (fun K hK => ?_) (AllReady.cons rfl (fun K hK => ?_) AllReady.nil))
                        · go_simp
                          refine hK _ _ ?_
                          clear hK K
                          refine wpAny_ready (rs := [7]) (by kernel_rfl) (by simp) (AllReady.cons rfl (fun K hK => ?_) AllReady.nil)
                          go_simp
                          refine hK _ _ ?_
                          clear hK K
                          refine wpAny_ready (rs := [8]) (by kernel_rfl) (by simp) (AllReady.cons rfl (fun K hK => ?_) AllReady.nil)
                          refine step_append_row rfl (.tmp 49) (.tmp 56) 114 rfl W5.heap.size 118 i0 _ 4 32 Tryd.underlying114 hi hz0 hz1 hz2 rfl (by decide) v es.length (entCells es) rfl (hrow.alloc _) ⟨W8.heap.size, 0, none⟩ 1 1 [.int .i32 ch, .int .i64 a', .int .i64 b', .int .i64 c'] rfl rfl (new_four _ _ _ _ _ _) (by simp [Value.oneCell']) (by unfold maxLen; omega) (by omega) (by simp; omega) ?_
                          intro v' w' hown' hgrow' hat'
                          obtain ⟨g', cp', rfl⟩ := ownsRow_succ hown'
                          obtain ⟨k0, k1, k2⟩ := hfin _ _ _ hown' hgrow'
                          refine hK _ _ ?_
                          clear hK K
                          refine wpAny_ready (rs := [9]) (by kernel_rfl) (by simp) (AllReady.cons rfl (fun K hK => ?_) AllReady.nil)
                          go_simp
                          refine hK _ _ ?_
                          clear hK K
                          refine wpAny_done (by kernel_rfl) ?_ _
                          exact ⟨rfl, k2⟩
                        · go_simp
                          refine hK _ _ ?_
                          clear hK K
                          refine wpAny_ready (rs := [0]) (by kernel_rfl) (by simp) (AllReady.cons rfl (fun K hK => ?_) AllReady.nil)
                          go_simp
                          refine hK _ _ ?_
                          clear hK K
                          refine wpAny_ready (rs := [8]) (by kernel_rfl) (by simp) (AllReady.cons rfl (fun K hK => ?_) AllReady.nil)
                          refine step_append_row rfl (.tmp 49) (.tmp 56) 114 rfl W5.heap.size 118 i0 _ 4 32 Tryd.underlying114 hi hz0 hz1 hz2 rfl (by decide) v es.length (entCells es) rfl (hrow.alloc _) ⟨W8.heap.size, 0, none⟩ 1 1 [.int .i32 ch, .int .i64 a', .int .i64 b', .int .i64 c'] rfl rfl (new_four _ _ _ _ _ _) (by simp [Value.oneCell']) (by unfold maxLen; omega) (by omega) (by simp; omega) ?_
                          intro v' w' hown' hgrow' hat'
                          obtain ⟨g', cp', rfl⟩ := ownsRow_succ hown'
                          obtain ⟨k0, k1, k2⟩ := hfin _ _ _ hown' hgrow'
                          refine hK _ _ ?_
                          clear hK K
                          refine wpAny_ready (rs := [9]) (by kernel_rfl) (by simp) (AllReady.cons rfl (fun K hK => ?_) AllReady.nil)
                          go_simp
                          refine hK _ _ ?_
                          clear hK K
                          refine wpAny_done (by kernel_rfl) ?_ _
                          exact ⟨rfl, k2⟩
    · have hp : pieceV A (ws.length + 1) x = .slice (some ⟨A, x, none⟩) 1 1 := by unfold pieceV; rw [show min 2 (ws.length + 1 - x) = 1 by omega]
      rw [hp]
      have hx1 : x = ws.length := by omega
      have hA2 : ANS = none := by
        rw [← HK.out, ← hx0, List.drop_eq_getElem_cons (by simp; omega), List.drop_eq_nil_of_le (by simp; omega)]
        rfl
      have hR := hret W hL (KeepsFrom.refl _ _) hA2
      have HR := Lib.hid hR
      clear hR hret HK hx1 hx0 hB hel
      gi_wp2
      exact HR.out
  case done =>
    rintro D xs W hD hS ⟨last, es, HK, hel, hbd, hch, hL, hc1B⟩ hdef
    have hLL : (([60] :: ws).drop (2 * xs.length)) = [] := List.drop_eq_nil_of_le (by simpa using hS)
    have hk := HK.out
    rw [hLL] at hk
    have hA2 : ANS = some (last, es) := hk.symm
    subst hA2
    have hbd : 2 * xs.length ≤ ws.length + 2 := by simpa using hbd.1
    clear HK hk hLL HA
    have hpos : 0 < ws.length := List.length_pos_iff.2 hne
    obtain ⟨m, hm⟩ : ∃ m, es.length = m + 1 := ⟨es.length - 1, by omega⟩
    obtain ⟨v, hv, hrow⟩ := hL.row
    have hrow' := hrow
    rw [hm] at hrow'
    obtain ⟨g, cp, rfl⟩ := ownsRow_succ hrow'
    rw [← hm] at hrow hv
    have hgB := (hrow.lt g rfl).1
    have hB := hL.B
    have cK := keep_some p mb { d with last := last } g cp es W hL.ds (by omega) (by omega) (fun j u hj => by rw [hrow.cellAt j (by rw [← entCells_len]; exact (List.getElem?_eq_some_iff.1 hj).1)]; exact hj) htab (by omega) hch
    have c1 := hL.bx.cell
    have c2 := hv.cell
    have c4 := hL.res
    have hDn : D ≠ p ∧ D ≠ mb ∧ D ≠ w.heap.size + 1 ∧ w.heap.size ≤ D := by omega
    clear hrow hrow' hm hel hbd hS hseq hvc hsz hM hz3 hz4 hz5 hdl hb5 hb35 e2 e4 e5 ecc h0 hA3 hA4 hch hgB hB
    gi_wp2_with (refine ⟨trivial, ?_⟩; gi_at_call 71; refine (callsIn_wide.2 cK).mono ?_; intro e W6 hK6; obtain ⟨r, rfl⟩ := hK6.val; have c5 := hK6.1.cell (p := ⟨w.heap.size + 1, 0, none⟩) c4.lt (by have := hd.lt; simp; omega); rw [c4.cell] at c5; have f5 := hK6.1.frozen (p := ⟨w.heap.size + 1, 0, none⟩) c4.lt (by have := hd.lt; simp; omega); rw [c4.frozen] at f5)
    have d6 : W6.heap[D]? = some (.deferred (some [])) := (hK6.1.block D (Array.getElem?_eq_some_iff.1 hdef).1 (by omega)).trans hdef
    have d7 : (W6.setCell ⟨w.heap.size + 1, 0, none⟩ (.int .i64 r)).heap[D]? = some (.deferred (some [])) := (Below.heap_setCell _ _ _ _ hDn.2.2.1).trans d6
    have b6 : Boxed W6 (w.heap.size + 1) 29 (.int .i64 0) := (hK6.1.block _ c4.lt (by have := hd.lt; omega)).trans c4
    refine ⟨by simp, .inl ⟨_, _, rfl, run_takeDeferred d7, ?_⟩⟩
    refine ⟨_, res_four ((b6.set (.int .i64 r)).kept (grownBy_putObj' _ D _) (by intro e; exact hDn.2.2.1 (Option.some.inj e).symm)) _ rfl, ?_⟩
    rw [HLD.out]
    refine hK6.on hL.ch (R2 := fun k => k = w.heap.size + 1 ∨ k = D) ((Ch.of_grown (grownBy_setCell' _ _ _) (fun k e => .inl (Option.some.inj e).symm)).trans (Ch.of_grown (grownBy_putObj' _ _ _) (fun k e => .inr (Option.some.inj e).symm))) (fun k hk => by omega) hd.lt.1 hd.lt.2
  case stop =>
    rintro D c pre W hD _ ⟨rfl, hA2, last, es, hL⟩ hdef
    subst hA2
    have hB := hL.B
    have hDn : D ≠ p ∧ D ≠ mb ∧ D ≠ w.heap.size + 1 ∧ w.heap.size ≤ D := by omega
    gi_wp2
    refine ⟨by simp, .inl ⟨_, _, rfl, run_takeDeferred hdef, ?_⟩⟩
    refine ⟨_, res_four (hL.res.kept (grownBy_putObj' _ D _) (by intro e; exact hDn.2.2.1 (Option.some.inj e).symm)) _ rfl, ?_⟩
    rw [HLD.out]
    exact ⟨hL.ch.over (Ch.of_grown (R := fun k => k = D) (grownBy_putObj' _ _ _) (fun k e => (Option.some.inj e).symm)) (fun k hk => by have : k = D := hk; omega), rfl⟩
end Go.Proofs.YtgjjmapfdijphaaDoor

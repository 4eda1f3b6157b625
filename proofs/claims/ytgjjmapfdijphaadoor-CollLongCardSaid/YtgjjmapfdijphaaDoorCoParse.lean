/- The contract of coll.Parse. -/
import Derived.Test.YtgjjmapfdijphaaDoorCoParseI
namespace Go.Proofs.YtgjjmapfdijphaaDoor
open Go.RowKit Go.Lib Go.Shelf
attribute [local go_sem] Oper.semAt_some

def descT (r : Except (Nat × Nat) Ds) : Except (Nat × Nat) Tb := match r with
  | .error x => .error x
  | .ok d => .ok (tbOf d)
theorem parseL_T (l : List UInt8) : parseL l = if 1048576 < l.length then .error (0, 2) else if text l = false then .error (0, 10) else descT (linesGo 0 ⟨[], (0, 0, 0), 0⟩ (linesL l)) := by
  unfold parseL descT
  split
  · rfl
  · split
    · rfl
    · cases linesGo 0 ⟨[], (0, 0, 0), 0⟩ (linesL l) <;> rfl
set_option maxHeartbeats 2000000 in
set_option maxRecDepth 100000 in
theorem parse_any (s : ByteArray) (w : World) (hg : GrC w) :
    Calls Tryd.prog 13 #[.string s] w fun e w' => ParseGives (parseL s.data.toList) e w' ∧ Below w.heap.size w w' := by
  refine (callsIn_wide (n := 8)).1 ?_
  refine callsIn_of_wp_marks Tryd.func13 rfl trivial ?_ rfl
  simp only [Tryd.ntmps13, List.size_toArray, List.length_cons, List.length_nil, Nat.reduceAdd, Nat.reduceSub, Array.replicate_succ, Array.replicate_zero, List.push_toArray, List.append_toArray, List.nil_append, List.cons_append]
  have cT := fun W (hW : Gr W) (hh : s.size ≤ 1048576) => isText_any s W (by omega) hW
  rw [parseL_T, ← size_eq]
  obtain ⟨W1, hW1⟩ : ∃ W1, ((w.alloc (.cells #[.pointer none] 24)).alloc (.cells #[.int .i64 0] 3)).alloc (.cells #[.int .i64 0] 29) = W1 := ⟨_, rfl⟩
  obtain ⟨b2, b3, b4, hb1, hz1⟩ : Boxed W1 w.heap.size 24 (.pointer none) ∧ Boxed W1 (w.heap.size + 1) 3 (.int .i64 0) ∧ Boxed W1 (w.heap.size + 2) 29 (.int .i64 0) ∧ Below w.heap.size w W1 ∧ W1.heap.size = w.heap.size + 3 := by rw [← hW1]; exact three_boxes w _ _ _ _ _ _
  by_cases hlen : 1048576 < s.size
  · rw [if_pos hlen]
    have hl2 : (1048576 : Int) < (s.size : Int) := by omega
    clear hW1
    gi_wp2
    obtain ⟨x2, x3, x4, xb, _⟩ := three_boxes w (.pointer none) (.int .i64 0) (.int .i64 2) 24 3 29
    exact ⟨_, res_parse x2 x3 x4 _ rfl rfl rfl, rfl, xb⟩
  · rw [if_neg hlen]
    have hl2 : ¬ (1048576 : Int) < (s.size : Int) := by omega
    have hsz : s.size ≤ 1048576 := by omega
    have cT1 := cT W1 (hg.gr.later hb1) hsz
    cases ht : text s.data.toList with
    | false =>
      rw [ht] at cT1
      rw [if_pos rfl]
      gi_wp2_with (refine ⟨trivial, ?_⟩; gi_at_call 16; refine (callsIn_wide.2 cT1).mono ?_; rintro e W2 ⟨rfl, hb2⟩; clear hW1; have x2 := (hb2.block _ b2.lt).trans b2; have x3 := (hb2.block _ b3.lt).trans b3; have x4 := (hb2.block _ b4.lt).trans b4; have y2 := Boxed.cell x2; have y3 := Boxed.cell x3; have y4 := Boxed.cell x4; have z2 := Boxed.frozen x2; have z3 := Boxed.frozen x3; have z4 := Boxed.frozen x4; have HX := Lib.hid (And.intro x2 (And.intro x3 x4)); clear x2 x3 x4)
      clear y2 y3 y4 z2 z3 z4
      obtain ⟨x2, x3, x4⟩ := HX.out
      obtain ⟨W3, hW3⟩ : ∃ W3, ((W2.setCell ⟨w.heap.size, 0, none⟩ (.pointer none)).setCell ⟨w.heap.size + 1, 0, none⟩ (.int .i64 0)).setCell ⟨w.heap.size + 1 + 1, 0, none⟩ (.int .i64 10) = W3 := ⟨_, rfl⟩
      obtain ⟨v2, v3, v4⟩ := three_set x2 x3 x4 (.pointer none) (.int .i64 0) (.int .i64 10) (by omega) (by omega) (by omega) W3 hW3.symm
      have hb3 : Below w.heap.size w W3 := by
        rw [← hW3]
        exact (((hb1.trans (hb2.mono hb1.size)).setCell (p := ⟨w.heap.size, 0, none⟩) (Nat.le_refl _) _).setCell (p := ⟨w.heap.size + 1, 0, none⟩) (by simp) _).setCell (p := ⟨w.heap.size + 1 + 1, 0, none⟩) (by simp; omega) _
      rw [hW3]
      exact ⟨_, res_parse v2 v3 v4 _ rfl rfl rfl, rfl, hb3⟩
    | true =>
      rw [ht] at cT1
      rw [if_neg (by decide)]
      clear cT hlen
      gi_wp2_with (first | (refine ⟨trivial, ?_⟩; gi_at_call 16; refine (callsIn_wide.2 cT1).mono ?_; rintro e W2 ⟨rfl, hb2⟩; clear hW1 cT1; have mM := run_makeMap (P := Tryd.prog) 42 W2) | (refine ⟨trivial, ?_⟩; gi_at_call 27; refine (splitSeq_any _ (by omega) s ⟨#[10]⟩ _).mono ?_; rintro e W5 ⟨rfl, hW5⟩))
      rw [← hW5]
      obtain ⟨hD, e5, eS, eP, eV, hb25, hz5⟩ := parse_new W2 s W5 hW5
      clear hW5 mM
      have hz2 := hb2.size
      have hb5 : Below w.heap.size w W5 := (hb1.trans (hb2.mono hb1.size)).trans (hb25.mono (by omega))
      have hb15 : Below W1.heap.size W1 W5 := hb2.trans (hb25.mono hb2.size)
      have x2 : Boxed W5 w.heap.size 24 (.pointer none) := (hb15.block _ b2.lt).trans b2
      have x3 : Boxed W5 (w.heap.size + 1) 3 (.int .i64 0) := (hb15.block _ b3.lt).trans b3
      have x4 : Boxed W5 (w.heap.size + 2) 29 (.int .i64 0) := (hb15.block _ b4.lt).trans b4
      have hbz : w.heap.size + 2 < W2.heap.size := by omega
      clear b2 b3 b4 hb15 hb25
      have hseq : SeqRuns Fence.wide 7 Tryd.prog 68 #[.pointer (some ⟨W2.heap.size + 4, 0, none⟩), .pointer (some ⟨W2.heap.size + 3, 0, none⟩), .pointer (some ⟨W2.heap.size + 5, 0, none⟩)] (fun x : List UInt8 => #[.string ⟨x.toArray⟩]) (Ch (fun k => k = W2.heap.size + 3)) (Kept3 (W2.heap.size + 4) (W2.heap.size + 3) (W2.heap.size + 5))
          (fun pre x => ∃ rest, pre ++ x :: rest = linesL s.data.toList) (fun ys => ys = linesL s.data.toList) (fun _ => True) W5 := fun l J Jx W hW hJ _ hY h0 =>
        splitSeq1_in Fence.wide 7 (fun _ => trivial) rfl (by omega) l (W2.heap.size + 4) (W2.heap.size + 3) (W2.heap.size + 5) (by omega) s (by omega) J Jx hJ hY W ((hW.block _ eP.lt).trans eP) ((hW.block _ eS.lt).trans eS) ((hW.block _ eV.lt).trans eV) h0
      obtain ⟨ANS, hANS⟩ : ∃ R, linesGo 0 ⟨[], (0, 0, 0), 0⟩ (linesL s.data.toList) = R := ⟨_, rfl⟩
      have HA := Lib.hid hANS
      obtain ⟨LS, hLS⟩ : ∃ L, linesL s.data.toList = L := ⟨_, rfl⟩
      have HL := Lib.hid hLS
      rw [hLS] at hseq HA hANS
      clear hLS hANS
      have h0 : PI w.heap.size W2.heap.size w LS ANS [] W5 := ⟨⟨[], (0, 0, 0), 0⟩, LS, rfl, HA, ⟨by simp, ⟨by simp, by simp, by simp⟩, (fun x h => by cases h), by simp⟩, hD, x2, x3, x4, e5, hb5⟩
      refine wpIn_rangeFunc_runs rfl (by omega) (gf := 68) rfl trivial (enters_of Tryd.func68 (by kernel_rfl) rfl) hseq (fun h k => h.trans k) ?kb ?ab (fun _ => rfl)
        (PI w.heap.size W2.heap.size w LS ANS) (PX w.heap.size w ANS) ?own ?ownx ?ia ?ixa h0
        (fun x : List UInt8 => { tmps := #[.string s, undef, .pointer (some ⟨w.heap.size, 0, none⟩), .pointer (some ⟨w.heap.size + 1, 0, none⟩), .pointer (some ⟨w.heap.size + 1 + 1, 0, none⟩), .pointer (some ⟨W2.heap.size + 1 + 1, 0, none⟩), .string ⟨x.toArray⟩, undef, .string s, .int .i64 s.size, .bool false, .string s, .bool true, .bool false, .map (some W2.heap.size), .agg #[.map (some W2.heap.size), .int .i64 0, .int .i64 0, .int .i64 0, .int .i64 0], .pointer (some ⟨W2.heap.size + 1, 0, none⟩), .string s, .func (.func 68) #[] #[.pointer (some ⟨W2.heap.size + 1 + 1 + 1 + 1, 0, none⟩), .pointer (some ⟨W2.heap.size + 1 + 1 + 1, 0, none⟩), .pointer (some ⟨W2.heap.size + 1 + 1 + 1 + 2, 0, none⟩)], .string ⟨x.toArray⟩, undef, undef, undef, undef, undef, undef, undef, undef, undef, undef, undef], defers := [] })
        ?assign ?body ?done ?stop
      case kb =>
        intro W l o o' hB ho _ _
        have hl := (Array.getElem?_eq_some_iff.1 ho).1
        exact ⟨(grownBy_putObj' W l o').block _ (by omega) (by intro e; cases e; omega), (grownBy_putObj' W l o').block _ (by omega) (by intro e; cases e; omega), (grownBy_putObj' W l o').block _ (by omega) (by intro e; cases e; omega)⟩
      case ab =>
        intro X Y h k o hk ho _ _
        exact (h.block k (Array.getElem?_eq_some_iff.1 ho).1 (by omega)).trans ho
      case own =>
        intro s X Y row h hgr hr
        exact h.other (R := fun k => row = some k) (Ch.of_grown hgr (fun k e => e)) (fun k e => by have := (hr k e).1; omega) hbz rfl
      case ownx =>
        intro c s X Y row h hgr hr
        exact h.other (z := W2.heap.size) (R := fun k => row = some k) (Ch.of_grown hgr (fun k e => e)) (fun k e => by have := (hr k e).1; omega) hbz rfl
      case ia =>
        intro s X Y h hab
        exact h.other hab (fun k e => by omega) hbz rfl
      case ixa =>
        intro c s X Y h hab
        exact h.other (z := W2.heap.size) hab (fun k e => by omega) hbz rfl
      case assign =>
        intro l x W K hK
        gi_wp2
        exact hK
      case body =>
        rintro l pre x W ⟨rest0, hx⟩ ⟨d, rest, hpr, HK, hinv, hDs, y2, y3, y4, y5, hbw⟩ hlt
        obtain rfl : rest = x :: rest0 := List.append_cancel_left (hpr.trans hx.symm)
        have hk := HK.out
        have hll : pre.length < 1048578 := by
          have h1 := splitB_len 10 s.data.toList []
          rw [show splitB 10 [] s.data.toList = LS from HL.out, ← hx, ← size_eq] at h1
          simp at h1; omega
        have hxl : x.length ≤ 1048576 := by
          have h1 := splitB_mem 10 s.data.toList [] x (by rw [show splitB 10 [] s.data.toList = LS from HL.out, ← hx]; simp)
          rw [← size_eq] at h1
          simp at h1; omega
        have lt2 := y2.lt
        have lt3 := y3.lt
        have lt4 := y4.lt
        have ltz := hDs.lt
        have lt5 := y5.lt
        obtain ⟨n, hn⟩ : ∃ n, pre.length = n := ⟨_, rfl⟩
        rw [hn] at y3 hk hll
        have HN := Lib.hid hn
        clear hn HK
        obtain ⟨W1', hW1'⟩ : ∃ W1', W.setCell ⟨w.heap.size + 1, 0, none⟩ (.int .i64 ((n : Int) + 1)) = W1' := ⟨_, rfl⟩
        have hc1 : Ch (fun k => k = w.heap.size + 1) W W1' := by rw [← hW1']; exact Ch.of_grown (grownBy_setCell' _ _ _) (fun k e => (Option.some.inj e).symm)
        have u3 : Boxed W1' (w.heap.size + 1) 3 (.int .i64 ((n : Int) + 1)) := by rw [← hW1']; exact y3.set _
        have u2 : Boxed W1' w.heap.size 24 (.pointer none) := (hc1.block _ lt2 (by omega)).trans y2
        have u4 : Boxed W1' (w.heap.size + 2) 29 (.int .i64 0) := (hc1.block _ lt4 (by omega)).trans y4
        have u5 : Boxed W1' (W2.heap.size + 2) 62 (.pointer (some ⟨W2.heap.size + 1, 0, none⟩)) := (hc1.block _ lt5 (by omega)).trans y5
        have uD : DsAt W1' (W2.heap.size + 1) W2.heap.size d := hDs.later (hc1.block _ ltz.1 (by omega)) (hc1.block _ ltz.2 (by omega))
        have hbw1 : Below w.heap.size w W1' := hbw.trans (hc1.below hbw.size (fun k hk e => by omega))
        have hlen := hinv.len
        have hlast := hinv.last
        have cA := add_any (W2.heap.size + 1) W2.heap.size d ⟨x.toArray⟩ W1' w hg hbw1 ⟨by omega, by omega⟩ uD (by show x.toArray.size ≤ _; simpa using hxl) (by omega) (by obtain ⟨h1, h2, h3⟩ := hlast; omega)
        rw [show (⟨x.toArray⟩ : ByteArray).data.toList = x from rfl] at cA
        have c3 := y3.cell
        have f3 := y3.frozen
        have c5 := u5.cell
        have hfrom : ∀ W6, Ch (fun k => k = W2.heap.size + 1 ∨ k = W2.heap.size) W1' W6 → KeepsFrom W5.heap.size W W6 ∧ Kept3 (W2.heap.size + 4) (W2.heap.size + 3) (W2.heap.size + 5) W W6 := by
          intro W6 hc2
          have hs : ∀ k, k < W.heap.size → k ≠ w.heap.size + 1 → k ≠ W2.heap.size + 1 → k ≠ W2.heap.size → W6.heap[k]? = W.heap[k]? := fun k hk h1 h2 h3 => (hc2.block k (Nat.lt_of_lt_of_le hk hc1.size) (by omega)).trans (hc1.block k hk h1)
          exact ⟨⟨Nat.le_trans hc1.size hc2.size, fun k o hB ho _ => (hs k (Array.getElem?_eq_some_iff.1 ho).1 (by omega) (by omega) (by omega)).trans ho⟩, hs _ (by omega) (by omega) (by omega) (by omega), hs _ (by omega) (by omega) (by omega) (by omega), hs _ (by omega) (by omega) (by omega) (by omega)⟩
        clear hseq eS eP eV e5 x2 x3 x4 h0 hD hb1 hb2
        cases hadd : addL x d with
        | ok d' =>
          rw [hadd] at cA
          have hk2 : linesGo (n + 1) d' rest0 = ANS := by rw [← hk]; unfold linesGo; rw [hadd]; cases rest0 <;> rfl
          have HK2 := Lib.hid hk2
          clear hk hk2
          gi_wp2_with (refine ⟨trivial, ?_⟩; gi_at_call 28; refine (CallsIn.inRound l (callsIn_wide.2 cA)).mono ?_; rintro e W6 ⟨hc2, rfl, hD6⟩)
          obtain ⟨k1, k2⟩ := hfrom W6 hc2
          refine ⟨k1, k2, d', rest0, by rw [List.append_assoc]; exact hx, Lib.hid ?_, addL_inv x d d' hadd hinv, hD6, (hc2.block _ u2.lt (by omega)).trans u2, ?_, (hc2.block _ u4.lt (by omega)).trans u4, (hc2.block _ u5.lt (by omega)).trans u5, hbw1.trans (hc2.below hbw1.size (fun k hk e => by omega))⟩
          · rw [List.length_append, List.length_singleton, HN.out]; exact HK2.out
          · have := (hc2.block _ u3.lt (by omega)).trans u3
            rw [List.length_append, List.length_singleton, HN.out]
            exact this
        | error k =>
          rw [hadd] at cA
          have hk0 := addL_err x d k hadd
          have hk2 : ANS = .error (n + 1, k) := by rw [← hk]; unfold linesGo; rw [hadd]
          have hkn : ((k : Int) != 0) = true := by rw [bne_iff_ne]; omega
          have hkn2 : ¬ (k : Int) = 0 := by omega
          clear hk
          gi_wp2_with (refine ⟨trivial, ?_⟩; gi_at_call 28; refine (CallsIn.inRound l (callsIn_wide.2 cA)).mono ?_; rintro e W6 ⟨hc2, rfl⟩)
          have v2 := (hc2.block _ u2.lt (by omega)).trans u2
          have v3 := (hc2.block _ u3.lt (by omega)).trans u3
          have v4 := (hc2.block _ u4.lt (by omega)).trans u4
          have r2 := Boxed.cell v2
          have r3 := Boxed.cell v3
          have r4 := Boxed.cell v4
          have g2 := Boxed.frozen v2
          have g3 := Boxed.frozen v3
          have g4 := Boxed.frozen v4
          have HV := Lib.hid (And.intro v2 (And.intro v3 v4))
          clear v2 v3 v4
          have hmix : Tryd.prog.follows .mixedOrders = true := by kernel_rfl
          obtain ⟨k1, k2⟩ := hfrom W6 hc2
          have hbw6 : Below w.heap.size w W6 := hbw1.trans (hc2.below hbw1.size (fun k hk e => by omega))
          have hlW : w.heap.size + 2 < W5.heap.size := by omega
          have HK1 := Lib.hid k1
          clear k1 k2 hfrom u2 u3 u4 u5 uD hc1 hW1' cA hk0
          gi_region_with_o fail
          all_goals
            gi_wp2
            obtain ⟨v2, v3, v4⟩ := HV.out
            obtain ⟨W7, hW7⟩ : ∃ W7, ((W6.setCell ⟨w.heap.size, 0, none⟩ (.pointer none)).setCell ⟨w.heap.size + 1, 0, none⟩ (.int .i64 ((n : Int) + 1))).setCell ⟨w.heap.size + 1 + 1, 0, none⟩ (.int .i64 (k : Int)) = W7 := ⟨_, rfl⟩
            obtain ⟨p2, p3, p4⟩ := three_set v2 v3 v4 (.pointer none) (.int .i64 ((n : Int) + 1)) (.int .i64 (k : Int)) (by omega) (by omega) (by omega) W7 hW7.symm
            have hc67 : Ch (fun k => k = w.heap.size ∨ k = w.heap.size + 1 ∨ k = w.heap.size + 2) W6 W7 := by
              rw [← hW7]
              exact ((Ch.of_grown (grownBy_setCell' _ _ _) (fun k e => .inl (Option.some.inj e).symm)).trans (Ch.of_grown (grownBy_setCell' _ _ _) (fun k e => .inr (.inl (Option.some.inj e).symm)))).trans (Ch.of_grown (grownBy_setCell' _ _ _) (fun k e => .inr (.inr (Option.some.inj e).symm)))
            rw [hW7]
            refine ⟨HK1.out.trans ⟨hc67.size, fun k o hB ho _ => (hc67.block k (Array.getElem?_eq_some_iff.1 ho).1 (by omega)).trans ho⟩, rfl, n + 1, k, hk2, p2, ?_, p4, (hbw6.trans (hc67.below hbw6.size (fun k hk e => by omega))).drew⟩
            rw [show ((n + 1 : Nat) : Int) = (n : Int) + 1 by omega]
            exact p3
      case done =>
        rintro D xs W hD hS ⟨d, rest, hpr, HK, hinv, hDs, y2, y3, y4, y5, hbw⟩ hdef
        obtain rfl : rest = [] := by
          have h1 : LS ++ rest = LS ++ [] := by rw [List.append_nil, ← hS]; rw [hS]; exact (hS ▸ hpr)
          exact List.append_cancel_left h1
        have hk : ANS = .ok d := by rw [← HK.out]; rfl
        have lt2 := y2.lt
        have lt3 := y3.lt
        have lt4 := y4.lt
        have ltz := hDs.lt
        have ltD := (Array.getElem?_eq_some_iff.1 hdef).1
        have cT2 := table_any (W2.heap.size + 1) W2.heap.size d W hDs
        have c5 := y5.cell
        gi_wp2_with (refine ⟨trivial, ?_⟩; gi_at_call 29; refine (callsIn_wide.2 cT2).mono ?_; rintro e W6 ⟨rfl, h6, hb6⟩; have v2 := (hb6.block _ lt2).trans y2; have v3 := (hb6.block _ lt3).trans y3; have v4 := (hb6.block _ lt4).trans y4; have r2 := Boxed.cell v2; have r3 := Boxed.cell v3; have r4 := Boxed.cell v4; have g2 := Boxed.frozen v2; have g3 := Boxed.frozen v3; have g4 := Boxed.frozen v4; have HV := Lib.hid (And.intro v2 (And.intro v3 v4)); clear v2 v3 v4)
        obtain ⟨v2, v3, v4⟩ := HV.out
        obtain ⟨W7, hW7⟩ : ∃ W7, ((W6.setCell ⟨w.heap.size, 0, none⟩ (.pointer (some ⟨W.heap.size, 0, none⟩))).setCell ⟨w.heap.size + 1, 0, none⟩ (.int .i64 0)).setCell ⟨w.heap.size + 1 + 1, 0, none⟩ (.int .i64 0) = W7 := ⟨_, rfl⟩
        obtain ⟨p2, p3, p4⟩ := three_set v2 v3 v4 (.pointer (some ⟨W.heap.size, 0, none⟩)) (.int .i64 0) (.int .i64 0) (by omega) (by omega) (by omega) W7 hW7.symm
        have hc67 : Ch (fun k => k = w.heap.size ∨ k = w.heap.size + 1 ∨ k = w.heap.size + 2) W6 W7 := by
          rw [← hW7]
          exact ((Ch.of_grown (grownBy_setCell' _ _ _) (fun k e => .inl (Option.some.inj e).symm)).trans (Ch.of_grown (grownBy_setCell' _ _ _) (fun k e => .inr (.inl (Option.some.inj e).symm)))).trans (Ch.of_grown (grownBy_setCell' _ _ _) (fun k e => .inr (.inr (Option.some.inj e).symm)))
        rw [hW7]
        have hd6 : W6.heap[D]? = some (.deferred (some [])) := (hb6.block D ltD).trans hdef
        have hd7 : W7.heap[D]? = some (.deferred (some [])) := (hc67.block D (Array.getElem?_eq_some_iff.1 hd6).1 (by omega)).trans hd6
        have hc68 : Ch (fun k => (k = w.heap.size ∨ k = w.heap.size + 1 ∨ k = w.heap.size + 2) ∨ k = D) W6 (W7.putObj D (.deferred none)) := (hc67.mono fun k _ e => .inl e).trans (Ch.of_grown (grownBy_putObj' _ _ _) (fun k e => .inr (Option.some.inj e).symm))
        refine ⟨by simp, .inl ⟨_, _, rfl, run_takeDeferred hd7, ?_⟩⟩
        refine ⟨_, res_parse (p2.kept (grownBy_putObj' _ D _) (by intro e; have := Option.some.inj e; omega)) (p3.kept (grownBy_putObj' _ D _) (by intro e; have := Option.some.inj e; omega)) (p4.kept (grownBy_putObj' _ D _) (by intro e; have := Option.some.inj e; omega)) _ rfl rfl rfl, ?_, ?_⟩
        · rw [HL.out, HA.out, hk]
          have hm6 := hDs.map.same (hb6.block _ ltz.2)
          refine ⟨_, rfl, .inr ⟨W.heap.size, _, rfl, (hc68.block _ (Array.getElem?_eq_some_iff.1 h6).1 (by omega)).trans h6, .inr ⟨W2.heap.size, rfl, by omega, hm6.same (hc68.block _ hm6.lt (by omega))⟩⟩, hinv.small, by simp⟩
        · have hbW6 : Below w.heap.size w W6 := hbw.trans (hb6.mono hbw.size)
          exact hbW6.trans (hc68.below hbW6.size (fun k hk e => by omega))
      case stop =>
        rintro D c pre W hD _ ⟨rfl, n, k, hA, y2, y3, y4, hbw⟩ hdef
        gi_wp2
        refine ⟨by simp, .inl ⟨_, _, rfl, run_takeDeferred hdef, ?_⟩⟩
        refine ⟨_, res_parse (y2.kept (grownBy_putObj' _ D _) (by intro e; have := Option.some.inj e; omega)) (y3.kept (grownBy_putObj' _ D _) (by intro e; have := Option.some.inj e; omega)) (y4.kept (grownBy_putObj' _ D _) (by intro e; have := Option.some.inj e; omega)) _ rfl rfl rfl, ?_, ?_⟩
        · rw [HL.out, HA.out, hA]; rfl
        · exact hbw.trans (Ch.below (R := fun k => k = D) (Ch.of_grown (grownBy_putObj' _ _ _) (fun k e => (Option.some.inj e).symm)) hbw.size (fun k hk e => by omega))
end Go.Proofs.YtgjjmapfdijphaaDoor

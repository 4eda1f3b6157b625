/- Natural numbers: the contract of divide. -/
import Derived.Test.YtgmnjghbafbopaaGreatDoorMNuDivEnd
namespace Go.Proofs.YtgmnjghbafbopaaGreatDoor
open Go.RowKit Go.Lib
attribute [local go_sem] Oper.semAt_some

theorem trimW_pre (l : List Nat) : ∃ k, l = trimW l ++ k := by
  unfold trimW
  refine ⟨(l.reverse.takeWhile fun w => w == 0).reverse, ?_⟩
  rw [← List.reverse_append, List.takeWhile_append_dropWhile, List.reverse_reverse]
theorem trim_sub {W : World} {a : Option Addr} {cap : Nat} {l : List Nat} (h : Nats W (.slice a l.length cap) l) : Nats W (.slice a (trimW l).length cap) (trimW l) := by
  have hle := trimW_le l
  have hpre : ∀ j, j < (trimW l).length → (trimW l).getD j 0 = l.getD j 0 := fun j hj => by
    obtain ⟨k, hk⟩ := trimW_pre l
    conv => rhs; rw [hk]
    rw [List.getD_eq_getElem?_getD, List.getD_eq_getElem?_getD, List.getElem?_append_left hj]
  rcases h with ⟨rfl, _⟩ | ⟨b, off, cap', heq, hc, h⟩
  · exact Nats.nil W a cap
  · injection heq with h1 _ h3
    subst h1
    subst h3
    exact .inr ⟨b, off, cap, rfl, by omega, fun j hj => by rw [hpre j hj]; exact h j (by omega)⟩
theorem res_div {W : World} {b4 b5 : Nat} {x y : Value} (h4 : Boxed W b4 86 x) (h5 : Boxed W b5 86 y) (tmps : Array Value) (t4 : tmps.getD 4 undef = .pointer (some ⟨b4, 0, none⟩)) (t5 : tmps.getD 5 undef = .pointer (some ⟨b5, 0, none⟩)) :
    (results Tryz.f137 tmps).run Tryz.prog W = .ok (.tuple #[x, y]) W := by
  have c4 := h4.cell
  have c5 := h5.cell
  have u4 : tmps[4]?.getD undef = .pointer (some ⟨b4, 0, none⟩) := by simpa using t4
  have u5 : tmps[5]?.getD undef = .pointer (some ⟨b5, 0, none⟩) := by simpa using t5
  simp [results, Tryz.results137, go_sem, u4, u5, c4, c5]
set_option maxRecDepth 100000 in
set_option maxHeartbeats 8000000 in
theorem divide_any (u v : Value) (a b : Nat) (hb0 : b ≠ 0) (ha9 : (wordsOf a).length < 10000000) (hb9 : (wordsOf b).length < 10000000) (w : World) (hu : Nats w u (wordsOf a)) (hv : Nats w v (wordsOf b)) :
    Calls Tryz.prog 137 #[u, v] w fun e w' => ∃ x y, e = .returned (.tuple #[x, y]) ∧ Nats w' x (wordsOf (a / b)) ∧ Nats w' y (wordsOf (a % b)) ∧ Below w.heap.size w w' := by
  refine (callsIn_wide (n := 8)).1 ?_
  refine callsIn_of_wp_marks Tryz.func137 rfl trivial ?_ rfl
  simp only [Tryz.ntmps137, List.size_toArray, List.length_cons, List.length_nil, Nat.reduceAdd, Nat.reduceSub, Array.replicate_succ, Array.replicate_zero, List.push_toArray, List.append_toArray, List.nil_append, List.cons_append]
  obtain ⟨p1, c1, rfl⟩ := hu.shape
  obtain ⟨p2, c2, rfl⟩ := hv.shape
  obtain ⟨n, hn⟩ : ∃ n, (wordsOf a).length = n := ⟨_, rfl⟩
  obtain ⟨W3, hW3⟩ : ∃ W3, ((w.alloc (.cells #[.slice p2 (wordsOf b).length c2] 86)).alloc (.cells #[.slice none 0 0] 86)).alloc (.cells #[.slice none 0 0] 86) = W3 := ⟨_, rfl⟩
  have hz3 : W3.heap.size = w.heap.size + 3 := by rw [← hW3]; simp
  have hmk := make_nats n (by omega) 86 Tryz.underlying86 W3
  have bb3 : Boxed W3 w.heap.size 86 (.slice p2 (wordsOf b).length c2) := by rw [← hW3]; exact ((Boxed.new w _ _).alloc _).alloc _
  have bq3 : Boxed W3 (w.heap.size + 1) 86 (.slice none 0 0) := by
    rw [← hW3]
    have := Boxed.new (w.alloc (.cells #[.slice p2 (wordsOf b).length c2] 86)) 86 (.slice none 0 0)
    rw [World.size_alloc] at this
    exact this.alloc _
  have br3 : Boxed W3 (w.heap.size + 2) 86 (.slice none 0 0) := by
    rw [← hW3]
    have := Boxed.new ((w.alloc (.cells #[.slice p2 (wordsOf b).length c2] 86)).alloc (.cells #[.slice none 0 0] 86)) 86 (.slice none 0 0)
    rwa [World.size_alloc, World.size_alloc] at this
  have hb3 : Below w.heap.size w W3 := by rw [← hW3]; exact (((Below.refl _ _).alloc (Nat.le_refl _) _).alloc (by simp) _).alloc (by simp; omega) _
  have cq := bq3.cell
  have fq := bq3.frozen
  rw [hn] at hu ha9 ⊢
  have HN := Lib.hid hn
  clear hn
  gi_wp2_with (refine ⟨trivial, ?_⟩; gi_at_call 164; refine (backward_any _ _ _ _ _).mono ?_; rintro e w3 ⟨rfl, hw3⟩)
  rw [← hw3]
  obtain ⟨W4, hW4⟩ : ∃ W4, W3.setCell ⟨w.heap.size + 1, 0, none⟩ (.slice (some ⟨w.heap.size + 3, 0, none⟩) n n) = W4 := ⟨_, rfl⟩
  have hz4 : W4.heap.size = w.heap.size + 3 := by rw [← hW4]; simpa [World.setCell] using hz3
  have bb4 : Boxed W4 w.heap.size 86 (.slice p2 (wordsOf b).length c2) := by rw [← hW4]; exact bb3.other (by omega) _
  have bq4 : Boxed W4 (w.heap.size + 1) 86 (.slice (some ⟨w.heap.size + 3, 0, none⟩) n n) := by rw [← hW4]; exact bq3.set _
  have br4 : Boxed W4 (w.heap.size + 2) 86 (.slice none 0 0) := by rw [← hW4]; exact br3.other (by omega) _
  have hb4 : Below w.heap.size w W4 := by rw [← hW4]; exact hb3.setCell (p := ⟨w.heap.size + 1, 0, none⟩) (by simp) _
  rw [hW4] at hw3
  have hz5 : w3.heap.size = w.heap.size + 5 := by rw [hw3, World.size_alloc, World.size_alloc, hz4]
  have hbx5 : Boxed w3 w.heap.size 86 (.slice p2 (wordsOf b).length c2) := by rw [hw3]; exact (bb4.alloc _).alloc _
  have hq5 : Boxed w3 (w.heap.size + 1) 86 (.slice (some ⟨w.heap.size + 3, 0, none⟩) n n) := by rw [hw3]; exact (bq4.alloc _).alloc _
  have hr5 : Boxed w3 (w.heap.size + 2) 86 (.slice none 0 0) := by rw [hw3]; exact (br4.alloc _).alloc _
  have hrow5 : RowIs w3 (w.heap.size + 3) (List.replicate n 0) := by
    rw [hw3, ← hz4]
    exact RowIs.other (made_row W4 n) (Below.heap_alloc _ _ _ (by simp))
  have hax5 : Boxed w3 (w.heap.size + 4) 86 (.slice p1 n c1) := by
    rw [hw3]
    have := Boxed.new (W4.alloc (.cells (u32Cells (List.replicate n 0)) 156)) 86 (.slice p1 n c1)
    rwa [World.size_alloc, hz4] at this
  have hb5 : Below w.heap.size w w3 := by
    rw [hw3]
    exact (hb4.alloc (by omega) _).alloc (by rw [World.size_alloc]; omega) _
  clear hw3 hW4 hW3 hmk bb3 bq3 br3 hb3 hz4 hz3 cq fq bb4 bq4 br4 hb4
  have hn := HN.out
  obtain ⟨A, hA⟩ : ∃ A, wordsOf a = A := ⟨_, rfl⟩
  have hsA : Small A := by rw [← hA]; exact small_wordsOf a
  have hvA : val A = a := by rw [← hA]; exact val_wordsOf a
  rw [hA] at hu hn
  subst hn
  clear HN hA
  have hseq : SeqRuns Fence.wide 7 Tryz.prog 198 #[.pointer (some ⟨w.heap.size + 4, 0, none⟩)] (fun x : Nat × Nat => #[.int .i64 (x.1 : Int), .int .u32 (x.2 : Int)]) (Ch (fun _ => False)) (KeptB (w.heap.size + 4) (.slice p1 A.length c1) A)
      (fun pre x => ∃ rest, pre ++ x :: rest = bwL A) (fun ys => ys = bwL A) (fun _ => True) w3 := fun l J Jx W hW _ _ hY h0 =>
    backward1_in 7 (by omega) l _ _ _ (by omega) J Jx hY W ((hW.block _ (by omega)).trans hax5) ((hu.later hb5).later hW) h0
  have h0 : DivI w (.slice p2 (wordsOf b).length c2) A b [] w3 := ⟨hbx5, hq5, ⟨_, hrow5, by simp, Small.zeros _, by rw [List.length_nil, Nat.sub_zero, List.drop_length, List.drop_of_length_le (by simp)]; simp [val]⟩, ⟨none, 0, by rw [List.length_nil, Nat.sub_zero, List.drop_length]; simpa [val, wordsOf_zero] using hr5, by rw [List.length_nil, Nat.sub_zero, List.drop_length]; simp only [val, Nat.zero_mod, wordsOf_zero]; exact Nats.nil _ _ _⟩, hb5, by omega⟩
  clear hbx5 hq5 hr5 hrow5 hax5
  refine wpIn_rangeFunc_runs rfl (by omega) (gf := 198) rfl trivial (enters_of Tryz.func198 (by kernel_rfl) rfl) hseq (fun h k => h.trans k) ?kb ?ab (fun _ => rfl)
    (DivI w (.slice p2 (wordsOf b).length c2) A b) DivX ?own ?ownx ?ia ?ixa h0
    (fun x : Nat × Nat => { tmps := #[.slice p1 A.length c1, .slice p2 (wordsOf b).length c2, undef, .pointer (some ⟨w.heap.size, 0, none⟩), .pointer (some ⟨w.heap.size + 1, 0, none⟩), .pointer (some ⟨w.heap.size + 2, 0, none⟩), .int .i64 (x.1 : Int), .int .u32 (x.2 : Int), undef, undef, .slice p1 A.length c1, .int .i64 A.length, .slice (some ⟨w.heap.size + 3, 0, none⟩) A.length A.length, .slice p1 A.length c1, .func (.func 198) #[] #[.pointer (some ⟨w.heap.size + 4, 0, none⟩)], .int .i64 (x.1 : Int), .int .u32 (x.2 : Int), undef, undef, undef, undef, undef, undef, undef, undef, undef, undef, undef, undef, undef, undef, undef, undef, undef, undef, undef, undef, undef, undef, undef, undef, undef, undef, undef, undef, undef, undef, undef], defers := [] })
    ?assign ?body ?done ?stop
  case kb =>
    intro W l o o' hB ho hc _
    exact ⟨World.putObj_heap_other (by omega), fun hN => hN.put o' ho hc⟩
  case ab =>
    intro X Y h k o hk ho _ _
    exact (h.block k (Array.getElem?_eq_some_iff.1 ho).1 (fun e => e)).trans ho
  case own =>
    intro s X Y row h hgr hr
    exact h.other (R := fun k => row = some k) (Ch.of_grown hgr (fun k e => e)) (fun k e => by have := hr k e; exact ⟨by omega, this.2⟩)
  case ownx =>
    intro c s X Y row h _ _
    exact h
  case ia =>
    intro s X Y h hab
    exact h.other hab (fun k e => e.elim)
  case ixa =>
    intro c s X Y h _
    exact h
  case assign =>
    intro l x W K hK
    gi_wp2
    exact hK
  case body =>
    rintro l pre x W ⟨rest0, hx⟩ HI hlt
    obtain ⟨m1, m2, _, m4⟩ := bwL_mem A pre rest0 x hx
    obtain ⟨i, y⟩ := x
    simp only at m1 m2 m4
    have hpl : A.length - pre.length = i + 1 := by omega
    have hpl2 : A.length - (pre ++ [(i, y)]).length = i := by rw [List.length_append, List.length_singleton]; omega
    obtain ⟨Q, hQ, hQl, hQs, hQv⟩ := HI.row
    obtain ⟨pr, cr, hrb, hrN⟩ := HI.rest
    rw [hpl] at hQv hrb hrN
    obtain ⟨d1, d2, d3, d4, d5⟩ := div_round A hsA b (by omega) i m1 Q hQl hQs hQv _ rfl
    obtain ⟨r, hr⟩ : ∃ r, val (A.drop (i + 1)) % b = r := ⟨_, rfl⟩
    have hrlt : r < b := by rw [← hr]; exact Nat.mod_lt _ (by omega)
    have hy9 : y < 1000000000 := by rw [m2]; exact hsA.getD i
    rw [← m2] at d1 d2 d3 d4 d5
    rw [hr] at d1 d2 d3 d4 d5 hrb hrN
    have hRlt : y + 1000000000 * r < 1000000000 * b := by omega
    obtain ⟨R, hR⟩ : ∃ R, y + 1000000000 * r = R := ⟨_, rfl⟩
    have htr := trimW_words (y :: wordsOf r) (Small.cons hy9 (small_wordsOf r))
    rw [show val (y :: wordsOf r) = R by rw [val, val_wordsOf]; exact hR] at htr
    rw [hR] at d1 d2 d3 d4 d5 hRlt
    have hlr : (wordsOf r).length ≤ (wordsOf b).length := words_len r _ (Nat.lt_trans hrlt (words_lt b))
    have hlR : (wordsOf R).length ≤ (wordsOf b).length + 1 := words_len R _ (by rw [Nat.pow_succ]; have := words_lt b; omega)
    obtain ⟨v1, W1, hrunA, hN1, hb1⟩ := run_front W y (wordsOf r) pr cr hrN (by omega)
    have cT := trimmed_any v1 (y :: wordsOf r) (by rw [List.length_cons]; omega) W1 hN1
    rw [htr] at cT
    have kb1 : Boxed W1 w.heap.size 86 (.slice p2 (wordsOf b).length c2) := (hb1.block _ HI.box.lt).trans HI.box
    have kq1 : Boxed W1 (w.heap.size + 1) 86 (.slice (some ⟨w.heap.size + 3, 0, none⟩) A.length A.length) := (hb1.block _ HI.quo.lt).trans HI.quo
    have kr1 : Boxed W1 (w.heap.size + 2) 86 (.slice pr (wordsOf r).length cr) := (hb1.block _ hrb.lt).trans hrb
    have kw1 : RowIs W1 (w.heap.size + 3) Q := (hb1.block _ hQ.lt).trans hQ
    have hbw1 : Below w.heap.size w W1 := HI.below.trans (hb1.mono HI.below.size)
    have hbig1 : w.heap.size + 5 ≤ W1.heap.size := Nat.le_trans HI.big hb1.size
    have cW := (hrb.alloc (.cells #[.int .u32 (y : Int)] 156)).cell
    have c1r := kr1.cell
    have f1r := kr1.frozen
    have HM := Lib.hid (And.intro m1 (And.intro hpl2 (And.intro hQl (And.intro d2 (And.intro d3 d4)))))
    have HB1 := Lib.hid hb1
    clear m2 m4 hx hpl hpl2 hQ hQl hQs hQv d1 d2 d3 d4 d5 hr hrlt hR htr hrN hrb HI hN1 hb1 hseq h0
    gi_wp2_with (gi_at_builtin; refine wpListIn_append_eq _ rfl (.tmp 18) (.tmp 19) 86 rfl _ _ v1 W1 rfl rfl hrunA ?_; clear hrunA)
    refine ⟨trivial, ?_⟩
    refine (CallsIn.inRound l (callsIn_wide.2 cT)).mono ?_
    rintro e W1' ⟨u, rfl, hu2, rfl⟩
    obtain ⟨pu, cu, rfl⟩ := hu2.shape
    obtain ⟨W2, hW2⟩ : ∃ W2, W1.setCell ⟨w.heap.size + 2, 0, none⟩ (.slice pu (wordsOf R).length cu) = W2 := ⟨_, rfl⟩
    have kb2 : Boxed W2 w.heap.size 86 (.slice p2 (wordsOf b).length c2) := by rw [← hW2]; exact kb1.other (by omega) _
    have kq2 : Boxed W2 (w.heap.size + 1) 86 (.slice (some ⟨w.heap.size + 3, 0, none⟩) A.length A.length) := by rw [← hW2]; exact kq1.other (by omega) _
    have kr2 : Boxed W2 (w.heap.size + 2) 86 (.slice pu (wordsOf R).length cu) := by rw [← hW2]; exact kr1.set _
    have kw2 : RowIs W2 (w.heap.size + 3) Q := by rw [← hW2]; exact kw1.other (Below.heap_setCell _ _ _ _ (by simp))
    have hbw2 : Below w.heap.size w W2 := by rw [← hW2]; exact hbw1.setCell (p := ⟨w.heap.size + 2, 0, none⟩) (by simp) _
    have hz2 : W2.heap.size = W1.heap.size := by rw [← hW2]; simp [World.setCell]
    have hN2 : Nats W2 (.slice pu (wordsOf R).length cu) (wordsOf R) := by rw [← hW2]; exact hu2.setCell _ c1r (by simp)
    have hc12 : Ch (fun k => k = w.heap.size + 2) W1 W2 := by rw [← hW2]; exact Ch.setCell (p := ⟨w.heap.size + 2, 0, none⟩) (Ch.refl (fun k => k = w.heap.size + 2) W1) (.inl rfl) _
    have hbl : 0 < (wordsOf b).length := List.length_pos_iff.2 (fun e => hb0 ((wordsOf_nil b).1 e))
    have hbt : (wordsOf b).getD ((wordsOf b).length - 1) 0 ≠ 0 := by
      refine wordsOf_last b _ ?_
      rw [List.getLast?_eq_getElem?, List.getD_eq_getElem?_getD, List.getElem?_eq_getElem (by omega)]; rfl
    have cG := guess_any _ _ (wordsOf R) (wordsOf b) (small_wordsOf R) (small_wordsOf b) hbl hbt hlR (by omega) (by rw [val_wordsOf, val_wordsOf]; exact hRlt) W2 hN2 (hv.later hbw2)
    rw [val_wordsOf, val_wordsOf] at cG
    have d3 := kb2.cell
    have d5 := kr2.cell
    have hbig2 : w.heap.size + 5 ≤ W2.heap.size := by omega
    have HC12 := Lib.hid hc12
    clear kb1 kq1 kr1 kw1 hbw1 hbig1 cT hu2 hz2 hbl hbt hc12
    gi_wp2
    clear c1r f1r hW2
    refine ⟨trivial, ?_⟩
    refine (CallsIn.inRound l (callsIn_wide.2 cG)).mono ?_
    rintro e w3' ⟨q, nq, rfl, hw3', hq9, hq1, hq2⟩
    have hh3 : w3'.heap = W2.heap := by rw [hw3', heap_drewN]
    have kb3 : Boxed w3' w.heap.size 86 (.slice p2 (wordsOf b).length c2) := by unfold Boxed; rw [hh3]; exact kb2
    have kq3 : Boxed w3' (w.heap.size + 1) 86 (.slice (some ⟨w.heap.size + 3, 0, none⟩) A.length A.length) := by unfold Boxed; rw [hh3]; exact kq2
    have kr3 : Boxed w3' (w.heap.size + 2) 86 (.slice pu (wordsOf R).length cu) := by unfold Boxed; rw [hh3]; exact kr2
    have kw3 : RowIs w3' (w.heap.size + 3) Q := by unfold RowIs; rw [hh3]; exact kw2
    have hb23 : Below W2.heap.size W2 w3' := by rw [hw3']; exact below_drewN (Below.refl _ _) nq
    have hbw3 : Below w.heap.size w w3' := hbw2.trans (hb23.mono (by omega))
    have hN3 := hN2.later hb23
    have hbig3 : w.heap.size + 5 ≤ w3'.heap.size := by rw [hh3]; exact hbig2
    have ba3 : Below w3'.heap.size w3' (w3'.alloc (.cells #[.int .u32 (q : Int)] 156)) := (Below.refl _ _).alloc (Nat.le_refl _) _
    have cM := multiply_any (.slice p2 (wordsOf b).length c2) (.slice (some ⟨w3'.heap.size, 0, none⟩) 1 1) (wordsOf b) [q] (small_wordsOf b) (Small.cons hq9 Small.nil) (by omega) (by simp) _ ((hv.later hbw3).later ba3) (lit_nats w3' q)
    rw [val_wordsOf, show val [q] = q by simp [val]] at cM
    have hfx := guess_fix R b q (by omega) hq1 hq2
    have hlp : (wordsOf (b * q)).length ≤ (wordsOf b).length + 1 := words_len _ _ (by
      rw [Nat.pow_succ]
      have h1 := words_lt b
      have h2 : b * q ≤ b * 1000000000 := Nat.mul_le_mul_left _ (by omega)
      have h3 : b * 1000000000 < 1000000000 ^ (wordsOf b).length * 1000000000 := Nat.mul_lt_mul_of_pos_right h1 (by omega)
      omega)
    have HFX := Lib.hid hfx
    clear hfx
    have hch3 : Ch (fun k => k = w.heap.size + 2 ∨ k = w.heap.size + 3) W1 w3' := (HC12.out.mono (fun k _ h => .inl h)).trans (.of_below hb23)
    have HCH := Lib.hid hch3
    have d3b := kb3.cell
    clear d3 d5 kb2 kq2 kr2 kw2 hbw2 hN2 cG hh3 hw3' hq1 hq2 hRlt hch3
    gi_wp2
    refine ⟨trivial, ?_⟩
    refine (CallsIn.inRound l (callsIn_wide.2 cM)).mono ?_
    rintro e W4 ⟨x4, rfl, hx4, hb4⟩
    obtain ⟨pp, cp, rfl⟩ := hx4.shape
    have hb34 : Below w3'.heap.size w3' W4 := ba3.trans (hb4.mono ba3.size)
    have kb4 : Boxed W4 w.heap.size 86 (.slice p2 (wordsOf b).length c2) := (hb34.block _ kb3.lt).trans kb3
    have kq4 : Boxed W4 (w.heap.size + 1) 86 (.slice (some ⟨w.heap.size + 3, 0, none⟩) A.length A.length) := (hb34.block _ kq3.lt).trans kq3
    have kr4 : Boxed W4 (w.heap.size + 2) 86 (.slice pu (wordsOf R).length cu) := (hb34.block _ kr3.lt).trans kr3
    have kw4 : RowIs W4 (w.heap.size + 3) Q := (hb34.block _ kw3.lt).trans kw3
    have hbw4 : Below w.heap.size w W4 := hbw3.trans (hb34.mono hbw3.size)
    have hR4 := hN3.later hb34
    have hbig4 : w.heap.size + 5 ≤ W4.heap.size := by have := hb34.size; omega
    have hch4 := HCH.out.trans (.of_below hb34)
    have cC := compare_any _ _ (b * q) R (by omega) W4 hx4 hR4
    have d5 := kr4.cell
    have HCH4 := Lib.hid hch4
    clear hb4 hb34 kb3 kq3 kr3 kw3 hbw3 hN3 cM ba3 d3b hch4 HCH hb23
    gi_wp2
    refine ⟨trivial, ?_⟩
    obtain ⟨z1, z2, z3, z4⟩ := HFX.out
    obtain ⟨Z, hZ⟩ : ∃ Z, sgnN (b * q) R = Z := ⟨_, rfl⟩
    rw [hZ] at cC
    refine (CallsIn.inRound l (callsIn_wide.2 cC)).mono ?_
    rintro e V ⟨rfl, hb5⟩
    have kbV : Boxed V w.heap.size 86 (.slice p2 (wordsOf b).length c2) := (hb5.block _ kb4.lt).trans kb4
    have kqV : Boxed V (w.heap.size + 1) 86 (.slice (some ⟨w.heap.size + 3, 0, none⟩) A.length A.length) := (hb5.block _ kq4.lt).trans kq4
    have krV : Boxed V (w.heap.size + 2) 86 (.slice pu (wordsOf R).length cu) := (hb5.block _ kr4.lt).trans kr4
    have kwV : RowIs V (w.heap.size + 3) Q := (hb5.block _ kw4.lt).trans kw4
    have hbVw : Below w.heap.size w V := hbw4.trans (hb5.mono hbw4.size)
    have hRV := hR4.later hb5
    have hNV := hx4.later hb5
    have hbigV : w.heap.size + 5 ≤ V.heap.size := Nat.le_trans hbig4 hb5.size
    have hchV := HCH4.out.trans (.of_below hb5)
    have f3 := kbV.cell
    clear hb5 kb4 kq4 kr4 kw4 hbw4 hR4 hx4 hbig4 cC d5 HCH4
    by_cases hgt : R < b * q
    · obtain ⟨y1, y2, y3, y4⟩ := z1 hgt
      have hZ1 : 0 < Z := by rw [← hZ]; unfold sgnN; rw [if_neg (by omega), if_pos hgt]; decide
      obtain ⟨q', hq'⟩ : ∃ q', R / b = q' := ⟨_, rfl⟩
      rw [hq'] at y2 y3 z3 z4
      have hqz : (q : Int) - 1 = (q' : Int) := by omega
      have cS0 := subtract_any _ _ (wordsOf (b * q)) (wordsOf b) (small_wordsOf _) (small_wordsOf b) (by omega) (by omega) (by rw [val_wordsOf, val_wordsOf]; exact y4) V hNV (hv.later hbVw)
      rw [val_wordsOf, val_wordsOf, y3] at cS0
      have HZ := Lib.hid (And.intro z3 (And.intro z4 (And.intro hq' HM.out)))
      have hlq : (wordsOf (b * q')).length ≤ (wordsOf R).length := words_len _ _ (Nat.lt_of_le_of_lt z3 (words_lt R))
      have HLQ := Lib.hid hlq
      clear z1 z2 z3 z4 y2 y3 y4 hgt hq' hZ hlp hlq hv
      gi_wp2
      refine ⟨trivial, ?_⟩
      refine (CallsIn.inRound l (callsIn_wide.2 cS0)).mono ?_
      rintro e V6 ⟨x6, rfl, hN6, hb6⟩
      obtain ⟨pp', cp', rfl⟩ := hN6.shape
      have kb6 : Boxed V6 w.heap.size 86 (.slice p2 (wordsOf b).length c2) := (hb6.block _ kbV.lt).trans kbV
      have kq6 : Boxed V6 (w.heap.size + 1) 86 (.slice (some ⟨w.heap.size + 3, 0, none⟩) A.length A.length) := (hb6.block _ kqV.lt).trans kqV
      have kr6 : Boxed V6 (w.heap.size + 2) 86 (.slice pu (wordsOf R).length cu) := (hb6.block _ krV.lt).trans krV
      have kw6 : RowIs V6 (w.heap.size + 3) Q := (hb6.block _ kwV.lt).trans kwV
      have hbw6 : Below w.heap.size w V6 := hbVw.trans (hb6.mono hbVw.size)
      have hR6 := hRV.later hb6
      have hbig6 : w.heap.size + 5 ≤ V6.heap.size := Nat.le_trans hbigV hb6.size
      have hch6 := hchV.trans (.of_below hb6)
      gi_wp2
      have g1 := kq6.cell
      have g2 := kr6.cell
      obtain ⟨lp', hlp'⟩ : ∃ lp', (wordsOf (b * q')).length = lp' := ⟨_, rfl⟩
      rw [hlp'] at hN6 ⊢
      have HLP := Lib.hid hlp'
      clear hlp'
      have cS : ∀ X, Below V6.heap.size V6 X → X.heap.size = V6.heap.size → Calls Tryz.prog 140 #[.slice pu (wordsOf R).length cu, .slice pp' lp' cp'] X fun e w' => e = .returned (.slice (some ⟨V6.heap.size, 0, none⟩) (wordsOf (R % b)).length (wordsOf R).length) ∧ Nats w' (.slice (some ⟨V6.heap.size, 0, none⟩) (wordsOf (R % b)).length (wordsOf R).length) (wordsOf (R % b)) ∧ Below X.heap.size X w' := fun X hX hXs => by
        have := subtract_at (.slice pu (wordsOf R).length cu) (.slice pp' lp' cp') (wordsOf R) (wordsOf (b * q')) (small_wordsOf R) (small_wordsOf _) (by omega) (by have := HLQ.out; omega) (by rw [val_wordsOf, val_wordsOf]; exact HZ.out.1) X (hR6.later hX) (hN6.later hX)
        rw [val_wordsOf, val_wordsOf, HZ.out.2.1, hXs] at this
        rw [hXs]
        exact this
      have HF := Lib.hid (fun V2 hx2 hb2 => div_end (w := w) (W := W) (V := V6) (V2 := V2) (p1 := p1) (p2 := p2) (pu := pu) (c1 := c1) (c2 := c2) (cu := cu) (lb := (wordsOf b).length) (lR := (wordsOf R).length) (A := A) (Q := Q) (b := b) (i := i) (y := y) (R := R) (q := q') (D := w3.heap.size) (pre := pre) hz5 HM.out.1 HM.out.2.1 HM.out.2.2.1 (by rw [← HZ.out.2.2.1]; exact HM.out.2.2.2.1) (by rw [← HZ.out.2.2.1]; exact HM.out.2.2.2.2.1) HM.out.2.2.2.2.2 hu kb6 kq6 kr6 kw6 hbw6 hbig6 ((Ch.of_below HB1.out).trans hch6) (Nat.le_of_lt hlt) hx2 hb2)
      have hil : (i : Int) < (A.length : Int) := by have := HM.out.1; omega
      have hi0 : (0 : Int) ≤ (i : Int) := by omega
      clear hN6 hR6 kb6 kw6 hbw6 hbig6 hch6 HZ HLQ hNV hRV kbV kqV krV kwV hbVw hbigV hchV hb6
      refine wpIn_region_any (by kernel_rfl) (any_round l _ (fun h => by obtain ⟨_, _, h⟩ := h; exact h) (by rintro (_ | _ | _ | _ | _ | _ | _ | _ | _ | j) o ho c hc <;> (first | (cases ho; cases hc) | cases ho)) _ _ _ _ ?_)
      try (change wpAny _ _ _ _ _ _ _ (World.drew _))
      refine wpAny_take (i := 1) (v := .int .i64 (i : Int)) rfl (by kernel_rfl) (by kernel_rfl) (by kernel_rfl) (fun _ _ _ h => h) (Or.inl ⟨by rfl, ?_⟩) ?_
      · intro w; go_simp
      refine wpAny_take (i := 2) (v := .int .u32 (q' : Int)) rfl (by kernel_rfl) (by kernel_rfl) (by kernel_rfl) (fun _ _ _ h => h) (Or.inl ⟨by rfl, ?_⟩) ?_
      · intro w; go_simp
      refine wpAny_take (i := 4) (v := .slice pp' lp' cp') rfl (by kernel_rfl) (by kernel_rfl) (by kernel_rfl) (fun _ _ _ h => h) (Or.inl ⟨by rfl, ?_⟩) ?_
      · intro w; go_simp
      refine wpAny_ready (rs := [0, 3]) (by kernel_rfl) (by simp) (AllReady.cons rfl (fun K hK => ?_) (AllReady.cons rfl (fun K hK => ?_) AllReady.nil))
      · go_simp
        refine hK _ _ ?_
        clear hK K
        refine wpAny_ready (rs := [3]) (by kernel_rfl) (by simp) (AllReady.cons rfl (fun K hK => ?_) AllReady.nil)
        go_simp
        refine hK _ _ ?_
        clear hK K
        refine wpAny_ready (rs := [5]) (by kernel_rfl) (by simp) (AllReady.cons rfl (fun K hK => ?_) AllReady.nil)
        go_simp
        refine (cS V6.drew (Below.refl V6.heap.size V6).drew rfl).mono ?_
        rintro e V2 ⟨rfl, hx2, hb2⟩
        have hb2 : Below V6.heap.size V6 V2 := (by first | exact hb2 | exact (Below.refl _ V6).drew.trans hb2)
        obtain ⟨e1, e2, e3, e4, e5, e7⟩ := HF.out V2 hx2 hb2
        have E7 := Lib.hid e7
        clear e7 hx2 hb2
        refine hK _ _ ?_
        clear hK K
        refine wpAny_ready (rs := [6]) (by kernel_rfl) (by simp) (AllReady.cons rfl (fun K hK => ?_) AllReady.nil)
        go_simp
        refine hK _ _ ?_
        clear hK K
        refine wpAny_ready (rs := [7]) (by kernel_rfl) (by simp) (AllReady.cons rfl (fun K hK => ?_) AllReady.nil)
        go_simp
        refine hK _ _ ?_
        clear hK K
        refine wpAny_ready (rs := [8]) (by kernel_rfl) (by simp) (AllReady.cons rfl (fun K hK => ?_) AllReady.nil)
        go_simp
        refine hK _ _ ?_
        clear hK K
        refine wpAny_done (by kernel_rfl) ?_ _
        exact E7.out { tmps := #[], defers := [] }
      · go_simp
        refine hK _ _ ?_
        clear hK K
        refine wpAny_ready (rs := [0, 5]) (by kernel_rfl) (by simp) (AllReady.cons rfl (fun K hK => ?_) (AllReady.cons rfl (fun K hK => ?_) AllReady.nil))
        · go_simp
          refine hK _ _ ?_
          clear hK K
          refine wpAny_ready (rs := [5]) (by kernel_rfl) (by simp) (AllReady.cons rfl (fun K hK => ?_) AllReady.nil)
          go_simp
          refine (cS V6.drew (Below.refl V6.heap.size V6).drew rfl).mono ?_
          rintro e V2 ⟨rfl, hx2, hb2⟩
          have hb2 : Below V6.heap.size V6 V2 := (by first | exact hb2 | exact (Below.refl _ V6).drew.trans hb2)
          obtain ⟨e1, e2, e3, e4, e5, e7⟩ := HF.out V2 hx2 hb2
          have E7 := Lib.hid e7
          clear e7 hx2 hb2
          refine hK _ _ ?_
          clear hK K
          refine wpAny_ready (rs := [6]) (by kernel_rfl) (by simp) (AllReady.cons rfl (fun K hK => ?_) AllReady.nil)
          go_simp
          refine hK _ _ ?_
          clear hK K
          refine wpAny_ready (rs := [7]) (by kernel_rfl) (by simp) (AllReady.cons rfl (fun K hK => ?_) AllReady.nil)
          go_simp
          refine hK _ _ ?_
          clear hK K
          refine wpAny_ready (rs := [8]) (by kernel_rfl) (by simp) (AllReady.cons rfl (fun K hK => ?_) AllReady.nil)
          go_simp
          refine hK _ _ ?_
          clear hK K
          refine wpAny_done (by kernel_rfl) ?_ _
          exact E7.out { tmps := #[], defers := [] }
        · go_simp
          refine (cS V6.drew (Below.refl V6.heap.size V6).drew rfl).mono ?_
          rintro e V2 ⟨rfl, hx2, hb2⟩
          have hb2 : Below V6.heap.size V6 V2 := (by first | exact hb2 | exact (Below.refl _ V6).drew.trans hb2)
          obtain ⟨e1, e2, e3, e4, e5, e7⟩ := HF.out V2 hx2 hb2
          have E7 := Lib.hid e7
          clear e7 hx2 hb2
          refine hK _ _ ?_
          clear hK K
          refine wpAny_ready (rs := [0]) (by kernel_rfl) (by simp) (AllReady.cons rfl (fun K hK => ?_) AllReady.nil)
          go_simp
          refine hK _ _ ?_
          clear hK K
          refine wpAny_ready (rs := [6]) (by kernel_rfl) (by simp) (AllReady.cons rfl (fun K hK => ?_) AllReady.nil)
          go_simp
          refine hK _ _ ?_
          clear hK K
          refine wpAny_ready (rs := [7]) (by kernel_rfl) (by simp) (AllReady.cons rfl (fun K hK => ?_) AllReady.nil)
          go_simp
          refine hK _ _ ?_
          clear hK K
          refine wpAny_ready (rs := [8]) (by kernel_rfl) (by simp) (AllReady.cons rfl (fun K hK => ?_) AllReady.nil)
          go_simp
          refine hK _ _ ?_
          clear hK K
          refine wpAny_done (by kernel_rfl) ?_ _
          exact E7.out { tmps := #[], defers := [] }
    · have hZ0 : ¬ 0 < Z := by rw [← hZ]; unfold sgnN; rcases Nat.lt_or_ge (b * q) R with h | h; (rw [if_pos h]; decide); rw [if_neg (by omega), if_neg hgt]; decide
      have hqq := z2 hgt
      obtain ⟨q', hq'⟩ : ∃ q', R / b = q' := ⟨_, rfl⟩
      rw [hq'] at hqq z3 z4
      subst hqq
      have HZ := Lib.hid (And.intro z3 (And.intro z4 (And.intro hq' HM.out)))
      have hlq : (wordsOf (b * q)).length ≤ (wordsOf R).length := words_len _ _ (Nat.lt_of_le_of_lt z3 (words_lt R))
      have HLQ := Lib.hid hlq
      clear z1 z2 z3 z4 hgt hq' hZ hlp hlq hv
      gi_wp2
      have g1 := kqV.cell
      have g2 := krV.cell
      obtain ⟨lp', hlp'⟩ : ∃ lp', (wordsOf (b * q)).length = lp' := ⟨_, rfl⟩
      rw [hlp'] at hNV ⊢
      have HLP := Lib.hid hlp'
      clear hlp'
      have cS : ∀ X, Below V.heap.size V X → X.heap.size = V.heap.size → Calls Tryz.prog 140 #[.slice pu (wordsOf R).length cu, .slice pp lp' cp] X fun e w' => e = .returned (.slice (some ⟨V.heap.size, 0, none⟩) (wordsOf (R % b)).length (wordsOf R).length) ∧ Nats w' (.slice (some ⟨V.heap.size, 0, none⟩) (wordsOf (R % b)).length (wordsOf R).length) (wordsOf (R % b)) ∧ Below X.heap.size X w' := fun X hX hXs => by
        have := subtract_at (.slice pu (wordsOf R).length cu) (.slice pp lp' cp) (wordsOf R) (wordsOf (b * q)) (small_wordsOf R) (small_wordsOf _) (by omega) (by have := HLQ.out; omega) (by rw [val_wordsOf, val_wordsOf]; exact HZ.out.1) X (hRV.later hX) (hNV.later hX)
        rw [val_wordsOf, val_wordsOf, HZ.out.2.1, hXs] at this
        rw [hXs]
        exact this
      have HF := Lib.hid (fun V2 hx2 hb2 => div_end (w := w) (W := W) (V := V) (V2 := V2) (p1 := p1) (p2 := p2) (pu := pu) (c1 := c1) (c2 := c2) (cu := cu) (lb := (wordsOf b).length) (lR := (wordsOf R).length) (A := A) (Q := Q) (b := b) (i := i) (y := y) (R := R) (q := q) (D := w3.heap.size) (pre := pre) hz5 HM.out.1 HM.out.2.1 HM.out.2.2.1 (by rw [← HZ.out.2.2.1]; exact HM.out.2.2.2.1) (by rw [← HZ.out.2.2.1]; exact HM.out.2.2.2.2.1) HM.out.2.2.2.2.2 hu kbV kqV krV kwV hbVw hbigV ((Ch.of_below HB1.out).trans hchV) (Nat.le_of_lt hlt) hx2 hb2)
      have hil : (i : Int) < (A.length : Int) := by have := HM.out.1; omega
      have hi0 : (0 : Int) ≤ (i : Int) := by omega
      clear hNV hRV kbV kwV hbVw hbigV hchV HZ HLQ
      refine wpIn_region_any (by kernel_rfl) (any_round l _ (fun h => by obtain ⟨_, _, h⟩ := h; exact h) (by rintro (_ | _ | _ | _ | _ | _ | _ | _ | _ | j) o ho c hc <;> (first | (cases ho; cases hc) | cases ho)) _ _ _ _ ?_)
      try (change wpAny _ _ _ _ _ _ _ (World.drew _))
      refine wpAny_take (i := 1) (v := .int .i64 (i : Int)) rfl (by kernel_rfl) (by kernel_rfl) (by kernel_rfl) (fun _ _ _ h => h) (Or.inl ⟨by rfl, ?_⟩) ?_
      · intro w; go_simp
      refine wpAny_take (i := 2) (v := .int .u32 (q : Int)) rfl (by kernel_rfl) (by kernel_rfl) (by kernel_rfl) (fun _ _ _ h => h) (Or.inl ⟨by rfl, ?_⟩) ?_
      · intro w; go_simp
      refine wpAny_take (i := 4) (v := .slice pp lp' cp) rfl (by kernel_rfl) (by kernel_rfl) (by kernel_rfl) (fun _ _ _ h => h) (Or.inl ⟨by rfl, ?_⟩) ?_
      · intro w; go_simp
      refine wpAny_ready (rs := [0, 3]) (by kernel_rfl) (by simp) (AllReady.cons rfl (fun K hK => ?_) (AllReady.cons rfl (fun K hK => ?_) AllReady.nil))
      · go_simp
        refine hK _ _ ?_
        clear hK K
        refine wpAny_ready (rs := [3]) (by kernel_rfl) (by simp) (AllReady.cons rfl (fun K hK => ?_) AllReady.nil)
        go_simp
        refine hK _ _ ?_
        clear hK K
        refine wpAny_ready (rs := [5]) (by kernel_rfl) (by simp) (AllReady.cons rfl (fun K hK => ?_) AllReady.nil)
        go_simp
        refine (cS V.drew (Below.refl V.heap.size V).drew rfl).mono ?_
        rintro e V2 ⟨rfl, hx2, hb2⟩
        have hb2 : Below V.heap.size V V2 := (by first | exact hb2 | exact (Below.refl _ V).drew.trans hb2)
        obtain ⟨e1, e2, e3, e4, e5, e7⟩ := HF.out V2 hx2 hb2
        have E7 := Lib.hid e7
        clear e7 hx2 hb2
        refine hK _ _ ?_
        clear hK K
        refine wpAny_ready (rs := [6]) (by kernel_rfl) (by simp) (AllReady.cons rfl (fun K hK => ?_) AllReady.nil)
        go_simp
        refine hK _ _ ?_
        clear hK K
        refine wpAny_ready (rs := [7]) (by kernel_rfl) (by simp) (AllReady.cons rfl (fun K hK => ?_) AllReady.nil)
        go_simp
        refine hK _ _ ?_
        clear hK K
        refine wpAny_ready (rs := [8]) (by kernel_rfl) (by simp) (AllReady.cons rfl (fun K hK => ?_) AllReady.nil)
        go_simp
        refine hK _ _ ?_
        clear hK K
        refine wpAny_done (by kernel_rfl) ?_ _
        exact E7.out { tmps := #[], defers := [] }
      · go_simp
        refine hK _ _ ?_
        clear hK K
        refine wpAny_ready (rs := [0, 5]) (by kernel_rfl) (by simp) (AllReady.cons rfl (fun K hK => ?_) (AllReady.cons rfl (fun K hK => ?_) AllReady.nil))
        · go_simp
          refine hK _ _ ?_
          clear hK K
          refine wpAny_ready (rs := [5]) (by kernel_rfl) (by simp) (AllReady.cons rfl (fun K hK => ?_) AllReady.nil)
          go_simp
          refine (cS V.drew (Below.refl V.heap.size V).drew rfl).mono ?_
          rintro e V2 ⟨rfl, hx2, hb2⟩
          have hb2 : Below V.heap.size V V2 := (by first | exact hb2 | exact (Below.refl _ V).drew.trans hb2)
          obtain ⟨e1, e2, e3, e4, e5, e7⟩ := HF.out V2 hx2 hb2
          have E7 := Lib.hid e7
          clear e7 hx2 hb2
          refine hK _ _ ?_
          clear hK K
          refine wpAny_ready (rs := [6]) (by kernel_rfl) (by simp) (AllReady.cons rfl (fun K hK => ?_) AllReady.nil)
          go_simp
          refine hK _ _ ?_
          clear hK K
          refine wpAny_ready (rs := [7]) (by kernel_rfl) (by simp) (AllReady.cons rfl (fun K hK => ?_) AllReady.nil)
          go_simp
          refine hK _ _ ?_
          clear hK K
          refine wpAny_ready (rs := [8]) (by kernel_rfl) (by simp) (AllReady.cons rfl (fun K hK => ?_) AllReady.nil)
          go_simp
          refine hK _ _ ?_
          clear hK K
          refine wpAny_done (by kernel_rfl) ?_ _
          exact E7.out { tmps := #[], defers := [] }
        · go_simp
          refine (cS V.drew (Below.refl V.heap.size V).drew rfl).mono ?_
          rintro e V2 ⟨rfl, hx2, hb2⟩
          have hb2 : Below V.heap.size V V2 := (by first | exact hb2 | exact (Below.refl _ V).drew.trans hb2)
          obtain ⟨e1, e2, e3, e4, e5, e7⟩ := HF.out V2 hx2 hb2
          have E7 := Lib.hid e7
          clear e7 hx2 hb2
          refine hK _ _ ?_
          clear hK K
          refine wpAny_ready (rs := [0]) (by kernel_rfl) (by simp) (AllReady.cons rfl (fun K hK => ?_) AllReady.nil)
          go_simp
          refine hK _ _ ?_
          clear hK K
          refine wpAny_ready (rs := [6]) (by kernel_rfl) (by simp) (AllReady.cons rfl (fun K hK => ?_) AllReady.nil)
          go_simp
          refine hK _ _ ?_
          clear hK K
          refine wpAny_ready (rs := [7]) (by kernel_rfl) (by simp) (AllReady.cons rfl (fun K hK => ?_) AllReady.nil)
          go_simp
          refine hK _ _ ?_
          clear hK K
          refine wpAny_ready (rs := [8]) (by kernel_rfl) (by simp) (AllReady.cons rfl (fun K hK => ?_) AllReady.nil)
          go_simp
          refine hK _ _ ?_
          clear hK K
          refine wpAny_done (by kernel_rfl) ?_ _
          exact E7.out { tmps := #[], defers := [] }
  case done =>
    rintro D xs W hD hS HI hdef
    have hlen : xs.length = A.length := by rw [hS]; unfold bwL; simp
    obtain ⟨Q, hQ, hQl, hQs, hQv⟩ := HI.row
    obtain ⟨pr, cr, hrb, hrN⟩ := HI.rest
    rw [hlen, Nat.sub_self, List.drop_zero, List.drop_zero, hvA] at hQv
    rw [hlen, Nat.sub_self, List.drop_zero, hvA] at hrb hrN
    have htr := trimW_words Q hQs
    rw [hQv] at htr
    have hQN : Nats W (.slice (some ⟨w.heap.size + 3, 0, none⟩) Q.length A.length) Q := hQ.nats A.length (by omega)
    have cT := fun X (hX : Below W.heap.size W X) => trimmed_at (some ⟨w.heap.size + 3, 0, none⟩) A.length Q (by omega) X (hQN.later hX)
    rw [htr, hQl] at cT
    have kq := HI.quo
    have hbw := HI.below
    have hDl : D < W.heap.size := (Array.getElem?_eq_some_iff.1 hdef).1
    have e1 := kq.cell
    have e2 := kq.frozen
    have e3 := hrb.cell
    have e4 := hrb.frozen
    have hN2 : Nats W (.slice (some ⟨w.heap.size + 3, 0, none⟩) (wordsOf (a / b)).length A.length) (wordsOf (a / b)) := by
      have := trim_sub (hQN)
      rw [htr] at this
      exact this
    obtain ⟨W2, hW2⟩ : ∃ W2, ((W.setCell ⟨w.heap.size + 1, 0, none⟩ (.slice (some ⟨w.heap.size + 3, 0, none⟩) (wordsOf (a / b)).length A.length)).setCell ⟨w.heap.size + 1 + 1, 0, none⟩ (.slice pr (wordsOf (a % b)).length cr)).drew = W2 := ⟨_, rfl⟩
    have kq2 : Boxed W2 (w.heap.size + 1) 86 (.slice (some ⟨w.heap.size + 3, 0, none⟩) (wordsOf (a / b)).length A.length) := by
      rw [← hW2]; exact (Boxed.set _ kq).other (by omega) _
    have kr2 : Boxed W2 (w.heap.size + 2) 86 (.slice pr (wordsOf (a % b)).length cr) := by
      rw [← hW2]; exact Boxed.set _ (Boxed.other hrb (by omega) _)
    have hbw2 : Below w.heap.size w W2 := by
      rw [← hW2]; exact ((hbw.setCell (p := ⟨w.heap.size + 1, 0, none⟩) (by simp) _).setCell (p := ⟨w.heap.size + 1 + 1, 0, none⟩) (by simp; omega) _).drew
    have hx2 : Nats W2 (.slice (some ⟨w.heap.size + 3, 0, none⟩) (wordsOf (a / b)).length A.length) (wordsOf (a / b)) := by
      rw [← hW2]; exact hN2.at_block ((Below.heap_setCell _ _ _ _ (by simp)).trans (Below.heap_setCell _ _ _ _ (by simp)))
    have hy2 : Nats W2 (.slice pr (wordsOf (a % b)).length cr) (wordsOf (a % b)) := by
      rw [← hW2]
      refine Nats.setCell (p := ⟨w.heap.size + 1 + 1, 0, none⟩) (v := .slice pr (wordsOf (a % b)).length cr) ?_ _ ?_ (by simp)
      · exact Nats.setCell (p := ⟨w.heap.size + 1, 0, none⟩) (v := .slice (some ⟨w.heap.size + 3, 0, none⟩) A.length A.length) hrN _ e1 (by simp)
      · exact (World.cell?_setCell_other _ _ _ _ (by simp)).trans e3
    have hdef2 : W2.heap[D]? = some (.deferred (some [])) := by
      rw [← hW2]
      exact (Below.heap_setCell _ _ _ _ (by simp; omega)).trans ((Below.heap_setCell _ _ _ _ (by simp; omega)).trans hdef)
    have HH := Lib.hid (And.intro kq2 (And.intro kr2 (And.intro hbw2 (And.intro hx2 (And.intro hy2 hdef2)))))
    have HW2 := Lib.hid hW2
    have HD := Lib.hid hD
    clear hseq h0 HI hS hlen hQ hQl hQs hQv hrN hrb htr hQN kq hN2 hW2 kq2 kr2 hbw2 hx2 hy2 hdef2 hdef hu hv hvA hsA hD
    gi_wp2
    refine wpIn_wide.2 ?_
    go_region_with (first | (go_at_call 136; refine (cT _ (by first | exact (Below.refl _ _).drew | exact Below.refl _ _)).mono ?_; rintro e W1 ⟨rfl, _, rfl⟩))
    all_goals
      rw [HW2.out]
      obtain ⟨kq2, kr2, hbw2, hx2, hy2, hdef2⟩ := HH.out
      have hDD := HD.out
      have HF := Lib.hid (And.intro kq2 (And.intro kr2 (And.intro hbw2 (And.intro hx2 (And.intro hy2 hDD)))))
      clear kq2 kr2 hbw2 hx2 hy2 hDD HH HW2 e1 e2 e3 e4 cT
      gi_wp2
      obtain ⟨kq2, kr2, hbw2, hx2, hy2, hDD⟩ := HF.out
      refine ⟨by simp, .inl ⟨_, _, rfl, run_takeDeferred hdef2, ?_⟩⟩
      refine ⟨_, res_div (Boxed.put kq2 _ (by omega)) (Boxed.put kr2 _ (by omega)) _ rfl rfl, _, _, rfl, hx2.put _ hdef2 rfl, hy2.put _ hdef2 rfl, ?_⟩
      exact hbw2.trans (Ch.below (R := fun k => k = D) (Ch.of_grown (grownBy_putObj' _ _ _) (fun k e => (Option.some.inj e).symm)) hbw2.size (fun k hk e => by omega))
  case stop =>
    rintro D c pre W _ _ h _
    exact h.elim
end Go.Proofs.YtgmnjghbafbopaaGreatDoor

/- What the rounds of (*coll.description).list stand on. -/
import Derived.Test.YtgjjmapfdijphaaDoorCoRound
import Derived.Test.YtgjjmapfdijphaaDoorCoCat
import Derived.Test.YtgjjmapfdijphaaDoorCoIgn
namespace Go.Proofs.YtgjjmapfdijphaaDoor
open Go.RowKit Go.Lib Go.Shelf
attribute [local go_sem] Oper.semAt_some

theorem Ch.over {R R2 : Nat → Prop} {a b c : World} (h : Ch R a b) (k : Ch R2 b c) (hR : ∀ k, R2 k → a.heap.size ≤ k) : Ch R a c :=
  ⟨k.os.trans h.os, k.tape.trans h.tape, k.output.trans h.output, Nat.le_trans h.size k.size, fun i hi hn => (k.block i (Nat.lt_of_lt_of_le hi h.size) (fun hr => by have := hR i hr; omega)).trans (h.block i hi hn)⟩
/-- What a round of list stands on: B the loop's first block. -/
structure LI (B p mb b2 b4 b5 A : Nat) (d : Ds) (XS : List (List UInt8)) (w : World) (r : Int) (last : Wt) (es : List (Nat × Wt)) (W : World) : Prop where
  ds : DsAt W p mb { d with last := last }
  row : ∃ v, Boxed W b5 114 v ∧ W.ownsRow B 118 4 v es.length (entCells es)
  bx : Boxed W b2 62 (.pointer (some ⟨p, 0, none⟩))
  res : Boxed W b4 29 (.int .i64 r)
  cc : ∀ (j : Nat) x, XS[j]? = some x → W.cell? ⟨A, 0 + j, none⟩ = some (.string ⟨x.toArray⟩)
  ch : Ch (fun k => k = p ∨ k = mb) w W
  B : p < b2 ∧ mb < b2 ∧ b2 < b4 ∧ b4 < b5 ∧ b5 < A ∧ A < B ∧ w.heap.size ≤ b2
/-- What is no cells, and lies behind. -/
theorem LI.other {B p mb b2 b4 b5 A : Nat} {d : Ds} {XS : List (List UInt8)} {w : World} {r : Int} {last : Wt} {es : List (Nat × Wt)} {W W' : World} (h : LI B p mb b2 b4 b5 A d XS w r last es W) (hw : w.heap.size ≤ B)
    {R : Nat → Prop} (hc : Ch R W W') (hR : ∀ k, R k → B ≤ k ∧ ∃ o : Obj, W.heap[k]? = some o ∧ o.isCells = false) : LI B p mb b2 b4 b5 A d XS w r last es W' := by
  have hsame : ∀ k, k < B → k < W.heap.size → W'.heap[k]? = W.heap[k]? := fun k hk hl => hc.block k hl (fun hr => by have := (hR k hr).1; omega)
  obtain ⟨g1, g2, g3, g4, g5, g6, _⟩ := h.B
  obtain ⟨v, hv, hrow⟩ := h.row
  refine ⟨h.ds.later (hsame _ (by omega) h.ds.lt.1) (hsame _ (by omega) h.ds.lt.2), ⟨v, (hsame _ (by omega) hv.lt).trans hv, ?_⟩, (hsame _ (by omega) h.bx.lt).trans h.bx, (hsame _ (by omega) h.res.lt).trans h.res, fun j x hj => ?_, ?_, h.B⟩
  · rcases hrow.2 with ⟨rfl, h0⟩ | ⟨g, cap, cur, rfl, hb, hgb, rest⟩
    · exact ⟨hrow.1, .inl ⟨rfl, h0⟩⟩
    · refine ⟨hrow.1, .inr ⟨g, cap, cur, rfl, hb, (hc.block g (Array.getElem?_eq_some_iff.1 hgb).1 (fun hr => ?_)).trans hgb, rest⟩⟩
      obtain ⟨_, o, ho, hcc⟩ := hR g hr
      rw [hgb] at ho; cases ho; cases hcc
  · have hx := h.cc j x hj
    rw [World.cell?_of_block (hsame A (by omega) (lt_of_cell hx))]; exact hx
  · exact ⟨hc.os.trans h.ch.os, hc.tape.trans h.ch.tape, hc.output.trans h.ch.output, Nat.le_trans h.ch.size hc.size, fun k hk hn => (hc.block k (Nat.lt_of_lt_of_le hk h.ch.size) (fun hr => by have := (hR k hr).1; omega)).trans (h.ch.block k hk hn)⟩
theorem LI.later {B p mb b2 b4 b5 A : Nat} {d : Ds} {XS : List (List UInt8)} {w : World} {r : Int} {last : Wt} {es : List (Nat × Wt)} {W W' : World} (h : LI B p mb b2 b4 b5 A d XS w r last es W) (hw : w.heap.size ≤ B) (hb : Below W.heap.size W W') : LI B p mb b2 b4 b5 A d XS w r last es W' :=
  h.other hw (R := fun _ => False) (Ch.of_below hb) (fun _ h => h.elim)
/-- The result is written. -/
theorem LI.ret {B p mb b2 b4 b5 A : Nat} {d : Ds} {XS : List (List UInt8)} {w : World} {r : Int} {last : Wt} {es : List (Nat × Wt)} {W : World} (h : LI B p mb b2 b4 b5 A d XS w r last es W) (r' : Int) : LI B p mb b2 b4 b5 A d XS w r' last es (W.setCell ⟨b4, 0, none⟩ (.int .i64 r')) := by
  obtain ⟨g1, g2, g3, g4, g5, g6, g7⟩ := h.B
  obtain ⟨v, hv, hrow⟩ := h.row
  have hs : ∀ k, k ≠ b4 → (W.setCell ⟨b4, 0, none⟩ (.int .i64 r')).heap[k]? = W.heap[k]? := fun k hk => Below.heap_setCell _ _ _ _ hk
  refine ⟨h.ds.later (hs _ (by omega)) (hs _ (by omega)), ⟨v, (hs _ (by omega)).trans hv, ?_⟩, (hs _ (by omega)).trans h.bx, h.res.set _, fun j x hj => ?_, h.ch.over (Ch.of_grown (grownBy_setCell' _ _ _) (fun k e => (Option.some.inj e).symm)) (fun k hk => by have : k = b4 := hk; omega), h.B⟩
  · refine hrow.kept (grownBy_setCell' _ _ _) ?_
    refine .inr fun e => ?_
    have := (hrow.lt _ e).1
    omega
  · rw [World.cell?_of_block (hs A (by omega))]; exact h.cc j x hj
/-- The weights of the character before are written. -/
theorem DsAt.setLast {w : World} {p mb : Nat} {d : Ds} {l : Wt} (h : DsAt w p mb { d with last := l }) (a b c : Nat) : DsAt (((w.setCell ⟨p, 1, none⟩ (.int .i64 (a : Int))).setCell ⟨p, 2, none⟩ (.int .i64 (b : Int))).setCell ⟨p, 3, none⟩ (.int .i64 (c : Int))) p mb { d with last := (a, b, c) } := by
  refine ⟨?_, h.ne, ((h.map.setCell (by show mb ≠ p; exact h.ne) _).setCell (by show mb ≠ p; exact h.ne) _).setCell (by show mb ≠ p; exact h.ne) _⟩
  have hb := h.blk
  have hp := h.lt.1
  simp [World.setCell, Array.getElem?_modify, hb]
theorem LI.setLast {B p mb b2 b4 b5 A : Nat} {d : Ds} {XS : List (List UInt8)} {w : World} {r : Int} {last : Wt} {es : List (Nat × Wt)} {W : World} (h : LI B p mb b2 b4 b5 A d XS w r last es W) (a b c : Nat) : LI B p mb b2 b4 b5 A d XS w r (a, b, c) es (((W.setCell ⟨p, 1, none⟩ (.int .i64 (a : Int))).setCell ⟨p, 2, none⟩ (.int .i64 (b : Int))).setCell ⟨p, 3, none⟩ (.int .i64 (c : Int))) := by
  obtain ⟨g1, g2, g3, g4, g5, g6, g7⟩ := h.B
  obtain ⟨v, hv, hrow⟩ := h.row
  have hc : Ch (fun k => k = p) W (((W.setCell ⟨p, 1, none⟩ (.int .i64 (a : Int))).setCell ⟨p, 2, none⟩ (.int .i64 (b : Int))).setCell ⟨p, 3, none⟩ (.int .i64 (c : Int))) :=
    Ch.setCell (p := ⟨p, 3, none⟩) (Ch.setCell (p := ⟨p, 2, none⟩) (Ch.setCell (p := ⟨p, 1, none⟩) (Ch.refl (fun k => k = p) W) (.inl rfl) _) (.inl rfl) _) (.inl rfl) _
  have hs := fun k hl (hk : k ≠ p) => hc.block k hl hk
  have e2 := h.bx.lt
  have e4 := h.res.lt
  have e5 := hv.lt
  refine ⟨h.ds.setLast a b c, ⟨v, (hs _ e5 (by omega)).trans hv, ?_⟩, (hs _ e2 (by omega)).trans h.bx, (hs _ e4 (by omega)).trans h.res, fun j x hj => ?_, h.ch.trans (hc.mono fun k _ e => .inl e), h.B⟩
  · rcases hrow.2 with ⟨rfl, h0⟩ | ⟨g, cap, cur, rfl, hb, hgb, rest⟩
    · exact ⟨hrow.1, .inl ⟨rfl, h0⟩⟩
    · exact ⟨hrow.1, .inr ⟨g, cap, cur, rfl, hb, (hs g (Array.getElem?_eq_some_iff.1 hgb).1 (by omega)).trans hgb, rest⟩⟩
  · have hx := h.cc j x hj
    rw [World.cell?_of_block (hs A (lt_of_cell hx) (by omega))]; exact hx
/-- An entry is appended, and the slice stored. -/
theorem LI.app {B p mb b2 b4 b5 A : Nat} {d : Ds} {XS : List (List UInt8)} {w : World} {r : Int} {last : Wt} {es : List (Nat × Wt)} {W w1 : World} (h : LI B p mb b2 b4 b5 A d XS w r last es W) {o : Obj} {v v' : Value} {es' : List (Nat × Wt)}
    (hv : Boxed W b5 114 v) (hrow : W.ownsRow B 118 4 v es.length (entCells es)) (hown : w1.ownsRow B 118 4 v' es'.length (entCells es')) (hg : (W.alloc o).grownBy w1 v.ownBlock) :
    LI B p mb b2 b4 b5 A d XS w r last es' (w1.setCell ⟨b5, 0, none⟩ v') ∧ Ch (fun k => k = b5 ∨ v.ownBlock = some k) W (w1.setCell ⟨b5, 0, none⟩ v') := by
  obtain ⟨g1, g2, g3, g4, g5, g6, g7⟩ := h.B
  have hc : Ch (fun k => k = b5 ∨ v.ownBlock = some k) W (w1.setCell ⟨b5, 0, none⟩ v') :=
    (((Ch.refl _ W).alloc o).trans (Ch.of_grown hg (fun k e => .inr e))).trans (Ch.of_grown (grownBy_setCell' _ _ _) (fun k e => .inl (Option.some.inj e).symm))
  have hR : ∀ k, (k = b5 ∨ v.ownBlock = some k) → k = b5 ∨ B ≤ k := fun k hk => hk.imp id (fun e => (hrow.lt k e).1)
  have hs : ∀ k, k < W.heap.size → k ≠ b5 → k < B → (w1.setCell ⟨b5, 0, none⟩ v').heap[k]? = W.heap[k]? := fun k hl h1 h2 => hc.block k hl (fun hr => by have := hR k hr; omega)
  have l1 := h.ds.lt.1
  have l2 := h.ds.lt.2
  have l3 := h.bx.lt
  have l4 := h.res.lt
  have hv1 : Boxed w1 b5 114 v := (hv.alloc o).kept hg (fun e => by have := (hrow.lt _ e.symm).1; omega)
  refine ⟨⟨h.ds.later (hs _ l1 (by omega) (by omega)) (hs _ l2 (by omega) (by omega)), ⟨v', hv1.set v', ?_⟩, (hs _ l3 (by omega) (by omega)).trans h.bx, (hs _ l4 (by omega) (by omega)).trans h.res, fun j x hj => ?_, h.ch.over hc (fun k hk => by have := hR k hk; have := h.ch.size; omega), h.B⟩, hc⟩
  · refine hown.kept (grownBy_setCell' _ _ _) (.inr fun e => ?_)
    have := (hown.lt _ e).1
    omega
  · have hx := h.cc j x hj
    rw [World.cell?_of_block (hs A (lt_of_cell hx) (by omega) (by omega))]; exact hx
theorem listGo_two (last : Wt) (acc : List (Nat × Wt)) (s c : List UInt8) (t : List (List UInt8)) : listGo last acc (s :: c :: t) = match signL s, charL c with
    | some lv, some ch => listGo (wtNext last lv) (acc ++ [(ch, wtNext last lv)]) t
    | _, _ => none := rfl
theorem drop_two {α : Type} (l : List α) (x : Nat) (h : x + 1 < l.length) : ∃ a b, l[x]? = some a ∧ l[x + 1]? = some b ∧ l.drop x = a :: b :: l.drop (x + 2) :=
  ⟨l[x], l[x + 1], List.getElem?_eq_getElem (by omega), List.getElem?_eq_getElem h, by rw [List.drop_eq_getElem_cons (by omega), List.drop_eq_getElem_cons h]⟩
theorem signL_le (s : List UInt8) (lv : Nat) (h : signL s = some lv) : lv ≤ 2 := by
  unfold signL at h
  split at h
  · cases h; omega
  · split at h
    · cases h; omega
    · split at h <;> cases h; omega
theorem keepsFrom_below {B : Nat} {W W' : World} (h : Below W.heap.size W W') : KeepsFrom B W W' := ⟨h.size, fun k _ _ hk _ => (h.block k (Array.getElem?_eq_some_iff.1 hk).1).trans hk⟩
theorem StrsAt.cells {w : World} {v : Value} {ws : List (List UInt8)} (h : StrsAt w v ws) (hn : ws ≠ []) : ∃ A off cap, v = .slice (some ⟨A, off, none⟩) ws.length cap ∧ ∀ (j : Nat) x, ws[j]? = some x → w.cell? ⟨A, off + j, none⟩ = some (.string ⟨x.toArray⟩) := by
  obtain ⟨a, cap, rfl, h⟩ := h
  obtain ⟨A, off, rfl, h2⟩ := h hn
  exact ⟨A, off, cap, rfl, h2⟩
theorem KeepGives.val {w w' : World} {p mb : Nat} {R : Except Nat Ds} {e : Ending} (h : KeepGives w p mb R e w') : ∃ r : Int, e = .returned (.int .i64 r) := by
  cases R with
  | ok d => exact ⟨0, h.2.1⟩
  | error k => exact ⟨k, h.2⟩
/-- The result stands, whatever else is written. -/
theorem KeepGives.on {w a b c : World} {p mb : Nat} {R : Except Nat Ds} {e : Ending} (h : KeepGives a p mb R e b) (h1 : Ch (fun k => k = p ∨ k = mb) w a)
    {R2 : Nat → Prop} (h2 : Ch R2 b c) (hR : ∀ k, R2 k → w.heap.size ≤ k) (hpw : p < w.heap.size) (hmw : mb < w.heap.size) : KeepGives w p mb R e c := by
  refine ⟨?_, ?_⟩
  · have h3 := h1.trans h.1
    exact ⟨h2.os.trans h3.os, h2.tape.trans h3.tape, h2.output.trans h3.output, Nat.le_trans h3.size h2.size, fun k hk hn => (h2.block k (Nat.lt_of_lt_of_le hk h3.size) (fun hr => by have := hR k hr; omega)).trans (h3.block k hk hn)⟩
  · cases R with
    | ok d =>
      refine ⟨h.2.1, h.2.2.later ?_ ?_⟩
      · exact h2.block _ h.2.2.lt.1 (fun hr => by have := hR _ hr; omega)
      · exact h2.block _ h.2.2.lt.2 (fun hr => by have := hR _ hr; omega)
    | error k => exact h.2
theorem res_four {W : World} {b : Nat} {z : Int} (h : Boxed W b 29 (.int .i64 z)) (tmps : Array Value) (ht : tmps.getD 4 undef = .pointer (some ⟨b, 0, none⟩)) :
    (results Tryd.f52 tmps).run Tryd.prog W = .ok (.int .i64 z) W := by
  have c := h.cell
  have ht' : tmps[4]?.getD undef = .pointer (some ⟨b, 0, none⟩) := by simpa using ht
  simp [results, Tryd.results52, go_sem, ht', c]
theorem concat_here (A2 o2 c2 : Nat) (ws : List (List UInt8)) (w : World) (q1 q2 q3 : Obj) (t1 t2 : TypeId) (hl : ws.length ≤ 1100000)
    (hvc : ∀ (j : Nat) x, ws[j]? = some x → w.cell? ⟨A2, o2 + j, none⟩ = some (.string ⟨x.toArray⟩)) :
    Calls Tryd.prog 73 #[.slice (some ⟨w.heap.size + 4, 0, none⟩) 2 2]
      (((((w.alloc q1).alloc q2).alloc q3).alloc (.cells #[.string ⟨#[60]⟩] t1)).alloc (.cells #[.slice (some ⟨w.heap.size + 3, 0, none⟩) 1 1, .slice (some ⟨A2, o2, none⟩) ws.length c2] t2)) fun e w' =>
      ∃ A cap, e = .returned (.slice (some ⟨A, 0, none⟩) (ws.length + 1) cap) ∧ ws.length + 1 ≤ cap ∧ cap ≤ maxLen ∧ w.heap.size + 3 ≤ A ∧ A < w'.heap.size ∧ (∀ (j : Nat) x, ([60] :: ws)[j]? = some x → w'.cell? ⟨A, 0 + j, none⟩ = some (.string ⟨x.toArray⟩)) ∧ Below (w.heap.size + 3) (((w.alloc q1).alloc q2).alloc q3) w' := by
  obtain ⟨Wa, hWa⟩ : ∃ Wa, ((w.alloc q1).alloc q2).alloc q3 = Wa := ⟨_, rfl⟩
  have hza : Wa.heap.size = w.heap.size + 3 := by rw [← hWa]; simp
  have hba : Below w.heap.size w Wa := by rw [← hWa]; exact (((Below.refl _ w).alloc (Nat.le_refl _) _).alloc (by simp) _).alloc (by simp; omega) _
  rw [hWa]
  rw [← hza]
  have hb : Below Wa.heap.size Wa ((Wa.alloc (.cells #[.string ⟨#[60]⟩] t1)).alloc (.cells #[.slice (some ⟨Wa.heap.size, 0, none⟩) 1 1, .slice (some ⟨A2, o2, none⟩) ws.length c2] t2)) := ((Below.refl _ Wa).alloc (Nat.le_refl _) _).alloc (by simp) _
  have hz1 : (Wa.alloc (.cells #[.string ⟨#[60]⟩] t1)).heap.size = w.heap.size + 4 := by simp [hza]
  refine (concat_any (w.heap.size + 4) Wa.heap.size 0 1 A2 o2 c2 [[60]] ws _ (by simp) (by simp; omega) ?_ ?_ ?_ ?_).mono ?_
  · rw [← hz1, cell_of_row _ _ 0 _ _ (0, 0) (heap_alloc_new _ _)]; rfl
  · rw [← hz1, cell_of_row _ _ 1 _ _ (0, 0) (heap_alloc_new _ _)]; rfl
  · intro j x hj
    cases j with
    | zero =>
      cases hj
      have h1 := (((Below.refl (Wa.heap.size + 1) (Wa.alloc (.cells #[.string ⟨#[60]⟩] t1))).alloc (by simp) (.cells #[.slice (some ⟨Wa.heap.size, 0, none⟩) 1 1, .slice (some ⟨A2, o2, none⟩) ws.length c2] t2)).cell (p := ⟨Wa.heap.size, 0 + 0, none⟩) (by simp))
      rw [h1, cell_of_row _ _ _ _ _ (0, 0) (heap_alloc_new _ _)]; rfl
    | succ j => simp at hj
  · intro j x hj
    have h1 := hvc j x hj
    exact ((hba.trans (hb.mono hba.size)).cell (p := ⟨A2, o2 + j, none⟩) (lt_of_cell h1)).trans h1
  · rintro e w' ⟨v, rfl, hrow, hbw⟩
    rcases hrow.2 with ⟨_, h0⟩ | ⟨g, cap, cur, rfl, hbg, hgb, hnc, hcm, hcs, htk⟩
    · simp at h0
    · have hlen : ([[60]] ++ ws).length = ws.length + 1 := by simp
      refine ⟨g, cap, by rw [hlen], by omega, hcm, by simp at hbg; omega, (Array.getElem?_eq_some_iff.1 hgb).1, fun j x hj => ?_, ?_⟩
      · rw [Nat.zero_add]
        rw [hrow.cellAt j (by rw [hlen, Nat.mul_one]; have := (List.getElem?_eq_some_iff.1 hj).1; simpa using this)]
        rw [List.getElem?_map, show ([[60]] ++ ws)[j]? = some x from hj]; rfl
      · exact hb.trans (hbw.mono hb.size)
def listT (r : Option (Wt × List (Nat × Wt))) (d : Ds) : Except Nat Ds := match r with
  | none => .error 5
  | some (last, es) => keepD es { d with last := last }
theorem listD_T (ws : List (List UInt8)) (d : Ds) : listD ws d = listT (listGo d.last [] ([60] :: ws)) d := by
  unfold listD listT
  cases listGo d.last [] ([60] :: ws) <;> rfl
theorem wtNext_le (a b c lv a' b' c' M : Nat) (h : wtNext (a, b, c) lv = (a', b', c')) (h0 : a ≤ M) (h1 : b ≤ M) (h2 : c ≤ M) : a' ≤ M + 1 ∧ b' ≤ M + 1 ∧ c' ≤ M + 1 := by
  unfold wtNext at h
  split at h
  · cases h; simp; omega
  · split at h <;> cases h <;> simp <;> omega
/-- Behind the pieces pre of a list of words XS. -/
def ListI (B p mb b A c1 : Nat) (d : Ds) (XS : List (List UInt8)) (w : World) (ANS : Option (Wt × List (Nat × Wt))) (pre : List Nat) (W : World) : Prop :=
  ∃ last es, Hid (listGo last es (XS.drop (2 * pre.length)) = ANS) ∧ es.length = pre.length ∧ (2 * pre.length ≤ XS.length + 1 ∧ last.1 ≤ 10000000 + pre.length ∧ last.2.1 ≤ 10000000 + pre.length ∧ last.2.2 ≤ 10000000 + pre.length) ∧ (∀ x ∈ es, x.1 ≤ 1114111) ∧ LI B p mb b (b + 1) (b + 2) A d XS w 0 last es W ∧ c1 + 1 < B
def ListX (B p mb b A : Nat) (d : Ds) (XS : List (List UInt8)) (w : World) (ANS : Option (Wt × List (Nat × Wt))) (c : Code) (_pre : List Nat) (W : World) : Prop :=
  c = .ret ∧ ANS = none ∧ ∃ last es, LI B p mb b (b + 1) (b + 2) A d XS w 5 last es W
end Go.Proofs.YtgjjmapfdijphaaDoor

/- Natural numbers: what a round of divide stands on, and how it ends. -/
import Derived.Test.YtgmnjghbafbopaaGreatDoorMNuG
import Derived.Test.YtgmnjghbafbopaaGreatDoorMNuNum
import Derived.Test.YtgmnjghbafbopaaGreatDoorMNuB
import Derived.OwnWalkIn
namespace Go.Proofs.YtgmnjghbafbopaaGreatDoor
open Go.RowKit Go.Lib
attribute [local go_sem] Oper.semAt_some

theorem run_append_of_nil' {P : Program} (w : World) (base : Nat) (t ty e : TypeId) (i : TypeInfo) (size : Nat) (ht : P.underlying t = some (.slice e)) (hi : P.info? e = some i)
    (v : Value) (n : Nat) (xs : List Value) (hown : w.ownsRow base e size v n xs) (c : Nat) : (Builtin.append_ #[t, t] ty #[v, .slice none 0 c]).run P w = .ok v w := by
  rcases hown.2 with ⟨rfl, rfl⟩ | ⟨g, cap, cur, rfl, _, _, hnc, _⟩
  · simp [Builtin.append_, run_underlying ht, sizeOf, typeInfo, hi, Builtin.lenOf, Builtin.firstCells]
  · simp [Builtin.append_, run_underlying ht, sizeOf, typeInfo, hi, Builtin.lenOf, Builtin.firstCells, hnc, storeCells]
/-- Words stay where cells stay. -/
theorem Nats.other {W W' : World} {v : Value} {l : List Nat} (h : Nats W v l) (hk : ∀ (k : Nat) (o : Obj), W.heap[k]? = some o → o.isCells = true → W'.heap[k]? = some o) : Nats W' v l := by
  rcases h with h | ⟨b, off, cap, rfl, hc, h⟩
  · exact .inl h
  · refine .inr ⟨b, off, cap, rfl, hc, fun j hj => ?_⟩
    have hj' := h j hj
    cases ho : W.heap[b]? with
    | none => simp [World.cell?, ho] at hj'
    | some o =>
      cases o with
      | cells cs t fz =>
        exact (World.cell?_of_block (a := ⟨b, off + j, none⟩) ((hk b _ ho rfl).trans ho.symm)).trans hj'
      | _ => simp [World.cell?, ho] at hj'
/-- What the rounds stand on. -/
structure DivI (w : World) (vb : Value) (A : List Nat) (b : Nat) (pre : List (Nat × Nat)) (W : World) : Prop where
  box : Boxed W w.heap.size 86 vb
  quo : Boxed W (w.heap.size + 1) 86 (.slice (some ⟨w.heap.size + 3, 0, none⟩) A.length A.length)
  row : ∃ Q, RowIs W (w.heap.size + 3) Q ∧ Q.length = A.length ∧ Small Q ∧ val (Q.drop (A.length - pre.length)) = val (A.drop (A.length - pre.length)) / b
  rest : ∃ p c, Boxed W (w.heap.size + 2) 86 (.slice p (wordsOf (val (A.drop (A.length - pre.length)) % b)).length c) ∧ Nats W (.slice p (wordsOf (val (A.drop (A.length - pre.length)) % b)).length c) (wordsOf (val (A.drop (A.length - pre.length)) % b))
  below : Below w.heap.size w W
  big : w.heap.size + 5 ≤ W.heap.size
theorem DivI.other {w : World} {vb : Value} {A : List Nat} {b : Nat} {pre : List (Nat × Nat)} {X Y : World} (h : DivI w vb A b pre X) {R : Nat → Prop} (hc : Ch R X Y) (hR : ∀ k, R k → w.heap.size + 5 ≤ k ∧ ∃ o : Obj, X.heap[k]? = some o ∧ o.isCells = false) : DivI w vb A b pre Y := by
  have hb := h.big
  have hsame : ∀ k, k < w.heap.size + 5 → Y.heap[k]? = X.heap[k]? := fun k hk => hc.block k (by omega) (fun e => by have := (hR k e).1; omega)
  have hcells : ∀ (k : Nat) (o : Obj), X.heap[k]? = some o → o.isCells = true → Y.heap[k]? = some o := by
    intro k o hk ho
    refine (hc.block k (Array.getElem?_eq_some_iff.1 hk).1 (fun hr => ?_)).trans hk
    obtain ⟨_, o', ho', hc'⟩ := hR k hr
    rw [hk] at ho'
    cases ho'
    rw [ho] at hc'
    cases hc'
  obtain ⟨Q, hQ, hQ2⟩ := h.row
  obtain ⟨p, c, hr, hN⟩ := h.rest
  exact ⟨(hsame _ (by omega)).trans h.box, (hsame _ (by omega)).trans h.quo, ⟨Q, (hsame _ (by omega)).trans hQ, hQ2⟩, ⟨p, c, (hsame _ (by omega)).trans hr, hN.other hcells⟩,
    h.below.trans (hc.below (by omega) (fun k hk e => by have := (hR k e).1; omega)), Nat.le_trans hb hc.size⟩
theorem wpListIn_append_eq {F : Fence} {n : Nat} {P : Program} (w : World) {ops : Array Oper} {rest : List Oper} {o : Oper} {a : Act} {Q : Exit → Act → World → Prop}
    (hg : o.guard = none) (s x : Operand) (t : TypeId) (hop : o.op = Op.call { callee := Callee.builtin Builtin.append, args := #[s, x], argTypes := #[t, t] })
    (vs vx v : Value) (w' : World) (hs : a.eval s = vs) (hx : a.eval x = vx) (hrun : (Builtin.append_ #[t, t] o.type #[vs, vx]).run P w = .ok v w')
    (hK : wpListIn F n P ops Q rest (a.put o.dst v) w') : wpListIn F n P ops Q (o :: rest) a w := by
  refine wpListIn_plain hg fun K hK' => ?_
  unfold Oper.wpIn
  refine ⟨?_, ?_⟩
  · simp [Oper.about, hop, resolve, Target.leads, Sem.run_pure]
  · rw [Oper.semAt_plain F _ _ (by rw [hop]; intro c hc'; cases hc')]
    simp [execOp, hop, resolve, invoke, builtin, hs, hx, hrun, Result.andThen]
    exact hK' _ _ hK
/-- append(natural{y}, l...). -/
theorem run_front (w : World) (y : Nat) (l : List Nat) (p : Option Addr) (c : Nat) (hN : Nats w (.slice p l.length c) l) (hl : l.length ≤ 100000000) :
    ∃ v' w', (Builtin.append_ #[86, 86] 86 #[.slice (some ⟨w.heap.size, 0, none⟩) 1 1, .slice p l.length c]).run Tryz.prog (w.alloc (.cells #[.int .u32 (y : Int)] 156)) = .ok v' w' ∧ Nats w' v' (y :: l) ∧ Below w.heap.size w w' := by
  obtain ⟨i0, hi, hh⟩ := Option.map_eq_some_iff.1 infoU32
  simp only [Prod.mk.injEq] at hh
  obtain ⟨hz0, hz1, hz2⟩ := hh
  have hb : Below w.heap.size w (w.alloc (.cells #[.int .u32 (y : Int)] 156)) := (Below.refl _ _).alloc (Nat.le_refl _) _
  have hown : (w.alloc (.cells #[.int .u32 (y : Int)] 156)).ownsRow w.heap.size 156 1 (.slice (some ⟨w.heap.size, 0, none⟩) 1 1) 1 (u32L [y]) := RowIs.owns (l := [y]) (heap_alloc_new _ _) (Nat.le_refl _) (by simp [maxLen])
  have hNw := hN.later hb
  have fin : ∀ v' w', w'.ownsRow w.heap.size 156 1 v' (1 + l.length) (u32L [y] ++ u32L l) → (w.alloc (.cells #[.int .u32 (y : Int)] 156)).grownBy w' (Value.slice (some ⟨w.heap.size, 0, none⟩) 1 1).ownBlock → Nats w' v' (y :: l) ∧ Below w.heap.size w w' := fun v' w' ho hg =>
    ⟨Nats.of_owns (B := w.heap.size) (by rw [List.length_cons, Nat.add_comm]; exact ho), owns_below hb hown hg (by simp)⟩
  have key : ∀ ad : Addr, (∀ j u, (u32L l)[j]? = some u → (w.alloc (.cells #[.int .u32 (y : Int)] 156)).cell? (ad.add j) = some u) → ∃ v' w', (Builtin.append_ #[86, 86] 86 #[.slice (some ⟨w.heap.size, 0, none⟩) 1 1, .slice (some ad) l.length c]).run Tryz.prog (w.alloc (.cells #[.int .u32 (y : Int)] 156)) = .ok v' w' ∧ Nats w' v' (y :: l) ∧ Below w.heap.size w w' := by
    intro ad hc
    obtain ⟨v', w', hr, h2, h3, _⟩ := run_append_own_at (P := Tryz.prog) _ w.heap.size 86 86 156 i0 (.int .u32 0) 1 4 Tryz.underlying86 hi hz0 hz1 hz2 rfl (by decide) _ 1 (u32L [y]) hown ad l.length c (u32L l) (by simp [u32L]) hc (by intro u hu; obtain ⟨z, _, rfl⟩ := List.mem_map.1 hu; rfl) (by unfold maxLen; omega) (by omega) (by simp)
    exact ⟨v', w', hr, fin v' w' h2 h3⟩
  rcases hNw with ⟨rfl, _⟩ | ⟨b, off, cap, heq, _, hcells⟩
  · cases p with
    | none => exact ⟨_, _, run_append_of_nil' _ w.heap.size 86 86 156 i0 1 Tryz.underlying86 hi _ 1 _ hown c, lit_nats w y, hb⟩
    | some ad => exact key ad (fun j u hu => by simp [u32L] at hu)
  · injection heq with h1 _ _
    subst h1
    refine key _ (fun j u hu => ?_)
    unfold u32L at hu
    rw [List.getElem?_map] at hu
    cases hj : l[j]? with
    | none => rw [hj] at hu; cases hu
    | some x =>
      rw [hj] at hu
      have hjl : j < l.length := (List.getElem?_eq_some_iff.1 hj).1
      have := hcells j hjl
      rw [List.getD_eq_getElem?_getD, hj] at this
      have hadd : (⟨b, off, none⟩ : Addr).add j = ⟨b, off + j, none⟩ := by unfold Addr.add; split <;> simp_all
      rw [hadd, this]
      exact hu
def DivX (_ : Code) (_ : List (Nat × Nat)) (_ : World) : Prop := False
/-- The plain step of a round. -/
theorem div_round (A : List Nat) (hA : Small A) (b : Nat) (hb : 0 < b) (i : Nat) (hi : i < A.length) (Q : List Nat) (hQl : Q.length = A.length) (hQs : Small Q) (hv : val (Q.drop (i + 1)) = val (A.drop (i + 1)) / b) (q : Nat)
    (hq : q = (A.getD i 0 + 1000000000 * (val (A.drop (i + 1)) % b)) / b) : (Q.set i q).length = A.length ∧ Small (Q.set i q) ∧ val ((Q.set i q).drop i) = val (A.drop i) / b ∧ (A.getD i 0 + 1000000000 * (val (A.drop (i + 1)) % b)) % b = val (A.drop i) % b ∧ q < 1000000000 := by
  obtain ⟨h1, h2, h3⟩ := div_step b (val (A.drop (i + 1)) % b) (A.getD i 0) (val (A.drop (i + 1))) hb rfl (hA.getD i)
  have hd : A.drop i = A.getD i 0 :: A.drop (i + 1) := by
    rw [List.drop_eq_getElem_cons hi, List.getD_eq_getElem?_getD, List.getElem?_eq_getElem hi]; rfl
  have hq9 : q < 1000000000 := by rw [hq, Nat.div_lt_iff_lt_mul hb]; exact h3
  have hdq : (Q.set i q).drop i = q :: Q.drop (i + 1) := by
    rw [List.drop_eq_getElem_cons (by rw [List.length_set]; omega), List.getElem_set_self, List.drop_set_of_lt (by omega)]
  refine ⟨by rw [List.length_set, hQl], fun z hz => ?_, ?_, ?_, hq9⟩
  · rcases List.mem_or_eq_of_mem_set hz with hz | rfl
    · exact hQs z hz
    · exact hq9
  · rw [hdq, hd, val, val, hv, h1, hq]
  · rw [hd, val, h2]
/-- A guess that is one too high is lowered. -/
theorem guess_fix (R b q : Nat) (hb : 0 < b) (h1 : R / b ≤ q) (h2 : q ≤ R / b + 1) : (R < b * q → 1 ≤ q ∧ q - 1 = R / b ∧ b * q - b = b * (R / b) ∧ b ≤ b * q) ∧ (¬ R < b * q → q = R / b) ∧ b * (R / b) ≤ R ∧ R - b * (R / b) = R % b := by
  have hd := Nat.div_add_mod R b
  have hm := Nat.mod_lt R hb
  generalize R % b = M at *
  generalize R / b = Q at *
  have hstep : b * (Q + 1) = b * Q + b := by rw [Nat.mul_add, Nat.mul_one]
  rcases (show q = Q ∨ q = Q + 1 by omega) with rfl | rfl
  · generalize b * q = P at *
    refine ⟨fun h => ?_, fun _ => rfl, ?_, ?_⟩ <;> omega
  · rw [hstep]
    generalize b * Q = P at *
    refine ⟨fun h => ⟨?_, ?_, ?_, ?_⟩, fun h => ?_, ?_, ?_⟩ <;> omega
theorem Nats.at_block {w w' : World} {b o n c : Nat} {l : List Nat} (h : Nats w (.slice (some ⟨b, o, none⟩) n c) l) (hb : w'.heap[b]? = w.heap[b]?) : Nats w' (.slice (some ⟨b, o, none⟩) n c) l := by
  rcases h with h | ⟨b', off, cap, heq, hc, h⟩
  · exact .inl h
  · injection heq with h1 h2 h3
    injection h1 with h1
    injection h1 with h1 h4
    subst h1
    subst h4
    exact .inr ⟨b, o, cap, by rw [h2, h3], hc, fun j hj => (World.cell?_of_block (a := ⟨b, o + j, none⟩) hb).trans (h j hj)⟩
/-- A round's end: behind the call, and behind the two stores. -/
theorem div_end {w W V V2 : World} {p1 p2 pu : Option Addr} {c1 c2 cu lb lR : Nat} {A Q : List Nat} {b i y R q D : Nat} {pre : List (Nat × Nat)} (hD : D = w.heap.size + 5)
    (hi : i < A.length) (hpl2 : A.length - (pre ++ [(i, y)]).length = i) (hQl : Q.length = A.length) (d2 : Small (Q.set i q)) (d3 : val ((Q.set i q).drop i) = val (A.drop i) / b) (d4 : R % b = val (A.drop i) % b)
    (hu : Nats w (.slice p1 A.length c1) A) (kb : Boxed V w.heap.size 86 (.slice p2 lb c2)) (kq : Boxed V (w.heap.size + 1) 86 (.slice (some ⟨w.heap.size + 3, 0, none⟩) A.length A.length))
    (kr : Boxed V (w.heap.size + 2) 86 (.slice pu (wordsOf R).length cu)) (kw : RowIs V (w.heap.size + 3) Q) (hb : Below w.heap.size w V) (big : w.heap.size + 5 ≤ V.heap.size)
    (hch : Ch (fun k => k = w.heap.size + 2 ∨ k = w.heap.size + 3) W V) (hWs : D ≤ W.heap.size)
    (hx2 : Nats V2 (.slice (some ⟨V.heap.size, 0, none⟩) (wordsOf (R % b)).length lR) (wordsOf (R % b))) (hb2 : Below V.heap.size V V2) :
    V2.cell? ⟨w.heap.size + 1, 0, none⟩ = some (.slice (some ⟨w.heap.size + 3, 0, none⟩) A.length A.length) ∧ V2.cell? ⟨w.heap.size + 2, 0, none⟩ = some (.slice pu (wordsOf R).length cu) ∧ V2.frozen? ⟨w.heap.size + 2, 0, none⟩ = false ∧
      V2.cell? ⟨w.heap.size + 3, i, none⟩ = some (.int .u32 ((Q.getD i 0 : Nat) : Int)) ∧ V2.frozen? ⟨w.heap.size + 3, i, none⟩ = false ∧
      ∀ ac, ownPostG D (KeptB (w.heap.size + 4) (.slice p1 A.length c1) A) (DivI w (.slice p2 lb c2) A b) DivX (pre ++ [(i, y)]) W .normal ac ((V2.setCell ⟨w.heap.size + 3, i, none⟩ (.int .u32 (q : Int))).setCell ⟨w.heap.size + 2, 0, none⟩ (.slice (some ⟨V.heap.size, 0, none⟩) (wordsOf (R % b)).length lR)) := by
  have kb2 := (hb2.block _ kb.lt).trans kb
  have kq2 : Boxed V2 (w.heap.size + 1) 86 (.slice (some ⟨w.heap.size + 3, 0, none⟩) A.length A.length) := (hb2.block _ kq.lt).trans kq
  have kr2 : Boxed V2 (w.heap.size + 2) 86 (.slice pu (wordsOf R).length cu) := (hb2.block _ kr.lt).trans kr
  have kw2 : RowIs V2 (w.heap.size + 3) Q := (hb2.block _ kw.lt).trans kw
  have hs2 := hb2.size
  obtain ⟨V3, hV3⟩ : ∃ V3, (V2.setCell ⟨w.heap.size + 3, i, none⟩ (.int .u32 (q : Int))).setCell ⟨w.heap.size + 2, 0, none⟩ (.slice (some ⟨V.heap.size, 0, none⟩) (wordsOf (R % b)).length lR) = V3 := ⟨_, rfl⟩
  have hsame : ∀ k, k ≠ w.heap.size + 2 → k ≠ w.heap.size + 3 → V3.heap[k]? = V2.heap[k]? := fun k h1 h2 => by
    rw [← hV3]
    exact (Below.heap_setCell _ _ _ _ (fun e => h1 e)).trans (Below.heap_setCell _ _ _ _ (fun e => h2 e))
  have hc3 : Ch (fun k => k = w.heap.size + 2 ∨ k = w.heap.size + 3) W V3 := by
    rw [← hV3]
    exact Ch.setCell (p := ⟨w.heap.size + 2, 0, none⟩) (Ch.setCell (p := ⟨w.heap.size + 3, i, none⟩) (hch.trans (.of_below hb2)) (.inl (.inr rfl)) _) (.inl (.inl rfl)) _
  have hb3 : Below w.heap.size w V3 := by
    rw [← hV3]
    exact ((hb.trans (hb2.mono hb.size)).setCell (p := ⟨w.heap.size + 3, i, none⟩) (by simp) _).setCell (p := ⟨w.heap.size + 2, 0, none⟩) (by simp) _
  have hz3 : V3.heap.size = V2.heap.size := by rw [← hV3]; simp [World.setCell]
  have kr3 : Boxed V3 (w.heap.size + 2) 86 (.slice (some ⟨V.heap.size, 0, none⟩) (wordsOf (R % b)).length lR) := by
    rw [← hV3]
    refine Boxed.set (v := .slice pu (wordsOf R).length cu) _ ?_
    exact (Below.heap_setCell _ _ _ _ (by simp)).trans kr2
  have kw3 : RowIs V3 (w.heap.size + 3) (Q.set i q) := by
    rw [← hV3]
    exact (kw2.set i q).other (Below.heap_setCell _ _ _ _ (by simp))
  refine ⟨kq2.cell, kr2.cell, kr2.frozen, kw2.cell i (by omega), kw2.frozen i, fun ac => ?_⟩
  rw [hV3]
  refine ⟨⟨hc3.size, fun k o hk ho _ => (hc3.block k (Array.getElem?_eq_some_iff.1 ho).1 (fun e => by omega)).trans ho⟩, ⟨hc3.block _ (by omega) (fun e => by omega), fun _ => hu.later hb3⟩, ?_⟩
  refine ⟨(hsame _ (by omega) (by omega)).trans kb2, (hsame _ (by omega) (by omega)).trans kq2, ⟨_, kw3, by rw [List.length_set, hQl], d2, by rw [hpl2]; exact d3⟩, ?_, hb3, by omega⟩
  rw [hpl2, ← d4]
  exact ⟨_, _, kr3, hx2.at_block (hsame _ (by omega) (by omega))⟩
end Go.Proofs.YtgmnjghbafbopaaGreatDoor

/- The contracts of slices.Grow and slices.Concat as coll's list calls them. -/
import Derived.Test.YtgjjmapfdijphaaDoorCoIgn
import Derived.Lib.AppendZerosOnto
namespace Go.Proofs.YtgjjmapfdijphaaDoor
open Go.RowKit Go.Lib

theorem infoStr : (Tryd.prog.info? 9).map (fun i => (i.zero, i.size, i.bytes)) = some (some (.string ⟨#[]⟩), 1, 16) := by kernel_rfl
theorem grow_run (n : Nat) (h0 : 0 < n) (hn : n ≤ 2000000) (w : World) : ∃ cap w', (∀ ty, (Builtin.append_ #[60, 3] ty #[.slice none 0 0, .int .i64 (n : Int)]).run Tryd.prog w = .ok (.slice (some ⟨w.heap.size, 0, none⟩) n cap) w') ∧ Below w.heap.size w w' ∧
    w'.ownsRow w.heap.size 9 1 (.slice (some ⟨w.heap.size, 0, none⟩) 0 cap) 0 [] ∧ n ≤ cap := by
  obtain ⟨i0, hi, hz0, hz1, hz2⟩ := info_parts infoStr
  have hge := grownCap_ge w n 0 9
  have hle := grownCap_le_maxLen w n 0 9 (by unfold maxLen; omega)
  have hrun := fun ty => run_append_grow_zeros (P := Tryd.prog) w 60 3 ty 9 i0 _ .i64 .i64 Tryd.underlying60 Tryd.underlying3 hi hz0 none 0 0 [] (by rw [hz1]; rfl) n h0 (by omega) (by omega) (by omega) (by rw [hz2]; omega) (growslice_fits (by omega) (by rw [hz2]; omega))
  rw [Nat.zero_add] at hrun
  refine ⟨_, _, hrun, (Below.refl _ w).drew.alloc (Nat.le_refl _) _, ⟨rfl, .inr ⟨w.heap.size, _, _, rfl, Nat.le_refl _, heap_alloc_new w.drew _, Nat.zero_le _, hle, ?_, by simp⟩⟩, hge⟩
  have hzz : ∀ k, (Builtin.zeroCells (Value.string ⟨#[]⟩).cells k).size = k := fun k => by rw [size_zeroCells]; simp [Value.cells]
  rw [Array.size_append, Array.size_append, hzz, hzz]
  simp
  omega
theorem wpList_append_run {P : Program} (w : World) {ops : Array Oper} {rest : List Oper} {o : Oper} {a : Act} {Q : Exit → Act → World → Prop}
    (hg : o.guard = none) (s x : Operand) (t u : TypeId) (hop : o.op = Op.call { callee := Callee.builtin Builtin.append, args := #[s, x], argTypes := #[t, u] })
    (vs vx v : Value) (w' : World) (hs : a.eval s = vs) (hx : a.eval x = vx) (hrun : (Builtin.append_ #[t, u] o.type #[vs, vx]).run P w = .ok v w')
    (hK : wpList P ops Q rest (a.put o.dst v) w') : wpList P ops Q (o :: rest) a w := by
  refine wpList_plain hg fun K hK' => ?_
  unfold Oper.wp
  simp [execOp, hop, resolve, invoke, builtin, hs, hx, hrun, Result.andThen]
  exact hK' _ _ hK
set_option maxHeartbeats 1000000 in
set_option maxRecDepth 100000 in
theorem grow_any (n : Nat) (h0 : 0 < n) (hn : n ≤ 2000000) (w : World) :
    Calls Tryd.prog 87 #[.slice none 0 0, .int .i64 (n : Int)] w fun e w' => ∃ cap, e = .returned (.slice (some ⟨w.heap.size, 0, none⟩) 0 cap) ∧ w'.ownsRow w.heap.size 9 1 (.slice (some ⟨w.heap.size, 0, none⟩) 0 cap) 0 [] ∧ Below w.heap.size w w' := by
  obtain ⟨cap, w', hrun, hb, ho, hc⟩ := grow_run n h0 hn w
  have Hrun := Lib.hid hrun
  clear hrun
  go_enter Tryd.func87, Tryd.ntmps87
  go_wp2_with (at_builtin; go_must (refine wpList_append_run _ rfl (.tmp 20) (.tmp 21) 60 3 rfl _ _ _ _ rfl rfl (Hrun.out _) ?_))
  go_ret
  exact ⟨cap, rfl, ho, hb⟩
def strV (x : List UInt8) : Value := .string ⟨x.toArray⟩
theorem strs_news {w : World} {A off : Nat} {ws : List (List UInt8)} (h : ∀ (j : Nat) x, ws[j]? = some x → w.cell? ⟨A, off + j, none⟩ = some (.string ⟨x.toArray⟩)) : ∀ (j : Nat) (u : Value), (ws.map strV)[j]? = some u → w.cell? ((⟨A, off, none⟩ : Addr).add j) = some u := by
  intro j u hu
  rw [List.getElem?_map] at hu
  cases hx : ws[j]? with
  | none => rw [hx] at hu; cases hu
  | some x =>
    rw [hx] at hu
    cases hu
    have hadd : (⟨A, off, none⟩ : Addr).add j = ⟨A, off + j, none⟩ := by unfold Addr.add; split <;> simp_all
    rw [hadd]
    exact h j x hx
theorem strs_one (ws : List (List UInt8)) : ∀ u ∈ ws.map strV, u.oneCell' = true := by
  intro u hu
  obtain ⟨x, _, rfl⟩ := List.mem_map.1 hu
  rfl
theorem cells_later {w w' : World} {A off : Nat} {ws : List (List UInt8)} (h : ∀ (j : Nat) x, ws[j]? = some x → w.cell? ⟨A, off + j, none⟩ = some (.string ⟨x.toArray⟩)) (hb : Below w.heap.size w w') : ∀ (j : Nat) x, ws[j]? = some x → w'.cell? ⟨A, off + j, none⟩ = some (.string ⟨x.toArray⟩) :=
  fun j x hj => (hb.cell (p := ⟨A, off + j, none⟩) (lt_of_cell (h j x hj))).trans (h j x hj)
set_option maxHeartbeats 2000000 in
set_option maxRecDepth 100000 in
theorem concat_any (S A1 o1 c1 A2 o2 c2 : Nat) (xs ys : List (List UInt8)) (w : World) (hx0 : xs ≠ []) (hl : xs.length + ys.length ≤ 1500000)
    (s0 : w.cell? ⟨S, 0, none⟩ = some (.slice (some ⟨A1, o1, none⟩) xs.length c1)) (s1 : w.cell? ⟨S, 1, none⟩ = some (.slice (some ⟨A2, o2, none⟩) ys.length c2))
    (h1 : ∀ (j : Nat) x, xs[j]? = some x → w.cell? ⟨A1, o1 + j, none⟩ = some (.string ⟨x.toArray⟩)) (h2 : ∀ (j : Nat) x, ys[j]? = some x → w.cell? ⟨A2, o2 + j, none⟩ = some (.string ⟨x.toArray⟩)) :
    Calls Tryd.prog 73 #[.slice (some ⟨S, 0, none⟩) 2 2] w fun e w' => ∃ v, e = .returned v ∧ w'.ownsRow w.heap.size 9 1 v (xs ++ ys).length ((xs ++ ys).map strV) ∧ Below w.heap.size w w' := by
  have hpos : 0 < xs.length := List.length_pos_iff.2 hx0
  obtain ⟨i0, hi, hz0, hz1, hz2⟩ := info_parts infoStr
  have cG := grow_any (xs.length + ys.length) (by omega) (by omega) w
  have hsl := lt_of_cell s0
  have e1 : ((xs.length + ys.length : Nat) : Int) = (xs.length : Int) + (ys.length : Int) := by omega
  rw [e1] at cG
  clear e1 hx0
  have t0 := strs_one xs
  have t1 := strs_one ys
  go_enter Tryd.func73, Tryd.ntmps73
  go_wp2_with fail
  refine wp_loop_rounds 3 ?_
  rw [rounds_succ]
  go_wp2_with fail
  rw [rounds_succ]
  go_wp2_with fail
  rw [rounds_succ]
  go_wp2_with fail
  refine cG.mono ?_
  rintro e w1 ⟨cap, rfl, ho1, hb1⟩
  have s0' := (hb1.cell (p := ⟨S, 0, none⟩) hsl).trans s0
  have s1' := (hb1.cell (p := ⟨S, 1, none⟩) hsl).trans s1
  have n1 := strs_news (cells_later h1 hb1)
  have hbs := hb1.size
  clear cG s0 s1
  go_wp2_with fail
  refine wp_loop_rounds 3 ?_
  rw [rounds_succ]
  go_wp2_with (at_builtin; go_must (refine wpList_append_own_at _ rfl (.tmp 31) (.tmp 32) 60 rfl w.heap.size 9 i0 (.string ⟨#[]⟩) 1 16 Tryd.underlying60 hi hz0 hz1 hz2 rfl (by decide) _ _ _ rfl ho1 ⟨A1, o1, none⟩ xs.length c1 (xs.map strV) rfl (by simp) n1 t0 (by unfold maxLen; omega) (by omega) (by omega) ?_; intro v2 w2 ho2 hg2 hn2 ha2))
  simp only [Nat.zero_add, List.nil_append] at ho2
  have hb2 : Below w.heap.size w w2 := hb1.grown hg2 (by omega) (fun k hk => (ho1.lt k hk).1)
  have s1'' := hg2.cell s1' (a := ⟨S, 1, none⟩) (fun e => by have := (ho1.lt _ e.symm).1; simp at this; omega)
  have n2 := strs_news (cells_later h2 hb2)
  have hbs2 := hb2.size
  obtain ⟨g2, k2, rfl⟩ := ownsRow_succ (k := xs.length - 1) (by rw [show xs.length - 1 + 1 = xs.length by omega]; exact ho2)
  rw [show xs.length - 1 + 1 = xs.length by omega] at ho2 ⊢
  clear n1 s0' s1' ho1 hg2 hn2 ha2
  rw [rounds_succ]
  go_wp2_with (at_builtin; go_must (refine wpList_append_own_at _ rfl (.tmp 31) (.tmp 32) 60 rfl w.heap.size 9 i0 (.string ⟨#[]⟩) 1 16 Tryd.underlying60 hi hz0 hz1 hz2 rfl (by decide) _ _ _ rfl ho2 ⟨A2, o2, none⟩ ys.length c2 (ys.map strV) rfl (by simp) n2 t1 (by unfold maxLen; omega) (by omega) (by omega) ?_; intro v3 w3 ho3 hg3 hn3 ha3))
  have hb3 : Below w.heap.size w w3 := hb2.grown hg3 (by omega) (fun k hk => (ho2.lt k hk).1)
  obtain ⟨g3, k3, rfl⟩ := ownsRow_succ (k := xs.length + ys.length - 1) (by rw [show xs.length + ys.length - 1 + 1 = xs.length + ys.length by omega]; exact ho3)
  rw [show xs.length + ys.length - 1 + 1 = xs.length + ys.length by omega] at ho3 ⊢
  clear n2 s1'' ho2 hg3 hn3 ha3
  rw [rounds_succ]
  go_wp2_with fail
  go_ret
  exact ⟨_, rfl, by rw [List.length_append, List.map_append]; exact ho3, hb3⟩
end Go.Proofs.YtgjjmapfdijphaaDoor

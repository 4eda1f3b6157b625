/- Natural numbers: rows that a call appends to. -/
import Derived.Test.YtofpojlnfncpcaaGreatDoorNuMul
import Derived.Laws.OwnMore
import Derived.Maps.AppendAt
import Derived.Deep.RegionLaw
import Derived.BigRegion
import Derived.Deep.DeepMust
namespace Go.Proofs.YtofpojlnfncpcaaGreatDoor
open Go.RowKit Go.Lib

def u32L (l : List Nat) : List Value := l.map fun (n : Nat) => Value.int .u32 (n : Int)
theorem Nats.of_owns {w : World} {B : Nat} {v : Value} {l : List Nat} (h : w.ownsRow B 96 1 v l.length (u32L l)) : Nats w v l := by
  rcases h.2 with ⟨rfl, h0⟩ | ⟨g, cap, cur, rfl, _, hgb, hc, _, hsz, htk⟩
  · exact .inl ⟨List.eq_nil_of_length_eq_zero h0, none, 0, rfl⟩
  · refine .inr ⟨g, 0, cap, rfl, hc, fun j hj => ?_⟩
    have hcur : w.cell? ⟨g, 0 + j, none⟩ = cur[j]? := by simp [World.cell?, hgb]
    rw [hcur]
    have h1 : (cur.toList.take (l.length * 1))[j]? = cur[j]? := by rw [List.getElem?_take_of_lt (by omega), Array.getElem?_toList]
    rw [← h1, htk]
    unfold u32L
    rw [List.getElem?_map, List.getD_eq_getElem?_getD, List.getElem?_eq_getElem hj]
    rfl
theorem RowIs.owns {w : World} {B base : Nat} {l : List Nat} (h : RowIs w B l) (hb : base ≤ B) (hl : l.length ≤ maxLen) : w.ownsRow base 96 1 (.slice (some ⟨B, 0, none⟩) l.length l.length) l.length (u32L l) := by
  refine ⟨by simp [u32L], .inr ⟨B, l.length, u32Cells l, rfl, hb, h, Nat.le_refl _, hl, by simp [u32Cells], ?_⟩⟩
  show List.take (l.length * 1) (List.map _ l) = List.map _ l
  exact List.take_of_length_le (by simp)
theorem owns_shape {w : World} {B k : Nat} {v : Value} {xs : List Value} (h : w.ownsRow B 96 1 v k xs) : ∃ a cap, v = .slice a k cap := by
  rcases h.2 with ⟨rfl, h0⟩ | ⟨g, cap, cur, rfl, _⟩
  · exact ⟨none, 0, by rw [h0]⟩
  · exact ⟨_, cap, rfl⟩
/-- What a row's growth does below it. -/
theorem owns_below {a w w' : World} {B : Nat} {v : Value} {k : Nat} {xs : List Value} (h : Below B a w) (ho : w.ownsRow B 96 1 v k xs) (hg : w.grownBy w' v.ownBlock) (hB : B ≤ w.heap.size) : Below B a w' :=
  h.grown hg hB (fun j hj => (ho.lt j hj).1)
theorem cell_one_u32 (w : World) (x : Nat) : ∀ (j : Nat) u, [Value.int .u32 (x : Int)][j]? = some u → (w.alloc (.cells #[.int .u32 (x : Int)] 96)).cell? (Addr.add ⟨w.heap.size, 0, none⟩ j) = some u := by
  intro j u h
  cases j with
  | zero => simp at h; subst h; simp [go_sem, Addr.add]
  | succ j => simp at h
theorem lit_nats (w : World) (x : Nat) : Nats (w.alloc (.cells #[.int .u32 (x : Int)] 96)) (.slice (some ⟨w.heap.size, 0, none⟩) 1 1) [x] :=
  RowIs.nats (l := [x]) (heap_alloc_new _ _) 1 (Nat.le_refl _)
theorem step_append_num {P : Program} {ops : Array Oper} {o : Oper} {a : Act} {w : World} {K : Act → World → Prop} {Q : Exit → Act → World → Prop} {E : Prop}
    (hg : o.guard = none) (s x : Operand) (t : TypeId) (hop : o.op = Op.call { callee := Callee.builtin Builtin.append, args := #[s, x], argTypes := #[t, t] })
    (base : Nat) (e : TypeId) (i : TypeInfo) (z : Value) (size bytes : Nat) (ht : P.underlying t = some (.slice e)) (hi : P.info? e = some i) (hz : i.zero = some z)
    (hsize : i.size = size) (hby : i.bytes = bytes) (hzs : z.cells.size = size) (hsz : 0 < size)
    (v : Value) (n : Nat) (xs : List Value) (hs : a.eval s = v) (hown : w.ownsRow base e size v n xs)
    (ad : Addr) (m c : Nat) (news : List Value) (hx : a.eval x = .slice (some ad) m c) (hl : news.length = m * size) (hnews : ∀ j u, news[j]? = some u → w.cell? (ad.add j) = some u) (h1 : ∀ u ∈ news, u.oneCell' = true)
    (h63 : n + m ≤ maxLen) (hbytes : (n + m) * bytes ≤ 140737488355328) (hbase : base ≤ w.heap.size)
    (hK : ∀ v' w', w'.ownsRow base e size v' (n + m) (xs ++ news) → w.grownBy w' v.ownBlock → K (a.put o.dst v') w') :
    if Region.wanted o (yielded ops a.tmps) = true then Oper.wp P o a w K Q else E := by
  have hw : Region.wanted o (yielded ops a.tmps) = true := by simp [Region.wanted, hg]
  rw [if_pos hw]
  obtain ⟨v', w', hr, h2, h3, _, h5⟩ := run_append_own_at (P := P) w base t o.type e i z size bytes ht hi hz hsize hby hzs hsz v n xs hown ad m c news hl hnews h1 h63 hbytes hbase
  unfold Oper.wp execOp
  simp only [hop, resolve, invoke, builtin, Sem.run_bind, Sem.run_pure, Result.andThen_ok, List.map_toArray, List.map_cons, List.map_nil, hs, hx, hr]
  exact hK v' w' h2 h3
end Go.Proofs.YtofpojlnfncpcaaGreatDoor

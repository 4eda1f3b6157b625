/- The building of a byteStringReplacer's table at the law's own pairs. -/
import Derived.Test.YtaieapldokkdnabGreatDoorCharsBuild
import Derived.Deep.WholeRow
import Derived.Lib.JoinLaws
import Derived.Lib.LazyBuf
import Derived.ArgAppend
import Derived.Lib.ConvBytes
import Derived.Laws.IdiomStrings
namespace Go.Proofs.YtaieapldokkdnabGreatDoor
open Go.RowKit Go.Lib

/-- The table at block q, its list at block t, where the bytes D are laid. -/
def TabAt (w : World) (q t : Nat) (D : List UInt8) : Prop :=
  t < w.heap.size ∧ q < w.heap.size ∧ (∀ c : Nat, c < 256 → c.toUInt8 ∉ D → w.cell? ⟨q, c, none⟩ = some (.slice none 0 0)) ∧
  (∀ c : UInt8, c ∈ D → ∃ a k, w.cell? ⟨q, c.toNat, none⟩ = some (.slice (some a) 0 k)) ∧
  w.cell? ⟨q, 256, none⟩ = some (.slice (some ⟨t, 0, none⟩) D.length 4) ∧
  (∀ j c, D[j]? = some c → w.cell? ⟨t, j, none⟩ = some (.string ⟨#[c]⟩)) ∧
  (∀ j : Nat, j < 4 → ∃ v, w.cell? ⟨t, j, none⟩ = some v) ∧
  (∀ i, w.frozen? ⟨q, i, none⟩ = false) ∧ (∀ i, w.frozen? ⟨t, i, none⟩ = false)
theorem TabAt.later {w w' : World} {q t : Nat} {D : List UInt8} (h : TabAt w q t D) (hb : Below w.heap.size w w') : TabAt w' q t D := by
  obtain ⟨h1, h2, h3, h4, h5, h6, h7, h8, h9⟩ := h
  have e : ∀ (b i : Nat), b < w.heap.size → w'.cell? ⟨b, i, none⟩ = w.cell? ⟨b, i, none⟩ := fun b i hi => hb.cell (p := ⟨b, i, none⟩) hi
  have f : ∀ (b i : Nat), b < w.heap.size → w'.frozen? ⟨b, i, none⟩ = w.frozen? ⟨b, i, none⟩ := fun b i hi => hb.frozen (p := ⟨b, i, none⟩) hi
  refine ⟨Nat.lt_of_lt_of_le h1 hb.size, Nat.lt_of_lt_of_le h2 hb.size, fun c hc hd => (e _ _ h2).trans (h3 c hc hd), fun c hc => ?_, (e _ _ h2).trans h5, fun j c hj => (e _ _ h1).trans (h6 j c hj), fun j hj => ?_, fun i => (f _ _ h2).trans (h8 i), fun i => (f _ _ h1).trans (h9 i)⟩
  · obtain ⟨a, k, hk⟩ := h4 c hc; exact ⟨a, k, (e _ _ h2).trans hk⟩
  · obtain ⟨v, hv⟩ := h7 j hj; exact ⟨v, (e _ _ h1).trans hv⟩
theorem one_byte (W : World) (c : UInt8) (T : TypeId) : (convert 97 9 (.slice (some ⟨W.heap.size, 0, none⟩) 1 1)).run Tryz.prog (W.alloc (.cells #[.int .u8 (c.toNat : Int)] T)) = .ok (.string ⟨#[c]⟩) (W.alloc (.cells #[.int .u8 (c.toNat : Int)] T)) :=
  run_convert_bytes_back (P := Tryz.prog) _ 97 9 5 ⟨W.heap.size, 0, none⟩ 1 [c] Tryz.underlying97 Tryz.underlying5 Tryz.underlying9 (fun j hj => by
    have hj0 : j = 0 := by simpa using hj
    subst hj0
    have e : (W.alloc (.cells #[.int .u8 (c.toNat : Int)] T)).heap[W.heap.size]? = some (.cells #[.int .u8 (c.toNat : Int)] T) := by
      show (W.heap.push _)[W.heap.size]? = _
      simp
    exact cell_of e 0)
theorem no_bytes (W : World) : (convert 9 97 (.string ⟨#[]⟩)).run Tryz.prog W = .ok (.slice (some ⟨W.heap.size, 0, none⟩) 0 (grownCap W 0 0 5)) (Lib.bytesWorld W 5 ⟨#[]⟩) :=
  Lib.run_convert_string_bytes W 9 97 5 ⟨#[]⟩ Tryz.underlying9 Tryz.underlying97 Tryz.underlying5
theorem zero_tab : Tryz.zeroCells172 = Array.replicate 257 (.slice none 0 0) := by kernel_rfl
/-- The table as it is laid at first. -/
def tab0 (t : Nat) : Array Value := (Array.replicate 257 (Value.slice none 0 0)).setIfInBounds 256 (.slice (some ⟨t, 0, none⟩) 0 4)
theorem tab0_list (t : Nat) : (Array.replicate 257 (Value.slice none 0 0)).toList.set 256 (.slice (some ⟨t, 0, none⟩) 0 4) = (tab0 t).toList := by
  unfold tab0
  rw [Array.toList_setIfInBounds]
theorem tab0_size (t : Nat) : (tab0 t).size = 257 := by
  unfold tab0
  rw [Array.size_setIfInBounds, Array.size_replicate]
theorem tab0_one (t : Nat) : (tab0 t).all (·.oneCell') = true := by
  unfold tab0
  rw [Array.all_eq_true]
  intro i hi
  have hi' : i < (Array.replicate 257 (Value.slice none 0 0)).size := by rw [Array.size_setIfInBounds] at hi; exact hi
  rw [Array.getElem_setIfInBounds hi']
  split
  · rfl
  · rw [Array.getElem_replicate]; rfl
theorem TabAt.first (W : World) (t : Nat) (cs : Array Value) (T T' : TypeId) (ht : W.heap.size = t + 1) (hc : W.heap[t]? = some (.cells cs T)) (h4 : cs.size = 4) :
    TabAt (W.alloc (.cells (tab0 t) T')) (t + 1) t [] := by
  have e : (W.alloc (.cells (tab0 t) T')).heap[t + 1]? = some (.cells (tab0 t) T') := by
    show (W.heap.push _)[t + 1]? = _
    rw [← ht]; simp
  have e' : (W.alloc (.cells (tab0 t) T')).heap[t]? = some (.cells cs T) := by
    show (W.heap.push _)[t]? = _
    rw [Array.getElem?_push, if_neg (by omega), hc]
  refine ⟨by simp; omega, by simp; omega, fun c hc _ => ?_, (fun c hc => nomatch hc), ?_, (fun j c hj => nomatch hj), fun j hj => ?_, fun i => frozen_of e i, fun i => frozen_of e' i⟩
  · rw [cell_of e c]
    unfold tab0
    rw [Array.getElem?_setIfInBounds_ne (by omega), Array.getElem?_replicate, if_pos (by omega)]
  · rw [cell_of e 256]
    unfold tab0
    rw [Array.getElem?_setIfInBounds_self_of_lt (by rw [Array.size_replicate]; omega)]; rfl
  · rw [cell_of e' j]; exact ⟨_, Array.getElem?_eq_getElem (by omega)⟩
theorem add_one (W : World) (t n B : Nat) (c : ByteArray) (v0 : Value) (hv : W.cell? ⟨t, n, none⟩ = some v0) (hz : W.frozen? ⟨t, n, none⟩ = false) (hn : n + 1 ≤ 4) (hB : W.cell? ⟨B, 0, none⟩ = some (.string c)) :
    (Builtin.append_ #[45, 45] 45 #[.slice (some ⟨t, 0, none⟩) n 4, .slice (some ⟨B, 0, none⟩) 1 1]).run Tryz.prog W = .ok (.slice (some ⟨t, 0, none⟩) (n + 1) 4) (W.setCell ⟨t, n, none⟩ (.string c)) := by
  obtain ⟨i, hi, hs⟩ : ∃ i, Tryz.prog.info? 9 = some i ∧ i.size = 1 := by
    have h : (Tryz.prog.info? 9).map (·.size) = some 1 := by kernel_rfl
    obtain ⟨i, hi, hs⟩ := Option.map_eq_some_iff.1 h
    exact ⟨i, hi, hs⟩
  have e0 : (⟨B, 0, none⟩ : Addr).add 0 = ⟨B, 0, none⟩ := rfl
  have := run_append_room_cells (P := Tryz.prog) W 45 45 9 i Tryz.underlying45 hi t 0 n 4 ⟨B, 0, none⟩ 1 1 [.string c] (by rw [hs]; rfl)
    (fun j u hj => by
      match j, hj with
      | 0, hj => rw [e0, hB]; simpa using hj
      | j + 1, hj => simp at hj)
    (fun u hu => by simp at hu; rw [hu]; rfl) hn
    (fun j hj => by
      have : j = 0 := by simpa using hj
      subst this
      rw [hs, show 0 + n * 1 + 0 = n by omega, hv]; rfl)
    (fun j hj => by
      have : j = 0 := by simpa using hj
      subst this
      rw [hs, show 0 + n * 1 + 0 = n by omega]; exact hz)
  rw [this, hs, show 0 + n * 1 = n by omega]
  rfl
theorem wpList_append_eq {P : Program} (w : World) {ops : Array Oper} {rest : List Oper} {o : Oper} {a : Act} {Q : Exit → Act → World → Prop}
    (hg : o.guard = none) (s x : Operand) (t : TypeId) (hop : o.op = Op.call { callee := Callee.builtin Builtin.append, args := #[s, x], argTypes := #[t, t] })
    (vs vx v : Value) (w' : World) (hs : a.eval s = vs) (hx : a.eval x = vx) (hrun : (Builtin.append_ #[t, t] o.type #[vs, vx]).run P w = .ok v w')
    (hK : wpList P ops Q rest (a.put o.dst v) w') : wpList P ops Q (o :: rest) a w := by
  refine wpList_plain hg fun K hK' => ?_
  unfold Oper.wp
  simp [execOp, hop, resolve, invoke, builtin, hs, hx, hrun, Result.andThen]
  exact hK' _ _ hK
/-- A byte more in the table. -/
theorem TabAt.more {W W' : World} {q t : Nat} {D : List UInt8} (o : UInt8) (h : TabAt W q t D) (hsz : W.heap.size ≤ W'.heap.size)
    (h1 : ∀ i, i ≠ 256 → i ≠ o.toNat → W'.cell? ⟨q, i, none⟩ = W.cell? ⟨q, i, none⟩) (h2 : W'.cell? ⟨q, 256, none⟩ = some (.slice (some ⟨t, 0, none⟩) (D.length + 1) 4))
    (a : Addr) (k : Nat) (h3 : W'.cell? ⟨q, o.toNat, none⟩ = some (.slice (some a) 0 k)) (h4 : ∀ j, j ≠ D.length → W'.cell? ⟨t, j, none⟩ = W.cell? ⟨t, j, none⟩) (h5 : W'.cell? ⟨t, D.length, none⟩ = some (.string ⟨#[o]⟩))
    (h6 : ∀ b i, b < W.heap.size → W'.frozen? ⟨b, i, none⟩ = W.frozen? ⟨b, i, none⟩) : TabAt W' q t (D ++ [o]) := by
  obtain ⟨t1, t2, t3, t4, t5, t6, t7, t8, t9⟩ := h
  refine ⟨Nat.lt_of_lt_of_le t1 hsz, Nat.lt_of_lt_of_le t2 hsz, fun c hc hd => ?_, fun c hc => ?_, ?_, fun j c hj => ?_, fun j hj => ?_, fun i => (h6 _ i t2).trans (t8 i), fun i => (h6 _ i t1).trans (t9 i)⟩
  · have hco : c ≠ o.toNat := fun e => hd (by rw [e]; simp)
    rw [h1 c (by omega) hco]
    exact t3 c hc (fun hm => hd (List.mem_append_left _ hm))
  · by_cases e : c = o
    · subst e; exact ⟨a, k, h3⟩
    · have hm : c ∈ D := by
        rcases List.mem_append.1 hc with h | h
        · exact h
        · exact absurd (List.mem_singleton.1 h) e
      obtain ⟨a', k', hk⟩ := t4 c hm
      refine ⟨a', k', (h1 _ (by have := c.toNat_lt; omega) (fun e' => e (UInt8.toNat_inj.1 e'))).trans hk⟩
  · rw [h2, List.length_append]; rfl
  · by_cases hjl : j = D.length
    · subst hjl
      rw [List.getElem?_append_right (Nat.le_refl _), Nat.sub_self] at hj
      simp at hj
      rw [h5, hj]
    · have hjd : j < D.length := by
        have := (List.getElem?_eq_some_iff.1 hj).1
        rw [List.length_append] at this
        simp at this; omega
      rw [List.getElem?_append_left hjd] at hj
      rw [h4 j hjl]; exact t6 j c hj
  · by_cases hjl : j = D.length
    · subst hjl; exact ⟨_, h5⟩
    · rw [h4 j hjl]; exact t7 j hj
theorem bytes_below (W : World) (e : TypeId) (s : ByteArray) : Below W.heap.size W (Lib.bytesWorld W e s) :=
  ⟨rfl, rfl, rfl, by rw [Lib.bytesWorld_size]; omega, fun k hk => Lib.bytesWorld_at_old W e s k hk⟩
/-- One round of the building. -/
theorem TabAt.round {wr W2 : World} {t : Nat} {D : List UInt8} (o : UInt8) (h : TabAt wr (t + 1) t D) (hn : D.length < 4) (ho : o ∉ D) (hb2 : Below wr.heap.size wr W2) :
    ((W2.setCell ⟨t, D.length, none⟩ (.string ⟨#[o]⟩)).cell? ⟨t + 1, 256, none⟩ = some (.slice (some ⟨t, 0, none⟩) D.length 4) ∧ (W2.setCell ⟨t, D.length, none⟩ (.string ⟨#[o]⟩)).frozen? ⟨t + 1, 256, none⟩ = false) ∧
    ((Lib.bytesWorld ((W2.setCell ⟨t, D.length, none⟩ (.string ⟨#[o]⟩)).setCell ⟨t + 1, 256, none⟩ (.slice (some ⟨t, 0, none⟩) (D.length + 1) 4)) 5 ⟨#[]⟩).cell? ⟨t + 1, o.toNat, none⟩ = some (.slice none 0 0) ∧
      (Lib.bytesWorld ((W2.setCell ⟨t, D.length, none⟩ (.string ⟨#[o]⟩)).setCell ⟨t + 1, 256, none⟩ (.slice (some ⟨t, 0, none⟩) (D.length + 1) 4)) 5 ⟨#[]⟩).frozen? ⟨t + 1, o.toNat, none⟩ = false) ∧
    ∀ a k, TabAt ((Lib.bytesWorld ((W2.setCell ⟨t, D.length, none⟩ (.string ⟨#[o]⟩)).setCell ⟨t + 1, 256, none⟩ (.slice (some ⟨t, 0, none⟩) (D.length + 1) 4)) 5 ⟨#[]⟩).setCell ⟨t + 1, o.toNat, none⟩ (.slice (some a) 0 k)) (t + 1) t (D ++ [o]) ∧
      ∀ B, B ≤ t → Below B wr ((Lib.bytesWorld ((W2.setCell ⟨t, D.length, none⟩ (.string ⟨#[o]⟩)).setCell ⟨t + 1, 256, none⟩ (.slice (some ⟨t, 0, none⟩) (D.length + 1) 4)) 5 ⟨#[]⟩).setCell ⟨t + 1, o.toNat, none⟩ (.slice (some a) 0 k)) := by
  have h2 := h.later hb2
  have hwr1 := h.1
  have hwr2 := h.2.1
  clear h
  obtain ⟨t1, t2, t3, t4, t5, t6, t7, t8, t9⟩ := id h2
  have ho256 : o.toNat < 256 := o.toNat_lt
  have ne1 : ∀ i j : Nat, (⟨t, i, none⟩ : Addr) ≠ ⟨t + 1, j, none⟩ := fun i j e => by have := congrArg Addr.block e; simp at this
  have ne2 : ∀ i j : Nat, i ≠ j → (⟨t + 1, i, none⟩ : Addr) ≠ ⟨t + 1, j, none⟩ := fun i j hij e => hij (by have := congrArg Addr.off e; simpa using this)
  have ne3 : ∀ i j : Nat, i ≠ j → (⟨t, i, none⟩ : Addr) ≠ ⟨t, j, none⟩ := fun i j hij e => hij (by have := congrArg Addr.off e; simpa using this)
  have ne4 : ∀ i j : Nat, (⟨t + 1, i, none⟩ : Addr) ≠ ⟨t, j, none⟩ := fun i j e => by have := congrArg Addr.block e; simp at this
  obtain ⟨v0, hv0⟩ := t7 D.length hn
  have n256 : ∀ x : UInt8, x.toNat ≠ 256 := fun x => by have := x.toNat_lt; omega
  have hco : W2.cell? ⟨t + 1, o.toNat, none⟩ = some (.slice none 0 0) := t3 o.toNat ho256 (by simpa using ho)
  obtain ⟨W3, hW3⟩ : ∃ W3, W2.setCell ⟨t, D.length, none⟩ (.string ⟨#[o]⟩) = W3 := ⟨_, rfl⟩
  have a1 : ∀ j, W3.cell? ⟨t + 1, j, none⟩ = W2.cell? ⟨t + 1, j, none⟩ := fun j => by rw [← hW3]; exact World.cell?_setCell_other _ _ _ _ (ne1 _ _)
  have a2 : W3.cell? ⟨t, D.length, none⟩ = some (.string ⟨#[o]⟩) := by rw [← hW3]; exact World.cell?_setCell_same _ _ _ hv0
  have a3 : ∀ j, j ≠ D.length → W3.cell? ⟨t, j, none⟩ = W2.cell? ⟨t, j, none⟩ := fun j hj => by rw [← hW3]; exact World.cell?_setCell_other _ _ _ _ (ne3 _ _ (fun e => hj e.symm))
  have a4 : ∀ x, W3.frozen? x = W2.frozen? x := fun x => by rw [← hW3, World.frozen?_setCell]
  have a5 : W3.heap.size = W2.heap.size := by rw [← hW3]; simp [World.setCell]
  have a6 : ∀ B, B ≤ t → Below B W2 W3 := fun B hB => by rw [← hW3]; exact (Below.refl _ _).setCell hB _
  rw [hW3]
  have b0 : W3.cell? ⟨t + 1, 256, none⟩ = some (.slice (some ⟨t, 0, none⟩) D.length 4) := (a1 256).trans t5
  obtain ⟨W4, hW4⟩ : ∃ W4, W3.setCell ⟨t + 1, 256, none⟩ (.slice (some ⟨t, 0, none⟩) (D.length + 1) 4) = W4 := ⟨_, rfl⟩
  have b1 : ∀ j, j ≠ 256 → W4.cell? ⟨t + 1, j, none⟩ = W3.cell? ⟨t + 1, j, none⟩ := fun j hj => by rw [← hW4]; exact World.cell?_setCell_other _ _ _ _ (ne2 _ _ (fun e => hj e.symm))
  have b2 : W4.cell? ⟨t + 1, 256, none⟩ = some (.slice (some ⟨t, 0, none⟩) (D.length + 1) 4) := by rw [← hW4]; exact World.cell?_setCell_same _ _ _ b0
  have b3 : ∀ j, W4.cell? ⟨t, j, none⟩ = W3.cell? ⟨t, j, none⟩ := fun j => by rw [← hW4]; exact World.cell?_setCell_other _ _ _ _ (ne4 _ _)
  have b4 : ∀ x, W4.frozen? x = W3.frozen? x := fun x => by rw [← hW4, World.frozen?_setCell]
  have b5 : W4.heap.size = W3.heap.size := by rw [← hW4]; simp [World.setCell]
  have b6 : ∀ B, B ≤ t → Below B W3 W4 := fun B hB => by rw [← hW4]; exact (Below.refl _ _).setCell (Nat.le_succ_of_le hB) _
  rw [hW4]
  have hB5 := bytes_below W4 5 ⟨#[]⟩
  generalize Lib.bytesWorld W4 5 ⟨#[]⟩ = W5 at hB5 ⊢
  have c1 : ∀ b j, b < W4.heap.size → W5.cell? ⟨b, j, none⟩ = W4.cell? ⟨b, j, none⟩ := fun b j hb => hB5.cell (p := ⟨b, j, none⟩) hb
  have c2 : ∀ b j, b < W4.heap.size → W5.frozen? ⟨b, j, none⟩ = W4.frozen? ⟨b, j, none⟩ := fun b j hb => hB5.frozen (p := ⟨b, j, none⟩) hb
  have s1 : t < W4.heap.size := by omega
  have s2 : t + 1 < W4.heap.size := by omega
  have d0 : W5.cell? ⟨t + 1, o.toNat, none⟩ = some (.slice none 0 0) := by rw [c1 _ _ s2, b1 _ (n256 o), a1]; exact hco
  refine ⟨⟨b0, (a4 _).trans (t8 256)⟩, ⟨d0, by rw [c2 _ _ s2, b4, a4]; exact t8 _⟩, fun a k => ⟨?_, fun B hB => ?_⟩⟩
  · refine TabAt.more o h2 ?_ ?_ ?_ a k ?_ ?_ ?_ ?_
    · have := hB5.size; simp [World.setCell]; omega
    · intro i hi hio
      rw [World.cell?_setCell_other _ _ _ _ (ne2 _ _ (fun e => hio e.symm)), c1 _ _ s2, b1 _ hi, a1]
    · rw [World.cell?_setCell_other _ _ _ _ (ne2 _ _ (n256 o)), c1 _ _ s2, b2]
    · exact World.cell?_setCell_same _ _ _ d0
    · intro j hj
      rw [World.cell?_setCell_other _ _ _ _ (ne4 _ _), c1 _ _ s1, b3, a3 _ hj]
    · rw [World.cell?_setCell_other _ _ _ _ (ne4 _ _), c1 _ _ s1, b3, a2]
    · intro b i hb
      rw [World.frozen?_setCell, c2 _ _ (by omega), b4, a4]
  · refine Below.setCell ?_ (Nat.le_succ_of_le hB) _
    exact ((hb2.mono (by omega)).trans ((a6 B hB).trans (b6 B hB))).trans (hB5.mono (by omega))
end Go.Proofs.YtaieapldokkdnabGreatDoor

/- What the rounds of coll.Parse stand on. -/
import Derived.Test.YtgjjmapfdijphaaDoorCoAdd
import Derived.Test.YtgjjmapfdijphaaDoorCoSplit
import Derived.Test.YtgjjmapfdijphaaDoorCoTable
import Derived.Test.YtgjjmapfdijphaaDoorCoInv
import Derived.Test.YtgjjmapfdijphaaDoorCoKey
namespace Go.Proofs.YtgjjmapfdijphaaDoor
open Go.RowKit Go.Lib Go.Shelf
attribute [local go_sem] Oper.semAt_some

def ParseGives (r : Except (Nat × Nat) Tb) (e : Ending) (w' : World) : Prop := match r with
  | .ok T => ∃ v, e = .returned (.tuple #[v, .int .i64 0, .int .i64 0]) ∧ TabAt w' v T ∧ TabSmall T ∧ v ≠ .pointer none
  | .error x => e = .returned (.tuple #[.pointer none, .int .i64 (x.1 : Int), .int .i64 (x.2 : Int)])
theorem lookL_mem : ∀ (l : List (Nat × Wt)) (c : Nat) (x : Wt), lookL l c = some x → ∃ y ∈ l, y.2 = x
  | [], c, x, h => by cases h
  | e :: r, c, x, h => by
    unfold lookL at h
    split at h
    · cases h; exact ⟨e, by simp, rfl⟩
    · obtain ⟨y, h1, h2⟩ := lookL_mem r c x h
      exact ⟨y, by simp [h1], h2⟩
theorem Inv.small {d : Ds} (h : Inv d) : TabSmall (tbOf d) := by
  have h1 := h.len
  have h2 := h.last.1
  refine ⟨by unfold tbOf; simp only; omega, by unfold tbOf; simp only; have := h.str; split <;> omega, fun c x hx => ?_⟩
  obtain ⟨y, hy, rfl⟩ := lookL_mem _ c x hx
  obtain ⟨a, b, c⟩ := h.tab y hy
  omega
theorem res_parse {W : World} {b2 b3 b4 : Nat} {o : Option Addr} {n k : Int} (h2 : Boxed W b2 24 (.pointer o)) (h3 : Boxed W b3 3 (.int .i64 n)) (h4 : Boxed W b4 29 (.int .i64 k)) (tmps : Array Value)
    (t2 : tmps.getD 2 undef = .pointer (some ⟨b2, 0, none⟩)) (t3 : tmps.getD 3 undef = .pointer (some ⟨b3, 0, none⟩)) (t4 : tmps.getD 4 undef = .pointer (some ⟨b4, 0, none⟩)) :
    (results Tryd.f13 tmps).run Tryd.prog W = .ok (.tuple #[.pointer o, .int .i64 n, .int .i64 k]) W := by
  have c2 := h2.cell
  have c3 := h3.cell
  have c4 := h4.cell
  have u2 : tmps[2]?.getD undef = .pointer (some ⟨b2, 0, none⟩) := by simpa using t2
  have u3 : tmps[3]?.getD undef = .pointer (some ⟨b3, 0, none⟩) := by simpa using t3
  have u4 : tmps[4]?.getD undef = .pointer (some ⟨b4, 0, none⟩) := by simpa using t4
  simp [results, Tryd.results13, go_sem, u2, u3, u4, c2, c3, c4]
theorem three_boxes (w : World) (u v x : Value) (t1 t2 t3 : TypeId) : let W := ((w.alloc (.cells #[u] t1)).alloc (.cells #[v] t2)).alloc (.cells #[x] t3)
    Boxed W w.heap.size t1 u ∧ Boxed W (w.heap.size + 1) t2 v ∧ Boxed W (w.heap.size + 2) t3 x ∧ Below w.heap.size w W ∧ W.heap.size = w.heap.size + 3 := by
  refine ⟨((Boxed.new w _ _).alloc _).alloc _, ?_, ?_, (((Below.refl _ w).alloc (Nat.le_refl _) _).alloc (by simp) _).alloc (by simp; omega) _, by simp⟩
  · exact (by simpa using Boxed.new (w.alloc (.cells #[u] t1)) t2 v : Boxed _ (w.heap.size + 1) _ _).alloc _
  · simpa using Boxed.new ((w.alloc (.cells #[u] t1)).alloc (.cells #[v] t2)) t3 x
theorem three_set {W : World} {b2 b3 b4 : Nat} {t2 t3 t4 : TypeId} {u v x : Value} (h2 : Boxed W b2 t2 u) (h3 : Boxed W b3 t3 v) (h4 : Boxed W b4 t4 x) (u' v' x' : Value) (h23 : b2 ≠ b3) (h24 : b2 ≠ b4) (h34 : b3 ≠ b4) (W' : World)
    (hW : W' = ((W.setCell ⟨b2, 0, none⟩ u').setCell ⟨b3, 0, none⟩ v').setCell ⟨b4, 0, none⟩ x') : Boxed W' b2 t2 u' ∧ Boxed W' b3 t3 v' ∧ Boxed W' b4 t4 x' := by
  subst hW
  have k3 : ∀ k, k ≠ b4 → (((W.setCell ⟨b2, 0, none⟩ u').setCell ⟨b3, 0, none⟩ v').setCell ⟨b4, 0, none⟩ x').heap[k]? = ((W.setCell ⟨b2, 0, none⟩ u').setCell ⟨b3, 0, none⟩ v').heap[k]? := fun k hk => Below.heap_setCell _ _ _ _ hk
  have k2 : ∀ k, k ≠ b3 → ((W.setCell ⟨b2, 0, none⟩ u').setCell ⟨b3, 0, none⟩ v').heap[k]? = (W.setCell ⟨b2, 0, none⟩ u').heap[k]? := fun k hk => Below.heap_setCell _ _ _ _ hk
  have k1 : ∀ k, k ≠ b2 → (W.setCell ⟨b2, 0, none⟩ u').heap[k]? = W.heap[k]? := fun k hk => Below.heap_setCell _ _ _ _ hk
  have s2 : Boxed (W.setCell ⟨b2, 0, none⟩ u') b2 t2 u' := h2.set u'
  have a3 : Boxed (W.setCell ⟨b2, 0, none⟩ u') b3 t3 v := (k1 b3 (Ne.symm h23)).trans h3
  have s3 := a3.set v'
  have a4 : Boxed ((W.setCell ⟨b2, 0, none⟩ u').setCell ⟨b3, 0, none⟩ v') b4 t4 x := (k2 b4 (Ne.symm h34)).trans ((k1 b4 (Ne.symm h24)).trans h4)
  exact ⟨(k3 b2 h24).trans ((k2 b2 h23).trans s2), (k3 b3 h34).trans s3, a4.set x'⟩
/-- The description, its map and the iterator's boxes, new. -/
theorem parse_new (W2 : World) (s : ByteArray) (W5 : World) (h : W5 = (((((W2.alloc (.map #[] 0)).alloc (.cells #[.map (some W2.heap.size), .int .i64 0, .int .i64 0, .int .i64 0, .int .i64 0] 66)).alloc (.cells #[.pointer (some ⟨W2.heap.size + 1, 0, none⟩)] 62)).alloc (.cells #[.string s] 9)).alloc (.cells #[.string ⟨#[10]⟩] 9)).alloc (.cells #[.int .i64 0] 3)) :
    DsAt W5 (W2.heap.size + 1) W2.heap.size ⟨[], (0, 0, 0), 0⟩ ∧ Boxed W5 (W2.heap.size + 2) 62 (.pointer (some ⟨W2.heap.size + 1, 0, none⟩)) ∧ Boxed W5 (W2.heap.size + 3) 9 (.string s) ∧ Boxed W5 (W2.heap.size + 4) 9 (.string ⟨#[10]⟩) ∧ Boxed W5 (W2.heap.size + 5) 3 (.int .i64 0) ∧
    Below W2.heap.size W2 W5 ∧ W5.heap.size = W2.heap.size + 6 := by
  obtain ⟨A1, hA1⟩ : ∃ A1, W2.alloc (.map #[] 0) = A1 := ⟨_, rfl⟩
  have z1 : A1.heap.size = W2.heap.size + 1 := by rw [← hA1]; simp
  have n1 : Below W2.heap.size W2 A1 := by rw [← hA1]; exact (Below.refl _ _).alloc (Nat.le_refl _) _
  have m1 : MapIs A1 W2.heap.size [] := by rw [← hA1]; exact MapIs.made W2
  rw [hA1] at h
  obtain ⟨A2, hA2⟩ : ∃ A2, A1.alloc (.cells #[.map (some W2.heap.size), .int .i64 0, .int .i64 0, .int .i64 0, .int .i64 0] 66) = A2 := ⟨_, rfl⟩
  have z2 : A2.heap.size = W2.heap.size + 2 := by rw [← hA2]; simp [z1]
  have n2 : Below A1.heap.size A1 A2 := by rw [← hA2]; exact (Below.refl _ _).alloc (Nat.le_refl _) _
  have m2 : A2.heap[W2.heap.size + 1]? = some (.cells #[.map (some W2.heap.size), .int .i64 0, .int .i64 0, .int .i64 0, .int .i64 0] 66 (0, 0)) := by rw [← hA2, ← z1]; exact World.alloc_heap_new A1 _
  rw [hA2] at h
  obtain ⟨A3, hA3⟩ : ∃ A3, A2.alloc (.cells #[.pointer (some ⟨W2.heap.size + 1, 0, none⟩)] 62) = A3 := ⟨_, rfl⟩
  have z3 : A3.heap.size = W2.heap.size + 3 := by rw [← hA3]; simp [z2]
  have n3 : Below A2.heap.size A2 A3 := by rw [← hA3]; exact (Below.refl _ _).alloc (Nat.le_refl _) _
  have m3 : Boxed A3 (W2.heap.size + 2) 62 (.pointer (some ⟨W2.heap.size + 1, 0, none⟩)) := by rw [← hA3, ← z2]; exact Boxed.new A2 _ _
  rw [hA3] at h
  obtain ⟨q4, q5, q6, n6, z6⟩ := three_boxes A3 (.string s) (.string ⟨#[10]⟩) (.int .i64 0) 9 9 3
  rw [← h] at q4 q5 q6 n6 z6
  rw [z3] at q4 q5 q6
  have n26 : Below A2.heap.size A2 W5 := n3.trans (n6.mono n3.size)
  have n16 : Below A1.heap.size A1 W5 := n2.trans (n26.mono n2.size)
  refine ⟨⟨(n26.block _ (by omega)).trans m2, by omega, m1.same (n16.block _ (by omega))⟩, (n6.block _ (by omega)).trans m3, q4, q5, q6, n1.trans (n16.mono n1.size), by omega⟩
/-- Behind the lines pre. -/
def PI (b z : Nat) (w : World) (LS : List (List UInt8)) (ANS : Except (Nat × Nat) Ds) (pre : List (List UInt8)) (W : World) : Prop :=
  ∃ d rest, pre ++ rest = LS ∧ Hid (linesGo pre.length d rest = ANS) ∧ Inv d ∧ DsAt W (z + 1) z d ∧ Boxed W b 24 (.pointer none) ∧ Boxed W (b + 1) 3 (.int .i64 (pre.length : Int)) ∧ Boxed W (b + 2) 29 (.int .i64 0) ∧ Boxed W (z + 2) 62 (.pointer (some ⟨z + 1, 0, none⟩)) ∧ Below w.heap.size w W
def PX (b : Nat) (w : World) (ANS : Except (Nat × Nat) Ds) (c : Code) (_pre : List (List UInt8)) (W : World) : Prop :=
  c = .ret ∧ ∃ n k : Nat, ANS = .error (n, k) ∧ Boxed W b 24 (.pointer none) ∧ Boxed W (b + 1) 3 (.int .i64 (n : Int)) ∧ Boxed W (b + 2) 29 (.int .i64 (k : Int)) ∧ Below w.heap.size w W
theorem PI.other {b z : Nat} {w : World} {LS : List (List UInt8)} {ANS : Except (Nat × Nat) Ds} {pre : List (List UInt8)} {W W' : World} (h : PI b z w LS ANS pre W) {R : Nat → Prop} (hc : Ch R W W') (hR : ∀ k, R k → z + 3 ≤ k) (hb : b + 2 < z) (hw : w.heap.size = b) : PI b z w LS ANS pre W' := by
  obtain ⟨d, rest, h1, h2, h3, h4, h5, h6, h7, h8, h9⟩ := h
  have hs : ∀ k, k < W.heap.size → k < z + 3 → W'.heap[k]? = W.heap[k]? := fun k hk hl => hc.block k hk (fun hr => by have := hR k hr; omega)
  have l1 := h4.lt
  have l5 := h5.lt
  have l6 := h6.lt
  have l7 := h7.lt
  have l8 := h8.lt
  exact ⟨d, rest, h1, h2, h3, h4.later (hs _ l1.1 (by omega)) (hs _ l1.2 (by omega)), (hs _ l5 (by omega)).trans h5, (hs _ l6 (by omega)).trans h6, (hs _ l7 (by omega)).trans h7, (hs _ l8 (by omega)).trans h8, h9.trans (hc.below h9.size (fun k hk hr => by have := hR k hr; omega))⟩
theorem PX.other {b z : Nat} {w : World} {ANS : Except (Nat × Nat) Ds} {c : Code} {pre : List (List UInt8)} {W W' : World} (h : PX b w ANS c pre W) {R : Nat → Prop} (hc : Ch R W W') (hR : ∀ k, R k → z + 3 ≤ k) (hb : b + 2 < z) (hw : w.heap.size = b) : PX b w ANS c pre W' := by
  obtain ⟨h0, n, k, h1, h5, h6, h7, h9⟩ := h
  have hs : ∀ k, k < W.heap.size → k < z + 3 → W'.heap[k]? = W.heap[k]? := fun k hk hl => hc.block k hk (fun hr => by have := hR k hr; omega)
  have l5 := h5.lt
  have l6 := h6.lt
  have l7 := h7.lt
  exact ⟨h0, n, k, h1, (hs _ l5 (by omega)).trans h5, (hs _ l6 (by omega)).trans h6, (hs _ l7 (by omega)).trans h7, h9.trans (hc.below h9.size (fun k hk hr => by have := hR k hr; omega))⟩
theorem addL_err (line : List UInt8) (d : Ds) (k : Nat) (h : addL line d = .error k) : k ≠ 0 := by
  unfold addL at h
  split at h
  · cases h
  · split at h
    · cases h
    · split at h
      · unfold setStr at h
        split at h
        · split at h
          · cases h; decide
          · split at h <;> cases h; decide
        · cases h; decide
      · have hK : ∀ es d2, keepD es d2 = .error k → k ≠ 0 := by
          intro es d2 h
          unfold keepD at h
          split at h
          · cases h; decide
          · split at h <;> cases h; decide
        split at h
        · unfold ignoreD at h
          split at h
          · cases h; decide
          · split at h
            · cases h; decide
            · exact hK _ _ h
        · unfold listD at h
          split at h
          · cases h; decide
          · exact hK _ _ h
end Go.Proofs.YtgjjmapfdijphaaDoor

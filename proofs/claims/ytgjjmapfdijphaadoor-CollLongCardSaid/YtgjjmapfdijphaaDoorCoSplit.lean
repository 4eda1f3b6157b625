/- strings.SplitSeq at one byte, its iterator: the lines of a text. -/
import Derived.Test.YtgjjmapfdijphaaDoorCoRound
import Derived.Test.YtgjjmapfdijphaaDoorCoWords
import Derived.Test.YtgjjmapfdijphaaDoorCoWorld
namespace Go.Proofs.YtgjjmapfdijphaaDoor
open Go.RowKit Go.Lib Go.Shelf
attribute [local go_sem] Oper.semAt_some

theorem idx_none (c : UInt8) : ∀ l : List UInt8, Lib.indexByte l c = -1 → c ∉ l
  | [], _ => by simp
  | b :: l, h => by
    unfold Lib.indexByte at h
    by_cases hb : (b == c) = true
    · rw [if_pos hb] at h; cases h
    · rw [if_neg hb] at h
      by_cases h2 : (Lib.indexByte l c == -1) = true
      · have := idx_none c l (by simpa using h2)
        have hne : ¬ b = c := by simpa using hb
        simp only [List.mem_cons, not_or]; exact ⟨fun e => hne e.symm, this⟩
      · rw [if_neg h2] at h
        have : ∀ l : List UInt8, -1 ≤ Lib.indexByte l c := by
          intro l; induction l with
          | nil => simp [Lib.indexByte]
          | cons a l ih => unfold Lib.indexByte; split <;> (try omega)
        have := this l
        have h3 : ¬ Lib.indexByte l c = -1 := by simpa using h2
        omega
theorem idx_some (c : UInt8) : ∀ l : List UInt8, Lib.indexByte l c ≠ -1 → ∃ a t, l = a ++ c :: t ∧ c ∉ a ∧ Lib.indexByte l c = (a.length : Int)
  | [], h => absurd rfl h
  | b :: l, h => by
    unfold Lib.indexByte at h ⊢
    by_cases hb : (b == c) = true
    · rw [if_pos hb]
      obtain rfl : b = c := by simpa using hb
      exact ⟨[], l, rfl, by simp, rfl⟩
    · rw [if_neg hb] at h ⊢
      by_cases h2 : (Lib.indexByte l c == -1) = true
      · rw [if_pos h2] at h; exact absurd rfl h
      · rw [if_neg h2]
        obtain ⟨a, t, h3, h4, h5⟩ := idx_some c l (by simpa using h2)
        have hne : ¬ b = c := by simpa using hb
        refine ⟨b :: a, t, by rw [h3]; rfl, by simp only [List.mem_cons, not_or]; exact ⟨fun e => hne e.symm, h4⟩, ?_⟩
        rw [h5]; simp
/-- These three blocks are as they were. -/
def Kept3 (a b c : Nat) (W W' : World) : Prop := W'.heap[a]? = W.heap[a]? ∧ W'.heap[b]? = W.heap[b]? ∧ W'.heap[c]? = W.heap[c]?
theorem Kept3.trans {a b c : Nat} {X Y Z : World} (h : Kept3 a b c X Y) (k : Kept3 a b c Y Z) : Kept3 a b c X Z := ⟨k.1.trans h.1, k.2.1.trans h.2.1, k.2.2.trans h.2.2⟩
def leftAt (W : World) (b : Nat) : Nat := match W.cell? ⟨b, 0, none⟩ with
  | some (.string s) => s.size
  | _ => 0
theorem leftAt_is {W : World} {b : Nat} {s : ByteArray} (h : W.cell? ⟨b, 0, none⟩ = some (.string s)) : leftAt W b = s.size := by unfold leftAt; rw [h]
set_option maxRecDepth 100000 in
set_option maxHeartbeats 2000000 in
theorem splitSeq1_in (F : Fence) (n : Nat) (hF : ∀ f, F.fn f) (hwd : F = Fence.wide) (hn : 1 ≤ n) (l Bp Bs Bv : Nat) (h3 : Bs ≠ Bp ∧ Bs ≠ Bv) (s0 : ByteArray) (hs0 : s0.size ≤ 4000000) (J Jx : List (List UInt8) → World → Prop)
    (hJ : ∀ s A B, J s A → Ch (fun k => k = Bs) A B → J s B)
    (hY : ∀ pre x W, (∃ rest, pre ++ x :: rest = linesL s0.data.toList) → J pre W → YieldAt F (n - 1) Tryd.prog l #[.string ⟨x.toArray⟩] W fun e W' =>
      (e = .returned (.bool true) ∧ J (pre ++ [x]) W' ∧ Kept3 Bp Bs Bv W W') ∨ (e = .returned (.bool false) ∧ Jx (pre ++ [x]) W'))
    (W : World) (hp : Boxed W Bp 9 (.string ⟨#[10]⟩)) (hs : Boxed W Bs 9 (.string s0)) (hv : Boxed W Bv 3 (.int .i64 0)) (h0 : J [] W) :
    CallsIn F n Tryd.prog 68 #[.func (.yield l) #[] #[], .pointer (some ⟨Bp, 0, none⟩), .pointer (some ⟨Bs, 0, none⟩), .pointer (some ⟨Bv, 0, none⟩)] W fun e W' => (∃ v, e = .returned v) ∧
      ((∃ ys, ys = linesL s0.data.toList ∧ J ys W') ∨ (∃ pre, True ∧ Jx pre W')) := by
  subst hwd
  refine callsIn_of_wp Tryd.func68 rfl trivial ?_ rfl
  simp only [Tryd.ntmps68, List.size_toArray, List.length_cons, List.length_nil, Nat.reduceAdd, Nat.reduceSub, Array.replicate_succ, Array.replicate_zero, List.push_toArray, List.append_toArray, List.nil_append, List.cons_append]
  have cp := hp.cell
  gi_wp2
  gi_loopw [] (fun wr => ∃ (pre : List (List UInt8)) (s : ByteArray), pre ++ linesL s.data.toList = linesL s0.data.toList ∧ J pre wr ∧ s.size ≤ 4000000 ∧ Boxed wr Bp 9 (.string ⟨#[10]⟩) ∧ Boxed wr Bs 9 (.string s) ∧ Boxed wr Bv 3 (.int .i64 0)) (fun wr => leftAt wr Bs)
  case atStart => exact ⟨[], s0, rfl, h0, hs0, hp, hs, hv⟩
  case round =>
    obtain ⟨pre, s, hx, hj, hsz, bp, bs, bv⟩ := hrel
    have c1 := bp.cell
    have c2 := bs.cell
    have c3 := bv.cell
    have f2 := bs.frozen
    have cI := Tryd.strings_Index_one s 10 wr
    by_cases hi : Lib.indexByte s.data.toList 10 = -1
    · rw [hi] at cI
      have hno := linesL_none _ (idx_none 10 _ hi)
      rw [hno] at hx
      have hYx := hY pre s.data.toList wr ⟨[], hx⟩ hj
      have hse : (⟨s.data.toList.toArray⟩ : ByteArray) = s := rfl
      rw [hse] at hYx
      obtain ⟨fn, tmps, assign, body, hy, hR⟩ := hYx
      gi_wp2_with (gi_at_call 56; refine (callsIn_wide.2 cI).mono ?_; rintro e W2 ⟨rfl, rfl⟩)
      refine hR.mono ?_
      rintro e W3 (⟨rfl, hJ3, hk3⟩ | ⟨rfl, hJx3⟩)
      · gi_wp2
        refine bodyPost_end (results_none rfl _ _ _) rfl ?_
        exact ⟨⟨_, rfl⟩, .inl ⟨_, hx, hJ3⟩⟩
      · gi_wp2
        refine bodyPost_end (results_none rfl _ _ _) rfl ?_
        exact ⟨⟨_, rfl⟩, .inr ⟨_, trivial, hJx3⟩⟩
    · obtain ⟨a, t, hl, hna, hia⟩ := idx_some 10 _ hi
      rw [hia] at cI
      rw [hl, linesL_at a t hna] at hx
      have hYx := hY pre a wr ⟨linesL t, hx⟩ hj
      have hsl : s.size = a.length + 1 + t.length := by rw [size_eq, hl]; simp; omega
      have hex : s.extract 0 a.length = ⟨a.toArray⟩ := ba_eq (by rw [extract_data, hl]; simp)
      have hey : s.extract (a.length + 1) s.size = ⟨t.toArray⟩ := ba_eq (by rw [extract_data, hl, hsl]; simp)
      obtain ⟨fn, tmps, assign, body, hy, hR⟩ := hYx
      have hal : (a.length : Int) ≤ (s.size : Int) := by omega
      have hal1 : (a.length : Int) + 1 ≤ (s.size : Int) := by omega
      have HL := Lib.hid hl
      have HS := Lib.hid hsl
      have HI := Lib.hid hia
      have HX := Lib.hid hx
      obtain ⟨k, hk⟩ : ∃ k, a.length = k := ⟨_, rfl⟩
      rw [hk] at cI hex hey hal hal1
      have HKk := Lib.hid hk
      have hk2 : k < 9000000 := by omega
      clear hl hsl hia hx hi hk
      gi_wp2_with (gi_at_call 56; refine (callsIn_wide.2 cI).mono ?_; rintro e W2 ⟨rfl, rfl⟩)
      refine hR.mono ?_
      rintro e W3 (⟨rfl, hJ3, hk3⟩ | ⟨rfl, hJx3⟩)
      · have bp3 : Boxed W3 Bp 9 (.string ⟨#[10]⟩) := hk3.1.trans bp
        have bs3 : Boxed W3 Bs 9 (.string s) := hk3.2.1.trans bs
        have bv3 : Boxed W3 Bv 3 (.int .i64 0) := hk3.2.2.trans bv
        have d1 := bp3.cell
        have d2 := bs3.cell
        have d3 := bv3.cell
        have g2 := bs3.frozen
        gi_wp2
        go_roundw
        case rel =>
          refine ⟨pre ++ [a], ⟨t.toArray⟩, by rw [List.append_assoc]; exact HX.out, hJ _ _ _ hJ3 (Ch.of_grown (grownBy_setCell' _ _ _) (fun k e => (Option.some.inj e).symm)), ?_, (Below.heap_setCell _ _ _ _ (Ne.symm h3.1)).trans bp3, bs3.set _, (Below.heap_setCell _ _ _ _ (Ne.symm h3.2)).trans bv3⟩
          have := HS.out
          show t.toArray.size ≤ _
          simp; omega
        case measure =>
          rw [leftAt_is (bs3.set _).cell, leftAt_is bs.cell]
          have := HS.out
          show t.toArray.size < _
          simp; omega
      · gi_wp2
        refine bodyPost_ret (results_none rfl _ _ _) rfl ?_
        exact ⟨⟨_, rfl⟩, .inr ⟨_, trivial, hJx3⟩⟩
theorem splitSeq0_any (n : Nat) (s p : ByteArray) (w : World) :
    CallsIn Fence.wide n Tryd.prog 47 #[.string s, .string p, .int .i64 0] w fun e w' => e = .returned (.func (.func 68) #[] #[.pointer (some ⟨w.heap.size + 1, 0, none⟩), .pointer (some ⟨w.heap.size, 0, none⟩), .pointer (some ⟨w.heap.size + 2, 0, none⟩)]) ∧ w' = ((w.alloc (.cells #[.string s] 9)).alloc (.cells #[.string p] 9)).alloc (.cells #[.int .i64 0] 3) := by
  refine callsIn_of_wp Tryd.func47 rfl trivial ?_ rfl
  simp only [Tryd.ntmps47, List.size_toArray, List.length_cons, List.length_nil, Nat.reduceAdd, Nat.reduceSub, Array.replicate_succ, Array.replicate_zero, List.push_toArray, List.append_toArray, List.nil_append, List.cons_append]
  gi_wp2
  go_ret
  exact ⟨rfl, rfl⟩
/-- strings.SplitSeq: the iterator. -/
theorem splitSeq_any (n : Nat) (hn : 1 ≤ n) (s p : ByteArray) (w : World) :
    CallsIn Fence.wide n Tryd.prog 27 #[.string s, .string p] w fun e w' => e = .returned (.func (.func 68) #[] #[.pointer (some ⟨w.heap.size + 1, 0, none⟩), .pointer (some ⟨w.heap.size, 0, none⟩), .pointer (some ⟨w.heap.size + 2, 0, none⟩)]) ∧ w' = ((w.alloc (.cells #[.string s] 9)).alloc (.cells #[.string p] 9)).alloc (.cells #[.int .i64 0] 3) := by
  refine callsIn_of_wp Tryd.func27 rfl trivial ?_ rfl
  simp only [Tryd.ntmps27, List.size_toArray, List.length_cons, List.length_nil, Nat.reduceAdd, Nat.reduceSub, Array.replicate_succ, Array.replicate_zero, List.push_toArray, List.append_toArray, List.nil_append, List.cons_append]
  gi_wp2_with (refine ⟨trivial, ?_⟩; gi_at_call 47; refine (splitSeq0_any (n - 1) s p w).mono ?_; rintro e w2 ⟨rfl, rfl⟩)
  go_ret
  exact ⟨rfl, rfl⟩
end Go.Proofs.YtgjjmapfdijphaaDoor

/- The iterator that slices.Chunk makes of a slice of strings, two at a time. -/
import Derived.Test.YtgjjmapfdijphaaDoorCoCat
import Derived.Test.YtgjjmapfdijphaaDoorCoRange
import Derived.RangeFuncBox
import Derived.OwnWalkIn
import Derived.TacticsInMore
import Derived.LoopNIn
import Derived.LoopIn
import Derived.RegionIn
import Derived.BigRegionIn
namespace Go.Proofs.YtgjjmapfdijphaaDoor
open Go.RowKit Go.Lib Go.Shelf
attribute [local go_sem] Oper.semAt_some

/-- These two blocks are as they were. -/
def Kept2 (a b : Nat) (W W' : World) : Prop := W'.heap[a]? = W.heap[a]? ∧ W'.heap[b]? = W.heap[b]?
theorem Kept2.trans {a b : Nat} {X Y Z : World} (h : Kept2 a b X Y) (k : Kept2 a b Y Z) : Kept2 a b X Z := ⟨k.1.trans h.1, k.2.trans h.2⟩
def Draws (A B : World) : Prop := ∃ q, B = A.drewN q
/-- The i-th piece. -/
def pieceV (A L i : Nat) : Value := .slice (some ⟨A, i, none⟩) (min 2 (L - i)) (min 2 (L - i))
set_option maxRecDepth 100000 in
set_option maxHeartbeats 2000000 in
theorem chunk1_in (F : Fence) (n : Nat) (h88 : F.fn 86) (hro : F.round = none) (hn : 1 ≤ n) (l Bc Bn A L cap : Nat) (hL : L ≤ 2000000) (hLc : L ≤ cap) (hcap : cap ≤ 9223372036854775807) (J Jx : List Nat → World → Prop)
    (hJ : ∀ s A B, J s A → Draws A B → J s B)
    (hY : ∀ pre x W, (x = 2 * pre.length ∧ x < L) → J pre W → YieldAt F (n - 1) Tryd.prog l #[pieceV A L x] W fun e W' =>
      (e = .returned (.bool true) ∧ J (pre ++ [x]) W' ∧ Kept2 Bc Bn W W') ∨ (e = .returned (.bool false) ∧ Jx (pre ++ [x]) W'))
    (W : World) (hc : Boxed W Bc 60 (.slice (some ⟨A, 0, none⟩) L cap)) (hn2 : Boxed W Bn 3 (.int .i64 2)) (h0 : J [] W) :
    CallsIn F n Tryd.prog 86 #[.func (.yield l) #[] #[], .pointer (some ⟨Bc, 0, none⟩), .pointer (some ⟨Bn, 0, none⟩)] W fun e W' => (∃ v, e = .returned v) ∧
      ((∃ ys : List Nat, L ≤ 2 * ys.length ∧ J ys W') ∨ (∃ pre, True ∧ Jx pre W')) := by
  refine callsIn_of_wp Tryd.func86 rfl h88 ?_ hro
  simp only [Tryd.ntmps86, List.size_toArray, List.length_cons, List.length_nil, Nat.reduceAdd, Nat.reduceSub, Array.replicate_succ, Array.replicate_zero, List.push_toArray, List.append_toArray, List.nil_append, List.cons_append]
  gi_wp2
  gi_loopw [4] (fun s4 wr => ∃ pre : List Nat, s4 = .int .i64 ((2 * pre.length : Nat) : Int) ∧ J pre wr ∧ 2 * pre.length ≤ L + 1 ∧ Kept2 Bc Bn W wr)
    (fun s4 _ => L + 2 - (intOf s4).toNat)
  case atStart => exact ⟨[], rfl, h0, by simp, rfl, rfl⟩
  case round =>
    obtain ⟨pre, rfl, hj, hpl, hk⟩ := hrel
    have hcw : Boxed wr Bc 60 (.slice (some ⟨A, 0, none⟩) L cap) := hk.1.trans hc
    have hnw : Boxed wr Bn 3 (.int .i64 2) := hk.2.trans hn2
    have c1 := hcw.cell
    have c2 := hnw.cell
    obtain ⟨x, hx⟩ : ∃ x, 2 * pre.length = x := ⟨_, rfl⟩
    have Hx := Lib.hid hx
    by_cases hlt : x < L
    · rw [hx] at hpl ⊢
      clear hx
      have hlt' : (x : Int) < (L : Int) := by omega
      have hYx := hY pre x wr.drew ⟨Hx.out.symm, hlt⟩ (hJ _ _ _ hj ⟨1, rfl⟩)
      have hne : ¬ cap = x := by omega
      have hle : x ≤ L := by omega
      by_cases h2 : x + 1 < L
      · have hp : pieceV A L x = .slice (some ⟨A, x, none⟩) 2 2 := by unfold pieceV; rw [show min 2 (L - x) = 2 by omega]
        rw [hp] at hYx
        have hm : min 2 ((L - x : Nat) : Int) = 2 := by omega
        have hs1 : (x : Int) + 2 ≤ (cap : Int) := by omega
        obtain ⟨fn, tmps, assign, body, hy, hR⟩ := hYx
        clear hp
        gi_wp2
        gi_region
        all_goals
          gi_wp2
          refine hR.mono ?_
          rintro e W3 (⟨rfl, hJ3, hk3⟩ | ⟨rfl, hJx3⟩)
          · have hk3' : Kept2 Bc Bn W W3 := hk.trans hk3
            have d2 := Boxed.cell (show Boxed W3 Bn 3 (.int .i64 2) from hk3.2.trans hnw)
            gi_wp2
            go_roundw
            case rel => exact ⟨pre ++ [x], by rw [List.length_append, List.length_singleton, Nat.mul_add, Hx.out]; rfl, hJ3, by rw [List.length_append, List.length_singleton, Nat.mul_add, Hx.out]; omega, hk3'⟩
            case measure => simp [intOf]; omega
          · gi_wp2
            refine bodyPost_ret (results_none rfl _ _ _) rfl ?_
            exact ⟨⟨_, rfl⟩, .inr ⟨_, trivial, hJx3⟩⟩
      · have hp : pieceV A L x = .slice (some ⟨A, x, none⟩) 1 1 := by unfold pieceV; rw [show min 2 (L - x) = 1 by omega]
        rw [hp] at hYx
        have hm : min 2 ((L - x : Nat) : Int) = 1 := by omega
        have hs1 : (x : Int) + 1 ≤ (cap : Int) := by omega
        obtain ⟨fn, tmps, assign, body, hy, hR⟩ := hYx
        clear hp
        gi_wp2
        gi_region
        all_goals
          gi_wp2
          refine hR.mono ?_
          rintro e W3 (⟨rfl, hJ3, hk3⟩ | ⟨rfl, hJx3⟩)
          · have hk3' : Kept2 Bc Bn W W3 := hk.trans hk3
            have d2 := Boxed.cell (show Boxed W3 Bn 3 (.int .i64 2) from hk3.2.trans hnw)
            gi_wp2
            go_roundw
            case rel => exact ⟨pre ++ [x], by rw [List.length_append, List.length_singleton, Nat.mul_add, Hx.out]; rfl, hJ3, by rw [List.length_append, List.length_singleton, Nat.mul_add, Hx.out]; omega, hk3'⟩
            case measure => simp [intOf]; omega
          · gi_wp2
            refine bodyPost_ret (results_none rfl _ _ _) rfl ?_
            exact ⟨⟨_, rfl⟩, .inr ⟨_, trivial, hJx3⟩⟩
    · rw [hx] at hpl ⊢
      clear hx
      have hlt' : ¬ (x : Int) < (L : Int) := by omega
      gi_wp2
      go_end0
      exact ⟨⟨_, rfl⟩, .inl ⟨pre, by have := Hx.out; omega, hj⟩⟩
end Go.Proofs.YtgjjmapfdijphaaDoor

/- slices.Backward at words: the iterator. -/
import Derived.Test.YtofpojlnfncpcaaGreatDoorNuCh
import Derived.Test.YtofpojlnfncpcaaGreatDoorNuMulW
import Derived.LoopIn
import Derived.LoopNIn
import Derived.TacticsInMore
namespace Go.Proofs.YtofpojlnfncpcaaGreatDoor
open Go.RowKit Go.Lib
attribute [local go_sem] Oper.semAt_some

def intOf : Value → Int
  | .int _ z => z
  | _ => 0
/-- What a round keeps of what the iterator reads: the box, and the words. -/
def KeptB (Bs : Nat) (v : Value) (l : List Nat) (W W' : World) : Prop := W'.heap[Bs]? = W.heap[Bs]? ∧ (Nats W v l → Nats W' v l)
theorem KeptB.trans {Bs : Nat} {v : Value} {l : List Nat} {X Y Z : World} (h : KeptB Bs v l X Y) (k : KeptB Bs v l Y Z) : KeptB Bs v l X Z := ⟨k.1.trans h.1, fun x => k.2 (h.2 x)⟩
theorem backward_any (n : Nat) (p : Option Addr) (k cap : Nat) (w : World) :
    CallsIn Fence.wide n Tryz.prog 86 #[.slice p k cap] w fun e w' => e = .returned (.func (.func 115) #[] #[.pointer (some ⟨w.heap.size, 0, none⟩)]) ∧ w' = w.alloc (.cells #[.slice p k cap] 45) := by
  refine callsIn_of_wp Tryz.func86 rfl trivial ?_ rfl
  simp only [Tryz.ntmps86, List.size_toArray, List.length_cons, List.length_nil, Nat.reduceAdd, Nat.reduceSub, Array.replicate_succ, Array.replicate_zero, List.push_toArray, List.append_toArray, List.nil_append, List.cons_append]
  gi_wp2
  go_ret
  exact ⟨rfl, rfl⟩
set_option maxRecDepth 100000 in
set_option maxHeartbeats 2000000 in
theorem backward1_in (n : Nat) (hn : 1 ≤ n) (l Bs : Nat) (v : Value) (ws : List Nat) (hw9 : ws.length < 100000000) (J Jx : List (Nat × Nat) → World → Prop)
    (hY : ∀ pre x W, (∃ rest, pre ++ x :: rest = bwL ws) → J pre W → YieldAt Fence.wide (n - 1) Tryz.prog l #[.int .i64 (x.1 : Int), .int .u32 (x.2 : Int)] W fun e W' =>
      (e = .returned (.bool true) ∧ J (pre ++ [x]) W' ∧ KeptB Bs v ws W W') ∨ (e = .returned (.bool false) ∧ Jx (pre ++ [x]) W'))
    (W : World) (hs : Boxed W Bs 45 v) (hN : Nats W v ws) (h0 : J [] W) :
    CallsIn Fence.wide n Tryz.prog 115 #[.func (.yield l) #[] #[], .pointer (some ⟨Bs, 0, none⟩)] W fun e W' => (∃ r, e = .returned r) ∧
      ((∃ ys, ys = bwL ws ∧ J ys W') ∨ (∃ pre, True ∧ Jx pre W')) := by
  refine callsIn_of_wp Tryz.func115 rfl trivial ?_ rfl
  simp only [Tryz.ntmps115, List.size_toArray, List.length_cons, List.length_nil, Nat.reduceAdd, Nat.reduceSub, Array.replicate_succ, Array.replicate_zero, List.push_toArray, List.append_toArray, List.nil_append, List.cons_append]
  obtain ⟨p, cap, rfl⟩ := hN.shape
  have cs := hs.cell
  gi_wp2
  have hK0 : Nats W (.slice p ws.length cap) ws := hN
  gi_loopw [3] (fun s3 wr => ∃ (k : Nat) (pre : List (Nat × Nat)), s3 = .int .i64 ((k : Int) - 1) ∧ k ≤ ws.length ∧ pre ++ bwL (ws.take k) = bwL ws ∧ J pre wr ∧ Boxed wr Bs 45 (.slice p ws.length cap) ∧ Nats wr (.slice p ws.length cap) ws) (fun s3 _ => (intOf s3 + 1).toNat)
  case atStart => exact ⟨ws.length, [], rfl, Nat.le_refl _, by rw [List.take_length]; rfl, h0, hs, hK0⟩
  case round =>
    clear hs hN cs h0 hK0
    obtain ⟨k, pre, rfl, hk, hpr, hj, hB, hNw⟩ := hrel
    by_cases hk0 : k = 0
    · subst hk0
      have hkz : ¬ (0 : Int) ≤ ((0 : Nat) : Int) - 1 := by omega
      have hpr2 : pre = bwL ws := by rw [← hpr]; exact (List.append_nil _).symm
      gi_wp2
      refine bodyPost_end (results_none rfl _ _ _) rfl ?_
      exact ⟨⟨_, rfl⟩, .inl (by first | (rw [← hpr2]; exact hj) | exact ⟨_, hpr2, hj⟩)⟩
    · obtain ⟨k, rfl⟩ : ∃ j, k = j + 1 := ⟨k - 1, by omega⟩
      have hkz : (0 : Int) ≤ ((k + 1 : Nat) : Int) - 1 := by omega
      have hsub : ((k + 1 : Nat) : Int) - 1 = (k : Int) := by omega
      rw [take_snoc' ws k (by omega), bwL_snoc, List.length_take, Nat.min_eq_left (by omega)] at hpr
      have hYx := hY pre (k, ws.getD k 0) wr ⟨_, hpr⟩ hj
      obtain ⟨b0, off, hp, hcell⟩ := hNw.at (Below.refl _ wr) k (by omega)
      have cb := hB.cell
      subst hp
      obtain ⟨fn, tmps, assign, body, hy, hR⟩ := hYx
      have HP := Lib.hid hpr
      have HN := Lib.hid hNw
      clear hpr hNw hY
      generalize ws.getD k 0 = x at *
      gi_wp2
      refine hR.mono ?_
      rintro e W3 (⟨rfl, hJ3, hk3⟩ | ⟨rfl, hJx3⟩)
      · have hB3 : Boxed W3 Bs 45 (.slice (some ⟨b0, off, none⟩) ws.length cap) := hk3.1.trans hB
        have hN3 := hk3.2 HN.out
        gi_wp2
        go_roundw
        case rel => exact ⟨k, pre ++ [(k, x)], rfl, by omega, by rw [List.append_assoc]; exact HP.out, hJ3, hB3, hN3⟩
        case measure => simp [intOf] <;> omega
      · gi_wp2
        refine bodyPost_ret (results_none rfl _ _ _) rfl ?_
        exact ⟨⟨_, rfl⟩, .inr (by first | exact ⟨_, trivial, hJx3⟩ | exact ⟨_, hJx3⟩)⟩
end Go.Proofs.YtofpojlnfncpcaaGreatDoor

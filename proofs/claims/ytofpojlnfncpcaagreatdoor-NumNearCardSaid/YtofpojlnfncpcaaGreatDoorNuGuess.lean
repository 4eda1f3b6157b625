/- Natural numbers: the contract of guess. -/
import Derived.Test.YtofpojlnfncpcaaGreatDoorNuGuessP
namespace Go.Proofs.YtofpojlnfncpcaaGreatDoor
open Go.RowKit Go.Lib

/-- A place's word, read in any later world. -/
def WordAt (w : World) (v : Value) (z : Int) (x : Nat) : Prop :=
  ∀ W, Below w.heap.size w W → Calls Tryz.prog 112 #[v, .int .i64 z] W fun e w' => e = .returned (.int .u32 (x : Int)) ∧ w' = W

set_option maxHeartbeats 1000000 in
set_option maxRecDepth 100000 in
theorem guess_core (u : Value) (r b : List Nat) (k c b0 off : Nat) (d1 d0 t2 t1 t0 : Nat) (hT : Two r b d1 d0 t2 t1 t0) (hq : val r < 1000000000 * val b) (hk9 : k < 100000000) (w : World)
    (hc : w.cell? ⟨b0, off + k, none⟩ = some (.int .u32 (d1 : Int)))
    (k0 : WordAt w (.slice (some ⟨b0, off, none⟩) (k + 1) c) ((k : Int) - 1) d0)
    (k1 : WordAt w u ((k : Int) + 1) t2) (k2 : WordAt w u (k : Int) t1) (k3 : WordAt w u ((k : Int) - 1) t0) :
    Calls Tryz.prog 87 #[u, .slice (some ⟨b0, off, none⟩) (k + 1) c] w fun e w' => ∃ q n, e = .returned (.int .u32 ((q : Nat) : Int)) ∧ w' = w.drewN n ∧ q < 1000000000 ∧ val r / val b ≤ q ∧ q ≤ val r / val b + 1 := by
  obtain ⟨A, M, H, L, D, G, hA, hM, hH, hL, hD, hG, a1, a2, a3, a4, n1, n2, n3⟩ := hT.words hq
  have f1 := hT.bd1
  have f2 := hT.bd0
  have f3 := hT.bt2
  have f4 := hT.bt1
  have f5 := hT.bt0
  have fD : (d1 : Int) * 1000000000 + (d0 : Int) = (D : Int) := by omega
  have fA : (t2 : Int) * 1000000000 + (t1 : Int) = (A : Int) := by omega
  obtain ⟨MH, hMH⟩ : ∃ MH, M / 18446744073709551616 = MH := ⟨_, rfl⟩
  obtain ⟨ML, hML⟩ : ∃ ML, M % 18446744073709551616 = ML := ⟨_, rfl⟩
  obtain ⟨C, hC⟩ : ∃ C, (ML + t0) / 18446744073709551616 = C := ⟨_, rfl⟩
  rw [hMH, hML, hC] at hH
  rw [hML] at hL
  rw [hMH] at a4
  have fH : (MH : Int) + (C : Int) = (H : Int) := by omega
  have fC : (C : Int) ≤ 1 := by omega
  have cM : ∀ W, Calls Tryz.prog 116 #[.int .u64 (A : Int), .int .u64 1000000000] W fun e w' => e = .returned (.tuple #[.int .u64 (MH : Int), .int .u64 (ML : Int)]) ∧ w' = W := fun W => by
    rw [← hMH, ← hML, ← hM]
    exact Tryz.bits_Mul64 A 1000000000 (by omega) (by omega) W
  have cA : ∀ W, (callFunc 117 #[.int .u64 (ML : Int), .int .u64 (t0 : Int), .int .u64 0]).run Tryz.prog W = .ok (.value (.tuple #[.int .u64 (L : Int), .int .u64 (C : Int)])) W := fun W => by
    rw [add64_0 _ _ (by omega) (by omega), ← hL, ← hC, Int.natCast_emod, Int.natCast_ediv, Int.natCast_add]
    rfl
  have cD : ∀ W, Calls Tryz.prog 118 #[.int .u64 (H : Int), .int .u64 (L : Int), .int .u64 (D : Int)] W fun e w' => ∃ z, e = .returned (.tuple #[.int .u64 (G : Int), .int .u64 z]) ∧ ∃ n, w' = W.drewN n := fun W => by
    refine (div64_any H L D a3 (by omega) (by omega) W).mono ?_
    rintro e w' ⟨rfl, n, rfl⟩
    rw [hG]
    exact ⟨_, rfl, n, rfl⟩
  have fD9 : (D : Int) < 1000000000000000000 := by omega
  have fA9 : (A : Int) < 1000000000000000000 := by omega
  have fH9 : (H : Int) < 1000000000000000000 := by omega
  have g1 : (G : Int) ≤ 1000000000 := by omega
  have HX := Lib.hid (And.intro n1 (And.intro n2 n3))
  clear hA hM hH hL hD hG n1 n2 n3 a1 a2 a3 a4 hq hT hMH hML hC
  go_enter Tryz.func87, Tryz.ntmps87
  go_wp2_with fail
  have hi1 : (k : Int) + 1 - 1 = (k : Int) := by omega
  have hi2 : (k : Int) + 1 - 2 = (k : Int) - 1 := by omega
  have hi3 : (k : Int) < (k : Int) + 1 := by omega
  go_quiet ((go_at_call 112; exact Calls.quiet_of_same (k0 _ (below_drewN (Below.refl _ _) _))))
  have hb1 : Below w.heap.size w (w.drewN nq) := below_drewN (Below.refl _ _) _
  obtain ⟨W1, hW1⟩ : ∃ W1, w.drewN nq = W1 := ⟨_, rfl⟩
  rw [hW1] at hb1 ⊢
  have c1 := k1 W1 hb1
  have c2 := k2 W1 hb1
  have c3 := k3 W1 hb1
  clear k1 k2 k3 k0
  go_wp2_with fail
  refine c1.mono ?_
  rintro e w2 ⟨rfl, rfl⟩
  go_wp2_with fail
  refine c2.mono ?_
  rintro e w2 ⟨rfl, rfl⟩
  go_wp2_with fail
  refine (cM _).mono ?_
  rintro e w2 ⟨rfl, rfl⟩
  go_wp2_with fail
  refine c3.mono ?_
  rintro e w2 ⟨rfl, rfl⟩
  go_wp2_with fail
  refine (cD _).mono ?_
  rintro e w2 ⟨z, rfl, n, rfl⟩
  go_wp2_with fail
  go_ret
  obtain ⟨n1, n2, n3⟩ := HX.out
  refine ⟨min G 999999999, nq + n, by rw [show ((min G 999999999 : Nat) : Int) = min (G : Int) 999999999 by omega]; rfl, ?_, by omega, by omega, by omega⟩
  rw [← hW1, World.drewN_drewN]

/-- Words of an argument, at later worlds. -/
theorem Nats.wordAt {w : World} {v : Value} {l : List Nat} (h : Nats w v l) (h9 : l.length < 100000000) (p : Nat) (hp : p < 1000000000) : WordAt w v (p : Int) (l.getD p 0) := fun W hW =>
  (word_any v l p hp (by omega) W (h.later hW)).mono fun _ _ ⟨h1, h2⟩ => ⟨h1, h2.symm⟩
theorem Nats.wordNeg {w : World} {v : Value} {l : List Nat} (h : Nats w v l) (p : Int) (hp : p < 0) : WordAt w v p 0 := fun W hW =>
  (word_neg v l p hp W (h.later hW)).mono fun _ _ ⟨h1, h2⟩ => ⟨h1, h2.symm⟩

/-- How often b is in r, or one more. -/
theorem guess_any (u v : Value) (r b : List Nat) (hr : Small r) (hb : Small b) (h0 : 0 < b.length) (hl : b.getD (b.length - 1) 0 ≠ 0) (hrl : r.length ≤ b.length + 1) (hb9 : b.length < 90000000) (hq : val r < 1000000000 * val b) (w : World) (hu : Nats w u r) (hv : Nats w v b) :
    Calls Tryz.prog 87 #[u, v] w fun e w' => ∃ q n, e = .returned (.int .u32 ((q : Nat) : Int)) ∧ w' = w.drewN n ∧ q < 1000000000 ∧ val r / val b ≤ q ∧ q ≤ val r / val b + 1 := by
  have hv2 := hv
  rcases hv2 with ⟨rfl, _⟩ | ⟨b0, off, cap, rfl, hc, hcells⟩
  · simp at h0
  · obtain ⟨k, hk⟩ : ∃ k, b.length = k + 1 := ⟨b.length - 1, by omega⟩
    have c0 := hcells k (by omega)
    rw [hk] at hv ⊢
    rw [hk, Nat.add_sub_cancel] at hl
    have k1 := hu.wordAt (by omega) (k + 1) (by omega)
    have k2 := hu.wordAt (by omega) k (by omega)
    rw [Int.natCast_add] at k1
    by_cases h1 : k = 0
    · subst h1
      exact guess_core u r b 0 cap b0 off _ 0 _ _ 0 (two_one r b hr hb hk hl (by omega)) hq (by omega) w c0 (hv.wordNeg _ (by omega)) k1 k2 (hu.wordNeg _ (by omega))
    · obtain ⟨j, rfl⟩ : ∃ j, k = j + 1 := ⟨k - 1, by omega⟩
      have k0 := hv.wordAt (by omega) j (by omega)
      have k3 := hu.wordAt (by omega) j (by omega)
      have ej : (j : Int) = ((j + 1 : Nat) : Int) - 1 := by omega
      rw [ej] at k0 k3
      exact guess_core u r b (j + 1) cap b0 off _ _ _ _ _ (two_more r b j hr hb hk hl (by omega) hq) hq (by omega) w c0 k0 k1 k2 k3
end Go.Proofs.YtofpojlnfncpcaaGreatDoor

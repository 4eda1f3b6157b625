/- Dates: the contract of before, the law's own small function. -/
import Derived.Test.YtgmnjghbafbopaaGreatDoorMTiLawZones
import Derived.BigRegion
import Derived.Deep.RegionHeld3
import Derived.Deep.CutRange
import Derived.BigQuiet
import Derived.Deep.QuietTactic
import Derived.Deep.LoopGhost
import Derived.RegionTactic
namespace Go.Proofs.YtgmnjghbafbopaaGreatDoor
open Go.RowKit Go.Lib

theorem befB_all {Y M D H I mu Y' M' D' H' I' mu' : Nat} {xs ys : List Int} (hx : xs = [(Y : Int), (M : Int), (D : Int), (H : Int), (I : Int)]) (hy : ys = [(Y' : Int), (M' : Int), (D' : Int), (H' : Int), (I' : Int)]) (h : ∀ j, j < 5 → xs.getD j 0 = ys.getD j 0) : befB Y M D H I mu Y' M' D' H' I' mu' = decide (mu < mu') := by
  subst hx; subst hy
  have h0 : (Y : Int) = Y' := h 0 (by omega)
  have h1 : (M : Int) = M' := h 1 (by omega)
  have h2 : (D : Int) = D' := h 2 (by omega)
  have h3 : (H : Int) = H' := h 3 (by omega)
  have h4 : (I : Int) = I' := h 4 (by omega)
  unfold befB
  rw [if_neg (by omega), if_neg (by omega), if_neg (by omega), if_neg (by omega), if_neg (by omega)]
theorem befB_at {Y M D H I mu Y' M' D' H' I' mu' : Nat} {xs ys : List Int} {k : Nat} (hx : xs = [(Y : Int), (M : Int), (D : Int), (H : Int), (I : Int)]) (hy : ys = [(Y' : Int), (M' : Int), (D' : Int), (H' : Int), (I' : Int)]) (hk : k < 5) (hne : xs.getD k 0 ≠ ys.getD k 0) (h : ∀ j, j < k → xs.getD j 0 = ys.getD j 0) : befB Y M D H I mu Y' M' D' H' I' mu' = decide (xs.getD k 0 < ys.getD k 0) := by
  subst hx; subst hy
  unfold befB
  rcases (show k = 0 ∨ k = 1 ∨ k = 2 ∨ k = 3 ∨ k = 4 by omega) with rfl | rfl | rfl | rfl | rfl
  · have g : ¬ (Y : Int) = Y' := hne
    rw [if_pos (by omega)]
    exact decide_eq_decide.2 (show Y < Y' ↔ (Y : Int) < Y' by omega)
  · have h0 : (Y : Int) = Y' := h 0 (by omega)
    have g : ¬ (M : Int) = M' := hne
    rw [if_neg (by omega), if_pos (by omega)]
    exact decide_eq_decide.2 (show M < M' ↔ (M : Int) < M' by omega)
  · have h0 : (Y : Int) = Y' := h 0 (by omega)
    have h1 : (M : Int) = M' := h 1 (by omega)
    have g : ¬ (D : Int) = D' := hne
    rw [if_neg (by omega), if_neg (by omega), if_pos (by omega)]
    exact decide_eq_decide.2 (show D < D' ↔ (D : Int) < D' by omega)
  · have h0 : (Y : Int) = Y' := h 0 (by omega)
    have h1 : (M : Int) = M' := h 1 (by omega)
    have h2 : (D : Int) = D' := h 2 (by omega)
    have g : ¬ (H : Int) = H' := hne
    rw [if_neg (by omega), if_neg (by omega), if_neg (by omega), if_pos (by omega)]
    exact decide_eq_decide.2 (show H < H' ↔ (H : Int) < H' by omega)
  · have h0 : (Y : Int) = Y' := h 0 (by omega)
    have h1 : (M : Int) = M' := h 1 (by omega)
    have h2 : (D : Int) = D' := h 2 (by omega)
    have h3 : (H : Int) = H' := h 3 (by omega)
    have g : ¬ (I : Int) = I' := hne
    rw [if_neg (by omega), if_neg (by omega), if_neg (by omega), if_neg (by omega), if_pos (by omega)]
    exact decide_eq_decide.2 (show I < I' ↔ (I : Int) < I' by omega)
theorem sgn_lt {a b k : Nat} (hk : 0 < k) : sgnN (a * k) (b * k) < 0 ↔ a < b := by
  unfold sgnN
  have h1 : a * k < b * k ↔ a < b := Nat.mul_lt_mul_right hk
  have h2 : a * k = b * k ↔ a = b := Nat.mul_left_inj (Nat.pos_iff_ne_zero.1 hk)
  split
  · rename_i h; constructor
    · intro _; exact h1.1 h
    · intro _; decide
  · rename_i h
    have : ¬ a < b := fun q => h (h1.2 q)
    split <;> simp [this]
theorem cmp_mic {a b : List UInt8} {m m' : Nat} (h : canonL a = some (false, m * 10 ^ 14)) (h' : canonL b = some (false, m' * 10 ^ 14)) : ∃ n : Int, cmpR a b = (n, 0) ∧ decide (n < 0) = decide (m < m') := by
  refine ⟨_, cmpR_some h h', ?_⟩
  have T1 := T0
  generalize 10 ^ 14 = k at T1 ⊢
  refine decide_eq_decide.2 ?_
  have e : cmpN false false (m * k) (m' * k) = sgnN (m * k) (m' * k) := by unfold cmpN; simp
  rw [e]
  exact sgn_lt T1
set_option maxRecDepth 100000 in
set_option maxHeartbeats 16000000 in
theorem before_ti (Y M D H I mu Y' M' D' H' I' mu' : Nat) (S S' : ByteArray) (z z' : Int) (has has' : Bool) (k : MomOk Y M D H I mu S z has) (k' : MomOk Y' M' D' H' I' mu' S' z' has') (b : Bool) (hb : befB Y M D H I mu Y' M' D' H' I' mu' = b) (w : World) (hg : GrT w) :
    Calls Tryz.prog 32 #[momV (Y : Int) (M : Int) (D : Int) (H : Int) (I : Int) S z has, momV (Y' : Int) (M' : Int) (D' : Int) (H' : Int) (I' : Int) S' z' has'] w fun e w' => e = .returned (.bool b) ∧ Below w.heap.size w w' := by
  have HG := Lib.hid hg
  unfold momV
  have hb0 : Below w.heap.size w ((w.alloc (.cells #[.int .i64 (Y : Int), .int .i64 (M : Int), .int .i64 (D : Int), .int .i64 (H : Int), .int .i64 (I : Int), .string S, .int .i64 z, .bool has] 24)).alloc (.cells #[.int .i64 (Y' : Int), .int .i64 (M' : Int), .int .i64 (D' : Int), .int .i64 (H' : Int), .int .i64 (I' : Int), .string S', .int .i64 z', .bool has'] 24)) := ((Below.refl _ _).alloc (Nat.le_refl _) _).alloc (by simp) _
  have hm0 := MomAt.new w (Y : Int) (M : Int) (D : Int) (H : Int) (I : Int) S z has
  have hm1 := MomAt.new (w.alloc (.cells #[.int .i64 (Y : Int), .int .i64 (M : Int), .int .i64 (D : Int), .int .i64 (H : Int), .int .i64 (I : Int), .string S, .int .i64 z, .bool has] 24)) (Y' : Int) (M' : Int) (D' : Int) (H' : Int) (I' : Int) S' z' has'
  simp only [World.size_alloc] at hm1
  have hm0 := hm0.later ((Below.refl _ _).alloc (Nat.le_refl _) (.cells #[.int .i64 (Y' : Int), .int .i64 (M' : Int), .int .i64 (D' : Int), .int .i64 (H' : Int), .int .i64 (I' : Int), .string S', .int .i64 z', .bool has'] 24))
  obtain ⟨W1, hW1⟩ : ∃ W, ((w.alloc (.cells #[.int .i64 (Y : Int), .int .i64 (M : Int), .int .i64 (D : Int), .int .i64 (H : Int), .int .i64 (I : Int), .string S, .int .i64 z, .bool has] 24)).alloc (.cells #[.int .i64 (Y' : Int), .int .i64 (M' : Int), .int .i64 (D' : Int), .int .i64 (H' : Int), .int .i64 (I' : Int), .string S', .int .i64 z', .bool has'] 24)) = W := ⟨_, rfl⟩
  rw [hW1] at hb0 hm0 hm1
  have HW1 := Lib.hid hW1
  have M0 := Lib.hid hm0
  have M1 := Lib.hid hm1
  clear hW1 hm0 hm1
  obtain ⟨q0c0, q0c1, q0c2, q0c3, q0c4, q0c5, q0c6, q0c7, q0l⟩ := M0.out
  obtain ⟨q1c0, q1c1, q1c2, q1c3, q1c4, q1c5, q1c6, q1c7, q1l⟩ := M1.out
  clear hg
  go_enter Tryz.func32, Tryz.ntmps32
  go_wp2_with fail
  try rw [HW1.out]
  try go_wp2_with fail
  have kp : ∀ W, Below W1.heap.size W1 W → (W.cell? ⟨w.heap.size, 0, none⟩ = some (.int .i64 (Y : Int)) ∧ W.cell? ⟨w.heap.size, 1, none⟩ = some (.int .i64 (M : Int)) ∧ W.cell? ⟨w.heap.size, 2, none⟩ = some (.int .i64 (D : Int)) ∧ W.cell? ⟨w.heap.size, 3, none⟩ = some (.int .i64 (H : Int)) ∧ W.cell? ⟨w.heap.size, 4, none⟩ = some (.int .i64 (I : Int)) ∧ W.cell? ⟨w.heap.size, 5, none⟩ = some (.string S) ∧ W.cell? ⟨w.heap.size, 6, none⟩ = some (.int .i64 z) ∧ W.cell? ⟨w.heap.size, 7, none⟩ = some (.bool has) ∧ W.cell? ⟨w.heap.size + 1, 0, none⟩ = some (.int .i64 (Y' : Int)) ∧ W.cell? ⟨w.heap.size + 1, 1, none⟩ = some (.int .i64 (M' : Int)) ∧ W.cell? ⟨w.heap.size + 1, 2, none⟩ = some (.int .i64 (D' : Int)) ∧ W.cell? ⟨w.heap.size + 1, 3, none⟩ = some (.int .i64 (H' : Int)) ∧ W.cell? ⟨w.heap.size + 1, 4, none⟩ = some (.int .i64 (I' : Int)) ∧ W.cell? ⟨w.heap.size + 1, 5, none⟩ = some (.string S') ∧ W.cell? ⟨w.heap.size + 1, 6, none⟩ = some (.int .i64 z') ∧ W.cell? ⟨w.heap.size + 1, 7, none⟩ = some (.bool has')) := fun W hW => by have a := M0.out.later hW; have b := M1.out.later hW; exact ⟨a.c0, a.c1, a.c2, a.c3, a.c4, a.c5, a.c6, a.c7, b.c0, b.c1, b.c2, b.c3, b.c4, b.c5, b.c6, b.c7⟩
  have KP := Lib.hid kp
  clear kp
  obtain ⟨xs, hxs⟩ : ∃ xs : List Int, xs = [(Y : Int), (M : Int), (D : Int), (H : Int), (I : Int)] := ⟨_, rfl⟩
  obtain ⟨ys, hys⟩ : ∃ ys : List Int, ys = [(Y' : Int), (M' : Int), (D' : Int), (H' : Int), (I' : Int)] := ⟨_, rfl⟩
  have HXS := Lib.hid hxs
  have HYS := Lib.hid hys
  clear hxs hys
  go_cut [5, 6] from 10 to 31 (fun s5 s6 wx => ∃ bx by_, s5 = .pointer (some ⟨bx, 0, none⟩) ∧ s6 = .pointer (some ⟨by_, 0, none⟩) ∧ Hid (∀ i, i < 5 → wx.cell? ⟨bx, i, none⟩ = some (.int .i64 (xs.getD i 0))) ∧ Hid (∀ i, i < 5 → wx.cell? ⟨by_, i, none⟩ = some (.int .i64 (ys.getD i 0))) ∧ Below W1.heap.size W1 wx)
  case first =>
    go_region_held3 (fun w' => w'.cell? ⟨w.heap.size, 0, none⟩ = some (.int .i64 (Y : Int)) ∧ w'.cell? ⟨w.heap.size, 1, none⟩ = some (.int .i64 (M : Int)) ∧ w'.cell? ⟨w.heap.size, 2, none⟩ = some (.int .i64 (D : Int)) ∧ w'.cell? ⟨w.heap.size, 3, none⟩ = some (.int .i64 (H : Int)) ∧ w'.cell? ⟨w.heap.size, 4, none⟩ = some (.int .i64 (I : Int)) ∧ w'.cell? ⟨w.heap.size, 5, none⟩ = some (.string S) ∧ w'.cell? ⟨w.heap.size, 6, none⟩ = some (.int .i64 z) ∧ w'.cell? ⟨w.heap.size, 7, none⟩ = some (.bool has) ∧ w'.cell? ⟨w.heap.size + 1, 0, none⟩ = some (.int .i64 (Y' : Int)) ∧ w'.cell? ⟨w.heap.size + 1, 1, none⟩ = some (.int .i64 (M' : Int)) ∧ w'.cell? ⟨w.heap.size + 1, 2, none⟩ = some (.int .i64 (D' : Int)) ∧ w'.cell? ⟨w.heap.size + 1, 3, none⟩ = some (.int .i64 (H' : Int)) ∧ w'.cell? ⟨w.heap.size + 1, 4, none⟩ = some (.int .i64 (I' : Int)) ∧ w'.cell? ⟨w.heap.size + 1, 5, none⟩ = some (.string S') ∧ w'.cell? ⟨w.heap.size + 1, 6, none⟩ = some (.int .i64 z') ∧ w'.cell? ⟨w.heap.size + 1, 7, none⟩ = some (.bool has')) (exact KP.out _ (by repeat' (first | exact Below.refl _ _ | apply Below.drew | refine Below.alloc ?_ ?_ _ | refine Below.setCell ?_ ?_ _ | (simp; done) | (simp; omega)))) (first | fail)
    all_goals
      go_wp2_with fail
      go_meet
      refine ⟨_, _, rfl, rfl, Lib.hid (fun i hi => ?_), Lib.hid (fun i hi => ?_), ((Below.refl _ _).alloc (Nat.le_refl _) _).alloc (by simp) _ |>.drew⟩
      · rw [HXS.out]
        rcases (show i = 0 ∨ i = 1 ∨ i = 2 ∨ i = 3 ∨ i = 4 by omega) with rfl | rfl | rfl | rfl | rfl <;> simp [go_sem]
      · rw [HYS.out]
        rcases (show i = 0 ∨ i = 1 ∨ i = 2 ∨ i = 3 ∨ i = 4 by omega) with rfl | rfl | rfl | rfl | rfl <;> simp [go_sem]
  case rest =>
  obtain ⟨bx, by_, rfl, rfl, HX, HY, hbc⟩ := hcut
  clear q0c0 q0c1 q0c2 q0c3 q0c4 q0c5 q0c6 q0c7 q0l q1c0 q1c1 q1c2 q1c3 q1c4 q1c5 q1c6 q1c7 q1l
  have hbwc := hb0.trans (hbc.mono hb0.size)
  have HB := Lib.hid hb
  have HK := Lib.hid (And.intro k k')
  clear hb k k'
  go_wp2_with fail
  go_loopg [32] (5) (fun g s32 wx => ∃ k : Nat, s32 = .int .i64 k ∧ k + g = 5 ∧ Below wc.heap.size wc wx ∧ Hid (∀ j, j < k → xs.getD j 0 = ys.getD j 0))
  case atStart => exact ⟨0, rfl, by omega, Below.refl _ _, Lib.hid (fun j h => by omega)⟩
  case round =>
    obtain ⟨k, rfl, hkg, hbx, HE⟩ := hrel
    by_cases hlt : k < 5
    · obtain ⟨g, rfl⟩ : ∃ g, gk = g + 1 := ⟨gk - 1, by omega⟩
      have hil : (k : Int) < 5 := by omega
      have cx := (hbx.cell (lt_of_cell (HX.out k hlt))).trans (HX.out k hlt)
      have cy := (hbx.cell (lt_of_cell (HY.out k hlt))).trans (HY.out k hlt)
      obtain ⟨p, hp⟩ : ∃ p, xs.getD k 0 = p := ⟨_, rfl⟩
      obtain ⟨q, hq⟩ : ∃ q, ys.getD k 0 = q := ⟨_, rfl⟩
      rw [hp] at cx
      rw [hq] at cy
      by_cases hpq : p = q
      · have HN : Hid (∀ j, j < k + 1 → xs.getD j 0 = ys.getD j 0) := Lib.hid (fun j hj => by
          by_cases e : j = k
          · rw [e, hp, hq]; exact hpq
          · exact HE.out j (by omega))
        subst hpq
        have n1 : (p != p) = false := by simp
        clear hp hq HE
        go_wp2_with fail
        go_quiet (fail)
        have hbq := below_drewN hbx nq
        obtain ⟨W2, hW2⟩ : ∃ W2, wr.drewN nq = W2 := ⟨_, rfl⟩
        rw [hW2] at hbq ⊢
        go_wp2_with fail
        go_roundg g
        case rel => exact ⟨k + 1, by congr 1, by omega, hbq, HN⟩
        all_goals omega
      · have n1 : (p != q) = true := by rw [bne_iff_ne]; exact hpq
        have hbd : decide (p < q) = b := by
          rw [← HB.out, ← hp, ← hq]
          exact (befB_at HXS.out HYS.out hlt (by rw [hp, hq]; exact hpq) HE.out).symm
        clear hp hq HE
        go_wp2_with fail
        go_quiet (fail)
        have hbq := below_drewN hbx nq
        have cx2 : (wr.drewN nq).cell? ⟨bx, k, none⟩ = some (.int .i64 p) := by rw [World.cell?_drewN]; exact cx
        have cy2 : (wr.drewN nq).cell? ⟨by_, k, none⟩ = some (.int .i64 q) := by rw [World.cell?_drewN]; exact cy
        obtain ⟨W2, hW2⟩ : ∃ W2, wr.drewN nq = W2 := ⟨_, rfl⟩
        rw [hW2] at hbq cx2 cy2 ⊢
        clear cx cy
        go_wp2_with fail
        go_quiet (fail)
        have hbq2 := below_drewN hbq nq
        obtain ⟨W3, hW3⟩ : ∃ W3, W2.drewN nq = W3 := ⟨_, rfl⟩
        rw [hW3] at hbq2 ⊢
        go_wp2_with fail
        go_ret
        subst hbd
        exact ⟨rfl, hbwc.trans (hbq2.mono hbwc.size)⟩
    · have hil : ¬ (k : Int) < 5 := by omega
      obtain rfl : k = 5 := by omega
      have hall := HE.out
      have m0 := (M0.out.later hbc).later hbx
      have m1 := (M1.out.later hbc).later hbx
      have hbw := hbwc.trans (hbx.mono hbwc.size)
      obtain ⟨k, k'⟩ := HK.out
      obtain ⟨n, hcm, hnd⟩ := cmp_mic k.canon k'.canon
      have hbd : decide (n < 0) = b := by
        rw [hnd, ← HB.out, befB_all HXS.out HYS.out hall]
      have cC := (cmp_on (HG.out.later hbw).num S S' n 0 (by have := k.size; omega) (by have := k'.size; omega) hcm).use wr (Below.refl _ _)
      obtain ⟨_, _, _, _, _, q05, _, _, _⟩ := m0
      obtain ⟨_, _, _, _, _, q15, _, _, _⟩ := m1
      clear hcm hnd k k' hall HE
      go_wp2_with fail
      refine cC.mono ?_
      rintro e w5 ⟨rfl, b5⟩
      go_wp2_with fail
      go_ret
      subst hbd
      exact ⟨rfl, hbw.trans (b5.mono hbw.size)⟩
end Go.Proofs.YtgmnjghbafbopaaGreatDoor

/- Numbers: the ways to round. Inside a round: a region's orders as outside. -/
import Derived.Test.YtgmnjghbafbopaaGreatDoorMNuNum
import Derived.Test.YtgmnjghbafbopaaGreatDoorMNuC
import Derived.RangeFuncCalls
import Derived.Shelf.RegionOpen
import Derived.Deep.RegionLaw
import Derived.BigRegion
import Derived.OwnWalkIn
namespace Go.Proofs.YtgmnjghbafbopaaGreatDoor
open Go.RowKit Go.Lib

def ctV (c : Ct) : Value := .agg #[.bool c.below, .bool c.odd, .bool c.none, .int .i64 c.half]
/-- A function that judges what is cut off. -/
def WayIs (f : Nat) (way : Ct → Bool) : Prop :=
  (∀ args w, (callFunc f args).run Tryz.prog w = .ok (.enter f args) w) ∧ ∀ (c : Ct) (w : World), Calls Tryz.prog f #[ctV c] w fun e w' => e = .returned (.bool (way c)) ∧ Below w.heap.size w w'

set_option maxRecDepth 100000 in
set_option maxHeartbeats 4000000 in
theorem half_is : WayIs 131 halfW := by
  refine ⟨enters_of Tryz.func131 (by kernel_rfl) rfl, ?_⟩
  rintro ⟨bl, od, no, hf⟩ w
  have hb1 : Below w.heap.size w (w.alloc (.cells #[.bool bl, .bool od, .bool no, .int .i64 hf] 155)) := (Below.refl _ w).alloc (Nat.le_refl _) _
  unfold ctV
  by_cases h1 : 0 < hf
  · rw [show halfW ⟨bl, od, no, hf⟩ = true by unfold halfW; simp [h1]]
    go_enter Tryz.func131, Tryz.ntmps131
    go_wp2_with fail
    go_ret
    exact ⟨rfl, hb1⟩
  · by_cases h2 : hf = 0
    · subst h2
      rw [show halfW ⟨bl, od, no, 0⟩ = !bl by unfold halfW; simp]
      cases bl
      · go_enter Tryz.func131, Tryz.ntmps131
        go_wp2_with fail
        go_ret
        exact ⟨rfl, hb1⟩
      · go_enter Tryz.func131, Tryz.ntmps131
        go_wp2_with fail
        go_ret
        exact ⟨rfl, hb1⟩
    · have h2b : (hf == 0) = false := by rw [beq_eq_false_iff_ne]; exact h2
      rw [show halfW ⟨bl, od, no, hf⟩ = false by unfold halfW; simp [h1, h2]]
      go_enter Tryz.func131, Tryz.ntmps131
      go_wp2_with fail
      go_ret
      exact ⟨rfl, hb1⟩
set_option maxRecDepth 100000 in
set_option maxHeartbeats 4000000 in
theorem even_is : WayIs 132 evenW := by
  refine ⟨enters_of Tryz.func132 (by kernel_rfl) rfl, ?_⟩
  rintro ⟨bl, od, no, hf⟩ w
  have hb1 : Below w.heap.size w (w.alloc (.cells #[.bool bl, .bool od, .bool no, .int .i64 hf] 155)) := (Below.refl _ w).alloc (Nat.le_refl _) _
  unfold ctV
  by_cases h1 : 0 < hf
  · rw [show evenW ⟨bl, od, no, hf⟩ = true by unfold evenW; simp [h1]]
    go_enter Tryz.func132, Tryz.ntmps132
    go_wp2_with fail
    go_ret
    exact ⟨rfl, hb1⟩
  · by_cases h2 : hf = 0
    · subst h2
      rw [show evenW ⟨bl, od, no, 0⟩ = od by unfold evenW; simp]
      go_enter Tryz.func132, Tryz.ntmps132
      go_wp2_with fail
      go_ret
      exact ⟨rfl, hb1⟩
    · have h2b : (hf == 0) = false := by rw [beq_eq_false_iff_ne]; exact h2
      rw [show evenW ⟨bl, od, no, hf⟩ = false by unfold evenW; simp [h1, h2]]
      go_enter Tryz.func132, Tryz.ntmps132
      go_wp2_with fail
      go_ret
      exact ⟨rfl, hb1⟩
set_option maxRecDepth 100000 in
set_option maxHeartbeats 4000000 in
theorem floor_is : WayIs 133 floorW := by
  refine ⟨enters_of Tryz.func133 (by kernel_rfl) rfl, ?_⟩
  rintro ⟨bl, od, no, hf⟩ w
  have hb1 : Below w.heap.size w (w.alloc (.cells #[.bool bl, .bool od, .bool no, .int .i64 hf] 155)) := (Below.refl _ w).alloc (Nat.le_refl _) _
  unfold ctV
  rw [show floorW ⟨bl, od, no, hf⟩ = (bl && !no) from rfl]
  cases bl <;> cases no
  · go_enter Tryz.func133, Tryz.ntmps133
    go_wp2_with fail
    go_ret
    exact ⟨rfl, hb1⟩
  · go_enter Tryz.func133, Tryz.ntmps133
    go_wp2_with fail
    go_ret
    exact ⟨rfl, hb1⟩
  · go_enter Tryz.func133, Tryz.ntmps133
    go_wp2_with fail
    go_ret
    exact ⟨rfl, hb1⟩
  · go_enter Tryz.func133, Tryz.ntmps133
    go_wp2_with fail
    go_ret
    exact ⟨rfl, hb1⟩
set_option maxRecDepth 100000 in
set_option maxHeartbeats 4000000 in
theorem ceil_is : WayIs 134 ceilW := by
  refine ⟨enters_of Tryz.func134 (by kernel_rfl) rfl, ?_⟩
  rintro ⟨bl, od, no, hf⟩ w
  have hb1 : Below w.heap.size w (w.alloc (.cells #[.bool bl, .bool od, .bool no, .int .i64 hf] 155)) := (Below.refl _ w).alloc (Nat.le_refl _) _
  unfold ctV
  rw [show ceilW ⟨bl, od, no, hf⟩ = (!bl && !no) from rfl]
  cases bl <;> cases no
  · go_enter Tryz.func134, Tryz.ntmps134
    go_wp2_with fail
    go_ret
    exact ⟨rfl, hb1⟩
  · go_enter Tryz.func134, Tryz.ntmps134
    go_wp2_with fail
    go_ret
    exact ⟨rfl, hb1⟩
  · go_enter Tryz.func134, Tryz.ntmps134
    go_wp2_with fail
    go_ret
    exact ⟨rfl, hb1⟩
  · go_enter Tryz.func134, Tryz.ntmps134
    go_wp2_with fail
    go_ret
    exact ⟨rfl, hb1⟩
set_option maxRecDepth 100000 in
set_option maxHeartbeats 4000000 in
theorem cut_is : WayIs 135 cutW := by
  refine ⟨enters_of Tryz.func135 (by kernel_rfl) rfl, ?_⟩
  rintro ⟨bl, od, no, hf⟩ w
  unfold ctV
  go_enter Tryz.func135, Tryz.ntmps135
  go_wp2_with fail
  go_ret
  exact ⟨rfl, by first | exact Below.refl _ _ | exact (Below.refl _ w).alloc (Nat.le_refl _) _⟩

def wayFn (f : Nat) : Value := .func (.func f) #[] #[]
/-- What rounding gives for a name. -/
def RoundingGives (how : List UInt8) (v : Value) : Prop := match wayL how with
  | some way => ∃ f, v = wayFn f ∧ WayIs f way
  | none => v = .nilFunc
set_option maxRecDepth 100000 in
set_option maxHeartbeats 4000000 in
theorem rounding_any (s : ByteArray) (w : World) :
    Calls Tryz.prog 79 #[.string s] w fun e w' => ∃ v, e = .returned v ∧ RoundingGives s.data.toList v ∧ w = w' := by
  have tl : s.data.toList = s.toList := (ByteArray.toList_eq s).symm
  rw [tl]
  have key : ∀ l : List UInt8, (s.toList == l) = decide (s.toList = l) := fun l => by by_cases h : s.toList = l <;> simp [h]
  have k1 := key [104, 97, 108, 102]
  have k2 := key [101, 118, 101, 110]
  have k3 := key [102, 108, 111, 111, 114]
  have k4 := key [99, 101, 105, 108, 105, 110, 103]
  have k5 := key [99, 117, 116]
  clear key
  by_cases h1 : s.toList = [104, 97, 108, 102]
  · rw [decide_eq_true h1] at k1
    have HG := Lib.hid (show ∀ v, v = wayFn 131 → RoundingGives s.toList v from fun v hv => by unfold RoundingGives wayL; rw [h1]; exact ⟨_, hv, half_is⟩)
    clear h1 k2 k3 k4 k5 tl
    go_enter Tryz.func79, Tryz.ntmps79
    go_wp2_with fail
    go_ret
    exact ⟨_, rfl, HG.out _ rfl, rfl⟩
  · rw [decide_eq_false h1] at k1
    by_cases h2 : s.toList = [101, 118, 101, 110]
    · rw [decide_eq_true h2] at k2
      have HG := Lib.hid (show ∀ v, v = wayFn 132 → RoundingGives s.toList v from fun v hv => by unfold RoundingGives wayL; rw [h2]; exact ⟨_, hv, even_is⟩)
      clear h1 h2 k3 k4 k5 tl
      go_enter Tryz.func79, Tryz.ntmps79
      go_wp2_with fail
      go_ret
      exact ⟨_, rfl, HG.out _ rfl, rfl⟩
    · rw [decide_eq_false h2] at k2
      by_cases h3 : s.toList = [102, 108, 111, 111, 114]
      · rw [decide_eq_true h3] at k3
        have HG := Lib.hid (show ∀ v, v = wayFn 133 → RoundingGives s.toList v from fun v hv => by unfold RoundingGives wayL; rw [h3]; exact ⟨_, hv, floor_is⟩)
        clear h1 h2 h3 k4 k5 tl
        go_enter Tryz.func79, Tryz.ntmps79
        go_wp2_with fail
        go_ret
        exact ⟨_, rfl, HG.out _ rfl, rfl⟩
      · rw [decide_eq_false h3] at k3
        by_cases h4 : s.toList = [99, 101, 105, 108, 105, 110, 103]
        · rw [decide_eq_true h4] at k4
          have HG := Lib.hid (show ∀ v, v = wayFn 134 → RoundingGives s.toList v from fun v hv => by unfold RoundingGives wayL; rw [h4]; exact ⟨_, hv, ceil_is⟩)
          clear h1 h2 h3 h4 k5 tl
          go_enter Tryz.func79, Tryz.ntmps79
          go_wp2_with fail
          go_ret
          exact ⟨_, rfl, HG.out _ rfl, rfl⟩
        · rw [decide_eq_false h4] at k4
          by_cases h5 : s.toList = [99, 117, 116]
          · rw [decide_eq_true h5] at k5
            have HG := Lib.hid (show ∀ v, v = wayFn 135 → RoundingGives s.toList v from fun v hv => by unfold RoundingGives wayL; rw [h5]; exact ⟨_, hv, cut_is⟩)
            clear h1 h2 h3 h4 h5 tl
            go_enter Tryz.func79, Tryz.ntmps79
            go_wp2_with fail
            go_ret
            exact ⟨_, rfl, HG.out _ rfl, rfl⟩
          · rw [decide_eq_false h5] at k5
            have HG := Lib.hid (show RoundingGives s.toList .nilFunc from by unfold RoundingGives wayL; rw [if_neg h1, if_neg h2, if_neg h3, if_neg h4, if_neg h5])
            clear h1 h2 h3 h4 h5 tl
            go_enter Tryz.func79, Tryz.ntmps79
            go_wp2_with fail
            go_ret
            exact ⟨_, rfl, HG.out, rfl⟩
end Go.Proofs.YtgmnjghbafbopaaGreatDoor
namespace Go.Proofs.YtgmnjghbafbopaaGreatDoor
open Go.RowKit Go.Lib

theorem any_round {P : Program} {md : Region.Mode} {ops : Array Oper} {Q : Exit → Act → World → Prop} (l n : Nat) (hQ : ¬ LetsOut Q) (hd : ∀ (i : Nat) o, ops[i]? = some o → ∀ c, o.op ≠ .defer c) :
    ∀ (fuel : Nat) (listed : Array Bool) (a : Act) (w : World), wpAny P md ops Q fuel listed a w → wpAnyIn (Fence.wide.inRound l) n P md ops Q fuel listed a w := by
  intro fuel
  induction fuel with
  | zero => intro listed a w h; exact h
  | succ fuel ih =>
    intro listed a w h
    refine ⟨h.1, fun i hi => ?_⟩
    have h2 := wpOp_mono (ih (listed.setIfInBounds i true)) (h.2 i hi)
    unfold wpOp at h2
    unfold wpOpIn
    cases ho : ops[i]? with
    | none => rw [ho] at h2; exact h2
    | some o =>
      rw [ho] at h2
      simp only at h2 ⊢
      by_cases hw : Region.wanted o (yielded ops a.tmps) = true
      · rw [if_pos hw] at h2 ⊢
        rcases h2 with h2 | h2
        · refine ⟨fun _ _ => trivial, ?_⟩
          rw [show (Fence.wide.inRound l).round = some l from rfl, Oper.semAt_some l _ _ (hd i o ho)]
          unfold Oper.wp at h2
          generalize (execOp a.eval o).run P w = r at h2 ⊢
          cases r with
          | ok x w' =>
            cases x with
            | enter f args => exact ⟨fun h => absurd h (by simp [Fence.wide]), CallsIn.inRound l (callsIn_wide.2 h2)⟩
            | row r args => exact ⟨fun h => absurd h (by simp [Fence.wide]), fun c cs _ => by
                obtain ⟨v, w2, h3, h4⟩ := h2 c cs
                exact ⟨v, w2, h3, stepsIn_wide.2 h4⟩⟩
            | round => exact (show False from h2).elim
            | _ => exact h2
          | halt x w' => cases x <;> exact h2
        · exact absurd h2.2 hQ
      · rw [if_neg hw] at h2 ⊢
        exact ⟨fun _ _ => trivial, h2⟩
end Go.Proofs.YtgmnjghbafbopaaGreatDoor

/- Numbers: the ways to round. -/
import Derived.Test.YtdfgifnccghlmabGreatDoorMNuNum
namespace Go.Proofs.YtdfgifnccghlmabGreatDoor
open Go.RowKit Go.Lib

def ctV (c : Ct) : Value := .agg #[.bool c.below, .bool c.odd, .bool c.none, .int .i64 c.half]
/-- A function that judges what is cut off. -/
def WayIs (f : Nat) (way : Ct → Bool) : Prop :=
  (∀ args w, (callFunc f args).run Tryz.prog w = .ok (.enter f args) w) ∧ ∀ (c : Ct) (w : World), Calls Tryz.prog f #[ctV c] w fun e w' => e = .returned (.bool (way c)) ∧ Below w.heap.size w w'

set_option maxRecDepth 100000 in
set_option maxHeartbeats 4000000 in
theorem half_is : WayIs 118 halfW := by
  refine ⟨enters_of Tryz.func118 (by kernel_rfl) rfl, ?_⟩
  rintro ⟨bl, od, no, hf⟩ w
  have hb1 : Below w.heap.size w (w.alloc (.cells #[.bool bl, .bool od, .bool no, .int .i64 hf] 145)) := (Below.refl _ w).alloc (Nat.le_refl _) _
  unfold ctV
  by_cases h1 : 0 < hf
  · rw [show halfW ⟨bl, od, no, hf⟩ = true by unfold halfW; simp [h1]]
    go_enter Tryz.func118, Tryz.ntmps118
    go_wp2_with fail
    go_ret
    exact ⟨rfl, hb1⟩
  · by_cases h2 : hf = 0
    · subst h2
      rw [show halfW ⟨bl, od, no, 0⟩ = !bl by unfold halfW; simp]
      cases bl
      · go_enter Tryz.func118, Tryz.ntmps118
        go_wp2_with fail
        go_ret
        exact ⟨rfl, hb1⟩
      · go_enter Tryz.func118, Tryz.ntmps118
        go_wp2_with fail
        go_ret
        exact ⟨rfl, hb1⟩
    · have h2b : (hf == 0) = false := by rw [beq_eq_false_iff_ne]; exact h2
      rw [show halfW ⟨bl, od, no, hf⟩ = false by unfold halfW; simp [h1, h2]]
      go_enter Tryz.func118, Tryz.ntmps118
      go_wp2_with fail
      go_ret
      exact ⟨rfl, hb1⟩
set_option maxRecDepth 100000 in
set_option maxHeartbeats 4000000 in
theorem even_is : WayIs 119 evenW := by
  refine ⟨enters_of Tryz.func119 (by kernel_rfl) rfl, ?_⟩
  rintro ⟨bl, od, no, hf⟩ w
  have hb1 : Below w.heap.size w (w.alloc (.cells #[.bool bl, .bool od, .bool no, .int .i64 hf] 145)) := (Below.refl _ w).alloc (Nat.le_refl _) _
  unfold ctV
  by_cases h1 : 0 < hf
  · rw [show evenW ⟨bl, od, no, hf⟩ = true by unfold evenW; simp [h1]]
    go_enter Tryz.func119, Tryz.ntmps119
    go_wp2_with fail
    go_ret
    exact ⟨rfl, hb1⟩
  · by_cases h2 : hf = 0
    · subst h2
      rw [show evenW ⟨bl, od, no, 0⟩ = od by unfold evenW; simp]
      go_enter Tryz.func119, Tryz.ntmps119
      go_wp2_with fail
      go_ret
      exact ⟨rfl, hb1⟩
    · have h2b : (hf == 0) = false := by rw [beq_eq_false_iff_ne]; exact h2
      rw [show evenW ⟨bl, od, no, hf⟩ = false by unfold evenW; simp [h1, h2]]
      go_enter Tryz.func119, Tryz.ntmps119
      go_wp2_with fail
      go_ret
      exact ⟨rfl, hb1⟩
set_option maxRecDepth 100000 in
set_option maxHeartbeats 4000000 in
theorem floor_is : WayIs 120 floorW := by
  refine ⟨enters_of Tryz.func120 (by kernel_rfl) rfl, ?_⟩
  rintro ⟨bl, od, no, hf⟩ w
  have hb1 : Below w.heap.size w (w.alloc (.cells #[.bool bl, .bool od, .bool no, .int .i64 hf] 145)) := (Below.refl _ w).alloc (Nat.le_refl _) _
  unfold ctV
  rw [show floorW ⟨bl, od, no, hf⟩ = (bl && !no) from rfl]
  cases bl <;> cases no
  · go_enter Tryz.func120, Tryz.ntmps120
    go_wp2_with fail
    go_ret
    exact ⟨rfl, hb1⟩
  · go_enter Tryz.func120, Tryz.ntmps120
    go_wp2_with fail
    go_ret
    exact ⟨rfl, hb1⟩
  · go_enter Tryz.func120, Tryz.ntmps120
    go_wp2_with fail
    go_ret
    exact ⟨rfl, hb1⟩
  · go_enter Tryz.func120, Tryz.ntmps120
    go_wp2_with fail
    go_ret
    exact ⟨rfl, hb1⟩
set_option maxRecDepth 100000 in
set_option maxHeartbeats 4000000 in
theorem ceil_is : WayIs 121 ceilW := by
  refine ⟨enters_of Tryz.func121 (by kernel_rfl) rfl, ?_⟩
  rintro ⟨bl, od, no, hf⟩ w
  have hb1 : Below w.heap.size w (w.alloc (.cells #[.bool bl, .bool od, .bool no, .int .i64 hf] 145)) := (Below.refl _ w).alloc (Nat.le_refl _) _
  unfold ctV
  rw [show ceilW ⟨bl, od, no, hf⟩ = (!bl && !no) from rfl]
  cases bl <;> cases no
  · go_enter Tryz.func121, Tryz.ntmps121
    go_wp2_with fail
    go_ret
    exact ⟨rfl, hb1⟩
  · go_enter Tryz.func121, Tryz.ntmps121
    go_wp2_with fail
    go_ret
    exact ⟨rfl, hb1⟩
  · go_enter Tryz.func121, Tryz.ntmps121
    go_wp2_with fail
    go_ret
    exact ⟨rfl, hb1⟩
  · go_enter Tryz.func121, Tryz.ntmps121
    go_wp2_with fail
    go_ret
    exact ⟨rfl, hb1⟩
set_option maxRecDepth 100000 in
set_option maxHeartbeats 4000000 in
theorem cut_is : WayIs 122 cutW := by
  refine ⟨enters_of Tryz.func122 (by kernel_rfl) rfl, ?_⟩
  rintro ⟨bl, od, no, hf⟩ w
  unfold ctV
  go_enter Tryz.func122, Tryz.ntmps122
  go_wp2_with fail
  go_ret
  exact ⟨rfl, by first | exact Below.refl _ _ | exact (Below.refl _ w).alloc (Nat.le_refl _) _⟩

def wayFn (f : Nat) : Value := .func (.func f) #[] #[]
/-- What rounding gives for a name. -/
def RoundingGives (how : List UInt8) (v : Value) : Prop := match wayL how with
  | some way => ∃ f, v = wayFn f ∧ WayIs f way
  | none => v = .nilFunc
set_option maxRecDepth 100000 in
set_option maxHeartbeats 4000000 in
theorem rounding_any (s : ByteArray) (w : World) :
    Calls Tryz.prog 80 #[.string s] w fun e w' => ∃ v, e = .returned v ∧ RoundingGives s.data.toList v ∧ w = w' := by
  have tl : s.data.toList = s.toList := (ByteArray.toList_eq s).symm
  rw [tl]
  have key : ∀ l : List UInt8, (s.toList == l) = decide (s.toList = l) := fun l => by by_cases h : s.toList = l <;> simp [h]
  have k1 := key [104, 97, 108, 102]
  have k2 := key [101, 118, 101, 110]
  have k3 := key [102, 108, 111, 111, 114]
  have k4 := key [99, 101, 105, 108, 105, 110, 103]
  have k5 := key [99, 117, 116]
  clear key
  by_cases h1 : s.toList = [104, 97, 108, 102]
  · rw [decide_eq_true h1] at k1
    have HG := Lib.hid (show ∀ v, v = wayFn 118 → RoundingGives s.toList v from fun v hv => by unfold RoundingGives wayL; rw [h1]; exact ⟨_, hv, half_is⟩)
    clear h1 k2 k3 k4 k5 tl
    go_enter Tryz.func80, Tryz.ntmps80
    go_wp2_with fail
    go_ret
    exact ⟨_, rfl, HG.out _ rfl, rfl⟩
  · rw [decide_eq_false h1] at k1
    by_cases h2 : s.toList = [101, 118, 101, 110]
    · rw [decide_eq_true h2] at k2
      have HG := Lib.hid (show ∀ v, v = wayFn 119 → RoundingGives s.toList v from fun v hv => by unfold RoundingGives wayL; rw [h2]; exact ⟨_, hv, even_is⟩)
      clear h1 h2 k3 k4 k5 tl
      go_enter Tryz.func80, Tryz.ntmps80
      go_wp2_with fail
      go_ret
      exact ⟨_, rfl, HG.out _ rfl, rfl⟩
    · rw [decide_eq_false h2] at k2
      by_cases h3 : s.toList = [102, 108, 111, 111, 114]
      · rw [decide_eq_true h3] at k3
        have HG := Lib.hid (show ∀ v, v = wayFn 120 → RoundingGives s.toList v from fun v hv => by unfold RoundingGives wayL; rw [h3]; exact ⟨_, hv, floor_is⟩)
        clear h1 h2 h3 k4 k5 tl
        go_enter Tryz.func80, Tryz.ntmps80
        go_wp2_with fail
        go_ret
        exact ⟨_, rfl, HG.out _ rfl, rfl⟩
      · rw [decide_eq_false h3] at k3
        by_cases h4 : s.toList = [99, 101, 105, 108, 105, 110, 103]
        · rw [decide_eq_true h4] at k4
          have HG := Lib.hid (show ∀ v, v = wayFn 121 → RoundingGives s.toList v from fun v hv => by unfold RoundingGives wayL; rw [h4]; exact ⟨_, hv, ceil_is⟩)
          clear h1 h2 h3 h4 k5 tl
          go_enter Tryz.func80, Tryz.ntmps80
          go_wp2_with fail
          go_ret
          exact ⟨_, rfl, HG.out _ rfl, rfl⟩
        · rw [decide_eq_false h4] at k4
          by_cases h5 : s.toList = [99, 117, 116]
          · rw [decide_eq_true h5] at k5
            have HG := Lib.hid (show ∀ v, v = wayFn 122 → RoundingGives s.toList v from fun v hv => by unfold RoundingGives wayL; rw [h5]; exact ⟨_, hv, cut_is⟩)
            clear h1 h2 h3 h4 h5 tl
            go_enter Tryz.func80, Tryz.ntmps80
            go_wp2_with fail
            go_ret
            exact ⟨_, rfl, HG.out _ rfl, rfl⟩
          · rw [decide_eq_false h5] at k5
            have HG := Lib.hid (show RoundingGives s.toList .nilFunc from by unfold RoundingGives wayL; rw [if_neg h1, if_neg h2, if_neg h3, if_neg h4, if_neg h5])
            clear h1 h2 h3 h4 h5 tl
            go_enter Tryz.func80, Tryz.ntmps80
            go_wp2_with fail
            go_ret
            exact ⟨_, rfl, HG.out, rfl⟩
end Go.Proofs.YtdfgifnccghlmabGreatDoor

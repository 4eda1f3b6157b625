/- sync.Once's slow road and Do. -/
import Derived.Test.YtaieapldokkdnabGreatDoorCharsOnce
namespace Go.Proofs.YtaieapldokkdnabGreatDoor
open Go.RowKit Go.Lib

set_option maxRecDepth 100000 in
set_option maxHeartbeats 1600000 in
/-- doSlow, not done yet, the lock free; the function's own contract is asked (HF). -/
theorem slow_is (g K : Nat) (c2 c3 c4 d2 d4 : Value) (w : World) (h : RepAt w g (.int .u32 0) (.int .i32 0) c2 c3 c4) (Q : Value → World → Prop)
    (HE : ∀ args w, (callFunc K args).run Tryz.prog w = .ok (.enter K args) w)
    (HF : Calls Tryz.prog K #[.pointer (some ⟨g, 0, none⟩)] (w.setCell ⟨g, 1, none⟩ (.int .i32 1)) fun e w' => e = .returned (.tuple #[]) ∧ ∃ d3, RepAt w' g (.int .u32 0) (.int .i32 1) d2 d3 d4 ∧ Q d3 w') :
    Calls Tryz.prog 62 #[.pointer (some ⟨g, 0, none⟩), .func (.func K) #[.pointer (some ⟨g, 0, none⟩)] #[]] w fun e w' => e = .returned (.tuple #[]) ∧ ∃ w1 d3, Q d3 w1 ∧ RepAt w1 g (.int .u32 0) (.int .i32 1) d2 d3 d4 ∧ w' = (w1.drew.setCell ⟨g, 0, none⟩ (.int .u32 1)).setCell ⟨g, 1, none⟩ (.int .i32 0) := by
  have hl := run_call_load (P := Tryz.prog) Tryz.func101 (by kernel_rfl) (by kernel_rfl) (by kernel_rfl) .u32 (by kernel_rfl) (h.set1 (v := .int .i32 1)).1
  have hnot : ∀ (x : Bool) (w : World), (Op.unary .not (.bool x)).run Tryz.prog w = .ok (.bool (!x)) w := fun _ _ => rfl
  have H := Lib.hid h
  have h1 := h.2.1
  have f1 := h.2.2.2.2.2 1
  clear h
  go_enter_defers Tryz.func62, Tryz.ntmps62
  go_wp2_with fail
  refine (lock_free ⟨g, 1, none⟩ w h1 f1).mono ?_
  rintro e w' ⟨rfl, rfl⟩
  go_wp2_with (go_at_call 61; go_in)
  refine HF.mono ?_
  rintro e w1 ⟨rfl, d3, hR, hQ⟩
  go_wp2_with fail
  refine leaves_cons (f := 104) (args := #[.pointer (some ⟨g, 0, none⟩), .bool true]) (by simp) (by simp [go_sem]) ?_
  refine (store_deferred ⟨g, 0, none⟩ (.int .u32 0) .returning _ hR.1 (hR.2.2.2.2.2 0)).mono ?_
  rintro e u' w'' ⟨rfl, rfl, rfl⟩
  refine leaves_cons (f := 103) (args := #[.pointer (some ⟨g, 1, none⟩)]) (by simp [settle]) (by simp [go_sem]) ?_
  have hU := hR.drew.set0 (v := .int .u32 1)
  refine (unlock_deferred ⟨g, 1, none⟩ _ _ hU.2.1 (hU.2.2.2.2.2 1)).mono ?_
  rintro e u' w'' ⟨rfl, rfl, rfl⟩
  simp [Leaves, settle, results, Tryz.results62]
  exact ⟨w1, d3, hQ, hR, rfl⟩
set_option maxRecDepth 100000 in
set_option maxHeartbeats 1600000 in
theorem do_is (g K : Nat) (c2 c3 c4 d2 d4 : Value) (w : World) (h : RepAt w g (.int .u32 0) (.int .i32 0) c2 c3 c4) (Q : Value → World → Prop)
    (HE : ∀ args w, (callFunc K args).run Tryz.prog w = .ok (.enter K args) w)
    (HF : Calls Tryz.prog K #[.pointer (some ⟨g, 0, none⟩)] (w.setCell ⟨g, 1, none⟩ (.int .i32 1)) fun e w' => e = .returned (.tuple #[]) ∧ ∃ d3, RepAt w' g (.int .u32 0) (.int .i32 1) d2 d3 d4 ∧ Q d3 w') :
    Calls Tryz.prog 33 #[.pointer (some ⟨g, 0, none⟩), .func (.func K) #[.pointer (some ⟨g, 0, none⟩)] #[]] w fun e w' => e = .returned (.tuple #[]) ∧ ∃ w1 d3, Q d3 w1 ∧ RepAt w1 g (.int .u32 0) (.int .i32 1) d2 d3 d4 ∧ w' = (w1.drew.setCell ⟨g, 0, none⟩ (.int .u32 1)).setCell ⟨g, 1, none⟩ (.int .i32 0) := by
  have hl := run_call_load (P := Tryz.prog) Tryz.func101 (by kernel_rfl) (by kernel_rfl) (by kernel_rfl) .u32 (by kernel_rfl) h.1
  have hnot : ∀ (x : Bool) (w : World), (Op.unary .not (.bool x)).run Tryz.prog w = .ok (.bool (!x)) w := fun _ _ => rfl
  have c := slow_is g K c2 c3 c4 d2 d4 w h Q HE HF
  clear h HF HE
  go_enter Tryz.func33, Tryz.ntmps33
  go_wp2_with (go_at_call 61; go_in)
  refine c.mono ?_
  rintro e w' ⟨rfl, hw⟩
  go_wp2_with fail
  go_end0
  exact ⟨rfl, hw⟩
end Go.Proofs.YtaieapldokkdnabGreatDoor

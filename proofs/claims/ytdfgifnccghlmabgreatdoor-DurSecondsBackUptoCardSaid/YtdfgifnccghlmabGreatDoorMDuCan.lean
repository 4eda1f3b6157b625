/- Durations: the contract of the specification's Canonical. -/
import Derived.Test.YtdfgifnccghlmabGreatDoorMDuD
import Derived.Test.YtdfgifnccghlmabGreatDoorMRfG
import Derived.Test.YtdfgifnccghlmabGreatDoorMRfF
namespace Go.Proofs.YtdfgifnccghlmabGreatDoor
open Go.RowKit Go.Lib

set_option maxRecDepth 100000 in
set_option maxHeartbeats 4000000 in
theorem canonical6_on (w : World) (n : ByteArray) (c : Bool) (hc : (canonL n.data.toList).isSome = c) : On w 20 #[.string n] (.bool c) := by
  obtain ⟨r, z, hr⟩ := res_ex (readR n.data.toList)
  have e0 := fun W => R.parse_any n W
  simp only [resV_on hr] at e0
  by_cases hz : z = 0
  · subst hz
    have hb : (r.toList == n.toList) = c := by
      rw [ByteArray.toList_eq r, ByteArray.toList_eq n, ← hc]
      cases h : canonL n.data.toList with
      | some x =>
        have := (canon_iff_read _).2 ⟨x.1, x.2, h⟩
        rw [hr] at this
        have e : r.data.toList = n.data.toList := congrArg Prod.fst this
        rw [e]
        simp
      | none =>
        refine beq_eq_false_iff_ne.2 fun q => ?_
        rw [q] at hr
        obtain ⟨b, k, hk⟩ := (canon_iff_read _).1 hr
        rw [h] at hk
        cases hk
    clear hr hc
    refine R.onR fun W => ?_
    go_enter Tryz.func20, Tryz.ntmps20
    go_wp2_with fail
    refine (e0 W).mono ?_
    rintro e w1 ⟨rfl, b1⟩
    go_wp2_with fail
    go_ret
    exact ⟨rfl, b1⟩
  · have hzb : (z == 0) = false := beq_eq_false_iff_ne.2 hz
    have hcf : c = false := by
      rw [← hc]
      cases h : canonL n.data.toList with
      | some x =>
        have := (canon_iff_read _).2 ⟨x.1, x.2, h⟩
        rw [hr] at this
        exact absurd (congrArg Prod.snd this) hz
      | none => rfl
    subst hcf
    clear hr hc hz
    refine R.onR fun W => ?_
    go_enter Tryz.func20, Tryz.ntmps20
    go_wp2_with fail
    refine (e0 W).mono ?_
    rintro e w1 ⟨rfl, b1⟩
    go_wp2_with fail
    go_ret
    exact ⟨rfl, b1⟩
end Go.Proofs.YtdfgifnccghlmabGreatDoor

/- The contract of chisellaw06.DurSecondsBack. -/
import Derived.Test.YtdfgifnccghlmabGreatDoorMDuD
import Derived.Test.YtdfgifnccghlmabGreatDoorMDuCan
namespace Go.Proofs.YtdfgifnccghlmabGreatDoor
open Go.RowKit Go.Lib

set_option maxRecDepth 100000 in
set_option maxHeartbeats 8000000 in
theorem durSecondsBack_law (n : ByteArray) (hn : n.size < 4294967281) (w : World) (hg : GrD w) :
    Calls Tryz.prog 8 #[.string n] w fun e w' => e = .returned (.bool true) ∧ Below w.heap.size w w' := by
  have cw := (works_du hg).use
  cases hc : canonL n.data.toList with
  | none =>
    have m1 := (textS_on hg n ⟨#[]⟩ 1 hn (by unfold textS; rw [negR_none _ hc, if_pos (by decide)])).use
    have mc := (canonical6_on w n false (by rw [hc]; rfl)).use
    clear hg hc
    go_enter Tryz.func8, Tryz.ntmps8
    go_wp2_with fail
    refine (m1 w (Below.refl _ _)).mono ?_
    rintro e w1 ⟨rfl, b1⟩
    go_wp2_with fail
    refine (mc w1 b1).mono ?_
    rintro e w2 ⟨rfl, b2⟩
    go_wp2_with fail
    refine (cw w2 b2).mono ?_
    rintro e w3 ⟨rfl, b3⟩
    go_wp2_with fail
    go_ret
    exact ⟨rfl, b3⟩
  | some q =>
    obtain ⟨b, k⟩ := q
    obtain ⟨s, k1, k2, k3⟩ := back_S _ b k hc
    obtain ⟨S, hS, hSl⟩ := ba_ex s
    have hSz : (S.size : Int) < 200 := by have := ba_size S; rw [hSl] at this; omega
    have m1 := (textS_on hg n S 0 hn (by rw [hSl]; exact k1)).use
    have m2 := (parseS_on hg S n 0 (by rw [hSl]; exact k2)).use
    have mc := (canonical6_on w n true (by rw [hc]; rfl)).use
    clear hg hc k1 k2 k3 hS hSl
    go_enter Tryz.func8, Tryz.ntmps8
    go_wp2_with fail
    refine (m1 w (Below.refl _ _)).mono ?_
    rintro e w1 ⟨rfl, b1⟩
    go_wp2_with fail
    refine (mc w1 b1).mono ?_
    rintro e w2 ⟨rfl, b2⟩
    go_wp2_with fail
    refine (m2 w2 b2).mono ?_
    rintro e w3 ⟨rfl, b3⟩
    go_wp2_with fail
    refine (cw w3 b3).mono ?_
    rintro e w4 ⟨rfl, b4⟩
    go_wp2_with fail
    go_ret
    exact ⟨rfl, b4⟩
end Go.Proofs.YtdfgifnccghlmabGreatDoor

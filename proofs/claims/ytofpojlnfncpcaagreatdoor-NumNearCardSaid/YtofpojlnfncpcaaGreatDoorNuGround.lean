/- What package num leans on in memory: a table of powers of ten and one variable. -/
import Derived.Test.YtofpojlnfncpcaaGreatDoorNuDigits
import Derived.Test.YtofpojlnfncpcaaGreatDoorShelf
import Derived.Shelf.GgClosure.Gives
namespace Go.Proofs.YtofpojlnfncpcaaGreatDoor
open Go.RowKit Go.Lib Go.Sort

def GrN (w : World) : Prop := Lib.TabIs Tryz.prog w "internal/strconv.uint64pow10" .u64 Lib.pow10Tab ∧ ∃ m, w.cell? ⟨2, 0, none⟩ = some (.int .i64 m)
theorem tab_later {P : Program} {w w' : World} {n : String} {k : IntKind} {zs : List Int} (h : Lib.TabIs P w n k zs) (hb : Below w.heap.size w w') : Lib.TabIs P w' n k zs := by
  unfold Lib.TabIs World.var? at h ⊢
  cases hg : P.globalNamed n with
  | none => rw [hg] at h; cases h
  | some g =>
    rw [hg] at h
    simp only [Option.bind_some] at h ⊢
    cases ho : w.heap[g]? with
    | none => rw [ho] at h; cases h
    | some o =>
      rw [hb.block g (Array.getElem?_eq_some_iff.1 ho).1]
      exact h
theorem GrN.later {w w' : World} (h : GrN w) (hb : Below w.heap.size w w') : GrN w' := by
  refine ⟨tab_later h.1 hb, ?_⟩
  obtain ⟨m, hm⟩ := h.2
  exact ⟨m, (hb.cell (lt_of_cell hm)).trans hm⟩

theorem below_itoa (w : World) (q : Nat) (os : Array Obj) : Below w.heap.size w (grow (w.drewN q) os) := by
  have h1 : (grow (w.drewN q) os).heap = w.heap ++ os := by unfold grow; rw [heap_drewN]
  have h2 : Below w.heap.size w (w.drewN q) := below_drewN (Below.refl _ _) q
  exact ⟨h2.os, h2.tape, h2.output, by rw [h1, Array.size_append]; omega, fun k hk => by rw [h1, Array.getElem?_append_left hk]⟩
theorem itoa_any (n : Nat) (hn : n < 4294967296) (w : World) (hg : GrN w) :
    Calls Tryz.prog 103 #[.int .i64 (n : Int)] w fun e w' => e = .returned (.string ⟨(Lib.itoa (n : Int)).toArray⟩) ∧ Below w.heap.size w w' := by
  refine (Tryz.strconv_Itoa (n : Int) (by omega) (by omega) w hg.1).mono ?_
  rintro e w' ⟨rfl, k, os, rfl⟩
  exact ⟨rfl, below_itoa w k os⟩
end Go.Proofs.YtofpojlnfncpcaaGreatDoor

/- The contracts of chars.IsSpace and chars.Norm. -/
import Derived.Test.YtaieapldokkdnabGreatDoorCharsGround
import Derived.Test.YtaieapldokkdnabGreatDoorCharsPlain3
import Derived.Laws.OwnMore
namespace Go.Proofs.YtaieapldokkdnabGreatDoor
open Go.RowKit Go.Lib

def spaceL (l : List UInt8) : Bool := l.all whiteB
/-- The closure of IsSpace. -/
theorem spaceFn_any (r : Int) (w : World) :
    Calls Tryz.prog 28 #[.int .i32 r] w fun e w' => e = .returned (.bool (!whiteZ r)) ∧ w = w' := by
  go_enter Tryz.func28, Tryz.ntmps28
  go_wp2_with (go_at_call 26; refine (isWhite_any _ _).mono ?_; rintro e w' ⟨rfl, rfl⟩)
  go_ret
  exact ⟨rfl, rfl⟩
theorem spaceFn_grows (w : World) : PredGrows Tryz.prog 28 #[] (fun x => !white x) w := fun W x _ _ =>
  (spaceFn_any (x : Int) W).mono fun _ _ ⟨h1, h2⟩ => ⟨by rw [h1, whiteZ_nat], h2 ▸ Below.refl _ _⟩
theorem whiteFn_grows (w : World) : PredGrows Tryz.prog 26 #[] white w := fun W x _ _ =>
  (isWhite_any (x : Int) W).mono fun _ _ ⟨h1, h2⟩ => ⟨by rw [h1, whiteZ_nat], h2 ▸ Below.refl _ _⟩

set_option maxHeartbeats 1000000 in
theorem isSpace_any (s : ByteArray) (w : World) :
    Calls Tryz.prog 7 #[.string s] w fun e w' => e = .returned (.bool (spaceL s.data.toList)) ∧ Below w.heap.size w w' := by
  have cF := Tryz.strings_ContainsFunc_grows 28 #[] (fun args w => by kernel_rfl) _ s w (spaceFn_grows w)
  rw [idxFunc_steps] at cF
  have e : spaceL s.data.toList = !((steps s.data.toList).any fun x => !white x.1) := by
    unfold spaceL
    rw [← space_steps, List.not_any_eq_all_not]
    simp
  rw [e]
  clear e
  generalize ((steps s.data.toList).any fun x => !white x.1) = V at cF ⊢
  go_enter Tryz.func7, Tryz.ntmps7
  go_wp2_with (go_at_call 27; refine cF.mono ?_; rintro e w' ⟨rfl, hb⟩)
  go_ret
  exact ⟨rfl, hb⟩

set_option maxHeartbeats 1000000 in
theorem norm_any (s : ByteArray) (w : World) (hs : s.size ≤ 4294967296) :
    Calls Tryz.prog 6 #[.string s] w fun e w' => e = .returned (.string ⟨(normL s.data.toList).toArray⟩) ∧ Below w.heap.size w w' := by
  have cF := Tryz.strings_FieldsFunc_grows 26 #[] (fun args w => by kernel_rfl) _ s w hs (whiteFn_grows w)
  have hJ := fields_norm s
  have hL := norm_len s.data.toList
  rw [← size_eq] at hL
  have hN : (goFieldsP white s).length ≤ s.size := fields_len s
  generalize goFieldsP white s = F at cF hJ hN
  generalize normL s.data.toList = NL at hJ hL ⊢
  go_enter Tryz.func6, Tryz.ntmps6
  go_wp2_with fail
  refine cF.mono ?_
  rintro e w1 ⟨A, rfl, hA, hown, hb⟩
  have cJ := Tryz.strings_Join A 0 F.length F ⟨#[32]⟩ w1 (fun j x hj => by
      have hjl : j < F.length := (List.getElem?_eq_some_iff.1 hj).1
      rw [Nat.zero_add, hown.cellAt j (by omega), List.getElem?_map, hj]; rfl) ((hown.lt A rfl).2) (by omega) (Nat.le_refl _) (by
      show (join (F.map (·.data.toList)) [32]).length ≤ _
      rw [hJ]; omega)
  rw [show join (F.map (·.data.toList)) (⟨#[32]⟩ : ByteArray).data.toList = NL from hJ] at cJ
  clear cF hJ hL hN
  go_wp2_with fail
  refine cJ.mono ?_
  rintro e w2 ⟨rfl, hb2⟩
  go_wp2
  go_ret
  exact ⟨rfl, hb.trans (hb2.mono hb.size)⟩
end Go.Proofs.YtaieapldokkdnabGreatDoor

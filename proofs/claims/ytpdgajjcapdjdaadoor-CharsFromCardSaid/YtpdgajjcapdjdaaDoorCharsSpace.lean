/- The contracts of chars.IsSpace and chars.Norm. -/
import Derived.Test.YtpdgajjcapdjdaaDoorCharsGround
import Derived.Test.YtpdgajjcapdjdaaDoorCharsPlain3
import Derived.Laws.OwnMore
namespace Go.Proofs.YtpdgajjcapdjdaaDoor
open Go.RowKit Go.Lib

def spaceL (l : List UInt8) : Bool := l.all whiteB
/-- The closure of IsSpace. -/
theorem spaceFn_any (r : Int) (w : World) :
    Calls Tryd.prog 44 #[.int .i32 r] w fun e w' => e = .returned (.bool (!whiteZ r)) ∧ w = w' := by
  go_enter Tryd.func44, Tryd.ntmps44
  go_wp2_with (go_at_call 45; refine (isWhite_any _ _).mono ?_; rintro e w' ⟨rfl, rfl⟩)
  go_ret
  exact ⟨rfl, rfl⟩
theorem spaceFn_grows (w : World) : PredGrows Tryd.prog 44 #[] (fun x => !white x) w := fun W x _ _ =>
  (spaceFn_any (x : Int) W).mono fun _ _ ⟨h1, h2⟩ => ⟨by rw [h1, whiteZ_nat], h2 ▸ Below.refl _ _⟩
theorem whiteFn_grows (w : World) : PredGrows Tryd.prog 45 #[] white w := fun W x _ _ =>
  (isWhite_any (x : Int) W).mono fun _ _ ⟨h1, h2⟩ => ⟨by rw [h1, whiteZ_nat], h2 ▸ Below.refl _ _⟩

set_option maxHeartbeats 1000000 in
theorem isSpace_any (s : ByteArray) (w : World) :
    Calls Tryd.prog 18 #[.string s] w fun e w' => e = .returned (.bool (spaceL s.data.toList)) ∧ Below w.heap.size w w' := by
  have cF := Tryd.strings_ContainsFunc_grows 44 #[] (fun args w => by kernel_rfl) _ s w (spaceFn_grows w)
  rw [idxFunc_steps] at cF
  have e : spaceL s.data.toList = !((steps s.data.toList).any fun x => !white x.1) := by
    unfold spaceL
    rw [← space_steps, List.not_any_eq_all_not]
    simp
  rw [e]
  clear e
  generalize ((steps s.data.toList).any fun x => !white x.1) = V at cF ⊢
  go_enter Tryd.func18, Tryd.ntmps18
  go_wp2_with (go_at_call 43; refine cF.mono ?_; rintro e w' ⟨rfl, hb⟩)
  go_ret
  exact ⟨rfl, hb⟩

set_option maxHeartbeats 1000000 in
theorem norm_any (s : ByteArray) (w : World) (hs : s.size ≤ 4294967296) :
    Calls Tryd.prog 20 #[.string s] w fun e w' => e = .returned (.string ⟨(normL s.data.toList).toArray⟩) ∧ Below w.heap.size w w' := by
  have cF := Tryd.strings_FieldsFunc_grows 45 #[] (fun args w => by kernel_rfl) _ s w hs (whiteFn_grows w)
  have hJ := fields_norm s
  have hL := norm_len s.data.toList
  rw [← size_eq] at hL
  have hN : (goFieldsP white s).length ≤ s.size := fields_len s
  generalize goFieldsP white s = F at cF hJ hN
  generalize normL s.data.toList = NL at hJ hL ⊢
  go_enter Tryd.func20, Tryd.ntmps20
  go_wp2_with fail
  refine cF.mono ?_
  rintro e w1 ⟨A, rfl, hA, hown, hb⟩
  have cJ := Tryd.strings_Join A 0 F.length F ⟨#[32]⟩ w1 (fun j x hj => by
      have hjl : j < F.length := (List.getElem?_eq_some_iff.1 hj).1
      rw [Nat.zero_add, hown.cellAt j (by omega), List.getElem?_map, hj]; rfl) ((hown.lt A rfl).2) (by omega) (Nat.le_refl _) (by
      show (join (F.map (·.data.toList)) [32]).length ≤ _
      rw [hJ]; omega)
  rw [show join (F.map (·.data.toList)) (⟨#[32]⟩ : ByteArray).data.toList = NL from hJ] at cJ
  clear cF hJ hL hN
  go_wp2_with fail
  refine cJ.mono ?_
  rintro e w2 ⟨rfl, hb2⟩
  go_wp2
  go_ret
  exact ⟨rfl, hb.trans (hb2.mono hb.size)⟩
end Go.Proofs.YtpdgajjcapdjdaaDoor

/- Numbers as they are written: the contract of isCanonical. -/
import Derived.Test.YtgmnjghbafbopaaGreatDoorMNuSplitA
namespace Go.Proofs.YtgmnjghbafbopaaGreatDoor
open Go.RowKit Go.Lib

/-- isCanonical, as the program asks. -/
def canonB (b1 b2 g1 g2 b3 b4 pt b5 sf b6 : Bool) : Bool :=
  if b1 then false else if b2 then false else if g1 then false else if g2 then false else if b3 && !b4 then false else if pt then !b5 && !sf else b6 || !b4

theorem canonW_bool (sg bf af : List UInt8) (pt : Bool) :
    canonW ⟨sg, bf, af, pt⟩ = canonB (sg == [43]) bf.isEmpty (decide (30 < bf.length)) (decide (20 < af.length)) (decide (bf.head? = some 48)) (bf == [48]) pt af.isEmpty (hasSuffix af [48]) sg.isEmpty := by
  have hsf : hasSuffix af [48] = decide (af.getLast? = some 48) := by
    unfold hasSuffix List.isSuffixOf
    rw [List.getLast?_eq_head?_reverse, List.reverse_singleton]
    cases af.reverse with
    | nil => rfl
    | cons x t =>
      by_cases h : x = 48
      · subst h; simp [List.isPrefixOf]
      · have h' : ¬ (48 : UInt8) = x := fun e => h e.symm
        simp [List.isPrefixOf, h, h']
  have e1 : ∀ l : List UInt8, l.isEmpty = decide (l = []) := fun l => by cases l <;> rfl
  have e2 : ∀ l m : List UInt8, (l == m) = decide (l = m) := fun l m => by by_cases h : l = m <;> simp [h]
  rw [hsf, e1, e1, e1]
  unfold canonW canonB
  by_cases h1 : sg = [43]
  · simp [h1]
  · by_cases h2 : bf = []
    · simp [h2]
    · by_cases h3 : 30 < bf.length
      · simp [h3]
      · by_cases h4 : 20 < af.length
        · simp [h4]
        · by_cases h5 : bf.head? = some 48 <;> by_cases h6 : bf = [48] <;> cases pt <;> simp [h1, h2, h3, h4, h5, h6]

set_option maxRecDepth 100000 in
set_option maxHeartbeats 8000000 in
theorem isCanonical_B (sg bf af : ByteArray) (pt : Bool) (h2 : af.size < 4294967296) (w : World) (b1 b2 g1 g2 b3 b4 b5 sf b6 : Bool)
    (e1 : (sg.toList == [43]) = b1) (e2 : bf.toList.isEmpty = b2) (e3 : decide ((30 : Int) < (bf.size : Int)) = g1) (e4 : decide ((20 : Int) < (af.size : Int)) = g2) (e5 : b2 = false → ∃ h : 0 < bf.size, ((bf[0].toNat : Int) == 48) = b3) (e6 : (bf.toList == [48]) = b4) (e7 : af.toList.isEmpty = b5) (e8 : hasSuffix af.data.toList [48] = sf) (e9 : sg.toList.isEmpty = b6) :
    Calls Tryz.prog 130 #[.agg #[.string sg, .string bf, .string af, .bool pt]] w fun e w' => e = .returned (.bool (canonB b1 b2 g1 g2 b3 b4 pt b5 sf b6)) ∧ Below w.heap.size w w' := by
  have cS := fun W => Tryz.strings_HasSuffix af ⟨#[48]⟩ W (by omega)
  rw [show (⟨#[48]⟩ : ByteArray).data.toList = [48] from rfl, e8] at cS
  have hb1 : Below w.heap.size w (w.alloc (.cells #[.string sg, .string bf, .string af, .bool pt] 94)) := (Below.refl _ w).alloc (Nat.le_refl _) _
  cases b1
  · cases b2
    · obtain ⟨h0, e5⟩ := e5 rfl
      have h0i : (0 : Int) < (bf.size : Int) := by omega
      cases g1
      · have z1 : ¬ (30 : Int) < (bf.size : Int) := of_decide_eq_false e3
        clear e3
        cases g2
        · have z2 : ¬ (20 : Int) < (af.size : Int) := of_decide_eq_false e4
          clear e4
          cases b3 <;> cases b4
          · cases pt
            · cases b6
              · go_enter Tryz.func130, Tryz.ntmps130
                go_wp2_with fail
                go_ret
                exact ⟨rfl, hb1⟩
              · go_enter Tryz.func130, Tryz.ntmps130
                go_wp2_with fail
                go_ret
                exact ⟨rfl, hb1⟩
            · cases b5
              · go_enter Tryz.func130, Tryz.ntmps130
                go_wp2_with fail
                refine (cS _).mono ?_
                rintro e w2 ⟨rfl, rfl⟩
                go_wp2_with fail
                go_ret
                exact ⟨rfl, hb1⟩
              · go_enter Tryz.func130, Tryz.ntmps130
                go_wp2_with fail
                go_ret
                exact ⟨rfl, hb1⟩
          · cases pt
            · cases b6
              · go_enter Tryz.func130, Tryz.ntmps130
                go_wp2_with fail
                go_ret
                exact ⟨rfl, hb1⟩
              · go_enter Tryz.func130, Tryz.ntmps130
                go_wp2_with fail
                go_ret
                exact ⟨rfl, hb1⟩
            · cases b5
              · go_enter Tryz.func130, Tryz.ntmps130
                go_wp2_with fail
                refine (cS _).mono ?_
                rintro e w2 ⟨rfl, rfl⟩
                go_wp2_with fail
                go_ret
                exact ⟨rfl, hb1⟩
              · go_enter Tryz.func130, Tryz.ntmps130
                go_wp2_with fail
                go_ret
                exact ⟨rfl, hb1⟩
          · go_enter Tryz.func130, Tryz.ntmps130
            go_wp2_with fail
            go_ret
            exact ⟨rfl, hb1⟩
          · cases pt
            · cases b6
              · go_enter Tryz.func130, Tryz.ntmps130
                go_wp2_with fail
                go_ret
                exact ⟨rfl, hb1⟩
              · go_enter Tryz.func130, Tryz.ntmps130
                go_wp2_with fail
                go_ret
                exact ⟨rfl, hb1⟩
            · cases b5
              · go_enter Tryz.func130, Tryz.ntmps130
                go_wp2_with fail
                refine (cS _).mono ?_
                rintro e w2 ⟨rfl, rfl⟩
                go_wp2_with fail
                go_ret
                exact ⟨rfl, hb1⟩
              · go_enter Tryz.func130, Tryz.ntmps130
                go_wp2_with fail
                go_ret
                exact ⟨rfl, hb1⟩
        · have z2 : (20 : Int) < (af.size : Int) := of_decide_eq_true e4
          clear e4
          go_enter Tryz.func130, Tryz.ntmps130
          go_wp2_with fail
          go_ret
          exact ⟨rfl, hb1⟩
      · have z1 : (30 : Int) < (bf.size : Int) := of_decide_eq_true e3
        clear e3
        go_enter Tryz.func130, Tryz.ntmps130
        go_wp2_with fail
        go_ret
        exact ⟨rfl, hb1⟩
    · go_enter Tryz.func130, Tryz.ntmps130
      go_wp2_with fail
      go_ret
      exact ⟨rfl, hb1⟩
  · go_enter Tryz.func130, Tryz.ntmps130
    go_wp2_with fail
    go_ret
    exact ⟨rfl, hb1⟩

theorem isCanonical_any (sg bf af : ByteArray) (pt : Bool) (h2 : af.size < 4294967296) (w : World) :
    Calls Tryz.prog 130 #[.agg #[.string sg, .string bf, .string af, .bool pt]] w fun e w' => e = .returned (.bool (canonW ⟨sg.data.toList, bf.data.toList, af.data.toList, pt⟩)) ∧ Below w.heap.size w w' := by
  rw [canonW_bool]
  refine isCanonical_B sg bf af pt h2 w _ _ _ _ _ _ _ _ _ (by rw [ByteArray.toList_eq]) (by rw [ByteArray.toList_eq]) ?_ ?_ ?_ (by rw [ByteArray.toList_eq]) (by rw [ByteArray.toList_eq]) rfl (by rw [ByteArray.toList_eq])
  · rw [Array.length_toList]
    exact decide_eq_decide.2 (by show (30 : Int) < (bf.size : Int) ↔ 30 < bf.size; omega)
  · rw [Array.length_toList]
    exact decide_eq_decide.2 (by show (20 : Int) < (af.size : Int) ↔ 20 < af.size; omega)
  · intro hb
    have hne : bf.data.toList ≠ [] := fun e => by rw [e] at hb; cases hb
    have hp : 0 < bf.data.toList.length := List.length_pos_iff.2 hne
    have hps : 0 < bf.size := by rw [Array.length_toList] at hp; exact hp
    refine ⟨hps, ?_⟩
    have hd : bf.data.toList = bf[0] :: bf.data.toList.drop 1 := by
      have := List.drop_eq_getElem_cons hp
      rw [List.drop_zero] at this
      exact this
    rw [hd, List.head?_cons]
    by_cases h : bf[0] = 48
    · rw [h]; rfl
    · have h' : ¬ bf[0].toNat = 48 := fun e => h (UInt8.toNat.inj e)
      rw [decide_eq_false (fun e => h (Option.some.inj e)), beq_eq_false_iff_ne]
      omega
end Go.Proofs.YtgmnjghbafbopaaGreatDoor

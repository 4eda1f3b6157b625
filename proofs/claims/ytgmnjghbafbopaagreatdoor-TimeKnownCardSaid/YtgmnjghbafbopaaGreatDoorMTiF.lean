/- Dates: the contract of clock. Dates: the contract of Text. -/
import Derived.Test.YtgmnjghbafbopaaGreatDoorMTiE
import Derived.Test.YtgmnjghbafbopaaGreatDoorMNuE
import Derived.Test.YtgmnjghbafbopaaGreatDoorMNuSplitS
import Derived.BigQuiet
import Derived.Deep.QuietTactic
import Derived.Test.YtgmnjghbafbopaaGreatDoorMTiC
namespace Go.Proofs.YtgmnjghbafbopaaGreatDoor
open Go.RowKit Go.Lib

/-- Seconds with two digits ahead of the point. -/
def secL2 (s : List UInt8) : List UInt8 := if (dotL s).1.length = 1 then 48 :: s else s
/-- A time as it is written. -/
def clockL (h mi : Nat) (s : List UInt8) : List UInt8 := padD h 2 ++ 58 :: (padD mi 2 ++ 58 :: secL2 s)
set_option maxRecDepth 100000 in
set_option maxHeartbeats 8000000 in
theorem clock_one (y mo d : Int) (h mi : Nat) (S : ByteArray) (z : Int) (has : Bool) (hh : h < 100000) (hmi : mi < 100000) (hs : S.size ≤ 1000) (h1 : (dotL S.data.toList).1.length = 1) (R : ByteArray) (hR : R.data.toList = clockL h mi S.data.toList) (w : World) (hg : GrN w) :
    Calls Tryz.prog 55 #[momV y mo d (h : Int) (mi : Int) S z has] w fun e w' => e = .returned (.string R) ∧ Below w.heap.size w w' := by
  obtain ⟨A, hA, sA, cA⟩ := pad_ex h 2 hh (by omega)
  obtain ⟨M, hM, sM, cM⟩ := pad_ex mi 2 hmi (by omega)
  simp only [Int.cast_ofNat_Int] at cA cM
  obtain ⟨m, hm⟩ := hg.2
  have cC := fun W hW => Tryz.strings_Cut S ⟨#[46]⟩ m W (by omega) hW
  rw [show (⟨#[46]⟩ : ByteArray).data.toList = [46] from rfl, cut_dot] at cC
  obtain ⟨D, hD, hDl⟩ := ba_ex (dotL S.data.toList).1
  have hDs : ((D.size : Int) == 1) = true := by
    rw [ba_size, hDl]
    rw [h1]; rfl
  rw [hD] at cC
  obtain ⟨D2, hD2, _⟩ := ba_ex (dotL S.data.toList).2.1
  rw [hD2] at cC
  obtain ⟨bb, hbb⟩ : ∃ b, (dotL S.data.toList).2.2 = b := ⟨_, rfl⟩
  rw [hbb] at cC
  obtain ⟨U, hU⟩ : ∃ U, ⟨#[48]⟩ ++ S = U := ⟨_, rfl⟩
  have hUl : U.data.toList = 48 :: S.data.toList := by rw [← hU, ByteArray.data_append, Array.toList_append]; rfl
  have hUs : U.size ≤ 1001 := by rw [ba_size, hUl, List.length_cons, ← ba_size]; omega
  have hRe : R = A ++ ⟨#[58]⟩ ++ M ++ ⟨#[58]⟩ ++ U := by
    refine ba_same ?_
    rw [hR]
    unfold clockL secL2
    rw [if_pos h1, ← hUl]
    simp [ByteArray.data_append, Array.toList_append, hA, hM]
  subst hRe
  obtain ⟨T1, hT1⟩ : ∃ T, A ++ ⟨#[58]⟩ = T := ⟨_, rfl⟩
  obtain ⟨T2, hT2⟩ : ∃ T, T1 ++ M = T := ⟨_, rfl⟩
  obtain ⟨T3, hT3⟩ : ∃ T, T2 ++ ⟨#[58]⟩ = T := ⟨_, rfl⟩
  obtain ⟨T4, hT4⟩ : ∃ T, T3 ++ U = T := ⟨_, rfl⟩
  have t1 : T1.size ≤ 31 := by rw [← hT1, ByteArray.size_append]; show A.size + 1 ≤ 31; omega
  have t2 : T2.size ≤ 61 := by rw [← hT2, ByteArray.size_append]; omega
  have t3 : T3.size ≤ 62 := by rw [← hT3, ByteArray.size_append]; show T2.size + 1 ≤ 62; omega
  have a1 : ∀ W, (Op.stringOp .add A ⟨#[58]⟩).run Tryz.prog W = .ok (.string T1) W := fun W => by rw [← hT1]; exact run_string_add_sum W _ _ (by show A.size + 1 ≤ _; omega)
  have a2 : ∀ W, (Op.stringOp .add T1 M).run Tryz.prog W = .ok (.string T2) W := fun W => by rw [← hT2]; exact run_string_add_sum W _ _ (by omega)
  have a3 : ∀ W, (Op.stringOp .add T2 ⟨#[58]⟩).run Tryz.prog W = .ok (.string T3) W := fun W => by rw [← hT3]; exact run_string_add_sum W _ _ (by show T2.size + 1 ≤ _; omega)
  have a4 : ∀ W, (Op.stringOp .add T3 U).run Tryz.prog W = .ok (.string T4) W := fun W => by rw [← hT4]; exact run_string_add_sum W _ _ (by omega)
  have a0 : ∀ W, (Op.stringOp .add ⟨#[48]⟩ S).run Tryz.prog W = .ok (.string U) W := fun W => by rw [← hU]; exact run_string_add_sum W _ _ (by show 1 + S.size ≤ _; omega)
  rw [hT1, hT2, hT3, hT4]
  clear t1 t2 t3 hT1 hT2 hT3 hT4 hR
  unfold momV
  have m1 := MomAt.new w y mo d (h : Int) (mi : Int) S z has
  have bw1 : Below w.heap.size w (w.alloc (.cells #[.int .i64 y, .int .i64 mo, .int .i64 d, .int .i64 (h : Int), .int .i64 (mi : Int), .string S, .int .i64 z, .bool has] 24)) := (Below.refl _ _).alloc (Nat.le_refl _) _
  obtain ⟨W1, hW1⟩ : ∃ W, w.alloc (.cells #[.int .i64 y, .int .i64 mo, .int .i64 d, .int .i64 (h : Int), .int .i64 (mi : Int), .string S, .int .i64 z, .bool has] 24) = W := ⟨_, rfl⟩
  rw [hW1] at m1 bw1
  have HW1 := Lib.hid hW1
  have hml := lt_of_cell hm
  have cC := cC W1 ((bw1.cell (p := ⟨3, 0, none⟩) hml).trans hm)
  have HG := Lib.hid hg
  have M1 := Lib.hid m1
  obtain ⟨c0, c1, c2, c3, c4, c5, c6, c7, _⟩ := m1
  clear hW1 hg hA hM h1 hD hDl hD2 hbb hm hml hU hUl hUs hs sA sM
  go_enter Tryz.func55, Tryz.ntmps55
  go_wp2_with fail
  try rw [HW1.out]
  try go_wp2_with fail
  refine cC.mono ?_
  rintro e w2 ⟨rfl, nn, hw2⟩
  have b2 : Below W1.heap.size W1 w2 := by rw [hw2]; exact below_drewN (Below.refl _ _) _
  have bw2 := bw1.trans (b2.mono bw1.size)
  have m2 := M1.out.later b2
  have M2 := Lib.hid m2
  have cA := cA w2 (HG.out.later bw2)
  have cM := cM w2 (HG.out.later bw2)
  have bD0 : Below w2.heap.size w2 w2.drew := (Below.refl _ _).drew
  clear c0 c1 c2 c3 c4 c5 c6 c7 cC hw2 M1 b2
  obtain ⟨c0, c1, c2, c3, c4, c5, c6, c7, _⟩ := m2
  go_wp2_with fail
  go_region_held3 (fun w' => w'.cell? ⟨w.heap.size, 3, none⟩ = some (.int .i64 (h : Int)) ∧ w'.cell? ⟨w.heap.size, 4, none⟩ = some (.int .i64 (mi : Int))) (exact ⟨c3, c4⟩) (first | (go_at_call 104; (with_reducible refine (cA _ bD0).mono ?_); rintro e wA ⟨rfl, bA⟩; have mA := M2.out.later bA; have c3 := mA.c3; have c4 := mA.c4) | (go_at_call 104; (with_reducible refine (cM _ bA).mono ?_); rintro e wM ⟨rfl, bM⟩; have mM := M2.out.later bM; have c3 := mM.c3; have c4 := mM.c4))
  all_goals
    go_wp2_with fail
    go_ret
    exact ⟨rfl, bw2.trans (bM.mono bw2.size)⟩
set_option maxRecDepth 100000 in
set_option maxHeartbeats 8000000 in
theorem clock_two (y mo d : Int) (h mi : Nat) (S : ByteArray) (z : Int) (has : Bool) (hh : h < 100000) (hmi : mi < 100000) (hs : S.size ≤ 1000) (h1 : ¬ (dotL S.data.toList).1.length = 1) (R : ByteArray) (hR : R.data.toList = clockL h mi S.data.toList) (w : World) (hg : GrN w) :
    Calls Tryz.prog 55 #[momV y mo d (h : Int) (mi : Int) S z has] w fun e w' => e = .returned (.string R) ∧ Below w.heap.size w w' := by
  obtain ⟨A, hA, sA, cA⟩ := pad_ex h 2 hh (by omega)
  obtain ⟨M, hM, sM, cM⟩ := pad_ex mi 2 hmi (by omega)
  simp only [Int.cast_ofNat_Int] at cA cM
  obtain ⟨m, hm⟩ := hg.2
  have cC := fun W hW => Tryz.strings_Cut S ⟨#[46]⟩ m W (by omega) hW
  rw [show (⟨#[46]⟩ : ByteArray).data.toList = [46] from rfl, cut_dot] at cC
  obtain ⟨D, hD, hDl⟩ := ba_ex (dotL S.data.toList).1
  have hDs : ((D.size : Int) == 1) = false := by
    rw [ba_size, hDl]
    exact beq_eq_false_iff_ne.2 (by omega)
  rw [hD] at cC
  obtain ⟨D2, hD2, _⟩ := ba_ex (dotL S.data.toList).2.1
  rw [hD2] at cC
  obtain ⟨bb, hbb⟩ : ∃ b, (dotL S.data.toList).2.2 = b := ⟨_, rfl⟩
  rw [hbb] at cC
  have hRe : R = A ++ ⟨#[58]⟩ ++ M ++ ⟨#[58]⟩ ++ S := by
    refine ba_same ?_
    rw [hR]
    unfold clockL secL2
    rw [if_neg h1]
    simp [ByteArray.data_append, Array.toList_append, hA, hM]
  subst hRe
  obtain ⟨T1, hT1⟩ : ∃ T, A ++ ⟨#[58]⟩ = T := ⟨_, rfl⟩
  obtain ⟨T2, hT2⟩ : ∃ T, T1 ++ M = T := ⟨_, rfl⟩
  obtain ⟨T3, hT3⟩ : ∃ T, T2 ++ ⟨#[58]⟩ = T := ⟨_, rfl⟩
  obtain ⟨T4, hT4⟩ : ∃ T, T3 ++ S = T := ⟨_, rfl⟩
  have t1 : T1.size ≤ 31 := by rw [← hT1, ByteArray.size_append]; show A.size + 1 ≤ 31; omega
  have t2 : T2.size ≤ 61 := by rw [← hT2, ByteArray.size_append]; omega
  have t3 : T3.size ≤ 62 := by rw [← hT3, ByteArray.size_append]; show T2.size + 1 ≤ 62; omega
  have a1 : ∀ W, (Op.stringOp .add A ⟨#[58]⟩).run Tryz.prog W = .ok (.string T1) W := fun W => by rw [← hT1]; exact run_string_add_sum W _ _ (by show A.size + 1 ≤ _; omega)
  have a2 : ∀ W, (Op.stringOp .add T1 M).run Tryz.prog W = .ok (.string T2) W := fun W => by rw [← hT2]; exact run_string_add_sum W _ _ (by omega)
  have a3 : ∀ W, (Op.stringOp .add T2 ⟨#[58]⟩).run Tryz.prog W = .ok (.string T3) W := fun W => by rw [← hT3]; exact run_string_add_sum W _ _ (by show T2.size + 1 ≤ _; omega)
  have a4 : ∀ W, (Op.stringOp .add T3 S).run Tryz.prog W = .ok (.string T4) W := fun W => by rw [← hT4]; exact run_string_add_sum W _ _ (by omega)
  rw [hT1, hT2, hT3, hT4]
  clear t1 t2 t3 hT1 hT2 hT3 hT4 hR
  unfold momV
  have m1 := MomAt.new w y mo d (h : Int) (mi : Int) S z has
  have bw1 : Below w.heap.size w (w.alloc (.cells #[.int .i64 y, .int .i64 mo, .int .i64 d, .int .i64 (h : Int), .int .i64 (mi : Int), .string S, .int .i64 z, .bool has] 24)) := (Below.refl _ _).alloc (Nat.le_refl _) _
  obtain ⟨W1, hW1⟩ : ∃ W, w.alloc (.cells #[.int .i64 y, .int .i64 mo, .int .i64 d, .int .i64 (h : Int), .int .i64 (mi : Int), .string S, .int .i64 z, .bool has] 24) = W := ⟨_, rfl⟩
  rw [hW1] at m1 bw1
  have HW1 := Lib.hid hW1
  have hml := lt_of_cell hm
  have cC := cC W1 ((bw1.cell (p := ⟨3, 0, none⟩) hml).trans hm)
  have HG := Lib.hid hg
  have M1 := Lib.hid m1
  obtain ⟨c0, c1, c2, c3, c4, c5, c6, c7, _⟩ := m1
  clear hW1 hg hA hM h1 hD hDl hD2 hbb hm hml hs sA sM
  go_enter Tryz.func55, Tryz.ntmps55
  go_wp2_with fail
  try rw [HW1.out]
  try go_wp2_with fail
  refine cC.mono ?_
  rintro e w2 ⟨rfl, nn, hw2⟩
  have b2 : Below W1.heap.size W1 w2 := by rw [hw2]; exact below_drewN (Below.refl _ _) _
  have bw2 := bw1.trans (b2.mono bw1.size)
  have m2 := M1.out.later b2
  have M2 := Lib.hid m2
  have cA := cA w2 (HG.out.later bw2)
  have cM := cM w2 (HG.out.later bw2)
  have bD0 : Below w2.heap.size w2 w2.drew := (Below.refl _ _).drew
  clear c0 c1 c2 c3 c4 c5 c6 c7 cC hw2 M1 b2
  obtain ⟨c0, c1, c2, c3, c4, c5, c6, c7, _⟩ := m2
  go_wp2_with fail
  go_region_held3 (fun w' => w'.cell? ⟨w.heap.size, 3, none⟩ = some (.int .i64 (h : Int)) ∧ w'.cell? ⟨w.heap.size, 4, none⟩ = some (.int .i64 (mi : Int))) (exact ⟨c3, c4⟩) (first | (go_at_call 104; (with_reducible refine (cA _ bD0).mono ?_); rintro e wA ⟨rfl, bA⟩; have mA := M2.out.later bA; have c3 := mA.c3; have c4 := mA.c4) | (go_at_call 104; (with_reducible refine (cM _ bA).mono ?_); rintro e wM ⟨rfl, bM⟩; have mM := M2.out.later bM; have c3 := mM.c3; have c4 := mM.c4))
  all_goals
    go_wp2_with fail
    go_ret
    exact ⟨rfl, bw2.trans (bM.mono bw2.size)⟩
theorem clock_ti (y mo d : Int) (h mi : Nat) (S : ByteArray) (z : Int) (has : Bool) (hh : h < 100000) (hmi : mi < 100000) (hs : S.size ≤ 1000) (R : ByteArray) (hR : R.data.toList = clockL h mi S.data.toList) (w : World) (hg : GrN w) :
    Calls Tryz.prog 55 #[momV y mo d (h : Int) (mi : Int) S z has] w fun e w' => e = .returned (.string R) ∧ Below w.heap.size w w' := by
  by_cases h1 : (dotL S.data.toList).1.length = 1
  · exact clock_one y mo d h mi S z has hh hmi hs h1 R hR w hg
  · exact clock_two y mo d h mi S z has hh hmi hs h1 R hR w hg
end Go.Proofs.YtgmnjghbafbopaaGreatDoor
namespace Go.Proofs.YtgmnjghbafbopaaGreatDoor
open Go.RowKit Go.Lib

/-- The canonical text of a moment of a kind. -/
def textT (k : Int) (y mo d h mi : Nat) (s : List UInt8) (z : Int) (has : Bool) : List UInt8 :=
  if k = 6 then dateL y mo d ++ zoneL z has else if k = 7 then clockL h mi s ++ zoneL z has else dateL y mo d ++ (84 :: (clockL h mi s ++ zoneL z has))
theorem padD_len {n k : Nat} (hn : n < 100000) (hk : k ≤ 10) : (padD n k).length ≤ 30 := by
  obtain ⟨R, h1, h2, _⟩ := pad_ex n k hn hk
  rw [← h1, ← ba_size]; exact h2
theorem dateL_len {y mo d : Nat} (hy : y < 100000) (hm : mo < 100000) (hd : d < 100000) : (dateL y mo d).length ≤ 100 := by
  unfold dateL
  have h1 := padD_len hy (k := 4) (by omega)
  have h2 := padD_len hm (k := 2) (by omega)
  have h3 := padD_len hd (k := 2) (by omega)
  simp only [List.length_append, List.length_cons]
  omega
theorem clockL_len {h mi : Nat} (hh : h < 100000) (hm : mi < 100000) {s : List UInt8} (hs : s.length ≤ 1000) : (clockL h mi s).length ≤ 1100 := by
  unfold clockL secL2
  have h1 := padD_len hh (k := 2) (by omega)
  have h2 := padD_len hm (k := 2) (by omega)
  split
  · simp only [List.length_append, List.length_cons]; omega
  · simp only [List.length_append, List.length_cons]; omega
theorem zoneL_len {z : Int} {has : Bool} (hz : zoneB z has = true) : (zoneL z has).length ≤ 100 := by
  have : -840 ≤ z ∧ z ≤ 840 := by
    unfold zoneB at hz
    split at hz
    · rw [Bool.and_eq_true] at hz
      exact ⟨of_decide_eq_true hz.1, of_decide_eq_true hz.2⟩
    · have := of_decide_eq_true hz; omega
  unfold zoneL
  split
  · simp
  · split
    · simp
    · have h1 := padD_len (n := z.natAbs / 60) (k := 2) (by omega) (by omega)
      have h2 := padD_len (n := z.natAbs % 60) (k := 2) (by omega) (by omega)
      simp only [List.length_append, List.length_cons]
      omega
set_option maxRecDepth 100000 in
set_option maxHeartbeats 8000000 in
theorem text_bad (kd : Int) (y mo d h mi : Int) (S : ByteArray) (z : Int) (has : Bool) (hs : S.size ≤ 1000) (hv : validB y mo d h mi S.data.toList z has = false) (w : World) (hg : GrT w) :
    Calls Tryz.prog 19 #[.int .i64 kd, momV y mo d h mi S z has] w fun e w' => e = .returned (.tuple #[.string ⟨#[]⟩, .int .i64 1]) ∧ Below w.heap.size w w' := by
  have cV := fun W hW => isValid_ti y mo d h mi S z has hs W hW
  rw [hv] at cV
  unfold momV at cV ⊢
  have m1 := MomAt.new w y mo d h mi S z has
  have bw1 : Below w.heap.size w (w.alloc (.cells #[.int .i64 y, .int .i64 mo, .int .i64 d, .int .i64 h, .int .i64 mi, .string S, .int .i64 z, .bool has] 24)) := (Below.refl _ _).alloc (Nat.le_refl _) _
  obtain ⟨W1, hW1⟩ : ∃ W, w.alloc (.cells #[.int .i64 y, .int .i64 mo, .int .i64 d, .int .i64 h, .int .i64 mi, .string S, .int .i64 z, .bool has] 24) = W := ⟨_, rfl⟩
  rw [hW1] at m1 bw1
  have HW1 := Lib.hid hW1
  have cV := cV W1 (hg.later bw1)
  obtain ⟨c0, c1, c2, c3, c4, c5, c6, c7, _⟩ := m1
  clear hW1 hg hv
  go_enter Tryz.func19, Tryz.ntmps19
  go_wp2_with fail
  try rw [HW1.out]
  refine cV.mono ?_
  rintro e w2 ⟨rfl, b2⟩
  go_wp2_with fail
  go_ret2
  exact ⟨rfl, bw1.trans (b2.mono bw1.size)⟩
set_option maxRecDepth 100000 in
set_option maxHeartbeats 8000000 in
theorem text_kind (kd : Int) (hk : ¬ (kd = 6 ∨ kd = 7 ∨ kd = 8)) (y mo d h mi mu : Nat) (S : ByteArray) (z : Int) (has : Bool) (k : MomOk y mo d h mi mu S z has) (w : World) (hg : GrT w) :
    Calls Tryz.prog 19 #[.int .i64 kd, momV (y : Int) (mo : Int) (d : Int) (h : Int) (mi : Int) S z has] w fun e w' => e = .returned (.tuple #[.string ⟨#[]⟩, .int .i64 1]) ∧ Below w.heap.size w w' := by
  have cV := fun W hW => isValid_ti (y : Int) (mo : Int) (d : Int) (h : Int) (mi : Int) S z has (by have := k.size; omega) W hW
  rw [k.valid] at cV
  unfold momV at cV ⊢
  have m1 := MomAt.new w (y : Int) (mo : Int) (d : Int) (h : Int) (mi : Int) S z has
  have bw1 : Below w.heap.size w (w.alloc (.cells #[.int .i64 (y : Int), .int .i64 (mo : Int), .int .i64 (d : Int), .int .i64 (h : Int), .int .i64 (mi : Int), .string S, .int .i64 z, .bool has] 24)) := (Below.refl _ _).alloc (Nat.le_refl _) _
  obtain ⟨W1, hW1⟩ : ∃ W, w.alloc (.cells #[.int .i64 (y : Int), .int .i64 (mo : Int), .int .i64 (d : Int), .int .i64 (h : Int), .int .i64 (mi : Int), .string S, .int .i64 z, .bool has] 24) = W := ⟨_, rfl⟩
  rw [hW1] at m1 bw1
  have HW1 := Lib.hid hW1
  have cV := cV W1 (hg.later bw1)
  obtain ⟨c0, c1, c2, c3, c4, c5, c6, c7, _⟩ := m1
  have e6 : (kd == 6) = false := beq_eq_false_iff_ne.2 (fun e => hk (.inl e))
  have e7 : (kd == 7) = false := beq_eq_false_iff_ne.2 (fun e => hk (.inr (.inl e)))
  have e8 : (kd == 8) = false := beq_eq_false_iff_ne.2 (fun e => hk (.inr (.inr e)))
  clear hW1 hg k hk
  go_enter Tryz.func19, Tryz.ntmps19
  go_wp2_with fail
  try rw [HW1.out]
  refine cV.mono ?_
  rintro e w2 ⟨rfl, b2⟩
  go_wp2_with fail
  go_ret2
  exact ⟨rfl, bw1.trans (b2.mono bw1.size)⟩
set_option maxRecDepth 100000 in
set_option maxHeartbeats 8000000 in
theorem text_date (y mo d h mi mu : Nat) (S : ByteArray) (z : Int) (has : Bool) (k : MomOk y mo d h mi mu S z has) (R : ByteArray) (hR : R.data.toList = textT 6 y mo d h mi S.data.toList z has) (w : World) (hg : GrT w) :
    Calls Tryz.prog 19 #[.int .i64 6, momV (y : Int) (mo : Int) (d : Int) (h : Int) (mi : Int) S z has] w fun e w' => e = .returned (.tuple #[.string R, .int .i64 0]) ∧ Below w.heap.size w w' := by
  have cV := fun W hW => isValid_ti (y : Int) (mo : Int) (d : Int) (h : Int) (mi : Int) S z has (by have := k.size; omega) W hW
  rw [k.valid] at cV
  have y9 := k.date.y2
  have m9 := k.date.m2
  have d9 := Nat.le_trans k.date.d2 (dim_le y mo).2
  have h9 := k.hour
  have i9 := k.minute
  have s9 := k.size
  have kz := k.zone
  obtain ⟨D, _, hD⟩ := ba_ex (dateL y mo d)
  have lD : D.size ≤ 100 := by rw [ba_size, hD]; exact dateL_len (by omega) (by omega) (by omega)
  have cD := fun W hW => date_ti y mo d (h : Int) (mi : Int) S z has (by omega) (by omega) (by omega) D hD W hW
  obtain ⟨Z, _, hZ⟩ := ba_ex (zoneL z has)
  have lZ : Z.size ≤ 100 := by rw [ba_size, hZ]; exact zoneL_len kz
  have cZ := fun W hW => zoneT_ti (y : Int) (mo : Int) (d : Int) (h : Int) (mi : Int) S z has kz Z hZ W hW
  have hRe : R = D ++ Z := by
    refine ba_same ?_
    rw [hR]
    unfold textT
    simp [ByteArray.data_append, Array.toList_append, hD, hZ]
  subst hRe
  obtain ⟨T1, hT1⟩ : ∃ T, D ++ Z = T := ⟨_, rfl⟩
  have a1 : ∀ W, (Op.stringOp .add D Z).run Tryz.prog W = .ok (.string T1) W := fun W => by rw [← hT1]; exact run_string_add_sum W _ _ (by omega)
  rw [hT1]
  clear hT1
  unfold momV at cV cZ cD ⊢
  have m1 := MomAt.new w (y : Int) (mo : Int) (d : Int) (h : Int) (mi : Int) S z has
  have bw1 : Below w.heap.size w (w.alloc (.cells #[.int .i64 (y : Int), .int .i64 (mo : Int), .int .i64 (d : Int), .int .i64 (h : Int), .int .i64 (mi : Int), .string S, .int .i64 z, .bool has] 24)) := (Below.refl _ _).alloc (Nat.le_refl _) _
  obtain ⟨W1, hW1⟩ : ∃ W, w.alloc (.cells #[.int .i64 (y : Int), .int .i64 (mo : Int), .int .i64 (d : Int), .int .i64 (h : Int), .int .i64 (mi : Int), .string S, .int .i64 z, .bool has] 24) = W := ⟨_, rfl⟩
  rw [hW1] at m1 bw1
  have HW1 := Lib.hid hW1
  have cV := cV W1 (hg.later bw1)
  have HG := Lib.hid hg
  have M1 := Lib.hid m1
  obtain ⟨c0, c1, c2, c3, c4, c5, c6, c7, _⟩ := m1
  clear hW1 hg k hR y9 m9 d9 h9 i9 s9 kz hD lD hZ lZ
  go_enter Tryz.func19, Tryz.ntmps19
  go_wp2_with fail
  try rw [HW1.out]
  refine cV.mono ?_
  rintro e w2 ⟨rfl, b2⟩
  have m2 := M1.out.later b2
  have M2 := Lib.hid m2
  have bw2 := bw1.trans (b2.mono bw1.size)
  have cD2 : ∀ W, Below w2.heap.size w2 W → Calls Tryz.prog 53 #[.agg #[.int .i64 (y : Int), .int .i64 (mo : Int), .int .i64 (d : Int), .int .i64 (h : Int), .int .i64 (mi : Int), .string S, .int .i64 z, .bool has]] W fun e w' => e = .returned (.string D) ∧ Below w2.heap.size w2 w' := fun W hW => (cD W ((HG.out.later bw2).later hW).num).mono fun _ _ r => ⟨r.1, hW.trans (r.2.mono hW.size)⟩
  have cZ2 : ∀ W, Below w2.heap.size w2 W → Calls Tryz.prog 54 #[.agg #[.int .i64 (y : Int), .int .i64 (mo : Int), .int .i64 (d : Int), .int .i64 (h : Int), .int .i64 (mi : Int), .string S, .int .i64 z, .bool has]] W fun e w' => e = .returned (.string Z) ∧ Below w2.heap.size w2 w' := fun W hW => (cZ W ((HG.out.later bw2).later hW).num).mono fun _ _ r => ⟨r.1, hW.trans (r.2.mono hW.size)⟩
  have bD0 : Below w2.heap.size w2 w2.drew := (Below.refl _ _).drew
  clear c0 c1 c2 c3 c4 c5 c6 c7 cV M1 b2 cD cZ
  obtain ⟨c0, c1, c2, c3, c4, c5, c6, c7, _⟩ := m2
  go_wp2_with fail
  go_region_held3 (fun w' => w'.cell? ⟨w.heap.size, 0, none⟩ = some (.int .i64 (y : Int)) ∧ w'.cell? ⟨w.heap.size, 1, none⟩ = some (.int .i64 (mo : Int)) ∧ w'.cell? ⟨w.heap.size, 2, none⟩ = some (.int .i64 (d : Int)) ∧ w'.cell? ⟨w.heap.size, 3, none⟩ = some (.int .i64 (h : Int)) ∧ w'.cell? ⟨w.heap.size, 4, none⟩ = some (.int .i64 (mi : Int)) ∧ w'.cell? ⟨w.heap.size, 5, none⟩ = some (.string S) ∧ w'.cell? ⟨w.heap.size, 6, none⟩ = some (.int .i64 z) ∧ w'.cell? ⟨w.heap.size, 7, none⟩ = some (.bool has)) (exact ⟨c0, c1, c2, c3, c4, c5, c6, c7⟩) (first | (go_at_call 53; (with_reducible refine (cD2 _ bD0).mono ?_); rintro e wDx ⟨rfl, bDx⟩; have mDx := M2.out.later bDx; have c0 := mDx.c0; have c1 := mDx.c1; have c2 := mDx.c2; have c3 := mDx.c3; have c4 := mDx.c4; have c5 := mDx.c5; have c6 := mDx.c6; have c7 := mDx.c7) | (go_at_call 54; (with_reducible refine (cZ2 _ bDx).mono ?_); rintro e wZx ⟨rfl, bZx⟩; have mZx := M2.out.later bZx; have c0 := mZx.c0; have c1 := mZx.c1; have c2 := mZx.c2; have c3 := mZx.c3; have c4 := mZx.c4; have c5 := mZx.c5; have c6 := mZx.c6; have c7 := mZx.c7))
  all_goals
    go_wp2_with fail
    go_ret2
    exact ⟨rfl, bw2.trans (bZx.mono bw2.size)⟩
set_option maxRecDepth 100000 in
set_option maxHeartbeats 8000000 in
theorem text_time (y mo d h mi mu : Nat) (S : ByteArray) (z : Int) (has : Bool) (k : MomOk y mo d h mi mu S z has) (R : ByteArray) (hR : R.data.toList = textT 7 y mo d h mi S.data.toList z has) (w : World) (hg : GrT w) :
    Calls Tryz.prog 19 #[.int .i64 7, momV (y : Int) (mo : Int) (d : Int) (h : Int) (mi : Int) S z has] w fun e w' => e = .returned (.tuple #[.string R, .int .i64 0]) ∧ Below w.heap.size w w' := by
  have cV := fun W hW => isValid_ti (y : Int) (mo : Int) (d : Int) (h : Int) (mi : Int) S z has (by have := k.size; omega) W hW
  rw [k.valid] at cV
  have y9 := k.date.y2
  have m9 := k.date.m2
  have d9 := Nat.le_trans k.date.d2 (dim_le y mo).2
  have h9 := k.hour
  have i9 := k.minute
  have s9 := k.size
  have kz := k.zone
  obtain ⟨C, _, hC⟩ := ba_ex (clockL h mi S.data.toList)
  have lC : C.size ≤ 1100 := by rw [ba_size, hC]; exact clockL_len (by omega) (by omega) (by rw [← ba_size]; omega)
  have cC := fun W hW => clock_ti (y : Int) (mo : Int) (d : Int) h mi S z has (by omega) (by omega) (by omega) C hC W hW
  obtain ⟨Z, _, hZ⟩ := ba_ex (zoneL z has)
  have lZ : Z.size ≤ 100 := by rw [ba_size, hZ]; exact zoneL_len kz
  have cZ := fun W hW => zoneT_ti (y : Int) (mo : Int) (d : Int) (h : Int) (mi : Int) S z has kz Z hZ W hW
  have hRe : R = C ++ Z := by
    refine ba_same ?_
    rw [hR]
    unfold textT
    simp [ByteArray.data_append, Array.toList_append, hC, hZ]
  subst hRe
  obtain ⟨T1, hT1⟩ : ∃ T, C ++ Z = T := ⟨_, rfl⟩
  have a1 : ∀ W, (Op.stringOp .add C Z).run Tryz.prog W = .ok (.string T1) W := fun W => by rw [← hT1]; exact run_string_add_sum W _ _ (by omega)
  rw [hT1]
  clear hT1
  unfold momV at cV cZ cC ⊢
  have m1 := MomAt.new w (y : Int) (mo : Int) (d : Int) (h : Int) (mi : Int) S z has
  have bw1 : Below w.heap.size w (w.alloc (.cells #[.int .i64 (y : Int), .int .i64 (mo : Int), .int .i64 (d : Int), .int .i64 (h : Int), .int .i64 (mi : Int), .string S, .int .i64 z, .bool has] 24)) := (Below.refl _ _).alloc (Nat.le_refl _) _
  obtain ⟨W1, hW1⟩ : ∃ W, w.alloc (.cells #[.int .i64 (y : Int), .int .i64 (mo : Int), .int .i64 (d : Int), .int .i64 (h : Int), .int .i64 (mi : Int), .string S, .int .i64 z, .bool has] 24) = W := ⟨_, rfl⟩
  rw [hW1] at m1 bw1
  have HW1 := Lib.hid hW1
  have cV := cV W1 (hg.later bw1)
  have HG := Lib.hid hg
  have M1 := Lib.hid m1
  obtain ⟨c0, c1, c2, c3, c4, c5, c6, c7, _⟩ := m1
  clear hW1 hg k hR y9 m9 d9 h9 i9 s9 kz hC lC hZ lZ
  go_enter Tryz.func19, Tryz.ntmps19
  go_wp2_with fail
  try rw [HW1.out]
  refine cV.mono ?_
  rintro e w2 ⟨rfl, b2⟩
  have m2 := M1.out.later b2
  have M2 := Lib.hid m2
  have bw2 := bw1.trans (b2.mono bw1.size)
  have cC2 : ∀ W, Below w2.heap.size w2 W → Calls Tryz.prog 55 #[.agg #[.int .i64 (y : Int), .int .i64 (mo : Int), .int .i64 (d : Int), .int .i64 (h : Int), .int .i64 (mi : Int), .string S, .int .i64 z, .bool has]] W fun e w' => e = .returned (.string C) ∧ Below w2.heap.size w2 w' := fun W hW => (cC W ((HG.out.later bw2).later hW).num).mono fun _ _ r => ⟨r.1, hW.trans (r.2.mono hW.size)⟩
  have cZ2 : ∀ W, Below w2.heap.size w2 W → Calls Tryz.prog 54 #[.agg #[.int .i64 (y : Int), .int .i64 (mo : Int), .int .i64 (d : Int), .int .i64 (h : Int), .int .i64 (mi : Int), .string S, .int .i64 z, .bool has]] W fun e w' => e = .returned (.string Z) ∧ Below w2.heap.size w2 w' := fun W hW => (cZ W ((HG.out.later bw2).later hW).num).mono fun _ _ r => ⟨r.1, hW.trans (r.2.mono hW.size)⟩
  have bD0 : Below w2.heap.size w2 w2.drew := (Below.refl _ _).drew
  clear c0 c1 c2 c3 c4 c5 c6 c7 cV M1 b2 cC cZ
  obtain ⟨c0, c1, c2, c3, c4, c5, c6, c7, _⟩ := m2
  go_wp2_with fail
  go_region_held3 (fun w' => w'.cell? ⟨w.heap.size, 0, none⟩ = some (.int .i64 (y : Int)) ∧ w'.cell? ⟨w.heap.size, 1, none⟩ = some (.int .i64 (mo : Int)) ∧ w'.cell? ⟨w.heap.size, 2, none⟩ = some (.int .i64 (d : Int)) ∧ w'.cell? ⟨w.heap.size, 3, none⟩ = some (.int .i64 (h : Int)) ∧ w'.cell? ⟨w.heap.size, 4, none⟩ = some (.int .i64 (mi : Int)) ∧ w'.cell? ⟨w.heap.size, 5, none⟩ = some (.string S) ∧ w'.cell? ⟨w.heap.size, 6, none⟩ = some (.int .i64 z) ∧ w'.cell? ⟨w.heap.size, 7, none⟩ = some (.bool has)) (exact ⟨c0, c1, c2, c3, c4, c5, c6, c7⟩) (first | (go_at_call 55; (with_reducible refine (cC2 _ bD0).mono ?_); rintro e wCx ⟨rfl, bCx⟩; have mCx := M2.out.later bCx; have c0 := mCx.c0; have c1 := mCx.c1; have c2 := mCx.c2; have c3 := mCx.c3; have c4 := mCx.c4; have c5 := mCx.c5; have c6 := mCx.c6; have c7 := mCx.c7) | (go_at_call 54; (with_reducible refine (cZ2 _ bCx).mono ?_); rintro e wZx ⟨rfl, bZx⟩; have mZx := M2.out.later bZx; have c0 := mZx.c0; have c1 := mZx.c1; have c2 := mZx.c2; have c3 := mZx.c3; have c4 := mZx.c4; have c5 := mZx.c5; have c6 := mZx.c6; have c7 := mZx.c7))
  all_goals
    go_wp2_with fail
    go_ret2
    exact ⟨rfl, bw2.trans (bZx.mono bw2.size)⟩
set_option maxRecDepth 100000 in
set_option maxHeartbeats 8000000 in
theorem text_both (y mo d h mi mu : Nat) (S : ByteArray) (z : Int) (has : Bool) (k : MomOk y mo d h mi mu S z has) (R : ByteArray) (hR : R.data.toList = textT 8 y mo d h mi S.data.toList z has) (w : World) (hg : GrT w) :
    Calls Tryz.prog 19 #[.int .i64 8, momV (y : Int) (mo : Int) (d : Int) (h : Int) (mi : Int) S z has] w fun e w' => e = .returned (.tuple #[.string R, .int .i64 0]) ∧ Below w.heap.size w w' := by
  have cV := fun W hW => isValid_ti (y : Int) (mo : Int) (d : Int) (h : Int) (mi : Int) S z has (by have := k.size; omega) W hW
  rw [k.valid] at cV
  have y9 := k.date.y2
  have m9 := k.date.m2
  have d9 := Nat.le_trans k.date.d2 (dim_le y mo).2
  have h9 := k.hour
  have i9 := k.minute
  have s9 := k.size
  have kz := k.zone
  obtain ⟨D, _, hD⟩ := ba_ex (dateL y mo d)
  have lD : D.size ≤ 100 := by rw [ba_size, hD]; exact dateL_len (by omega) (by omega) (by omega)
  have cD := fun W hW => date_ti y mo d (h : Int) (mi : Int) S z has (by omega) (by omega) (by omega) D hD W hW
  obtain ⟨C, _, hC⟩ := ba_ex (clockL h mi S.data.toList)
  have lC : C.size ≤ 1100 := by rw [ba_size, hC]; exact clockL_len (by omega) (by omega) (by rw [← ba_size]; omega)
  have cC := fun W hW => clock_ti (y : Int) (mo : Int) (d : Int) h mi S z has (by omega) (by omega) (by omega) C hC W hW
  obtain ⟨Z, _, hZ⟩ := ba_ex (zoneL z has)
  have lZ : Z.size ≤ 100 := by rw [ba_size, hZ]; exact zoneL_len kz
  have cZ := fun W hW => zoneT_ti (y : Int) (mo : Int) (d : Int) (h : Int) (mi : Int) S z has kz Z hZ W hW
  have hRe : R = D ++ ⟨#[84]⟩ ++ C ++ Z := by
    refine ba_same ?_
    rw [hR]
    unfold textT
    simp [ByteArray.data_append, Array.toList_append, hD, hC, hZ]
  subst hRe
  obtain ⟨T1, hT1⟩ : ∃ T, D ++ ⟨#[84]⟩ = T := ⟨_, rfl⟩
  obtain ⟨T2, hT2⟩ : ∃ T, T1 ++ C = T := ⟨_, rfl⟩
  obtain ⟨T3, hT3⟩ : ∃ T, T2 ++ Z = T := ⟨_, rfl⟩
  have t1 : T1.size ≤ 101 := by rw [← hT1, ByteArray.size_append]; show D.size + 1 ≤ 101; omega
  have t2 : T2.size ≤ 1201 := by rw [← hT2, ByteArray.size_append]; omega
  have a1 : ∀ W, (Op.stringOp .add D ⟨#[84]⟩).run Tryz.prog W = .ok (.string T1) W := fun W => by rw [← hT1]; exact run_string_add_sum W _ _ (by show D.size + 1 ≤ _; omega)
  have a2 : ∀ W, (Op.stringOp .add T1 C).run Tryz.prog W = .ok (.string T2) W := fun W => by rw [← hT2]; exact run_string_add_sum W _ _ (by omega)
  have a3 : ∀ W, (Op.stringOp .add T2 Z).run Tryz.prog W = .ok (.string T3) W := fun W => by rw [← hT3]; exact run_string_add_sum W _ _ (by omega)
  rw [hT1, hT2, hT3]
  clear t1 t2 hT1 hT2 hT3
  unfold momV at cV cZ cD cC ⊢
  have m1 := MomAt.new w (y : Int) (mo : Int) (d : Int) (h : Int) (mi : Int) S z has
  have bw1 : Below w.heap.size w (w.alloc (.cells #[.int .i64 (y : Int), .int .i64 (mo : Int), .int .i64 (d : Int), .int .i64 (h : Int), .int .i64 (mi : Int), .string S, .int .i64 z, .bool has] 24)) := (Below.refl _ _).alloc (Nat.le_refl _) _
  obtain ⟨W1, hW1⟩ : ∃ W, w.alloc (.cells #[.int .i64 (y : Int), .int .i64 (mo : Int), .int .i64 (d : Int), .int .i64 (h : Int), .int .i64 (mi : Int), .string S, .int .i64 z, .bool has] 24) = W := ⟨_, rfl⟩
  rw [hW1] at m1 bw1
  have HW1 := Lib.hid hW1
  have cV := cV W1 (hg.later bw1)
  have HG := Lib.hid hg
  have M1 := Lib.hid m1
  obtain ⟨c0, c1, c2, c3, c4, c5, c6, c7, _⟩ := m1
  clear hW1 hg k hR y9 m9 d9 h9 i9 s9 kz hD lD hC lC hZ lZ
  go_enter Tryz.func19, Tryz.ntmps19
  go_wp2_with fail
  try rw [HW1.out]
  refine cV.mono ?_
  rintro e w2 ⟨rfl, b2⟩
  have m2 := M1.out.later b2
  have M2 := Lib.hid m2
  have bw2 := bw1.trans (b2.mono bw1.size)
  have cD2 : ∀ W, Below w2.heap.size w2 W → Calls Tryz.prog 53 #[.agg #[.int .i64 (y : Int), .int .i64 (mo : Int), .int .i64 (d : Int), .int .i64 (h : Int), .int .i64 (mi : Int), .string S, .int .i64 z, .bool has]] W fun e w' => e = .returned (.string D) ∧ Below w2.heap.size w2 w' := fun W hW => (cD W ((HG.out.later bw2).later hW).num).mono fun _ _ r => ⟨r.1, hW.trans (r.2.mono hW.size)⟩
  have cC2 : ∀ W, Below w2.heap.size w2 W → Calls Tryz.prog 55 #[.agg #[.int .i64 (y : Int), .int .i64 (mo : Int), .int .i64 (d : Int), .int .i64 (h : Int), .int .i64 (mi : Int), .string S, .int .i64 z, .bool has]] W fun e w' => e = .returned (.string C) ∧ Below w2.heap.size w2 w' := fun W hW => (cC W ((HG.out.later bw2).later hW).num).mono fun _ _ r => ⟨r.1, hW.trans (r.2.mono hW.size)⟩
  have cZ2 : ∀ W, Below w2.heap.size w2 W → Calls Tryz.prog 54 #[.agg #[.int .i64 (y : Int), .int .i64 (mo : Int), .int .i64 (d : Int), .int .i64 (h : Int), .int .i64 (mi : Int), .string S, .int .i64 z, .bool has]] W fun e w' => e = .returned (.string Z) ∧ Below w2.heap.size w2 w' := fun W hW => (cZ W ((HG.out.later bw2).later hW).num).mono fun _ _ r => ⟨r.1, hW.trans (r.2.mono hW.size)⟩
  have bD0 : Below w2.heap.size w2 w2.drew := (Below.refl _ _).drew
  clear c0 c1 c2 c3 c4 c5 c6 c7 cV M1 b2 cD cC cZ
  obtain ⟨c0, c1, c2, c3, c4, c5, c6, c7, _⟩ := m2
  go_wp2_with fail
  go_region_held3 (fun w' => w'.cell? ⟨w.heap.size, 0, none⟩ = some (.int .i64 (y : Int)) ∧ w'.cell? ⟨w.heap.size, 1, none⟩ = some (.int .i64 (mo : Int)) ∧ w'.cell? ⟨w.heap.size, 2, none⟩ = some (.int .i64 (d : Int)) ∧ w'.cell? ⟨w.heap.size, 3, none⟩ = some (.int .i64 (h : Int)) ∧ w'.cell? ⟨w.heap.size, 4, none⟩ = some (.int .i64 (mi : Int)) ∧ w'.cell? ⟨w.heap.size, 5, none⟩ = some (.string S) ∧ w'.cell? ⟨w.heap.size, 6, none⟩ = some (.int .i64 z) ∧ w'.cell? ⟨w.heap.size, 7, none⟩ = some (.bool has)) (exact ⟨c0, c1, c2, c3, c4, c5, c6, c7⟩) (first | (go_at_call 53; (with_reducible refine (cD2 _ bD0).mono ?_); rintro e wDx ⟨rfl, bDx⟩; have mDx := M2.out.later bDx; have c0 := mDx.c0; have c1 := mDx.c1; have c2 := mDx.c2; have c3 := mDx.c3; have c4 := mDx.c4; have c5 := mDx.c5; have c6 := mDx.c6; have c7 := mDx.c7) | (go_at_call 55; (with_reducible refine (cC2 _ bDx).mono ?_); rintro e wCx ⟨rfl, bCx⟩; have mCx := M2.out.later bCx; have c0 := mCx.c0; have c1 := mCx.c1; have c2 := mCx.c2; have c3 := mCx.c3; have c4 := mCx.c4; have c5 := mCx.c5; have c6 := mCx.c6; have c7 := mCx.c7) | (go_at_call 54; (with_reducible refine (cZ2 _ bCx).mono ?_); rintro e wZx ⟨rfl, bZx⟩; have mZx := M2.out.later bZx; have c0 := mZx.c0; have c1 := mZx.c1; have c2 := mZx.c2; have c3 := mZx.c3; have c4 := mZx.c4; have c5 := mZx.c5; have c6 := mZx.c6; have c7 := mZx.c7))
  all_goals
    go_wp2_with fail
    go_ret2
    exact ⟨rfl, bw2.trans (bZx.mono bw2.size)⟩
theorem text_ok (kd : Int) (hk : kd = 6 ∨ kd = 7 ∨ kd = 8) (y mo d h mi mu : Nat) (S : ByteArray) (z : Int) (has : Bool) (k : MomOk y mo d h mi mu S z has) (R : ByteArray) (hR : R.data.toList = textT kd y mo d h mi S.data.toList z has) (w : World) (hg : GrT w) :
    Calls Tryz.prog 19 #[.int .i64 kd, momV (y : Int) (mo : Int) (d : Int) (h : Int) (mi : Int) S z has] w fun e w' => e = .returned (.tuple #[.string R, .int .i64 0]) ∧ Below w.heap.size w w' := by
  rcases hk with rfl | rfl | rfl
  · exact text_date y mo d h mi mu S z has k R hR w hg
  · exact text_time y mo d h mi mu S z has k R hR w hg
  · exact text_both y mo d h mi mu S z has k R hR w hg
end Go.Proofs.YtgmnjghbafbopaaGreatDoor

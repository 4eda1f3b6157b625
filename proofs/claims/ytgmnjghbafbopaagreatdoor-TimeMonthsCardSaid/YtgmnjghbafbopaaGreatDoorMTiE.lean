/- Dates: the contract of digits. Dates: the contract of date. Dates: the contract of zone. -/
import Derived.Test.YtgmnjghbafbopaaGreatDoorMTiB
import Derived.Test.YtgmnjghbafbopaaGreatDoorMTiC
import Derived.Deep.RegionHeld3
import Derived.Laws.IdiomStrings
import Derived.Laws.Concat
import Derived.IntWalk
import Derived.BigQuiet
import Derived.Deep.QuietTactic
namespace Go.Proofs.YtgmnjghbafbopaaGreatDoor
open Go.RowKit Go.Lib

/-- A number in at least so many digits. -/
def padD (n k : Nat) : List UInt8 := List.replicate (k - (Lib.decDigits n).length) 48 ++ Lib.decDigits n
set_option maxRecDepth 100000 in
set_option maxHeartbeats 4000000 in
theorem digits_ti (n k : Nat) (hn : n < 100000) (hk : k ≤ 10) (R : ByteArray) (hR : R.data.toList = padD n k) (w : World) (hg : GrN w) :
    Calls Tryz.prog 104 #[.int .i64 (n : Int), .int .i64 (k : Int)] w fun e w' => e = .returned (.string R) ∧ Below w.heap.size w w' := by
  obtain ⟨I, hI, hIl⟩ := ba_ex (Lib.itoa (n : Int))
  have hIn : Lib.itoa (n : Int) = Lib.decDigits n := by unfold Lib.itoa; rw [if_neg (by omega), Int.toNat_natCast]
  have cI := fun W hW => itoa_ti (n : Int) (by omega) (by omega) I hIl W hW
  have hIs : I.size ≤ 20 := by
    rw [ba_size, hIl, hIn, decDigits_dec]
    split
    · decide
    · exact Nat.le_trans ((dec_len n 5).2 (by omega)) (by decide)
  obtain ⟨c, hc⟩ : ∃ c, k - I.size = c := ⟨_, rfl⟩
  have hc10 : c ≤ 10 := by omega
  obtain ⟨Z, hZ, hZl⟩ := ba_ex (Lib.repeatL [48] c)
  have cR := fun W => Tryz.strings_Repeat ⟨#[48]⟩ c W (by omega) (by show 1 * c ≤ _; omega)
  rw [show (⟨#[48]⟩ : ByteArray).data.toList = [48] from rfl, hZ] at cR
  have hrep : ∀ m, Lib.repeatL [48] m = List.replicate m 48 := by
    intro m
    induction m with
    | zero => rfl
    | succ m ih => rw [List.replicate_succ, ← ih]; rfl
  have hZs : Z.size ≤ 10 := by rw [ba_size, hZl, hrep, List.length_replicate]; exact hc10
  have hRe : R = Z ++ I := by
    refine ba_same ?_
    rw [ByteArray.data_append, Array.toList_append, hZl, hIl, hR, hrep]
    unfold padD
    rw [← hc, ba_size, hIl, hIn]
  subst hRe
  have hmx : max ((k : Int) - (I.size : Int)) 0 = (c : Int) := by omega
  have HG := Lib.hid hg
  clear hg hI hIl hIn hZ hZl hrep hR hc
  go_enter Tryz.func104, Tryz.ntmps104
  go_wp2_with fail
  refine (cI w HG.out).mono ?_
  rintro e w1 ⟨rfl, b1⟩
  go_wp2_with fail
  refine (cR w1).mono ?_
  rintro e w2 ⟨rfl, b2⟩
  go_wp2_with fail
  go_ret
  exact ⟨rfl, b1.trans (b2.mono b1.size)⟩
end Go.Proofs.YtgmnjghbafbopaaGreatDoor
namespace Go.Proofs.YtgmnjghbafbopaaGreatDoor
open Go.RowKit Go.Lib

theorem pad_ex (n k : Nat) (hn : n < 100000) (hk : k ≤ 10) : ∃ R : ByteArray, R.data.toList = padD n k ∧ R.size ≤ 30 ∧ ∀ w, GrN w → ∀ W, Below w.heap.size w W → Calls Tryz.prog 104 #[.int .i64 (n : Int), .int .i64 (k : Int)] W fun e w' => e = .returned (.string R) ∧ Below w.heap.size w w' := by
  refine ⟨⟨(padD n k).toArray⟩, rfl, ?_, fun w hg W hW => (digits_ti n k hn hk _ rfl W (hg.later hW)).mono fun _ _ q => ⟨q.1, hW.trans (q.2.mono hW.size)⟩⟩
  rw [ba_size]
  show (padD n k).length ≤ 30
  have : (Lib.decDigits n).length ≤ 20 := by
    rw [decDigits_dec]
    split
    · decide
    · exact Nat.le_trans ((dec_len n 5).2 (by omega)) (by decide)
  unfold padD
  rw [List.length_append, List.length_replicate]
  omega
/-- A date as it is written. -/
def dateL (y mo d : Nat) : List UInt8 := padD y 4 ++ 45 :: (padD mo 2 ++ 45 :: padD d 2)
set_option maxRecDepth 100000 in
set_option maxHeartbeats 8000000 in
theorem date_ti (y mo d : Nat) (h mi : Int) (S : ByteArray) (z : Int) (has : Bool) (hy : y < 100000) (hm : mo < 100000) (hd : d < 100000) (R : ByteArray) (hR : R.data.toList = dateL y mo d) (w : World) (hg : GrN w) :
    Calls Tryz.prog 53 #[momV (y : Int) (mo : Int) (d : Int) h mi S z has] w fun e w' => e = .returned (.string R) ∧ Below w.heap.size w w' := by
  obtain ⟨A, hA, sA, cA⟩ := pad_ex y 4 hy (by omega)
  obtain ⟨M, hM, sM, cM⟩ := pad_ex mo 2 hm (by omega)
  obtain ⟨D, hD, sD, cD⟩ := pad_ex d 2 hd (by omega)
  simp only [Int.cast_ofNat_Int] at cA cM cD
  have hRe : R = A ++ ⟨#[45]⟩ ++ M ++ ⟨#[45]⟩ ++ D := by
    refine ba_same ?_
    rw [hR]
    unfold dateL
    simp [ByteArray.data_append, Array.toList_append, hA, hM, hD]
  subst hRe
  obtain ⟨T1, hT1⟩ : ∃ T, A ++ ⟨#[45]⟩ = T := ⟨_, rfl⟩
  obtain ⟨T2, hT2⟩ : ∃ T, T1 ++ M = T := ⟨_, rfl⟩
  obtain ⟨T3, hT3⟩ : ∃ T, T2 ++ ⟨#[45]⟩ = T := ⟨_, rfl⟩
  obtain ⟨T4, hT4⟩ : ∃ T, T3 ++ D = T := ⟨_, rfl⟩
  have t1 : T1.size ≤ 31 := by rw [← hT1, ByteArray.size_append]; show A.size + 1 ≤ 31; omega
  have t2 : T2.size ≤ 61 := by rw [← hT2, ByteArray.size_append]; omega
  have t3 : T3.size ≤ 62 := by rw [← hT3, ByteArray.size_append]; show T2.size + 1 ≤ 62; omega
  have a1 : ∀ W, (Op.stringOp .add A ⟨#[45]⟩).run Tryz.prog W = .ok (.string T1) W := fun W => by rw [← hT1]; exact run_string_add_sum W _ _ (by show A.size + 1 ≤ _; omega)
  have a2 : ∀ W, (Op.stringOp .add T1 M).run Tryz.prog W = .ok (.string T2) W := fun W => by rw [← hT2]; exact run_string_add_sum W _ _ (by omega)
  have a3 : ∀ W, (Op.stringOp .add T2 ⟨#[45]⟩).run Tryz.prog W = .ok (.string T3) W := fun W => by rw [← hT3]; exact run_string_add_sum W _ _ (by show T2.size + 1 ≤ _; omega)
  have a4 : ∀ W, (Op.stringOp .add T3 D).run Tryz.prog W = .ok (.string T4) W := fun W => by rw [← hT4]; exact run_string_add_sum W _ _ (by omega)
  rw [hT1, hT2, hT3, hT4]
  clear t1 t2 t3 hT1 hT2 hT3 hT4
  unfold momV
  have m1 := MomAt.new w (y : Int) (mo : Int) (d : Int) h mi S z has
  have bw1 : Below w.heap.size w (w.alloc (.cells #[.int .i64 (y : Int), .int .i64 (mo : Int), .int .i64 (d : Int), .int .i64 h, .int .i64 mi, .string S, .int .i64 z, .bool has] 24)) := (Below.refl _ _).alloc (Nat.le_refl _) _
  obtain ⟨W1, hW1⟩ : ∃ W, w.alloc (.cells #[.int .i64 (y : Int), .int .i64 (mo : Int), .int .i64 (d : Int), .int .i64 h, .int .i64 mi, .string S, .int .i64 z, .bool has] 24) = W := ⟨_, rfl⟩
  rw [hW1] at m1 bw1
  have HW1 := Lib.hid hW1
  have g1 := hg.later bw1
  have cA := cA W1 g1
  have cM := cM W1 g1
  have cD := cD W1 g1
  have bD0 : Below W1.heap.size W1 W1.drew := (Below.refl _ _).drew
  have M1 := Lib.hid m1
  obtain ⟨c0, c1, c2, _, _, _, _, _, _⟩ := m1
  clear hW1 hg hA hM hD hR g1
  go_enter Tryz.func53, Tryz.ntmps53
  go_wp2_with fail
  rw [HW1.out]
  clear sA sM sD
  go_region_held3 (fun w' => w'.cell? ⟨w.heap.size, 0, none⟩ = some (.int .i64 (y : Int)) ∧ w'.cell? ⟨w.heap.size, 1, none⟩ = some (.int .i64 (mo : Int)) ∧ w'.cell? ⟨w.heap.size, 2, none⟩ = some (.int .i64 (d : Int))) (exact ⟨c0, c1, c2⟩) (first | (go_at_call 104; (with_reducible refine (cA _ bD0).mono ?_); rintro e wA ⟨rfl, bA⟩; have mA := M1.out.later bA; have c0 := mA.c0; have c1 := mA.c1; have c2 := mA.c2) | (go_at_call 104; (with_reducible refine (cM _ bA).mono ?_); rintro e wM ⟨rfl, bM⟩; have mM := M1.out.later bM; have c0 := mM.c0; have c1 := mM.c1; have c2 := mM.c2) | (go_at_call 104; (with_reducible refine (cD _ bM).mono ?_); rintro e wD ⟨rfl, bD⟩; have mD := M1.out.later bD; have c0 := mD.c0; have c1 := mD.c1; have c2 := mD.c2))
  all_goals
    go_wp2_with fail
    go_ret
    exact ⟨rfl, bw1.trans (bD.mono bw1.size)⟩
end Go.Proofs.YtgmnjghbafbopaaGreatDoor
namespace Go.Proofs.YtgmnjghbafbopaaGreatDoor
open Go.RowKit Go.Lib

/-- A zone as it is written. -/
def zoneL (z : Int) (has : Bool) : List UInt8 := if has = false then [] else if z = 0 then [90] else (if z < 0 then 45 else 43) :: (padD (z.natAbs / 60) 2 ++ 58 :: padD (z.natAbs % 60) 2)
set_option maxRecDepth 100000 in
set_option maxHeartbeats 8000000 in
theorem zone_none (y mo d h mi : Int) (S : ByteArray) (z : Int) (w : World) :
    Calls Tryz.prog 54 #[momV y mo d h mi S z false] w fun e w' => e = .returned (.string ⟨#[]⟩) ∧ Below w.heap.size w w' := by
  unfold momV
  have m1 := MomAt.new w y mo d h mi S z false
  have bw1 : Below w.heap.size w (w.alloc (.cells #[.int .i64 y, .int .i64 mo, .int .i64 d, .int .i64 h, .int .i64 mi, .string S, .int .i64 z, .bool false] 24)) := (Below.refl _ _).alloc (Nat.le_refl _) _
  obtain ⟨W1, hW1⟩ : ∃ W, w.alloc (.cells #[.int .i64 y, .int .i64 mo, .int .i64 d, .int .i64 h, .int .i64 mi, .string S, .int .i64 z, .bool false] 24) = W := ⟨_, rfl⟩
  rw [hW1] at m1 bw1
  have HW1 := Lib.hid hW1
  have M1 := Lib.hid m1
  obtain ⟨c0, c1, c2, c3, c4, c5, c6, c7, _⟩ := m1
  clear hW1
  go_enter Tryz.func54, Tryz.ntmps54
  go_wp2_with fail
  try rw [HW1.out]
  go_quiet (fail)
  obtain ⟨W2, hW2⟩ : ∃ W2, W1.drewN nq = W2 := ⟨_, rfl⟩
  have b2 : Below W1.heap.size W1 W2 := by rw [← hW2]; exact below_drewN (Below.refl _ _) _
  have m2 := M1.out.later b2
  rw [hW2]
  clear hW2 c0 c1 c2 c3 c4 c5 c6 c7
  obtain ⟨c0, c1, c2, c3, c4, c5, c6, c7, _⟩ := m2
  go_wp2_with fail
  go_ret
  exact ⟨rfl, bw1.trans (b2.mono bw1.size)⟩
set_option maxRecDepth 100000 in
set_option maxHeartbeats 8000000 in
theorem zone_zed (y mo d h mi : Int) (S : ByteArray)  (w : World) :
    Calls Tryz.prog 54 #[momV y mo d h mi S 0 true] w fun e w' => e = .returned (.string ⟨#[90]⟩) ∧ Below w.heap.size w w' := by
  unfold momV
  have m1 := MomAt.new w y mo d h mi S 0 true
  have bw1 : Below w.heap.size w (w.alloc (.cells #[.int .i64 y, .int .i64 mo, .int .i64 d, .int .i64 h, .int .i64 mi, .string S, .int .i64 0, .bool true] 24)) := (Below.refl _ _).alloc (Nat.le_refl _) _
  obtain ⟨W1, hW1⟩ : ∃ W, w.alloc (.cells #[.int .i64 y, .int .i64 mo, .int .i64 d, .int .i64 h, .int .i64 mi, .string S, .int .i64 0, .bool true] 24) = W := ⟨_, rfl⟩
  rw [hW1] at m1 bw1
  have HW1 := Lib.hid hW1
  have M1 := Lib.hid m1
  obtain ⟨c0, c1, c2, c3, c4, c5, c6, c7, _⟩ := m1
  clear hW1
  go_enter Tryz.func54, Tryz.ntmps54
  go_wp2_with fail
  try rw [HW1.out]
  go_quiet (fail)
  obtain ⟨W2, hW2⟩ : ∃ W2, W1.drewN nq = W2 := ⟨_, rfl⟩
  have b2 : Below W1.heap.size W1 W2 := by rw [← hW2]; exact below_drewN (Below.refl _ _) _
  have m2 := M1.out.later b2
  rw [hW2]
  clear hW2 c0 c1 c2 c3 c4 c5 c6 c7
  obtain ⟨c0, c1, c2, c3, c4, c5, c6, c7, _⟩ := m2
  go_wp2_with fail
  go_ret
  exact ⟨rfl, bw1.trans (b2.mono bw1.size)⟩
set_option maxRecDepth 100000 in
set_option maxHeartbeats 8000000 in
theorem zone_plus (y mo d h mi : Int) (S : ByteArray) (m : Nat) (hm : 0 < m ∧ m ≤ 840) (R : ByteArray) (hR : R.data.toList = 43 :: (padD (m / 60) 2 ++ 58 :: padD (m % 60) 2)) (w : World) (hg : GrN w) :
    Calls Tryz.prog 54 #[momV y mo d h mi S (m : Int) true] w fun e w' => e = .returned (.string R) ∧ Below w.heap.size w w' := by
  obtain ⟨A, hA, sA, cA⟩ := pad_ex (m / 60) 2 (by omega) (by omega)
  obtain ⟨M, hM, sM, cM⟩ := pad_ex (m % 60) 2 (by omega) (by omega)
  simp only [Int.natCast_ediv, Int.natCast_emod, Int.cast_ofNat_Int] at cA cM
  have hRe : R = ⟨#[43]⟩ ++ A ++ ⟨#[58]⟩ ++ M := by
    refine ba_same ?_
    rw [hR]
    simp [ByteArray.data_append, Array.toList_append, hA, hM]
  subst hRe
  obtain ⟨T1, hT1⟩ : ∃ T, ⟨#[43]⟩ ++ A = T := ⟨_, rfl⟩
  obtain ⟨T2, hT2⟩ : ∃ T, T1 ++ ⟨#[58]⟩ = T := ⟨_, rfl⟩
  obtain ⟨T3, hT3⟩ : ∃ T, T2 ++ M = T := ⟨_, rfl⟩
  have t1 : T1.size ≤ 31 := by rw [← hT1, ByteArray.size_append]; show 1 + A.size ≤ 31; omega
  have t2 : T2.size ≤ 32 := by rw [← hT2, ByteArray.size_append]; show T1.size + 1 ≤ 32; omega
  have a1 : ∀ W, (Op.stringOp .add ⟨#[43]⟩ A).run Tryz.prog W = .ok (.string T1) W := fun W => by rw [← hT1]; exact run_string_add_sum W _ _ (by show 1 + A.size ≤ _; omega)
  have a2 : ∀ W, (Op.stringOp .add T1 ⟨#[58]⟩).run Tryz.prog W = .ok (.string T2) W := fun W => by rw [← hT2]; exact run_string_add_sum W _ _ (by show T1.size + 1 ≤ _; omega)
  have a3 : ∀ W, (Op.stringOp .add T2 M).run Tryz.prog W = .ok (.string T3) W := fun W => by rw [← hT3]; exact run_string_add_sum W _ _ (by omega)
  rw [hT1, hT2, hT3]
  have mz0 : (0 : Int) ≤ (m : Int) := by omega
  have s1 : IntKind.i64.wrap (m : Int) = (m : Int) := IntWalk.i64_in _ (by omega)
  have nz : ((m : Int) == 0) = false := beq_eq_false_iff_ne.2 (by omega)
  have lt : ¬ (m : Int) < 0 := by omega
  clear t1 t2 hT1 hT2 hT3 hA hM hR sA sM
  unfold momV
  have m1 := MomAt.new w y mo d h mi S (m : Int) true
  have bw1 : Below w.heap.size w (w.alloc (.cells #[.int .i64 y, .int .i64 mo, .int .i64 d, .int .i64 h, .int .i64 mi, .string S, .int .i64 (m : Int), .bool true] 24)) := (Below.refl _ _).alloc (Nat.le_refl _) _
  obtain ⟨W1, hW1⟩ : ∃ W, w.alloc (.cells #[.int .i64 y, .int .i64 mo, .int .i64 d, .int .i64 h, .int .i64 mi, .string S, .int .i64 (m : Int), .bool true] 24) = W := ⟨_, rfl⟩
  rw [hW1] at m1 bw1
  have HW1 := Lib.hid hW1
  have cA := cA W1 (hg.later bw1)
  have cM := cM W1 (hg.later bw1)
  have M1 := Lib.hid m1
  obtain ⟨c0, c1, c2, c3, c4, c5, c6, c7, _⟩ := m1
  clear hW1 hg
  go_enter Tryz.func54, Tryz.ntmps54
  go_wp2_with fail
  try rw [HW1.out]
  go_quiet (fail)
  obtain ⟨W2, hW2⟩ : ∃ W2, W1.drewN nq = W2 := ⟨_, rfl⟩
  have b2 : Below W1.heap.size W1 W2 := by rw [← hW2]; exact below_drewN (Below.refl _ _) _
  have m2 := M1.out.later b2
  rw [hW2]
  clear hW2 c0 c1 c2 c3 c4 c5 c6 c7
  obtain ⟨c0, c1, c2, c3, c4, c5, c6, c7, _⟩ := m2
  go_wp2_with fail
  refine (cA _ b2).mono ?_
  rintro e w3 ⟨rfl, b3⟩
  go_wp2_with fail
  refine (cM _ b3).mono ?_
  rintro e w4 ⟨rfl, b4⟩
  go_wp2_with fail
  go_ret
  exact ⟨rfl, bw1.trans (b4.mono bw1.size)⟩
set_option maxRecDepth 100000 in
set_option maxHeartbeats 8000000 in
theorem zone_minus (y mo d h mi : Int) (S : ByteArray) (m : Nat) (hm : 0 < m ∧ m ≤ 840) (R : ByteArray) (hR : R.data.toList = 45 :: (padD (m / 60) 2 ++ 58 :: padD (m % 60) 2)) (w : World) (hg : GrN w) :
    Calls Tryz.prog 54 #[momV y mo d h mi S (-(m : Int)) true] w fun e w' => e = .returned (.string R) ∧ Below w.heap.size w w' := by
  obtain ⟨A, hA, sA, cA⟩ := pad_ex (m / 60) 2 (by omega) (by omega)
  obtain ⟨M, hM, sM, cM⟩ := pad_ex (m % 60) 2 (by omega) (by omega)
  simp only [Int.natCast_ediv, Int.natCast_emod, Int.cast_ofNat_Int] at cA cM
  have hRe : R = ⟨#[45]⟩ ++ A ++ ⟨#[58]⟩ ++ M := by
    refine ba_same ?_
    rw [hR]
    simp [ByteArray.data_append, Array.toList_append, hA, hM]
  subst hRe
  obtain ⟨T1, hT1⟩ : ∃ T, ⟨#[45]⟩ ++ A = T := ⟨_, rfl⟩
  obtain ⟨T2, hT2⟩ : ∃ T, T1 ++ ⟨#[58]⟩ = T := ⟨_, rfl⟩
  obtain ⟨T3, hT3⟩ : ∃ T, T2 ++ M = T := ⟨_, rfl⟩
  have t1 : T1.size ≤ 31 := by rw [← hT1, ByteArray.size_append]; show 1 + A.size ≤ 31; omega
  have t2 : T2.size ≤ 32 := by rw [← hT2, ByteArray.size_append]; show T1.size + 1 ≤ 32; omega
  have a1 : ∀ W, (Op.stringOp .add ⟨#[45]⟩ A).run Tryz.prog W = .ok (.string T1) W := fun W => by rw [← hT1]; exact run_string_add_sum W _ _ (by show 1 + A.size ≤ _; omega)
  have a2 : ∀ W, (Op.stringOp .add T1 ⟨#[58]⟩).run Tryz.prog W = .ok (.string T2) W := fun W => by rw [← hT2]; exact run_string_add_sum W _ _ (by show T1.size + 1 ≤ _; omega)
  have a3 : ∀ W, (Op.stringOp .add T2 M).run Tryz.prog W = .ok (.string T3) W := fun W => by rw [← hT3]; exact run_string_add_sum W _ _ (by omega)
  rw [hT1, hT2, hT3]
  have mz0 : (0 : Int) ≤ (m : Int) := by omega
  have s1 : IntKind.i64.wrap (m : Int) = (m : Int) := IntWalk.i64_in _ (by omega)
  have nz : ((m : Int) == 0) = false := beq_eq_false_iff_ne.2 (by omega)
  have nz2 : (-(m : Int) == 0) = false := beq_eq_false_iff_ne.2 (by omega)
  have lt : -(m : Int) < 0 := by omega
  clear t1 t2 hT1 hT2 hT3 hA hM hR sA sM
  unfold momV
  have m1 := MomAt.new w y mo d h mi S (-(m : Int)) true
  have bw1 : Below w.heap.size w (w.alloc (.cells #[.int .i64 y, .int .i64 mo, .int .i64 d, .int .i64 h, .int .i64 mi, .string S, .int .i64 (-(m : Int)), .bool true] 24)) := (Below.refl _ _).alloc (Nat.le_refl _) _
  obtain ⟨W1, hW1⟩ : ∃ W, w.alloc (.cells #[.int .i64 y, .int .i64 mo, .int .i64 d, .int .i64 h, .int .i64 mi, .string S, .int .i64 (-(m : Int)), .bool true] 24) = W := ⟨_, rfl⟩
  rw [hW1] at m1 bw1
  have HW1 := Lib.hid hW1
  have cA := cA W1 (hg.later bw1)
  have cM := cM W1 (hg.later bw1)
  have M1 := Lib.hid m1
  obtain ⟨c0, c1, c2, c3, c4, c5, c6, c7, _⟩ := m1
  clear hW1 hg
  go_enter Tryz.func54, Tryz.ntmps54
  go_wp2_with fail
  try rw [HW1.out]
  go_quiet (fail)
  obtain ⟨W2, hW2⟩ : ∃ W2, W1.drewN nq = W2 := ⟨_, rfl⟩
  have b2 : Below W1.heap.size W1 W2 := by rw [← hW2]; exact below_drewN (Below.refl _ _) _
  have m2 := M1.out.later b2
  rw [hW2]
  clear hW2 c0 c1 c2 c3 c4 c5 c6 c7
  obtain ⟨c0, c1, c2, c3, c4, c5, c6, c7, _⟩ := m2
  go_wp2_with fail
  refine (cA _ b2).mono ?_
  rintro e w3 ⟨rfl, b3⟩
  go_wp2_with fail
  refine (cM _ b3).mono ?_
  rintro e w4 ⟨rfl, b4⟩
  go_wp2_with fail
  go_ret
  exact ⟨rfl, bw1.trans (b4.mono bw1.size)⟩
theorem zoneT_ti (y mo d h mi : Int) (S : ByteArray) (z : Int) (has : Bool) (hz : zoneB z has = true) (R : ByteArray) (hR : R.data.toList = zoneL z has) (w : World) (hg : GrN w) :
    Calls Tryz.prog 54 #[momV y mo d h mi S z has] w fun e w' => e = .returned (.string R) ∧ Below w.heap.size w w' := by
  unfold zoneB at hz
  unfold zoneL at hR
  cases has with
  | false =>
    rw [if_pos rfl] at hR
    obtain rfl : (⟨#[]⟩ : ByteArray) = R := ba_same (s := R) (r := ⟨#[]⟩) hR
    exact zone_none y mo d h mi S z w
  | true =>
    rw [if_pos rfl, Bool.and_eq_true] at hz
    have z1 := of_decide_eq_true hz.1
    have z2 := of_decide_eq_true hz.2
    rw [if_neg (by decide)] at hR
    by_cases z0 : z = 0
    · subst z0
      rw [if_pos rfl] at hR
      obtain rfl : (⟨#[90]⟩ : ByteArray) = R := ba_same (s := R) (r := ⟨#[90]⟩) hR
      exact zone_zed y mo d h mi S w
    · rw [if_neg z0] at hR
      obtain ⟨m, hm⟩ : ∃ m, z.natAbs = m := ⟨_, rfl⟩
      rw [hm] at hR
      by_cases zn : z < 0
      · rw [if_pos zn] at hR
        obtain rfl : z = -(m : Int) := by omega
        exact zone_minus y mo d h mi S m (by omega) R hR w hg
      · rw [if_neg zn] at hR
        obtain rfl : z = (m : Int) := by omega
        exact zone_plus y mo d h mi S m (by omega) R hR w hg
end Go.Proofs.YtgmnjghbafbopaaGreatDoor

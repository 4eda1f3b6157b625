/- Numbers: the contract of text. -/
import Derived.Test.YtdfgifnccghlmabGreatDoorMNuNumber
import Derived.Test.YtdfgifnccghlmabGreatDoorMNuF
namespace Go.Proofs.YtdfgifnccghlmabGreatDoor
open Go.RowKit Go.Lib

/-- What is given back: a text and an error. -/
def resV (r : List UInt8 × Int) : Value := .tuple #[.string ⟨r.1.toArray⟩, .int .i64 r.2]
theorem ba_eq (a : ByteArray) (l : List UInt8) (h : a.data.toList = l) : a = ⟨l.toArray⟩ := by
  rw [← h]
/-- The digits of a number behind twenty zeros, parted. -/
theorem text_parts (k n : Nat) (h : n < 10 ^ (9 * k)) :
    ((List.replicate 20 48 ++ fixed (9 * k) n).take (9 * k)) = fixed (9 * k) (n / 10 ^ 20) ∧ ((List.replicate 20 48 ++ fixed (9 * k) n).drop (9 * k)) = fixed 20 n := by
  have e1 : List.replicate 20 48 ++ fixed (9 * k) n = fixed (9 * k) (n / 10 ^ 20) ++ fixed 20 n := by
    rw [← fixed_add, Nat.add_comm, fixed_add, Nat.div_eq_of_lt h, fixed_zero]
  rw [e1]
  exact ⟨List.take_left' (fixed_len _ _), List.drop_left' (fixed_len _ _)⟩
theorem resV_of {R : List UInt8 × Int} {X : ByteArray} {z : Int} (h : R = (X.data.toList, z)) : resV R = .tuple #[.string X, .int .i64 z] := by
  rw [h]; rfl
theorem resR_body (below : Bool) (n : Nat) (B A : List UInt8) (hB : dec (n / 10 ^ 20) = B) (hA : trimE (fixed 20 n) = A) :
    resR below n = if 30 < B.length then ([], 40) else ((if below = true ∧ (if B = [] then [48] else B) ++ (if A = [] then [] else 46 :: A) ≠ [48] then [45] else []) ++ ((if B = [] then [48] else B) ++ (if A = [] then [] else 46 :: A)), 0) := by
  unfold resR textL bodyL
  rw [hB, hA]
  split
  · rename_i h
    split at h
    · cases h
    · rename_i h2
      cases h
      rw [if_neg h2]
  · rename_i h
    split at h
    · rename_i h2
      rw [if_pos h2]
    · cases h
set_option maxRecDepth 100000 in
set_option maxHeartbeats 16000000 in
theorem text_any (below : Bool) (v : Value) (n : Nat) (hn9 : (wordsOf n).length ≤ 10000) (w : World) (hg : GrN w) (hN : NumAt w v below n) :
    Calls Tryz.prog 44 #[v] w fun e w' => e = .returned (resV (resR below n)) ∧ Below w.heap.size w w' := by
  obtain ⟨p, c, rfl, hN⟩ := hN
  obtain ⟨k, hk⟩ : ∃ k, (wordsOf n).length = k := ⟨_, rfl⟩
  have hlt : n < 10 ^ (9 * k) := by
    have := words_lt n
    rw [hk, show (1000000000 : Nat) = 10 ^ 9 from rfl, ← Nat.pow_mul] at this
    exact this
  obtain ⟨tp1, tp2⟩ := text_parts k n hlt
  obtain ⟨bf, hbf⟩ : ∃ bf : ByteArray, bf = ⟨(trim0 (fixed (9 * k) (n / 10 ^ 20))).toArray⟩ := ⟨_, rfl⟩
  obtain ⟨af, haf⟩ : ∃ af : ByteArray, af = ⟨(trimE (fixed 20 n)).toArray⟩ := ⟨_, rfl⟩
  have hbd : dec (n / 10 ^ 20) = bf.data.toList := by rw [hbf, trim_fixed _ _ (Nat.lt_of_le_of_lt (Nat.div_le_self _ _) hlt)]
  have had : trimE (fixed 20 n) = af.data.toList := by rw [haf]
  rw [resR_body below n _ _ hbd had]
  have hb1 : Below w.heap.size w (w.alloc (.cells #[.bool below, .slice p k c] 70)) := (Below.refl _ w).alloc (Nat.le_refl _) _
  have cR := fun W => Tryz.strings_Repeat ⟨#[48]⟩ 20 W (by omega) (by decide)
  rw [show (Lib.repeatL (⟨#[48]⟩ : ByteArray).data.toList 20) = List.replicate 20 48 from repeat_zeros 20] at cR
  rw [hk] at hN ⊢
  have cD := fun W (hW : Below w.heap.size w W) => digits_any (.slice p k c) n (by omega) W (hg.later hW) (hN.later hW)
  rw [hk] at cD
  obtain ⟨S, hS⟩ : ∃ S : ByteArray, (⟨(List.replicate 20 48).toArray⟩ ++ ⟨(fixed (9 * k) n).toArray⟩ : ByteArray) = S := ⟨_, rfl⟩
  have hSl : S.data.toList = List.replicate 20 48 ++ fixed (9 * k) n := by rw [← hS, ba_app]
  have hSs : S.size = 20 + 9 * k := by rw [ba_len, hSl, List.length_append, List.length_replicate, fixed_len]
  have e1 : (S.extract 0 (9 * k)).data.toList = fixed (9 * k) (n / 10 ^ 20) := by
    rw [Lib.extract_data, List.drop_zero, Nat.sub_zero, hSl, tp1]
  have e2 : (S.extract (9 * k) S.size).data.toList = fixed 20 n := by
    rw [Lib.extract_to_end, hSl, tp2]
  have cL := fun W => Tryz.strings_TrimLeft_one (S.extract 0 (9 * k)) 48 (by decide) W
  have cT := fun W => Tryz.strings_TrimRight_one (S.extract (9 * k) S.size) 48 (by decide) W (by rw [ByteArray.size_extract]; omega)
  rw [e1, show Lib.trimLeftB (fixed (9 * k) (n / 10 ^ 20)) 48 = trim0 (fixed (9 * k) (n / 10 ^ 20)) from rfl, ← hbf] at cL
  rw [e2, show Lib.trimRightB (fixed 20 n) 48 = trimE (fixed 20 n) from rfl, ← haf] at cT
  obtain ⟨pt, hpt⟩ : ∃ pt, 9 * k = pt := ⟨_, rfl⟩
  rw [hpt] at cL cT
  have hSz : (S.size : Int) - 20 = (pt : Int) := by omega
  have hp0 : (0 : Int) ≤ (pt : Int) := by omega
  have hp9 : (pt : Int) ≤ 1000000 := by omega
  have hpS : (pt : Int) ≤ (S.size : Int) := by omega
  have hpS2 : pt ≤ S.size := by omega
  have y0 : (w.alloc (.cells #[.bool below, .slice p k c] 70)).cell? ⟨w.heap.size, 0, none⟩ = some (.bool below) := by simp [go_sem]
  have y1 : (w.alloc (.cells #[.bool below, .slice p k c] 70)).cell? ⟨w.heap.size, 1, none⟩ = some (.slice p k c) := by simp [go_sem]
  have s0 : w.heap.size < (w.alloc (.cells #[.bool below, .slice p k c] 70)).heap.size := by simp
  obtain ⟨W1, hW1⟩ : ∃ W1, w.alloc (.cells #[.bool below, .slice p k c] 70) = W1 := ⟨_, rfl⟩
  rw [hW1] at hb1 y0 y1 s0
  have HBD := Lib.hid (And.intro hbf haf)
  have cR1 : ∀ W, Below w.heap.size w W → Calls Tryz.prog 74 #[.string ⟨#[48]⟩, .int .i64 20] W fun e w' => e = .returned (.string ⟨(List.replicate 20 48).toArray⟩) ∧ Below W.heap.size W w' := fun W _ => cR W
  obtain ⟨Z, hZ⟩ : ∃ Z : ByteArray, (⟨(List.replicate 20 48).toArray⟩ : ByteArray) = Z := ⟨_, rfl⟩
  obtain ⟨F, hF⟩ : ∃ F : ByteArray, (⟨(fixed (9 * k) n).toArray⟩ : ByteArray) = F := ⟨_, rfl⟩
  rw [hZ] at cR1 hS
  rw [hpt] at hF
  rw [hpt, hF] at cD
  rw [hpt, hF] at hS
  obtain ⟨R, hR⟩ : ∃ R, (if 30 < bf.data.toList.length then (([] : List UInt8), (40 : Int)) else ((if below = true ∧ (if bf.data.toList = [] then [48] else bf.data.toList) ++ (if af.data.toList = [] then [] else 46 :: af.data.toList) ≠ [48] then [45] else []) ++ ((if bf.data.toList = [] then [48] else bf.data.toList) ++ (if af.data.toList = [] then [] else 46 :: af.data.toList)), 0)) = R := ⟨_, rfl⟩
  rw [hR]
  have HRB := Lib.hid hR
  have hbs9 : bf.size ≤ 9 * k := by
    rw [ba_len, ← hbd]
    have := (dec_len (n / 10 ^ 20) (9 * k)).2 (Nat.lt_of_le_of_lt (Nat.div_le_self _ _) hlt)
    exact this
  have has9 : af.size ≤ 20 := by
    rw [ba_len, ← had]
    obtain ⟨q, hq⟩ := trimE_split (fixed 20 n)
    have := congrArg List.length hq
    rw [fixed_len, List.length_append] at this
    omega
  obtain ⟨T1, hT1⟩ : ∃ T : ByteArray, (⟨#[46]⟩ ++ af : ByteArray) = T := ⟨_, rfl⟩
  obtain ⟨T2, hT2⟩ : ∃ T : ByteArray, bf ++ T1 = T := ⟨_, rfl⟩
  obtain ⟨T3, hT3⟩ : ∃ T : ByteArray, (⟨#[48]⟩ ++ T1 : ByteArray) = T := ⟨_, rfl⟩
  obtain ⟨N1, hN1⟩ : ∃ T : ByteArray, (⟨#[45]⟩ ++ bf : ByteArray) = T := ⟨_, rfl⟩
  obtain ⟨N2, hN2⟩ : ∃ T : ByteArray, (⟨#[45]⟩ ++ T2 : ByteArray) = T := ⟨_, rfl⟩
  obtain ⟨N3, hN3⟩ : ∃ T : ByteArray, (⟨#[45]⟩ ++ T3 : ByteArray) = T := ⟨_, rfl⟩
  have l46 : (⟨#[46]⟩ : ByteArray).data.toList = [46] := rfl
  have l48 : (⟨#[48]⟩ : ByteArray).data.toList = [48] := rfl
  have l45 : (⟨#[45]⟩ : ByteArray).data.toList = [45] := rfl
  have t1 : T1.data.toList = 46 :: af.data.toList := by rw [← hT1, ba_app, l46]; rfl
  have t2 : T2.data.toList = bf.data.toList ++ 46 :: af.data.toList := by rw [← hT2, ba_app, t1]
  have t3 : T3.data.toList = 48 :: 46 :: af.data.toList := by rw [← hT3, ba_app, l48, t1]; rfl
  have n1 : N1.data.toList = 45 :: bf.data.toList := by rw [← hN1, ba_app, l45]; rfl
  have n2 : N2.data.toList = 45 :: (bf.data.toList ++ 46 :: af.data.toList) := by rw [← hN2, ba_app, l45, t2]; rfl
  have n3 : N3.data.toList = 45 :: 48 :: 46 :: af.data.toList := by rw [← hN3, ba_app, l45, t3]; rfl
  have z1 : T1.size ≤ 21 := by rw [ba_len, t1, List.length_cons, ← ba_len]; omega
  have z2 : T2.size ≤ 9 * k + 21 := by rw [ba_len, t2, List.length_append, List.length_cons, ← ba_len, ← ba_len]; omega
  have z3 : T3.size ≤ 22 := by rw [ba_len, t3, List.length_cons, List.length_cons, ← ba_len]; omega
  have s46 : (⟨#[46]⟩ : ByteArray).size = 1 := rfl
  have s48 : (⟨#[48]⟩ : ByteArray).size = 1 := rfl
  have s45 : (⟨#[45]⟩ : ByteArray).size = 1 := rfl
  have a1 : ∀ W, (Op.stringOp .add ⟨#[46]⟩ af).run Tryz.prog W = .ok (.string T1) W := fun W => by rw [← hT1]; exact run_string_add_sum W _ _ (by omega)
  have a2 : ∀ W, (Op.stringOp .add bf T1).run Tryz.prog W = .ok (.string T2) W := fun W => by rw [← hT2]; exact run_string_add_sum W _ _ (by omega)
  have a3 : ∀ W, (Op.stringOp .add ⟨#[48]⟩ T1).run Tryz.prog W = .ok (.string T3) W := fun W => by rw [← hT3]; exact run_string_add_sum W _ _ (by omega)
  have a4 : ∀ W, (Op.stringOp .add ⟨#[45]⟩ bf).run Tryz.prog W = .ok (.string N1) W := fun W => by rw [← hN1]; exact run_string_add_sum W _ _ (by omega)
  have a5 : ∀ W, (Op.stringOp .add ⟨#[45]⟩ T2).run Tryz.prog W = .ok (.string N2) W := fun W => by rw [← hN2]; exact run_string_add_sum W _ _ (by omega)
  have a6 : ∀ W, (Op.stringOp .add ⟨#[45]⟩ T3).run Tryz.prog W = .ok (.string N3) W := fun W => by rw [← hN3]; exact run_string_add_sum W _ _ (by omega)
  have q2 : (T2.toList == [48]) = false := by
    rw [ByteArray.toList_eq, beq_dec, decide_eq_false_iff_not, t2]
    intro h
    have := congrArg List.length h
    rw [List.length_append, List.length_cons, List.length_singleton] at this
    cases hbl : bf.data.toList with
    | nil => rw [hbl] at h; cases h
    | cons x t => rw [hbl, List.length_cons] at this; omega
  have q3 : (T3.toList == [48]) = false := by
    rw [ByteArray.toList_eq, beq_dec, decide_eq_false_iff_not, t3]
    intro h
    cases h
  have HT := Lib.hid (And.intro t2 (And.intro t3 (And.intro n1 (And.intro n2 n3))))
  have hadd0 : ∀ W, (Op.stringOp .add Z F).run Tryz.prog W = .ok (.string S) W := fun W => by
    rw [← hS]
    refine run_string_add_sum W _ _ ?_
    have h1 : Z.size = 20 := by rw [← hZ, ba_len]; exact List.length_replicate
    have h2 : F.size = pt := by rw [← hF, ba_len]; exact fixed_len _ _
    omega
  clear hbd had tp1 tp2 hlt hk hN hSl hSs e1 e2 hZ hF hpt hbf haf cR hn9 hg hS hR hT1 hT2 hT3 hN1 hN2 hN3 l46 l48 l45 t1 t2 t3 n1 n2 n3 z1 z2 z3 s46 s48 s45 hbs9 has9
  unfold numV
  go_enter Tryz.func44, Tryz.ntmps44
  go_wp2_with fail
  try rw [hW1]
  clear hW1
  go_region_held3 (fun w' => w'.cell? ⟨w.heap.size, 1, none⟩ = some (.slice p k c) ∧ w'.cell? ⟨w.heap.size, 0, none⟩ = some (.bool below) ∧ Below w.heap.size w w' ∧ w.heap.size < w'.heap.size) (first | exact ⟨k1, k0, kb, ks⟩ | exact ⟨y1, y0, hb1.drew, s0⟩ | exact ⟨y1, y0, hb1, s0⟩ | assumption) (first | (go_at_call 74; refine (cR1 _ (by first | exact kb | exact hb1.drew | exact hb1)).mono ?_; rintro e w4 ⟨rfl, hb4⟩; have k1 : w4.cell? ⟨w.heap.size, 1, none⟩ = some (.slice p k c) := (by first | exact (hb4.cell (p := ⟨w.heap.size, 1, none⟩) ks).trans k1 | exact (hb4.cell (p := ⟨w.heap.size, 1, none⟩) s0).trans y1); have k0 : w4.cell? ⟨w.heap.size, 0, none⟩ = some (.bool below) := (by first | exact (hb4.cell (p := ⟨w.heap.size, 0, none⟩) ks).trans k0 | exact (hb4.cell (p := ⟨w.heap.size, 0, none⟩) s0).trans y0); have ks : w.heap.size < w4.heap.size := (by first | exact Nat.lt_of_lt_of_le ks hb4.size | exact Nat.lt_of_lt_of_le s0 hb4.size); have kb : Below w.heap.size w w4 := (by first | exact kb.trans (hb4.mono kb.size) | exact hb1.drew.trans (hb4.mono hb1.size) | exact hb1.trans (hb4.mono hb1.size))) | (go_at_call 76; refine (cD _ (by first | exact kb | exact hb1.drew | exact hb1)).mono ?_; rintro e w4 ⟨rfl, hb4⟩; have k1 : w4.cell? ⟨w.heap.size, 1, none⟩ = some (.slice p k c) := (by first | exact (hb4.cell (p := ⟨w.heap.size, 1, none⟩) ks).trans k1 | exact (hb4.cell (p := ⟨w.heap.size, 1, none⟩) s0).trans y1); have k0 : w4.cell? ⟨w.heap.size, 0, none⟩ = some (.bool below) := (by first | exact (hb4.cell (p := ⟨w.heap.size, 0, none⟩) ks).trans k0 | exact (hb4.cell (p := ⟨w.heap.size, 0, none⟩) s0).trans y0); have ks : w.heap.size < w4.heap.size := (by first | exact Nat.lt_of_lt_of_le ks hb4.size | exact Nat.lt_of_lt_of_le s0 hb4.size); have kb : Below w.heap.size w w4 := (by first | exact kb.trans (hb4.mono kb.size) | exact hb1.drew.trans (hb4.mono hb1.size) | exact hb1.trans (hb4.mono hb1.size))))
  all_goals
    clear hadd0 y0 y1 s0 hb1 cD cR1 k1
    go_wp2_with fail
    go_quiet ((first | (go_at_call 77; exact Calls.quiet_of_same (cL _)) | (go_at_call 78; exact Calls.quiet_of_same (cT _))))
    have kb5 : Below w.heap.size w (w4.drewN nq) := below_drewN kb nq
    have k05 : (w4.drewN nq).cell? ⟨w.heap.size, 0, none⟩ = some (.bool below) := by simpa using k0
    obtain ⟨W5, hW5⟩ : ∃ W5, w4.drewN nq = W5 := ⟨_, rfl⟩
    rw [hW5] at kb5 k05 ⊢
    clear hW5 k0 kb ks cL cT hSz hp0 hpS hpS2
    by_cases hg : 30 < bf.size
    · have hgz : (30 : Int) < (bf.size : Int) := by omega
      have hgl : 30 < bf.data.toList.length := by rw [← ba_len]; exact hg
      go_wp2_with fail
      go_ret2
      exact ⟨by rw [← HRB.out, if_pos hgl]; rfl, kb5⟩
    · have hgz : ¬ (30 : Int) < (bf.size : Int) := by omega
      have hgl : ¬ 30 < bf.data.toList.length := by rw [← ba_len]; exact hg
      have HGL := Lib.hid hgl
      clear hgl hg
      cases E1 : bf.toList.isEmpty <;> cases E2 : af.toList.isEmpty
      · have HB := Lib.hid (show ¬ bf.data.toList = [] from by rw [ByteArray.toList_eq] at E1; intro h; rw [h] at E1; cases E1)
        have HA := Lib.hid (show ¬ af.data.toList = [] from by rw [ByteArray.toList_eq] at E2; intro h; rw [h] at E2; cases E2)
        cases below
        · go_wp2_with fail
          go_ret2
          refine ⟨?_, kb5⟩
          obtain ⟨t2, t3, n1, n2, n3⟩ := HT.out
          have hRX : R = ((T2 : ByteArray).data.toList, 0) := by
            rw [← HRB.out, if_neg HGL.out]
            simp [HB.out, HA.out, t2]
          exact congrArg Ending.returned (resV_of hRX).symm
        · go_wp2_with fail
          go_ret2
          refine ⟨?_, kb5⟩
          obtain ⟨t2, t3, n1, n2, n3⟩ := HT.out
          have hne : ¬ (bf.data.toList ++ 46 :: af.data.toList = [48]) := by
            have := q2
            rw [ByteArray.toList_eq, beq_dec, decide_eq_false_iff_not, t2] at this
            exact this
          have hRX : R = ((N2 : ByteArray).data.toList, 0) := by
            rw [← HRB.out, if_neg HGL.out]
            simp [HB.out, HA.out, n2, hne]
          exact congrArg Ending.returned (resV_of hRX).symm
      · have HB := Lib.hid (show ¬ bf.data.toList = [] from by rw [ByteArray.toList_eq] at E1; intro h; rw [h] at E1; cases E1)
        have HA := Lib.hid (show af.data.toList = [] from by rw [ByteArray.toList_eq] at E2; exact List.isEmpty_iff.1 E2)
        cases below
        · go_wp2_with fail
          go_ret2
          refine ⟨?_, kb5⟩
          obtain ⟨t2, t3, n1, n2, n3⟩ := HT.out
          have hRX : R = ((bf : ByteArray).data.toList, 0) := by
            rw [← HRB.out, if_neg HGL.out]
            simp [HB.out, HA.out]
          exact congrArg Ending.returned (resV_of hRX).symm
        · cases E3 : (bf.toList == [48])
          · have HC := Lib.hid (show ¬ bf.data.toList = [48] from by rw [ByteArray.toList_eq, beq_dec] at E3; simpa using E3)
            go_wp2_with fail
            go_ret2
            refine ⟨?_, kb5⟩
            obtain ⟨t2, t3, n1, n2, n3⟩ := HT.out
            have hRX : R = ((N1 : ByteArray).data.toList, 0) := by
              rw [← HRB.out, if_neg HGL.out]
              simp [HB.out, HA.out, n1, HC.out]
            exact congrArg Ending.returned (resV_of hRX).symm
          · have HC := Lib.hid (show bf.data.toList = [48] from by rw [ByteArray.toList_eq, beq_dec] at E3; simpa using E3)
            go_wp2_with fail
            go_ret2
            refine ⟨?_, kb5⟩
            obtain ⟨t2, t3, n1, n2, n3⟩ := HT.out
            have hRX : R = ((bf : ByteArray).data.toList, 0) := by
              rw [← HRB.out, if_neg HGL.out]
              simp [HA.out, HC.out]
            exact congrArg Ending.returned (resV_of hRX).symm
      · have HB := Lib.hid (show bf.data.toList = [] from by rw [ByteArray.toList_eq] at E1; exact List.isEmpty_iff.1 E1)
        have HA := Lib.hid (show ¬ af.data.toList = [] from by rw [ByteArray.toList_eq] at E2; intro h; rw [h] at E2; cases E2)
        cases below
        · go_wp2_with fail
          go_ret2
          refine ⟨?_, kb5⟩
          obtain ⟨t2, t3, n1, n2, n3⟩ := HT.out
          have hRX : R = ((T3 : ByteArray).data.toList, 0) := by
            rw [← HRB.out, if_neg HGL.out]
            simp [HB.out, HA.out, t3]
          exact congrArg Ending.returned (resV_of hRX).symm
        · go_wp2_with fail
          go_ret2
          refine ⟨?_, kb5⟩
          obtain ⟨t2, t3, n1, n2, n3⟩ := HT.out
          have hRX : R = ((N3 : ByteArray).data.toList, 0) := by
            rw [← HRB.out, if_neg HGL.out]
            simp [HB.out, HA.out, n3]
          exact congrArg Ending.returned (resV_of hRX).symm
      · have HB := Lib.hid (show bf.data.toList = [] from by rw [ByteArray.toList_eq] at E1; exact List.isEmpty_iff.1 E1)
        have HA := Lib.hid (show af.data.toList = [] from by rw [ByteArray.toList_eq] at E2; exact List.isEmpty_iff.1 E2)
        cases below
        · go_wp2_with fail
          go_ret2
          refine ⟨?_, kb5⟩
          obtain ⟨t2, t3, n1, n2, n3⟩ := HT.out
          have hRX : R = ((⟨#[48]⟩ : ByteArray).data.toList, 0) := by
            rw [← HRB.out, if_neg HGL.out]
            simp [HB.out, HA.out]
          exact congrArg Ending.returned (resV_of hRX).symm
        · go_wp2_with fail
          go_ret2
          refine ⟨?_, kb5⟩
          obtain ⟨t2, t3, n1, n2, n3⟩ := HT.out
          have hRX : R = ((⟨#[48]⟩ : ByteArray).data.toList, 0) := by
            rw [← HRB.out, if_neg HGL.out]
            simp [HB.out, HA.out]
          exact congrArg Ending.returned (resV_of hRX).symm
end Go.Proofs.YtdfgifnccghlmabGreatDoor

/- Numbers as they are written: the contract of number. -/
import Derived.Test.YtdfgifnccghlmabGreatDoorMNuWayDiv
import Derived.Test.YtdfgifnccghlmabGreatDoorMNuParse
import Derived.Test.YtdfgifnccghlmabGreatDoorMNuCanonW
import Derived.Test.YtdfgifnccghlmabGreatDoorMNuF
import Derived.Laws.Concat
namespace Go.Proofs.YtdfgifnccghlmabGreatDoor
open Go.RowKit Go.Lib

theorem words_dec {x n : Nat} (h : x < 10 ^ n) : (wordsOf x).length ≤ n / 9 + 1 := words_len x _ (by
  rw [show (1000000000 : Nat) = 10 ^ 9 from rfl, ← Nat.pow_mul]
  exact Nat.lt_of_lt_of_le h (Nat.pow_le_pow_right (by omega) (by omega)))
theorem words_pow_len (n : Nat) : (wordsOf (10 ^ n)).length ≤ n / 9 + 2 := by
  have := words_dec (x := 10 ^ n) (n := n + 1) (Nat.pow_lt_pow_right (by omega) (by omega))
  omega
theorem ba_app (a b : ByteArray) : (a ++ b).data.toList = a.data.toList ++ b.data.toList := by rw [ByteArray.data_append, Array.toList_append]
theorem ba_len (a : ByteArray) : a.size = a.data.toList.length := by rw [Array.length_toList]; rfl
theorem beq_dec (l m : List UInt8) : (l == m) = decide (l = m) := by by_cases h : l = m <;> simp [h]
/-- The number of parts, with the zeros that are filled up. -/
theorem number_val (bf af : List UInt8) (c : Nat) :
    valD (bf ++ af ++ List.replicate c 48) 0 = valD (bf ++ af) 0 * 10 ^ c := by rw [valD_app, valD_zeros]
set_option maxRecDepth 100000 in
set_option maxHeartbeats 8000000 in
theorem number_any (sg bf af : ByteArray) (pt : Bool) (hd : Dgs (bf.data.toList ++ af.data.toList)) (hs1 : bf.size ≤ 1000) (hs2 : af.size ≤ 1000) (w : World) :
    Calls Tryz.prog 43 #[.agg #[.string sg, .string bf, .string af, .bool pt]] w fun e w' => ∃ x, e = .returned x ∧ NumAt w' x (numL ⟨sg.data.toList, bf.data.toList, af.data.toList, pt⟩).1 (numL ⟨sg.data.toList, bf.data.toList, af.data.toList, pt⟩).2 ∧ Below w.heap.size w w' := by
  obtain ⟨c, hcc⟩ : ∃ c, 20 - af.size = c := ⟨_, rfl⟩
  have hmx : max (20 - (af.size : Int)) 0 = (c : Int) := by omega
  have hc9 : c ≤ 20 := by omega
  obtain ⟨Z, hZ⟩ : ∃ Z : ByteArray, (⟨(Lib.repeatL [48] c).toArray⟩ : ByteArray) = Z := ⟨_, rfl⟩
  have hZl : Z.data.toList = List.replicate c 48 := by rw [← hZ]; exact repeat_zeros c
  have hZs : Z.size = c := by rw [ba_len, hZl, List.length_replicate]
  obtain ⟨KK, hKK⟩ : ∃ KK : ByteArray, bf ++ af = KK := ⟨_, rfl⟩
  obtain ⟨J, hJ⟩ : ∃ J : ByteArray, KK ++ Z = J := ⟨_, rfl⟩
  have hadd1 : ∀ W, (Op.stringOp .add bf af).run Tryz.prog W = .ok (.string KK) W := fun W => by rw [← hKK]; exact run_string_add_sum W _ _ (by omega)
  have hadd2 : ∀ W, (Op.stringOp .add KK Z).run Tryz.prog W = .ok (.string J) W := fun W => by
    rw [← hJ]
    refine run_string_add_sum W _ _ ?_
    have : KK.size = bf.size + af.size := by rw [← hKK, ba_len, ba_app, List.length_append, ← ba_len, ← ba_len]
    omega
  have hJl : J.data.toList = bf.data.toList ++ af.data.toList ++ List.replicate c 48 := by
    rw [← hJ, ba_app, ← hKK, ba_app, hZl]
  have hJs : J.size = bf.size + af.size + c := by rw [ba_len, hJl, List.length_append, List.length_append, List.length_replicate, ← ba_len, ← ba_len]
  have hJd : Dgs J.data.toList := by rw [hJl]; exact Dgs.app hd (Dgs.zeros _)
  have cP := fun W => parseDigits_any J hJd (by omega) W
  have hDl := valD_lt _ hJd
  rw [← ba_len] at hDl
  have hDw := words_dec hDl
  obtain ⟨D, hD⟩ : ∃ D, valD J.data.toList 0 = D := ⟨_, rfl⟩
  rw [hD] at cP hDl hDw
  have hDv : D = valD (bf.data.toList ++ af.data.toList) 0 * 10 ^ c := by rw [← hD, hJl, number_val _ _ c]
  obtain ⟨bl, hbl⟩ : ∃ bl, (sg.toList == [45]) = bl := ⟨_, rfl⟩
  have hbl2 : decide (sg.data.toList = [45]) = bl := by rw [← hbl, ByteArray.toList_eq, beq_dec]
  have hD9 : (wordsOf D).length < 1000 := by omega
  have HDV := Lib.hid hDv
  have HBL := Lib.hid hbl2
  have HCC := Lib.hid hcc
  have hb2 : Below w.heap.size w ((w.alloc (.cells #[.string sg, .string bf, .string af, .bool pt] 64)).alloc (.cells #[.bool false, .slice none 0 0] 70)) := ((Below.refl _ w).alloc (Nat.le_refl _) _).alloc (by simp) _
  obtain ⟨W2, hW2⟩ : ∃ W2, (w.alloc (.cells #[.string sg, .string bf, .string af, .bool pt] 64)).alloc (.cells #[.bool false, .slice none 0 0] 70) = W2 := ⟨_, rfl⟩
  have hz2 : W2.heap.size = w.heap.size + 2 := by rw [← hW2]; simp
  have y0 : W2.cell? ⟨w.heap.size, 0, none⟩ = some (.string sg) := by rw [← hW2]; simp [go_sem, World.cell?_alloc_past]
  have y1 : W2.cell? ⟨w.heap.size, 1, none⟩ = some (.string bf) := by rw [← hW2]; simp [go_sem, World.cell?_alloc_past]
  have y2 : W2.cell? ⟨w.heap.size, 2, none⟩ = some (.string af) := by rw [← hW2]; simp [go_sem, World.cell?_alloc_past]
  have z0 : W2.cell? ⟨w.heap.size + 1, 0, none⟩ = some (.bool false) := by rw [← hW2]; simp [go_sem]
  have z1 : W2.cell? ⟨w.heap.size + 1, 1, none⟩ = some (.slice none 0 0) := by rw [← hW2]; simp [go_sem]
  have z2 : W2.frozen? ⟨w.heap.size + 1, 0, none⟩ = false := by rw [← hW2]; simp [go_sem]
  have z3 : W2.frozen? ⟨w.heap.size + 1, 1, none⟩ = false := by rw [← hW2]; simp [go_sem]
  have s0 : w.heap.size < W2.heap.size := by omega
  have s1 : w.heap.size + 1 < W2.heap.size := by omega
  rw [hW2] at hb2
  have cR := Tryz.strings_Repeat ⟨#[48]⟩ c W2 (by omega) (by show 1 * c ≤ _; omega)
  rw [show (⟨#[48]⟩ : ByteArray).data.toList = [48] from rfl] at cR
  rw [hZ] at cR
  clear hD hDv hbl2 hcc hJl hJs hJd hDl hDw hz2 hd hJ hKK hZ hZl hZs
  go_enter Tryz.func43, Tryz.ntmps43
  go_wp2_with fail
  try rw [hW2]
  clear hW2
  refine cR.mono ?_
  rintro e w3 ⟨rfl, hb3⟩
  have y0 := (hb3.cell (p := ⟨w.heap.size, 0, none⟩) s0).trans y0
  have y1 := (hb3.cell (p := ⟨w.heap.size, 1, none⟩) s0).trans y1
  have y2 := (hb3.cell (p := ⟨w.heap.size, 2, none⟩) s0).trans y2
  have z0 := (hb3.cell (p := ⟨w.heap.size + 1, 0, none⟩) s1).trans z0
  have z1 := (hb3.cell (p := ⟨w.heap.size + 1, 1, none⟩) s1).trans z1
  have z2 := (hb3.frozen (p := ⟨w.heap.size + 1, 0, none⟩) s1).trans z2
  have z3 := (hb3.frozen (p := ⟨w.heap.size + 1, 1, none⟩) s1).trans z3
  have s0 := Nat.lt_of_lt_of_le s0 hb3.size
  have s1 := Nat.lt_of_lt_of_le s1 hb3.size
  have hb3 : Below w.heap.size w w3 := hb2.trans (hb3.mono hb2.size)
  clear hb2 cR
  go_wp2_with fail
  go_region_held3 (fun w' => w'.cell? ⟨w.heap.size, 0, none⟩ = some (.string sg) ∧ w'.cell? ⟨w.heap.size, 1, none⟩ = some (.string bf) ∧ w'.cell? ⟨w.heap.size, 2, none⟩ = some (.string af)) (first | exact ⟨k0, k1, k2⟩ | exact ⟨y0, y1, y2⟩) (first | (go_at_call 75; refine (cP _).mono ?_; rintro e w4 ⟨x, rfl, hx, hb4⟩; have hb4 : Below w3.heap.size w3 w4 := (by first | exact hb4 | exact (Below.refl _ w3).drew.trans hb4); obtain ⟨xp, xc, rfl⟩ := hx.shape; have k0 := (hb4.cell (p := ⟨w.heap.size, 0, none⟩) s0).trans y0; have k1 := (hb4.cell (p := ⟨w.heap.size, 1, none⟩) s0).trans y1; have k2 := (hb4.cell (p := ⟨w.heap.size, 2, none⟩) s0).trans y2))
  have v0 := (hb4.cell (p := ⟨w.heap.size + 1, 0, none⟩) s1).trans z0
  have v1 := (hb4.cell (p := ⟨w.heap.size + 1, 1, none⟩) s1).trans z1
  have v2 := (hb4.frozen (p := ⟨w.heap.size + 1, 0, none⟩) s1).trans z2
  have v3 := (hb4.frozen (p := ⟨w.heap.size + 1, 1, none⟩) s1).trans z3
  have t1 := Nat.lt_of_lt_of_le s1 hb4.size
  have hb4w : Below w.heap.size w w4 := hb3.trans (hb4.mono hb3.size)
  clear y0 y1 y2 z0 z1 z2 z3 hadd1 hadd2 cP k0 k1
  by_cases hm : 20 < af.size
  · obtain ⟨m, hmz, hm0⟩ : ∃ m : Nat, (af.size : Int) - 20 = (m : Int) ∧ m = af.size - 20 := ⟨af.size - 20, by omega, rfl⟩
    have hmp : (0 : Int) < (m : Int) := by omega
    have hm9 : m ≤ 1000 := by omega
    have hw10 := words_pow_len m
    have cW := power_any m (by omega) w4
    have HM := Lib.hid hm0
    have HX := Lib.hid hx
    clear hm0 hx
    go_wp2_with fail
    refine cW.mono ?_
    rintro e w5 ⟨y, rfl, hy, hb5⟩
    have cQ := ratio_any bl _ y D (10 ^ m) (Nat.ne_of_gt (Nat.pow_pos (by omega))) (by omega) (by omega) w5 (HX.out.later hb5) hy
    go_wp2_with fail
    refine cQ.mono ?_
    rintro e w6 ⟨q, rfl, ⟨qp, qc, rfl, hq⟩, hb6⟩
    have hb46 : Below w4.heap.size w4 w6 := hb5.trans (hb6.mono hb5.size)
    have v0 := (hb46.cell (p := ⟨w.heap.size + 1, 0, none⟩) t1).trans v0
    have v1 := (hb46.cell (p := ⟨w.heap.size + 1, 1, none⟩) t1).trans v1
    have v2 := (hb46.frozen (p := ⟨w.heap.size + 1, 0, none⟩) t1).trans v2
    have v3 := (hb46.frozen (p := ⟨w.heap.size + 1, 1, none⟩) t1).trans v3
    obtain ⟨W5, hW5, r0, r1, hb7, hx5⟩ := num_store (below := bl) hb4w hb46 (show w.heap.size ≤ w.heap.size + 1 by omega) hq v0 v1
    unfold numV
    clear hy hq
    go_wp2_with fail
    try rw [hW5]
    refine bodyPost_ret (v := numV bl qp (wordsOf (divW evenW bl D (10 ^ m))).length qc) (by simp [results, Tryz.results43, go_sem, numV, r0, r1]) rfl ⟨_, rfl, ?_, hb7⟩
    have hn : numL ⟨sg.data.toList, bf.data.toList, af.data.toList, pt⟩ = (bl, divW evenW bl D (10 ^ m)) := by
      have hal : af.data.toList.length = af.size := (ba_len af).symm
      unfold numL
      simp only [hal]
      rw [HBL.out, if_pos hm, HDV.out, ← HCC.out, show 20 - af.size = 0 by omega, Nat.pow_zero, Nat.mul_one, HM.out]
    rw [hn]
    exact ⟨_, _, rfl, hx5⟩
  · have hmz : ¬ (0 : Int) < (af.size : Int) - 20 := by omega
    obtain ⟨W5, hW5, r0, r1, hb7, hx5⟩ := num_store (below := bl) hb3 hb4 (show w.heap.size ≤ w.heap.size + 1 by omega) hx v0 v1
    clear hx
    go_wp2_with fail
    try rw [hW5]
    refine bodyPost_ret (v := numV bl xp (wordsOf D).length xc) (by simp [results, Tryz.results43, go_sem, numV, r0, r1]) rfl ⟨_, rfl, ?_, hb7⟩
    have hn : numL ⟨sg.data.toList, bf.data.toList, af.data.toList, pt⟩ = (bl, D) := by
      have hal : af.data.toList.length = af.size := (ba_len af).symm
      unfold numL
      simp only [hal]
      rw [HBL.out, if_neg hm, HDV.out, ← HCC.out]
    rw [hn]
    exact ⟨_, _, rfl, hx5⟩
end Go.Proofs.YtdfgifnccghlmabGreatDoor

/- Numbers as they are written: the contract of number. Numbers: the contract of text. -/
import Derived.Test.YtgmnjghbafbopaaGreatDoorMNuWayDiv
import Derived.Test.YtgmnjghbafbopaaGreatDoorMNuParse
import Derived.Test.YtgmnjghbafbopaaGreatDoorMNuCanonW
import Derived.Test.YtgmnjghbafbopaaGreatDoorMNuF
import Derived.Laws.Concat
namespace Go.Proofs.YtgmnjghbafbopaaGreatDoor
open Go.RowKit Go.Lib

theorem words_dec {x n : Nat} (h : x < 10 ^ n) : (wordsOf x).length ≤ n / 9 + 1 := words_len x _ (by
  rw [show (1000000000 : Nat) = 10 ^ 9 from rfl, ← Nat.pow_mul]
  exact Nat.lt_of_lt_of_le h (Nat.pow_le_pow_right (by omega) (by omega)))
theorem words_pow_len (n : Nat) : (wordsOf (10 ^ n)).length ≤ n / 9 + 2 := by
  have := words_dec (x := 10 ^ n) (n := n + 1) (Nat.pow_lt_pow_right (by omega) (by omega))
  omega
theorem ba_app (a b : ByteArray) : (a ++ b).data.toList = a.data.toList ++ b.data.toList := by rw [ByteArray.data_append, Array.toList_append]
theorem ba_len (a : ByteArray) : a.size = a.data.toList.length := by rw [Array.length_toList]; rfl
theorem beq_dec (l m : List UInt8) : (l == m) = decide (l = m) := by by_cases h : l = m <;> simp [h]
/-- The number of parts, with the zeros that are filled up. -/
theorem number_val (bf af : List UInt8) (c : Nat) :
    valD (bf ++ af ++ List.replicate c 48) 0 = valD (bf ++ af) 0 * 10 ^ c := by rw [valD_app, valD_zeros]
set_option maxRecDepth 100000 in
set_option maxHeartbeats 8000000 in
theorem number_any (sg bf af : ByteArray) (pt : Bool) (hd : Dgs (bf.data.toList ++ af.data.toList)) (hs1 : bf.size ≤ 1000) (hs2 : af.size ≤ 1000) (w : World) :
    Calls Tryz.prog 76 #[.agg #[.string sg, .string bf, .string af, .bool pt]] w fun e w' => ∃ x, e = .returned x ∧ NumAt w' x (numL ⟨sg.data.toList, bf.data.toList, af.data.toList, pt⟩).1 (numL ⟨sg.data.toList, bf.data.toList, af.data.toList, pt⟩).2 ∧ Below w.heap.size w w' := by
  obtain ⟨c, hcc⟩ : ∃ c, 20 - af.size = c := ⟨_, rfl⟩
  have hmx : max (20 - (af.size : Int)) 0 = (c : Int) := by omega
  have hc9 : c ≤ 20 := by omega
  obtain ⟨Z, hZ⟩ : ∃ Z : ByteArray, (⟨(Lib.repeatL [48] c).toArray⟩ : ByteArray) = Z := ⟨_, rfl⟩
  have hZl : Z.data.toList = List.replicate c 48 := by rw [← hZ]; exact repeat_zeros c
  have hZs : Z.size = c := by rw [ba_len, hZl, List.length_replicate]
  obtain ⟨KK, hKK⟩ : ∃ KK : ByteArray, bf ++ af = KK := ⟨_, rfl⟩
  obtain ⟨J, hJ⟩ : ∃ J : ByteArray, KK ++ Z = J := ⟨_, rfl⟩
  have hadd1 : ∀ W, (Op.stringOp .add bf af).run Tryz.prog W = .ok (.string KK) W := fun W => by rw [← hKK]; exact run_string_add_sum W _ _ (by omega)
  have hadd2 : ∀ W, (Op.stringOp .add KK Z).run Tryz.prog W = .ok (.string J) W := fun W => by
    rw [← hJ]
    refine run_string_add_sum W _ _ ?_
    have : KK.size = bf.size + af.size := by rw [← hKK, ba_len, ba_app, List.length_append, ← ba_len, ← ba_len]
    omega
  have hJl : J.data.toList = bf.data.toList ++ af.data.toList ++ List.replicate c 48 := by
    rw [← hJ, ba_app, ← hKK, ba_app, hZl]
  have hJs : J.size = bf.size + af.size + c := by rw [ba_len, hJl, List.length_append, List.length_append, List.length_replicate, ← ba_len, ← ba_len]
  have hJd : Dgs J.data.toList := by rw [hJl]; exact Dgs.app hd (Dgs.zeros _)
  have cP := fun W => parseDigits_any J hJd (by omega) W
  have hDl := valD_lt _ hJd
  rw [← ba_len] at hDl
  have hDw := words_dec hDl
  obtain ⟨D, hD⟩ : ∃ D, valD J.data.toList 0 = D := ⟨_, rfl⟩
  rw [hD] at cP hDl hDw
  have hDv : D = valD (bf.data.toList ++ af.data.toList) 0 * 10 ^ c := by rw [← hD, hJl, number_val _ _ c]
  obtain ⟨bl, hbl⟩ : ∃ bl, (sg.toList == [45]) = bl := ⟨_, rfl⟩
  have hbl2 : decide (sg.data.toList = [45]) = bl := by rw [← hbl, ByteArray.toList_eq, beq_dec]
  have hD9 : (wordsOf D).length < 1000 := by omega
  have HDV := Lib.hid hDv
  have HBL := Lib.hid hbl2
  have HCC := Lib.hid hcc
  have hb2 : Below w.heap.size w ((w.alloc (.cells #[.string sg, .string bf, .string af, .bool pt] 94)).alloc (.cells #[.bool false, .slice none 0 0] 88)) := ((Below.refl _ w).alloc (Nat.le_refl _) _).alloc (by simp) _
  obtain ⟨W2, hW2⟩ : ∃ W2, (w.alloc (.cells #[.string sg, .string bf, .string af, .bool pt] 94)).alloc (.cells #[.bool false, .slice none 0 0] 88) = W2 := ⟨_, rfl⟩
  have hz2 : W2.heap.size = w.heap.size + 2 := by rw [← hW2]; simp
  have y0 : W2.cell? ⟨w.heap.size, 0, none⟩ = some (.string sg) := by rw [← hW2]; simp [go_sem, World.cell?_alloc_past]
  have y1 : W2.cell? ⟨w.heap.size, 1, none⟩ = some (.string bf) := by rw [← hW2]; simp [go_sem, World.cell?_alloc_past]
  have y2 : W2.cell? ⟨w.heap.size, 2, none⟩ = some (.string af) := by rw [← hW2]; simp [go_sem, World.cell?_alloc_past]
  have z0 : W2.cell? ⟨w.heap.size + 1, 0, none⟩ = some (.bool false) := by rw [← hW2]; simp [go_sem]
  have z1 : W2.cell? ⟨w.heap.size + 1, 1, none⟩ = some (.slice none 0 0) := by rw [← hW2]; simp [go_sem]
  have z2 : W2.frozen? ⟨w.heap.size + 1, 0, none⟩ = false := by rw [← hW2]; simp [go_sem]
  have z3 : W2.frozen? ⟨w.heap.size + 1, 1, none⟩ = false := by rw [← hW2]; simp [go_sem]
  have s0 : w.heap.size < W2.heap.size := by omega
  have s1 : w.heap.size + 1 < W2.heap.size := by omega
  rw [hW2] at hb2
  have cR := Tryz.strings_Repeat ⟨#[48]⟩ c W2 (by omega) (by show 1 * c ≤ _; omega)
  rw [show (⟨#[48]⟩ : ByteArray).data.toList = [48] from rfl] at cR
  rw [hZ] at cR
  clear hD hDv hbl2 hcc hJl hJs hJd hDl hDw hz2 hd hJ hKK hZ hZl hZs
  go_enter Tryz.func76, Tryz.ntmps76
  go_wp2_with fail
  try rw [hW2]
  clear hW2
  refine cR.mono ?_
  rintro e w3 ⟨rfl, hb3⟩
  have y0 := (hb3.cell (p := ⟨w.heap.size, 0, none⟩) s0).trans y0
  have y1 := (hb3.cell (p := ⟨w.heap.size, 1, none⟩) s0).trans y1
  have y2 := (hb3.cell (p := ⟨w.heap.size, 2, none⟩) s0).trans y2
  have z0 := (hb3.cell (p := ⟨w.heap.size + 1, 0, none⟩) s1).trans z0
  have z1 := (hb3.cell (p := ⟨w.heap.size + 1, 1, none⟩) s1).trans z1
  have z2 := (hb3.frozen (p := ⟨w.heap.size + 1, 0, none⟩) s1).trans z2
  have z3 := (hb3.frozen (p := ⟨w.heap.size + 1, 1, none⟩) s1).trans z3
  have s0 := Nat.lt_of_lt_of_le s0 hb3.size
  have s1 := Nat.lt_of_lt_of_le s1 hb3.size
  have hb3 : Below w.heap.size w w3 := hb2.trans (hb3.mono hb2.size)
  clear hb2 cR
  go_wp2_with fail
  go_region_held3 (fun w' => w'.cell? ⟨w.heap.size, 0, none⟩ = some (.string sg) ∧ w'.cell? ⟨w.heap.size, 1, none⟩ = some (.string bf) ∧ w'.cell? ⟨w.heap.size, 2, none⟩ = some (.string af)) (first | exact ⟨k0, k1, k2⟩ | exact ⟨y0, y1, y2⟩) (first | (go_at_call 126; refine (cP _).mono ?_; rintro e w4 ⟨x, rfl, hx, hb4⟩; have hb4 : Below w3.heap.size w3 w4 := (by first | exact hb4 | exact (Below.refl _ w3).drew.trans hb4); obtain ⟨xp, xc, rfl⟩ := hx.shape; have k0 := (hb4.cell (p := ⟨w.heap.size, 0, none⟩) s0).trans y0; have k1 := (hb4.cell (p := ⟨w.heap.size, 1, none⟩) s0).trans y1; have k2 := (hb4.cell (p := ⟨w.heap.size, 2, none⟩) s0).trans y2))
  have v0 := (hb4.cell (p := ⟨w.heap.size + 1, 0, none⟩) s1).trans z0
  have v1 := (hb4.cell (p := ⟨w.heap.size + 1, 1, none⟩) s1).trans z1
  have v2 := (hb4.frozen (p := ⟨w.heap.size + 1, 0, none⟩) s1).trans z2
  have v3 := (hb4.frozen (p := ⟨w.heap.size + 1, 1, none⟩) s1).trans z3
  have t1 := Nat.lt_of_lt_of_le s1 hb4.size
  have hb4w : Below w.heap.size w w4 := hb3.trans (hb4.mono hb3.size)
  clear y0 y1 y2 z0 z1 z2 z3 hadd1 hadd2 cP k0 k1
  by_cases hm : 20 < af.size
  · obtain ⟨m, hmz, hm0⟩ : ∃ m : Nat, (af.size : Int) - 20 = (m : Int) ∧ m = af.size - 20 := ⟨af.size - 20, by omega, rfl⟩
    have hmp : (0 : Int) < (m : Int) := by omega
    have hm9 : m ≤ 1000 := by omega
    have hw10 := words_pow_len m
    have cW := power_any m (by omega) w4
    have HM := Lib.hid hm0
    have HX := Lib.hid hx
    clear hm0 hx
    go_wp2_with fail
    refine cW.mono ?_
    rintro e w5 ⟨y, rfl, hy, hb5⟩
    have cQ := ratio_any bl _ y D (10 ^ m) (Nat.ne_of_gt (Nat.pow_pos (by omega))) (by omega) (by omega) w5 (HX.out.later hb5) hy
    go_wp2_with fail
    refine cQ.mono ?_
    rintro e w6 ⟨q, rfl, ⟨qp, qc, rfl, hq⟩, hb6⟩
    have hb46 : Below w4.heap.size w4 w6 := hb5.trans (hb6.mono hb5.size)
    have v0 := (hb46.cell (p := ⟨w.heap.size + 1, 0, none⟩) t1).trans v0
    have v1 := (hb46.cell (p := ⟨w.heap.size + 1, 1, none⟩) t1).trans v1
    have v2 := (hb46.frozen (p := ⟨w.heap.size + 1, 0, none⟩) t1).trans v2
    have v3 := (hb46.frozen (p := ⟨w.heap.size + 1, 1, none⟩) t1).trans v3
    obtain ⟨W5, hW5, r0, r1, hb7, hx5⟩ := num_store (below := bl) hb4w hb46 (show w.heap.size ≤ w.heap.size + 1 by omega) hq v0 v1
    unfold numV
    clear hy hq
    go_wp2_with fail
    try rw [hW5]
    refine bodyPost_ret (v := numV bl qp (wordsOf (divW evenW bl D (10 ^ m))).length qc) (by simp [results, Tryz.results76, go_sem, numV, r0, r1]) rfl ⟨_, rfl, ?_, hb7⟩
    have hn : numL ⟨sg.data.toList, bf.data.toList, af.data.toList, pt⟩ = (bl, divW evenW bl D (10 ^ m)) := by
      have hal : af.data.toList.length = af.size := (ba_len af).symm
      unfold numL
      simp only [hal]
      rw [HBL.out, if_pos hm, HDV.out, ← HCC.out, show 20 - af.size = 0 by omega, Nat.pow_zero, Nat.mul_one, HM.out]
    rw [hn]
    exact ⟨_, _, rfl, hx5⟩
  · have hmz : ¬ (0 : Int) < (af.size : Int) - 20 := by omega
    obtain ⟨W5, hW5, r0, r1, hb7, hx5⟩ := num_store (below := bl) hb3 hb4 (show w.heap.size ≤ w.heap.size + 1 by omega) hx v0 v1
    clear hx
    go_wp2_with fail
    try rw [hW5]
    refine bodyPost_ret (v := numV bl xp (wordsOf D).length xc) (by simp [results, Tryz.results76, go_sem, numV, r0, r1]) rfl ⟨_, rfl, ?_, hb7⟩
    have hn : numL ⟨sg.data.toList, bf.data.toList, af.data.toList, pt⟩ = (bl, D) := by
      have hal : af.data.toList.length = af.size := (ba_len af).symm
      unfold numL
      simp only [hal]
      rw [HBL.out, if_neg hm, HDV.out, ← HCC.out]
    rw [hn]
    exact ⟨_, _, rfl, hx5⟩
end Go.Proofs.YtgmnjghbafbopaaGreatDoor
namespace Go.Proofs.YtgmnjghbafbopaaGreatDoor
open Go.RowKit Go.Lib

/-- What is given back: a text and an error. -/
def resV (r : List UInt8 × Int) : Value := .tuple #[.string ⟨r.1.toArray⟩, .int .i64 r.2]
theorem ba_eq (a : ByteArray) (l : List UInt8) (h : a.data.toList = l) : a = ⟨l.toArray⟩ := by
  rw [← h]
/-- The digits of a number behind twenty zeros, parted. -/
theorem text_parts (k n : Nat) (h : n < 10 ^ (9 * k)) :
    ((List.replicate 20 48 ++ fixed (9 * k) n).take (9 * k)) = fixed (9 * k) (n / 10 ^ 20) ∧ ((List.replicate 20 48 ++ fixed (9 * k) n).drop (9 * k)) = fixed 20 n := by
  have e1 : List.replicate 20 48 ++ fixed (9 * k) n = fixed (9 * k) (n / 10 ^ 20) ++ fixed 20 n := by
    rw [← fixed_add, Nat.add_comm, fixed_add, Nat.div_eq_of_lt h, fixed_zero]
  rw [e1]
  exact ⟨List.take_left' (fixed_len _ _), List.drop_left' (fixed_len _ _)⟩
theorem resV_of {R : List UInt8 × Int} {X : ByteArray} {z : Int} (h : R = (X.data.toList, z)) : resV R = .tuple #[.string X, .int .i64 z] := by
  rw [h]; rfl
theorem resR_body (below : Bool) (n : Nat) (B A : List UInt8) (hB : dec (n / 10 ^ 20) = B) (hA : trimE (fixed 20 n) = A) :
    resR below n = if 30 < B.length then ([], 40) else ((if below = true ∧ (if B = [] then [48] else B) ++ (if A = [] then [] else 46 :: A) ≠ [48] then [45] else []) ++ ((if B = [] then [48] else B) ++ (if A = [] then [] else 46 :: A)), 0) := by
  unfold resR textL bodyL
  rw [hB, hA]
  split
  · rename_i h
    split at h
    · cases h
    · rename_i h2
      cases h
      rw [if_neg h2]
  · rename_i h
    split at h
    · rename_i h2
      rw [if_pos h2]
    · cases h
set_option maxRecDepth 100000 in
set_option maxHeartbeats 16000000 in
theorem text_any (below : Bool) (v : Value) (n : Nat) (hn9 : (wordsOf n).length ≤ 10000) (w : World) (hg : GrN w) (hN : NumAt w v below n) :
    Calls Tryz.prog 77 #[v] w fun e w' => e = .returned (resV (resR below n)) ∧ Below w.heap.size w w' := by
  obtain ⟨p, c, rfl, hN⟩ := hN
  obtain ⟨k, hk⟩ : ∃ k, (wordsOf n).length = k := ⟨_, rfl⟩
  have hlt : n < 10 ^ (9 * k) := by
    have := words_lt n
    rw [hk, show (1000000000 : Nat) = 10 ^ 9 from rfl, ← Nat.pow_mul] at this
    exact this
  obtain ⟨tp1, tp2⟩ := text_parts k n hlt
  obtain ⟨bf, hbf⟩ : ∃ bf : ByteArray, bf = ⟨(trim0 (fixed (9 * k) (n / 10 ^ 20))).toArray⟩ := ⟨_, rfl⟩
  obtain ⟨af, haf⟩ : ∃ af : ByteArray, af = ⟨(trimE (fixed 20 n)).toArray⟩ := ⟨_, rfl⟩
  have hbd : dec (n / 10 ^ 20) = bf.data.toList := by rw [hbf, trim_fixed _ _ (Nat.lt_of_le_of_lt (Nat.div_le_self _ _) hlt)]
  have had : trimE (fixed 20 n) = af.data.toList := by rw [haf]
  rw [resR_body below n _ _ hbd had]
  have hb1 : Below w.heap.size w (w.alloc (.cells #[.bool below, .slice p k c] 88)) := (Below.refl _ w).alloc (Nat.le_refl _) _
  have cR := fun W => Tryz.strings_Repeat ⟨#[48]⟩ 20 W (by omega) (by decide)
  rw [show (Lib.repeatL (⟨#[48]⟩ : ByteArray).data.toList 20) = List.replicate 20 48 from repeat_zeros 20] at cR
  rw [hk] at hN ⊢
  have cD := fun W (hW : Below w.heap.size w W) => digits_any (.slice p k c) n (by omega) W (hg.later hW) (hN.later hW)
  rw [hk] at cD
  obtain ⟨S, hS⟩ : ∃ S : ByteArray, (⟨(List.replicate 20 48).toArray⟩ ++ ⟨(fixed (9 * k) n).toArray⟩ : ByteArray) = S := ⟨_, rfl⟩
  have hSl : S.data.toList = List.replicate 20 48 ++ fixed (9 * k) n := by rw [← hS, ba_app]
  have hSs : S.size = 20 + 9 * k := by rw [ba_len, hSl, List.length_append, List.length_replicate, fixed_len]
  have e1 : (S.extract 0 (9 * k)).data.toList = fixed (9 * k) (n / 10 ^ 20) := by
    rw [Lib.extract_data, List.drop_zero, Nat.sub_zero, hSl, tp1]
  have e2 : (S.extract (9 * k) S.size).data.toList = fixed 20 n := by
    rw [Lib.extract_to_end, hSl, tp2]
  have cL := fun W => Tryz.strings_TrimLeft_one (S.extract 0 (9 * k)) 48 (by decide) W
  have cT := fun W => Tryz.strings_TrimRight_one (S.extract (9 * k) S.size) 48 (by decide) W (by rw [ByteArray.size_extract]; omega)
  rw [e1, show Lib.trimLeftB (fixed (9 * k) (n / 10 ^ 20)) 48 = trim0 (fixed (9 * k) (n / 10 ^ 20)) from rfl, ← hbf] at cL
  rw [e2, show Lib.trimRightB (fixed 20 n) 48 = trimE (fixed 20 n) from rfl, ← haf] at cT
  obtain ⟨pt, hpt⟩ : ∃ pt, 9 * k = pt := ⟨_, rfl⟩
  rw [hpt] at cL cT
  have hSz : (S.size : Int) - 20 = (pt : Int) := by omega
  have hp0 : (0 : Int) ≤ (pt : Int) := by omega
  have hp9 : (pt : Int) ≤ 1000000 := by omega
  have hpS : (pt : Int) ≤ (S.size : Int) := by omega
  have hpS2 : pt ≤ S.size := by omega
  have y0 : (w.alloc (.cells #[.bool below, .slice p k c] 88)).cell? ⟨w.heap.size, 0, none⟩ = some (.bool below) := by simp [go_sem]
  have y1 : (w.alloc (.cells #[.bool below, .slice p k c] 88)).cell? ⟨w.heap.size, 1, none⟩ = some (.slice p k c) := by simp [go_sem]
  have s0 : w.heap.size < (w.alloc (.cells #[.bool below, .slice p k c] 88)).heap.size := by simp
  obtain ⟨W1, hW1⟩ : ∃ W1, w.alloc (.cells #[.bool below, .slice p k c] 88) = W1 := ⟨_, rfl⟩
  rw [hW1] at hb1 y0 y1 s0
  have HBD := Lib.hid (And.intro hbf haf)
  have cR1 : ∀ W, Below w.heap.size w W → Calls Tryz.prog 125 #[.string ⟨#[48]⟩, .int .i64 20] W fun e w' => e = .returned (.string ⟨(List.replicate 20 48).toArray⟩) ∧ Below W.heap.size W w' := fun W _ => cR W
  obtain ⟨Z, hZ⟩ : ∃ Z : ByteArray, (⟨(List.replicate 20 48).toArray⟩ : ByteArray) = Z := ⟨_, rfl⟩
  obtain ⟨F, hF⟩ : ∃ F : ByteArray, (⟨(fixed (9 * k) n).toArray⟩ : ByteArray) = F := ⟨_, rfl⟩
  rw [hZ] at cR1 hS
  rw [hpt] at hF
  rw [hpt, hF] at cD
  rw [hpt, hF] at hS
  obtain ⟨R, hR⟩ : ∃ R, (if 30 < bf.data.toList.length then (([] : List UInt8), (40 : Int)) else ((if below = true ∧ (if bf.data.toList = [] then [48] else bf.data.toList) ++ (if af.data.toList = [] then [] else 46 :: af.data.toList) ≠ [48] then [45] else []) ++ ((if bf.data.toList = [] then [48] else bf.data.toList) ++ (if af.data.toList = [] then [] else 46 :: af.data.toList)), 0)) = R := ⟨_, rfl⟩
  rw [hR]
  have HRB := Lib.hid hR
  have hbs9 : bf.size ≤ 9 * k := by
    rw [ba_len, ← hbd]
    have := (dec_len (n / 10 ^ 20) (9 * k)).2 (Nat.lt_of_le_of_lt (Nat.div_le_self _ _) hlt)
    exact this
  have has9 : af.size ≤ 20 := by
    rw [ba_len, ← had]
    obtain ⟨q, hq⟩ := trimE_split (fixed 20 n)
    have := congrArg List.length hq
    rw [fixed_len, List.length_append] at this
    omega
  obtain ⟨T1, hT1⟩ : ∃ T : ByteArray, (⟨#[46]⟩ ++ af : ByteArray) = T := ⟨_, rfl⟩
  obtain ⟨T2, hT2⟩ : ∃ T : ByteArray, bf ++ T1 = T := ⟨_, rfl⟩
  obtain ⟨T3, hT3⟩ : ∃ T : ByteArray, (⟨#[48]⟩ ++ T1 : ByteArray) = T := ⟨_, rfl⟩
  obtain ⟨N1, hN1⟩ : ∃ T : ByteArray, (⟨#[45]⟩ ++ bf : ByteArray) = T := ⟨_, rfl⟩
  obtain ⟨N2, hN2⟩ : ∃ T : ByteArray, (⟨#[45]⟩ ++ T2 : ByteArray) = T := ⟨_, rfl⟩
  obtain ⟨N3, hN3⟩ : ∃ T : ByteArray, (⟨#[45]⟩ ++ T3 : ByteArray) = T := ⟨_, rfl⟩
  have l46 : (⟨#[46]⟩ : ByteArray).data.toList = [46] := rfl
  have l48 : (⟨#[48]⟩ : ByteArray).data.toList = [48] := rfl
  have l45 : (⟨#[45]⟩ : ByteArray).data.toList = [45] := rfl
  have t1 : T1.data.toList = 46 :: af.data.toList := by rw [← hT1, ba_app, l46]; rfl
  have t2 : T2.data.toList = bf.data.toList ++ 46 :: af.data.toList := by rw [← hT2, ba_app, t1]
  have t3 : T3.data.toList = 48 :: 46 :: af.data.toList := by rw [← hT3, ba_app, l48, t1]; rfl
  have n1 : N1.data.toList = 45 :: bf.data.toList := by rw [← hN1, ba_app, l45]; rfl
  have n2 : N2.data.toList = 45 :: (bf.data.toList ++ 46 :: af.data.toList) := by rw [← hN2, ba_app, l45, t2]; rfl
  have n3 : N3.data.toList = 45 :: 48 :: 46 :: af.data.toList := by rw [← hN3, ba_app, l45, t3]; rfl
  have z1 : T1.size ≤ 21 := by rw [ba_len, t1, List.length_cons, ← ba_len]; omega
  have z2 : T2.size ≤ 9 * k + 21 := by rw [ba_len, t2, List.length_append, List.length_cons, ← ba_len, ← ba_len]; omega
  have z3 : T3.size ≤ 22 := by rw [ba_len, t3, List.length_cons, List.length_cons, ← ba_len]; omega
  have s46 : (⟨#[46]⟩ : ByteArray).size = 1 := rfl
  have s48 : (⟨#[48]⟩ : ByteArray).size = 1 := rfl
  have s45 : (⟨#[45]⟩ : ByteArray).size = 1 := rfl
  have a1 : ∀ W, (Op.stringOp .add ⟨#[46]⟩ af).run Tryz.prog W = .ok (.string T1) W := fun W => by rw [← hT1]; exact run_string_add_sum W _ _ (by omega)
  have a2 : ∀ W, (Op.stringOp .add bf T1).run Tryz.prog W = .ok (.string T2) W := fun W => by rw [← hT2]; exact run_string_add_sum W _ _ (by omega)
  have a3 : ∀ W, (Op.stringOp .add ⟨#[48]⟩ T1).run Tryz.prog W = .ok (.string T3) W := fun W => by rw [← hT3]; exact run_string_add_sum W _ _ (by omega)
  have a4 : ∀ W, (Op.stringOp .add ⟨#[45]⟩ bf).run Tryz.prog W = .ok (.string N1) W := fun W => by rw [← hN1]; exact run_string_add_sum W _ _ (by omega)
  have a5 : ∀ W, (Op.stringOp .add ⟨#[45]⟩ T2).run Tryz.prog W = .ok (.string N2) W := fun W => by rw [← hN2]; exact run_string_add_sum W _ _ (by omega)
  have a6 : ∀ W, (Op.stringOp .add ⟨#[45]⟩ T3).run Tryz.prog W = .ok (.string N3) W := fun W => by rw [← hN3]; exact run_string_add_sum W _ _ (by omega)
  have q2 : (T2.toList == [48]) = false := by
    rw [ByteArray.toList_eq, beq_dec, decide_eq_false_iff_not, t2]
    intro h
    have := congrArg List.length h
    rw [List.length_append, List.length_cons, List.length_singleton] at this
    cases hbl : bf.data.toList with
    | nil => rw [hbl] at h; cases h
    | cons x t => rw [hbl, List.length_cons] at this; omega
  have q3 : (T3.toList == [48]) = false := by
    rw [ByteArray.toList_eq, beq_dec, decide_eq_false_iff_not, t3]
    intro h
    cases h
  have HT := Lib.hid (And.intro t2 (And.intro t3 (And.intro n1 (And.intro n2 n3))))
  have hadd0 : ∀ W, (Op.stringOp .add Z F).run Tryz.prog W = .ok (.string S) W := fun W => by
    rw [← hS]
    refine run_string_add_sum W _ _ ?_
    have h1 : Z.size = 20 := by rw [← hZ, ba_len]; exact List.length_replicate
    have h2 : F.size = pt := by rw [← hF, ba_len]; exact fixed_len _ _
    omega
  clear hbd had tp1 tp2 hlt hk hN hSl hSs e1 e2 hZ hF hpt hbf haf cR hn9 hg hS hR hT1 hT2 hT3 hN1 hN2 hN3 l46 l48 l45 t1 t2 t3 n1 n2 n3 z1 z2 z3 s46 s48 s45 hbs9 has9
  unfold numV
  go_enter Tryz.func77, Tryz.ntmps77
  go_wp2_with fail
  try rw [hW1]
  clear hW1
  go_region_held3 (fun w' => w'.cell? ⟨w.heap.size, 1, none⟩ = some (.slice p k c) ∧ w'.cell? ⟨w.heap.size, 0, none⟩ = some (.bool below) ∧ Below w.heap.size w w' ∧ w.heap.size < w'.heap.size) (first | exact ⟨k1, k0, kb, ks⟩ | exact ⟨y1, y0, hb1.drew, s0⟩ | exact ⟨y1, y0, hb1, s0⟩ | assumption) (first | (go_at_call 125; refine (cR1 _ (by first | exact kb | exact hb1.drew | exact hb1)).mono ?_; rintro e w4 ⟨rfl, hb4⟩; have k1 : w4.cell? ⟨w.heap.size, 1, none⟩ = some (.slice p k c) := (by first | exact (hb4.cell (p := ⟨w.heap.size, 1, none⟩) ks).trans k1 | exact (hb4.cell (p := ⟨w.heap.size, 1, none⟩) s0).trans y1); have k0 : w4.cell? ⟨w.heap.size, 0, none⟩ = some (.bool below) := (by first | exact (hb4.cell (p := ⟨w.heap.size, 0, none⟩) ks).trans k0 | exact (hb4.cell (p := ⟨w.heap.size, 0, none⟩) s0).trans y0); have ks : w.heap.size < w4.heap.size := (by first | exact Nat.lt_of_lt_of_le ks hb4.size | exact Nat.lt_of_lt_of_le s0 hb4.size); have kb : Below w.heap.size w w4 := (by first | exact kb.trans (hb4.mono kb.size) | exact hb1.drew.trans (hb4.mono hb1.size) | exact hb1.trans (hb4.mono hb1.size))) | (go_at_call 127; refine (cD _ (by first | exact kb | exact hb1.drew | exact hb1)).mono ?_; rintro e w4 ⟨rfl, hb4⟩; have k1 : w4.cell? ⟨w.heap.size, 1, none⟩ = some (.slice p k c) := (by first | exact (hb4.cell (p := ⟨w.heap.size, 1, none⟩) ks).trans k1 | exact (hb4.cell (p := ⟨w.heap.size, 1, none⟩) s0).trans y1); have k0 : w4.cell? ⟨w.heap.size, 0, none⟩ = some (.bool below) := (by first | exact (hb4.cell (p := ⟨w.heap.size, 0, none⟩) ks).trans k0 | exact (hb4.cell (p := ⟨w.heap.size, 0, none⟩) s0).trans y0); have ks : w.heap.size < w4.heap.size := (by first | exact Nat.lt_of_lt_of_le ks hb4.size | exact Nat.lt_of_lt_of_le s0 hb4.size); have kb : Below w.heap.size w w4 := (by first | exact kb.trans (hb4.mono kb.size) | exact hb1.drew.trans (hb4.mono hb1.size) | exact hb1.trans (hb4.mono hb1.size))))
  all_goals
    clear hadd0 y0 y1 s0 hb1 cD cR1 k1
    go_wp2_with fail
    go_quiet ((first | (go_at_call 128; exact Calls.quiet_of_same (cL _)) | (go_at_call 129; exact Calls.quiet_of_same (cT _))))
    have kb5 : Below w.heap.size w (w4.drewN nq) := below_drewN kb nq
    have k05 : (w4.drewN nq).cell? ⟨w.heap.size, 0, none⟩ = some (.bool below) := by simpa using k0
    obtain ⟨W5, hW5⟩ : ∃ W5, w4.drewN nq = W5 := ⟨_, rfl⟩
    rw [hW5] at kb5 k05 ⊢
    clear hW5 k0 kb ks cL cT hSz hp0 hpS hpS2
    by_cases hg : 30 < bf.size
    · have hgz : (30 : Int) < (bf.size : Int) := by omega
      have hgl : 30 < bf.data.toList.length := by rw [← ba_len]; exact hg
      go_wp2_with fail
      go_ret2
      exact ⟨by rw [← HRB.out, if_pos hgl]; rfl, kb5⟩
    · have hgz : ¬ (30 : Int) < (bf.size : Int) := by omega
      have hgl : ¬ 30 < bf.data.toList.length := by rw [← ba_len]; exact hg
      have HGL := Lib.hid hgl
      clear hgl hg
      cases E1 : bf.toList.isEmpty <;> cases E2 : af.toList.isEmpty
      · have HB := Lib.hid (show ¬ bf.data.toList = [] from by rw [ByteArray.toList_eq] at E1; intro h; rw [h] at E1; cases E1)
        have HA := Lib.hid (show ¬ af.data.toList = [] from by rw [ByteArray.toList_eq] at E2; intro h; rw [h] at E2; cases E2)
        cases below
        · go_wp2_with fail
          go_ret2
          refine ⟨?_, kb5⟩
          obtain ⟨t2, t3, n1, n2, n3⟩ := HT.out
          have hRX : R = ((T2 : ByteArray).data.toList, 0) := by
            rw [← HRB.out, if_neg HGL.out]
            simp [HB.out, HA.out, t2]
          exact congrArg Ending.returned (resV_of hRX).symm
        · go_wp2_with fail
          go_ret2
          refine ⟨?_, kb5⟩
          obtain ⟨t2, t3, n1, n2, n3⟩ := HT.out
          have hne : ¬ (bf.data.toList ++ 46 :: af.data.toList = [48]) := by
            have := q2
            rw [ByteArray.toList_eq, beq_dec, decide_eq_false_iff_not, t2] at this
            exact this
          have hRX : R = ((N2 : ByteArray).data.toList, 0) := by
            rw [← HRB.out, if_neg HGL.out]
            simp [HB.out, HA.out, n2, hne]
          exact congrArg Ending.returned (resV_of hRX).symm
      · have HB := Lib.hid (show ¬ bf.data.toList = [] from by rw [ByteArray.toList_eq] at E1; intro h; rw [h] at E1; cases E1)
        have HA := Lib.hid (show af.data.toList = [] from by rw [ByteArray.toList_eq] at E2; exact List.isEmpty_iff.1 E2)
        cases below
        · go_wp2_with fail
          go_ret2
          refine ⟨?_, kb5⟩
          obtain ⟨t2, t3, n1, n2, n3⟩ := HT.out
          have hRX : R = ((bf : ByteArray).data.toList, 0) := by
            rw [← HRB.out, if_neg HGL.out]
            simp [HB.out, HA.out]
          exact congrArg Ending.returned (resV_of hRX).symm
        · cases E3 : (bf.toList == [48])
          · have HC := Lib.hid (show ¬ bf.data.toList = [48] from by rw [ByteArray.toList_eq, beq_dec] at E3; simpa using E3)
            go_wp2_with fail
            go_ret2
            refine ⟨?_, kb5⟩
            obtain ⟨t2, t3, n1, n2, n3⟩ := HT.out
            have hRX : R = ((N1 : ByteArray).data.toList, 0) := by
              rw [← HRB.out, if_neg HGL.out]
              simp [HB.out, HA.out, n1, HC.out]
            exact congrArg Ending.returned (resV_of hRX).symm
          · have HC := Lib.hid (show bf.data.toList = [48] from by rw [ByteArray.toList_eq, beq_dec] at E3; simpa using E3)
            go_wp2_with fail
            go_ret2
            refine ⟨?_, kb5⟩
            obtain ⟨t2, t3, n1, n2, n3⟩ := HT.out
            have hRX : R = ((bf : ByteArray).data.toList, 0) := by
              rw [← HRB.out, if_neg HGL.out]
              simp [HA.out, HC.out]
            exact congrArg Ending.returned (resV_of hRX).symm
      · have HB := Lib.hid (show bf.data.toList = [] from by rw [ByteArray.toList_eq] at E1; exact List.isEmpty_iff.1 E1)
        have HA := Lib.hid (show ¬ af.data.toList = [] from by rw [ByteArray.toList_eq] at E2; intro h; rw [h] at E2; cases E2)
        cases below
        · go_wp2_with fail
          go_ret2
          refine ⟨?_, kb5⟩
          obtain ⟨t2, t3, n1, n2, n3⟩ := HT.out
          have hRX : R = ((T3 : ByteArray).data.toList, 0) := by
            rw [← HRB.out, if_neg HGL.out]
            simp [HB.out, HA.out, t3]
          exact congrArg Ending.returned (resV_of hRX).symm
        · go_wp2_with fail
          go_ret2
          refine ⟨?_, kb5⟩
          obtain ⟨t2, t3, n1, n2, n3⟩ := HT.out
          have hRX : R = ((N3 : ByteArray).data.toList, 0) := by
            rw [← HRB.out, if_neg HGL.out]
            simp [HB.out, HA.out, n3]
          exact congrArg Ending.returned (resV_of hRX).symm
      · have HB := Lib.hid (show bf.data.toList = [] from by rw [ByteArray.toList_eq] at E1; exact List.isEmpty_iff.1 E1)
        have HA := Lib.hid (show af.data.toList = [] from by rw [ByteArray.toList_eq] at E2; exact List.isEmpty_iff.1 E2)
        cases below
        · go_wp2_with fail
          go_ret2
          refine ⟨?_, kb5⟩
          obtain ⟨t2, t3, n1, n2, n3⟩ := HT.out
          have hRX : R = ((⟨#[48]⟩ : ByteArray).data.toList, 0) := by
            rw [← HRB.out, if_neg HGL.out]
            simp [HB.out, HA.out]
          exact congrArg Ending.returned (resV_of hRX).symm
        · go_wp2_with fail
          go_ret2
          refine ⟨?_, kb5⟩
          obtain ⟨t2, t3, n1, n2, n3⟩ := HT.out
          have hRX : R = ((⟨#[48]⟩ : ByteArray).data.toList, 0) := by
            rw [← HRB.out, if_neg HGL.out]
            simp [HB.out, HA.out]
          exact congrArg Ending.returned (resV_of hRX).symm
end Go.Proofs.YtgmnjghbafbopaaGreatDoor

/- Dates: the contract of inZone. -/
import Derived.Test.YtgmnjghbafbopaaGreatDoorMTiNumb
import Derived.IntWalk
import Derived.Deep.RegionHeld3
import Derived.Deep.Cut
namespace Go.Proofs.YtgmnjghbafbopaaGreatDoor
open Go.RowKit Go.Lib

set_option maxRecDepth 100000 in
set_option maxHeartbeats 8000000 in
theorem inZone_none (y mo d h mi : Int) (S Z : ByteArray) (hZ : Z.data.toList = []) (w : World) :
    Calls Tryz.prog 45 #[momV y mo d h mi S 0 false, .string Z] w fun e w' => e = .returned (.tuple #[momV y mo d h mi S 0 false, .bool true]) ∧ Below w.heap.size w w' := by
  have tl : Z.toList = Z.data.toList := ByteArray.toList_eq Z
  have k1 : (Z.toList == []) = true := by rw [tl, hZ]; rfl
  have k2 : Z.toList.isEmpty = true := by rw [tl, hZ]; rfl
  have k3 : Z.toList = [] := by rw [tl, hZ]
  unfold momV
  clear hZ tl
  go_enter Tryz.func45, Tryz.ntmps45
  go_wp2_with fail
  exact bodyPost_ret (v := .tuple #[.agg #[.int .i64 y, .int .i64 mo, .int .i64 d, .int .i64 h, .int .i64 mi, .string S, .int .i64 0, .bool false], .bool true]) (by simp [results, Tryz.results45, go_sem]) rfl ⟨rfl, ((Below.refl _ _).alloc (Nat.le_refl _) _).alloc (by simp) _⟩
set_option maxRecDepth 100000 in
set_option maxHeartbeats 8000000 in
theorem inZone_zed (y mo d h mi : Int) (S Z : ByteArray) (hZ : Z.data.toList = [90]) (w : World) :
    Calls Tryz.prog 45 #[momV y mo d h mi S 0 false, .string Z] w fun e w' => e = .returned (.tuple #[momV y mo d h mi S 0 true, .bool true]) ∧ Below w.heap.size w w' := by
  have tl : Z.toList = Z.data.toList := ByteArray.toList_eq Z
  have k1 : (Z.toList == []) = false := by rw [tl, hZ]; rfl
  have k2 : Z.toList.isEmpty = false := by rw [tl, hZ]; rfl
  have k3 : ¬ Z.toList = [] := by rw [tl, hZ]; simp
  have k4 : (Z.toList == [90]) = true := by rw [tl, hZ]; rfl
  have k5 : Z.toList = [90] := by rw [tl, hZ]
  unfold momV
  clear hZ tl
  go_enter Tryz.func45, Tryz.ntmps45
  go_wp2_with fail
  exact bodyPost_ret (v := .tuple #[.agg #[.int .i64 y, .int .i64 mo, .int .i64 d, .int .i64 h, .int .i64 mi, .string S, .int .i64 0, .bool true], .bool true]) (by simp [results, Tryz.results45, go_sem]) rfl ⟨rfl, ((Below.refl _ _).alloc (Nat.le_refl _) _).alloc (by simp) _⟩
set_option maxRecDepth 100000 in
set_option maxHeartbeats 8000000 in
theorem inZone_plus (y mo d h mi : Int) (S Z : ByteArray) (a b : List UInt8) (da : Dgs a) (db : Dgs b) (la : a.length = 2) (lb : b.length = 2) (hZ : Z.data.toList = 43 :: (a ++ 58 :: b)) (ok : Bool) (hok : decide (valD b 0 ≤ 59) = ok) (w : World) :
    Calls Tryz.prog 45 #[momV y mo d h mi S 0 false, .string Z] w fun e w' => e = .returned (.tuple #[momV y mo d h mi S (60 * (valD a 0 : Int) + (valD b 0 : Int)) true, .bool ok]) ∧ Below w.heap.size w w' := by
  have tl : Z.toList = Z.data.toList := ByteArray.toList_eq Z
  have k1 : (Z.toList == []) = false := by rw [tl, hZ]; rfl
  have k2 : Z.toList.isEmpty = false := by rw [tl, hZ]; rfl
  have k3 : ¬ Z.toList = [] := by rw [tl, hZ]; simp
  have k4 : (Z.toList == [90]) = false := by rw [tl, hZ]; exact beq_eq_false_iff_ne.2 (fun e => by injection e with e1 _; exact absurd e1 (by decide))
  have k5 : ¬ Z.toList = [90] := by rw [tl, hZ]; intro e; injection e with e1 _; exact absurd e1 (by decide)
  have hs : Z.size = 6 := by rw [← bsize, hZ]; simp [la, lb]
  have hz0 : Z[0].toNat = 43 := by
    have : Z.data.toList.getD 0 0 = Z[0] := getD_byte Z 0 (by omega)
    rw [← this, hZ]; rfl
  obtain ⟨A, hA⟩ : ∃ A, Z.extract 1 3 = A := ⟨_, rfl⟩
  obtain ⟨B, hB⟩ : ∃ B, Z.extract 4 6 = B := ⟨_, rfl⟩
  have hAl : A.data.toList = a := by
    rw [← hA, extract_all, hZ]
    match a, la with
    | [a0, a1], _ => rfl
  have hBl : B.data.toList = b := by
    rw [← hB, extract_all, hZ]
    match a, la, b, lb with
    | [a0, a1], _, [b0, b1], _ => rfl
  have va := valD_small da (by omega)
  have vb := valD_small db (by omega)
  have cA := fun W => number_ti A a da (by intro e; rw [e] at la; cases la) (by omega) (.inl hAl) W
  have cB := fun W => number_ti B b db (by intro e; rw [e] at lb; cases lb) (by omega) (.inl hBl) W
  have va9 : valD a 0 < 100 := by have := valD_lt a da; rw [la] at this; omega
  have vb9 : valD b 0 < 100 := by have := valD_lt b db; rw [lb] at this; omega
  obtain ⟨p, hp⟩ : ∃ p, valD a 0 = p := ⟨_, rfl⟩
  obtain ⟨q, hq⟩ : ∃ q, valD b 0 = q := ⟨_, rfl⟩
  rw [hp] at cA va9
  rw [hq] at cB vb9 hok
  rw [hp, hq]
  have hqz : decide ((q : Int) ≤ 59) = ok := by rw [← hok]; exact decide_eq_decide.2 (by omega)
  have s1 : IntKind.i64.wrap (60 * (p : Int)) = 60 * (p : Int) := IntWalk.i64_in _ (by omega)
  have s2 : IntKind.i64.wrap (60 * (p : Int) + (q : Int)) = 60 * (p : Int) + (q : Int) := IntWalk.i64_in _ (by omega)
  have s3 : IntKind.i64.wrap (-(60 * (p : Int) + (q : Int))) = -(60 * (p : Int) + (q : Int)) := IntWalk.i64_in _ (by omega)
  unfold momV
  have b0 : Below w.heap.size w (w.alloc (.cells #[.int .i64 y, .int .i64 mo, .int .i64 d, .int .i64 h, .int .i64 mi, .string S, .int .i64 0, .bool true] 24)) := (Below.refl _ _).alloc (Nat.le_refl _) _
  have v2 := (MomW.new w y mo d h mi S 0 true).later ((Below.refl _ _).alloc (Nat.le_refl _) (.cells #[.int .i64 0, .int .i64 0, .int .i64 0, .int .i64 0, .int .i64 0, .string ⟨#[]⟩, .int .i64 0, .bool false] 24))
  have rV := MomW.new (w.alloc (.cells #[.int .i64 y, .int .i64 mo, .int .i64 d, .int .i64 h, .int .i64 mi, .string S, .int .i64 0, .bool true] 24)) 0 0 0 0 0 ⟨#[]⟩ 0 false
  have bV : Below w.heap.size w ((w.alloc (.cells #[.int .i64 y, .int .i64 mo, .int .i64 d, .int .i64 h, .int .i64 mi, .string S, .int .i64 0, .bool true] 24)).alloc (.cells #[.int .i64 0, .int .i64 0, .int .i64 0, .int .i64 0, .int .i64 0, .string ⟨#[]⟩, .int .i64 0, .bool false] 24)) := b0.alloc (by simp) _
  obtain ⟨V, hV⟩ : ∃ W, (w.alloc (.cells #[.int .i64 y, .int .i64 mo, .int .i64 d, .int .i64 h, .int .i64 mi, .string S, .int .i64 0, .bool true] 24)).alloc (.cells #[.int .i64 0, .int .i64 0, .int .i64 0, .int .i64 0, .int .i64 0, .string ⟨#[]⟩, .int .i64 0, .bool false] 24) = W := ⟨_, rfl⟩
  rw [World.size_alloc] at rV
  rw [hV] at v2 rV bV
  clear b0
  have HV := Lib.hid hV
  have bD0 : Below V.heap.size V V.drew := (Below.refl _ _).drew
  have cA2 : ∀ W, Below V.heap.size V W → Calls Tryz.prog 94 #[.string A] W fun e w' => e = .returned (.int .i64 (p : Int)) ∧ Below V.heap.size V w' := fun W hW => (cA W).mono fun _ _ r => ⟨r.1, hW.trans (r.2.mono hW.size)⟩
  have cB2 : ∀ W, Below V.heap.size V W → Calls Tryz.prog 94 #[.string B] W fun e w' => e = .returned (.int .i64 (q : Int)) ∧ Below V.heap.size V w' := fun W hW => (cB W).mono fun _ _ r => ⟨r.1, hW.trans (r.2.mono hW.size)⟩
  have M2 := Lib.hid v2
  have R2 := Lib.hid rV
  clear hZ tl hV v2 rV da db la lb hAl hBl hp hq cA cB va vb hok
  go_enter Tryz.func45, Tryz.ntmps45
  go_wp2_with fail
  rw [HV.out]
  go_region_held3 (fun _ => True) (first | trivial) (first | (go_at_call 94; (with_reducible refine (cA2 _ bD0).mono ?_); rintro e wA ⟨rfl, bA⟩) | (go_at_call 94; (with_reducible refine (cB2 _ bA).mono ?_); rintro e wB ⟨rfl, bB⟩))
  have m3 := M2.out.later bB
  have r3 := R2.out.later bB
  have b3 := bV.trans (bB.mono bV.size)
  obtain ⟨V4, hV4, v4⟩ : ∃ V4, wB.setCell ⟨w.heap.size, 6, none⟩ (.int .i64 (60 * (p : Int) + (q : Int))) = V4 ∧ MomW V4 w.heap.size y mo d h mi S (60 * (p : Int) + (q : Int)) true := ⟨_, rfl, m3.set6 _⟩
  have r4 : MomW V4 (w.heap.size + 1) 0 0 0 0 0 ⟨#[]⟩ 0 false := by rw [← hV4]; exact r3.other (Below.heap_setCell _ _ _ _ (by show w.heap.size + 1 ≠ w.heap.size; omega)) (by simp [World.setCell])
  have b4 : Below w.heap.size w V4 := by rw [← hV4]; exact b3.setCell (p := ⟨w.heap.size, 6, none⟩) (Nat.le_refl _) _
  have HV4 := Lib.hid hV4
  obtain ⟨c0, c1, c2, c3, c4, c5, c6, c7, f0, f1, f2, f3, f4, f5, f6, f7, lt0⟩ := m3
  obtain ⟨j0, j1, j2, j3, j4, j5, j6, j7, g0, g1, g2, g3, g4, g5, g6, g7, lt1⟩ := r3
  clear hV4 M2 R2 bA bB bV b3 bD0 cA2 cB2
  obtain ⟨X, hX, rX, keep, _, _⟩ := r4.setAll y mo d h mi S (60 * (p : Int) + (q : Int)) true
  have bX := keep b4 (Nat.le_succ _)
  have HX := Lib.hid hX
  have RX := Lib.hid rX
  have H4 := Lib.hid (And.intro v4 r4)
  clear hX rX keep v4 r4
  go_upto_region 8 with fail
  rw [HV4.out]
  clear c0 c1 c2 c3 c4 c5 c6 c7 f0 f1 f2 f3 f4 f5 f6 f7 lt0 j0 j1 j2 j3 j4 j5 j6 j7 g0 g1 g2 g3 g4 g5 g6 g7 lt1
  obtain ⟨c0, c1, c2, c3, c4, c5, c6, c7, f0, f1, f2, f3, f4, f5, f6, f7, lt0⟩ := H4.out.1
  obtain ⟨j0, j1, j2, j3, j4, j5, j6, j7, g0, g1, g2, g3, g4, g5, g6, g7, lt1⟩ := H4.out.2
  go_wp2_with fail
  rw [HX.out]
  obtain ⟨i0, i1, i2, i3, i4, i5, i6, i7, _⟩ := RX.out.at
  refine bodyPost_ret (v := .tuple #[.agg #[.int .i64 y, .int .i64 mo, .int .i64 d, .int .i64 h, .int .i64 mi, .string S, .int .i64 (60 * (p : Int) + (q : Int)), .bool true], .bool ok]) (by simp [results, Tryz.results45, go_sem, i0, i1, i2, i3, i4, i5, i6, i7]) rfl ⟨rfl, bX⟩
set_option maxRecDepth 100000 in
set_option maxHeartbeats 8000000 in
theorem inZone_minus (y mo d h mi : Int) (S Z : ByteArray) (a b : List UInt8) (da : Dgs a) (db : Dgs b) (la : a.length = 2) (lb : b.length = 2) (hZ : Z.data.toList = 45 :: (a ++ 58 :: b)) (ok : Bool) (hok : decide (valD b 0 ≤ 59) = ok) (w : World) :
    Calls Tryz.prog 45 #[momV y mo d h mi S 0 false, .string Z] w fun e w' => e = .returned (.tuple #[momV y mo d h mi S (-(60 * (valD a 0 : Int) + (valD b 0 : Int))) true, .bool ok]) ∧ Below w.heap.size w w' := by
  have tl : Z.toList = Z.data.toList := ByteArray.toList_eq Z
  have k1 : (Z.toList == []) = false := by rw [tl, hZ]; rfl
  have k2 : Z.toList.isEmpty = false := by rw [tl, hZ]; rfl
  have k3 : ¬ Z.toList = [] := by rw [tl, hZ]; simp
  have k4 : (Z.toList == [90]) = false := by rw [tl, hZ]; exact beq_eq_false_iff_ne.2 (fun e => by injection e with e1 _; exact absurd e1 (by decide))
  have k5 : ¬ Z.toList = [90] := by rw [tl, hZ]; intro e; injection e with e1 _; exact absurd e1 (by decide)
  have hs : Z.size = 6 := by rw [← bsize, hZ]; simp [la, lb]
  have hz0 : Z[0].toNat = 45 := by
    have : Z.data.toList.getD 0 0 = Z[0] := getD_byte Z 0 (by omega)
    rw [← this, hZ]; rfl
  obtain ⟨A, hA⟩ : ∃ A, Z.extract 1 3 = A := ⟨_, rfl⟩
  obtain ⟨B, hB⟩ : ∃ B, Z.extract 4 6 = B := ⟨_, rfl⟩
  have hAl : A.data.toList = a := by
    rw [← hA, extract_all, hZ]
    match a, la with
    | [a0, a1], _ => rfl
  have hBl : B.data.toList = b := by
    rw [← hB, extract_all, hZ]
    match a, la, b, lb with
    | [a0, a1], _, [b0, b1], _ => rfl
  have va := valD_small da (by omega)
  have vb := valD_small db (by omega)
  have cA := fun W => number_ti A a da (by intro e; rw [e] at la; cases la) (by omega) (.inl hAl) W
  have cB := fun W => number_ti B b db (by intro e; rw [e] at lb; cases lb) (by omega) (.inl hBl) W
  have va9 : valD a 0 < 100 := by have := valD_lt a da; rw [la] at this; omega
  have vb9 : valD b 0 < 100 := by have := valD_lt b db; rw [lb] at this; omega
  obtain ⟨p, hp⟩ : ∃ p, valD a 0 = p := ⟨_, rfl⟩
  obtain ⟨q, hq⟩ : ∃ q, valD b 0 = q := ⟨_, rfl⟩
  rw [hp] at cA va9
  rw [hq] at cB vb9 hok
  rw [hp, hq]
  have hqz : decide ((q : Int) ≤ 59) = ok := by rw [← hok]; exact decide_eq_decide.2 (by omega)
  have s1 : IntKind.i64.wrap (60 * (p : Int)) = 60 * (p : Int) := IntWalk.i64_in _ (by omega)
  have s2 : IntKind.i64.wrap (60 * (p : Int) + (q : Int)) = 60 * (p : Int) + (q : Int) := IntWalk.i64_in _ (by omega)
  have s3 : IntKind.i64.wrap (-(60 * (p : Int) + (q : Int))) = -(60 * (p : Int) + (q : Int)) := IntWalk.i64_in _ (by omega)
  unfold momV
  have b0 : Below w.heap.size w (w.alloc (.cells #[.int .i64 y, .int .i64 mo, .int .i64 d, .int .i64 h, .int .i64 mi, .string S, .int .i64 0, .bool true] 24)) := (Below.refl _ _).alloc (Nat.le_refl _) _
  have v2 := (MomW.new w y mo d h mi S 0 true).later ((Below.refl _ _).alloc (Nat.le_refl _) (.cells #[.int .i64 0, .int .i64 0, .int .i64 0, .int .i64 0, .int .i64 0, .string ⟨#[]⟩, .int .i64 0, .bool false] 24))
  have rV := MomW.new (w.alloc (.cells #[.int .i64 y, .int .i64 mo, .int .i64 d, .int .i64 h, .int .i64 mi, .string S, .int .i64 0, .bool true] 24)) 0 0 0 0 0 ⟨#[]⟩ 0 false
  have bV : Below w.heap.size w ((w.alloc (.cells #[.int .i64 y, .int .i64 mo, .int .i64 d, .int .i64 h, .int .i64 mi, .string S, .int .i64 0, .bool true] 24)).alloc (.cells #[.int .i64 0, .int .i64 0, .int .i64 0, .int .i64 0, .int .i64 0, .string ⟨#[]⟩, .int .i64 0, .bool false] 24)) := b0.alloc (by simp) _
  obtain ⟨V, hV⟩ : ∃ W, (w.alloc (.cells #[.int .i64 y, .int .i64 mo, .int .i64 d, .int .i64 h, .int .i64 mi, .string S, .int .i64 0, .bool true] 24)).alloc (.cells #[.int .i64 0, .int .i64 0, .int .i64 0, .int .i64 0, .int .i64 0, .string ⟨#[]⟩, .int .i64 0, .bool false] 24) = W := ⟨_, rfl⟩
  rw [World.size_alloc] at rV
  rw [hV] at v2 rV bV
  clear b0
  have HV := Lib.hid hV
  have bD0 : Below V.heap.size V V.drew := (Below.refl _ _).drew
  have cA2 : ∀ W, Below V.heap.size V W → Calls Tryz.prog 94 #[.string A] W fun e w' => e = .returned (.int .i64 (p : Int)) ∧ Below V.heap.size V w' := fun W hW => (cA W).mono fun _ _ r => ⟨r.1, hW.trans (r.2.mono hW.size)⟩
  have cB2 : ∀ W, Below V.heap.size V W → Calls Tryz.prog 94 #[.string B] W fun e w' => e = .returned (.int .i64 (q : Int)) ∧ Below V.heap.size V w' := fun W hW => (cB W).mono fun _ _ r => ⟨r.1, hW.trans (r.2.mono hW.size)⟩
  have M2 := Lib.hid v2
  have R2 := Lib.hid rV
  clear hZ tl hV v2 rV da db la lb hAl hBl hp hq cA cB va vb hok
  go_enter Tryz.func45, Tryz.ntmps45
  go_wp2_with fail
  rw [HV.out]
  go_region_held3 (fun _ => True) (first | trivial) (first | (go_at_call 94; (with_reducible refine (cA2 _ bD0).mono ?_); rintro e wA ⟨rfl, bA⟩) | (go_at_call 94; (with_reducible refine (cB2 _ bA).mono ?_); rintro e wB ⟨rfl, bB⟩))
  have m3 := M2.out.later bB
  have r3 := R2.out.later bB
  have b3 := bV.trans (bB.mono bV.size)
  obtain ⟨V4, hV4, v4⟩ : ∃ V4, wB.setCell ⟨w.heap.size, 6, none⟩ (.int .i64 (60 * (p : Int) + (q : Int))) = V4 ∧ MomW V4 w.heap.size y mo d h mi S (60 * (p : Int) + (q : Int)) true := ⟨_, rfl, m3.set6 _⟩
  have r4 : MomW V4 (w.heap.size + 1) 0 0 0 0 0 ⟨#[]⟩ 0 false := by rw [← hV4]; exact r3.other (Below.heap_setCell _ _ _ _ (by show w.heap.size + 1 ≠ w.heap.size; omega)) (by simp [World.setCell])
  have b4 : Below w.heap.size w V4 := by rw [← hV4]; exact b3.setCell (p := ⟨w.heap.size, 6, none⟩) (Nat.le_refl _) _
  have HV4 := Lib.hid hV4
  obtain ⟨c0, c1, c2, c3, c4, c5, c6, c7, f0, f1, f2, f3, f4, f5, f6, f7, lt0⟩ := m3
  obtain ⟨j0, j1, j2, j3, j4, j5, j6, j7, g0, g1, g2, g3, g4, g5, g6, g7, lt1⟩ := r3
  clear hV4 M2 R2 bA bB bV b3 bD0 cA2 cB2
  obtain ⟨V5, hV5, v5⟩ : ∃ V5, V4.setCell ⟨w.heap.size, 6, none⟩ (.int .i64 (-(60 * (p : Int) + (q : Int)))) = V5 ∧ MomW V5 w.heap.size y mo d h mi S (-(60 * (p : Int) + (q : Int))) true := ⟨_, rfl, v4.set6 _⟩
  have r5 : MomW V5 (w.heap.size + 1) 0 0 0 0 0 ⟨#[]⟩ 0 false := by rw [← hV5]; exact r4.other (Below.heap_setCell _ _ _ _ (by show w.heap.size + 1 ≠ w.heap.size; omega)) (by simp [World.setCell])
  have b5 : Below w.heap.size w V5 := by rw [← hV5]; exact b4.setCell (p := ⟨w.heap.size, 6, none⟩) (Nat.le_refl _) _
  have HV5 := Lib.hid hV5
  obtain ⟨X, hX, rX, keep, _, _⟩ := r5.setAll y mo d h mi S (-(60 * (p : Int) + (q : Int))) true
  have bX := keep b5 (Nat.le_succ _)
  have HX := Lib.hid hX
  have RX := Lib.hid rX
  have H4 := Lib.hid (And.intro v4 r4)
  have H5 := Lib.hid (And.intro v5 r5)
  clear hX rX keep v4 r4 v5 r5 hV5
  go_upto_region 7 with fail
  rw [HV4.out]
  clear c0 c1 c2 c3 c4 c5 c6 c7 f0 f1 f2 f3 f4 f5 f6 f7 lt0 j0 j1 j2 j3 j4 j5 j6 j7 g0 g1 g2 g3 g4 g5 g6 g7 lt1
  obtain ⟨c0, c1, c2, c3, c4, c5, c6, c7, f0, f1, f2, f3, f4, f5, f6, f7, lt0⟩ := H4.out.1
  go_upto_region 8 with fail
  rw [HV5.out]
  clear c0 c1 c2 c3 c4 c5 c6 c7 f0 f1 f2 f3 f4 f5 f6 f7 lt0
  obtain ⟨c0, c1, c2, c3, c4, c5, c6, c7, f0, f1, f2, f3, f4, f5, f6, f7, lt0⟩ := H5.out.1
  obtain ⟨j0, j1, j2, j3, j4, j5, j6, j7, g0, g1, g2, g3, g4, g5, g6, g7, lt1⟩ := H5.out.2
  go_wp2_with fail
  rw [HX.out]
  obtain ⟨i0, i1, i2, i3, i4, i5, i6, i7, _⟩ := RX.out.at
  refine bodyPost_ret (v := .tuple #[.agg #[.int .i64 y, .int .i64 mo, .int .i64 d, .int .i64 h, .int .i64 mi, .string S, .int .i64 (-(60 * (p : Int) + (q : Int))), .bool true], .bool ok]) (by simp [results, Tryz.results45, go_sem, i0, i1, i2, i3, i4, i5, i6, i7]) rfl ⟨rfl, bX⟩
end Go.Proofs.YtgmnjghbafbopaaGreatDoor

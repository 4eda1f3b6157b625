/- Dates: the contracts of Weekday and Seconds. Dates: the contract of later. -/
import Derived.Test.YtgmnjghbafbopaaGreatDoorMTiC
import Derived.Deep.RegionHeld3
namespace Go.Proofs.YtgmnjghbafbopaaGreatDoor
open Go.RowKit Go.Lib

set_option maxRecDepth 100000 in
set_option maxHeartbeats 4000000 in
theorem weekday_bad (y mo d h mi : Int) (S : ByteArray) (z : Int) (has : Bool) (hs : S.size ≤ 1000) (hv : validB y mo d h mi S.data.toList z has = false) (w : World) (hg : GrT w) :
    Calls Tryz.prog 23 #[momV y mo d h mi S z has] w fun e w' => e = .returned (.int .i64 0) ∧ Below w.heap.size w w' := by
  have cV := fun W hW => isValid_ti y mo d h mi S z has hs W hW
  rw [hv] at cV
  unfold momV at cV
  unfold momV
  have m1 := MomW.new w y mo d h mi S z has
  have bw1 : Below w.heap.size w (w.alloc (.cells #[.int .i64 y, .int .i64 mo, .int .i64 d, .int .i64 h, .int .i64 mi, .string S, .int .i64 z, .bool has] 24)) := (Below.refl _ _).alloc (Nat.le_refl _) _
  obtain ⟨W1, hW1⟩ : ∃ W, w.alloc (.cells #[.int .i64 y, .int .i64 mo, .int .i64 d, .int .i64 h, .int .i64 mi, .string S, .int .i64 z, .bool has] 24) = W := ⟨_, rfl⟩
  rw [hW1] at m1 bw1
  have HW1 := Lib.hid hW1
  have cV := cV W1 (hg.later bw1)
  obtain ⟨c0, c1, c2, c3, c4, c5, c6, c7, _⟩ := m1
  clear hW1 hg hv
  go_enter Tryz.func23, Tryz.ntmps23
  go_wp2_with fail
  try rw [HW1.out]
  refine cV.mono ?_
  rintro e w2 ⟨rfl, b2⟩
  go_wp2_with fail
  go_ret
  exact ⟨rfl, bw1.trans (b2.mono bw1.size)⟩
set_option maxRecDepth 100000 in
set_option maxHeartbeats 4000000 in
theorem weekday_ok (y mo d h mi mu : Nat) (S : ByteArray) (z : Int) (has : Bool) (k : MomOk y mo d h mi mu S z has) (w : World) (hg : GrT w) :
    Calls Tryz.prog 23 #[momV (y : Int) (mo : Int) (d : Int) (h : Int) (mi : Int) S z has] w fun e w' => e = .returned (.int .i64 ((dayN y mo d % 7 + 1 : Nat) : Int)) ∧ Below w.heap.size w w' := by
  have cV := fun W hW => isValid_ti (y : Int) (mo : Int) (d : Int) (h : Int) (mi : Int) S z has (by have := k.size; omega) W hW
  rw [k.valid] at cV
  unfold momV at cV
  unfold momV
  have m1 := MomW.new w (y : Int) (mo : Int) (d : Int) (h : Int) (mi : Int) S z has
  have bw1 : Below w.heap.size w (w.alloc (.cells #[.int .i64 (y : Int), .int .i64 (mo : Int), .int .i64 (d : Int), .int .i64 (h : Int), .int .i64 (mi : Int), .string S, .int .i64 z, .bool has] 24)) := (Below.refl _ _).alloc (Nat.le_refl _) _
  obtain ⟨W1, hW1⟩ : ∃ W, w.alloc (.cells #[.int .i64 (y : Int), .int .i64 (mo : Int), .int .i64 (d : Int), .int .i64 (h : Int), .int .i64 (mi : Int), .string S, .int .i64 z, .bool has] 24) = W := ⟨_, rfl⟩
  rw [hW1] at m1 bw1
  have HW1 := Lib.hid hW1
  have cV := cV W1 (hg.later bw1)
  have cD := fun W hW => dayNumber_ti y mo d k.date W hW
  have hN := dayN_max k.date
  obtain ⟨N, hNe⟩ : ∃ N, dayN y mo d = N := ⟨_, rfl⟩
  rw [hNe] at cD hN
  rw [hNe]
  have m1' := m1
  obtain ⟨c0, c1, c2, c3, c4, c5, c6, c7, _⟩ := m1
  have HG := Lib.hid hg
  have n0 : (0 : Int) ≤ (N : Int) := by omega
  have n9 : (N : Int) ≤ 4000000 := by omega
  clear hW1 hg k hNe hN
  go_enter Tryz.func23, Tryz.ntmps23
  go_wp2_with fail
  try rw [HW1.out]
  refine cV.mono ?_
  rintro e w2 ⟨rfl, b2⟩
  have m2 := m1'.later b2
  have bw2 := bw1.trans (b2.mono bw1.size)
  clear c0 c1 c2 c3 c4 c5 c6 c7 m1' cV b2 bw1
  obtain ⟨c0, c1, c2, c3, c4, c5, c6, c7, _⟩ := m2
  go_wp2_with fail
  refine (cD w2 (HG.out.tab.later bw2)).mono ?_
  rintro e w3 ⟨rfl, rfl⟩
  go_wp2_with fail
  go_ret
  exact ⟨by simp, bw2⟩
/-- The millionths of a second from the beginning of 1970 in universal time. -/
def secsZ (y mo d h mi mu : Nat) (z : Int) : Int := (localN y mo d h mi mu : Int) - 62135596800000000 - z * 60000000
theorem zone_in {z : Int} {has : Bool} (h : zoneB z has = true) : -840 ≤ z ∧ z ≤ 840 := by
  unfold zoneB at h
  cases has with
  | true =>
    rw [if_pos rfl, Bool.and_eq_true] at h
    exact ⟨of_decide_eq_true h.1, of_decide_eq_true h.2⟩
  | false =>
    rw [if_neg (by decide)] at h
    have := of_decide_eq_true h
    omega
theorem dayN_1970 : dayN 1970 1 1 = 719162 := by decide
set_option maxRecDepth 100000 in
set_option maxHeartbeats 4000000 in
theorem seconds_bad (y mo d h mi : Int) (S : ByteArray) (z : Int) (has : Bool) (hs : S.size ≤ 1000) (hv : validB y mo d h mi S.data.toList z has = false) (w : World) (hg : GrT w) :
    Calls Tryz.prog 21 #[momV y mo d h mi S z has] w fun e w' => e = .returned (.tuple #[.string ⟨#[]⟩, .int .i64 1]) ∧ Below w.heap.size w w' := by
  have cV := fun W hW => isValid_ti y mo d h mi S z has hs W hW
  rw [hv] at cV
  unfold momV at cV
  unfold momV
  have m1 := MomW.new w y mo d h mi S z has
  have bw1 : Below w.heap.size w (w.alloc (.cells #[.int .i64 y, .int .i64 mo, .int .i64 d, .int .i64 h, .int .i64 mi, .string S, .int .i64 z, .bool has] 24)) := (Below.refl _ _).alloc (Nat.le_refl _) _
  obtain ⟨W1, hW1⟩ : ∃ W, w.alloc (.cells #[.int .i64 y, .int .i64 mo, .int .i64 d, .int .i64 h, .int .i64 mi, .string S, .int .i64 z, .bool has] 24) = W := ⟨_, rfl⟩
  rw [hW1] at m1 bw1
  have HW1 := Lib.hid hW1
  have cV := cV W1 (hg.later bw1)
  obtain ⟨c0, c1, c2, c3, c4, c5, c6, c7, _⟩ := m1
  clear hW1 hg hv
  go_enter Tryz.func21, Tryz.ntmps21
  go_wp2_with fail
  try rw [HW1.out]
  refine cV.mono ?_
  rintro e w2 ⟨rfl, b2⟩
  go_wp2_with fail
  go_ret2
  exact ⟨rfl, bw1.trans (b2.mono bw1.size)⟩
set_option maxRecDepth 100000 in
set_option maxHeartbeats 8000000 in
theorem seconds_ok (y mo d h mi mu : Nat) (S : ByteArray) (z : Int) (has : Bool) (k : MomOk y mo d h mi mu S z has) (R : ByteArray) (hR : secT (decide (secsZ y mo d h mi mu z < 0)) (secsZ y mo d h mi mu z).natAbs = (R.data.toList, 0)) (w : World) (hg : GrT w) :
    Calls Tryz.prog 21 #[momV (y : Int) (mo : Int) (d : Int) (h : Int) (mi : Int) S z has] w fun e w' => e = .returned (.tuple #[.string R, .int .i64 0]) ∧ Below w.heap.size w w' := by
  have cV := fun W hW => isValid_ti (y : Int) (mo : Int) (d : Int) (h : Int) (mi : Int) S z has (by have := k.size; omega) W hW
  rw [k.valid] at cV
  have cL := fun W hW => local_ti y mo d h mi mu S z has k W hW
  unfold momV at cV cL
  unfold momV
  have m1 := MomW.new w (y : Int) (mo : Int) (d : Int) (h : Int) (mi : Int) S z has
  have bw1 : Below w.heap.size w (w.alloc (.cells #[.int .i64 (y : Int), .int .i64 (mo : Int), .int .i64 (d : Int), .int .i64 (h : Int), .int .i64 (mi : Int), .string S, .int .i64 z, .bool has] 24)) := (Below.refl _ _).alloc (Nat.le_refl _) _
  obtain ⟨W1, hW1⟩ : ∃ W, w.alloc (.cells #[.int .i64 (y : Int), .int .i64 (mo : Int), .int .i64 (d : Int), .int .i64 (h : Int), .int .i64 (mi : Int), .string S, .int .i64 z, .bool has] 24) = W := ⟨_, rfl⟩
  rw [hW1] at m1 bw1
  have HW1 := Lib.hid hW1
  have cV := cV W1 (hg.later bw1)
  have cD : ∀ W, TabD W → Calls Tryz.prog 59 #[.int .i64 1970, .int .i64 1, .int .i64 1] W fun e w' => e = .returned (.int .i64 719162) ∧ w' = W := fun W hW => by
    have := dayNumber_ti 1970 1 1 ⟨by decide, by decide, by decide, by decide, by decide, by decide⟩ W hW
    rw [dayN_1970] at this
    exact this
  have hL := localN_lt k
  have hz := zone_in k.zone
  obtain ⟨L, hLe⟩ : ∃ L, localN y mo d h mi mu = L := ⟨_, rfl⟩
  rw [hLe] at cL hL
  have hsz : secsZ y mo d h mi mu z = (L : Int) - 62135596800000000 - z * 60000000 := by unfold secsZ; rw [hLe]
  rw [hsz] at hR
  have cS := fun W hW => seconds_ti ((L : Int) - 62135596800000000 - z * 60000000) (by omega) (by omega) R hR W hW
  have s1 : IntKind.i64.wrap (62135596800000000 : Int) = 62135596800000000 := IntWalk.i64_in _ (by omega)
  have s2 : IntKind.i64.wrap ((L : Int) - 62135596800000000) = (L : Int) - 62135596800000000 := IntWalk.i64_in _ (by omega)
  have s3 : IntKind.i64.wrap (z * 60000000) = z * 60000000 := IntWalk.i64_in _ (by omega)
  have s4 : IntKind.i64.wrap ((L : Int) - 62135596800000000 - z * 60000000) = (L : Int) - 62135596800000000 - z * 60000000 := IntWalk.i64_in _ (by omega)
  have m1' := m1
  obtain ⟨c0, c1, c2, c3, c4, c5, c6, c7, _⟩ := m1
  have HG := Lib.hid hg
  clear hW1 hg k hLe hL hz hsz hR
  go_enter Tryz.func21, Tryz.ntmps21
  go_wp2_with fail
  try rw [HW1.out]
  refine cV.mono ?_
  rintro e w2 ⟨rfl, b2⟩
  have m2 := m1'.later b2
  have bw2 := bw1.trans (b2.mono bw1.size)
  clear c0 c1 c2 c3 c4 c5 c6 c7 m1' cV b2 bw1
  have m2' := m2
  obtain ⟨c0, c1, c2, c3, c4, c5, c6, c7, _⟩ := m2
  have bD : Below w2.heap.size w2 w2.drew := (Below.refl _ _).drew
  have cL := cL w2.drew (HG.out.later bw2.drew)
  go_wp2_with fail
  go_region_held3 (fun w' => w'.cell? ⟨w.heap.size, 0, none⟩ = some (.int .i64 (y : Int)) ∧ w'.cell? ⟨w.heap.size, 1, none⟩ = some (.int .i64 (mo : Int)) ∧ w'.cell? ⟨w.heap.size, 2, none⟩ = some (.int .i64 (d : Int)) ∧ w'.cell? ⟨w.heap.size, 3, none⟩ = some (.int .i64 (h : Int)) ∧ w'.cell? ⟨w.heap.size, 4, none⟩ = some (.int .i64 (mi : Int)) ∧ w'.cell? ⟨w.heap.size, 5, none⟩ = some (.string S) ∧ w'.cell? ⟨w.heap.size, 6, none⟩ = some (.int .i64 z) ∧ w'.cell? ⟨w.heap.size, 7, none⟩ = some (.bool has)) (first | exact ⟨q0, q1, q2, q3, q4, q5, q6, q7⟩ | exact ⟨p0, p1, p2, p3, p4, p5, p6, p7⟩ | exact ⟨c0, c1, c2, c3, c4, c5, c6, c7⟩) (first | (go_at_call 58; refine cL.mono ?_; rintro e wL ⟨rfl, bL⟩; have bwL := bD.trans (bL.mono bD.size); have mL := m2'.later bwL; have bAL := bw2.trans (bwL.mono bw2.size); obtain ⟨p0, p1, p2, p3, p4, p5, p6, p7, _⟩ := id mL; have cD2 := cD wL (HG.out.tab.later bAL); have cS2 := cS wL (HG.out.num.later bAL)) | (go_at_call 59; refine cD2.mono ?_; rintro e wX ⟨rfl, rfl⟩) | (go_at_call 57; (with_reducible refine cS2.mono ?_); rintro e wS ⟨rfl, bS⟩; have mS := mL.later bS; have bAS := bAL.trans (bS.mono bAL.size); obtain ⟨q0, q1, q2, q3, q4, q5, q6, q7, _⟩ := id mS))
  all_goals
    go_wp2_with fail
    go_ret2
    exact ⟨rfl, bAS⟩
end Go.Proofs.YtgmnjghbafbopaaGreatDoor
namespace Go.Proofs.YtgmnjghbafbopaaGreatDoor
open Go.RowKit Go.Lib

def momZ : Value := momV 0 0 0 0 0 ⟨#[]⟩ 0 false
/-- What later gives: the moment with this local time. -/
def LaterG (w : World) (t : Nat) (z : Int) (has : Bool) (e : Ending) (w' : World) : Prop :=
  ∃ (Y M D H I mu : Nat) (S : ByteArray), MomOk Y M D H I mu S z has ∧ localN Y M D H I mu = t ∧ e = .returned (.tuple #[momV (Y : Int) (M : Int) (D : Int) (H : Int) (I : Int) S z has, .int .i64 0]) ∧ Below w.heap.size w w'
theorem dby_10000 (w : World) : Calls Tryz.prog 97 #[.int .i64 10000] w fun e w' => e = .returned (.int .i64 3652059) ∧ w' = w := by
  have := daysBefore_ti 10000 (by omega) (by omega) w
  rw [dby_max] at this
  exact this
set_option maxRecDepth 100000 in
set_option maxHeartbeats 8000000 in
theorem later_bad (y mo d h mi mu : Nat) (S : ByteArray) (z : Int) (has : Bool) (k : MomOk y mo d h mi mu S z has) (n : Int) (hn : n < -(localN y mo d h mi mu : Int) ∨ 315537897600000000 - (localN y mo d h mi mu : Int) ≤ n) (w : World) (hg : GrT w) :
    Calls Tryz.prog 47 #[momV (y : Int) (mo : Int) (d : Int) (h : Int) (mi : Int) S z has, .int .i64 n] w fun e w' => e = .returned (.tuple #[momZ, .int .i64 6]) ∧ Below w.heap.size w w' := by
  have cL := fun W hW => local_ti y mo d h mi mu S z has k W hW
  have hL := localN_lt k
  obtain ⟨L, hLe⟩ : ∃ L, localN y mo d h mi mu = L := ⟨_, rfl⟩
  rw [hLe] at cL hL hn
  unfold momZ
  unfold momV at cL ⊢
  have b0 : Below w.heap.size w (w.alloc (.cells #[.int .i64 (y : Int), .int .i64 (mo : Int), .int .i64 (d : Int), .int .i64 (h : Int), .int .i64 (mi : Int), .string S, .int .i64 z, .bool has] 24)) := (Below.refl _ _).alloc (Nat.le_refl _) _
  have m1 := (MomW.new w (y : Int) (mo : Int) (d : Int) (h : Int) (mi : Int) S z has).later ((Below.refl _ _).alloc (Nat.le_refl _) (.cells #[.int .i64 0, .int .i64 0, .int .i64 0, .int .i64 0, .int .i64 0, .string ⟨#[]⟩, .int .i64 0, .bool false] 24))
  have r1 := MomW.new (w.alloc (.cells #[.int .i64 (y : Int), .int .i64 (mo : Int), .int .i64 (d : Int), .int .i64 (h : Int), .int .i64 (mi : Int), .string S, .int .i64 z, .bool has] 24)) 0 0 0 0 0 ⟨#[]⟩ 0 false
  have bw1 : Below w.heap.size w ((w.alloc (.cells #[.int .i64 (y : Int), .int .i64 (mo : Int), .int .i64 (d : Int), .int .i64 (h : Int), .int .i64 (mi : Int), .string S, .int .i64 z, .bool has] 24)).alloc (.cells #[.int .i64 0, .int .i64 0, .int .i64 0, .int .i64 0, .int .i64 0, .string ⟨#[]⟩, .int .i64 0, .bool false] 24)) := b0.alloc (by simp) _
  obtain ⟨W1, hW1⟩ : ∃ W, (w.alloc (.cells #[.int .i64 (y : Int), .int .i64 (mo : Int), .int .i64 (d : Int), .int .i64 (h : Int), .int .i64 (mi : Int), .string S, .int .i64 z, .bool has] 24)).alloc (.cells #[.int .i64 0, .int .i64 0, .int .i64 0, .int .i64 0, .int .i64 0, .string ⟨#[]⟩, .int .i64 0, .bool false] 24) = W := ⟨_, rfl⟩
  rw [World.size_alloc] at r1
  rw [hW1] at m1 r1 bw1
  have HW1 := Lib.hid hW1
  clear b0 hW1
  have cL := cL W1 (hg.later bw1)
  have L0 : (0 : Int) ≤ (L : Int) := by omega
  have L9 : (L : Int) < 315537897600000000 := by omega
  have HM := Lib.hid (And.intro m1 r1)
  obtain ⟨c0, c1, c2, c3, c4, c5, c6, c7, f0, f1, f2, f3, f4, f5, f6, f7, _⟩ := m1
  clear hg k hLe hL
  by_cases hlo : n < -(L : Int)
  · clear hn
    go_enter Tryz.func47, Tryz.ntmps47
    go_wp2_with fail
    try rw [HW1.out]
    refine cL.mono ?_
    rintro e w2 ⟨rfl, b2⟩
    go_wp2_with fail
    refine (dby_10000 w2).mono ?_
    rintro e w3 ⟨rfl, rfl⟩
    have r2 := HM.out.2.later b2
    have bw2 := bw1.trans (b2.mono bw1.size)
    obtain ⟨X, hX, rX, keep, _, _⟩ := r2.setAll 0 0 0 0 0 ⟨#[]⟩ 0 false
    have bX := keep bw2 (Nat.le_succ _)
    have HX := Lib.hid hX
    have RX := Lib.hid rX
    obtain ⟨j0, j1, j2, j3, j4, j5, j6, j7, g0, g1, g2, g3, g4, g5, g6, g7, _⟩ := r2
    clear c0 c1 c2 c3 c4 c5 c6 c7 f0 f1 f2 f3 f4 f5 f6 f7 hX rX keep HM b2
    go_wp2_with fail
    rw [HX.out]
    obtain ⟨i0, i1, i2, i3, i4, i5, i6, i7, _⟩ := RX.out.at
    refine bodyPost_ret (v := .tuple #[.agg #[.int .i64 0, .int .i64 0, .int .i64 0, .int .i64 0, .int .i64 0, .string ⟨#[]⟩, .int .i64 0, .bool false], .int .i64 6]) (by simp [results, Tryz.results47, go_sem, i0, i1, i2, i3, i4, i5, i6, i7]) rfl ⟨rfl, bX⟩
  · have hhi : 315537897600000000 - (L : Int) ≤ n := hn.resolve_left hlo
    clear hn
    go_enter Tryz.func47, Tryz.ntmps47
    go_wp2_with fail
    try rw [HW1.out]
    refine cL.mono ?_
    rintro e w2 ⟨rfl, b2⟩
    go_wp2_with fail
    refine (dby_10000 w2).mono ?_
    rintro e w3 ⟨rfl, rfl⟩
    have r2 := HM.out.2.later b2
    have bw2 := bw1.trans (b2.mono bw1.size)
    obtain ⟨X, hX, rX, keep, _, _⟩ := r2.setAll 0 0 0 0 0 ⟨#[]⟩ 0 false
    have bX := keep bw2 (Nat.le_succ _)
    have HX := Lib.hid hX
    have RX := Lib.hid rX
    obtain ⟨j0, j1, j2, j3, j4, j5, j6, j7, g0, g1, g2, g3, g4, g5, g6, g7, _⟩ := r2
    clear c0 c1 c2 c3 c4 c5 c6 c7 f0 f1 f2 f3 f4 f5 f6 f7 hX rX keep HM b2
    go_wp2_with fail
    rw [HX.out]
    obtain ⟨i0, i1, i2, i3, i4, i5, i6, i7, _⟩ := RX.out.at
    refine bodyPost_ret (v := .tuple #[.agg #[.int .i64 0, .int .i64 0, .int .i64 0, .int .i64 0, .int .i64 0, .string ⟨#[]⟩, .int .i64 0, .bool false], .int .i64 6]) (by simp [results, Tryz.results47, go_sem, i0, i1, i2, i3, i4, i5, i6, i7]) rfl ⟨rfl, bX⟩
theorem clock_t (t Y M D : Nat) (hd : dayN Y M D = t / 86400000000) : localN Y M D (t % 86400000000 / 3600000000) (t % 3600000000 / 60000000) (t % 60000000) = t := by
  unfold localN
  rw [hd]
  omega
set_option maxRecDepth 100000 in
set_option maxHeartbeats 16000000 in
theorem later_ok (y mo d h mi mu : Nat) (S : ByteArray) (z : Int) (has : Bool) (k : MomOk y mo d h mi mu S z has) (n : Int) (t : Nat) (hnt : n + (localN y mo d h mi mu : Int) = (t : Int)) (ht : t < 315537897600000000) (w : World) (hg : GrT w) :
    Calls Tryz.prog 47 #[momV (y : Int) (mo : Int) (d : Int) (h : Int) (mi : Int) S z has, .int .i64 n] w (LaterG w t z has) := by
  have cL := fun W hW => local_ti y mo d h mi mu S z has k W hW
  have hL := localN_lt k
  have hz := k.zone
  obtain ⟨L, hLe⟩ : ∃ L, localN y mo d h mi mu = L := ⟨_, rfl⟩
  rw [hLe] at cL hL hnt
  unfold momV at cL ⊢
  have b0 : Below w.heap.size w (w.alloc (.cells #[.int .i64 (y : Int), .int .i64 (mo : Int), .int .i64 (d : Int), .int .i64 (h : Int), .int .i64 (mi : Int), .string S, .int .i64 z, .bool has] 24)) := (Below.refl _ _).alloc (Nat.le_refl _) _
  have m1 := (MomW.new w (y : Int) (mo : Int) (d : Int) (h : Int) (mi : Int) S z has).later ((Below.refl _ _).alloc (Nat.le_refl _) (.cells #[.int .i64 0, .int .i64 0, .int .i64 0, .int .i64 0, .int .i64 0, .string ⟨#[]⟩, .int .i64 0, .bool false] 24))
  have r1 := MomW.new (w.alloc (.cells #[.int .i64 (y : Int), .int .i64 (mo : Int), .int .i64 (d : Int), .int .i64 (h : Int), .int .i64 (mi : Int), .string S, .int .i64 z, .bool has] 24)) 0 0 0 0 0 ⟨#[]⟩ 0 false
  have bw1 : Below w.heap.size w ((w.alloc (.cells #[.int .i64 (y : Int), .int .i64 (mo : Int), .int .i64 (d : Int), .int .i64 (h : Int), .int .i64 (mi : Int), .string S, .int .i64 z, .bool has] 24)).alloc (.cells #[.int .i64 0, .int .i64 0, .int .i64 0, .int .i64 0, .int .i64 0, .string ⟨#[]⟩, .int .i64 0, .bool false] 24)) := b0.alloc (by simp) _
  obtain ⟨W1, hW1⟩ : ∃ W, (w.alloc (.cells #[.int .i64 (y : Int), .int .i64 (mo : Int), .int .i64 (d : Int), .int .i64 (h : Int), .int .i64 (mi : Int), .string S, .int .i64 z, .bool has] 24)).alloc (.cells #[.int .i64 0, .int .i64 0, .int .i64 0, .int .i64 0, .int .i64 0, .string ⟨#[]⟩, .int .i64 0, .bool false] 24) = W := ⟨_, rfl⟩
  rw [World.size_alloc] at r1
  rw [hW1] at m1 r1 bw1
  have HW1 := Lib.hid hW1
  clear b0 hW1
  have cL := cL W1 (hg.later bw1)
  have L0 : (0 : Int) ≤ (L : Int) := by omega
  have L9 : (L : Int) ≤ 400000000000000000 := by omega
  have t0 : (0 : Int) ≤ n + (L : Int) := by omega
  have t9 : n + (L : Int) < 315537897600000000 := by omega
  have HNT := Lib.hid hnt
  have hlo : ¬ n < -(L : Int) := by omega
  have hhi : ¬ 315537897600000000 - (L : Int) ≤ n := by omega
  have cT := fun W hW => dateOf_ti (t / 86400000000) (by omega) W hW
  simp only [Int.natCast_ediv, Int.cast_ofNat_Int] at cT
  rw [← hnt] at cT
  obtain ⟨RS, hRS⟩ : ∃ R : ByteArray, bodyL (t % 60000000 * 10 ^ 14) = R.data.toList := ⟨⟨(bodyL (t % 60000000 * 10 ^ 14)).toArray⟩, rfl⟩
  have hmu : t % 60000000 < 60000000 := Nat.mod_lt _ (by omega)
  have cS := fun W hW => seconds_ti ((t % 60000000 : Nat) : Int) (by omega) (by omega) RS (by
    rw [decide_eq_false (show ¬ ((t % 60000000 : Nat) : Int) < 0 by omega), Int.natAbs_natCast]
    unfold secT
    rw [body_resR (mic_lt (lt36 (by omega))), hRS]) W hW
  simp only [Int.natCast_emod, Int.cast_ofNat_Int] at cS
  rw [← hnt] at cS
  have HOK : Hid (∀ Y M D, DateOk Y M D → dayN Y M D = t / 86400000000 → MomOk Y M D (t % 86400000000 / 3600000000) (t % 3600000000 / 60000000) (t % 60000000) RS z has) := Lib.hid (fun Y M D hd _ => ⟨hd, by omega, by omega, hmu, hRS.symm, hz⟩)
  have HM := Lib.hid (And.intro m1 r1)
  have HG := Lib.hid hg
  obtain ⟨c0, c1, c2, c3, c4, c5, c6, c7, f0, f1, f2, f3, f4, f5, f6, f7, _⟩ := m1
  clear hg k hLe hL hz hRS hmu r1 ht hnt
  go_enter Tryz.func47, Tryz.ntmps47
  go_wp2_with fail
  try rw [HW1.out]
  refine cL.mono ?_
  rintro e w2 ⟨rfl, b2⟩
  have bw2 := bw1.trans (b2.mono bw1.size)
  go_wp2_with fail
  refine (dby_10000 w2).mono ?_
  rintro e w3 ⟨rfl, rfl⟩
  have m2 := HM.out.1.later b2
  have r2 := HM.out.2.later b2
  clear c0 c1 c2 c3 c4 c5 c6 c7 f0 f1 f2 f3 f4 f5 f6 f7 HM b2 cL
  have cT := cT _ (HG.out.tab.later bw2)
  have M2 := Lib.hid m2
  have R2 := Lib.hid r2
  obtain ⟨c0, c1, c2, c3, c4, c5, c6, c7, f0, f1, f2, f3, f4, f5, f6, f7, lt0⟩ := m2
  clear r2
  go_wp2_with fail
  refine cT.mono ?_
  rintro e w4 ⟨Y, M, D, hd, hdn, rfl, rfl⟩
  obtain ⟨V, hV, v3, keepV, othV, szV⟩ := M2.out.setDate (Y : Int) (M : Int) (D : Int)
  have rV := R2.out.other (othV _ (by simp)) (Nat.le_of_eq szV.symm)
  have bV := keepV bw2 (Nat.le_refl _)
  have HV := Lib.hid hV
  have V3 := Lib.hid v3
  have RV := Lib.hid rV
  have HD := Lib.hid (And.intro hd hdn)
  clear hV v3 keepV othV szV rV hd hdn cT M2 R2
  go_wp2_with fail
  try rw [HV.out]
  clear c0 c1 c2 c3 c4 c5 c6 c7 f0 f1 f2 f3 f4 f5 f6 f7 lt0
  refine (cS V (HG.out.num.later bV)).mono ?_
  rintro e w5 ⟨rfl, b5⟩
  have m5 := V3.out.later b5
  have r5 := RV.out.later b5
  have b5w := bV.trans (b5.mono bV.size)
  obtain ⟨V6, hV6, v6, keep6, oth6, sz6⟩ := m5.setClock ((n + (L : Int)) % 86400000000 / 3600000000) ((n + (L : Int)) % 3600000000 / 60000000) RS
  have r6 := r5.other (oth6 _ (by simp)) (Nat.le_of_eq sz6.symm)
  obtain ⟨V7, hV7, r7, keep7, _, _⟩ := r6.setAll (Y : Int) (M : Int) (D : Int) ((n + (L : Int)) % 86400000000 / 3600000000) ((n + (L : Int)) % 3600000000 / 60000000) RS z has
  have b7 := keep7 (keep6 b5w (Nat.le_refl _)) (Nat.le_succ _)
  have H6 := Lib.hid hV6
  have H7 := Lib.hid hV7
  have R7 := Lib.hid r7
  obtain ⟨c0, c1, c2, c3, c4, c5, c6, c7, f0, f1, f2, f3, f4, f5, f6, f7, lt0⟩ := m5
  obtain ⟨j0, j1, j2, j3, j4, j5, j6, j7, g0, g1, g2, g3, g4, g5, g6, g7, lt1⟩ := r5
  clear hV6 hV7 r7 r6 v6 keep6 keep7 oth6 sz6 V3 RV HV cS b5 bV
  go_wp2_with fail
  rw [H6.out, H7.out]
  obtain ⟨i0, i1, i2, i3, i4, i5, i6, i7, _⟩ := R7.out.at
  refine bodyPost_ret (v := .tuple #[.agg #[.int .i64 (Y : Int), .int .i64 (M : Int), .int .i64 (D : Int), .int .i64 ((n + (L : Int)) % 86400000000 / 3600000000), .int .i64 ((n + (L : Int)) % 3600000000 / 60000000), .string RS, .int .i64 z, .bool has], .int .i64 0]) (by simp [results, Tryz.results47, go_sem, i0, i1, i2, i3, i4, i5, i6, i7]) rfl ⟨Y, M, D, t % 86400000000 / 3600000000, t % 3600000000 / 60000000, t % 60000000, RS, HOK.out Y M D HD.out.1 HD.out.2, clock_t t Y M D HD.out.2, by rw [HNT.out]; simp only [momV, Int.natCast_ediv, Int.natCast_emod, Int.cast_ofNat_Int], b7⟩
end Go.Proofs.YtgmnjghbafbopaaGreatDoor

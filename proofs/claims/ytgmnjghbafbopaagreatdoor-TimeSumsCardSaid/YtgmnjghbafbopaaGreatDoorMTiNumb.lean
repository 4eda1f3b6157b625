/- Dates: the contracts of number, isKind, inZone. -/
import Derived.Test.YtgmnjghbafbopaaGreatDoorMTiRead
import Derived.Test.YtgmnjghbafbopaaGreatDoorMTiC
import Derived.Test.YtgmnjghbafbopaaGreatDoorMShelfTj
import Derived.Deep.RegionHeld3
namespace Go.Proofs.YtgmnjghbafbopaaGreatDoor
open Go.RowKit Go.Lib

theorem atoi_dgs (l : List UInt8) (hl : l ≠ []) (hd : Dgs l) (h : valD l 0 < 1000000000000000000) : Lib.atoiAll l = .ok (valD l 0 : Int) := by
  obtain ⟨c, r, hcr⟩ := List.exists_cons_of_ne_nil hl
  have hp := parse_dgs l 0 hd h
  rw [hcr] at hd hp h ⊢
  have hc := (isDg_iff c).1 (hd c (by simp))
  unfold Lib.atoiAll Lib.parseMag
  simp only
  rw [if_neg (show ¬ (c.toNat = 43 ∨ c.toNat = 45) by omega), if_neg (by simp), hp]
  simp only
  rw [if_neg (by omega), if_neg (by omega), if_neg (by omega)]
theorem trim_marks (d : List UInt8) (hd : Dgs d) (p : List UInt8) (hp : p = d ∨ p = 45 :: d ∨ p = 58 :: d) : Lib.trimLeftS p [45, 58] = d := by
  have hd0 : Lib.trimLeftS d [45, 58] = d := by
    unfold Lib.trimLeftS
    cases d with
    | nil => rfl
    | cons c r =>
      have := (isDg_iff c).1 (hd c (by simp))
      rw [List.dropWhile_cons_of_neg]
      intro h
      rw [List.contains_iff_mem] at h
      simp at h
      rcases h with rfl | rfl
      · exact absurd this (by decide)
      · exact absurd this (by decide)
  rcases hp with rfl | rfl | rfl
  · exact hd0
  · unfold Lib.trimLeftS at hd0 ⊢
    rw [List.dropWhile_cons_of_pos (by decide)]
    exact hd0
  · unfold Lib.trimLeftS at hd0 ⊢
    rw [List.dropWhile_cons_of_pos (by decide)]
    exact hd0
theorem set_zeroT (w : World) : (zeroValue 186).run Tryz.prog w = .ok (.agg (Array.replicate 256 (.bool false))) w :=
  (Tryz.zeroValue186 w).trans (by rw [show Tryz.zeroCells186 = Array.replicate 256 (.bool false) by kernel_rfl])
theorem trim_ti (s : ByteArray) (w : World) :
    Calls Tryz.prog 128 #[.string s, .string ⟨#[45, 58]⟩] w fun e w' => e = .returned (.string ⟨(Lib.trimLeftS s.data.toList [45, 58]).toArray⟩) ∧ Below w.heap.size w w' :=
  Any.strings_TrimLeft_ascii Tryz.lays161 set_zeroT (by kernel_rfl) s ⟨#[45, 58]⟩ w (by decide) (fun j b h => by
    have := List.mem_of_getElem? h
    simp at this
    rcases this with rfl | rfl <;> decide)
theorem valD_small {d : List UInt8} (hd : Dgs d) (hl : d.length ≤ 4) : valD d 0 < 10000 := by
  have h := valD_lt d hd
  have : (10 : Nat) ^ d.length ≤ 10 ^ 4 := Nat.pow_le_pow_right (by decide) hl
  omega
set_option maxRecDepth 100000 in
set_option maxHeartbeats 4000000 in
theorem number_ti (p : ByteArray) (d : List UInt8) (hd : Dgs d) (h0 : d ≠ []) (hl : d.length ≤ 4) (hp : p.data.toList = d ∨ p.data.toList = 45 :: d ∨ p.data.toList = 58 :: d) (w : World) :
    Calls Tryz.prog 94 #[.string p] w fun e w' => e = .returned (.int .i64 (valD d 0 : Nat)) ∧ Below w.heap.size w w' := by
  have cT := fun W => trim_ti p W
  rw [trim_marks d hd _ hp] at cT
  obtain ⟨D, hD⟩ : ∃ D : ByteArray, (⟨d.toArray⟩ : ByteArray) = D := ⟨_, rfl⟩
  have hDl : D.data.toList = d := by rw [← hD]
  have hs := valD_small hd hl
  have cA := fun W => atoi_good D (by rw [← bsize, hDl]; omega) (valD d 0 : Nat) (by rw [hDl]; exact atoi_dgs d h0 hd (by omega)) W
  rw [hD] at cT
  obtain ⟨V, hV⟩ : ∃ V, valD d 0 = V := ⟨_, rfl⟩
  rw [hV] at cA hs ⊢
  clear hd h0 hl hp hD hDl hV
  go_enter Tryz.func94, Tryz.ntmps94
  go_wp2_with fail
  refine (cT _).mono ?_
  rintro e w1 ⟨rfl, b1⟩
  go_wp2_with fail
  refine (cA _).mono ?_
  rintro e w2 ⟨rfl, b2⟩
  go_wp2_with fail
  go_ret
  exact ⟨rfl, b1.trans (b2.mono b1.size)⟩
set_option maxRecDepth 100000 in
theorem isKind_ti (k : Int) (b : Bool) (hb : decide (k = 6 ∨ k = 7 ∨ k = 8) = b) (w : World) :
    Calls Tryz.prog 42 #[.int .i64 k] w fun e w' => e = .returned (.bool b) ∧ w' = w := by
  by_cases h6 : k = 6
  · subst h6
    rw [decide_eq_true (.inl rfl)] at hb
    subst hb
    go_enter Tryz.func42, Tryz.ntmps42
    go_wp2_with fail
    go_ret
    exact ⟨rfl, rfl⟩
  by_cases h7 : k = 7
  · subst h7
    rw [decide_eq_true (.inr (.inl rfl))] at hb
    subst hb
    go_enter Tryz.func42, Tryz.ntmps42
    go_wp2_with fail
    go_ret
    exact ⟨rfl, rfl⟩
  by_cases h8 : k = 8
  · subst h8
    rw [decide_eq_true (.inr (.inr rfl))] at hb
    subst hb
    go_enter Tryz.func42, Tryz.ntmps42
    go_wp2_with fail
    go_ret
    exact ⟨rfl, rfl⟩
  · rw [decide_eq_false (by omega)] at hb
    subst hb
    have e6 : (k == 6) = false := beq_eq_false_iff_ne.2 h6
    have e7 : (k == 7) = false := beq_eq_false_iff_ne.2 h7
    have e8 : (k == 8) = false := beq_eq_false_iff_ne.2 h8
    go_enter Tryz.func42, Tryz.ntmps42
    go_wp2_with fail
    go_ret
    exact ⟨rfl, rfl⟩
end Go.Proofs.YtgmnjghbafbopaaGreatDoor

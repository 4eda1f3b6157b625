/- Durations: the contracts of the specification's reader: digit, sign, has, part, small. -/
import Derived.Test.YtdfgifnccghlmabGreatDoorMDuE
import Derived.Deep.RegionHeld3
namespace Go.Proofs.YtdfgifnccghlmabGreatDoor
open Go.RowKit Go.Lib

theorem ba_get (s : ByteArray) (i : Nat) (h : i < s.size) : s.data.toList[i]? = some s[i] := by
  have hl : i < s.data.toList.length := by rw [← ba_size]; exact h
  rw [List.getElem?_eq_getElem hl]
  rfl
theorem dgAt_in (s : ByteArray) (i : Nat) (h : i < s.size) : dgAt s.data.toList i = isDg s[i] := by
  unfold dgAt
  rw [ba_get s i h]
theorem dgAt_out (s : ByteArray) (i : Nat) (h : ¬ i < s.size) : dgAt s.data.toList i = false := by
  unfold dgAt
  rw [List.getElem?_eq_none (by rw [← ba_size]; omega)]
set_option maxRecDepth 100000 in
set_option maxHeartbeats 2000000 in
theorem digit6 (s : ByteArray) (i : Nat) (b : Bool) (hb : dgAt s.data.toList i = b) (w : World) :
    Calls Tryz.prog 57 #[.string s, .int .i64 (i : Int)] w fun e w' => e = .returned (.bool b) ∧ w' = w := by
  by_cases h : i < s.size
  · rw [dgAt_in s i h] at hb
    have hz : (i : Int) < (s.size : Int) := by omega
    by_cases h1 : 48 ≤ s[i].toNat
    · have h1z : (48 : Int) ≤ (s[i].toNat : Int) := by omega
      by_cases h2 : s[i].toNat ≤ 57
      · have h2z : (s[i].toNat : Int) ≤ 57 := by omega
        obtain rfl : true = b := by rw [← hb]; exact ((isDg_iff _).2 ⟨h1, h2⟩).symm
        clear hb
        go_enter Tryz.func57, Tryz.ntmps57
        go_wp2_with fail
        go_ret
        exact ⟨rfl, rfl⟩
      · have h2z : ¬ (s[i].toNat : Int) ≤ 57 := by omega
        obtain rfl : false = b := by
          rw [← hb]; symm
          rw [← Bool.not_eq_true, isDg_iff]; omega
        clear hb
        go_enter Tryz.func57, Tryz.ntmps57
        go_wp2_with fail
        go_ret
        exact ⟨rfl, rfl⟩
    · have h1z : ¬ (48 : Int) ≤ (s[i].toNat : Int) := by omega
      obtain rfl : false = b := by
        rw [← hb]; symm
        rw [← Bool.not_eq_true, isDg_iff]; omega
      clear hb
      go_enter Tryz.func57, Tryz.ntmps57
      go_wp2_with fail
      go_ret
      exact ⟨rfl, rfl⟩
  · rw [dgAt_out s i h] at hb
    subst hb
    have hz : ¬ (i : Int) < (s.size : Int) := by omega
    go_enter Tryz.func57, Tryz.ntmps57
    go_wp2_with fail
    go_ret
    exact ⟨rfl, rfl⟩
theorem head_cases (s : ByteArray) (c : UInt8) : (∃ h : 0 < s.size, s[0].toNat = c.toNat ∧ Lib.hasPrefix s.data.toList [c] = true ∧ Lib.trimPrefix s.data.toList [c] = (s.extract 1 s.size).data.toList) ∨
    ((s.size = 0 ∨ ∃ h : 0 < s.size, ¬ s[0].toNat = c.toNat) ∧ Lib.hasPrefix s.data.toList [c] = false ∧ Lib.trimPrefix s.data.toList [c] = s.data.toList) := by
  have no : Lib.hasPrefix s.data.toList [c] = false → Lib.trimPrefix s.data.toList [c] = s.data.toList := fun h => by unfold Lib.trimPrefix; rw [h]; rfl
  rcases Nat.eq_zero_or_pos s.size with h0 | h0
  · have hd : s.data.toList = [] := List.eq_nil_of_length_eq_zero (by rw [← ba_size]; exact h0)
    have : Lib.hasPrefix s.data.toList [c] = false := by rw [hd]; rfl
    exact .inr ⟨.inl h0, this, no this⟩
  · have hl : 0 < s.data.toList.length := by rw [← ba_size]; exact h0
    have hd : s.data.toList = s[0] :: s.data.toList.drop 1 := by
      have := List.drop_eq_getElem_cons hl
      rw [List.drop_zero] at this
      exact this
    have hp : Lib.hasPrefix s.data.toList [c] = (c == s[0]) := by
      conv => lhs; rw [hd]
      simp [Lib.hasPrefix, List.isPrefixOf]
    by_cases h1 : s[0] = c
    · have e : Lib.hasPrefix s.data.toList [c] = true := by rw [hp, h1]; simp
      refine .inl ⟨h0, by rw [h1], e, ?_⟩
      unfold Lib.trimPrefix
      rw [if_pos e, ByteArray.data_extract, Array.toList_extract, List.extract_eq_take_drop]
      exact (List.take_of_length_le (by rw [List.length_drop, ← ba_size]; exact Nat.le_refl _)).symm
    · have e : Lib.hasPrefix s.data.toList [c] = false := by rw [hp]; exact beq_eq_false_iff_ne.2 (fun q => h1 q.symm)
      exact .inr ⟨.inr ⟨h0, fun q => h1 (UInt8.toNat.inj q)⟩, e, no e⟩
theorem ba_same {s r : ByteArray} (h : s.data.toList = r.data.toList) : r = s := by rw [bytes_eq]; exact h.symm
/-- A reader. -/
def rdV (s : ByteArray) (ok : Bool) : Value := .agg #[.string s, .bool ok]
set_option maxRecDepth 100000 in
set_option maxHeartbeats 2000000 in
theorem sign6 (s R : ByteArray) (ok m : Bool) (hs : s.size ≤ 200) (hm : Lib.hasPrefix s.data.toList [45] = m) (hR : Lib.trimPrefix s.data.toList [45] = R.data.toList) (w : World) :
    Calls Tryz.prog 29 #[rdV s ok] w fun e w' => e = .returned (.tuple #[rdV R ok, .bool m]) ∧ Below w.heap.size w w' := by
  rcases head_cases s 45 with ⟨h0, h1, h2, h3⟩ | ⟨h1, h2, h3⟩
  · rw [h2] at hm
    rw [h3] at hR
    obtain rfl := ba_same hR
    subst hm
    have h0z : (0 : Int) < (s.size : Int) := by omega
    have h1z : ((s[0].toNat : Int) == 45) = true := by rw [h1]; rfl
    clear hR h1 h2 h3
    unfold rdV
    go_enter Tryz.func29, Tryz.ntmps29
    go_wp2_with fail
    go_region
    all_goals
      go_wp2_with fail
      exact bodyPost_ret (v := .tuple #[rdV (s.extract 1 s.size) ok, .bool true]) (by simp [results, Tryz.results29, go_sem, rdV]) rfl ⟨rfl, by repeat (first | exact Below.refl _ _ | (refine Below.drew ?_) | (refine Below.setCell ?_ (by simp) _) | (refine Below.alloc ?_ (by simp) _))⟩
  · rw [h2] at hm
    rw [h3] at hR
    obtain rfl := ba_same hR
    subst hm
    clear hR h2 h3
    rcases h1 with h1 | ⟨h0, h1⟩
    · have h0z : ¬ (0 : Int) < (R.size : Int) := by omega
      clear h1
      unfold rdV
      go_enter Tryz.func29, Tryz.ntmps29
      go_wp2_with fail
      exact bodyPost_ret (v := .tuple #[rdV R ok, .bool false]) (by simp [results, Tryz.results29, go_sem, rdV]) rfl ⟨rfl, by repeat (first | exact Below.refl _ _ | (refine Below.drew ?_) | (refine Below.setCell ?_ (by simp) _) | (refine Below.alloc ?_ (by simp) _))⟩
    · have h0z : (0 : Int) < (R.size : Int) := by omega
      have h1z : ((R[0].toNat : Int) == 45) = false := beq_eq_false_iff_ne.2 (by have : (45 : UInt8).toNat = 45 := rfl; omega)
      clear h1
      unfold rdV
      go_enter Tryz.func29, Tryz.ntmps29
      go_wp2_with fail
      exact bodyPost_ret (v := .tuple #[rdV R ok, .bool false]) (by simp [results, Tryz.results29, go_sem, rdV]) rfl ⟨rfl, by repeat (first | exact Below.refl _ _ | (refine Below.drew ?_) | (refine Below.setCell ?_ (by simp) _) | (refine Below.alloc ?_ (by simp) _))⟩
set_option maxRecDepth 100000 in
set_option maxHeartbeats 2000000 in
theorem has6 (s R : ByteArray) (c : UInt8) (cz : Int) (hcz : (c.toNat : Int) = cz) (ok m : Bool) (hs : s.size ≤ 200) (hm : Lib.hasPrefix s.data.toList [c] = m) (hR : Lib.trimPrefix s.data.toList [c] = R.data.toList) (w : World) :
    Calls Tryz.prog 30 #[rdV s ok, .int .u8 cz] w fun e w' => e = .returned (rdV R (ok && m)) ∧ Below w.heap.size w w' := by
  rcases head_cases s c with ⟨h0, h1, h2, h3⟩ | ⟨h1, h2, h3⟩
  · rw [h2] at hm
    rw [h3] at hR
    obtain rfl := ba_same hR
    subst hm
    rw [Bool.and_true]
    have h0z : (0 : Int) < (s.size : Int) := by omega
    have h1z : ((s[0].toNat : Int) == cz) = true := by rw [h1, hcz]; simp
    clear hR h1 h2 h3 hcz
    unfold rdV
    go_enter Tryz.func30, Tryz.ntmps30
    go_wp2_with fail
    go_region
    all_goals
      go_wp2_with fail
      exact bodyPost_ret (v := rdV (s.extract 1 s.size) ok) (by simp [results, Tryz.results30, go_sem, rdV]) rfl ⟨rfl, by repeat (first | exact Below.refl _ _ | (refine Below.drew ?_) | (refine Below.setCell ?_ (by simp) _) | (refine Below.alloc ?_ (by simp) _))⟩
  · rw [h2] at hm
    rw [h3] at hR
    obtain rfl := ba_same hR
    subst hm
    rw [Bool.and_false]
    clear hR h2 h3
    rcases h1 with h1 | ⟨h0, h1⟩
    · have h0z : ¬ (0 : Int) < (R.size : Int) := by omega
      clear h1 hcz
      unfold rdV
      go_enter Tryz.func30, Tryz.ntmps30
      go_wp2_with fail
      exact bodyPost_ret (v := rdV R false) (by simp [results, Tryz.results30, go_sem, rdV]) rfl ⟨rfl, by repeat (first | exact Below.refl _ _ | (refine Below.drew ?_) | (refine Below.setCell ?_ (by simp) _) | (refine Below.alloc ?_ (by simp) _))⟩
    · have h0z : (0 : Int) < (R.size : Int) := by omega
      have h1z : ((R[0].toNat : Int) == cz) = false := beq_eq_false_iff_ne.2 (by omega)
      clear h1 hcz
      unfold rdV
      go_enter Tryz.func30, Tryz.ntmps30
      go_wp2_with fail
      exact bodyPost_ret (v := rdV R false) (by simp [results, Tryz.results30, go_sem, rdV]) rfl ⟨rfl, by repeat (first | exact Below.refl _ _ | (refine Below.drew ?_) | (refine Below.setCell ?_ (by simp) _) | (refine Below.alloc ?_ (by simp) _))⟩
set_option maxRecDepth 100000 in
set_option maxHeartbeats 4000000 in
theorem small6 (s : ByteArray) (n : Nat) (hs : s.size ≤ 200) (hd : Dgs s.data.toList) (hn : smallF 0 s.data.toList = n) (w : World) :
    Calls Tryz.prog 32 #[.string s] w fun e w' => e = .returned (.int .i64 (n : Int)) ∧ w' = w := by
  have HD := Lib.hid hd
  have HN := Lib.hid hn
  clear hd hn
  go_enter Tryz.func32, Tryz.ntmps32
  go_wp2_with fail
  go_loop [3, 4] (fun n i => ∃ (k m : Nat), k ≤ s.size ∧ i = .int .i64 (k : Int) ∧ n = .int .i64 (m : Int) ∧ m ≤ 10000000000009 ∧ Hid (smallF 0 (s.data.toList.take k) = m)) (fun _ i => s.size - (intOf i).toNat)
  case atStart => exact ⟨0, 0, Nat.zero_le _, rfl, rfl, by omega, Lib.hid rfl⟩
  case round =>
    obtain ⟨k, m, hk, rfl, rfl, hm, HM⟩ := hrel
    by_cases hlt : k < s.size
    · have hltz : (k : Int) < (s.size : Int) := by omega
      have ht : s.data.toList.take (k + 1) = s.data.toList.take k ++ [s[k]] := by
        rw [List.take_succ_eq_append_getElem (by rw [← ba_size]; exact hlt)]; rfl
      have hdg := (isDg_iff s[k]).1 (HD.out _ (by
        have : s[k] ∈ s.data.toList := by
          have := List.getElem_mem (l := s.data.toList) (n := k) (by rw [← ba_size]; exact hlt)
          exact this
        exact this))
      have d1 : (48 : Int) ≤ (s[k].toNat : Int) := by omega
      have d2 : (s[k].toNat : Int) ≤ 57 := by omega
      have hsn := smallF_snoc s[k] (s.data.toList.take k) 0
      rw [← ht, HM.out] at hsn
      by_cases hb : m ≤ 1000000000000
      · have hbz : (m : Int) ≤ 1000000000000 := by omega
        rw [if_pos hb] at hsn
        have HS := Lib.hid hsn
        obtain ⟨d, hdd⟩ : ∃ d : Nat, d = s[k].toNat - 48 := ⟨_, rfl⟩
        have hd9 : d ≤ 9 := by omega
        have hdz : ((s[k].toNat : Int) - 48) = (d : Int) := by omega
        have HDD := Lib.hid hdd
        clear hsn ht hdg hdd HM
        go_wp2_with fail
        go_round
        case rel => exact ⟨k + 1, 10 * m + d, by omega, by go_num, by congr 1, by omega, Lib.hid (by rw [HS.out, HDD.out])⟩
        case measure => simp [intOf]; omega
      · have hbz : ¬ (m : Int) ≤ 1000000000000 := by omega
        rw [if_neg hb] at hsn
        have HS := Lib.hid hsn
        clear hsn ht hdg HM
        go_wp2_with fail
        go_round
        case rel => exact ⟨k + 1, m, by omega, by go_num, rfl, hm, HS⟩
        case measure => simp [intOf]; omega
    · have hltz : ¬ (k : Int) < (s.size : Int) := by omega
      go_wp2_with fail
      go_ret
      have e : m = n := by
        have := HM.out
        rw [List.take_of_length_le (by rw [← ba_size]; omega), HN.out] at this
        exact this.symm
      exact ⟨by rw [e]; rfl, rfl⟩
end Go.Proofs.YtdfgifnccghlmabGreatDoor

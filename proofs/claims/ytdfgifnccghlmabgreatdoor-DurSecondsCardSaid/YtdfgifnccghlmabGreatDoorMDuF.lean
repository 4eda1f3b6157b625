/- Durations: the contracts of the specification's reader: digit, sign, has, part, small. Durations: the contract of the specification's reader.part. -/
import Derived.Test.YtdfgifnccghlmabGreatDoorMDuE
import Derived.Deep.RegionHeld3
import Derived.IntWalk
namespace Go.Proofs.YtdfgifnccghlmabGreatDoor
open Go.RowKit Go.Lib

theorem ba_get (s : ByteArray) (i : Nat) (h : i < s.size) : s.data.toList[i]? = some s[i] := by
  have hl : i < s.data.toList.length := by rw [← ba_size]; exact h
  rw [List.getElem?_eq_getElem hl]
  rfl
theorem dgAt_in (s : ByteArray) (i : Nat) (h : i < s.size) : dgAt s.data.toList i = isDg s[i] := by
  unfold dgAt
  rw [ba_get s i h]
theorem dgAt_out (s : ByteArray) (i : Nat) (h : ¬ i < s.size) : dgAt s.data.toList i = false := by
  unfold dgAt
  rw [List.getElem?_eq_none (by rw [← ba_size]; omega)]
set_option maxRecDepth 100000 in
set_option maxHeartbeats 2000000 in
theorem digit6 (s : ByteArray) (i : Nat) (b : Bool) (hb : dgAt s.data.toList i = b) (w : World) :
    Calls Tryz.prog 57 #[.string s, .int .i64 (i : Int)] w fun e w' => e = .returned (.bool b) ∧ w' = w := by
  by_cases h : i < s.size
  · rw [dgAt_in s i h] at hb
    have hz : (i : Int) < (s.size : Int) := by omega
    by_cases h1 : 48 ≤ s[i].toNat
    · have h1z : (48 : Int) ≤ (s[i].toNat : Int) := by omega
      by_cases h2 : s[i].toNat ≤ 57
      · have h2z : (s[i].toNat : Int) ≤ 57 := by omega
        obtain rfl : true = b := by rw [← hb]; exact ((isDg_iff _).2 ⟨h1, h2⟩).symm
        clear hb
        go_enter Tryz.func57, Tryz.ntmps57
        go_wp2_with fail
        go_ret
        exact ⟨rfl, rfl⟩
      · have h2z : ¬ (s[i].toNat : Int) ≤ 57 := by omega
        obtain rfl : false = b := by
          rw [← hb]; symm
          rw [← Bool.not_eq_true, isDg_iff]; omega
        clear hb
        go_enter Tryz.func57, Tryz.ntmps57
        go_wp2_with fail
        go_ret
        exact ⟨rfl, rfl⟩
    · have h1z : ¬ (48 : Int) ≤ (s[i].toNat : Int) := by omega
      obtain rfl : false = b := by
        rw [← hb]; symm
        rw [← Bool.not_eq_true, isDg_iff]; omega
      clear hb
      go_enter Tryz.func57, Tryz.ntmps57
      go_wp2_with fail
      go_ret
      exact ⟨rfl, rfl⟩
  · rw [dgAt_out s i h] at hb
    subst hb
    have hz : ¬ (i : Int) < (s.size : Int) := by omega
    go_enter Tryz.func57, Tryz.ntmps57
    go_wp2_with fail
    go_ret
    exact ⟨rfl, rfl⟩
theorem head_cases (s : ByteArray) (c : UInt8) : (∃ h : 0 < s.size, s[0].toNat = c.toNat ∧ Lib.hasPrefix s.data.toList [c] = true ∧ Lib.trimPrefix s.data.toList [c] = (s.extract 1 s.size).data.toList) ∨
    ((s.size = 0 ∨ ∃ h : 0 < s.size, ¬ s[0].toNat = c.toNat) ∧ Lib.hasPrefix s.data.toList [c] = false ∧ Lib.trimPrefix s.data.toList [c] = s.data.toList) := by
  have no : Lib.hasPrefix s.data.toList [c] = false → Lib.trimPrefix s.data.toList [c] = s.data.toList := fun h => by unfold Lib.trimPrefix; rw [h]; rfl
  rcases Nat.eq_zero_or_pos s.size with h0 | h0
  · have hd : s.data.toList = [] := List.eq_nil_of_length_eq_zero (by rw [← ba_size]; exact h0)
    have : Lib.hasPrefix s.data.toList [c] = false := by rw [hd]; rfl
    exact .inr ⟨.inl h0, this, no this⟩
  · have hl : 0 < s.data.toList.length := by rw [← ba_size]; exact h0
    have hd : s.data.toList = s[0] :: s.data.toList.drop 1 := by
      have := List.drop_eq_getElem_cons hl
      rw [List.drop_zero] at this
      exact this
    have hp : Lib.hasPrefix s.data.toList [c] = (c == s[0]) := by
      conv => lhs; rw [hd]
      simp [Lib.hasPrefix, List.isPrefixOf]
    by_cases h1 : s[0] = c
    · have e : Lib.hasPrefix s.data.toList [c] = true := by rw [hp, h1]; simp
      refine .inl ⟨h0, by rw [h1], e, ?_⟩
      unfold Lib.trimPrefix
      rw [if_pos e, ByteArray.data_extract, Array.toList_extract, List.extract_eq_take_drop]
      exact (List.take_of_length_le (by rw [List.length_drop, ← ba_size]; exact Nat.le_refl _)).symm
    · have e : Lib.hasPrefix s.data.toList [c] = false := by rw [hp]; exact beq_eq_false_iff_ne.2 (fun q => h1 q.symm)
      exact .inr ⟨.inr ⟨h0, fun q => h1 (UInt8.toNat.inj q)⟩, e, no e⟩
theorem ba_same {s r : ByteArray} (h : s.data.toList = r.data.toList) : r = s := by rw [bytes_eq]; exact h.symm
/-- A reader. -/
def rdV (s : ByteArray) (ok : Bool) : Value := .agg #[.string s, .bool ok]
set_option maxRecDepth 100000 in
set_option maxHeartbeats 2000000 in
theorem sign6 (s R : ByteArray) (ok m : Bool) (hs : s.size ≤ 200) (hm : Lib.hasPrefix s.data.toList [45] = m) (hR : Lib.trimPrefix s.data.toList [45] = R.data.toList) (w : World) :
    Calls Tryz.prog 29 #[rdV s ok] w fun e w' => e = .returned (.tuple #[rdV R ok, .bool m]) ∧ Below w.heap.size w w' := by
  rcases head_cases s 45 with ⟨h0, h1, h2, h3⟩ | ⟨h1, h2, h3⟩
  · rw [h2] at hm
    rw [h3] at hR
    obtain rfl := ba_same hR
    subst hm
    have h0z : (0 : Int) < (s.size : Int) := by omega
    have h1z : ((s[0].toNat : Int) == 45) = true := by rw [h1]; rfl
    clear hR h1 h2 h3
    unfold rdV
    go_enter Tryz.func29, Tryz.ntmps29
    go_wp2_with fail
    go_region
    all_goals
      go_wp2_with fail
      exact bodyPost_ret (v := .tuple #[rdV (s.extract 1 s.size) ok, .bool true]) (by simp [results, Tryz.results29, go_sem, rdV]) rfl ⟨rfl, by repeat (first | exact Below.refl _ _ | (refine Below.drew ?_) | (refine Below.setCell ?_ (by simp) _) | (refine Below.alloc ?_ (by simp) _))⟩
  · rw [h2] at hm
    rw [h3] at hR
    obtain rfl := ba_same hR
    subst hm
    clear hR h2 h3
    rcases h1 with h1 | ⟨h0, h1⟩
    · have h0z : ¬ (0 : Int) < (R.size : Int) := by omega
      clear h1
      unfold rdV
      go_enter Tryz.func29, Tryz.ntmps29
      go_wp2_with fail
      exact bodyPost_ret (v := .tuple #[rdV R ok, .bool false]) (by simp [results, Tryz.results29, go_sem, rdV]) rfl ⟨rfl, by repeat (first | exact Below.refl _ _ | (refine Below.drew ?_) | (refine Below.setCell ?_ (by simp) _) | (refine Below.alloc ?_ (by simp) _))⟩
    · have h0z : (0 : Int) < (R.size : Int) := by omega
      have h1z : ((R[0].toNat : Int) == 45) = false := beq_eq_false_iff_ne.2 (by have : (45 : UInt8).toNat = 45 := rfl; omega)
      clear h1
      unfold rdV
      go_enter Tryz.func29, Tryz.ntmps29
      go_wp2_with fail
      exact bodyPost_ret (v := .tuple #[rdV R ok, .bool false]) (by simp [results, Tryz.results29, go_sem, rdV]) rfl ⟨rfl, by repeat (first | exact Below.refl _ _ | (refine Below.drew ?_) | (refine Below.setCell ?_ (by simp) _) | (refine Below.alloc ?_ (by simp) _))⟩
set_option maxRecDepth 100000 in
set_option maxHeartbeats 2000000 in
theorem has6 (s R : ByteArray) (c : UInt8) (cz : Int) (hcz : (c.toNat : Int) = cz) (ok m : Bool) (hs : s.size ≤ 200) (hm : Lib.hasPrefix s.data.toList [c] = m) (hR : Lib.trimPrefix s.data.toList [c] = R.data.toList) (w : World) :
    Calls Tryz.prog 30 #[rdV s ok, .int .u8 cz] w fun e w' => e = .returned (rdV R (ok && m)) ∧ Below w.heap.size w w' := by
  rcases head_cases s c with ⟨h0, h1, h2, h3⟩ | ⟨h1, h2, h3⟩
  · rw [h2] at hm
    rw [h3] at hR
    obtain rfl := ba_same hR
    subst hm
    rw [Bool.and_true]
    have h0z : (0 : Int) < (s.size : Int) := by omega
    have h1z : ((s[0].toNat : Int) == cz) = true := by rw [h1, hcz]; simp
    clear hR h1 h2 h3 hcz
    unfold rdV
    go_enter Tryz.func30, Tryz.ntmps30
    go_wp2_with fail
    go_region
    all_goals
      go_wp2_with fail
      exact bodyPost_ret (v := rdV (s.extract 1 s.size) ok) (by simp [results, Tryz.results30, go_sem, rdV]) rfl ⟨rfl, by repeat (first | exact Below.refl _ _ | (refine Below.drew ?_) | (refine Below.setCell ?_ (by simp) _) | (refine Below.alloc ?_ (by simp) _))⟩
  · rw [h2] at hm
    rw [h3] at hR
    obtain rfl := ba_same hR
    subst hm
    rw [Bool.and_false]
    clear hR h2 h3
    rcases h1 with h1 | ⟨h0, h1⟩
    · have h0z : ¬ (0 : Int) < (R.size : Int) := by omega
      clear h1 hcz
      unfold rdV
      go_enter Tryz.func30, Tryz.ntmps30
      go_wp2_with fail
      exact bodyPost_ret (v := rdV R false) (by simp [results, Tryz.results30, go_sem, rdV]) rfl ⟨rfl, by repeat (first | exact Below.refl _ _ | (refine Below.drew ?_) | (refine Below.setCell ?_ (by simp) _) | (refine Below.alloc ?_ (by simp) _))⟩
    · have h0z : (0 : Int) < (R.size : Int) := by omega
      have h1z : ((R[0].toNat : Int) == cz) = false := beq_eq_false_iff_ne.2 (by omega)
      clear h1 hcz
      unfold rdV
      go_enter Tryz.func30, Tryz.ntmps30
      go_wp2_with fail
      exact bodyPost_ret (v := rdV R false) (by simp [results, Tryz.results30, go_sem, rdV]) rfl ⟨rfl, by repeat (first | exact Below.refl _ _ | (refine Below.drew ?_) | (refine Below.setCell ?_ (by simp) _) | (refine Below.alloc ?_ (by simp) _))⟩
set_option maxRecDepth 100000 in
set_option maxHeartbeats 4000000 in
theorem small6 (s : ByteArray) (n : Nat) (hs : s.size ≤ 200) (hd : Dgs s.data.toList) (hn : smallF 0 s.data.toList = n) (w : World) :
    Calls Tryz.prog 32 #[.string s] w fun e w' => e = .returned (.int .i64 (n : Int)) ∧ w' = w := by
  have HD := Lib.hid hd
  have HN := Lib.hid hn
  clear hd hn
  go_enter Tryz.func32, Tryz.ntmps32
  go_wp2_with fail
  go_loop [3, 4] (fun n i => ∃ (k m : Nat), k ≤ s.size ∧ i = .int .i64 (k : Int) ∧ n = .int .i64 (m : Int) ∧ m ≤ 10000000000009 ∧ Hid (smallF 0 (s.data.toList.take k) = m)) (fun _ i => s.size - (intOf i).toNat)
  case atStart => exact ⟨0, 0, Nat.zero_le _, rfl, rfl, by omega, Lib.hid rfl⟩
  case round =>
    obtain ⟨k, m, hk, rfl, rfl, hm, HM⟩ := hrel
    by_cases hlt : k < s.size
    · have hltz : (k : Int) < (s.size : Int) := by omega
      have ht : s.data.toList.take (k + 1) = s.data.toList.take k ++ [s[k]] := by
        rw [List.take_succ_eq_append_getElem (by rw [← ba_size]; exact hlt)]; rfl
      have hdg := (isDg_iff s[k]).1 (HD.out _ (by
        have : s[k] ∈ s.data.toList := by
          have := List.getElem_mem (l := s.data.toList) (n := k) (by rw [← ba_size]; exact hlt)
          exact this
        exact this))
      have d1 : (48 : Int) ≤ (s[k].toNat : Int) := by omega
      have d2 : (s[k].toNat : Int) ≤ 57 := by omega
      have hsn := smallF_snoc s[k] (s.data.toList.take k) 0
      rw [← ht, HM.out] at hsn
      by_cases hb : m ≤ 1000000000000
      · have hbz : (m : Int) ≤ 1000000000000 := by omega
        rw [if_pos hb] at hsn
        have HS := Lib.hid hsn
        obtain ⟨d, hdd⟩ : ∃ d : Nat, d = s[k].toNat - 48 := ⟨_, rfl⟩
        have hd9 : d ≤ 9 := by omega
        have hdz : ((s[k].toNat : Int) - 48) = (d : Int) := by omega
        have HDD := Lib.hid hdd
        clear hsn ht hdg hdd HM
        go_wp2_with fail
        go_round
        case rel => exact ⟨k + 1, 10 * m + d, by omega, by go_num, by congr 1, by omega, Lib.hid (by rw [HS.out, HDD.out])⟩
        case measure => simp [intOf]; omega
      · have hbz : ¬ (m : Int) ≤ 1000000000000 := by omega
        rw [if_neg hb] at hsn
        have HS := Lib.hid hsn
        clear hsn ht hdg HM
        go_wp2_with fail
        go_round
        case rel => exact ⟨k + 1, m, by omega, by go_num, rfl, hm, HS⟩
        case measure => simp [intOf]; omega
    · have hltz : ¬ (k : Int) < (s.size : Int) := by omega
      go_wp2_with fail
      go_ret
      have e : m = n := by
        have := HM.out
        rw [List.take_of_length_le (by rw [← ba_size]; omega), HN.out] at this
        exact this.symm
      exact ⟨by rw [e]; rfl, rfl⟩
end Go.Proofs.YtdfgifnccghlmabGreatDoor
namespace Go.Proofs.YtdfgifnccghlmabGreatDoor
open Go.RowKit Go.Lib

theorem part_zero {c : UInt8} {frac : Bool} {l : List UInt8} (h : run1 l = 0) : partR c frac l = (l, []) := by
  unfold partR refP
  rw [if_neg (fun q => q.1 h)]
theorem part_yes {s : ByteArray} {c : UInt8} {frac : Bool} {I : Nat} (h0 : run1 s.data.toList ≠ 0) (hI : refI frac s.data.toList = I) (h : I < s.size) (hc : s[I].toNat = c.toNat) : partR c frac s.data.toList = ((s.extract (I + 1) s.size).data.toList, (s.extract 0 I).data.toList) := by
  unfold partR refP
  rw [hI, if_pos ⟨h0, by rw [ba_get s I h, UInt8.toNat.inj hc]⟩]
  simp only
  refine Prod.ext ?_ ?_
  · show s.data.toList.drop (I + 1) = _
    rw [ByteArray.data_extract, Array.toList_extract, List.extract_eq_take_drop]
    exact (List.take_of_length_le (by rw [List.length_drop, ← ba_size]; exact Nat.le_refl _)).symm
  · show s.data.toList.take I = _
    rw [ByteArray.data_extract, Array.toList_extract, List.extract_eq_take_drop]
    simp
theorem part_no {s : ByteArray} {c : UInt8} {frac : Bool} {I : Nat} (hI : refI frac s.data.toList = I) (h : ¬ ∃ h : I < s.size, s[I].toNat = c.toNat) : partR c frac s.data.toList = (s.data.toList, []) := by
  unfold partR refP
  rw [hI, if_neg]
  rintro ⟨_, q⟩
  have hl : I < s.size := by
    refine Classical.byContradiction fun k => ?_
    rw [List.getElem?_eq_none (by rw [← ba_size]; omega)] at q
    cases q
  rw [ba_get s I hl] at q
  exact h ⟨hl, by rw [Option.some.inj q]⟩
theorem dg_zero_run (l : List UInt8) (h : dgAt l 0 = true) : run1 l ≠ 0 := fun q => by
  have := run_end l
  rw [q, h] at this
  cases this
theorem dg_zero_none (l : List UInt8) (h : dgAt l 0 = false) : run1 l = 0 := by
  refine Classical.byContradiction fun q => ?_
  rw [run_lt l 0 (by omega)] at h
  cases h
set_option maxRecDepth 100000 in
set_option maxHeartbeats 8000000 in
theorem part6 (s R N : ByteArray) (c : UInt8) (cz : Int) (hcz : (c.toNat : Int) = cz) (frac ok : Bool) (hs : s.size ≤ 200) (hR : partR c frac s.data.toList = (R.data.toList, N.data.toList)) (w : World) :
    Calls Tryz.prog 31 #[rdV s ok, .int .u8 cz, .bool frac] w fun e w' => e = .returned (.tuple #[rdV R ok, .string N]) ∧ Below w.heap.size w w' := by
  obtain ⟨r1, hr1⟩ : ∃ r, run1 s.data.toList = r := ⟨_, rfl⟩
  have hr1s : r1 ≤ s.size := by rw [ba_size, ← hr1]; exact run_le _
  have d1 : ∀ k, k < r1 → dgAt s.data.toList k = true := fun k h => run_lt _ k (by rw [hr1]; exact h)
  have d2 : dgAt s.data.toList r1 = false := by rw [← hr1]; exact run_end _
  have HD1 := Lib.hid d1
  have HD2 := Lib.hid d2
  have HR := Lib.hid hR
  have HC := Lib.hid hcz
  have HR1 := Lib.hid hr1
  clear d1 d2 hR hcz hr1
  unfold rdV
  go_enter Tryz.func31, Tryz.ntmps31
  go_wp2_with fail
  go_loop [8] (fun i => ∃ k : Nat, k ≤ r1 ∧ i = .int .i64 (k : Int)) (fun i => r1 - (intOf i).toNat)
  case atStart => exact ⟨0, Nat.zero_le _, rfl⟩
  case round =>
    obtain ⟨k, hk, rfl⟩ := hrel
    by_cases hlt : k < r1
    · have cD := fun W => digit6 s k true (HD1.out k hlt) W
      go_wp2_with fail
      refine (cD _).mono ?_
      rintro e w' ⟨rfl, rfl⟩
      go_wp2_with fail
      go_round
      case rel => exact ⟨k + 1, by omega, by go_num⟩
      case measure => simp [intOf]; omega
    · obtain rfl : k = r1 := by omega
      have cD := fun W => digit6 s k false HD2.out W
      go_wp2_with fail
      refine (cD _).mono ?_
      rintro e w' ⟨rfl, rfl⟩
      clear cD
      by_cases h0 : k = 0
      · have hP := part_zero (c := c) (frac := frac) (HR1.out.trans h0)
        rw [HR.out] at hP
        obtain rfl := ba_same (congrArg Prod.fst hP)
        obtain rfl : (⟨#[]⟩ : ByteArray) = N := ba_same (s := N) (r := ⟨#[]⟩) (congrArg Prod.snd hP)
        have h0z : ((k : Int) == 0) = true := by rw [h0]; rfl
        clear hP
        go_wp2_with fail
        exact bodyPost_ret (v := .tuple #[rdV s ok, .string ⟨#[]⟩]) (by simp [results, Tryz.results31, go_sem, rdV]) rfl ⟨rfl, by repeat (first | exact Below.refl _ _ | (refine Below.drew ?_) | (refine Below.setCell ?_ (by simp) _) | (refine Below.alloc ?_ (by simp) _))⟩
      · have h0z : ((k : Int) == 0) = false := beq_eq_false_iff_ne.2 (by omega)
        have hrun : run1 s.data.toList ≠ 0 := by rw [HR1.out]; exact h0
        have HRUN := Lib.hid hrun
        clear hrun
        cases frac with
        | false =>
          have HI : Hid (refI false s.data.toList = k) := Lib.hid (by
            unfold refI
            rw [HR1.out, if_neg]
            rintro ⟨q, _⟩; cases q)
          by_cases hIn : ∃ h : k < s.size, s[k].toNat = c.toNat
          · obtain ⟨hI1, hI2⟩ := hIn
            have hP := part_yes HRUN.out HI.out hI1 hI2
            rw [HR.out] at hP
            obtain rfl := ba_same (congrArg Prod.fst hP).symm
            obtain rfl := ba_same (congrArg Prod.snd hP).symm
            have hI1z : (k : Int) < (s.size : Int) := by omega
            have hI2z : ((s[k].toNat : Int) == cz) = true := by rw [hI2, HC.out]; simp
            have hw1 : IntKind.i64.wrap ((k : Int) + 1) = (k : Int) + 1 := IntWalk.i64_in _ (by omega)
            have hw2 : 0 ≤ (k : Int) + 1 := by omega
            have hw3 : ((k : Int) + 1).toNat = k + 1 := by omega
            clear hP hI2
            go_wp2_with fail
            go_region
            all_goals
              go_wp2_with fail
              exact bodyPost_ret (v := .tuple #[rdV (s.extract (k + 1) s.size) ok, .string (s.extract 0 k)]) (by simp [results, Tryz.results31, go_sem, rdV]) rfl ⟨rfl, by repeat (first | exact Below.refl _ _ | (refine Below.drew ?_) | (refine Below.setCell ?_ (by simp) _) | (refine Below.alloc ?_ (by simp) _))⟩
          · have hP := part_no (c := c) HI.out hIn
            rw [HR.out] at hP
            obtain rfl := ba_same (congrArg Prod.fst hP)
            obtain rfl : (⟨#[]⟩ : ByteArray) = N := ba_same (s := N) (r := ⟨#[]⟩) (congrArg Prod.snd hP)
            clear hP
            by_cases hI1 : k < s.size
            · have hI1z : (k : Int) < (s.size : Int) := by omega
              have hI2z : ((s[k].toNat : Int) == cz) = false := beq_eq_false_iff_ne.2 (fun q => hIn ⟨hI1, by have := HC.out; omega⟩)
              clear hIn
              go_wp2_with fail
              exact bodyPost_ret (v := .tuple #[rdV s ok, .string ⟨#[]⟩]) (by simp [results, Tryz.results31, go_sem, rdV]) rfl ⟨rfl, by repeat (first | exact Below.refl _ _ | (refine Below.drew ?_) | (refine Below.setCell ?_ (by simp) _) | (refine Below.alloc ?_ (by simp) _))⟩
            · have hI1z : ¬ (k : Int) < (s.size : Int) := by omega
              clear hIn
              go_wp2_with fail
              exact bodyPost_ret (v := .tuple #[rdV s ok, .string ⟨#[]⟩]) (by simp [results, Tryz.results31, go_sem, rdV]) rfl ⟨rfl, by repeat (first | exact Below.refl _ _ | (refine Below.drew ?_) | (refine Below.setCell ?_ (by simp) _) | (refine Below.alloc ?_ (by simp) _))⟩
        | true =>
          by_cases hk1 : k < s.size
          · have hk1z : (k : Int) < (s.size : Int) := by omega
            by_cases hk2 : s[k].toNat = 46
            · have hk2z : ((s[k].toNat : Int) == 46) = true := by rw [hk2]; rfl
              have hdr := dgAt_drop s.data.toList (k + 1) 0
              rw [Nat.add_zero] at hdr
              have hget : s.data.toList[k]? = some 46 := by rw [ba_get s k hk1]; exact congrArg some (UInt8.toNat.inj hk2)
              cases hd : dgAt s.data.toList (k + 1) with
              | true =>
                rw [hd] at hdr
                have hr2 := dg_zero_run _ hdr.symm
                obtain ⟨r2, hr2e⟩ : ∃ r, run1 (s.data.toList.drop (k + 1)) = r := ⟨_, rfl⟩
                obtain ⟨I, hIe⟩ : ∃ I, k + 1 + r2 = I := ⟨_, rfl⟩
                have HI : Hid (refI true s.data.toList = I) := Lib.hid (by
                  unfold refI
                  rw [HR1.out, if_pos ⟨rfl, hget, hr2⟩, hr2e, hIe])
                have e1 : ∀ j : Nat, k + 1 ≤ j → j < I → dgAt s.data.toList j = true := fun j h1 h2 => by
                  rw [show j = (k + 1) + (j - (k + 1)) by omega, dgAt_drop]
                  exact run_lt _ _ (by omega)
                have e2 : dgAt s.data.toList I = false := by
                  rw [← hIe, dgAt_drop, ← hr2e]
                  exact run_end _
                have hIs : I ≤ s.size := by
                  have := run_le (s.data.toList.drop (k + 1))
                  rw [List.length_drop, ← ba_size] at this
                  omega
                have hkI : k + 1 ≤ I := by omega
                have HE1 := Lib.hid e1
                have HE2 := Lib.hid e2
                have cD := fun W => digit6 s (k + 1) true hd W
                simp only [Int.natCast_add, Int.cast_ofNat_Int] at cD
                clear hd hdr hr2 hr2e hIe e1 e2 hget hk2
                go_wp2_with fail
                refine (cD _).mono ?_
                rintro e w' ⟨rfl, rfl⟩
                clear cD
                go_wp2_with fail
                go_loop [8] (fun i => ∃ j : Nat, k + 1 ≤ j ∧ j ≤ I ∧ i = .int .i64 (j : Int)) (fun i => I - (intOf i).toNat)
                case atStart => exact ⟨k + 1, Nat.le_refl _, hkI, rfl⟩
                case round =>
                  obtain ⟨j, hj1, hj2, rfl⟩ := hrel
                  by_cases hjl : j < I
                  · have cD := fun W => digit6 s j true (HE1.out j hj1 hjl) W
                    go_wp2_with fail
                    refine (cD _).mono ?_
                    rintro e w' ⟨rfl, rfl⟩
                    go_wp2_with fail
                    go_round
                    case rel => exact ⟨j + 1, by omega, by omega, by go_num⟩
                    case measure => simp [intOf]; omega
                  · obtain rfl : j = I := by omega
                    have cD := fun W => digit6 s j false HE2.out W
                    go_wp2_with fail
                    refine (cD _).mono ?_
                    rintro e w' ⟨rfl, rfl⟩
                    clear cD
                    by_cases hIn : ∃ h : j < s.size, s[j].toNat = c.toNat
                    · obtain ⟨hI1, hI2⟩ := hIn
                      have hP := part_yes HRUN.out HI.out hI1 hI2
                      rw [HR.out] at hP
                      obtain rfl := ba_same (congrArg Prod.fst hP).symm
                      obtain rfl := ba_same (congrArg Prod.snd hP).symm
                      have hI1z : (j : Int) < (s.size : Int) := by omega
                      have hI2z : ((s[j].toNat : Int) == cz) = true := by rw [hI2, HC.out]; simp
                      have hw1 : IntKind.i64.wrap ((j : Int) + 1) = (j : Int) + 1 := IntWalk.i64_in _ (by omega)
                      have hw2 : 0 ≤ (j : Int) + 1 := by omega
                      have hw3 : ((j : Int) + 1).toNat = j + 1 := by omega
                      clear hP hI2
                      go_wp2_with fail
                      go_region
                      all_goals
                        go_wp2_with fail
                        exact bodyPost_ret (v := .tuple #[rdV (s.extract (j + 1) s.size) ok, .string (s.extract 0 j)]) (by simp [results, Tryz.results31, go_sem, rdV]) rfl ⟨rfl, by repeat (first | exact Below.refl _ _ | (refine Below.drew ?_) | (refine Below.setCell ?_ (by simp) _) | (refine Below.alloc ?_ (by simp) _))⟩
                    · have hP := part_no (c := c) HI.out hIn
                      rw [HR.out] at hP
                      obtain rfl := ba_same (congrArg Prod.fst hP)
                      obtain rfl : (⟨#[]⟩ : ByteArray) = N := ba_same (s := N) (r := ⟨#[]⟩) (congrArg Prod.snd hP)
                      clear hP
                      by_cases hI1 : j < s.size
                      · have hI1z : (j : Int) < (s.size : Int) := by omega
                        have hI2z : ((s[j].toNat : Int) == cz) = false := beq_eq_false_iff_ne.2 (fun q => hIn ⟨hI1, by have := HC.out; omega⟩)
                        clear hIn
                        go_wp2_with fail
                        exact bodyPost_ret (v := .tuple #[rdV s ok, .string ⟨#[]⟩]) (by simp [results, Tryz.results31, go_sem, rdV]) rfl ⟨rfl, by repeat (first | exact Below.refl _ _ | (refine Below.drew ?_) | (refine Below.setCell ?_ (by simp) _) | (refine Below.alloc ?_ (by simp) _))⟩
                      · have hI1z : ¬ (j : Int) < (s.size : Int) := by omega
                        clear hIn
                        go_wp2_with fail
                        exact bodyPost_ret (v := .tuple #[rdV s ok, .string ⟨#[]⟩]) (by simp [results, Tryz.results31, go_sem, rdV]) rfl ⟨rfl, by repeat (first | exact Below.refl _ _ | (refine Below.drew ?_) | (refine Below.setCell ?_ (by simp) _) | (refine Below.alloc ?_ (by simp) _))⟩
              | false =>
                rw [hd] at hdr
                have hr2 := dg_zero_none _ hdr.symm
                have HI : Hid (refI true s.data.toList = k) := Lib.hid (by
                  unfold refI
                  rw [HR1.out, if_neg (fun q => q.2.2 hr2)])
                have cD := fun W => digit6 s (k + 1) false hd W
                simp only [Int.natCast_add, Int.cast_ofNat_Int] at cD
                clear hd hdr hr2 hget hk2
                go_wp2_with fail
                refine (cD _).mono ?_
                rintro e w' ⟨rfl, rfl⟩
                clear cD
                by_cases hIn : ∃ h : k < s.size, s[k].toNat = c.toNat
                · obtain ⟨hI1, hI2⟩ := hIn
                  have hP := part_yes HRUN.out HI.out hI1 hI2
                  rw [HR.out] at hP
                  obtain rfl := ba_same (congrArg Prod.fst hP).symm
                  obtain rfl := ba_same (congrArg Prod.snd hP).symm
                  have hI1z : (k : Int) < (s.size : Int) := by omega
                  have hI2z : ((s[k].toNat : Int) == cz) = true := by rw [hI2, HC.out]; simp
                  have hw1 : IntKind.i64.wrap ((k : Int) + 1) = (k : Int) + 1 := IntWalk.i64_in _ (by omega)
                  have hw2 : 0 ≤ (k : Int) + 1 := by omega
                  have hw3 : ((k : Int) + 1).toNat = k + 1 := by omega
                  clear hP hI2
                  go_wp2_with fail
                  go_region
                  all_goals
                    go_wp2_with fail
                    exact bodyPost_ret (v := .tuple #[rdV (s.extract (k + 1) s.size) ok, .string (s.extract 0 k)]) (by simp [results, Tryz.results31, go_sem, rdV]) rfl ⟨rfl, by repeat (first | exact Below.refl _ _ | (refine Below.drew ?_) | (refine Below.setCell ?_ (by simp) _) | (refine Below.alloc ?_ (by simp) _))⟩
                · have hP := part_no (c := c) HI.out hIn
                  rw [HR.out] at hP
                  obtain rfl := ba_same (congrArg Prod.fst hP)
                  obtain rfl : (⟨#[]⟩ : ByteArray) = N := ba_same (s := N) (r := ⟨#[]⟩) (congrArg Prod.snd hP)
                  clear hP
                  by_cases hI1 : k < s.size
                  · have hI1z : (k : Int) < (s.size : Int) := by omega
                    have hI2z : ((s[k].toNat : Int) == cz) = false := beq_eq_false_iff_ne.2 (fun q => hIn ⟨hI1, by have := HC.out; omega⟩)
                    clear hIn
                    go_wp2_with fail
                    exact bodyPost_ret (v := .tuple #[rdV s ok, .string ⟨#[]⟩]) (by simp [results, Tryz.results31, go_sem, rdV]) rfl ⟨rfl, by repeat (first | exact Below.refl _ _ | (refine Below.drew ?_) | (refine Below.setCell ?_ (by simp) _) | (refine Below.alloc ?_ (by simp) _))⟩
                  · exact absurd hk1 hI1
            · have hk2z : ((s[k].toNat : Int) == 46) = false := beq_eq_false_iff_ne.2 (by omega)
              have HI : Hid (refI true s.data.toList = k) := Lib.hid (by
                unfold refI
                rw [HR1.out, if_neg]
                rintro ⟨_, q, _⟩; rw [ba_get s k hk1] at q; exact hk2 (by rw [Option.some.inj q]; rfl))
              clear hk2
              by_cases hIn : ∃ h : k < s.size, s[k].toNat = c.toNat
              · obtain ⟨hI1, hI2⟩ := hIn
                have hP := part_yes HRUN.out HI.out hI1 hI2
                rw [HR.out] at hP
                obtain rfl := ba_same (congrArg Prod.fst hP).symm
                obtain rfl := ba_same (congrArg Prod.snd hP).symm
                have hI1z : (k : Int) < (s.size : Int) := by omega
                have hI2z : ((s[k].toNat : Int) == cz) = true := by rw [hI2, HC.out]; simp
                have hw1 : IntKind.i64.wrap ((k : Int) + 1) = (k : Int) + 1 := IntWalk.i64_in _ (by omega)
                have hw2 : 0 ≤ (k : Int) + 1 := by omega
                have hw3 : ((k : Int) + 1).toNat = k + 1 := by omega
                clear hP hI2
                go_wp2_with fail
                go_region
                all_goals
                  go_wp2_with fail
                  exact bodyPost_ret (v := .tuple #[rdV (s.extract (k + 1) s.size) ok, .string (s.extract 0 k)]) (by simp [results, Tryz.results31, go_sem, rdV]) rfl ⟨rfl, by repeat (first | exact Below.refl _ _ | (refine Below.drew ?_) | (refine Below.setCell ?_ (by simp) _) | (refine Below.alloc ?_ (by simp) _))⟩
              · have hP := part_no (c := c) HI.out hIn
                rw [HR.out] at hP
                obtain rfl := ba_same (congrArg Prod.fst hP)
                obtain rfl : (⟨#[]⟩ : ByteArray) = N := ba_same (s := N) (r := ⟨#[]⟩) (congrArg Prod.snd hP)
                clear hP
                by_cases hI1 : k < s.size
                · have hI1z : (k : Int) < (s.size : Int) := by omega
                  have hI2z : ((s[k].toNat : Int) == cz) = false := beq_eq_false_iff_ne.2 (fun q => hIn ⟨hI1, by have := HC.out; omega⟩)
                  clear hIn
                  go_wp2_with fail
                  exact bodyPost_ret (v := .tuple #[rdV s ok, .string ⟨#[]⟩]) (by simp [results, Tryz.results31, go_sem, rdV]) rfl ⟨rfl, by repeat (first | exact Below.refl _ _ | (refine Below.drew ?_) | (refine Below.setCell ?_ (by simp) _) | (refine Below.alloc ?_ (by simp) _))⟩
                · exact absurd hk1 hI1
          · have hk1z : ¬ (k : Int) < (s.size : Int) := by omega
            have HI : Hid (refI true s.data.toList = k) := Lib.hid (by
              unfold refI
              rw [HR1.out, if_neg]
              rintro ⟨_, q, _⟩; rw [List.getElem?_eq_none (by rw [← ba_size]; omega)] at q; cases q)
            have hP := part_no (c := c) HI.out (fun ⟨q, _⟩ => hk1 q)
            rw [HR.out] at hP
            obtain rfl := ba_same (congrArg Prod.fst hP)
            obtain rfl : (⟨#[]⟩ : ByteArray) = N := ba_same (s := N) (r := ⟨#[]⟩) (congrArg Prod.snd hP)
            clear hP
            go_wp2_with fail
            exact bodyPost_ret (v := .tuple #[rdV s ok, .string ⟨#[]⟩]) (by simp [results, Tryz.results31, go_sem, rdV]) rfl ⟨rfl, by repeat (first | exact Below.refl _ _ | (refine Below.drew ?_) | (refine Below.setCell ?_ (by simp) _) | (refine Below.alloc ?_ (by simp) _))⟩
end Go.Proofs.YtdfgifnccghlmabGreatDoor

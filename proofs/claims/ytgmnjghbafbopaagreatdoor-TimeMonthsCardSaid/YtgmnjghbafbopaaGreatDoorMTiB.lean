/- Dates: the contracts of isLeap, daysOf, daysBefore, dayNumber, dateOf. Dates: the contracts of isSecond, isZone, microseconds, seconds. -/
import Derived.Test.YtgmnjghbafbopaaGreatDoorMTiA
import Derived.Test.YtgmnjghbafbopaaGreatDoorMNuUse
import Derived.Test.YtgmnjghbafbopaaGreatDoorMShelfTi
namespace Go.Proofs.YtgmnjghbafbopaaGreatDoor
open Go.RowKit Go.Lib

/-- The table of the months' days. -/
def TabD (w : World) : Prop := ∀ i, i < 12 → w.cell? ⟨0, i, none⟩ = some (.int .i64 (mdays.getD i 0 : Int))
theorem TabD.later {w w' : World} (h : TabD w) (hb : Below w.heap.size w w') : TabD w' := fun i hi => (hb.cell (lt_of_cell (h i hi))).trans (h i hi)
set_option maxRecDepth 100000 in
set_option maxHeartbeats 2000000 in
theorem isLeap_ti (y : Nat) (hy : y ≤ 100000) (b : Bool) (hb : lp y = b) (w : World) :
    Calls Tryz.prog 109 #[.int .i64 (y : Int)] w fun e w' => e = .returned (.bool b) ∧ w' = w := by
  have h0 : (0 : Int) ≤ (y : Int) := by omega
  have hyz : (y : Int) ≤ 100000 := by omega
  unfold lp at hb
  subst hb
  by_cases h4 : y % 4 = 0
  · have h4z : ((y : Int) % 4 == 0) = true := by rw [beq_iff_eq]; omega
    by_cases h1 : y % 100 = 0
    · have h1z : ((y : Int) % 100 == 0) = true := by rw [beq_iff_eq]; omega
      have h1y : ((y : Int) % 100 != 0) = false := by rw [bne, h1z]; rfl
      by_cases h9 : y % 400 = 0
      · have h9z : ((y : Int) % 400 == 0) = true := by rw [beq_iff_eq]; omega
        rw [decide_eq_true (.inr h9)]
        go_enter Tryz.func109, Tryz.ntmps109
        go_wp2_with fail
        go_ret
        exact ⟨rfl, rfl⟩
      · have h9z : ((y : Int) % 400 == 0) = false := beq_eq_false_iff_ne.2 (by omega)
        rw [decide_eq_false (by rintro (q | q); exact q.2 h1; exact h9 q)]
        go_enter Tryz.func109, Tryz.ntmps109
        go_wp2_with fail
        go_ret
        exact ⟨rfl, rfl⟩
    · have h1z : ((y : Int) % 100 == 0) = false := beq_eq_false_iff_ne.2 (by omega)
      have h1y : ((y : Int) % 100 != 0) = true := by rw [bne, h1z]; rfl
      rw [decide_eq_true (.inl ⟨h4, h1⟩)]
      go_enter Tryz.func109, Tryz.ntmps109
      go_wp2_with fail
      go_ret
      exact ⟨rfl, rfl⟩
  · have h4z : ((y : Int) % 4 == 0) = false := beq_eq_false_iff_ne.2 (by omega)
    have h9z : ((y : Int) % 400 == 0) = false := beq_eq_false_iff_ne.2 (by omega)
    rw [decide_eq_false (by rintro (q | q); exact h4 q.1; omega)]
    go_enter Tryz.func109, Tryz.ntmps109
    go_wp2_with fail
    go_ret
    exact ⟨rfl, rfl⟩
set_option maxRecDepth 100000 in
set_option maxHeartbeats 2000000 in
theorem daysOf_ti (y m : Nat) (hy : y ≤ 100000) (h1 : 1 ≤ m) (h2 : m ≤ 12) (w : World) (hT : TabD w) :
    Calls Tryz.prog 64 #[.int .i64 (y : Int), .int .i64 (m : Int)] w fun e w' => e = .returned (.int .i64 (dim y m : Int)) ∧ w' = w := by
  by_cases hm : m = 2
  · have hmz : ((m : Int) == 2) = true := by rw [beq_iff_eq]; omega
    obtain ⟨b, hb⟩ : ∃ b, lp y = b := ⟨_, rfl⟩
    have cL := fun W => isLeap_ti y hy b hb W
    cases b with
    | true =>
      have HV := Lib.hid (show dim y m = 29 by unfold dim lpN; rw [if_pos hm, if_pos hb])
      rw [HV.out]
      clear hm hb hT
      go_enter Tryz.func64, Tryz.ntmps64
      go_wp2_with fail
      refine (cL _).mono ?_
      rintro e w1 ⟨rfl, rfl⟩
      go_wp2_with fail
      go_ret
      exact ⟨rfl, rfl⟩
    | false =>
      have HV := Lib.hid (show dim y m = 28 by unfold dim lpN; rw [if_pos hm, if_neg (by rw [hb]; decide)])
      rw [HV.out]
      have hc := hT 1 (by omega)
      subst hm
      clear hb hT
      go_enter Tryz.func64, Tryz.ntmps64
      go_wp2_with fail
      refine (cL _).mono ?_
      rintro e w1 ⟨rfl, rfl⟩
      go_wp2_with fail
      go_ret
      exact ⟨rfl, rfl⟩
  · have hmz : ((m : Int) == 2) = false := beq_eq_false_iff_ne.2 (by omega)
    obtain ⟨k, rfl⟩ : ∃ k, m = k + 1 := ⟨m - 1, by omega⟩
    have hc := hT k (by omega)
    have hd := mdays_dim y (k + 1) h1 h2 (fun q => absurd q hm)
    rw [Nat.add_sub_cancel] at hd
    rw [hd] at hc
    have hi : (k : Int) < 12 := by omega
    have h0 : (0 : Int) ≤ (k : Int) := by omega
    have hkt : (k : Int).toNat = k := by omega
    simp only [Int.natCast_add, Int.cast_ofNat_Int] at hmz ⊢
    clear hm hT hd h1 h2
    go_enter Tryz.func64, Tryz.ntmps64
    go_wp2_with fail
    go_ret
    exact ⟨rfl, rfl⟩
set_option maxRecDepth 100000 in
set_option maxHeartbeats 2000000 in
theorem daysBefore_ti (y : Nat) (h1 : 1 ≤ y) (hy : y ≤ 100000) (w : World) :
    Calls Tryz.prog 97 #[.int .i64 (y : Int)] w fun e w' => e = .returned (.int .i64 (dby y : Int)) ∧ w' = w := by
  obtain ⟨k, rfl⟩ : ∃ k, y = k + 1 := ⟨y - 1, by omega⟩
  have hk0 : (0 : Int) ≤ (k : Int) := by omega
  have hk9 : (k : Int) ≤ 100000 := by omega
  have hd : ((dby (k + 1) : Nat) : Int) = 365 * (k : Int) + (k : Int) / 4 - (k : Int) / 100 + (k : Int) / 400 := by
    unfold dby
    simp only [Nat.add_sub_cancel]
    omega
  have HD := Lib.hid hd
  rw [HD.out]
  simp only [Int.natCast_add, Int.cast_ofNat_Int]
  clear hd h1 hy
  go_enter Tryz.func97, Tryz.ntmps97
  go_wp2_with fail
  go_ret
  exact ⟨rfl, rfl⟩
set_option maxRecDepth 100000 in
set_option maxHeartbeats 4000000 in
theorem dayNumber_ti (y m d : Nat) (h : DateOk y m d) (w : World) (hT : TabD w) :
    Calls Tryz.prog 59 #[.int .i64 (y : Int), .int .i64 (m : Int), .int .i64 (d : Int)] w fun e w' => e = .returned (.int .i64 (dayN y m d : Int)) ∧ w' = w := by
  obtain ⟨y1, y2, m1, m2, d1, d2⟩ := h
  have hd31 := (dim_le y m).2
  have cB := fun W => daysBefore_ti y y1 (by omega) W
  have hdl : dby y ≤ 4000000 := by
    have := dby_le (y - 1)
    rw [show y - 1 + 1 = y by omega] at this
    omega
  have HT := Lib.hid hT
  have e12 := cumD_mono y m2
  rw [cumD_12] at e12
  have e12 : cumD y m ≤ 366 := by have := lpN_le y; omega
  have HE := Lib.hid e12
  obtain ⟨D0, hD0⟩ : ∃ D, dby y = D := ⟨_, rfl⟩
  have HDN := Lib.hid (show dayN y m d = D0 + cumD y (m - 1) + (d - 1) by unfold dayN; rw [hD0])
  rw [hD0] at cB hdl
  rw [HDN.out]
  obtain ⟨RES, hRES⟩ : ∃ R, D0 + cumD y (m - 1) + (d - 1) = R := ⟨_, rfl⟩
  have HRES := Lib.hid hRES
  rw [hRES]
  clear hT e12 hD0 hRES HDN
  go_enter Tryz.func59, Tryz.ntmps59
  go_wp2_with fail
  refine (cB _).mono ?_
  rintro e w1 ⟨rfl, rfl⟩
  clear cB
  go_wp2_with fail
  go_loop [7, 8] (fun s7 s8 => ∃ (k N : Nat), 1 ≤ k ∧ k ≤ m ∧ s8 = .int .i64 (k : Int) ∧ s7 = .int .i64 (N : Int) ∧ Hid (N = D0 + cumD y (k - 1) + (d - 1)) ∧ N ≤ 4001000) (fun _ s8 => m - (intOf s8).toNat)
  case atStart => exact ⟨1, D0 + (d - 1), Nat.le_refl _, m1, rfl, by congr 1; omega, Lib.hid (by show _ = D0 + 0 + (d - 1); omega), by omega⟩
  case round =>
    obtain ⟨k, N, k1, k2, rfl, rfl, HN, hN⟩ := hrel
    by_cases hlt : k < m
    · have hz : (k : Int) < (m : Int) := by omega
      have hk31 := (dim_le y k).2
      have cD := fun W hW => daysOf_ti y k (by omega) k1 (by omega) W hW
      have hnx : N + dim y k = D0 + cumD y k + (d - 1) := by
        have := HN.out
        obtain ⟨j, rfl⟩ : ∃ j, k = j + 1 := ⟨k - 1, by omega⟩
        rw [this]
        show D0 + cumD y j + (d - 1) + dim y (j + 1) = D0 + (cumD y j + dim y (j + 1)) + (d - 1)
        omega
      have hnb : N + dim y k ≤ 4001000 := by
        have := cumD_mono y k2
        have := HE.out
        omega
      have HNX := Lib.hid hnx
      obtain ⟨DK, hDK⟩ : ∃ D, dim y k = D := ⟨_, rfl⟩
      rw [hDK] at cD hk31 hnb
      have HDK := Lib.hid hDK
      clear hnx hDK HN
      go_wp2_with fail
      refine (cD _ HT.out).mono ?_
      rintro e w1 ⟨rfl, rfl⟩
      clear cD
      go_wp2_with fail
      go_round
      case rel => exact ⟨k + 1, N + DK, by omega, by omega, by go_num, by go_num, Lib.hid (by rw [← HDK.out]; exact HNX.out), hnb⟩
      case measure => simp [intOf]; omega
    · obtain rfl : k = m := by omega
      have hz : ¬ (k : Int) < (k : Int) := by omega
      have hNR : N = RES := HN.out.trans HRES.out
      subst hNR
      clear HN
      go_wp2_with fail
      go_ret
      exact ⟨rfl, rfl⟩
/-- What dateOf gives: the date with this number. -/
def DateG (w : World) (n : Nat) (e : Ending) (w' : World) : Prop := ∃ y m d : Nat, DateOk y m d ∧ dayN y m d = n ∧ e = .returned (.tuple #[.int .i64 (y : Int), .int .i64 (m : Int), .int .i64 (d : Int)]) ∧ w' = w
set_option maxRecDepth 100000 in
set_option maxHeartbeats 4000000 in
theorem dateOf_ti (n : Nat) (hn : n < 3652059) (w : World) (hT : TabD w) :
    Calls Tryz.prog 98 #[.int .i64 (n : Int)] w (DateG w n) := by
  have HT := Lib.hid hT
  have g1 := dby_le (n / 366)
  have hnz : (n : Int) < 3652059 := by omega
  have hn0 : (0 : Int) ≤ (n : Int) := by omega
  clear hT
  go_enter Tryz.func98, Tryz.ntmps98
  go_wp2_with fail
  go_loop [2] (fun s2 => ∃ y : Nat, 1 ≤ y ∧ y ≤ 9999 ∧ Hid (dby y ≤ n) ∧ s2 = .int .i64 (y : Int)) (fun s2 => 9999 - (intOf s2).toNat)
  case atStart => exact ⟨n / 366 + 1, by omega, by omega, Lib.hid (by omega), by congr 1; omega⟩
  case round =>
    obtain ⟨y, y1, y2, HY, rfl⟩ := hrel
    have cB := fun W => daysBefore_ti (y + 1) (by omega) (by omega) W
    obtain ⟨E, hE⟩ : ∃ E, dby (y + 1) = E := ⟨_, rfl⟩
    rw [hE] at cB
    simp only [Int.natCast_add, Int.cast_ofNat_Int] at cB
    by_cases hle : E ≤ n
    · have hz : (E : Int) ≤ (n : Int) := by omega
      have hy9 : y + 1 ≤ 9999 := by
        refine Classical.byContradiction fun q => ?_
        have h9 : y + 1 = 10000 := by omega
        rw [h9, dby_max] at hE
        omega
      have HE := Lib.hid hE
      clear hE
      go_wp2_with fail
      refine (cB _).mono ?_
      rintro e w1 ⟨rfl, rfl⟩
      clear cB
      go_wp2_with fail
      go_round
      case rel => exact ⟨y + 1, by omega, hy9, Lib.hid (by rw [HE.out]; exact hle), by go_num⟩
      case measure => simp [intOf]; omega
    · have hz : decide (E ≤ n) = false := decide_eq_false hle
      have cA := fun W => daysBefore_ti y y1 (by omega) W
      obtain ⟨D0, hD0⟩ : ∃ D, dby y = D := ⟨_, rfl⟩
      rw [hD0] at cA
      have hY := HY.out
      rw [hD0] at hY
      have hsucc := dby_succ y y1
      rw [hE, hD0] at hsucc
      have HS := Lib.hid hsucc
      have HD0 := Lib.hid hD0
      have hEn : n < E := by omega
      have HEn := Lib.hid hEn
      clear hE hD0 hsucc HY g1 hEn hle hn
      go_wp2_with fail
      refine (cB _).mono ?_
      rintro e w1 ⟨rfl, rfl⟩
      clear cB
      go_wp2_with fail
      refine (cA _).mono ?_
      rintro e w1 ⟨rfl, rfl⟩
      clear cA
      go_wp2_with fail
      go_loop [0, 3] (fun s0 s3 => ∃ (m r : Nat), 1 ≤ m ∧ m ≤ 12 ∧ s3 = .int .i64 (m : Int) ∧ s0 = .int .i64 (r : Int) ∧ r ≤ 3652059 ∧ Hid (r + cumD y (m - 1) + D0 = n)) (fun _ s3 => 12 - (intOf s3).toNat)
      case atStart => exact ⟨1, n - D0, by omega, by omega, rfl, by congr 1; omega, by omega, Lib.hid (by show n - D0 + 0 + D0 = n; omega)⟩
      case round =>
        obtain ⟨m, r, m1, m2, rfl, rfl, hr, HR⟩ := hrel
        have cD := fun W hW => daysOf_ti y m (by omega) m1 m2 W hW
        have hc : cumD y m = cumD y (m - 1) + dim y m := by
          obtain ⟨j, rfl⟩ : ∃ j, m = j + 1 := ⟨m - 1, by omega⟩
          rfl
        obtain ⟨DM, hDM⟩ : ∃ D, dim y m = D := ⟨_, rfl⟩
        have hdl := dim_le y m
        rw [hDM] at cD hc hdl
        by_cases hge : DM ≤ r
        · have hz2 : (DM : Int) ≤ (r : Int) := by omega
          have hm12 : m + 1 ≤ 12 := by
            refine Classical.byContradiction fun q => ?_
            have h12 : m = 12 := by omega
            have a1 := HR.out
            have a2 := HS.out
            have a3 := HEn.out
            rw [h12, cumD_12] at hc
            rw [h12] at a1
            omega
          have HNX : Hid (r - DM + cumD y (m + 1 - 1) + D0 = n) := Lib.hid (by
            have a1 := HR.out
            rw [Nat.add_sub_cancel, hc]
            omega)
          clear hc hDM HR
          go_wp2_with fail
          refine (cD _ HT.out).mono ?_
          rintro e w1 ⟨rfl, rfl⟩
          go_wp2_with fail
          refine (cD _ HT.out).mono ?_
          rintro e w1 ⟨rfl, rfl⟩
          clear cD
          go_wp2_with fail
          go_round
          case rel => exact ⟨m + 1, r - DM, by omega, hm12, by go_num, by congr 1; omega, by omega, HNX⟩
          case measure => simp [intOf]; omega
        · have hz2 : decide (DM ≤ r) = false := decide_eq_false hge
          have hge2 : r < DM := by omega
          have HGE := Lib.hid hge2
          clear hge2
          have HG : Hid (DateOk y m (r + 1) ∧ dayN y m (r + 1) = n) := Lib.hid (by
            have := HGE.out
            refine ⟨⟨y1, y2, m1, m2, by omega, by rw [hDM]; omega⟩, ?_⟩
            have a1 := HR.out
            unfold dayN
            rw [HD0.out]
            omega)
          clear hc hDM HR hge
          go_wp2_with fail
          refine (cD _ HT.out).mono ?_
          rintro e w1 ⟨rfl, rfl⟩
          clear cD
          go_wp2_with fail
          refine bodyPost_ret (v := .tuple #[.int .i64 (y : Int), .int .i64 (m : Int), .int .i64 ((r : Int) + 1)]) (by simp [results, Tryz.results98, go_sem]) rfl ⟨y, m, r + 1, HG.out.1, HG.out.2, rfl, rfl⟩
end Go.Proofs.YtgmnjghbafbopaaGreatDoor
namespace Go.Proofs.YtgmnjghbafbopaaGreatDoor
open Go.RowKit Go.Lib

/-- What package time leans on in memory. -/
structure GrT (w : World) : Prop where
  num : GrN w
  range : ∃ ev, w.cell? ⟨2, 0, none⟩ = some ev ∧ (ev = .nilIface ∨ ∃ te pe, ev = .iface te pe)
  tab : TabD w
theorem GrT.later {w w' : World} (h : GrT w) (hb : Below w.heap.size w w') : GrT w' := by
  obtain ⟨e1, h1, k1⟩ := h.range
  exact ⟨h.num.later hb, ⟨e1, (hb.cell (lt_of_cell h1)).trans h1, k1⟩, h.tab.later hb⟩
theorem ba_ex (l : List UInt8) : ∃ s : ByteArray, (⟨l.toArray⟩ : ByteArray) = s ∧ s.data.toList = l := ⟨_, rfl, rfl⟩
theorem ba_size (s : ByteArray) : s.size = s.data.toList.length := by rw [Array.length_toList]; rfl
theorem ba_same {s r : ByteArray} (h : s.data.toList = r.data.toList) : r = s := by rw [bytes_eq]; exact h.symm
theorem canonR_len {r : List UInt8 × Int} (h : CanonR r) : r.1.length ≤ 52 := by
  rcases h with ⟨_, h⟩ | ⟨_, _, h⟩
  · rw [h]; simp
  · exact h
theorem resR_size {r : List UInt8 × Int} (h : CanonR r) {S : ByteArray} {z : Int} (e : r = (S.data.toList, z)) : S.size ≤ 52 := by
  have := canonR_len h
  rw [e] at this
  rw [ba_size]; exact this
theorem itoa_ti (n : Int) (h1 : -9223372036854775808 ≤ n) (h2 : n ≤ 9223372036854775807) (R : ByteArray) (hR : R.data.toList = Lib.itoa n) (w : World) (hg : GrN w) :
    Calls Tryz.prog 87 #[.int .i64 n] w fun e w' => e = .returned (.string R) ∧ Below w.heap.size w w' := by
  obtain rfl : (⟨(Lib.itoa n).toArray⟩ : ByteArray) = R := ba_same (s := R) (r := ⟨(Lib.itoa n).toArray⟩) hR
  refine (Tryz.strconv_Itoa n h1 h2 w hg.1).mono ?_
  rintro e w' ⟨h, k, os, rfl⟩
  exact ⟨h, below_itoa w k os⟩
set_option maxRecDepth 100000 in
set_option maxHeartbeats 4000000 in
theorem isSecond_ti (s : ByteArray) (hs : s.size ≤ 1000) (b : Bool) (hb : isSec s.data.toList = b) (w : World) (hg : GrN w) :
    Calls Tryz.prog 96 #[.string s] w fun e w' => e = .returned (.bool b) ∧ Below w.heap.size w w' := by
  cases hc : canonL s.data.toList with
  | none =>
    have c1 := (cmp_on hg s ⟨#[48]⟩ 0 1 (by omega) (by decide) (by unfold cmpR; rw [hc])).use
    obtain rfl : false = b := by rw [← hb]; unfold isSec; rw [hc]
    clear hb hc hg
    go_enter Tryz.func96, Tryz.ntmps96
    go_wp2_with fail
    refine (c1 w (Below.refl _ _)).mono ?_
    rintro e w1 ⟨rfl, b1⟩
    go_wp2_with fail
    go_ret
    exact ⟨rfl, b1⟩
  | some x =>
    obtain ⟨bx, k⟩ := x
    have e1 : cmpR s.data.toList [48] = (cmpN bx false k 0, 0) := cmpR_some hc zeroC
    have e2 : cmpR s.data.toList [54, 48] = (cmpN bx false k (60 * 10 ^ 20), 0) := cmpR_some hc sixtyC
    have c1 := (cmp_on hg s ⟨#[48]⟩ _ 0 (by omega) (by decide) e1).use
    have c2 := (cmp_on hg s ⟨#[54, 48]⟩ _ 0 (by omega) (by decide) e2).use
    cases bx with
    | true =>
      obtain rfl : false = b := by rw [← hb]; unfold isSec; rw [hc]; rfl
      have e3 : cmpN true false k 0 = -1 := by unfold cmpN; simp
      rw [e3] at c1
      clear hb hc hg e1 e2 e3 c2
      go_enter Tryz.func96, Tryz.ntmps96
      go_wp2_with fail
      refine (c1 w (Below.refl _ _)).mono ?_
      rintro e w1 ⟨rfl, b1⟩
      go_wp2_with fail
      go_ret
      exact ⟨rfl, b1⟩
    | false =>
      have e3 : ¬ cmpN false false k 0 < 0 := by unfold cmpN sgnN; simp; split <;> omega
      have e4 : (cmpN false false k (60 * 10 ^ 20) < 0) ↔ k < 60 * 10 ^ 20 := by
        have : cmpN false false k (60 * 10 ^ 20) = sgnN k (60 * 10 ^ 20) := by unfold cmpN; simp
        rw [this]
        unfold sgnN
        generalize (60 * 10 ^ 20 : Nat) = Q
        by_cases q : k < Q
        · simp [q]
        · by_cases q2 : Q < k <;> simp [q, q2]
      obtain ⟨C1, hC1⟩ : ∃ C, cmpN false false k 0 = C := ⟨_, rfl⟩
      obtain ⟨C2, hC2⟩ : ∃ C, cmpN false false k (60 * 10 ^ 20) = C := ⟨_, rfl⟩
      obtain ⟨T, z, hT⟩ := res_ex (roundR s.data.toList 6 cutN)
      have c3 := (round_on hg s ⟨#[99, 117, 116]⟩ T 6 z (by omega) hT).use
      have e5 : (T.toList == s.toList) = decide (k % 10 ^ 14 = 0) := by
        rw [ByteArray.toList_eq, ByteArray.toList_eq]
        rw [round6_cut hc, body_resR (Nat.lt_of_le_of_lt (Nat.div_mul_le_self k (10 ^ 14)) (canonL_lt hc))] at hT
        have hT := congrArg Prod.fst hT
        simp only at hT
        have hs := canon_parts hc
        rw [if_neg (by decide), List.nil_append] at hs
        rw [← hT, hs]
        by_cases q : k % 10 ^ 14 = 0
        · rw [decide_eq_true q, Nat.div_mul_cancel (Nat.dvd_of_mod_eq_zero q)]
          simp
        · rw [decide_eq_false q]
          refine beq_eq_false_iff_ne.2 fun r => ?_
          have a1 := body_canon (Nat.lt_of_le_of_lt (Nat.div_mul_le_self k (10 ^ 14)) (canonL_lt hc))
          rw [r, body_canon (canonL_lt hc)] at a1
          have := congrArg Prod.snd (Option.some.inj a1)
          simp only at this
          have h2 := Nat.div_add_mod k (10 ^ 14)
          rw [Nat.mul_comm] at h2
          omega
      have hbv : b = (decide (k < 60 * 10 ^ 20) && decide (k % 10 ^ 14 = 0)) := by rw [← hb]; unfold isSec; rw [hc]; rfl
      obtain ⟨B1, hB1⟩ : ∃ B, decide (k < 60 * 10 ^ 20) = B := ⟨_, rfl⟩
      obtain ⟨B2, hB2⟩ : ∃ B, decide (k % 10 ^ 14 = 0) = B := ⟨_, rfl⟩
      rw [hB2] at e5
      rw [hB1, hB2] at hbv
      rw [hC1] at c1 e3
      rw [hC2] at c2 e4
      have HC2 : (B1 = true → C2 < 0) ∧ (B1 = false → ¬ C2 < 0) := ⟨fun q => e4.2 (of_decide_eq_true (hB1.trans q)), fun q r => (of_decide_eq_false (hB1.trans q)) (e4.1 r)⟩
      clear hb hc hg e1 e2 hC1 hC2 hT e4 hB1 hB2
      subst hbv
      cases B1 with
      | true =>
        have hlt := HC2.1 rfl
        clear HC2
        cases B2
        all_goals
          go_enter Tryz.func96, Tryz.ntmps96
          go_wp2_with fail
          refine (c1 w (Below.refl _ _)).mono ?_
          rintro e w1 ⟨rfl, b1⟩
          go_wp2_with fail
          refine (c2 w1 b1).mono ?_
          rintro e w2 ⟨rfl, b2⟩
          go_wp2_with fail
          refine (c3 w2 b2).mono ?_
          rintro e w3 ⟨rfl, b3⟩
          go_wp2_with fail
          go_ret
          exact ⟨rfl, b3⟩
      | false =>
        have hlt := HC2.2 rfl
        clear HC2
        go_enter Tryz.func96, Tryz.ntmps96
        go_wp2_with fail
        refine (c1 w (Below.refl _ _)).mono ?_
        rintro e w1 ⟨rfl, b1⟩
        go_wp2_with fail
        refine (c2 w1 b1).mono ?_
        rintro e w2 ⟨rfl, b2⟩
        go_wp2_with fail
        refine (c3 w2 b2).mono ?_
        rintro e w3 ⟨rfl, b3⟩
        go_wp2_with fail
        go_ret
        exact ⟨rfl, b3⟩
set_option maxRecDepth 100000 in
set_option maxHeartbeats 4000000 in
theorem isZone_ti (z : Int) (w : World) :
    Calls Tryz.prog 72 #[.int .i64 z] w fun e w' => e = .returned (.bool (decide (-840 ≤ z) && decide (z ≤ 840))) ∧ w' = w := by
  by_cases h1 : -840 ≤ z
  · by_cases h2 : z ≤ 840
    · rw [decide_eq_true h1, decide_eq_true h2]
      go_enter Tryz.func72, Tryz.ntmps72
      go_wp2_with fail
      go_ret
      exact ⟨rfl, rfl⟩
    · rw [decide_eq_true h1, decide_eq_false h2]
      go_enter Tryz.func72, Tryz.ntmps72
      go_wp2_with fail
      go_ret
      exact ⟨rfl, rfl⟩
  · rw [decide_eq_false h1]
    go_enter Tryz.func72, Tryz.ntmps72
    go_wp2_with fail
    go_ret
    exact ⟨rfl, rfl⟩
set_option maxRecDepth 100000 in
set_option maxHeartbeats 4000000 in
theorem seconds_ti (n : Int) (h1 : -9223372036854775808 ≤ n) (h2 : n ≤ 9223372036854775807) (R : ByteArray) (hR : secT (decide (n < 0)) n.natAbs = (R.data.toList, 0)) (w : World) (hg : GrN w) :
    Calls Tryz.prog 57 #[.int .i64 n] w fun e w' => e = .returned (.string R) ∧ Below w.heap.size w w' := by
  obtain ⟨I, hI, hIl⟩ := ba_ex (Lib.itoa n)
  have cI := fun W (hW : Below w.heap.size w W) => itoa_ti n h1 h2 I hIl W (hg.later hW)
  have cM := fun W (hW : Below w.heap.size w W) => itoa_ti 1000000 (by omega) (by omega) ⟨#[49, 48, 48, 48, 48, 48, 48]⟩ (by decide +kernel) W (hg.later hW)
  have hcI : canonL I.data.toList = some (decide (n < 0), n.natAbs * 10 ^ 20) := by rw [hIl]; exact itoa_canon n (by omega)
  have hIs : I.size ≤ 52 := by rw [ba_size]; exact textL_len (text_canon _ _ _ hcI).1
  have cQ := (quo_on hg I ⟨#[49, 48, 48, 48, 48, 48, 48]⟩ R 0 (by omega) (by decide) (by
    rw [show (⟨#[49, 48, 48, 48, 48, 48, 48]⟩ : ByteArray).data.toList = Lib.decDigits 1000000 from mil]
    rw [secT_quo hcI]; exact hR)).use
  clear hg hI hIl hcI hIs hR
  go_enter Tryz.func57, Tryz.ntmps57
  go_wp2_with fail
  refine (cI w (Below.refl _ _)).mono ?_
  rintro e w1 ⟨rfl, b1⟩
  go_wp2_with fail
  refine (cM w1 b1).mono ?_
  rintro e w2 ⟨rfl, b2⟩
  have b12 := b1.trans (b2.mono b1.size)
  go_wp2_with fail
  refine (cQ w2 b12).mono ?_
  rintro e w3 ⟨rfl, b3⟩
  go_wp2_with fail
  go_ret
  exact ⟨rfl, b3⟩
end Go.Proofs.YtgmnjghbafbopaaGreatDoor

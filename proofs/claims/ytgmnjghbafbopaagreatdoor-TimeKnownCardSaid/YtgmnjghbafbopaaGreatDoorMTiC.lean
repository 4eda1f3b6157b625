/- Dates: the contract of microseconds. Dates: a moment in memory; the contract of isValid. Dates: valid moments as numbers; the contract of local. Dates: a moment in a variable. -/
import Derived.Test.YtgmnjghbafbopaaGreatDoorMTiB
import Derived.Deep.QuietTactic
import Derived.BigQuiet
import Derived.IntWalk
namespace Go.Proofs.YtgmnjghbafbopaaGreatDoor
open Go.RowKit Go.Lib

theorem atoi_range (s : ByteArray) (hs : s.size ≤ 1000) (h : Lib.atoiAll s.data.toList = .range) (w : World) (hg : GrT w) :
    Calls Tryz.prog 88 #[.string s] w fun e w' => ∃ (x : Int) (t : TypeId) (p : Value), e = .returned (.tuple #[.int .i64 x, .iface t p]) ∧ Below w.heap.size w w' := by
  obtain ⟨ev, h1, k1⟩ := hg.range
  exact (Tryz.strconv_Atoi_range s (by omega) h ev w h1 k1).mono fun e w' ⟨N, h2, _, _, h3⟩ => ⟨_, _, _, h2, h3⟩
theorem atoi_good (s : ByteArray) (hs : s.size ≤ 1000) (v : Int) (h : Lib.atoiAll s.data.toList = .ok v) (w : World) :
    Calls Tryz.prog 88 #[.string s] w fun e w' => e = .returned (.tuple #[.int .i64 v, .nilIface]) ∧ Below w.heap.size w w' :=
  (Tryz.strconv_Atoi_ok s (by omega) v h w).mono fun e w' ⟨h1, h2⟩ => ⟨h1, by
    rcases h2 with rfl | ⟨t, rfl⟩
    · exact Below.refl _ _
    · exact Lib.bytesWorld_below _ _ _⟩
theorem resR_text_of {b : Bool} {n : Nat} {t : List UInt8} (h : resR b n = (t, 0)) : textL b n = some t := by
  unfold resR at h
  split at h
  · rename_i u hu
    have : u = t := congrArg Prod.fst h
    rw [hu, this]
  · cases congrArg Prod.snd h
theorem micR_of {s : List UInt8} {b : Bool} {k m : Nat} (hc : canonL s = some (b, k)) (hm : divW evenW b k (10 ^ 14) = m) : micR s = if -9223372036854775808 ≤ toZ b m ∧ toZ b m ≤ 9223372036854775807 then (toZ b m, true) else (0, false) := by
  unfold micR
  rw [hc]
  simp only
  rw [hm]
theorem resR_ok {b : Bool} {n : Nat} (h : n < 10 ^ 50) {t : List UInt8} {z : Int} (e : resR b n = (t, z)) : z = 0 := by
  obtain ⟨u, hu, _⟩ := resR_lt b n h
  rw [hu] at e
  exact (congrArg Prod.snd e).symm
theorem muM (m A B : Nat) : m * A * (10 ^ 6 * B) = m * (10 ^ 6 * A) * B := by ac_rfl
theorem mul_mil {t : List UInt8} {c : Bool} {m : Nat} (h : canonL t = some (c, m * 10 ^ 14)) : mulR t (Lib.decDigits 1000000) = resR c (m * 10 ^ 20) := by
  unfold mulR
  rw [on2_some h (canon_int 1000000 (lt30 (by decide)))]
  have e : divW evenW c (m * 10 ^ 14 * (1000000 * 10 ^ 20)) (10 ^ 20) = m * 10 ^ 20 := by
    rw [show m * 10 ^ 14 * (1000000 * 10 ^ 20) = m * 10 ^ 20 * 10 ^ 20 by
      rw [Nat.mul_assoc, Nat.mul_assoc]]
    exact divW_exact even_calm _ _ _ U0
  cases c with
  | false => exact congrArg (resR false) e
  | true => exact congrArg (resR true) e
set_option maxRecDepth 100000 in
set_option maxHeartbeats 4000000 in
theorem microseconds_ti (s : ByteArray) (hs : s.size ≤ 1000) (b : Bool) (k : Nat) (hc : canonL s.data.toList = some (b, k)) (n : Int) (ok : Bool) (hm : micR s.data.toList = (n, ok)) (w : World) (hg : GrT w) :
    Calls Tryz.prog 66 #[.string s] w fun e w' => e = .returned (.tuple #[.int .i64 n, .bool ok]) ∧ Below w.heap.size w w' := by
  obtain ⟨m, hmd⟩ : ∃ m, divW evenW b k (10 ^ 14) = m := ⟨_, rfl⟩
  have hmr : micR s.data.toList = if -9223372036854775808 ≤ toZ b m ∧ toZ b m ≤ 9223372036854775807 then (toZ b m, true) else (0, false) := micR_of hc hmd
  rw [hm] at hmr
  obtain ⟨R, z, hR⟩ := res_ex (roundR s.data.toList 6 evenN)
  have c1 := (round_on hg.num s ⟨#[101, 118, 101, 110]⟩ R 6 z (by omega) hR).use
  have sR := resR_size (roundR_canonR _ _ _) hR
  rw [round6_even hc, hmd] at hR
  have cI := fun W (hW : Below w.heap.size w W) => itoa_ti 1000000 (by omega) (by omega) ⟨#[49, 48, 48, 48, 48, 48, 48]⟩ (by decide +kernel) W (hg.num.later hW)
  by_cases hz : z = 0
  · subst hz
    obtain ⟨c, hcR, hcz⟩ := resR_back hR
    obtain ⟨P, zp, hP⟩ := res_ex (mulR R.data.toList (Lib.decDigits 1000000))
    have c2 := (mul_on hg.num R ⟨#[49, 48, 48, 48, 48, 48, 48]⟩ P zp (by omega) (by decide) (by
      rw [show (⟨#[49, 48, 48, 48, 48, 48, 48]⟩ : ByteArray).data.toList = Lib.decDigits 1000000 from mil]; exact hP)).use
    have sP := resR_size (mulR_canonR _ _) hP
    rw [mul_mil hcR] at hP
    by_cases hzp : zp = 0
    · subst hzp
      have htp : textL c (m * 10 ^ 20) = some P.data.toList := resR_text_of hP
      have hat := atoi_text htp
      have hzz : toZ c m = toZ b m := by
        obtain ⟨T, hT⟩ : ∃ T, (10 : Nat) ^ 14 = T := ⟨_, rfl⟩
        have hT0 : 0 < T := by rw [← hT]; exact T0
        rw [hT] at hcz
        unfold toZ at hcz ⊢
        by_cases h0 : m = 0
        · subst h0; cases b <;> cases c <;> rfl
        · have : 0 < m * T := Nat.mul_pos (Nat.pos_of_ne_zero h0) hT0
          cases b <;> cases c <;> simp at hcz ⊢ <;> omega
      rw [hzz] at hat
      by_cases hr : -9223372036854775808 ≤ toZ b m ∧ toZ b m ≤ 9223372036854775807
      · rw [if_pos hr] at hmr hat
        have hn : n = toZ b m := congrArg Prod.fst hmr
        have hok : ok = true := congrArg Prod.snd hmr
        rw [← hn] at hat
        have c3 := fun W => atoi_good P (by omega) n hat W
        subst hok
        clear hg hc hm hmd hmr hR hcR hcz hP htp hat hzz hr hn
        go_enter Tryz.func66, Tryz.ntmps66
        go_wp2_with fail
        refine (c1 w (Below.refl _ _)).mono ?_
        rintro e w1 ⟨rfl, b1⟩
        go_wp2_with fail
        refine (cI w1 b1).mono ?_
        rintro e w2 ⟨rfl, b2⟩
        have b12 := b1.trans (b2.mono b1.size)
        go_wp2_with fail
        refine (c2 w2 b12).mono ?_
        rintro e w3 ⟨rfl, b3⟩
        go_wp2_with fail
        refine (c3 w3).mono ?_
        rintro e w4 ⟨rfl, b4⟩
        go_wp2_with fail
        go_ret2
        exact ⟨rfl, b3.trans (b4.mono b3.size)⟩
      · rw [if_neg hr] at hmr hat
        have hn : n = 0 := congrArg Prod.fst hmr
        have hok : ok = false := congrArg Prod.snd hmr
        have c3 := fun W hW => atoi_range P (by omega) hat W hW
        have HG := Lib.hid hg
        subst hok
        subst hn
        clear hg hc hm hmd hmr hR hcR hcz hP htp hat hzz hr
        go_enter Tryz.func66, Tryz.ntmps66
        go_wp2_with fail
        refine (c1 w (Below.refl _ _)).mono ?_
        rintro e w1 ⟨rfl, b1⟩
        go_wp2_with fail
        refine (cI w1 b1).mono ?_
        rintro e w2 ⟨rfl, b2⟩
        have b12 := b1.trans (b2.mono b1.size)
        go_wp2_with fail
        refine (c2 w2 b12).mono ?_
        rintro e w3 ⟨rfl, b3⟩
        go_wp2_with fail
        refine (c3 w3 (HG.out.later b3)).mono ?_
        rintro e w4 ⟨x, t, p, rfl, b4⟩
        go_wp2_with fail
        go_ret2
        exact ⟨rfl, b3.trans (b4.mono b3.size)⟩
    · have hbig : ¬ (-9223372036854775808 ≤ toZ b m ∧ toZ b m ≤ 9223372036854775807) := toZ_big (Classical.byContradiction fun q => hzp (resR_ok (by rw [p50]; exact Nat.mul_lt_mul_of_pos_right (Nat.not_le.1 q) U0) hP))
      rw [if_neg hbig] at hmr
      have hn : n = 0 := congrArg Prod.fst hmr
      have hok : ok = false := congrArg Prod.snd hmr
      have hzb : (zp == 0) = false := beq_eq_false_iff_ne.2 hzp
      have hzc : (zp != 0) = true := by simp [hzp]
      subst hok
      subst hn
      clear hg hc hm hmd hmr hR hcR hcz hP hbig hzp
      go_enter Tryz.func66, Tryz.ntmps66
      go_wp2_with fail
      refine (c1 w (Below.refl _ _)).mono ?_
      rintro e w1 ⟨rfl, b1⟩
      go_wp2_with fail
      refine (cI w1 b1).mono ?_
      rintro e w2 ⟨rfl, b2⟩
      have b12 := b1.trans (b2.mono b1.size)
      go_wp2_with fail
      refine (c2 w2 b12).mono ?_
      rintro e w3 ⟨rfl, b3⟩
      go_wp2_with fail
      go_ret2
      exact ⟨rfl, b3⟩
  · have hbig : ¬ (-9223372036854775808 ≤ toZ b m ∧ toZ b m ≤ 9223372036854775807) := toZ_big (Classical.byContradiction fun q => hz (resR_ok (mic_lt (Nat.lt_of_lt_of_le (Nat.not_le.1 q) (Nat.pow_le_pow_right (by decide) (by decide)))) hR))
    rw [if_neg hbig] at hmr
    have hn : n = 0 := congrArg Prod.fst hmr
    have hok : ok = false := congrArg Prod.snd hmr
    have hzb : (z == 0) = false := beq_eq_false_iff_ne.2 hz
    have hzc : (z != 0) = true := by simp [hz]
    subst hok
    subst hn
    clear hg hc hm hmd hmr hR hbig hz cI
    go_enter Tryz.func66, Tryz.ntmps66
    go_wp2_with fail
    refine (c1 w (Below.refl _ _)).mono ?_
    rintro e w1 ⟨rfl, b1⟩
    go_wp2_with fail
    go_ret2
    exact ⟨rfl, b1⟩
theorem mic_micR {m : Nat} (h : m < 60000000) : micR (bodyL (m * 10 ^ 14)) = ((m : Int), true) := by
  rw [micR_of (body_canon (mic_lt (lt36 (by omega)))) (divW_exact even_calm _ _ _ T0)]
  have e : toZ false m = (m : Int) := rfl
  rw [e, if_pos (by omega)]
end Go.Proofs.YtgmnjghbafbopaaGreatDoor
namespace Go.Proofs.YtgmnjghbafbopaaGreatDoor
open Go.RowKit Go.Lib

/-- A moment. -/
def momV (y mo d h mi : Int) (s : ByteArray) (z : Int) (has : Bool) : Value := .agg #[.int .i64 y, .int .i64 mo, .int .i64 d, .int .i64 h, .int .i64 mi, .string s, .int .i64 z, .bool has]
/-- A moment in its eight cells. -/
structure MomAt (W : World) (B : Nat) (y mo d h mi : Int) (s : ByteArray) (z : Int) (has : Bool) : Prop where
  c0 : W.cell? ⟨B, 0, none⟩ = some (.int .i64 y)
  c1 : W.cell? ⟨B, 1, none⟩ = some (.int .i64 mo)
  c2 : W.cell? ⟨B, 2, none⟩ = some (.int .i64 d)
  c3 : W.cell? ⟨B, 3, none⟩ = some (.int .i64 h)
  c4 : W.cell? ⟨B, 4, none⟩ = some (.int .i64 mi)
  c5 : W.cell? ⟨B, 5, none⟩ = some (.string s)
  c6 : W.cell? ⟨B, 6, none⟩ = some (.int .i64 z)
  c7 : W.cell? ⟨B, 7, none⟩ = some (.bool has)
  lt : B < W.heap.size
theorem MomAt.other {W W' : World} {B : Nat} {y mo d h mi : Int} {s : ByteArray} {z : Int} {has : Bool} (h0 : MomAt W B y mo d h mi s z has) (hk : W'.heap[B]? = W.heap[B]?) (hs : W.heap.size ≤ W'.heap.size) : MomAt W' B y mo d h mi s z has :=
  ⟨(World.cell?_of_block (a := ⟨B, 0, none⟩) hk).trans h0.c0, (World.cell?_of_block (a := ⟨B, 1, none⟩) hk).trans h0.c1, (World.cell?_of_block (a := ⟨B, 2, none⟩) hk).trans h0.c2, (World.cell?_of_block (a := ⟨B, 3, none⟩) hk).trans h0.c3, (World.cell?_of_block (a := ⟨B, 4, none⟩) hk).trans h0.c4, (World.cell?_of_block (a := ⟨B, 5, none⟩) hk).trans h0.c5, (World.cell?_of_block (a := ⟨B, 6, none⟩) hk).trans h0.c6, (World.cell?_of_block (a := ⟨B, 7, none⟩) hk).trans h0.c7, Nat.lt_of_lt_of_le h0.lt hs⟩
theorem MomAt.later {W W' : World} {B : Nat} {y mo d h mi : Int} {s : ByteArray} {z : Int} {has : Bool} (h0 : MomAt W B y mo d h mi s z has) (hb : Below W.heap.size W W') : MomAt W' B y mo d h mi s z has := h0.other (hb.block B h0.lt) hb.size
theorem MomAt.new (w : World) (y mo d h mi : Int) (s : ByteArray) (z : Int) (has : Bool) : MomAt (w.alloc (.cells #[.int .i64 y, .int .i64 mo, .int .i64 d, .int .i64 h, .int .i64 mi, .string s, .int .i64 z, .bool has] 24)) w.heap.size y mo d h mi s z has :=
  ⟨by simp [go_sem], by simp [go_sem], by simp [go_sem], by simp [go_sem], by simp [go_sem], by simp [go_sem], by simp [go_sem], by simp [go_sem], by simp⟩
def zoneB (z : Int) (has : Bool) : Bool := if has = true then decide (-840 ≤ z) && decide (z ≤ 840) else decide (z = 0)
def validB (y mo d h mi : Int) (s : List UInt8) (z : Int) (has : Bool) : Bool :=
  decide (1 ≤ y ∧ y ≤ 9999 ∧ 1 ≤ mo ∧ mo ≤ 12 ∧ 1 ≤ d ∧ d ≤ (dim y.toNat mo.toNat : Int)) && decide (0 ≤ h ∧ h ≤ 23 ∧ 0 ≤ mi ∧ mi ≤ 59) && isSec s && zoneB z has
theorem validB_date {y mo d h mi : Int} {s : List UInt8} {z : Int} {has : Bool} (h0 : ¬ (1 ≤ y ∧ y ≤ 9999 ∧ 1 ≤ mo ∧ mo ≤ 12 ∧ 1 ≤ d ∧ d ≤ (dim y.toNat mo.toNat : Int))) : validB y mo d h mi s z has = false := by
  unfold validB; rw [decide_eq_false h0]; simp
theorem validB_clock {y mo d h mi : Int} {s : List UInt8} {z : Int} {has : Bool} (h0 : ¬ (0 ≤ h ∧ h ≤ 23 ∧ 0 ≤ mi ∧ mi ≤ 59)) : validB y mo d h mi s z has = false := by
  unfold validB; rw [decide_eq_false h0]; simp
theorem validB_sec {y mo d h mi : Int} {s : List UInt8} {z : Int} {has : Bool} (h0 : isSec s = false) : validB y mo d h mi s z has = false := by
  unfold validB; rw [h0]; simp
theorem validB_zone {y mo d h mi : Int} {s : List UInt8} {z : Int} {has : Bool} (h1 : 1 ≤ y ∧ y ≤ 9999 ∧ 1 ≤ mo ∧ mo ≤ 12 ∧ 1 ≤ d ∧ d ≤ (dim y.toNat mo.toNat : Int)) (h2 : 0 ≤ h ∧ h ≤ 23 ∧ 0 ≤ mi ∧ mi ≤ 59) (h3 : isSec s = true) : validB y mo d h mi s z has = zoneB z has := by
  unfold validB; rw [decide_eq_true h1, decide_eq_true h2, h3]; rfl
set_option maxRecDepth 100000 in
set_option maxHeartbeats 8000000 in
theorem isValid_ti (y mo d h mi : Int) (s : ByteArray) (z : Int) (has : Bool) (hs : s.size ≤ 1000) (w : World) (hg : GrT w) :
    Calls Tryz.prog 46 #[momV y mo d h mi s z has] w fun e w' => e = .returned (.bool (validB y mo d h mi s.data.toList z has)) ∧ Below w.heap.size w w' := by
  unfold momV
  have m1 := MomAt.new w y mo d h mi s z has
  have bw1 : Below w.heap.size w (w.alloc (.cells #[.int .i64 y, .int .i64 mo, .int .i64 d, .int .i64 h, .int .i64 mi, .string s, .int .i64 z, .bool has] 24)) := (Below.refl _ _).alloc (Nat.le_refl _) _
  obtain ⟨W1, hW1⟩ : ∃ W, w.alloc (.cells #[.int .i64 y, .int .i64 mo, .int .i64 d, .int .i64 h, .int .i64 mi, .string s, .int .i64 z, .bool has] 24) = W := ⟨_, rfl⟩
  rw [hW1] at m1 bw1
  have HW1 := Lib.hid hW1
  have HG := Lib.hid hg
  have hT := hg.tab.later bw1
  clear hW1
  by_cases a1 : y < 1
  · have HV := Lib.hid (validB_date (h := h) (mi := mi) (s := s.data.toList) (z := z) (has := has) (show ¬ (1 ≤ y ∧ y ≤ 9999 ∧ 1 ≤ mo ∧ mo ≤ 12 ∧ 1 ≤ d ∧ d ≤ (dim y.toNat mo.toNat : Int)) by omega))
    obtain ⟨c0, c1, c2, c3, c4, c5, c6, c7, _⟩ := m1
    clear hT
    rw [HV.out]
    clear hg
    go_enter Tryz.func46, Tryz.ntmps46
    go_wp2_with fail
    try rw [HW1.out]
    go_ret
    exact ⟨by first | rfl | simp, bw1⟩
  by_cases a2 : 9999 < y
  · have HV := Lib.hid (validB_date (h := h) (mi := mi) (s := s.data.toList) (z := z) (has := has) (show ¬ (1 ≤ y ∧ y ≤ 9999 ∧ 1 ≤ mo ∧ mo ≤ 12 ∧ 1 ≤ d ∧ d ≤ (dim y.toNat mo.toNat : Int)) by omega))
    obtain ⟨c0, c1, c2, c3, c4, c5, c6, c7, _⟩ := m1
    clear hT
    rw [HV.out]
    clear hg
    go_enter Tryz.func46, Tryz.ntmps46
    go_wp2_with fail
    try rw [HW1.out]
    go_ret
    exact ⟨by first | rfl | simp, bw1⟩
  by_cases a3 : mo < 1
  · have HV := Lib.hid (validB_date (h := h) (mi := mi) (s := s.data.toList) (z := z) (has := has) (show ¬ (1 ≤ y ∧ y ≤ 9999 ∧ 1 ≤ mo ∧ mo ≤ 12 ∧ 1 ≤ d ∧ d ≤ (dim y.toNat mo.toNat : Int)) by omega))
    obtain ⟨c0, c1, c2, c3, c4, c5, c6, c7, _⟩ := m1
    clear hT
    rw [HV.out]
    clear hg
    go_enter Tryz.func46, Tryz.ntmps46
    go_wp2_with fail
    try rw [HW1.out]
    go_ret
    exact ⟨by first | rfl | simp, bw1⟩
  by_cases a4 : 12 < mo
  · have HV := Lib.hid (validB_date (h := h) (mi := mi) (s := s.data.toList) (z := z) (has := has) (show ¬ (1 ≤ y ∧ y ≤ 9999 ∧ 1 ≤ mo ∧ mo ≤ 12 ∧ 1 ≤ d ∧ d ≤ (dim y.toNat mo.toNat : Int)) by omega))
    obtain ⟨c0, c1, c2, c3, c4, c5, c6, c7, _⟩ := m1
    clear hT
    rw [HV.out]
    clear hg
    go_enter Tryz.func46, Tryz.ntmps46
    go_wp2_with fail
    try rw [HW1.out]
    go_ret
    exact ⟨by first | rfl | simp, bw1⟩
  by_cases a5 : d < 1
  · have HV := Lib.hid (validB_date (h := h) (mi := mi) (s := s.data.toList) (z := z) (has := has) (show ¬ (1 ≤ y ∧ y ≤ 9999 ∧ 1 ≤ mo ∧ mo ≤ 12 ∧ 1 ≤ d ∧ d ≤ (dim y.toNat mo.toNat : Int)) by omega))
    obtain ⟨c0, c1, c2, c3, c4, c5, c6, c7, _⟩ := m1
    clear hT
    rw [HV.out]
    clear hg
    go_enter Tryz.func46, Tryz.ntmps46
    go_wp2_with fail
    try rw [HW1.out]
    go_ret
    exact ⟨by first | rfl | simp, bw1⟩
  obtain ⟨Y, rfl⟩ : ∃ Y : Nat, y = (Y : Int) := ⟨y.toNat, by omega⟩
  obtain ⟨M, rfl⟩ : ∃ M : Nat, mo = (M : Int) := ⟨mo.toNat, by omega⟩
  have cD := fun W hW => daysOf_ti Y M (by omega) (by omega) (by omega) W hW
  have eY : (Y : Int).toNat = Y := by omega
  have eM : (M : Int).toNat = M := by omega
  by_cases a6 : (dim Y M : Int) < d
  · have HV := Lib.hid (validB_date (h := h) (mi := mi) (s := s.data.toList) (z := z) (has := has) (show ¬ (1 ≤ (Y : Int) ∧ (Y : Int) ≤ 9999 ∧ 1 ≤ (M : Int) ∧ (M : Int) ≤ 12 ∧ 1 ≤ d ∧ d ≤ (dim (Y : Int).toNat (M : Int).toNat : Int)) by rw [eY, eM]; omega))
    obtain ⟨c0, c1, c2, c3, c4, c5, c6, c7, _⟩ := id m1
    have cD := fun k => cD (W1.drewN k) (hT.later (below_drewN (Below.refl _ _) k))
    clear hT eY eM
    rw [HV.out]
    clear hg
    go_enter Tryz.func46, Tryz.ntmps46
    go_wp2_with fail
    try rw [HW1.out]
    go_quiet ((go_at_call 64; exact Calls.quiet_of_same (cD _)))
    obtain ⟨W2, hW2⟩ : ∃ W2, W1.drewN nq = W2 := ⟨_, rfl⟩
    have m2 : MomAt W2 w.heap.size (Y : Int) (M : Int) d h mi s z has := by rw [← hW2]; exact m1.later (below_drewN (Below.refl _ _) _)
    have bw2 : Below w.heap.size w W2 := by rw [← hW2]; exact below_drewN bw1 _
    rw [hW2]
    obtain ⟨c0, c1, c2, c3, c4, c5, c6, c7, _⟩ := m2
    clear hW2 cD
    go_wp2_with fail
    go_ret
    exact ⟨by first | rfl | simp, bw2⟩
  by_cases a7 : h < 0
  · have HV := Lib.hid (validB_clock (y := (Y : Int)) (mo := (M : Int)) (d := d) (s := s.data.toList) (z := z) (has := has) (show ¬ (0 ≤ h ∧ h ≤ 23 ∧ 0 ≤ mi ∧ mi ≤ 59) by omega))
    obtain ⟨c0, c1, c2, c3, c4, c5, c6, c7, _⟩ := id m1
    have cD := fun k => cD (W1.drewN k) (hT.later (below_drewN (Below.refl _ _) k))
    clear hT eY eM
    rw [HV.out]
    clear hg
    go_enter Tryz.func46, Tryz.ntmps46
    go_wp2_with fail
    try rw [HW1.out]
    go_quiet ((go_at_call 64; exact Calls.quiet_of_same (cD _)))
    obtain ⟨W2, hW2⟩ : ∃ W2, W1.drewN nq = W2 := ⟨_, rfl⟩
    have m2 : MomAt W2 w.heap.size (Y : Int) (M : Int) d h mi s z has := by rw [← hW2]; exact m1.later (below_drewN (Below.refl _ _) _)
    have bw2 : Below w.heap.size w W2 := by rw [← hW2]; exact below_drewN bw1 _
    rw [hW2]
    obtain ⟨c0, c1, c2, c3, c4, c5, c6, c7, _⟩ := m2
    clear hW2 cD
    go_wp2_with fail
    go_ret
    exact ⟨by first | rfl | simp, bw2⟩
  by_cases a8 : 23 < h
  · have HV := Lib.hid (validB_clock (y := (Y : Int)) (mo := (M : Int)) (d := d) (s := s.data.toList) (z := z) (has := has) (show ¬ (0 ≤ h ∧ h ≤ 23 ∧ 0 ≤ mi ∧ mi ≤ 59) by omega))
    obtain ⟨c0, c1, c2, c3, c4, c5, c6, c7, _⟩ := id m1
    have cD := fun k => cD (W1.drewN k) (hT.later (below_drewN (Below.refl _ _) k))
    clear hT eY eM
    rw [HV.out]
    clear hg
    go_enter Tryz.func46, Tryz.ntmps46
    go_wp2_with fail
    try rw [HW1.out]
    go_quiet ((go_at_call 64; exact Calls.quiet_of_same (cD _)))
    obtain ⟨W2, hW2⟩ : ∃ W2, W1.drewN nq = W2 := ⟨_, rfl⟩
    have m2 : MomAt W2 w.heap.size (Y : Int) (M : Int) d h mi s z has := by rw [← hW2]; exact m1.later (below_drewN (Below.refl _ _) _)
    have bw2 : Below w.heap.size w W2 := by rw [← hW2]; exact below_drewN bw1 _
    rw [hW2]
    obtain ⟨c0, c1, c2, c3, c4, c5, c6, c7, _⟩ := m2
    clear hW2 cD
    go_wp2_with fail
    go_ret
    exact ⟨by first | rfl | simp, bw2⟩
  by_cases a9 : mi < 0
  · have HV := Lib.hid (validB_clock (y := (Y : Int)) (mo := (M : Int)) (d := d) (s := s.data.toList) (z := z) (has := has) (show ¬ (0 ≤ h ∧ h ≤ 23 ∧ 0 ≤ mi ∧ mi ≤ 59) by omega))
    obtain ⟨c0, c1, c2, c3, c4, c5, c6, c7, _⟩ := id m1
    have cD := fun k => cD (W1.drewN k) (hT.later (below_drewN (Below.refl _ _) k))
    clear hT eY eM
    rw [HV.out]
    clear hg
    go_enter Tryz.func46, Tryz.ntmps46
    go_wp2_with fail
    try rw [HW1.out]
    go_quiet ((go_at_call 64; exact Calls.quiet_of_same (cD _)))
    obtain ⟨W2, hW2⟩ : ∃ W2, W1.drewN nq = W2 := ⟨_, rfl⟩
    have m2 : MomAt W2 w.heap.size (Y : Int) (M : Int) d h mi s z has := by rw [← hW2]; exact m1.later (below_drewN (Below.refl _ _) _)
    have bw2 : Below w.heap.size w W2 := by rw [← hW2]; exact below_drewN bw1 _
    rw [hW2]
    obtain ⟨c0, c1, c2, c3, c4, c5, c6, c7, _⟩ := m2
    clear hW2 cD
    go_wp2_with fail
    go_ret
    exact ⟨by first | rfl | simp, bw2⟩
  by_cases a10 : 59 < mi
  · have HV := Lib.hid (validB_clock (y := (Y : Int)) (mo := (M : Int)) (d := d) (s := s.data.toList) (z := z) (has := has) (show ¬ (0 ≤ h ∧ h ≤ 23 ∧ 0 ≤ mi ∧ mi ≤ 59) by omega))
    obtain ⟨c0, c1, c2, c3, c4, c5, c6, c7, _⟩ := id m1
    have cD := fun k => cD (W1.drewN k) (hT.later (below_drewN (Below.refl _ _) k))
    clear hT eY eM
    rw [HV.out]
    clear hg
    go_enter Tryz.func46, Tryz.ntmps46
    go_wp2_with fail
    try rw [HW1.out]
    go_quiet ((go_at_call 64; exact Calls.quiet_of_same (cD _)))
    obtain ⟨W2, hW2⟩ : ∃ W2, W1.drewN nq = W2 := ⟨_, rfl⟩
    have m2 : MomAt W2 w.heap.size (Y : Int) (M : Int) d h mi s z has := by rw [← hW2]; exact m1.later (below_drewN (Below.refl _ _) _)
    have bw2 : Below w.heap.size w W2 := by rw [← hW2]; exact below_drewN bw1 _
    rw [hW2]
    obtain ⟨c0, c1, c2, c3, c4, c5, c6, c7, _⟩ := m2
    clear hW2 cD
    go_wp2_with fail
    go_ret
    exact ⟨by first | rfl | simp, bw2⟩
  have HD : Hid (1 ≤ (Y : Int) ∧ (Y : Int) ≤ 9999 ∧ 1 ≤ (M : Int) ∧ (M : Int) ≤ 12 ∧ 1 ≤ d ∧ d ≤ (dim (Y : Int).toNat (M : Int).toNat : Int)) := Lib.hid (by rw [eY, eM]; omega)
  have HC : Hid (0 ≤ h ∧ h ≤ 23 ∧ 0 ≤ mi ∧ mi ≤ 59) := Lib.hid (by omega)
  cases hsec : isSec s.data.toList with
  | false =>
    have HV := Lib.hid (validB_sec (y := (Y : Int)) (mo := (M : Int)) (d := d) (h := h) (mi := mi) (z := z) (has := has) hsec)
    have cS := fun W hW => isSecond_ti s hs false hsec W hW
    obtain ⟨c0, c1, c2, c3, c4, c5, c6, c7, _⟩ := id m1
    have cD := fun k => cD (W1.drewN k) (hT.later (below_drewN (Below.refl _ _) k))
    clear hT eY eM hsec
    rw [HV.out]
    clear hg
    go_enter Tryz.func46, Tryz.ntmps46
    go_wp2_with fail
    try rw [HW1.out]
    go_quiet ((go_at_call 64; exact Calls.quiet_of_same (cD _)))
    obtain ⟨W2, hW2⟩ : ∃ W2, W1.drewN nq = W2 := ⟨_, rfl⟩
    have m2 : MomAt W2 w.heap.size (Y : Int) (M : Int) d h mi s z has := by rw [← hW2]; exact m1.later (below_drewN (Below.refl _ _) _)
    have bw2 : Below w.heap.size w W2 := by rw [← hW2]; exact below_drewN bw1 _
    rw [hW2]
    obtain ⟨c0, c1, c2, c3, c4, c5, c6, c7, _⟩ := m2
    clear hW2 cD
    go_wp2_with fail
    refine (cS W2 (HG.out.num.later bw2)).mono ?_
    rintro e w3 ⟨rfl, b3⟩
    have bw3 := bw2.trans (b3.mono bw2.size)
    have m3 : MomAt w3 w.heap.size (Y : Int) (M : Int) d h mi s z has := (⟨c0, c1, c2, c3, c4, c5, c6, c7, by assumption⟩ : MomAt W2 w.heap.size (Y : Int) (M : Int) d h mi s z has).later b3
    clear c0 c1 c2 c3 c4 c5 c6 c7
    obtain ⟨c0, c1, c2, c3, c4, c5, c6, c7, _⟩ := m3
    clear b3 cS
    go_wp2_with fail
    go_ret
    exact ⟨by first | rfl | simp, bw3⟩
  | true =>
    have cS := fun W hW => isSecond_ti s hs true hsec W hW
    obtain ⟨c0, c1, c2, c3, c4, c5, c6, c7, _⟩ := id m1
    have cD := fun k => cD (W1.drewN k) (hT.later (below_drewN (Below.refl _ _) k))
    cases has with
    | true =>
      have HV := Lib.hid ((validB_zone (z := z) (has := true) HD.out HC.out hsec).trans (show zoneB z true = (decide (-840 ≤ z) && decide (z ≤ 840)) from rfl))
      clear hT eY eM hsec
      rw [HV.out]
      clear hg
      go_enter Tryz.func46, Tryz.ntmps46
      go_wp2_with fail
      try rw [HW1.out]
      go_quiet ((go_at_call 64; exact Calls.quiet_of_same (cD _)))
      obtain ⟨W2, hW2⟩ : ∃ W2, W1.drewN nq = W2 := ⟨_, rfl⟩
      have m2 : MomAt W2 w.heap.size (Y : Int) (M : Int) d h mi s z true := by rw [← hW2]; exact m1.later (below_drewN (Below.refl _ _) _)
      have bw2 : Below w.heap.size w W2 := by rw [← hW2]; exact below_drewN bw1 _
      rw [hW2]
      obtain ⟨c0, c1, c2, c3, c4, c5, c6, c7, _⟩ := m2
      clear hW2 cD
      go_wp2_with fail
      refine (cS W2 (HG.out.num.later bw2)).mono ?_
      rintro e w3 ⟨rfl, b3⟩
      have bw3 := bw2.trans (b3.mono bw2.size)
      have m3 : MomAt w3 w.heap.size (Y : Int) (M : Int) d h mi s z true := (⟨c0, c1, c2, c3, c4, c5, c6, c7, by assumption⟩ : MomAt W2 w.heap.size (Y : Int) (M : Int) d h mi s z true).later b3
      clear c0 c1 c2 c3 c4 c5 c6 c7
      obtain ⟨c0, c1, c2, c3, c4, c5, c6, c7, _⟩ := m3
      clear b3 cS
      go_wp2_with fail
      refine (isZone_ti z w3).mono ?_
      rintro e w4 ⟨rfl, rfl⟩
      go_wp2_with fail
      go_ret
      exact ⟨by first | rfl | simp, bw3⟩
    | false =>
      by_cases hz : z = 0
      · have HV := Lib.hid ((validB_zone (z := z) (has := false) HD.out HC.out hsec).trans (show zoneB z false = true by unfold zoneB; rw [if_neg (by decide), decide_eq_true hz]))
        have hzb : (z == 0) = true := by rw [hz]; rfl
        clear hT eY eM hsec hz
        rw [HV.out]
        clear hg
        go_enter Tryz.func46, Tryz.ntmps46
        go_wp2_with fail
        try rw [HW1.out]
        go_quiet ((go_at_call 64; exact Calls.quiet_of_same (cD _)))
        obtain ⟨W2, hW2⟩ : ∃ W2, W1.drewN nq = W2 := ⟨_, rfl⟩
        have m2 : MomAt W2 w.heap.size (Y : Int) (M : Int) d h mi s z false := by rw [← hW2]; exact m1.later (below_drewN (Below.refl _ _) _)
        have bw2 : Below w.heap.size w W2 := by rw [← hW2]; exact below_drewN bw1 _
        rw [hW2]
        obtain ⟨c0, c1, c2, c3, c4, c5, c6, c7, _⟩ := m2
        clear hW2 cD
        go_wp2_with fail
        refine (cS W2 (HG.out.num.later bw2)).mono ?_
        rintro e w3 ⟨rfl, b3⟩
        have bw3 := bw2.trans (b3.mono bw2.size)
        have m3 : MomAt w3 w.heap.size (Y : Int) (M : Int) d h mi s z false := (⟨c0, c1, c2, c3, c4, c5, c6, c7, by assumption⟩ : MomAt W2 w.heap.size (Y : Int) (M : Int) d h mi s z false).later b3
        clear c0 c1 c2 c3 c4 c5 c6 c7
        obtain ⟨c0, c1, c2, c3, c4, c5, c6, c7, _⟩ := m3
        clear b3 cS
        go_wp2_with fail
        go_ret
        exact ⟨by first | rfl | simp, bw3⟩
      · have HV := Lib.hid ((validB_zone (z := z) (has := false) HD.out HC.out hsec).trans (show zoneB z false = false by unfold zoneB; rw [if_neg (by decide), decide_eq_false hz]))
        have hzb : (z == 0) = false := beq_eq_false_iff_ne.2 hz
        clear hT eY eM hsec hz
        rw [HV.out]
        clear hg
        go_enter Tryz.func46, Tryz.ntmps46
        go_wp2_with fail
        try rw [HW1.out]
        go_quiet ((go_at_call 64; exact Calls.quiet_of_same (cD _)))
        obtain ⟨W2, hW2⟩ : ∃ W2, W1.drewN nq = W2 := ⟨_, rfl⟩
        have m2 : MomAt W2 w.heap.size (Y : Int) (M : Int) d h mi s z false := by rw [← hW2]; exact m1.later (below_drewN (Below.refl _ _) _)
        have bw2 : Below w.heap.size w W2 := by rw [← hW2]; exact below_drewN bw1 _
        rw [hW2]
        obtain ⟨c0, c1, c2, c3, c4, c5, c6, c7, _⟩ := m2
        clear hW2 cD
        go_wp2_with fail
        refine (cS W2 (HG.out.num.later bw2)).mono ?_
        rintro e w3 ⟨rfl, b3⟩
        have bw3 := bw2.trans (b3.mono bw2.size)
        have m3 : MomAt w3 w.heap.size (Y : Int) (M : Int) d h mi s z false := (⟨c0, c1, c2, c3, c4, c5, c6, c7, by assumption⟩ : MomAt W2 w.heap.size (Y : Int) (M : Int) d h mi s z false).later b3
        clear c0 c1 c2 c3 c4 c5 c6 c7
        obtain ⟨c0, c1, c2, c3, c4, c5, c6, c7, _⟩ := m3
        clear b3 cS
        go_wp2_with fail
        go_ret
        exact ⟨by first | rfl | simp, bw3⟩
end Go.Proofs.YtgmnjghbafbopaaGreatDoor
namespace Go.Proofs.YtgmnjghbafbopaaGreatDoor
open Go.RowKit Go.Lib

/-- A valid moment: its numbers, and its seconds as millionths. -/
structure MomOk (y mo d h mi mu : Nat) (S : ByteArray) (z : Int) (has : Bool) : Prop where
  date : DateOk y mo d
  hour : h ≤ 23
  minute : mi ≤ 59
  micro : mu < 60000000
  sec : S.data.toList = bodyL (mu * 10 ^ 14)
  zone : zoneB z has = true
theorem MomOk.canon {y mo d h mi mu : Nat} {S : ByteArray} {z : Int} {has : Bool} (k : MomOk y mo d h mi mu S z has) : canonL S.data.toList = some (false, mu * 10 ^ 14) := by
  rw [k.sec]; exact body_canon (mic_lt (lt36 (by have := k.micro; omega)))
theorem MomOk.size {y mo d h mi mu : Nat} {S : ByteArray} {z : Int} {has : Bool} (k : MomOk y mo d h mi mu S z has) : S.size ≤ 52 := by
  rw [ba_size]; exact textL_len (text_canon _ _ _ k.canon).1
theorem MomOk.valid {y mo d h mi mu : Nat} {S : ByteArray} {z : Int} {has : Bool} (k : MomOk y mo d h mi mu S z has) : validB (y : Int) (mo : Int) (d : Int) (h : Int) (mi : Int) S.data.toList z has = true := by
  obtain ⟨⟨a1, a2, a3, a4, a5, a6⟩, b1, b2, b3, b4, b5⟩ := k
  have e1 : (y : Int).toNat = y := by omega
  have e2 : (mo : Int).toNat = mo := by omega
  rw [validB_zone (by rw [e1, e2]; omega) (by omega) (by rw [b4]; exact mic_isSec b3)]
  exact b5
theorem valid_mom {y mo d h mi : Int} {S : ByteArray} {z : Int} {has : Bool} (k : validB y mo d h mi S.data.toList z has = true) : ∃ Y M D H I mu : Nat, y = (Y : Int) ∧ mo = (M : Int) ∧ d = (D : Int) ∧ h = (H : Int) ∧ mi = (I : Int) ∧ MomOk Y M D H I mu S z has := by
  unfold validB at k
  rw [Bool.and_eq_true, Bool.and_eq_true, Bool.and_eq_true] at k
  obtain ⟨⟨⟨k1, k2⟩, k3⟩, k4⟩ := k
  have k1 := of_decide_eq_true k1
  have k2 := of_decide_eq_true k2
  obtain ⟨mu, m1, m2, _⟩ := isSec_mic k3
  refine ⟨y.toNat, mo.toNat, d.toNat, h.toNat, mi.toNat, mu, by omega, by omega, by omega, by omega, by omega, ⟨by omega, by omega, by omega, by omega, by omega, by omega⟩, by omega, by omega, m1, m2, k4⟩
/-- The millionths of a second from the beginning of the year 1 to the local time. -/
def localN (y mo d h mi mu : Nat) : Nat := dayN y mo d * 86400000000 + h * 3600000000 + mi * 60000000 + mu
theorem localN_lt {y mo d h mi mu : Nat} {S : ByteArray} {z : Int} {has : Bool} (k : MomOk y mo d h mi mu S z has) : localN y mo d h mi mu < 315537897600000000 := by
  have := dayN_max k.date
  have := k.hour
  have := k.minute
  have := k.micro
  unfold localN
  omega
theorem localN_inj {y mo d h mi mu y' mo' d' h' mi' mu' : Nat} {S S' : ByteArray} {z z' : Int} {has has' : Bool} (k : MomOk y mo d h mi mu S z has) (k' : MomOk y' mo' d' h' mi' mu' S' z' has') (e : localN y mo d h mi mu = localN y' mo' d' h' mi' mu') : y = y' ∧ mo = mo' ∧ d = d' ∧ h = h' ∧ mi = mi' ∧ mu = mu' ∧ S = S' := by
  have a1 := k.hour
  have a2 := k.minute
  have a3 := k.micro
  have b1 := k'.hour
  have b2 := k'.minute
  have b3 := k'.micro
  unfold localN at e
  have hd : dayN y mo d = dayN y' mo' d' := by omega
  obtain ⟨r1, r2, r3⟩ := dayN_inj k.date k'.date hd
  have hm : mu = mu' := by omega
  refine ⟨r1, r2, r3, by omega, by omega, hm, ?_⟩
  refine (ba_same ?_).symm
  rw [k.sec, k'.sec, hm]
set_option maxRecDepth 100000 in
set_option maxHeartbeats 4000000 in
theorem local_ti (y mo d h mi mu : Nat) (S : ByteArray) (z : Int) (has : Bool) (k : MomOk y mo d h mi mu S z has) (w : World) (hg : GrT w) :
    Calls Tryz.prog 58 #[momV (y : Int) (mo : Int) (d : Int) (h : Int) (mi : Int) S z has] w fun e w' => e = .returned (.int .i64 (localN y mo d h mi mu : Int)) ∧ Below w.heap.size w w' := by
  unfold momV
  have m1 := MomAt.new w (y : Int) (mo : Int) (d : Int) (h : Int) (mi : Int) S z has
  have bw1 : Below w.heap.size w (w.alloc (.cells #[.int .i64 (y : Int), .int .i64 (mo : Int), .int .i64 (d : Int), .int .i64 (h : Int), .int .i64 (mi : Int), .string S, .int .i64 z, .bool has] 24)) := (Below.refl _ _).alloc (Nat.le_refl _) _
  obtain ⟨W1, hW1⟩ : ∃ W, w.alloc (.cells #[.int .i64 (y : Int), .int .i64 (mo : Int), .int .i64 (d : Int), .int .i64 (h : Int), .int .i64 (mi : Int), .string S, .int .i64 z, .bool has] 24) = W := ⟨_, rfl⟩
  rw [hW1] at m1 bw1
  have HW1 := Lib.hid hW1
  have cM := microseconds_ti S (by have := k.size; omega) false (mu * 10 ^ 14) k.canon (mu : Int) true (by rw [k.sec]; exact mic_micR k.micro) W1 (hg.later bw1)
  have cD := fun W hW => dayNumber_ti y mo d k.date W hW
  have hN := dayN_max k.date
  obtain ⟨N, hNe⟩ : ∃ N, dayN y mo d = N := ⟨_, rfl⟩
  have HL := Lib.hid (show localN y mo d h mi mu = N * 86400000000 + h * 3600000000 + mi * 60000000 + mu by unfold localN; rw [hNe])
  rw [hNe] at cD hN
  have a1 := k.hour
  have a2 := k.minute
  have a3 := k.micro
  have HT := Lib.hid hg.tab
  clear hW1 hg k hNe
  go_enter Tryz.func58, Tryz.ntmps58
  go_wp2_with fail
  try rw [HW1.out]
  refine cM.mono ?_
  rintro e w2 ⟨rfl, b2⟩
  have m2 := m1.later b2
  have bw2 := bw1.trans (b2.mono bw1.size)
  have hT2 := HT.out.later bw2
  have cD := fun k => cD (w2.drewN k) (hT2.later (below_drewN (Below.refl _ _) k))
  obtain ⟨c0, c1, c2, c3, c4, c5, c6, c7, _⟩ := m2
  have s1 : IntKind.i64.wrap ((N : Int) * 86400000000) = (N : Int) * 86400000000 := IntWalk.i64_in _ (by omega)
  have s2 : IntKind.i64.wrap ((h : Int) * 3600000000) = (h : Int) * 3600000000 := IntWalk.i64_in _ (by omega)
  have s3 : IntKind.i64.wrap ((N : Int) * 86400000000 + (h : Int) * 3600000000) = (N : Int) * 86400000000 + (h : Int) * 3600000000 := IntWalk.i64_in _ (by omega)
  have s4 : IntKind.i64.wrap ((mi : Int) * 60000000) = (mi : Int) * 60000000 := IntWalk.i64_in _ (by omega)
  have s5 : IntKind.i64.wrap ((N : Int) * 86400000000 + (h : Int) * 3600000000 + (mi : Int) * 60000000) = (N : Int) * 86400000000 + (h : Int) * 3600000000 + (mi : Int) * 60000000 := IntWalk.i64_in _ (by omega)
  have s6 : IntKind.i64.wrap ((N : Int) * 86400000000 + (h : Int) * 3600000000 + (mi : Int) * 60000000 + (mu : Int)) = (N : Int) * 86400000000 + (h : Int) * 3600000000 + (mi : Int) * 60000000 + (mu : Int) := IntWalk.i64_in _ (by omega)
  clear a1 a2 a3 hN m1 b2 bw1 cM hT2
  go_wp2_with fail
  go_quiet ((go_at_call 59; exact Calls.quiet_of_same (cD _)))
  clear s1 s2 s3 s4 s5 s6
  go_wp2_with fail
  go_ret
  exact ⟨by rw [HL.out]; congr 2, below_drewN bw2 _⟩
end Go.Proofs.YtgmnjghbafbopaaGreatDoor
namespace Go.Proofs.YtgmnjghbafbopaaGreatDoor
open Go.RowKit Go.Lib

/-- A moment in a variable's eight cells. -/
structure MomW (W : World) (B : Nat) (y mo d h mi : Int) (s : ByteArray) (z : Int) (has : Bool) : Prop where
  c0 : W.cell? ⟨B, 0, none⟩ = some (.int .i64 y)
  c1 : W.cell? ⟨B, 1, none⟩ = some (.int .i64 mo)
  c2 : W.cell? ⟨B, 2, none⟩ = some (.int .i64 d)
  c3 : W.cell? ⟨B, 3, none⟩ = some (.int .i64 h)
  c4 : W.cell? ⟨B, 4, none⟩ = some (.int .i64 mi)
  c5 : W.cell? ⟨B, 5, none⟩ = some (.string s)
  c6 : W.cell? ⟨B, 6, none⟩ = some (.int .i64 z)
  c7 : W.cell? ⟨B, 7, none⟩ = some (.bool has)
  f0 : W.frozen? ⟨B, 0, none⟩ = false
  f1 : W.frozen? ⟨B, 1, none⟩ = false
  f2 : W.frozen? ⟨B, 2, none⟩ = false
  f3 : W.frozen? ⟨B, 3, none⟩ = false
  f4 : W.frozen? ⟨B, 4, none⟩ = false
  f5 : W.frozen? ⟨B, 5, none⟩ = false
  f6 : W.frozen? ⟨B, 6, none⟩ = false
  f7 : W.frozen? ⟨B, 7, none⟩ = false
  lt : B < W.heap.size
theorem MomW.other {W W' : World} {B : Nat} {y mo d h mi : Int} {s : ByteArray} {z : Int} {has : Bool} (h0 : MomW W B y mo d h mi s z has) (hk : W'.heap[B]? = W.heap[B]?) (hs : W.heap.size ≤ W'.heap.size) : MomW W' B y mo d h mi s z has :=
  ⟨(World.cell?_of_block (a := ⟨B, 0, none⟩) hk).trans h0.c0, (World.cell?_of_block (a := ⟨B, 1, none⟩) hk).trans h0.c1, (World.cell?_of_block (a := ⟨B, 2, none⟩) hk).trans h0.c2, (World.cell?_of_block (a := ⟨B, 3, none⟩) hk).trans h0.c3, (World.cell?_of_block (a := ⟨B, 4, none⟩) hk).trans h0.c4, (World.cell?_of_block (a := ⟨B, 5, none⟩) hk).trans h0.c5, (World.cell?_of_block (a := ⟨B, 6, none⟩) hk).trans h0.c6, (World.cell?_of_block (a := ⟨B, 7, none⟩) hk).trans h0.c7, (World.frozen?_of_block (a := ⟨B, 0, none⟩) hk).trans h0.f0, (World.frozen?_of_block (a := ⟨B, 1, none⟩) hk).trans h0.f1, (World.frozen?_of_block (a := ⟨B, 2, none⟩) hk).trans h0.f2, (World.frozen?_of_block (a := ⟨B, 3, none⟩) hk).trans h0.f3, (World.frozen?_of_block (a := ⟨B, 4, none⟩) hk).trans h0.f4, (World.frozen?_of_block (a := ⟨B, 5, none⟩) hk).trans h0.f5, (World.frozen?_of_block (a := ⟨B, 6, none⟩) hk).trans h0.f6, (World.frozen?_of_block (a := ⟨B, 7, none⟩) hk).trans h0.f7, Nat.lt_of_lt_of_le h0.lt hs⟩
theorem MomW.later {W W' : World} {B : Nat} {y mo d h mi : Int} {s : ByteArray} {z : Int} {has : Bool} (h0 : MomW W B y mo d h mi s z has) (hb : Below W.heap.size W W') : MomW W' B y mo d h mi s z has := h0.other (hb.block B h0.lt) hb.size
theorem MomW.new (w : World) (y mo d h mi : Int) (s : ByteArray) (z : Int) (has : Bool) : MomW (w.alloc (.cells #[.int .i64 y, .int .i64 mo, .int .i64 d, .int .i64 h, .int .i64 mi, .string s, .int .i64 z, .bool has] 24)) w.heap.size y mo d h mi s z has :=
  ⟨by simp [go_sem], by simp [go_sem], by simp [go_sem], by simp [go_sem], by simp [go_sem], by simp [go_sem], by simp [go_sem], by simp [go_sem], by simp [go_sem], by simp [go_sem], by simp [go_sem], by simp [go_sem], by simp [go_sem], by simp [go_sem], by simp [go_sem], by simp [go_sem], by simp⟩
theorem MomW.at {W : World} {B : Nat} {y mo d h mi : Int} {s : ByteArray} {z : Int} {has : Bool} (h0 : MomW W B y mo d h mi s z has) : MomAt W B y mo d h mi s z has := ⟨h0.c0, h0.c1, h0.c2, h0.c3, h0.c4, h0.c5, h0.c6, h0.c7, h0.lt⟩
theorem MomW.set0 {W : World} {B : Nat} {y mo d h mi : Int} {s : ByteArray} {z : Int} {has : Bool} (h0 : MomW W B y mo d h mi s z has) (v : Int) : MomW (W.setCell ⟨B, 0, none⟩ (.int .i64 v)) B v mo d h mi s z has :=
  ⟨World.cell?_setCell_same _ _ _ h0.c0, (World.cell?_setCell_other _ _ _ _ (by simp)).trans h0.c1, (World.cell?_setCell_other _ _ _ _ (by simp)).trans h0.c2, (World.cell?_setCell_other _ _ _ _ (by simp)).trans h0.c3, (World.cell?_setCell_other _ _ _ _ (by simp)).trans h0.c4, (World.cell?_setCell_other _ _ _ _ (by simp)).trans h0.c5, (World.cell?_setCell_other _ _ _ _ (by simp)).trans h0.c6, (World.cell?_setCell_other _ _ _ _ (by simp)).trans h0.c7, by simpa using h0.f0, by simpa using h0.f1, by simpa using h0.f2, by simpa using h0.f3, by simpa using h0.f4, by simpa using h0.f5, by simpa using h0.f6, by simpa using h0.f7, by simpa [World.setCell] using h0.lt⟩
theorem MomW.set1 {W : World} {B : Nat} {y mo d h mi : Int} {s : ByteArray} {z : Int} {has : Bool} (h0 : MomW W B y mo d h mi s z has) (v : Int) : MomW (W.setCell ⟨B, 1, none⟩ (.int .i64 v)) B y v d h mi s z has :=
  ⟨(World.cell?_setCell_other _ _ _ _ (by simp)).trans h0.c0, World.cell?_setCell_same _ _ _ h0.c1, (World.cell?_setCell_other _ _ _ _ (by simp)).trans h0.c2, (World.cell?_setCell_other _ _ _ _ (by simp)).trans h0.c3, (World.cell?_setCell_other _ _ _ _ (by simp)).trans h0.c4, (World.cell?_setCell_other _ _ _ _ (by simp)).trans h0.c5, (World.cell?_setCell_other _ _ _ _ (by simp)).trans h0.c6, (World.cell?_setCell_other _ _ _ _ (by simp)).trans h0.c7, by simpa using h0.f0, by simpa using h0.f1, by simpa using h0.f2, by simpa using h0.f3, by simpa using h0.f4, by simpa using h0.f5, by simpa using h0.f6, by simpa using h0.f7, by simpa [World.setCell] using h0.lt⟩
theorem MomW.set2 {W : World} {B : Nat} {y mo d h mi : Int} {s : ByteArray} {z : Int} {has : Bool} (h0 : MomW W B y mo d h mi s z has) (v : Int) : MomW (W.setCell ⟨B, 2, none⟩ (.int .i64 v)) B y mo v h mi s z has :=
  ⟨(World.cell?_setCell_other _ _ _ _ (by simp)).trans h0.c0, (World.cell?_setCell_other _ _ _ _ (by simp)).trans h0.c1, World.cell?_setCell_same _ _ _ h0.c2, (World.cell?_setCell_other _ _ _ _ (by simp)).trans h0.c3, (World.cell?_setCell_other _ _ _ _ (by simp)).trans h0.c4, (World.cell?_setCell_other _ _ _ _ (by simp)).trans h0.c5, (World.cell?_setCell_other _ _ _ _ (by simp)).trans h0.c6, (World.cell?_setCell_other _ _ _ _ (by simp)).trans h0.c7, by simpa using h0.f0, by simpa using h0.f1, by simpa using h0.f2, by simpa using h0.f3, by simpa using h0.f4, by simpa using h0.f5, by simpa using h0.f6, by simpa using h0.f7, by simpa [World.setCell] using h0.lt⟩
theorem MomW.set3 {W : World} {B : Nat} {y mo d h mi : Int} {s : ByteArray} {z : Int} {has : Bool} (h0 : MomW W B y mo d h mi s z has) (v : Int) : MomW (W.setCell ⟨B, 3, none⟩ (.int .i64 v)) B y mo d v mi s z has :=
  ⟨(World.cell?_setCell_other _ _ _ _ (by simp)).trans h0.c0, (World.cell?_setCell_other _ _ _ _ (by simp)).trans h0.c1, (World.cell?_setCell_other _ _ _ _ (by simp)).trans h0.c2, World.cell?_setCell_same _ _ _ h0.c3, (World.cell?_setCell_other _ _ _ _ (by simp)).trans h0.c4, (World.cell?_setCell_other _ _ _ _ (by simp)).trans h0.c5, (World.cell?_setCell_other _ _ _ _ (by simp)).trans h0.c6, (World.cell?_setCell_other _ _ _ _ (by simp)).trans h0.c7, by simpa using h0.f0, by simpa using h0.f1, by simpa using h0.f2, by simpa using h0.f3, by simpa using h0.f4, by simpa using h0.f5, by simpa using h0.f6, by simpa using h0.f7, by simpa [World.setCell] using h0.lt⟩
theorem MomW.set4 {W : World} {B : Nat} {y mo d h mi : Int} {s : ByteArray} {z : Int} {has : Bool} (h0 : MomW W B y mo d h mi s z has) (v : Int) : MomW (W.setCell ⟨B, 4, none⟩ (.int .i64 v)) B y mo d h v s z has :=
  ⟨(World.cell?_setCell_other _ _ _ _ (by simp)).trans h0.c0, (World.cell?_setCell_other _ _ _ _ (by simp)).trans h0.c1, (World.cell?_setCell_other _ _ _ _ (by simp)).trans h0.c2, (World.cell?_setCell_other _ _ _ _ (by simp)).trans h0.c3, World.cell?_setCell_same _ _ _ h0.c4, (World.cell?_setCell_other _ _ _ _ (by simp)).trans h0.c5, (World.cell?_setCell_other _ _ _ _ (by simp)).trans h0.c6, (World.cell?_setCell_other _ _ _ _ (by simp)).trans h0.c7, by simpa using h0.f0, by simpa using h0.f1, by simpa using h0.f2, by simpa using h0.f3, by simpa using h0.f4, by simpa using h0.f5, by simpa using h0.f6, by simpa using h0.f7, by simpa [World.setCell] using h0.lt⟩
theorem MomW.set5 {W : World} {B : Nat} {y mo d h mi : Int} {s : ByteArray} {z : Int} {has : Bool} (h0 : MomW W B y mo d h mi s z has) (v : ByteArray) : MomW (W.setCell ⟨B, 5, none⟩ (.string v)) B y mo d h mi v z has :=
  ⟨(World.cell?_setCell_other _ _ _ _ (by simp)).trans h0.c0, (World.cell?_setCell_other _ _ _ _ (by simp)).trans h0.c1, (World.cell?_setCell_other _ _ _ _ (by simp)).trans h0.c2, (World.cell?_setCell_other _ _ _ _ (by simp)).trans h0.c3, (World.cell?_setCell_other _ _ _ _ (by simp)).trans h0.c4, World.cell?_setCell_same _ _ _ h0.c5, (World.cell?_setCell_other _ _ _ _ (by simp)).trans h0.c6, (World.cell?_setCell_other _ _ _ _ (by simp)).trans h0.c7, by simpa using h0.f0, by simpa using h0.f1, by simpa using h0.f2, by simpa using h0.f3, by simpa using h0.f4, by simpa using h0.f5, by simpa using h0.f6, by simpa using h0.f7, by simpa [World.setCell] using h0.lt⟩
theorem MomW.set6 {W : World} {B : Nat} {y mo d h mi : Int} {s : ByteArray} {z : Int} {has : Bool} (h0 : MomW W B y mo d h mi s z has) (v : Int) : MomW (W.setCell ⟨B, 6, none⟩ (.int .i64 v)) B y mo d h mi s v has :=
  ⟨(World.cell?_setCell_other _ _ _ _ (by simp)).trans h0.c0, (World.cell?_setCell_other _ _ _ _ (by simp)).trans h0.c1, (World.cell?_setCell_other _ _ _ _ (by simp)).trans h0.c2, (World.cell?_setCell_other _ _ _ _ (by simp)).trans h0.c3, (World.cell?_setCell_other _ _ _ _ (by simp)).trans h0.c4, (World.cell?_setCell_other _ _ _ _ (by simp)).trans h0.c5, World.cell?_setCell_same _ _ _ h0.c6, (World.cell?_setCell_other _ _ _ _ (by simp)).trans h0.c7, by simpa using h0.f0, by simpa using h0.f1, by simpa using h0.f2, by simpa using h0.f3, by simpa using h0.f4, by simpa using h0.f5, by simpa using h0.f6, by simpa using h0.f7, by simpa [World.setCell] using h0.lt⟩
theorem MomW.set7 {W : World} {B : Nat} {y mo d h mi : Int} {s : ByteArray} {z : Int} {has : Bool} (h0 : MomW W B y mo d h mi s z has) (v : Bool) : MomW (W.setCell ⟨B, 7, none⟩ (.bool v)) B y mo d h mi s z v :=
  ⟨(World.cell?_setCell_other _ _ _ _ (by simp)).trans h0.c0, (World.cell?_setCell_other _ _ _ _ (by simp)).trans h0.c1, (World.cell?_setCell_other _ _ _ _ (by simp)).trans h0.c2, (World.cell?_setCell_other _ _ _ _ (by simp)).trans h0.c3, (World.cell?_setCell_other _ _ _ _ (by simp)).trans h0.c4, (World.cell?_setCell_other _ _ _ _ (by simp)).trans h0.c5, (World.cell?_setCell_other _ _ _ _ (by simp)).trans h0.c6, World.cell?_setCell_same _ _ _ h0.c7, by simpa using h0.f0, by simpa using h0.f1, by simpa using h0.f2, by simpa using h0.f3, by simpa using h0.f4, by simpa using h0.f5, by simpa using h0.f6, by simpa using h0.f7, by simpa [World.setCell] using h0.lt⟩
theorem MomW.setDate {W : World} {B : Nat} {y mo d h mi : Int} {s : ByteArray} {z : Int} {has : Bool} (h0 : MomW W B y mo d h mi s z has) (v0 : Int) (v1 : Int) (v2 : Int) : ∃ W5, ((W.setCell ⟨B, 0, none⟩ (.int .i64 v0)).setCell ⟨B, 1, none⟩ (.int .i64 v1)).setCell ⟨B, 2, none⟩ (.int .i64 v2) = W5 ∧ MomW W5 B v0 v1 v2 h mi s z has ∧ (∀ {B0 : Nat} {w0 : World}, Below B0 w0 W → B0 ≤ B → Below B0 w0 W5) ∧ (∀ k, k ≠ B → W5.heap[k]? = W.heap[k]?) ∧ W5.heap.size = W.heap.size :=
  ⟨_, rfl, (((h0).set0 v0).set1 v1).set2 v2, fun hb hB => (((hb).setCell (p := ⟨B, 0, none⟩) hB _).setCell (p := ⟨B, 1, none⟩) hB _).setCell (p := ⟨B, 2, none⟩) hB _, fun _ hk => ((Below.heap_setCell _ _ _ _ hk).trans (Below.heap_setCell _ _ _ _ hk)).trans (Below.heap_setCell _ _ _ _ hk), by simp [World.setCell]⟩
theorem MomW.setClock {W : World} {B : Nat} {y mo d h mi : Int} {s : ByteArray} {z : Int} {has : Bool} (h0 : MomW W B y mo d h mi s z has) (v3 : Int) (v4 : Int) (v5 : ByteArray) : ∃ W5, ((W.setCell ⟨B, 3, none⟩ (.int .i64 v3)).setCell ⟨B, 4, none⟩ (.int .i64 v4)).setCell ⟨B, 5, none⟩ (.string v5) = W5 ∧ MomW W5 B y mo d v3 v4 v5 z has ∧ (∀ {B0 : Nat} {w0 : World}, Below B0 w0 W → B0 ≤ B → Below B0 w0 W5) ∧ (∀ k, k ≠ B → W5.heap[k]? = W.heap[k]?) ∧ W5.heap.size = W.heap.size :=
  ⟨_, rfl, (((h0).set3 v3).set4 v4).set5 v5, fun hb hB => (((hb).setCell (p := ⟨B, 3, none⟩) hB _).setCell (p := ⟨B, 4, none⟩) hB _).setCell (p := ⟨B, 5, none⟩) hB _, fun _ hk => ((Below.heap_setCell _ _ _ _ hk).trans (Below.heap_setCell _ _ _ _ hk)).trans (Below.heap_setCell _ _ _ _ hk), by simp [World.setCell]⟩
theorem MomW.setYM {W : World} {B : Nat} {y mo d h mi : Int} {s : ByteArray} {z : Int} {has : Bool} (h0 : MomW W B y mo d h mi s z has) (v0 : Int) (v1 : Int) : ∃ W5, (W.setCell ⟨B, 0, none⟩ (.int .i64 v0)).setCell ⟨B, 1, none⟩ (.int .i64 v1) = W5 ∧ MomW W5 B v0 v1 d h mi s z has ∧ (∀ {B0 : Nat} {w0 : World}, Below B0 w0 W → B0 ≤ B → Below B0 w0 W5) ∧ (∀ k, k ≠ B → W5.heap[k]? = W.heap[k]?) ∧ W5.heap.size = W.heap.size :=
  ⟨_, rfl, ((h0).set0 v0).set1 v1, fun hb hB => ((hb).setCell (p := ⟨B, 0, none⟩) hB _).setCell (p := ⟨B, 1, none⟩) hB _, fun _ hk => (Below.heap_setCell _ _ _ _ hk).trans (Below.heap_setCell _ _ _ _ hk), by simp [World.setCell]⟩
theorem MomW.setZone {W : World} {B : Nat} {y mo d h mi : Int} {s : ByteArray} {z : Int} {has : Bool} (h0 : MomW W B y mo d h mi s z has) (v6 : Int) (v7 : Bool) : ∃ W5, (W.setCell ⟨B, 6, none⟩ (.int .i64 v6)).setCell ⟨B, 7, none⟩ (.bool v7) = W5 ∧ MomW W5 B y mo d h mi s v6 v7 ∧ (∀ {B0 : Nat} {w0 : World}, Below B0 w0 W → B0 ≤ B → Below B0 w0 W5) ∧ (∀ k, k ≠ B → W5.heap[k]? = W.heap[k]?) ∧ W5.heap.size = W.heap.size :=
  ⟨_, rfl, ((h0).set6 v6).set7 v7, fun hb hB => ((hb).setCell (p := ⟨B, 6, none⟩) hB _).setCell (p := ⟨B, 7, none⟩) hB _, fun _ hk => (Below.heap_setCell _ _ _ _ hk).trans (Below.heap_setCell _ _ _ _ hk), by simp [World.setCell]⟩
theorem MomW.setAll {W : World} {B : Nat} {y mo d h mi : Int} {s : ByteArray} {z : Int} {has : Bool} (h0 : MomW W B y mo d h mi s z has) (v0 : Int) (v1 : Int) (v2 : Int) (v3 : Int) (v4 : Int) (v5 : ByteArray) (v6 : Int) (v7 : Bool) : ∃ W5, (((((((W.setCell ⟨B, 0, none⟩ (.int .i64 v0)).setCell ⟨B, 1, none⟩ (.int .i64 v1)).setCell ⟨B, 2, none⟩ (.int .i64 v2)).setCell ⟨B, 3, none⟩ (.int .i64 v3)).setCell ⟨B, 4, none⟩ (.int .i64 v4)).setCell ⟨B, 5, none⟩ (.string v5)).setCell ⟨B, 6, none⟩ (.int .i64 v6)).setCell ⟨B, 7, none⟩ (.bool v7) = W5 ∧ MomW W5 B v0 v1 v2 v3 v4 v5 v6 v7 ∧ (∀ {B0 : Nat} {w0 : World}, Below B0 w0 W → B0 ≤ B → Below B0 w0 W5) ∧ (∀ k, k ≠ B → W5.heap[k]? = W.heap[k]?) ∧ W5.heap.size = W.heap.size :=
  ⟨_, rfl, ((((((((h0).set0 v0).set1 v1).set2 v2).set3 v3).set4 v4).set5 v5).set6 v6).set7 v7, fun hb hB => ((((((((hb).setCell (p := ⟨B, 0, none⟩) hB _).setCell (p := ⟨B, 1, none⟩) hB _).setCell (p := ⟨B, 2, none⟩) hB _).setCell (p := ⟨B, 3, none⟩) hB _).setCell (p := ⟨B, 4, none⟩) hB _).setCell (p := ⟨B, 5, none⟩) hB _).setCell (p := ⟨B, 6, none⟩) hB _).setCell (p := ⟨B, 7, none⟩) hB _, fun _ hk => (((((((Below.heap_setCell _ _ _ _ hk).trans (Below.heap_setCell _ _ _ _ hk)).trans (Below.heap_setCell _ _ _ _ hk)).trans (Below.heap_setCell _ _ _ _ hk)).trans (Below.heap_setCell _ _ _ _ hk)).trans (Below.heap_setCell _ _ _ _ hk)).trans (Below.heap_setCell _ _ _ _ hk)).trans (Below.heap_setCell _ _ _ _ hk), by simp [World.setCell]⟩
end Go.Proofs.YtgmnjghbafbopaaGreatDoor

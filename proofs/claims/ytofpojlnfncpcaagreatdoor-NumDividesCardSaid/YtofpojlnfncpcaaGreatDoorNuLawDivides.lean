/- The contract of chisellaw04.NumDivides. -/
import Derived.Test.YtofpojlnfncpcaaGreatDoorNuUse
import Derived.BigQuiet
namespace Go.Proofs.YtofpojlnfncpcaaGreatDoor
open Go.RowKit Go.Lib

set_option maxRecDepth 100000 in
set_option maxHeartbeats 8000000 in
theorem divides_law (a b : ByteArray) (w : World) (hg : GrN w) :
    Calls Tryz.prog 10 #[.string a, .string b] w fun e w' => e = .returned (.bool true) ∧ Below w.heap.size w w' := by
  have hneg : ∀ (s : ByteArray) (c : Bool) (n : Nat), canonL s.data.toList = some (c, n) → ∃ h : 0 < s.size, (decide (s[0].toNat = 45)) = c := fun s c n h => by
    obtain ⟨d, t, e, k⟩ := head_neg h
    have hl : s.size = s.data.toList.length := ba_len s
    have hp : 0 < s.size := by rw [hl, e]; simp
    refine ⟨hp, ?_⟩
    have hd : s[0] = d := by
      have h2 : s.data.toList[0]'(by rw [e]; simp) = d := by simp [e]
      exact h2
    rw [hd, ← k]
    by_cases h45 : d = 45
    · subst h45; rfl
    · rw [decide_eq_false h45, decide_eq_false (show ¬ d.toNat = 45 from fun h => h45 (UInt8.toNat.inj h))]
  have cw := (works_on hg).use
  have cl := (long_on hg a b).use
  by_cases hL : 300 < (a.size : Int) ∨ 300 < (b.size : Int)
  · rw [show (decide (300 < (a.size : Int)) || decide (300 < (b.size : Int))) = true by simpa using hL] at cl
    clear hg hL
    go_enter Tryz.func10, Tryz.ntmps10
    go_wp2_with fail
    refine (cl w (Below.refl _ _)).mono ?_
    rintro e w1 ⟨rfl, b1⟩
    go_wp2_with fail
    refine (cw w1 b1).mono ?_
    rintro e w2 ⟨rfl, b2⟩
    go_wp2_with fail
    go_ret
    exact ⟨rfl, b2⟩
  rw [show (decide (300 < (a.size : Int)) || decide (300 < (b.size : Int))) = false by simp; omega] at cl
  cases hca : canonL a.data.toList with
  | none =>
    have c1 := (idiv_on hg a b ⟨#[]⟩ 1 (by omega) (by omega) (onD_none (.inl hca) _)).use
    have c2 := (mod_on hg a b ⟨#[]⟩ 1 (by omega) (by omega) (onD_none (.inl hca) _)).use
    clear hg hL hca hneg
    go_enter Tryz.func10, Tryz.ntmps10
    go_wp2_with fail
    refine (cl w (Below.refl _ _)).mono ?_
    rintro e w1 ⟨rfl, b1⟩
    go_wp2_with fail
    refine (c1 w1 b1).mono ?_
    rintro e w2 ⟨rfl, b2⟩
    go_wp2_with fail
    refine (c2 w2 b2).mono ?_
    rintro e w3 ⟨rfl, b3⟩
    go_wp2_with fail
    refine (cw w3 b3).mono ?_
    rintro e w4 ⟨rfl, b4⟩
    go_wp2_with fail
    go_ret
    exact ⟨rfl, b4⟩
  | some u =>
  cases hcb : canonL b.data.toList with
  | none =>
    have c1 := (idiv_on hg a b ⟨#[]⟩ 1 (by omega) (by omega) (onD_none (.inr hcb) _)).use
    have c2 := (mod_on hg a b ⟨#[]⟩ 1 (by omega) (by omega) (onD_none (.inr hcb) _)).use
    clear hg hL hca hcb hneg
    go_enter Tryz.func10, Tryz.ntmps10
    go_wp2_with fail
    refine (cl w (Below.refl _ _)).mono ?_
    rintro e w1 ⟨rfl, b1⟩
    go_wp2_with fail
    refine (c1 w1 b1).mono ?_
    rintro e w2 ⟨rfl, b2⟩
    go_wp2_with fail
    refine (c2 w2 b2).mono ?_
    rintro e w3 ⟨rfl, b3⟩
    go_wp2_with fail
    refine (cw w3 b3).mono ?_
    rintro e w4 ⟨rfl, b4⟩
    go_wp2_with fail
    go_ret
    exact ⟨rfl, b4⟩
  | some v =>
  obtain ⟨bx, x⟩ := u
  obtain ⟨by_, y⟩ := v
  by_cases hy : y = 0
  · subst hy
    have c1 := (idiv_on hg a b ⟨#[]⟩ 41 (by omega) (by omega) (onD_zero hca hcb _)).use
    have c2 := (mod_on hg a b ⟨#[]⟩ 41 (by omega) (by omega) (onD_zero hca hcb _)).use
    clear hg hL hca hcb hneg
    go_enter Tryz.func10, Tryz.ntmps10
    go_wp2_with fail
    refine (cl w (Below.refl _ _)).mono ?_
    rintro e w1 ⟨rfl, b1⟩
    go_wp2_with fail
    refine (c1 w1 b1).mono ?_
    rintro e w2 ⟨rfl, b2⟩
    go_wp2_with fail
    refine (c2 w2 b2).mono ?_
    rintro e w3 ⟨rfl, b3⟩
    go_wp2_with fail
    refine (cw w3 b3).mono ?_
    rintro e w4 ⟨rfl, b4⟩
    go_wp2_with fail
    go_ret
    exact ⟨rfl, b4⟩
  obtain ⟨rl, c, hr, hrc, hrz⟩ := mod_is hca hcb hy
  obtain ⟨r, rfl⟩ : ∃ r : ByteArray, r.data.toList = rl := ⟨⟨rl.toArray⟩, rfl⟩
  have hrs : r.size ≤ 52 := canonR_size (z := 0) (by rw [← hr]; exact modR_canonR _ _)
  have c2 := (mod_on hg a b r 0 (by omega) (by omega) hr).use
  obtain ⟨ar, har⟩ : ∃ ar : ByteArray, absL r.data.toList = ar.data.toList := ⟨⟨(absL r.data.toList).toArray⟩, rfl⟩
  obtain ⟨ab, hab⟩ : ∃ ab : ByteArray, absL b.data.toList = ab.data.toList := ⟨⟨(absL b.data.toList).toArray⟩, rfl⟩
  have hal : ∀ l : List UInt8, (absL l).length ≤ l.length := fun l => by
    cases l with
    | nil => exact Nat.le_refl _
    | cons d t =>
      show (if d = 45 then t else d :: t).length ≤ (d :: t).length
      split <;> simp
  have hars : ar.size ≤ 52 := by have := hal r.data.toList; rw [har, ← ba_len, ← ba_len] at this; omega
  have habs : ab.size ≤ 300 := by have := hal b.data.toList; rw [hab, ← ba_len, ← ba_len] at this; omega
  have c3 := (abs_on hg r ar har).use
  have c4 := (abs_on hg b ab hab).use
  have hcmp : cmpR ar.data.toList ab.data.toList = (-1, 0) := by
    rw [← har, ← hab, cmpR_some (absL_canon hrc) (absL_canon hcb)]
    have h1 := Nat.mod_lt x (Nat.pos_of_ne_zero hy)
    unfold cmpN sgnN
    rw [if_neg (by simp), if_neg (by decide), if_neg (by decide), if_pos h1]
  have c5 := (cmp_on hg ar ab (-1) 0 (by omega) (by omega) hcmp).use
  obtain ⟨hra, hrb⟩ := hneg _ _ _ hrc
  obtain ⟨haa, hab2⟩ := hneg _ _ _ hca
  have hraz : 0 < (r.size : Int) := by omega
  have haaz : 0 < (a.size : Int) := by omega
  have hsign : r = ⟨#[48]⟩ ∨ (r ≠ ⟨#[48]⟩ ∧ (decide (r[0].toNat = 45)) = (decide (a[0].toNat = 45))) := by
    by_cases h0 : r = ⟨#[48]⟩
    · exact .inl h0
    · refine .inr ⟨h0, ?_⟩
      rw [hrb, hab2]
      rcases (toZ_inj hrz).2 with h | h
      · exact h
      · exact absurd (bytes_eq.2 ((canon_zero hrc).2 h)) h0
  have HQ := Lib.hid hsign
  rcases idiv_is hca hcb hy with hq | ⟨ql, cq, hq, hqc, hqz⟩
  · have c1 := (idiv_on hg a b ⟨#[]⟩ 40 (by omega) (by omega) hq).use
    clear hg hL hca hcb hneg hq hr hrc hrz hrs hab har hal hars habs hcmp hrb hab2 hsign
    rcases HQ.out with rfl | ⟨hne, hs⟩
    · clear HQ
      go_enter Tryz.func10, Tryz.ntmps10
      go_wp2_with fail
      refine (cl w (Below.refl _ _)).mono ?_
      rintro e w1 ⟨rfl, b1⟩
      go_wp2_with fail
      refine (c1 w1 b1).mono ?_
      rintro e w2 ⟨rfl, b2⟩
      go_wp2_with fail
      refine (c2 w2 b2).mono ?_
      rintro e w3 ⟨rfl, b3⟩
      go_wp2_with fail
      refine (c3 w3 b3).mono ?_
      rintro e w4 ⟨rfl, b4⟩
      go_wp2_with fail
      refine (c4 w4 b4).mono ?_
      rintro e w5 ⟨rfl, b5⟩
      go_wp2_with fail
      refine (c5 w5 b5).mono ?_
      rintro e w6 ⟨rfl, b6⟩
      go_wp2_with fail
      go_quiet (fail)
      have b7 : Below w.heap.size w (w6.drewN nq) := below_drewN b6 nq
      obtain ⟨w7, hw7⟩ : ∃ w7, w6.drewN nq = w7 := ⟨_, rfl⟩
      rw [hw7] at b7 ⊢
      clear hw7 b6
      go_wp2_with fail
      refine (cw w7 b7).mono ?_
      rintro e w8 ⟨rfl, b8⟩
      go_wp2_with fail
      go_ret
      exact ⟨rfl, b8⟩
    · clear HQ
      have hneL : ¬ r.toList = [48] := fun h => hne (bytes_eq.2 (by rw [← ByteArray.toList_eq, h]))
      have hne2 : (r.toList == [48]) = false := by simpa using hneL
      clear hne
      by_cases h45 : a[0].toNat = 45
      · have h45d : decide (a[0].toNat = 45) = true := decide_eq_true h45
        have h45r : decide (r[0].toNat = 45) = true := hs.trans h45d
        have h45q : r[0].toNat = 45 := of_decide_eq_true h45r
        clear hs
        go_enter Tryz.func10, Tryz.ntmps10
        go_wp2_with fail
        refine (cl w (Below.refl _ _)).mono ?_
        rintro e w1 ⟨rfl, b1⟩
        go_wp2_with fail
        refine (c1 w1 b1).mono ?_
        rintro e w2 ⟨rfl, b2⟩
        go_wp2_with fail
        refine (c2 w2 b2).mono ?_
        rintro e w3 ⟨rfl, b3⟩
        go_wp2_with fail
        refine (c3 w3 b3).mono ?_
        rintro e w4 ⟨rfl, b4⟩
        go_wp2_with fail
        refine (c4 w4 b4).mono ?_
        rintro e w5 ⟨rfl, b5⟩
        go_wp2_with fail
        refine (c5 w5 b5).mono ?_
        rintro e w6 ⟨rfl, b6⟩
        go_wp2_with fail
        go_quiet (fail)
        have b7 : Below w.heap.size w (w6.drewN nq) := below_drewN b6 nq
        obtain ⟨w7, hw7⟩ : ∃ w7, w6.drewN nq = w7 := ⟨_, rfl⟩
        rw [hw7] at b7 ⊢
        clear hw7 b6
        go_wp2_with fail
        refine (cw w7 b7).mono ?_
        rintro e w8 ⟨rfl, b8⟩
        go_wp2_with fail
        go_ret
        exact ⟨rfl, b8⟩
      · have h45d : decide (a[0].toNat = 45) = false := decide_eq_false h45
        have h45r : decide (r[0].toNat = 45) = false := hs.trans h45d
        have h45q : ¬ r[0].toNat = 45 := of_decide_eq_false h45r
        have h45i : ((a[0].toNat : Int) == 45) = false := beq_eq_false_iff_ne.2 (by omega)
        have h45j : ((r[0].toNat : Int) == 45) = false := beq_eq_false_iff_ne.2 (by omega)
        clear hs
        go_enter Tryz.func10, Tryz.ntmps10
        go_wp2_with fail
        refine (cl w (Below.refl _ _)).mono ?_
        rintro e w1 ⟨rfl, b1⟩
        go_wp2_with fail
        refine (c1 w1 b1).mono ?_
        rintro e w2 ⟨rfl, b2⟩
        go_wp2_with fail
        refine (c2 w2 b2).mono ?_
        rintro e w3 ⟨rfl, b3⟩
        go_wp2_with fail
        refine (c3 w3 b3).mono ?_
        rintro e w4 ⟨rfl, b4⟩
        go_wp2_with fail
        refine (c4 w4 b4).mono ?_
        rintro e w5 ⟨rfl, b5⟩
        go_wp2_with fail
        refine (c5 w5 b5).mono ?_
        rintro e w6 ⟨rfl, b6⟩
        go_wp2_with fail
        go_quiet (fail)
        have b7 : Below w.heap.size w (w6.drewN nq) := below_drewN b6 nq
        obtain ⟨w7, hw7⟩ : ∃ w7, w6.drewN nq = w7 := ⟨_, rfl⟩
        rw [hw7] at b7 ⊢
        clear hw7 b6
        go_wp2_with fail
        refine (cw w7 b7).mono ?_
        rintro e w8 ⟨rfl, b8⟩
        go_wp2_with fail
        go_ret
        exact ⟨rfl, b8⟩
  · obtain ⟨q, rfl⟩ : ∃ q : ByteArray, q.data.toList = ql := ⟨⟨ql.toArray⟩, rfl⟩
    have hqs : q.size ≤ 52 := canonR_size (z := 0) (by rw [← hq]; exact idivR_canonR _ _)
    have c1 := (idiv_on hg a b q 0 (by omega) (by omega) hq).use
    obtain ⟨pl, cp, hp, hpc, hpz⟩ := mul_back hcb (canonL_lt hca) hqc hqz
    obtain ⟨p, rfl⟩ : ∃ p : ByteArray, p.data.toList = pl := ⟨⟨pl.toArray⟩, rfl⟩
    have hps : p.size ≤ 52 := canonR_size (z := 0) (by rw [← hp]; exact mulR_canonR _ _)
    have c6 := (mul_on hg b q p 0 (by omega) (by omega) hp).use
    have c7 := (add_on hg p r a 0 (by omega) (by omega) (add_back hca hpc hpz hrc hrz)).use
    have c8 := (isInt_on hg q true (by omega) (canon_after hqc (Nat.mul_mod_left _ _))).use
    clear hg hL hca hcb hneg hq hr hrc hrz hrs hab har hal hars habs hcmp hrb hab2 hsign hqs hqc hqz hp hpc hpz hps
    rcases HQ.out with rfl | ⟨hne, hs⟩
    · clear HQ
      go_enter Tryz.func10, Tryz.ntmps10
      go_wp2_with fail
      refine (cl w (Below.refl _ _)).mono ?_
      rintro e w1 ⟨rfl, b1⟩
      go_wp2_with fail
      refine (c1 w1 b1).mono ?_
      rintro e w2 ⟨rfl, b2⟩
      go_wp2_with fail
      refine (c2 w2 b2).mono ?_
      rintro e w3 ⟨rfl, b3⟩
      go_wp2_with fail
      refine (c3 w3 b3).mono ?_
      rintro e w4 ⟨rfl, b4⟩
      go_wp2_with fail
      refine (c4 w4 b4).mono ?_
      rintro e w5 ⟨rfl, b5⟩
      go_wp2_with fail
      refine (c5 w5 b5).mono ?_
      rintro e w6 ⟨rfl, b6⟩
      go_wp2_with fail
      go_quiet (fail)
      have b7 : Below w.heap.size w (w6.drewN nq) := below_drewN b6 nq
      obtain ⟨w7, hw7⟩ : ∃ w7, w6.drewN nq = w7 := ⟨_, rfl⟩
      rw [hw7] at b7 ⊢
      clear hw7 b6
      go_wp2_with fail
      refine (c6 w7 b7).mono ?_
      rintro e w8 ⟨rfl, b8⟩
      go_wp2_with fail
      refine (c7 w8 b8).mono ?_
      rintro e w9 ⟨rfl, b9⟩
      go_wp2_with fail
      refine (c8 w9 b9).mono ?_
      rintro e w10 ⟨rfl, b10⟩
      go_wp2_with fail
      refine (cw w10 b10).mono ?_
      rintro e w11 ⟨rfl, b11⟩
      go_wp2_with fail
      go_ret
      exact ⟨rfl, b11⟩
    · clear HQ
      have hneL : ¬ r.toList = [48] := fun h => hne (bytes_eq.2 (by rw [← ByteArray.toList_eq, h]))
      have hne2 : (r.toList == [48]) = false := by simpa using hneL
      clear hne
      by_cases h45 : a[0].toNat = 45
      · have h45d : decide (a[0].toNat = 45) = true := decide_eq_true h45
        have h45r : decide (r[0].toNat = 45) = true := hs.trans h45d
        have h45q : r[0].toNat = 45 := of_decide_eq_true h45r
        clear hs
        go_enter Tryz.func10, Tryz.ntmps10
        go_wp2_with fail
        refine (cl w (Below.refl _ _)).mono ?_
        rintro e w1 ⟨rfl, b1⟩
        go_wp2_with fail
        refine (c1 w1 b1).mono ?_
        rintro e w2 ⟨rfl, b2⟩
        go_wp2_with fail
        refine (c2 w2 b2).mono ?_
        rintro e w3 ⟨rfl, b3⟩
        go_wp2_with fail
        refine (c3 w3 b3).mono ?_
        rintro e w4 ⟨rfl, b4⟩
        go_wp2_with fail
        refine (c4 w4 b4).mono ?_
        rintro e w5 ⟨rfl, b5⟩
        go_wp2_with fail
        refine (c5 w5 b5).mono ?_
        rintro e w6 ⟨rfl, b6⟩
        go_wp2_with fail
        go_quiet (fail)
        have b7 : Below w.heap.size w (w6.drewN nq) := below_drewN b6 nq
        obtain ⟨w7, hw7⟩ : ∃ w7, w6.drewN nq = w7 := ⟨_, rfl⟩
        rw [hw7] at b7 ⊢
        clear hw7 b6
        go_wp2_with fail
        refine (c6 w7 b7).mono ?_
        rintro e w8 ⟨rfl, b8⟩
        go_wp2_with fail
        refine (c7 w8 b8).mono ?_
        rintro e w9 ⟨rfl, b9⟩
        go_wp2_with fail
        refine (c8 w9 b9).mono ?_
        rintro e w10 ⟨rfl, b10⟩
        go_wp2_with fail
        refine (cw w10 b10).mono ?_
        rintro e w11 ⟨rfl, b11⟩
        go_wp2_with fail
        go_ret
        exact ⟨rfl, b11⟩
      · have h45d : decide (a[0].toNat = 45) = false := decide_eq_false h45
        have h45r : decide (r[0].toNat = 45) = false := hs.trans h45d
        have h45q : ¬ r[0].toNat = 45 := of_decide_eq_false h45r
        have h45i : ((a[0].toNat : Int) == 45) = false := beq_eq_false_iff_ne.2 (by omega)
        have h45j : ((r[0].toNat : Int) == 45) = false := beq_eq_false_iff_ne.2 (by omega)
        clear hs
        go_enter Tryz.func10, Tryz.ntmps10
        go_wp2_with fail
        refine (cl w (Below.refl _ _)).mono ?_
        rintro e w1 ⟨rfl, b1⟩
        go_wp2_with fail
        refine (c1 w1 b1).mono ?_
        rintro e w2 ⟨rfl, b2⟩
        go_wp2_with fail
        refine (c2 w2 b2).mono ?_
        rintro e w3 ⟨rfl, b3⟩
        go_wp2_with fail
        refine (c3 w3 b3).mono ?_
        rintro e w4 ⟨rfl, b4⟩
        go_wp2_with fail
        refine (c4 w4 b4).mono ?_
        rintro e w5 ⟨rfl, b5⟩
        go_wp2_with fail
        refine (c5 w5 b5).mono ?_
        rintro e w6 ⟨rfl, b6⟩
        go_wp2_with fail
        go_quiet (fail)
        have b7 : Below w.heap.size w (w6.drewN nq) := below_drewN b6 nq
        obtain ⟨w7, hw7⟩ : ∃ w7, w6.drewN nq = w7 := ⟨_, rfl⟩
        rw [hw7] at b7 ⊢
        clear hw7 b6
        go_wp2_with fail
        refine (c6 w7 b7).mono ?_
        rintro e w8 ⟨rfl, b8⟩
        go_wp2_with fail
        refine (c7 w8 b8).mono ?_
        rintro e w9 ⟨rfl, b9⟩
        go_wp2_with fail
        refine (c8 w9 b9).mono ?_
        rintro e w10 ⟨rfl, b10⟩
        go_wp2_with fail
        refine (cw w10 b10).mono ?_
        rintro e w11 ⟨rfl, b11⟩
        go_wp2_with fail
        go_ret
        exact ⟨rfl, b11⟩
end Go.Proofs.YtofpojlnfncpcaaGreatDoor

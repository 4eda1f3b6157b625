/- Durations: the contract of the specification's TextSeconds. -/
import Derived.Test.YtdfgifnccghlmabGreatDoorMDuH
namespace Go.Proofs.YtdfgifnccghlmabGreatDoor
open Go.RowKit Go.Lib

theorem app_emp (X : ByteArray) (c : UInt8) : (X ++ ⟨#[c]⟩ : ByteArray).toList.isEmpty = false := by
  rw [ByteArray.toList_eq, ByteArray.data_append, Array.toList_append]
  simp
theorem idiv6 {w : World} (a u r : ByteArray) (z : Int) (h : idivR a.data.toList u.data.toList = (r.data.toList, z)) : On w 39 #[.string a, .string u] (.tuple #[.string r, .int .i64 z]) :=
  R.onR fun W => by rw [← resV_on h]; exact R.idiv_of a u W
theorem mod6 {w : World} (a u r : ByteArray) (z : Int) (h : modR a.data.toList u.data.toList = (r.data.toList, z)) : On w 40 #[.string a, .string u] (.tuple #[.string r, .int .i64 z]) :=
  R.onR fun W => by rw [← resV_on h]; exact R.mod_of a u W
theorem ext0_size (n : ByteArray) : (n.extract 1 n.size).size ≤ n.size := by rw [ByteArray.size_extract]; omega
theorem can_shape {n : List UInt8} {b : Bool} {k : Nat} (hc : canonL n = some (b, k)) (_h0 : k ≠ 0) : Lib.hasPrefix n [45] = b ∧ Lib.trimPrefix n [45] = bodyL k := by
  have hn := canon_parts hc
  obtain ⟨d, u, hd, hdg⟩ := body_head k
  cases b with
  | true =>
    rw [if_pos rfl, List.singleton_append] at hn
    rw [hn]
    exact pre_some (bodyL k)
  | false =>
    rw [if_neg (by simp), List.nil_append] at hn
    rw [hn]
    exact pre_none (s := bodyL k) (by rw [hd]; simp; exact dg_not45 hdg)
theorem resR_size {r : List UInt8 × Int} (h : CanonR r) {S : ByteArray} {z : Int} (e : r = (S.data.toList, z)) : S.size ≤ 52 := by
  have := canonR_len h
  rw [e] at this
  rw [ba_size]; exact this
/-- The canonical text of seconds, out of its numbers. -/
theorem textS_pcs {n : List UInt8} {b : Bool} {k : Nat} (hc : canonL n = some (b, k)) (h0 : k ≠ 0) {D H M S A n1 n2 : ByteArray} (hA : bodyL k = A.data.toList) (e1 : (idivR A.data.toList dayL).1 = D.data.toList) (e2 : (modR A.data.toList dayL).1 = n1.data.toList) (e3 : (idivR n1.data.toList hourL).1 = H.data.toList) (e4 : (modR n1.data.toList hourL).1 = n2.data.toList)
    (e5 : (idivR n2.data.toList minL).1 = M.data.toList) (e6 : (modR n2.data.toList minL).1 = S.data.toList) {bD bH bM bS : Bool} (kD : (D.toList == [48]) = bD) (kH : (H.toList == [48]) = bH) (kM : (M.toList == [48]) = bM) (kS : (S.toList == [48]) = bS) :
    textS n = ((if b = true then [45] else []) ++ ([80] ++ pc bD D.data.toList 68 ++ (if (bH && bM && bS) = true then [] else 84 :: (pc bH H.data.toList 72 ++ pc bM M.data.toList 77 ++ pc bS S.data.toList 83))), 0) := by
  rw [ByteArray.toList_eq] at kD kH kM kS
  rw [textS_canon hc h0, hA]
  have hcl : clockL A.data.toList = pc bH H.data.toList 72 ++ pc bM M.data.toList 77 ++ pc bS S.data.toList 83 := by
    unfold clockL
    rw [e2, e3, e4, e5, e6, partT_pc kH, partT_pc kM, partT_pc kS]
  unfold bodyS
  rw [hcl, e1, partT_pc kD]
  have hnil : (pc bH H.data.toList 72 ++ pc bM M.data.toList 77 ++ pc bS S.data.toList 83 = []) ↔ (bH && bM && bS) = true := by
    unfold pc
    cases bH <;> cases bM <;> cases bS <;> simp
  by_cases h : (bH && bM && bS) = true
  · rw [if_pos h, if_pos (hnil.2 h)]
  · rw [if_neg h, if_neg (fun q => h (hnil.1 q))]
set_option maxRecDepth 100000 in
set_option maxHeartbeats 8000000 in
theorem textSeconds6 (n : ByteArray) (w : World) :
    Calls Tryz.prog 19 #[.string n] w fun e w' => e = .returned (resV (textS n.data.toList)) ∧ Below w.heap.size w w' := by
  cases hc : canonL n.data.toList with
  | none =>
    have HV := Lib.hid (show textS n.data.toList = ([], 1) by unfold textS; rw [negR_none _ hc, if_pos (by decide)])
    rw [HV.out]
    have mc := (canonical6_on w n false (by rw [hc]; rfl)).use
    clear hc
    go_enter Tryz.func19, Tryz.ntmps19
    go_wp2_with fail
    refine (mc w (Below.refl _ _)).mono ?_
    rintro e w1 ⟨rfl, b1⟩
    go_wp2_with fail
    go_ret2
    exact ⟨rfl, b1⟩
  | some q =>
    obtain ⟨b, k⟩ := q
    have mc := (canonical6_on w n true (by rw [hc]; rfl)).use
    obtain ⟨ht, hk, _⟩ := text_canon _ _ _ hc
    have hns : n.size ≤ 52 := by rw [ba_size]; exact textL_len ht
    have tl : n.toList = n.data.toList := ByteArray.toList_eq n
    by_cases h0 : k = 0
    · have hn := (canon_zero hc).2 h0
      have HV := Lib.hid (show textS n.data.toList = ([80, 84, 48, 83], 0) by rw [hn]; decide +kernel)
      rw [HV.out]
      have k1 : (n.toList == [48]) = true := by rw [tl, hn]; rfl
      clear hc ht hk hns tl hn h0
      go_enter Tryz.func19, Tryz.ntmps19
      go_wp2_with fail
      refine (mc w (Below.refl _ _)).mono ?_
      rintro e w1 ⟨rfl, b1⟩
      go_wp2_with fail
      go_ret2
      exact ⟨rfl, b1⟩
    · have k1 : (n.toList == [48]) = false := by rw [tl]; exact beq_eq_false_iff_ne.2 (fun q => h0 ((canon_zero hc).1 q))
      obtain ⟨hpre, htr⟩ := can_shape hc h0
      have hsz : 0 < n.size := by
        obtain ⟨d, t, e, _⟩ := head_neg hc
        rw [ba_size, e]; simp
      obtain ⟨A, hA⟩ : ∃ A : ByteArray, bodyL k = A.data.toList := ⟨⟨(bodyL k).toArray⟩, rfl⟩
      obtain ⟨D, zD, hD⟩ := res_ex (idivR A.data.toList dayL)
      obtain ⟨n1, z1, hn1⟩ := res_ex (modR A.data.toList dayL)
      obtain ⟨H, zH, hH⟩ := res_ex (idivR n1.data.toList hourL)
      obtain ⟨n2, z2, hn2⟩ := res_ex (modR n1.data.toList hourL)
      obtain ⟨M, zM, hM⟩ := res_ex (idivR n2.data.toList minL)
      obtain ⟨S, zS, hS⟩ := res_ex (modR n2.data.toList minL)
      have d1 := (idiv6 (w := w) A ⟨#[56, 54, 52, 48, 48]⟩ D zD hD).use
      have d2 := (mod6 (w := w) A ⟨#[56, 54, 52, 48, 48]⟩ n1 z1 hn1).use
      have d3 := (idiv6 (w := w) n1 ⟨#[51, 54, 48, 48]⟩ H zH hH).use
      have d4 := (mod6 (w := w) n1 ⟨#[51, 54, 48, 48]⟩ n2 z2 hn2).use
      have d5 := (idiv6 (w := w) n2 ⟨#[54, 48]⟩ M zM hM).use
      have d6 := (mod6 (w := w) n2 ⟨#[54, 48]⟩ S zS hS).use
      obtain ⟨bD, kD⟩ : ∃ b, (D.toList == [48]) = b := ⟨_, rfl⟩
      obtain ⟨bH, kH⟩ : ∃ b, (H.toList == [48]) = b := ⟨_, rfl⟩
      obtain ⟨bM, kM⟩ : ∃ b, (M.toList == [48]) = b := ⟨_, rfl⟩
      obtain ⟨bS, kS⟩ : ∃ b, (S.toList == [48]) = b := ⟨_, rfl⟩
      have HV := Lib.hid (textS_pcs hc h0 hA (congrArg Prod.fst hD) (congrArg Prod.fst hn1) (congrArg Prod.fst hH) (congrArg Prod.fst hn2) (congrArg Prod.fst hM) (congrArg Prod.fst hS) kD kH kM kS)
      have sD := resR_size (idivR_canonR _ _) hD
      have sH := resR_size (idivR_canonR _ _) hH
      have sM := resR_size (idivR_canonR _ _) hM
      have sS := resR_size (modR_canonR _ _) hS
      rw [hA] at htr
      clear hD hn1 hH hn2 hM hS ht hk hA hc h0 tl
      cases b with
      | true =>
        rcases head_cases n 45 with ⟨q0, q1, q2, q3⟩ | ⟨q1, q2, q3⟩
        · rw [htr] at q3
          obtain rfl := ba_same q3
          have qz : ((n[0].toNat : Int) == 45) = true := by rw [q1]; rfl
          have hx := ext0_size n
          clear q1 q2 q3 htr hpre
          go_enter Tryz.func19, Tryz.ntmps19
          go_wp2_with fail
          refine (mc w (Below.refl _ _)).mono ?_
          rintro e w1 ⟨rfl, b1⟩
          go_wp2_with fail
          refine (d1 w1 b1).mono ?_
          rintro e w2 ⟨rfl, b2⟩
          go_wp2_with fail
          refine (d2 w2 b2).mono ?_
          rintro e w3 ⟨rfl, b3⟩
          go_wp2_with fail
          refine (d3 w3 b3).mono ?_
          rintro e w4 ⟨rfl, b4⟩
          go_wp2_with fail
          refine (d4 w4 b4).mono ?_
          rintro e w5 ⟨rfl, b5⟩
          go_wp2_with fail
          refine (d5 w5 b5).mono ?_
          rintro e w6 ⟨rfl, b6⟩
          go_wp2_with fail
          refine (d6 w6 b6).mono ?_
          rintro e w7 ⟨rfl, b7⟩
          clear mc d1 d2 d3 d4 d5 d6 b1 b2 b3 b4 b5 b6 k1
          have B7 := Lib.hid b7
          clear b7
          have kD2 := congrArg not kD
          have kH2 := congrArg not kH
          have kM2 := congrArg not kM
          have kS2 := congrArg not kS
          cases bD <;> cases bH <;> cases bM <;> cases bS
          all_goals
            simp only [Bool.not_true, Bool.not_false] at kD2 kH2 kM2 kS2
            go_wp2_with fail
          all_goals
            first
            | (rename_i hz; rw [app_emp] at hz; exact absurd hz (by decide))
            | (go_ret2; exact ⟨congrArg Ending.returned (resV_on (HV.out.trans (Prod.ext (by simp [pc, ByteArray.data_append, Array.toList_append]) rfl))).symm, B7.out⟩)
        · rw [hpre] at q2; cases q2
      | false =>
        rcases head_cases n 45 with ⟨q0, q1, q2, q3⟩ | ⟨q1, q2, q3⟩
        · rw [hpre] at q2; cases q2
        · rw [htr] at q3
          obtain rfl := ba_same q3
          rcases q1 with q1 | ⟨_, q1⟩
          · omega
          have qz : ((n[0].toNat : Int) == 45) = false := beq_eq_false_iff_ne.2 (by have : (45 : UInt8).toNat = 45 := rfl; omega)
          clear q1 q2 q3 htr hpre
          go_enter Tryz.func19, Tryz.ntmps19
          go_wp2_with fail
          refine (mc w (Below.refl _ _)).mono ?_
          rintro e w1 ⟨rfl, b1⟩
          go_wp2_with fail
          refine (d1 w1 b1).mono ?_
          rintro e w2 ⟨rfl, b2⟩
          go_wp2_with fail
          refine (d2 w2 b2).mono ?_
          rintro e w3 ⟨rfl, b3⟩
          go_wp2_with fail
          refine (d3 w3 b3).mono ?_
          rintro e w4 ⟨rfl, b4⟩
          go_wp2_with fail
          refine (d4 w4 b4).mono ?_
          rintro e w5 ⟨rfl, b5⟩
          go_wp2_with fail
          refine (d5 w5 b5).mono ?_
          rintro e w6 ⟨rfl, b6⟩
          go_wp2_with fail
          refine (d6 w6 b6).mono ?_
          rintro e w7 ⟨rfl, b7⟩
          clear mc d1 d2 d3 d4 d5 d6 b1 b2 b3 b4 b5 b6 k1
          have B7 := Lib.hid b7
          clear b7
          have kD2 := congrArg not kD
          have kH2 := congrArg not kH
          have kM2 := congrArg not kM
          have kS2 := congrArg not kS
          cases bD <;> cases bH <;> cases bM <;> cases bS
          all_goals
            simp only [Bool.not_true, Bool.not_false] at kD2 kH2 kM2 kS2
            go_wp2_with fail
          all_goals
            first
            | (rename_i hz; rw [app_emp] at hz; exact absurd hz (by decide))
            | (go_ret2; exact ⟨congrArg Ending.returned (resV_on (HV.out.trans (Prod.ext (by simp [pc, ByteArray.data_append, Array.toList_append]) rfl))).symm, B7.out⟩)
end Go.Proofs.YtdfgifnccghlmabGreatDoor

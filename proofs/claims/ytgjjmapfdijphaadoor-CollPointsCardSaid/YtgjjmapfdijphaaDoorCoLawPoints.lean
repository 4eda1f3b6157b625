/- The contract of chisellaw03.CollPoints. -/
import Derived.Test.YtgjjmapfdijphaaDoorCoAny
namespace Go.Proofs.YtgjjmapfdijphaaDoor
open Go.RowKit Go.Lib Go.Shelf

theorem less_is : ∀ a b : List UInt8, Op.bytesLess a b = decide (cmpL a b = -1)
  | [], [] => rfl
  | [], _ :: _ => rfl
  | _ :: _, [] => rfl
  | a :: s, b :: t => by
    have ih := less_is s t
    rw [cmpL_cons]
    unfold Op.bytesLess
    rw [ih]
    by_cases h1 : a < b
    · simp [h1]
    · by_cases h2 : b < a
      · have : a ≠ b := fun e => by subst e; exact h1 h2
        simp [h1, h2, this]
      · have e : a = b := UInt8.le_antisymm (UInt8.not_lt.1 h2) (UInt8.not_lt.1 h1)
        subst e
        simp [h1]
theorem isNaN_str (s : ByteArray) (w : World) : Calls Tryd.prog 39 #[.string s] w fun e w' => e = .returned (.bool false) ∧ w = w' := by
  go_enter Tryd.func39, Tryd.ntmps39
  go_wp2_with fail
  go_ret
  exact ⟨rfl, rfl⟩
theorem compare_str (a b : ByteArray) (w : World) : Calls Tryd.prog 21 #[.string a, .string b] w fun e w' => e = .returned (.int .i64 (cmpL a.data.toList b.data.toList)) ∧ w = w' := by
  have c1 := fun W => isNaN_str a W
  have c2 := fun W => isNaN_str b W
  have hl := less_is a.toList b.toList
  rw [ba_list a, ba_list b] at hl
  have h3 := cmpL_three a.data.toList b.data.toList
  have he := cmpL_eq a.data.toList b.data.toList
  have hs := cmpL_self b.data.toList
  have hb : (a.toList == b.toList) = decide (cmpL a.data.toList b.data.toList = 0) := by
    rw [ba_list a, ba_list b, Bool.eq_iff_iff, beq_iff_eq, decide_eq_true_iff]
    exact ⟨fun e => by rw [e]; exact hs, he⟩
  rw [← ba_list a, ← ba_list b] at hl
  rw [ba_list a, ba_list b] at hl
  have hl2 : Op.bytesLess a.toList b.toList = decide (cmpL a.data.toList b.data.toList = -1) := by rw [ba_list a, ba_list b]; exact hl
  clear hl he hs
  generalize cmpL a.data.toList b.data.toList = X at *
  rcases h3 with rfl | rfl | rfl
  · rw [decide_eq_true rfl] at hl2
    clear hb
    go_enter Tryd.func21, Tryd.ntmps21
    go_wp2_with fail
    refine (c1 _).mono ?_
    rintro e w1 ⟨rfl, rfl⟩
    go_wp2_with fail
    refine (c2 _).mono ?_
    rintro e w1 ⟨rfl, rfl⟩
    go_wp2_with fail
    go_ret
    exact ⟨rfl, rfl⟩
  · rw [decide_eq_false (by decide)] at hl2
    rw [decide_eq_true rfl] at hb
    go_enter Tryd.func21, Tryd.ntmps21
    go_wp2_with fail
    refine (c1 _).mono ?_
    rintro e w1 ⟨rfl, rfl⟩
    go_wp2_with fail
    refine (c2 _).mono ?_
    rintro e w1 ⟨rfl, rfl⟩
    go_wp2_with fail
    go_ret
    exact ⟨rfl, rfl⟩
  · rw [decide_eq_false (by decide)] at hl2
    rw [decide_eq_false (by decide)] at hb
    go_enter Tryd.func21, Tryd.ntmps21
    go_wp2_with fail
    refine (c1 _).mono ?_
    rintro e w1 ⟨rfl, rfl⟩
    go_wp2_with fail
    refine (c2 _).mono ?_
    rintro e w1 ⟨rfl, rfl⟩
    go_wp2_with fail
    go_ret
    exact ⟨rfl, rfl⟩
set_option maxHeartbeats 4000000 in
set_option maxRecDepth 100000 in
theorem points_law (a b : ByteArray) (w : World) (hg : GrC w) (ha : a.size ≤ 9223372036854775807) (hb : b.size ≤ 9223372036854775807) :
    Calls Tryd.prog 5 #[.string a, .string b] w fun e w' => e = .returned (.bool true) ∧ Below w.heap.size w w' := by
  obtain ⟨W1, hW1⟩ : ∃ W1, w.alloc (.cells #[.string a, .string b] 9) = W1 := ⟨_, rfl⟩
  have hb1 : Below w.heap.size w W1 := by rw [← hW1]; exact (Below.refl _ _).alloc (Nat.le_refl _) _
  have cL := light_any ⟨#[]⟩ w.heap.size 2 [a, b] rfl (by omega) W1 (by rw [← hW1]; exact two_cells w a b _)
  have G : ∀ W, Below w.heap.size w W → GrC W := fun W hW => hg.later hW
  have cW : ∀ W, Below w.heap.size w W → Calls Tryd.prog 10 #[] W fun e w' => e = .returned (.bool true) ∧ Below w.heap.size w w' := fun W hW =>
    (works_any W (G W hW)).mono fun e w' ⟨h1, h2⟩ => ⟨h1, hW.trans (h2.mono hW.size)⟩
  cases hl : lightL ⟨#[]⟩ [a, b] with
  | false =>
    rw [hl] at cL
    go_enter Tryd.func5, Tryd.ntmps5
    go_wp2_with fail
    refine cL.mono ?_
    rintro e w2 ⟨rfl, rfl⟩
    go_wp2_with fail
    refine (cW w2 hb1).mono ?_
    rintro e w3 ⟨rfl, hb3⟩
    go_wp2_with fail
    go_ret
    exact ⟨rfl, hb3⟩
  | true =>
    rw [hl] at cL
    have hsz : a.size ≤ 200 ∧ b.size ≤ 200 := by
      unfold lightL at hl
      simp at hl
      omega
    have cTa : ∀ W, Below w.heap.size w W → Calls Tryd.prog 16 #[.string a] W fun e w' => e = .returned (.bool (text a.data.toList)) ∧ Below w.heap.size w w' := fun W hW =>
      (isText_any a W ha (G W hW).gr).mono fun e w' ⟨h1, h2⟩ => ⟨h1, hW.trans (h2.mono hW.size)⟩
    have cTb : ∀ W, Below w.heap.size w W → Calls Tryd.prog 16 #[.string b] W fun e w' => e = .returned (.bool (text b.data.toList)) ∧ Below w.heap.size w w' := fun W hW =>
      (isText_any b W hb (G W hW).gr).mono fun e w' ⟨h1, h2⟩ => ⟨h1, hW.trans (h2.mono hW.size)⟩
    have cA : ∀ W, Below w.heap.size w W → Calls Tryd.prog 20 #[.string (a ++ b), .string ⟨#[97, 45]⟩] W fun e w' => e = .returned (.bool (hasB (a ++ b).data.toList)) ∧ Below w.heap.size w w' := fun W hW =>
      (containsAny_any (a ++ b) W (by rw [ByteArray.size_append]; omega)).mono fun e w' ⟨h1, h2⟩ => ⟨h1, hW.trans (h2.mono hW.size)⟩
    clear hl
    cases ht : text a.data.toList with
    | false =>
      rw [ht] at cTa
      go_enter Tryd.func5, Tryd.ntmps5
      go_wp2_with fail
      refine cL.mono ?_
      rintro e w2 ⟨rfl, rfl⟩
      go_wp2_with fail
      refine (cTa w2 hb1).mono ?_
      rintro e w3 ⟨rfl, hb3⟩
      go_wp2_with fail
      refine (cW w3 hb3).mono ?_
      rintro e w9 ⟨rfl, hb9⟩
      go_wp2_with fail
      go_ret
      exact ⟨rfl, hb9⟩
    | true =>
      rw [ht] at cTa
      cases hu : text b.data.toList with
      | false =>
        rw [hu] at cTb
        go_enter Tryd.func5, Tryd.ntmps5
        go_wp2_with fail
        refine cL.mono ?_
        rintro e w2 ⟨rfl, rfl⟩
        go_wp2_with fail
        refine (cTa w2 hb1).mono ?_
        rintro e w3 ⟨rfl, hb3⟩
        go_wp2_with fail
        refine (cTb w3 hb3).mono ?_
        rintro e w4 ⟨rfl, hb4⟩
        go_wp2_with fail
        refine (cW w4 hb4).mono ?_
        rintro e w9 ⟨rfl, hb9⟩
        go_wp2_with fail
        go_ret
        exact ⟨rfl, hb9⟩
      | true =>
        rw [hu] at cTb
        cases hh : hasB (a ++ b).data.toList with
        | true =>
          rw [hh] at cA
          go_enter Tryd.func5, Tryd.ntmps5
          go_wp2_with fail
          refine cL.mono ?_
          rintro e w2 ⟨rfl, rfl⟩
          go_wp2_with fail
          refine (cTa w2 hb1).mono ?_
          rintro e w3 ⟨rfl, hb3⟩
          go_wp2_with fail
          refine (cTb w3 hb3).mono ?_
          rintro e w4 ⟨rfl, hb4⟩
          go_wp2_with fail
          refine (cA w4 hb4).mono ?_
          rintro e w5 ⟨rfl, hb5⟩
          go_wp2_with fail
          refine (cW w5 hb5).mono ?_
          rintro e w9 ⟨rfl, hb9⟩
          go_wp2_with fail
          go_ret
          exact ⟨rfl, hb9⟩
        | false =>
          rw [hh] at cA
          obtain ⟨n97, n45⟩ := hasB_no _ hh
          rw [ByteArray.data_append, Array.toList_append] at n97 n45
          have ua := pts_unlisted a.data.toList ht (fun h => n97 (List.mem_append_left _ h)) (fun h => n45 (List.mem_append_left _ h))
          have ub := pts_unlisted b.data.toList hu (fun h => n97 (List.mem_append_right _ h)) (fun h => n45 (List.mem_append_right _ h))
          have e1 := points_cmp ptsT pts_fits _ _ ht hu ua ub
          have e2 := points_cmp ⟨[], 0, 0⟩ (nil_fits 0) _ _ ht hu (nil_unlisted 0 _) (nil_unlisted 0 _)
          have e3 := fun hne : a.data.toList ≠ [] => listed_first a.data.toList [97] [] ht (by decide) (by decide) hne ua
          have e4 := fun hne : a.data.toList ≠ [] => listed_first a.data.toList [97, 97, 97] [97, 97] ht (by decide) (by decide) hne ua
          have hns : TabSmall (⟨[], 0, 0⟩ : Tb) := ⟨by decide, by decide, fun c x h => by cases h⟩
          have cP := fun W hg => parse_ok ⟨#[97, 10, 105, 103, 110, 111, 114, 101, 32, 45]⟩ ptsT W hg pts_parse
          have KC : ∀ W (v : Value) (T : Tb) (x y : ByteArray) (n : Int), cmpL (keyL T x.data.toList) (keyL T y.data.toList) = n → x.size ≤ 1000000 → y.size ≤ 1000000 → Below w.heap.size w W → TabAt W v T → TabSmall T → Calls Tryd.prog 12 #[v, .string x, .string y] W fun e w' => e = .returned (.int .i64 n) ∧ Below W.heap.size W w' := fun W v T x y n hn hx hy hW hT hS => by
            have := compare_any v x y T W (G W hW).gr hx hy hT hS
            rwa [hn] at this
          have cC := fun W => compare_str a b W
          have k1 := fun W v hW hT hS => KC W v ptsT a b _ e1 (by omega) (by omega) hW hT hS
          have k2 := fun W v hW hT => KC W v ⟨[], 0, 0⟩ a b _ e2 (by omega) (by omega) hW hT hns
          have k3 := fun hne W v hW hT hS => KC W v ptsT ⟨#[97]⟩ a _ (e3 hne) (by decide) (by omega) hW hT hS
          have k4 := fun hne W v hW hT hS => KC W v ptsT ⟨#[97, 97, 97]⟩ a _ (e4 hne) (by decide) (by omega) hW hT hS
          clear e1 e2 e3 e4 ua ub n97 n45 hh KC
          generalize cmpL a.data.toList b.data.toList = X at *
          go_enter Tryd.func5, Tryd.ntmps5
          go_wp2_with fail
          refine cL.mono ?_
          rintro e w2 ⟨rfl, rfl⟩
          go_wp2_with fail
          refine (cTa w2 hb1).mono ?_
          rintro e w3 ⟨rfl, hb3⟩
          go_wp2_with fail
          refine (cTb w3 hb3).mono ?_
          rintro e w4 ⟨rfl, hb4⟩
          go_wp2_with fail
          refine (cA w4 hb4).mono ?_
          rintro e w5 ⟨rfl, hb5⟩
          go_wp2_with fail
          refine (cP w5 (G w5 hb5)).mono ?_
          rintro e w6 ⟨p, rfl, hT, hS, hb6⟩
          have hbw6 := hb5.trans (hb6.mono hb5.size)
          clear cP cL cTa cTb cA
          go_wp2_with fail
          refine (cC w6).mono ?_
          rintro e w6' ⟨rfl, rfl⟩
          go_wp2_with fail
          refine (k1 w6 _ hbw6 hT hS).mono ?_
          rintro e w7 ⟨rfl, hb7⟩
          have hT7 := hT.later hb7
          have hbw7 := hbw6.trans (hb7.mono hbw6.size)
          go_wp2_with fail
          refine (k2 w7 (.pointer none) hbw7 (.inl ⟨rfl, rfl⟩)).mono ?_
          rintro e w8 ⟨rfl, hb8⟩
          have hT8 := hT7.later hb8
          have hbw8 := hbw7.trans (hb8.mono hbw7.size)
          obtain ⟨W9, hW9⟩ : ∃ W9, w8.alloc (.cells #[.map none, .int .i64 0, .int .i64 0] 44) = W9 := ⟨_, rfl⟩
          have hb9 : Below w8.heap.size w8 W9 := by rw [← hW9]; exact (Below.refl _ _).alloc (Nat.le_refl _) _
          have hN : TabAt W9 (.pointer (some ⟨w8.heap.size, 0, none⟩)) ⟨[], 0, 0⟩ := by rw [← hW9]; exact .inr ⟨_, _, rfl, heap_alloc_new _ _, .inl ⟨rfl, rfl⟩⟩
          have hT9 := hT8.later hb9
          have hbw9 := hbw8.trans (hb9.mono hbw8.size)
          go_wp2_with fail
          refine (k2 W9 _ hbw9 hN).mono ?_
          rintro e w10 ⟨rfl, hb10⟩
          have hT10 := hT9.later hb10
          have hbw10 := hbw9.trans (hb10.mono hbw9.size)
          clear hW9 hN hT hT7 hT8 hT9 k1 k2 cC
          by_cases h0 : a.data.toList = []
          · have b1 : (a.toList == []) = true := by rw [ba_beq a [], decide_eq_true_iff]; exact h0
            clear k3 k4
            go_wp2_with fail
            refine (cW w10 hbw10).mono ?_
            rintro e w11 ⟨rfl, hb11⟩
            go_wp2_with fail
            go_ret
            exact ⟨rfl, hb11⟩
          · have b1 : (a.toList == []) = false := by rw [ba_beq a [], decide_eq_false_iff_not]; exact h0
            have k5 := k3 h0 w10 _ hbw10 hT10 hS
            have k6 := k4 h0
            clear k3 k4
            go_wp2_with fail
            refine k5.mono ?_
            rintro e w11 ⟨rfl, hb11⟩
            have hT11 := hT10.later hb11
            have hbw11 := hbw10.trans (hb11.mono hbw10.size)
            go_wp2_with fail
            refine (k6 w11 _ hbw11 hT11 hS).mono ?_
            rintro e w12 ⟨rfl, hb12⟩
            have hbw12 := hbw11.trans (hb12.mono hbw11.size)
            go_wp2_with fail
            refine (cW w12 hbw12).mono ?_
            rintro e w13 ⟨rfl, hb13⟩
            go_wp2_with fail
            go_ret
            exact ⟨rfl, hb13⟩
end Go.Proofs.YtgjjmapfdijphaaDoor

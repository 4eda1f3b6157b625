/- The specification of num: the contract of result. -/
import Derived.Test.YtdfgifnccghlmabGreatDoorMRfC
import Derived.Test.YtdfgifnccghlmabGreatDoorMNuUse
namespace Go.Proofs.YtdfgifnccghlmabGreatDoor.R
open Go.RowKit Go.Lib
open Go.Proofs.YtdfgifnccghlmabGreatDoor (trimW trimW_le resR resV resR_lt resR_ge textL dec_len body_zero bodyL)

theorem res_text (b : Bool) (n : Nat) (h : n < 10 ^ 50) : resR b n = ((if (b && decide (n ≠ 0)) = true then [45] else []) ++ bodyL n, 0) := by
  obtain ⟨t, h1, h2⟩ := resR_lt b n h
  rw [h1]
  unfold textL at h2
  split at h2
  · cases h2
  · cases h2
    have hz := body_zero n
    by_cases hn : n = 0
    · subst hn
      have e : bodyL 0 = [48] := hz.2 rfl
      simp [e]
    · have e : ¬ bodyL n = [48] := fun h => hn (hz.1 h)
      simp [e, hn]
theorem len_50 (n : Nat) : (wordsOf n).length ≤ 50 ↔ n < 10 ^ 50 :=
  ⟨fun h => Nat.lt_of_lt_of_le (words_lt n) (Nat.pow_le_pow_right (by omega) h), words_len n 50⟩
set_option maxHeartbeats 4000000 in
set_option maxRecDepth 100000 in
theorem result_any (neg : Bool) (v : Value) (l : List Nat) (hs : Small l) (hl9 : l.length < 1000000000) (w : World) (hv : Digs w v l) :
    Calls Tryz.prog 67 #[.bool neg, v] w fun e w' => e = .returned (resV (resR neg (val l))) ∧ Below w.heap.size w w' := by
  have cT := trim_any v l hl9 w hv
  rw [trimW_words l hs] at cT
  obtain ⟨p1, c1, rfl⟩ := hv.shape
  obtain ⟨n, hn⟩ : ∃ n, val l = n := ⟨_, rfl⟩
  rw [hn] at cT ⊢
  have h50 := len_50 n
  by_cases hb : n < 10 ^ 50
  · have hle := h50.2 hb
    have hz := wordsOf_nil n
    obtain ⟨nn, hnn⟩ : ∃ nn, (neg && decide (n ≠ 0)) = nn := ⟨_, rfl⟩
    have HR := Lib.hid (show resV (resR neg n) = .tuple #[.string ⟨((if nn = true then [45] else []) ++ bodyL n).toArray⟩, .int .i64 0] by rw [res_text neg n hb, hnn]; rfl)
    have cX := fun v2 (h2 : Digs w v2 (wordsOf n)) => text_any nn n v2 (by omega) w h2
    rw [HR.out]
    have hlz : ¬ (50 : Int) < ((wordsOf n).length : Int) := by omega
    have hnl : n = 0 ↔ (wordsOf n).length = 0 := by rw [← hz]; exact ⟨fun h => by rw [h]; rfl, List.eq_nil_of_length_eq_zero⟩
    have HN := Lib.hid hnl
    clear h50 hb hz hnl hn hv hs hle
    obtain ⟨k, hk⟩ : ∃ k, (wordsOf n).length = k := ⟨_, rfl⟩
    rw [hk] at HN hlz
    have hcase : (neg = false ∧ nn = false) ∨ (neg = true ∧ 0 < k ∧ nn = true) ∨ (neg = true ∧ k = 0 ∧ nn = false) := by
      cases neg with
      | false => exact .inl ⟨rfl, hnn.symm⟩
      | true =>
        by_cases h0 : n = 0
        · exact .inr (.inr ⟨rfl, HN.out.1 h0, by rw [← hnn, h0]; rfl⟩)
        · exact .inr (.inl ⟨rfl, Nat.pos_of_ne_zero (fun h => h0 (HN.out.2 h)), by rw [← hnn]; simp [h0]⟩)
    have HK := Lib.hid hk
    clear hnn HN HR hk
    generalize ((if nn = true then [45] else []) ++ bodyL n) = TX at *
    rcases hcase with ⟨rfl, rfl⟩ | ⟨rfl, hk0, rfl⟩ | ⟨rfl, rfl, rfl⟩
    · go_enter Tryz.func67, Tryz.ntmps67
      go_wp2_with fail
      refine cT.mono ?_
      rintro e w1 ⟨u, rfl, hu, rfl⟩
      have cX2 := cX _ hu
      obtain ⟨p2, c2, rfl⟩ := hu.shape
      rw [HK.out] at cX2 ⊢
      clear hu cX cT
      go_wp2_with fail
      refine cX2.mono ?_
      rintro e w2 ⟨rfl, hb2⟩
      go_wp2_with fail
      go_ret2
      exact ⟨rfl, hb2⟩
    · have hk0i : (0 : Int) < (k : Int) := by omega
      go_enter Tryz.func67, Tryz.ntmps67
      go_wp2_with fail
      refine cT.mono ?_
      rintro e w1 ⟨u, rfl, hu, rfl⟩
      have cX2 := cX _ hu
      obtain ⟨p2, c2, rfl⟩ := hu.shape
      rw [HK.out] at cX2 ⊢
      clear hu cX cT
      go_wp2_with fail
      refine cX2.mono ?_
      rintro e w2 ⟨rfl, hb2⟩
      go_wp2_with fail
      go_ret2
      exact ⟨rfl, hb2⟩
    · go_enter Tryz.func67, Tryz.ntmps67
      go_wp2_with fail
      refine cT.mono ?_
      rintro e w1 ⟨u, rfl, hu, rfl⟩
      have cX2 := cX _ hu
      obtain ⟨p2, c2, rfl⟩ := hu.shape
      rw [HK.out] at cX2 ⊢
      clear hu cX cT
      go_wp2_with fail
      refine cX2.mono ?_
      rintro e w2 ⟨rfl, hb2⟩
      go_wp2_with fail
      go_ret2
      exact ⟨rfl, hb2⟩
  · have hgt : 50 < (wordsOf n).length := by have := h50; omega
    have HR := Lib.hid (show resV (resR neg n) = .tuple #[.string ⟨#[]⟩, .int .i64 40] by rw [resR_ge neg n (by omega)]; rfl)
    rw [HR.out]
    have hlz : (50 : Int) < ((wordsOf n).length : Int) := by omega
    clear h50 hb hn hv hs hgt HR
    go_enter Tryz.func67, Tryz.ntmps67
    go_wp2_with fail
    refine cT.mono ?_
    rintro e w1 ⟨u, rfl, hu, rfl⟩
    obtain ⟨p2, c2, rfl⟩ := hu.shape
    go_wp2_with fail
    go_ret2
    exact ⟨rfl, Below.refl _ _⟩
end Go.Proofs.YtdfgifnccghlmabGreatDoor.R

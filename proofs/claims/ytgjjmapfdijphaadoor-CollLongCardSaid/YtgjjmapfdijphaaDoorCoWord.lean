/- The contract of coll.character. -/
import Derived.Test.YtgjjmapfdijphaaDoorCoChar
namespace Go.Proofs.YtgjjmapfdijphaaDoor
open Go.RowKit Go.Lib

theorem pre_U (l : List UInt8) : Lib.hasPrefix l [85, 43] = decide (l.take 2 = [85, 43]) := by
  unfold Lib.hasPrefix
  rw [Bool.eq_iff_iff, decide_eq_true_iff, List.isPrefixOf_iff_prefix]
  constructor
  · rintro ⟨t, rfl⟩; rfl
  · intro h; exact ⟨l.drop 2, by rw [← h, List.take_append_drop]⟩
theorem trim_U (l : List UInt8) (h : l.take 2 = [85, 43]) : Lib.trimPrefix l [85, 43] = l.drop 2 := by
  unfold Lib.trimPrefix
  rw [if_pos (by rw [pre_U, decide_eq_true_iff]; exact h)]; rfl
theorem one_char (l : List UInt8) (h : lenL l = 1) : ∃ c, codes l = [c] ∧ text l = true ∧ l.length ≤ 4 := by
  unfold lenL at h
  split at h
  · rename_i ht
    obtain ⟨c, hc⟩ := List.length_eq_one_iff.1 h
    refine ⟨c, hc, ht, ?_⟩
    have := form_codes l ht
    rw [hc] at this
    rw [← this]
    show ([c].flatMap fun (c : Nat) => encodeRune (c : Int)).length ≤ 4
    simp
    exact (encode_len c).2
  · cases h
set_option maxHeartbeats 2000000 in
set_option maxRecDepth 100000 in
theorem character_any (s : ByteArray) (w : World) (hg : GrC w) (hs : s.size ≤ 4000000) :
    Calls Tryd.prog 70 #[.string s] w fun e w' => e = .returned (chV (charL s.data.toList)) ∧ Below w.heap.size w w' := by
  have cP := Tryd.strings_CutPrefix s ⟨#[85, 43]⟩ w
  rw [show Lib.hasPrefix s.data.toList (⟨#[85, 43]⟩ : ByteArray).data.toList = decide (s.data.toList.take 2 = [85, 43]) from pre_U _] at cP
  unfold charL
  by_cases hu : s.data.toList.take 2 = [85, 43]
  · rw [if_pos hu]
    rw [show Lib.trimPrefix s.data.toList (⟨#[85, 43]⟩ : ByteArray).data.toList = s.data.toList.drop 2 from trim_U _ hu, decide_eq_true hu] at cP
    have cN := numbered_any ⟨(s.data.toList.drop 2).toArray⟩ w hg (by show ((s.data.toList.drop 2).toArray).size ≤ _; simp; have := size_eq s; simp at this; omega)
    simp only at cN
    generalize numL (s.data.toList.drop 2) = V at cN ⊢
    generalize (s.data.toList.drop 2).toArray = D at cP cN
    clear hu
    unfold chV
    cases V
    all_goals
      simp only [chV] at cN
      go_enter Tryd.func70, Tryd.ntmps70
      go_wp2_with fail
      refine cP.mono ?_
      rintro e w1 ⟨rfl, rfl⟩
      go_wp2_with fail
      refine cN.mono ?_
      rintro e w2 ⟨rfl, hb⟩
      go_wp2_with fail
      go_ret2
      exact ⟨rfl, hb⟩
  · rw [if_neg hu]
    rw [decide_eq_false hu] at cP
    generalize (Lib.trimPrefix s.data.toList (⟨#[85, 43]⟩ : ByteArray).data.toList).toArray = D at cP
    have cV := levelOf_any s w
    have cL := len_any s w (by omega) hg.gr
    rw [show (if text s.data.toList = true then ((codes s.data.toList).length : Int) else 0) = ((lenL s.data.toList : Nat) : Int) by unfold lenL; split <;> rfl] at cL
    cases hv : signL s.data.toList with
    | some lv =>
      rw [hv] at cV
      rw [if_pos (.inl rfl)]
      clear hv hu cL
      unfold sgV at cV
      simp only at cV
      go_enter Tryd.func70, Tryd.ntmps70
      go_wp2_with fail
      refine cP.mono ?_
      rintro e w1 ⟨rfl, rfl⟩
      go_wp2_with fail
      refine cV.mono ?_
      rintro e w2 ⟨rfl, rfl⟩
      go_wp2_with fail
      go_ret2
      exact ⟨rfl, Below.refl _ _⟩
    | none =>
      rw [hv] at cV
      clear hu
      unfold sgV at cV
      simp only at cV
      by_cases h1 : lenL s.data.toList = 1
      · rw [if_neg (fun h => h.elim (fun h => by cases h) (fun h => h h1))]
        obtain ⟨c, hc, ht, hl⟩ := one_char _ h1
        rw [h1] at cL
        rw [hc]
        have hsz : s.size ≤ 4 := by rw [size_eq]; exact hl
        have hrz : runesZ s = [(c : Int)] := by
          have : (codes s.data.toList).map (fun (c : Nat) => (c : Int)) = runesZ s := by unfold codes runesZ; rw [List.map_map]; rfl
          rw [← this, hc]; rfl
        have hcv := fun W => conv_runes s W (by omega)
        rw [hrz] at hcv
        clear hc ht hl hv h1 hrz
        have q1 : ((1 : Int) != 1) = false := rfl
        go_enter Tryd.func70, Tryd.ntmps70
        go_wp2_with fail
        refine cP.mono ?_
        rintro e w1 ⟨rfl, rfl⟩
        go_wp2_with fail
        refine cV.mono ?_
        rintro e w2 ⟨rfl, rfl⟩
        go_wp2_with fail
        refine cL.mono ?_
        rintro e w3 ⟨rfl, hb⟩
        obtain ⟨cap, W1, hv1, hb1, hz1, htx⟩ := hcv w3
        have hx0 := htx 0 c rfl
        clear htx hcv cP cV cL
        go_wp2_with fail
        go_ret2
        exact ⟨rfl, hb.trans (hb1.mono hb.size)⟩
      · rw [if_pos (.inr h1)]
        have q1 : (((lenL s.data.toList : Nat) : Int) != 1) = true := by rw [bne_iff_ne]; omega
        generalize lenL s.data.toList = n at cL q1
        clear hv h1
        go_enter Tryd.func70, Tryd.ntmps70
        go_wp2_with fail
        refine cP.mono ?_
        rintro e w1 ⟨rfl, rfl⟩
        go_wp2_with fail
        refine cV.mono ?_
        rintro e w2 ⟨rfl, rfl⟩
        go_wp2_with fail
        refine cL.mono ?_
        rintro e w3 ⟨rfl, hb⟩
        go_wp2_with fail
        go_ret2
        exact ⟨rfl, hb⟩
end Go.Proofs.YtgjjmapfdijphaaDoor

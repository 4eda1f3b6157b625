/- The contract of chisellaw06.DurSigns. -/
import Derived.Test.YtcicjoamnlnlnabGreatDoorMDuSigns
namespace Go.Proofs.YtcicjoamnlnlnabGreatDoor
open Go.RowKit Go.Lib

set_option maxRecDepth 100000 in
set_option maxHeartbeats 8000000 in
theorem durSigns_law (s : ByteArray) (w : World) (hg : GrD w) :
    Calls Tryz.prog 10 #[.string s] w fun e w' => e = .returned (.bool true) ∧ Below w.heap.size w w' := by
  have cw := (works_du hg).use
  have idle : ∀ (_ : 199 < s.size ∨ ∃ h : 0 < s.size, s[0].toNat = 45), Calls Tryz.prog 10 #[.string s] w fun e w' => e = .returned (.bool true) ∧ Below w.heap.size w w' := by
    intro h
    clear hg
    by_cases hL : 199 < s.size
    · have hLz : (199 : Int) < (s.size : Int) := by omega
      clear h
      go_enter Tryz.func10, Tryz.ntmps10
      go_wp2_with fail
      refine (cw w (Below.refl _ _)).mono ?_
      rintro e w2 ⟨rfl, b2⟩
      go_wp2_with fail
      go_ret
      exact ⟨rfl, b2⟩
    · obtain ⟨h0, h45⟩ := h.resolve_left hL
      have hLz : ¬ (199 : Int) < (s.size : Int) := by omega
      have h0z : (0 : Int) < (s.size : Int) := by omega
      have hcz : ((s[0].toNat : Int) == 45) = true := by rw [h45]; rfl
      clear h h45
      go_enter Tryz.func10, Tryz.ntmps10
      go_wp2_with fail
      refine (cw w (Below.refl _ _)).mono ?_
      rintro e w2 ⟨rfl, b2⟩
      go_wp2_with fail
      go_ret
      exact ⟨rfl, b2⟩
  by_cases hI : 199 < s.size ∨ ∃ h : 0 < s.size, s[0].toNat = 45
  · exact idle hI
  clear idle
  have hL : s.size ≤ 199 := by
    rcases Nat.lt_or_ge 199 s.size with h | h
    · exact absurd (.inl h) hI
    · exact h
  have hsl := ba_size s
  have hh : s.data.toList.head? ≠ some 45 := by
    intro h
    have h0 : 0 < s.data.toList.length := by
      cases e : s.data.toList with
      | nil => rw [e] at h; cases h
      | cons c r => simp
    refine hI (.inr ⟨by omega, ?_⟩)
    have : s.data.toList[0] = 45 := by
      rw [List.head?_eq_getElem?, List.getElem?_eq_getElem h0] at h
      exact Option.some.inj h
    have e : s[0]'(by omega) = s.data.toList[0] := by
      show s.data[0]'(by rw [← Array.length_toList]; exact h0) = _
      rw [Array.getElem_toList]
    rw [e, this]
    rfl
  have happ : ((⟨#[45]⟩ : ByteArray) ++ s).data.toList = 45 :: s.data.toList := by rw [ByteArray.data_append, Array.toList_append]; rfl
  obtain ⟨n, z, hM⟩ : ∃ n z, parseM s.data.toList = (n, z) := ⟨_, _, rfl⟩
  have hn := parseM_small s.data.toList
  have hM' := parseM_sign s.data.toList (by omega) hh
  rw [hM] at hn hM'
  rw [← happ] at hM'
  have m1 := (parseM_on hg s n z hM).use
  have m2 := (parseM_on hg (⟨#[45]⟩ ++ s) (-n) z hM').use
  obtain ⟨hn1, hn2⟩ := hn
  simp only at hn1 hn2
  have hS := parseS_sign s.data.toList (by omega) hh
  rw [← happ] at hS
  have H0 : ¬ (199 : Int) < (s.size : Int) := by omega
  have hT : s.size = 0 ∨ ∃ h : 0 < s.size, ((s[0].toNat : Int) == 45) = false := by
    rcases Nat.eq_zero_or_pos s.size with h | h
    · exact .inl h
    · refine .inr ⟨h, ?_⟩
      rw [beq_eq_false_iff_ne]
      intro e
      exact hI (.inr ⟨h, by omega⟩)
  clear hI hh happ hM hM' hsl hL
  rcases hS with ⟨y, hy, h1, h2⟩ | ⟨x, v, h1, h2, h3, h4⟩
  · have s1 := (parseS_on hg s ⟨#[]⟩ y h1).use
    have s2 := (parseS_on hg (⟨#[45]⟩ ++ s) ⟨#[]⟩ y h2).use
    clear hg h1 h2
    rcases hT with hT | ⟨hT, hc⟩
    · have hTz : ¬ (0 : Int) < (s.size : Int) := by omega
      clear hT
      go_enter Tryz.func10, Tryz.ntmps10
      go_wp2_with fail
      refine (m1 w (Below.refl _ _)).mono ?_
      rintro e w1 ⟨rfl, b1⟩
      go_wp2_with fail
      refine (m2 w1 b1).mono ?_
      rintro e w2 ⟨rfl, b2⟩
      go_wp2_with fail
      refine (s1 w2 b2).mono ?_
      rintro e w3 ⟨rfl, b3⟩
      go_wp2_with fail
      refine (s2 w3 b3).mono ?_
      rintro e w4 ⟨rfl, b4⟩
      go_wp2_with fail
      refine (cw w4 b4).mono ?_
      rintro e w5 ⟨rfl, b5⟩
      go_wp2_with fail
      go_ret
      exact ⟨rfl, b5⟩
    · have hTz : (0 : Int) < (s.size : Int) := by omega
      go_enter Tryz.func10, Tryz.ntmps10
      go_wp2_with fail
      refine (m1 w (Below.refl _ _)).mono ?_
      rintro e w1 ⟨rfl, b1⟩
      go_wp2_with fail
      refine (m2 w1 b1).mono ?_
      rintro e w2 ⟨rfl, b2⟩
      go_wp2_with fail
      refine (s1 w2 b2).mono ?_
      rintro e w3 ⟨rfl, b3⟩
      go_wp2_with fail
      refine (s2 w3 b3).mono ?_
      rintro e w4 ⟨rfl, b4⟩
      go_wp2_with fail
      refine (cw w4 b4).mono ?_
      rintro e w5 ⟨rfl, b5⟩
      go_wp2_with fail
      go_ret
      exact ⟨rfl, b5⟩
  · obtain ⟨X, hX, hXl⟩ := ba_ex x
    obtain ⟨V, hV, hVl⟩ := ba_ex v
    have s1 := (parseS_on hg s X 0 (by rw [hXl]; exact h1)).use
    have s2 := (parseS_on hg (⟨#[45]⟩ ++ s) V 0 (by rw [hVl]; exact h2)).use
    have hVs : V.size < 4294967281 := by
      have := ba_size V
      rw [hVl] at this
      omega
    have s3 := (neg_on hg.num V X 0 hVs (by rw [hXl, hVl]; exact h3)).use
    clear hg h1 h2 h3 h4 hVs hX hV hXl hVl
    rcases hT with hT | ⟨hT, hc⟩
    · have hTz : ¬ (0 : Int) < (s.size : Int) := by omega
      clear hT
      go_enter Tryz.func10, Tryz.ntmps10
      go_wp2_with fail
      refine (m1 w (Below.refl _ _)).mono ?_
      rintro e w1 ⟨rfl, b1⟩
      go_wp2_with fail
      refine (m2 w1 b1).mono ?_
      rintro e w2 ⟨rfl, b2⟩
      go_wp2_with fail
      refine (s1 w2 b2).mono ?_
      rintro e w3 ⟨rfl, b3⟩
      go_wp2_with fail
      refine (s2 w3 b3).mono ?_
      rintro e w4 ⟨rfl, b4⟩
      go_wp2_with fail
      refine (s3 w4 b4).mono ?_
      rintro e w5 ⟨rfl, b5⟩
      go_wp2_with fail
      refine (cw w5 b5).mono ?_
      rintro e w6 ⟨rfl, b6⟩
      go_wp2_with fail
      go_ret
      exact ⟨rfl, b6⟩
    · have hTz : (0 : Int) < (s.size : Int) := by omega
      go_enter Tryz.func10, Tryz.ntmps10
      go_wp2_with fail
      refine (m1 w (Below.refl _ _)).mono ?_
      rintro e w1 ⟨rfl, b1⟩
      go_wp2_with fail
      refine (m2 w1 b1).mono ?_
      rintro e w2 ⟨rfl, b2⟩
      go_wp2_with fail
      refine (s1 w2 b2).mono ?_
      rintro e w3 ⟨rfl, b3⟩
      go_wp2_with fail
      refine (s2 w3 b3).mono ?_
      rintro e w4 ⟨rfl, b4⟩
      go_wp2_with fail
      refine (s3 w4 b4).mono ?_
      rintro e w5 ⟨rfl, b5⟩
      go_wp2_with fail
      refine (cw w5 b5).mono ?_
      rintro e w6 ⟨rfl, b6⟩
      go_wp2_with fail
      go_ret
      exact ⟨rfl, b6⟩
end Go.Proofs.YtcicjoamnlnlnabGreatDoor

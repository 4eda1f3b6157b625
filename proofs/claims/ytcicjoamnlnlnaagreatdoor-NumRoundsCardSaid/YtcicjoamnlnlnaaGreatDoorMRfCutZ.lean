/- The specification of num: cut, where nothing is cut off. -/
import Derived.Test.YtcicjoamnlnlnaaGreatDoorMRfB
namespace Go.Proofs.YtcicjoamnlnlnaaGreatDoor.R
open Go.RowKit Go.Lib
open Go.Proofs.YtcicjoamnlnlnaaGreatDoor (trimW sgnN lt_of_cell below_drewN)

set_option maxHeartbeats 8000000 in
set_option maxRecDepth 100000 in
theorem cut_zero (neg : Bool) (how : ByteArray) (v : Value) (l : List Nat) (hs : Small l) (hl9 : l.length ≤ 1000000) (w : World) (hu : Digs w v l) :
    Calls Tryz.prog 58 #[.bool neg, v, .int .i64 0, .string how] w fun e w' => ∃ x, e = .returned x ∧ Digs w' x (wordsOf (val l)) ∧ Below w.heap.size w w' := by
  have HV := Lib.hid hu
  have HS := Lib.hid hs
  by_cases h0 : l = []
  · subst h0
    obtain ⟨a, cap, hsh⟩ := hu.shape
    rw [List.length_nil] at hsh
    subst hsh
    clear hs hl9 hu
    have hl9 : ([] : List Nat).length ≤ 1000000 := by simp
    obtain ⟨l, hl⟩ : ∃ l : List Nat, [] = l := ⟨_, rfl⟩
    rw [hl] at HV HS hl9 ⊢
    clear hl
    cases a with
    | none =>
      by_cases hc0 : cap = 0
      · subst hc0
        go_enter Tryz.func58, Tryz.ntmps58
        go_wp2_with fail
        go_quiet (fail)
        have hb3 : Below w.heap.size w (w.drewN nq) := below_drewN (Below.refl _ _) nq
        obtain ⟨W3, hW3⟩ : ∃ W3, w.drewN nq = W3 := ⟨_, rfl⟩
        rw [hW3] at hb3 ⊢
        clear hW3
        obtain ⟨v5, w5, hr5, ho5, hg5⟩ := append_zeros_own W3.heap.size _ 1 (iL [5]) 0 (by omega) (W3.alloc (.cells #[.int .i64 5] 3)) (owns_one W3 5) (by simp) 50
        have hb5 : Below w.heap.size w w5 := hb3.trans ((owns_belowI ((Below.refl _ W3).alloc (Nat.le_refl _) _) (owns_one W3 5) hg5 (by simp)).mono hb3.size)
        have hD5 : Digs w5 v5 [5] := Digs.of_owns (B := W3.heap.size) (by simpa using ho5)
        have H5 : Hid ((Builtin.append_ #[50, 3] 50 #[.slice (some ⟨W3.heap.size, 0, none⟩) 1 1, .int .i64 0]).run Tryz.prog (W3.alloc (.cells #[.int .i64 5] 3)) = .ok v5 w5) := Lib.hid hr5
        clear hr5 ho5 hg5 hb3
        go_wp2_with (at_builtin; refine Lib.wpList_append_run _ rfl (.tmp 37) (.tmp 40) 50 3 rfl _ _ rfl rfl _ _ H5.out ?_)
        refine (cmp_any _ v5 [] [5] Small.nil (Small.cons (by omega) Small.nil) (by simp) (by simp) w5 (Digs.nil _ _ _) hD5).mono ?_
        rintro e w6 ⟨rfl, hb6⟩
        have hbw6 := hb5.trans (hb6.mono hb5.size)
        have hst6 := HV.out.later hbw6
        have hbA : Below w6.heap.size w6 (w6.alloc (.cells #[] 3)) := (Below.refl _ w6).alloc (Nat.le_refl _) _
        obtain ⟨v8, w8, hr8, ho8, hg8⟩ := append_digs_own w6.heap.size _ (Value.slice none 0 0) 0 (iL []) l (by omega) (w6.alloc (.cells #[] 3)) (owns_none w6) (hst6.later hbA) (by simp) 50
        have hb8 := owns_belowI hbA (owns_none w6) hg8 (by simp)
        have hD8 : Digs w8 v8 l := Digs.of_owns (B := w6.heap.size) (by simpa [iL] using ho8)
        have cT := trim_any v8 l (by omega) w8 hD8
        rw [trimW_words l HS.out] at cT
        have hbw8 := hbw6.trans (hb8.mono hbw6.size)
        have H8 := Lib.hid hr8
        clear hr8 ho8 hg8 hD8 hb8 hbA hst6 hb6 hb5 hD5 H5
        go_wp2_with (at_builtin; refine Lib.wpList_append_run _ rfl (.tmp 68) (.tmp 69) 50 50 rfl _ _ rfl rfl _ _ H8.out ?_)
        refine cT.mono ?_
        rintro e w9 ⟨x, rfl, hx, rfl⟩
        go_wp2_with fail
        go_ret
        exact ⟨x, rfl, hx, hbw8⟩
      · go_enter Tryz.func58, Tryz.ntmps58
        go_wp2_with fail
        go_quiet (fail)
        have hb3 : Below w.heap.size w (w.drewN nq) := below_drewN (Below.refl _ _) nq
        obtain ⟨W3, hW3⟩ : ∃ W3, w.drewN nq = W3 := ⟨_, rfl⟩
        rw [hW3] at hb3 ⊢
        clear hW3
        obtain ⟨v5, w5, hr5, ho5, hg5⟩ := append_zeros_own W3.heap.size _ 1 (iL [5]) 0 (by omega) (W3.alloc (.cells #[.int .i64 5] 3)) (owns_one W3 5) (by simp) 50
        have hb5 : Below w.heap.size w w5 := hb3.trans ((owns_belowI ((Below.refl _ W3).alloc (Nat.le_refl _) _) (owns_one W3 5) hg5 (by simp)).mono hb3.size)
        have hD5 : Digs w5 v5 [5] := Digs.of_owns (B := W3.heap.size) (by simpa using ho5)
        have H5 : Hid ((Builtin.append_ #[50, 3] 50 #[.slice (some ⟨W3.heap.size, 0, none⟩) 1 1, .int .i64 0]).run Tryz.prog (W3.alloc (.cells #[.int .i64 5] 3)) = .ok v5 w5) := Lib.hid hr5
        clear hr5 ho5 hg5 hb3
        go_wp2_with (at_builtin; refine Lib.wpList_append_run _ rfl (.tmp 37) (.tmp 40) 50 3 rfl _ _ rfl rfl _ _ H5.out ?_)
        refine (cmp_any _ v5 [] [5] Small.nil (Small.cons (by omega) Small.nil) (by simp) (by simp) w5 (Digs.nil _ _ _) hD5).mono ?_
        rintro e w6 ⟨rfl, hb6⟩
        have hbw6 := hb5.trans (hb6.mono hb5.size)
        have hst6 := HV.out.later hbw6
        have hbA : Below w6.heap.size w6 (w6.alloc (.cells #[] 3)) := (Below.refl _ w6).alloc (Nat.le_refl _) _
        obtain ⟨v8, w8, hr8, ho8, hg8⟩ := append_digs_own w6.heap.size _ (Value.slice none 0 cap) 0 (iL []) l (by omega) (w6.alloc (.cells #[] 3)) (owns_none w6) (hst6.later hbA) (by simp) 50
        have hb8 := owns_belowI hbA (owns_none w6) hg8 (by simp)
        have hD8 : Digs w8 v8 l := Digs.of_owns (B := w6.heap.size) (by simpa [iL] using ho8)
        have cT := trim_any v8 l (by omega) w8 hD8
        rw [trimW_words l HS.out] at cT
        have hbw8 := hbw6.trans (hb8.mono hbw6.size)
        have H8 := Lib.hid hr8
        clear hr8 ho8 hg8 hD8 hb8 hbA hst6 hb6 hb5 hD5 H5
        go_wp2_with (at_builtin; refine Lib.wpList_append_run _ rfl (.tmp 68) (.tmp 69) 50 50 rfl _ _ rfl rfl _ _ H8.out ?_)
        refine cT.mono ?_
        rintro e w9 ⟨x, rfl, hx, rfl⟩
        go_wp2_with fail
        go_ret
        exact ⟨x, rfl, hx, hbw8⟩
    | some ad =>
      by_cases hc0 : cap = 0
      · subst hc0
        go_enter Tryz.func58, Tryz.ntmps58
        go_wp2_with fail
        go_quiet (fail)
        have hb3 : Below w.heap.size w (w.drewN nq) := below_drewN (Below.refl _ _) nq
        obtain ⟨W3, hW3⟩ : ∃ W3, w.drewN nq = W3 := ⟨_, rfl⟩
        rw [hW3] at hb3 ⊢
        clear hW3
        obtain ⟨v5, w5, hr5, ho5, hg5⟩ := append_zeros_own W3.heap.size _ 1 (iL [5]) 0 (by omega) (W3.alloc (.cells #[.int .i64 5] 3)) (owns_one W3 5) (by simp) 50
        have hb5 : Below w.heap.size w w5 := hb3.trans ((owns_belowI ((Below.refl _ W3).alloc (Nat.le_refl _) _) (owns_one W3 5) hg5 (by simp)).mono hb3.size)
        have hD5 : Digs w5 v5 [5] := Digs.of_owns (B := W3.heap.size) (by simpa using ho5)
        have H5 : Hid ((Builtin.append_ #[50, 3] 50 #[.slice (some ⟨W3.heap.size, 0, none⟩) 1 1, .int .i64 0]).run Tryz.prog (W3.alloc (.cells #[.int .i64 5] 3)) = .ok v5 w5) := Lib.hid hr5
        clear hr5 ho5 hg5 hb3
        go_wp2_with (at_builtin; refine Lib.wpList_append_run _ rfl (.tmp 37) (.tmp 40) 50 3 rfl _ _ rfl rfl _ _ H5.out ?_)
        refine (cmp_any _ v5 [] [5] Small.nil (Small.cons (by omega) Small.nil) (by simp) (by simp) w5 (Digs.nil _ _ _) hD5).mono ?_
        rintro e w6 ⟨rfl, hb6⟩
        have hbw6 := hb5.trans (hb6.mono hb5.size)
        have hst6 := HV.out.later hbw6
        have hbA : Below w6.heap.size w6 (w6.alloc (.cells #[] 3)) := (Below.refl _ w6).alloc (Nat.le_refl _) _
        obtain ⟨v8, w8, hr8, ho8, hg8⟩ := append_digs_own w6.heap.size _ (Value.slice (some ad) 0 0) 0 (iL []) l (by omega) (w6.alloc (.cells #[] 3)) (owns_none w6) (hst6.later hbA) (by simp) 50
        have hb8 := owns_belowI hbA (owns_none w6) hg8 (by simp)
        have hD8 : Digs w8 v8 l := Digs.of_owns (B := w6.heap.size) (by simpa [iL] using ho8)
        have cT := trim_any v8 l (by omega) w8 hD8
        rw [trimW_words l HS.out] at cT
        have hbw8 := hbw6.trans (hb8.mono hbw6.size)
        have H8 := Lib.hid hr8
        clear hr8 ho8 hg8 hD8 hb8 hbA hst6 hb6 hb5 hD5 H5
        go_wp2_with (at_builtin; refine Lib.wpList_append_run _ rfl (.tmp 68) (.tmp 69) 50 50 rfl _ _ rfl rfl _ _ H8.out ?_)
        refine cT.mono ?_
        rintro e w9 ⟨x, rfl, hx, rfl⟩
        go_wp2_with fail
        go_ret
        exact ⟨x, rfl, hx, hbw8⟩
      · go_enter Tryz.func58, Tryz.ntmps58
        go_wp2_with fail
        go_quiet (fail)
        have hb3 : Below w.heap.size w (w.drewN nq) := below_drewN (Below.refl _ _) nq
        obtain ⟨W3, hW3⟩ : ∃ W3, w.drewN nq = W3 := ⟨_, rfl⟩
        rw [hW3] at hb3 ⊢
        clear hW3
        obtain ⟨v5, w5, hr5, ho5, hg5⟩ := append_zeros_own W3.heap.size _ 1 (iL [5]) 0 (by omega) (W3.alloc (.cells #[.int .i64 5] 3)) (owns_one W3 5) (by simp) 50
        have hb5 : Below w.heap.size w w5 := hb3.trans ((owns_belowI ((Below.refl _ W3).alloc (Nat.le_refl _) _) (owns_one W3 5) hg5 (by simp)).mono hb3.size)
        have hD5 : Digs w5 v5 [5] := Digs.of_owns (B := W3.heap.size) (by simpa using ho5)
        have H5 : Hid ((Builtin.append_ #[50, 3] 50 #[.slice (some ⟨W3.heap.size, 0, none⟩) 1 1, .int .i64 0]).run Tryz.prog (W3.alloc (.cells #[.int .i64 5] 3)) = .ok v5 w5) := Lib.hid hr5
        clear hr5 ho5 hg5 hb3
        go_wp2_with (at_builtin; refine Lib.wpList_append_run _ rfl (.tmp 37) (.tmp 40) 50 3 rfl _ _ rfl rfl _ _ H5.out ?_)
        refine (cmp_any _ v5 [] [5] Small.nil (Small.cons (by omega) Small.nil) (by simp) (by simp) w5 (Digs.nil _ _ _) hD5).mono ?_
        rintro e w6 ⟨rfl, hb6⟩
        have hbw6 := hb5.trans (hb6.mono hb5.size)
        have hst6 := HV.out.later hbw6
        have hbA : Below w6.heap.size w6 (w6.alloc (.cells #[] 3)) := (Below.refl _ w6).alloc (Nat.le_refl _) _
        obtain ⟨v8, w8, hr8, ho8, hg8⟩ := append_digs_own w6.heap.size _ (Value.slice (some ad) 0 cap) 0 (iL []) l (by omega) (w6.alloc (.cells #[] 3)) (owns_none w6) (hst6.later hbA) (by simp) 50
        have hb8 := owns_belowI hbA (owns_none w6) hg8 (by simp)
        have hD8 : Digs w8 v8 l := Digs.of_owns (B := w6.heap.size) (by simpa [iL] using ho8)
        have cT := trim_any v8 l (by omega) w8 hD8
        rw [trimW_words l HS.out] at cT
        have hbw8 := hbw6.trans (hb8.mono hbw6.size)
        have H8 := Lib.hid hr8
        clear hr8 ho8 hg8 hD8 hb8 hbA hst6 hb6 hb5 hD5 H5
        go_wp2_with (at_builtin; refine Lib.wpList_append_run _ rfl (.tmp 68) (.tmp 69) 50 50 rfl _ _ rfl rfl _ _ H8.out ?_)
        refine cT.mono ?_
        rintro e w9 ⟨x, rfl, hx, rfl⟩
        go_wp2_with fail
        go_ret
        exact ⟨x, rfl, hx, hbw8⟩
  · have hN0 : l.length ≠ 0 := fun h => h0 (List.eq_nil_of_length_eq_zero h)
    rcases hu with ⟨h, _⟩ | ⟨b, o, c, rfl, hc, hcell⟩
    · exact absurd h h0
    · have hlc := hcell 0 (by omega)
      rw [Nat.sub_zero] at hlc
      obtain ⟨y, hy⟩ : ∃ y : Nat, l.getD 0 0 = y := ⟨_, rfl⟩
      rw [hy] at hlc
      obtain ⟨N, hN⟩ : ∃ N, l.length = N := ⟨_, rfl⟩
      have hlN : l.length ≤ 1000000 := hl9
      rw [hN] at HV hc hN0 hlc hl9 ⊢
      have HN := Lib.hid hN
      obtain ⟨N1, hN1⟩ : ∃ N1, N - 1 = N1 := ⟨_, rfl⟩
      rw [hN1] at hlc
      have hN1z : (N : Int) - 1 = (N1 : Int) := by omega
      have hNp : (0 : Int) < (N : Int) := by omega
      have hN1N : (N1 : Int) < (N : Int) := by omega
      have hNc : (N : Int) ≤ (c : Int) := by omega
      have hc0 : ¬ c = 0 := by omega
      clear hs hcell hy hN h0 hN0 hN1
      by_cases hcN : c = N
      · subst hcN
        go_enter Tryz.func58, Tryz.ntmps58
        go_wp2_with fail
        go_quiet (fail)
        have hb3 : Below w.heap.size w (w.drewN nq) := below_drewN (Below.refl _ _) nq
        obtain ⟨W3, hW3⟩ : ∃ W3, w.drewN nq = W3 := ⟨_, rfl⟩
        rw [hW3] at hb3 ⊢
        clear hW3
        obtain ⟨v5, w5, hr5, ho5, hg5⟩ := append_zeros_own W3.heap.size _ 1 (iL [5]) 0 (by omega) (W3.alloc (.cells #[.int .i64 5] 3)) (owns_one W3 5) (by simp) 50
        have hb5 : Below w.heap.size w w5 := hb3.trans ((owns_belowI ((Below.refl _ W3).alloc (Nat.le_refl _) _) (owns_one W3 5) hg5 (by simp)).mono hb3.size)
        have hD5 : Digs w5 v5 [5] := Digs.of_owns (B := W3.heap.size) (by simpa using ho5)
        have H5 : Hid ((Builtin.append_ #[50, 3] 50 #[.slice (some ⟨W3.heap.size, 0, none⟩) 1 1, .int .i64 0]).run Tryz.prog (W3.alloc (.cells #[.int .i64 5] 3)) = .ok v5 w5) := Lib.hid hr5
        clear hr5 ho5 hg5 hb3
        go_wp2_with (at_builtin; refine Lib.wpList_append_run _ rfl (.tmp 37) (.tmp 40) 50 3 rfl _ _ rfl rfl _ _ H5.out ?_)
        refine (cmp_any _ v5 [] [5] Small.nil (Small.cons (by omega) Small.nil) (by simp) (by simp) w5 (Digs.nil _ _ _) hD5).mono ?_
        rintro e w6 ⟨rfl, hb6⟩
        have hbw6 := hb5.trans (hb6.mono hb5.size)
        have hst6 := HV.out.later hbw6
        have hbA : Below w6.heap.size w6 (w6.alloc (.cells #[] 3)) := (Below.refl _ w6).alloc (Nat.le_refl _) _
        obtain ⟨v8, w8, hr8, ho8, hg8⟩ := append_digs_own w6.heap.size _ (Value.slice (some ⟨b, o, none⟩) c c) 0 (iL []) l (by omega) (w6.alloc (.cells #[] 3)) (owns_none w6) (hst6.later hbA) (by simp) 50
        have hb8 := owns_belowI hbA (owns_none w6) hg8 (by simp)
        have hD8 : Digs w8 v8 l := Digs.of_owns (B := w6.heap.size) (by simpa [iL] using ho8)
        have cT := trim_any v8 l (by have := HN.out; omega) w8 hD8
        rw [trimW_words l HS.out] at cT
        have hbw8 := hbw6.trans (hb8.mono hbw6.size)
        have H8 := Lib.hid hr8
        have hlc6 := (hbw6.cell (p := ⟨b, o + N1, none⟩) (lt_of_cell hlc)).trans hlc
        clear hr8 ho8 hg8 hD8 hb8 hbA hst6 hb6 hb5 hD5 H5
        go_wp2_with (at_builtin; refine Lib.wpList_append_run _ rfl (.tmp 68) (.tmp 69) 50 50 rfl _ _ rfl rfl _ _ H8.out ?_)
        refine cT.mono ?_
        rintro e w9 ⟨x, rfl, hx, rfl⟩
        go_wp2_with fail
        go_ret
        exact ⟨x, rfl, hx, hbw8⟩
      · go_enter Tryz.func58, Tryz.ntmps58
        go_wp2_with fail
        go_quiet (fail)
        have hb3 : Below w.heap.size w (w.drewN nq) := below_drewN (Below.refl _ _) nq
        obtain ⟨W3, hW3⟩ : ∃ W3, w.drewN nq = W3 := ⟨_, rfl⟩
        rw [hW3] at hb3 ⊢
        clear hW3
        obtain ⟨v5, w5, hr5, ho5, hg5⟩ := append_zeros_own W3.heap.size _ 1 (iL [5]) 0 (by omega) (W3.alloc (.cells #[.int .i64 5] 3)) (owns_one W3 5) (by simp) 50
        have hb5 : Below w.heap.size w w5 := hb3.trans ((owns_belowI ((Below.refl _ W3).alloc (Nat.le_refl _) _) (owns_one W3 5) hg5 (by simp)).mono hb3.size)
        have hD5 : Digs w5 v5 [5] := Digs.of_owns (B := W3.heap.size) (by simpa using ho5)
        have H5 : Hid ((Builtin.append_ #[50, 3] 50 #[.slice (some ⟨W3.heap.size, 0, none⟩) 1 1, .int .i64 0]).run Tryz.prog (W3.alloc (.cells #[.int .i64 5] 3)) = .ok v5 w5) := Lib.hid hr5
        clear hr5 ho5 hg5 hb3
        go_wp2_with (at_builtin; refine Lib.wpList_append_run _ rfl (.tmp 37) (.tmp 40) 50 3 rfl _ _ rfl rfl _ _ H5.out ?_)
        refine (cmp_any _ v5 [] [5] Small.nil (Small.cons (by omega) Small.nil) (by simp) (by simp) w5 (Digs.nil _ _ _) hD5).mono ?_
        rintro e w6 ⟨rfl, hb6⟩
        have hbw6 := hb5.trans (hb6.mono hb5.size)
        have hst6 := HV.out.later hbw6
        have hbA : Below w6.heap.size w6 (w6.alloc (.cells #[] 3)) := (Below.refl _ w6).alloc (Nat.le_refl _) _
        obtain ⟨v8, w8, hr8, ho8, hg8⟩ := append_digs_own w6.heap.size _ (Value.slice (some ⟨b, o, none⟩) N c) 0 (iL []) l (by omega) (w6.alloc (.cells #[] 3)) (owns_none w6) (hst6.later hbA) (by simp) 50
        have hb8 := owns_belowI hbA (owns_none w6) hg8 (by simp)
        have hD8 : Digs w8 v8 l := Digs.of_owns (B := w6.heap.size) (by simpa [iL] using ho8)
        have cT := trim_any v8 l (by omega) w8 hD8
        rw [trimW_words l HS.out] at cT
        have hbw8 := hbw6.trans (hb8.mono hbw6.size)
        have H8 := Lib.hid hr8
        have hlc6 := (hbw6.cell (p := ⟨b, o + N1, none⟩) (lt_of_cell hlc)).trans hlc
        clear hr8 ho8 hg8 hD8 hb8 hbA hst6 hb6 hb5 hD5 H5
        go_wp2_with (at_builtin; refine Lib.wpList_append_run _ rfl (.tmp 68) (.tmp 69) 50 50 rfl _ _ rfl rfl _ _ H8.out ?_)
        refine cT.mono ?_
        rintro e w9 ⟨x, rfl, hx, rfl⟩
        go_wp2_with fail
        go_ret
        exact ⟨x, rfl, hx, hbw8⟩
end Go.Proofs.YtcicjoamnlnlnaaGreatDoor.R

/- The contract of chisellaw03.CollOrder. -/
import Derived.Test.YtgfkdfieieconaaDoorCoLight
import Derived.Test.YtgfkdfieieconaaDoorCoCmp
namespace Go.Proofs.YtgfkdfieieconaaDoor
open Go.RowKit Go.Lib Go.Shelf

theorem three_cells3 (w : World) (a b c : ByteArray) (t : TypeId) : ∀ (j : Nat) s, [a, b, c][j]? = some s → (w.alloc (.cells #[.string a, .string b, .string c] t)).cell? ⟨w.heap.size, j, none⟩ = some (.string s) := by
  intro j s hj
  match j, hj with
  | 0, hj => cases hj; rw [cell_of_row _ _ 0 _ _ (0, 0) (heap_alloc_new _ _)]; rfl
  | 1, hj => cases hj; rw [cell_of_row _ _ 1 _ _ (0, 0) (heap_alloc_new _ _)]; rfl
  | 2, hj => cases hj; rw [cell_of_row _ _ 2 _ _ (0, 0) (heap_alloc_new _ _)]; rfl
  | n + 3, hj => simp at hj
set_option maxHeartbeats 8000000 in
set_option maxRecDepth 100000 in
theorem order_any (t a b c : ByteArray) (w : World) (hg : GrC w) :
    Calls Tryd.prog 3 #[.string t, .string a, .string b, .string c] w fun e w' => e = .returned (.bool true) ∧ Below w.heap.size w w' := by
  obtain ⟨W1, hW1⟩ : ∃ W1, w.alloc (.cells #[.string a, .string b, .string c] 9) = W1 := ⟨_, rfl⟩
  have hb1 : Below w.heap.size w W1 := by rw [← hW1]; exact (Below.refl _ _).alloc (Nat.le_refl _) _
  have cL := light_any t w.heap.size 3 [a, b, c] rfl (by omega) W1 (by rw [← hW1]; exact three_cells3 w a b c _)
  have hg1 := hg.later hb1
  cases hl : lightL t [a, b, c] with
  | false =>
    rw [hl] at cL
    go_enter Tryd.func3, Tryd.ntmps3
    go_wp2_with fail
    refine cL.mono ?_
    rintro e w2 ⟨rfl, rfl⟩
    go_wp2_with fail
    refine (works_any w2 hg1).mono ?_
    rintro e w3 ⟨rfl, hb3⟩
    go_wp2_with fail
    go_ret
    exact ⟨rfl, hb1.trans (hb3.mono hb1.size)⟩
  | true =>
    rw [hl] at cL
    have hsz : a.size ≤ 1000000 ∧ b.size ≤ 1000000 ∧ c.size ≤ 1000000 := by
      unfold lightL at hl
      simp at hl
      omega
    obtain ⟨ha, hb, hc⟩ := hsz
    have cP := parse_some t W1 hg1
    go_enter Tryd.func3, Tryd.ntmps3
    go_wp2_with fail
    refine cL.mono ?_
    rintro e w2 ⟨rfl, rfl⟩
    clear hW1
    go_wp2_with fail
    refine cP.mono ?_
    rintro e w1 ⟨o, n, k, T, rfl, hT, hS, hbp⟩
    have hbw := hb1.trans (hbp.mono hb1.size)
    have K : ∀ W, Below w1.heap.size w1 W → ∀ s u : ByteArray, s.size ≤ 1000000 → u.size ≤ 1000000 → Calls Tryd.prog 14 #[.pointer o, .string s, .string u] W fun e w' => e = .returned (.int .i64 (cmpL (keyL T s.data.toList) (keyL T u.data.toList))) ∧ Below w1.heap.size w1 w' := fun W hW s u hs hu =>
      (compare_any (.pointer o) s u T W (hg.gr.later (hbw.trans (hW.mono hbw.size))) hs hu (hT.later hW) hS).mono fun e w' ⟨h1, h2⟩ => ⟨h1, hW.trans (h2.mono hW.size)⟩
    have KY : ∀ W, Below w1.heap.size w1 W → ∀ s : ByteArray, s.size ≤ 1000000 → Calls Tryd.prog 16 #[.pointer o, .string s] W fun e w' => ∃ u, e = .returned u ∧ BytesV w' u (keyL T s.data.toList) ∧ Below W.heap.size W w' := fun W hW s hs =>
      key_any (.pointer o) s T W (hg.gr.later (hbw.trans (hW.mono hbw.size))) hs (hT.later hW) hS
    have kab := fun W hW => K W hW a b ha hb
    have kbc := fun W hW => K W hW b c hb hc
    have kac := fun W hW => K W hW a c ha hc
    have kba := fun W hW => K W hW b a hb ha
    have kaa := fun W hW => K W hW a a ha ha
    have ya := fun W hW => KY W hW a ha
    have yb := fun W hW => KY W hW b hb
    rw [cmpL_neg (keyL T a.data.toList) (keyL T b.data.toList)] at kba
    rw [cmpL_self] at kaa
    have cB := fun W u v (hu : BytesV W u (keyL T a.data.toList)) (hv : BytesV W v (keyL T b.data.toList)) => bytesCompare_any u v _ _ W hu hv
    have h3x := cmpL_three (keyL T a.data.toList) (keyL T b.data.toList)
    have h3y := cmpL_three (keyL T b.data.toList) (keyL T c.data.toList)
    have h3z := cmpL_three (keyL T a.data.toList) (keyL T c.data.toList)
    have hle := cmpL_le (keyL T a.data.toList) (keyL T b.data.toList) (keyL T c.data.toList)
    have hge := cmpL_ge (keyL T a.data.toList) (keyL T b.data.toList) (keyL T c.data.toList)
    generalize cmpL (keyL T a.data.toList) (keyL T b.data.toList) = X at *
    generalize cmpL (keyL T b.data.toList) (keyL T c.data.toList) = Y at *
    generalize cmpL (keyL T a.data.toList) (keyL T c.data.toList) = Z at *
    have e0 := Below.refl w1.heap.size w1
    clear K KY cL cP hl
    go_wp2_with fail
    refine (kab _ e0).mono ?_
    rintro e w3 ⟨rfl, e1⟩
    go_wp2_with fail
    refine (kbc _ e1).mono ?_
    rintro e w4 ⟨rfl, e2⟩
    go_wp2_with fail
    refine (kac _ e2).mono ?_
    rintro e w5 ⟨rfl, e3⟩
    go_wp2_with fail
    refine (kba _ e3).mono ?_
    rintro e w6 ⟨rfl, e4⟩
    have G : ∀ W, Below w1.heap.size w1 W → GrC W := fun W hW => hg.later (hbw.trans (hW.mono hbw.size))
    clear kab kbc kac kba h3z
    rcases h3x with rfl | rfl | rfl <;> rcases h3y with rfl | rfl | rfl
    · obtain rfl : Z = -1 := (hle (by decide) (by decide)).trans (by decide)
      clear hle hge
      go_wp2_with fail
      refine (kaa _ e4).mono ?_
      rintro e w7 ⟨rfl, e5⟩
      go_wp2_with fail
      refine (ya _ e5).mono ?_
      rintro e w8 ⟨u, rfl, hu, e6⟩
      have e7 := e5.trans (e6.mono e5.size)
      go_wp2_with fail
      refine (yb _ e7).mono ?_
      rintro e w9 ⟨u2, rfl, hu2, e8⟩
      have e9 := e7.trans (e8.mono e7.size)
      go_wp2_with fail
      refine (cB _ u u2 (hu.later e8) hu2).mono ?_
      rintro e w10 ⟨rfl, rfl⟩
      go_wp2_with fail
      refine (works_any _ (G _ e9)).mono ?_
      rintro e w11 ⟨rfl, e10⟩
      go_wp2_with fail
      go_ret
      exact ⟨rfl, hbw.trans ((e9.trans (e10.mono e9.size)).mono hbw.size)⟩
    · obtain rfl : Z = -1 := (hle (by decide) (by decide)).trans (by decide)
      clear hle hge
      go_wp2_with fail
      refine (kaa _ e4).mono ?_
      rintro e w7 ⟨rfl, e5⟩
      go_wp2_with fail
      refine (ya _ e5).mono ?_
      rintro e w8 ⟨u, rfl, hu, e6⟩
      have e7 := e5.trans (e6.mono e5.size)
      go_wp2_with fail
      refine (yb _ e7).mono ?_
      rintro e w9 ⟨u2, rfl, hu2, e8⟩
      have e9 := e7.trans (e8.mono e7.size)
      go_wp2_with fail
      refine (cB _ u u2 (hu.later e8) hu2).mono ?_
      rintro e w10 ⟨rfl, rfl⟩
      go_wp2_with fail
      refine (works_any _ (G _ e9)).mono ?_
      rintro e w11 ⟨rfl, e10⟩
      go_wp2_with fail
      go_ret
      exact ⟨rfl, hbw.trans ((e9.trans (e10.mono e9.size)).mono hbw.size)⟩
    · clear hle hge
      go_wp2_with fail
      refine (kaa _ e4).mono ?_
      rintro e w7 ⟨rfl, e5⟩
      go_wp2_with fail
      refine (ya _ e5).mono ?_
      rintro e w8 ⟨u, rfl, hu, e6⟩
      have e7 := e5.trans (e6.mono e5.size)
      go_wp2_with fail
      refine (yb _ e7).mono ?_
      rintro e w9 ⟨u2, rfl, hu2, e8⟩
      have e9 := e7.trans (e8.mono e7.size)
      go_wp2_with fail
      refine (cB _ u u2 (hu.later e8) hu2).mono ?_
      rintro e w10 ⟨rfl, rfl⟩
      go_wp2_with fail
      refine (works_any _ (G _ e9)).mono ?_
      rintro e w11 ⟨rfl, e10⟩
      go_wp2_with fail
      go_ret
      exact ⟨rfl, hbw.trans ((e9.trans (e10.mono e9.size)).mono hbw.size)⟩
    · obtain rfl : Z = -1 := (hle (by decide) (by decide)).trans (by decide)
      clear hle hge
      go_wp2_with fail
      refine (kaa _ e4).mono ?_
      rintro e w7 ⟨rfl, e5⟩
      go_wp2_with fail
      refine (ya _ e5).mono ?_
      rintro e w8 ⟨u, rfl, hu, e6⟩
      have e7 := e5.trans (e6.mono e5.size)
      go_wp2_with fail
      refine (yb _ e7).mono ?_
      rintro e w9 ⟨u2, rfl, hu2, e8⟩
      have e9 := e7.trans (e8.mono e7.size)
      go_wp2_with fail
      refine (cB _ u u2 (hu.later e8) hu2).mono ?_
      rintro e w10 ⟨rfl, rfl⟩
      go_wp2_with fail
      refine (works_any _ (G _ e9)).mono ?_
      rintro e w11 ⟨rfl, e10⟩
      go_wp2_with fail
      go_ret
      exact ⟨rfl, hbw.trans ((e9.trans (e10.mono e9.size)).mono hbw.size)⟩
    · obtain rfl : Z = 0 := (hle (by decide) (by decide)).trans (by decide)
      clear hle hge
      go_wp2_with fail
      refine (kaa _ e4).mono ?_
      rintro e w7 ⟨rfl, e5⟩
      go_wp2_with fail
      refine (ya _ e5).mono ?_
      rintro e w8 ⟨u, rfl, hu, e6⟩
      have e7 := e5.trans (e6.mono e5.size)
      go_wp2_with fail
      refine (yb _ e7).mono ?_
      rintro e w9 ⟨u2, rfl, hu2, e8⟩
      have e9 := e7.trans (e8.mono e7.size)
      go_wp2_with fail
      refine (cB _ u u2 (hu.later e8) hu2).mono ?_
      rintro e w10 ⟨rfl, rfl⟩
      go_wp2_with fail
      refine (works_any _ (G _ e9)).mono ?_
      rintro e w11 ⟨rfl, e10⟩
      go_wp2_with fail
      go_ret
      exact ⟨rfl, hbw.trans ((e9.trans (e10.mono e9.size)).mono hbw.size)⟩
    · obtain rfl : Z = 1 := (hge (by decide) (by decide)).trans (by decide)
      clear hle hge
      go_wp2_with fail
      refine (kaa _ e4).mono ?_
      rintro e w7 ⟨rfl, e5⟩
      go_wp2_with fail
      refine (ya _ e5).mono ?_
      rintro e w8 ⟨u, rfl, hu, e6⟩
      have e7 := e5.trans (e6.mono e5.size)
      go_wp2_with fail
      refine (yb _ e7).mono ?_
      rintro e w9 ⟨u2, rfl, hu2, e8⟩
      have e9 := e7.trans (e8.mono e7.size)
      go_wp2_with fail
      refine (cB _ u u2 (hu.later e8) hu2).mono ?_
      rintro e w10 ⟨rfl, rfl⟩
      go_wp2_with fail
      refine (works_any _ (G _ e9)).mono ?_
      rintro e w11 ⟨rfl, e10⟩
      go_wp2_with fail
      go_ret
      exact ⟨rfl, hbw.trans ((e9.trans (e10.mono e9.size)).mono hbw.size)⟩
    · clear hle hge
      go_wp2_with fail
      refine (kaa _ e4).mono ?_
      rintro e w7 ⟨rfl, e5⟩
      go_wp2_with fail
      refine (ya _ e5).mono ?_
      rintro e w8 ⟨u, rfl, hu, e6⟩
      have e7 := e5.trans (e6.mono e5.size)
      go_wp2_with fail
      refine (yb _ e7).mono ?_
      rintro e w9 ⟨u2, rfl, hu2, e8⟩
      have e9 := e7.trans (e8.mono e7.size)
      go_wp2_with fail
      refine (cB _ u u2 (hu.later e8) hu2).mono ?_
      rintro e w10 ⟨rfl, rfl⟩
      go_wp2_with fail
      refine (works_any _ (G _ e9)).mono ?_
      rintro e w11 ⟨rfl, e10⟩
      go_wp2_with fail
      go_ret
      exact ⟨rfl, hbw.trans ((e9.trans (e10.mono e9.size)).mono hbw.size)⟩
    · obtain rfl : Z = 1 := (hge (by decide) (by decide)).trans (by decide)
      clear hle hge
      go_wp2_with fail
      refine (kaa _ e4).mono ?_
      rintro e w7 ⟨rfl, e5⟩
      go_wp2_with fail
      refine (ya _ e5).mono ?_
      rintro e w8 ⟨u, rfl, hu, e6⟩
      have e7 := e5.trans (e6.mono e5.size)
      go_wp2_with fail
      refine (yb _ e7).mono ?_
      rintro e w9 ⟨u2, rfl, hu2, e8⟩
      have e9 := e7.trans (e8.mono e7.size)
      go_wp2_with fail
      refine (cB _ u u2 (hu.later e8) hu2).mono ?_
      rintro e w10 ⟨rfl, rfl⟩
      go_wp2_with fail
      refine (works_any _ (G _ e9)).mono ?_
      rintro e w11 ⟨rfl, e10⟩
      go_wp2_with fail
      go_ret
      exact ⟨rfl, hbw.trans ((e9.trans (e10.mono e9.size)).mono hbw.size)⟩
    · obtain rfl : Z = 1 := (hge (by decide) (by decide)).trans (by decide)
      clear hle hge
      go_wp2_with fail
      refine (kaa _ e4).mono ?_
      rintro e w7 ⟨rfl, e5⟩
      go_wp2_with fail
      refine (ya _ e5).mono ?_
      rintro e w8 ⟨u, rfl, hu, e6⟩
      have e7 := e5.trans (e6.mono e5.size)
      go_wp2_with fail
      refine (yb _ e7).mono ?_
      rintro e w9 ⟨u2, rfl, hu2, e8⟩
      have e9 := e7.trans (e8.mono e7.size)
      go_wp2_with fail
      refine (cB _ u u2 (hu.later e8) hu2).mono ?_
      rintro e w10 ⟨rfl, rfl⟩
      go_wp2_with fail
      refine (works_any _ (G _ e9)).mono ?_
      rintro e w11 ⟨rfl, e10⟩
      go_wp2_with fail
      go_ret
      exact ⟨rfl, hbw.trans ((e9.trans (e10.mono e9.size)).mono hbw.size)⟩
end Go.Proofs.YtgfkdfieieconaaDoor

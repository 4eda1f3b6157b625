/- The contract of chisellaw03.CollPrefixes. -/
import Derived.Test.YtgfkdfieieconaaDoorCoLight
import Derived.Test.YtgfkdfieieconaaDoorCoPos
import Derived.Test.YtgfkdfieieconaaDoorCharsPlain2
namespace Go.Proofs.YtgfkdfieieconaaDoor
open Go.RowKit Go.Lib Go.Shelf

theorem two_cells (w : World) (a b : ByteArray) (t : TypeId) : ∀ (j : Nat) s, [a, b][j]? = some s → (w.alloc (.cells #[.string a, .string b] t)).cell? ⟨w.heap.size, j, none⟩ = some (.string s) := by
  intro j s hj
  match j, hj with
  | 0, hj => cases hj; rw [cell_of_row _ _ 0 _ _ (0, 0) (heap_alloc_new _ _)]; rfl
  | 1, hj => cases hj; rw [cell_of_row _ _ 1 _ _ (0, 0) (heap_alloc_new _ _)]; rfl
  | n + 2, hj => simp at hj
theorem codes_behind (p : List Nat) (r : List UInt8) (h : ∀ c ∈ p, chr c = true) : codes (form p ++ r) = p ++ codes r := by
  induction p with
  | nil => rfl
  | cons c p ih =>
    have hc := h c (by simp)
    have hl := encode_len c
    have hne : form (c :: p) ++ r ≠ [] := by
      intro h0
      have := congrArg List.length h0
      rw [form_cons, List.length_append, List.length_append, List.length_nil] at this
      omega
    have ih' := ih (fun d hd => h d (by simp [hd]))
    unfold codes at ih' ⊢
    rw [steps_cons _ hne, form_cons, List.append_assoc, decode_encode c hc, List.drop_left, List.map_cons, ih']
    rfl
theorem prefix_le (T : Tb) (hT : Fits3 T) (a b : List UInt8) (ha : text a = true) (hab : text (a ++ b) = true) : cmpL (keyL T a) (keyL T (a ++ b)) ≤ 0 := by
  unfold keyL
  rw [if_pos ha, if_pos hab]
  have e : codes (a ++ b) = codes a ++ codes b := by
    have := codes_behind (codes a) b (text_chr a ha)
    rwa [form_codes a ha] at this
  have hb : ∀ c ∈ codes b, c ≤ 1114111 := by
    intro c hc
    have h1 := text_chr (a ++ b) hab c (by rw [e]; exact List.mem_append_right _ hc)
    rw [chr_iff] at h1
    omega
  rw [e]
  exact key_prefix T hT _ _ hb
theorem parse_somePos (s : ByteArray) (w : World) (hg : GrC w) :
    Calls Tryd.prog 13 #[.string s] w fun e w' => ∃ (o : Option Addr) (n k : Int) (T : Tb), e = .returned (.tuple #[.pointer o, .int .i64 n, .int .i64 k]) ∧ TabAt w' (.pointer o) T ∧ TabSmall T ∧ Fits3 T ∧ Below w.heap.size w w' := by
  cases h : parseL s.data.toList with
  | ok T =>
    refine (parse_ok s T w hg h).mono ?_
    rintro e w' ⟨p, rfl, h1, h2, hb⟩
    exact ⟨_, _, _, T, rfl, h1, h2, fits_of T (parse_pos _ _ h) h2.1 (fun c x hx => (h2.2.2 c x hx).1), hb⟩
  | error x =>
    refine (parse_bad s x.1 x.2 w hg h).mono ?_
    rintro e w' ⟨rfl, hb⟩
    have hs : TabSmall ⟨[], 0, 0⟩ := ⟨by decide, by decide, fun c x h => by cases h⟩
    exact ⟨none, _, _, ⟨[], 0, 0⟩, rfl, .inl ⟨rfl, rfl⟩, hs, fits_of _ (fun x hx => by cases hx) (by decide) (fun c x hx => by cases hx), hb⟩
set_option maxHeartbeats 4000000 in
set_option maxRecDepth 100000 in
theorem prefixes_any (t a b : ByteArray) (w : World) (hg : GrC w) (ha : a.size ≤ 9223372036854775807) (hb : b.size ≤ 9223372036854775807) :
    Calls Tryd.prog 6 #[.string t, .string a, .string b] w fun e w' => e = .returned (.bool true) ∧ Below w.heap.size w w' := by
  obtain ⟨W1, hW1⟩ : ∃ W1, w.alloc (.cells #[.string a, .string b] 9) = W1 := ⟨_, rfl⟩
  have hb1 : Below w.heap.size w W1 := by rw [← hW1]; exact (Below.refl _ _).alloc (Nat.le_refl _) _
  have cL := light_any t w.heap.size 2 [a, b] rfl (by omega) W1 (by rw [← hW1]; exact two_cells w a b _)
  have hg1 := hg.later hb1
  cases hl : lightL t [a, b] with
  | false =>
    rw [hl] at cL
    go_enter Tryd.func6, Tryd.ntmps6
    go_wp2_with fail
    refine cL.mono ?_
    rintro e w2 ⟨rfl, rfl⟩
    go_wp2_with fail
    refine (works_any w2 hg1).mono ?_
    rintro e w3 ⟨rfl, hb3⟩
    go_wp2_with fail
    go_ret
    exact ⟨rfl, hb1.trans (hb3.mono hb1.size)⟩
  | true =>
    rw [hl] at cL
    have hsz : a.size ≤ 200 ∧ b.size ≤ 200 := by
      unfold lightL at hl
      simp at hl
      omega
    have cT1 := fun W (hW : Gr W) => isText_any a W ha hW
    have cT2 := fun W (hW : Gr W) => isText_any (a ++ b) W (by rw [ByteArray.size_append]; omega) hW
    cases h1 : text a.data.toList with
    | false =>
      rw [h1] at cT1
      go_enter Tryd.func6, Tryd.ntmps6
      go_wp2_with fail
      refine cL.mono ?_
      rintro e w2 ⟨rfl, rfl⟩
      go_wp2_with fail
      refine (cT1 w2 hg1.gr).mono ?_
      rintro e w3 ⟨rfl, hb3⟩
      have hbw3 := hb1.trans (hb3.mono hb1.size)
      go_wp2_with fail
      refine (works_any w3 (hg.later hbw3)).mono ?_
      rintro e w4 ⟨rfl, hb4⟩
      go_wp2_with fail
      go_ret
      exact ⟨rfl, hbw3.trans (hb4.mono hbw3.size)⟩
    | true =>
      rw [h1] at cT1
      cases h2 : text (a ++ b).data.toList with
      | false =>
        rw [h2] at cT2
        go_enter Tryd.func6, Tryd.ntmps6
        go_wp2_with fail
        refine cL.mono ?_
        rintro e w2 ⟨rfl, rfl⟩
        go_wp2_with fail
        refine (cT1 w2 hg1.gr).mono ?_
        rintro e w3 ⟨rfl, hb3⟩
        have hbw3 := hb1.trans (hb3.mono hb1.size)
        go_wp2_with fail
        refine (cT2 w3 (hg.later hbw3).gr).mono ?_
        rintro e w4 ⟨rfl, hb4⟩
        have hbw4 := hbw3.trans (hb4.mono hbw3.size)
        go_wp2_with fail
        refine (works_any w4 (hg.later hbw4)).mono ?_
        rintro e w5 ⟨rfl, hb5⟩
        go_wp2_with fail
        go_ret
        exact ⟨rfl, hbw4.trans (hb5.mono hbw4.size)⟩
      | true =>
        rw [h2] at cT2
        go_enter Tryd.func6, Tryd.ntmps6
        go_wp2_with fail
        refine cL.mono ?_
        rintro e w2 ⟨rfl, rfl⟩
        go_wp2_with fail
        refine (cT1 w2 hg1.gr).mono ?_
        rintro e w3 ⟨rfl, hb3⟩
        have hbw3 := hb1.trans (hb3.mono hb1.size)
        go_wp2_with fail
        refine (cT2 w3 (hg.later hbw3).gr).mono ?_
        rintro e w4 ⟨rfl, hb4⟩
        have hbw4 := hbw3.trans (hb4.mono hbw3.size)
        go_wp2_with fail
        refine (parse_somePos t w4 (hg.later hbw4)).mono ?_
        rintro e w5 ⟨o, n, k, T, rfl, hT, hS, hF, hb5⟩
        have hbw5 := hbw4.trans (hb5.mono hbw4.size)
        have cC := compare_any (.pointer o) a (a ++ b) T w5 (hg.later hbw5).gr (by omega) (by rw [ByteArray.size_append]; omega) hT hS
        have hle : cmpL (keyL T a.data.toList) (keyL T (a ++ b).data.toList) ≤ 0 := by
          rw [ByteArray.data_append, Array.toList_append] at h2 ⊢
          exact prefix_le T hF _ _ h1 h2
        generalize cmpL (keyL T a.data.toList) (keyL T (a ++ b).data.toList) = X at cC hle
        go_wp2_with fail
        refine cC.mono ?_
        rintro e w6 ⟨rfl, hb6⟩
        have hbw6 := hbw5.trans (hb6.mono hbw5.size)
        go_wp2_with fail
        refine (works_any w6 (hg.later hbw6)).mono ?_
        rintro e w7 ⟨rfl, hb7⟩
        go_wp2_with fail
        go_ret
        exact ⟨rfl, hbw6.trans (hb7.mono hbw6.size)⟩
end Go.Proofs.YtgfkdfieieconaaDoor

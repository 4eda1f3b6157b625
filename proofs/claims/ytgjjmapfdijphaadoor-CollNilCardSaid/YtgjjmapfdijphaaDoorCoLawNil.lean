/- The contract of chisellaw03.CollNil. -/
import Derived.Test.YtgjjmapfdijphaaDoorCoTwo
import Derived.Test.YtgjjmapfdijphaaDoorCoUtf
namespace Go.Proofs.YtgjjmapfdijphaaDoor
open Go.RowKit Go.Lib Go.Shelf

def nilT : Tb := ⟨[], 0, 0⟩
def oneT : Tb := ⟨[], 0, 1⟩
theorem nil_small : TabSmall nilT := ⟨by decide, by decide, fun c x h => by cases h⟩
/-- What the law's round stands on. -/
def NilI (B : Nat) (p : Addr) (W : World) : Prop :=
  (∀ i : Nat, i < 2 → ∃ o, W.cell? ⟨B, i, none⟩ = some (.pointer o) ∧ TabAt W (.pointer o) nilT) ∧ TabAt W (.pointer (some p)) oneT ∧ B < W.heap.size
theorem NilI.later {B : Nat} {p : Addr} {W W' : World} (h : NilI B p W) (hb : Below W.heap.size W W') : NilI B p W' := by
  obtain ⟨h1, h2, h3⟩ := h
  refine ⟨fun i hi => ?_, h2.later hb, Nat.lt_of_lt_of_le h3 hb.size⟩
  obtain ⟨o, h4, h5⟩ := h1 i hi
  exact ⟨o, (hb.cell (p := ⟨B, i, none⟩) h3).trans h4, h5.later hb⟩
theorem new_tab (w : World) : TabAt (w.alloc (.cells #[.map none, .int .i64 0, .int .i64 0] 44)) (.pointer (some ⟨w.heap.size, 0, none⟩)) nilT :=
  .inr ⟨_, _, rfl, heap_alloc_new _ _, .inl ⟨rfl, rfl⟩⟩
set_option maxHeartbeats 4000000 in
set_option maxRecDepth 100000 in
theorem nil_any (a b : ByteArray) (w : World) (hg : GrC w) (ha : a.size ≤ 9223372036854775807) :
    Calls Tryd.prog 6 #[.string a, .string b] w fun e w' => e = .returned (.bool true) ∧ Below w.heap.size w w' := by
  obtain ⟨W1, hW1⟩ : ∃ W1, w.alloc (.cells #[.string a, .string b] 9) = W1 := ⟨_, rfl⟩
  have hb1 : Below w.heap.size w W1 := by rw [← hW1]; exact (Below.refl _ _).alloc (Nat.le_refl _) _
  have cL := light_any ⟨#[]⟩ w.heap.size 2 [a, b] rfl (by omega) W1 (by rw [← hW1]; exact two_cells w a b _)
  have hg1 := hg.later hb1
  cases hl : lightL ⟨#[]⟩ [a, b] with
  | false =>
    rw [hl] at cL
    go_enter Tryd.func6, Tryd.ntmps6
    go_wp2_with fail
    refine cL.mono ?_
    rintro e w2 ⟨rfl, rfl⟩
    go_wp2_with fail
    refine (works_any w2 hg1).mono ?_
    rintro e w3 ⟨rfl, hb3⟩
    go_wp2_with fail
    go_ret
    exact ⟨rfl, hb1.trans (hb3.mono hb1.size)⟩
  | true =>
    rw [hl] at cL
    have hsz : a.size ≤ 200 ∧ b.size ≤ 200 := by
      unfold lightL at hl
      simp at hl
      omega
    have cP := fun W hg => parse_ok ⟨#[115, 116, 114, 101, 110, 103, 116, 104, 32, 49]⟩ oneT W hg one_parse
    have G : ∀ W, Below w.heap.size w W → GrC W := fun W hW => hg.later hW
    have KY : ∀ W (v : Value) (T : Tb), Below w.heap.size w W → TabAt W v T → TabSmall T → Calls Tryd.prog 15 #[v, .string a] W fun e w' => ∃ u, e = .returned u ∧ BytesV w' u (keyL T a.data.toList) ∧ Below W.heap.size W w' := fun W v T hW hT hS =>
      key_any v a T W (G W hW).gr (by omega) hT hS
    have KC : ∀ W (v : Value) (T : Tb), Below w.heap.size w W → TabAt W v T → TabSmall T → Calls Tryd.prog 12 #[v, .string a, .string b] W fun e w' => e = .returned (.int .i64 (cmpL (keyL T a.data.toList) (keyL T b.data.toList))) ∧ Below W.heap.size W w' := fun W v T hW hT hS =>
      compare_any v a b T W (G W hW).gr (by omega) (by omega) hT hS
    have hsn := nil_small
    go_enter Tryd.func6, Tryd.ntmps6
    go_wp2_with fail
    refine cL.mono ?_
    rintro e w2 ⟨rfl, rfl⟩
    go_wp2_with fail
    refine (cP _ hg1).mono ?_
    rintro e w3 ⟨p, rfl, hT, hS, hb3⟩
    go_wp2_with fail
    obtain ⟨W4, hW4⟩ : ∃ W4, ((w3.alloc (.cells #[.map none, .int .i64 0, .int .i64 0] 44)).alloc (.cells #[.pointer none, .pointer (some ⟨w3.heap.size, 0, none⟩)] 24)) = W4 := ⟨_, rfl⟩
    have hb4 : Below w3.heap.size w3 W4 := by rw [← hW4]; exact ((Below.refl _ _).alloc (Nat.le_refl _) _).alloc (by simp) _
    have hI : NilI (w3.heap.size + 1) ⟨p, 0, none⟩ W4 := by
      rw [← hW4]
      refine ⟨fun i hi => ?_, (hT.later ((Below.refl _ _).alloc (Nat.le_refl _) _)).later ((Below.refl _ _).alloc (Nat.le_refl _) _), by simp⟩
      match i, hi with
      | 0, _ => exact ⟨none, by rw [cell_of_row _ _ 0 _ _ (0, 0) (by have := heap_alloc_new (w3.alloc (.cells #[.map none, .int .i64 0, .int .i64 0] 44)) (.cells #[.pointer none, .pointer (some ⟨w3.heap.size, 0, none⟩)] 24); rwa [World.size_alloc] at this)]; rfl, .inl ⟨rfl, rfl⟩⟩
      | 1, _ => exact ⟨_, by rw [cell_of_row _ _ 1 _ _ (0, 0) (by have := heap_alloc_new (w3.alloc (.cells #[.map none, .int .i64 0, .int .i64 0] 44)) (.cells #[.pointer none, .pointer (some ⟨w3.heap.size, 0, none⟩)] 24); rwa [World.size_alloc] at this)]; rfl, (new_tab w3).later ((Below.refl _ _).alloc (Nat.le_refl _) _)⟩
    rw [hW4]
    have hbw : Below w.heap.size w W4 := (hb1.trans (hb3.mono hb1.size)).trans (hb4.mono (hb1.trans (hb3.mono hb1.size)).size)
    obtain ⟨B, hB⟩ : ∃ B, w3.heap.size + 1 = B := ⟨_, rfl⟩
    rw [hB] at hI ⊢
    have cT := fun W (hW : Below w.heap.size w W) => isText_any a W ha (G W hW).gr
    have hkl := key_one_empty a.data.toList
    have hke := key_nil_one a.data.toList
    have hkb := key_nil_one b.data.toList
    have hemp : a.data.toList.isEmpty = decide (a.data.toList = []) := by cases a.data.toList <;> rfl
    clear hW4 hB hb4 hT hb3 hW1 hg1 cL cP hl
    go_loopg [28] 2 (fun g s28 wx => ∃ i : Nat, s28 = .int .i64 i ∧ i + g = 2 ∧ NilI B ⟨p, 0, none⟩ wx ∧ Below w.heap.size w wx)
    case atStart => exact ⟨0, rfl, by omega, hI, hbw⟩
    case round =>
      clear hI hbw
      obtain ⟨i, rfl, hig, HI, hbx⟩ := hrel
      by_cases hlt : i < 2
      · obtain ⟨g, rfl⟩ : ∃ g, gk = g + 1 := ⟨gk - 1, by omega⟩
        obtain ⟨o, hc, hTu⟩ := HI.1 i hlt
        have hil : (i : Int) < 2 := by omega
        have k1 := KY wr (.pointer o) nilT hbx hTu hsn
        go_wp2_with fail
        refine k1.mono ?_
        rintro e w5 ⟨u1, rfl, hu1, hb5⟩
        have hbw5 := hbx.trans (hb5.mono hbx.size)
        have HI5 := HI.later hb5
        go_wp2_with fail
        refine (KY w5 (.pointer (some ⟨p, 0, none⟩)) oneT hbw5 HI5.2.1 hS).mono ?_
        rintro e w6 ⟨u2, rfl, hu2, hb6⟩
        have hbw6 := hbw5.trans (hb6.mono hbw5.size)
        have HI6 := HI5.later hb6
        have cE := bytesEqual_any u1 u2 _ _ w6 (hu1.later hb6) hu2
        rw [show decide (keyL nilT a.data.toList = keyL oneT a.data.toList) = true from decide_eq_true hke] at cE
        go_wp2_with fail
        refine cE.mono ?_
        rintro e w6' ⟨rfl, rfl⟩
        go_wp2_with fail
        refine (KC w6 (.pointer o) nilT hbw6 ((hTu.later hb5).later hb6) hsn).mono ?_
        rintro e w7 ⟨rfl, hb7⟩
        have hbw7 := hbw6.trans (hb7.mono hbw6.size)
        have HI7 := HI6.later hb7
        go_wp2_with fail
        refine (KC w7 (.pointer (some ⟨p, 0, none⟩)) oneT hbw7 HI7.2.1 hS).mono ?_
        rintro e w8 ⟨rfl, hb8⟩
        have hbw8 := hbw7.trans (hb8.mono hbw7.size)
        have HI8 := HI7.later hb8
        have hsame : cmpL (keyL nilT a.data.toList) (keyL nilT b.data.toList) = cmpL (keyL oneT a.data.toList) (keyL oneT b.data.toList) := rfl
        rw [hsame]
        generalize cmpL (keyL oneT a.data.toList) (keyL oneT b.data.toList) = X
        go_wp2_with fail
        go_roundg g
        case rel => exact ⟨i + 1, by congr 1, by omega, HI8, hbw8⟩
        all_goals omega
      · have hil : ¬ (i : Int) < 2 := by omega
        have k1 := KY wr (.pointer (some ⟨p, 0, none⟩)) oneT hbx HI.2.1 hS
        have hkn : decide ((keyL oneT a.data.toList).length = 0) = (decide (a.data.toList = []) || !text a.data.toList) := by rw [← hemp]; exact hkl
        have G2 := hbx
        have cT2 := fun W hW => (cT W hW)
        clear hkl hke hkb KC KY HI cT hemp
        obtain ⟨n, hn⟩ : ∃ n, (keyL oneT a.data.toList).length = n := ⟨_, rfl⟩
        rw [hn] at hkn
        by_cases h0 : a.data.toList = []
        · have b1 : (a.toList == []) = true := by rw [ba_beq a [], decide_eq_true_iff]; exact h0
          have n0 : n = 0 := by simpa [h0] using hkn
          subst n0
          clear hkn
          go_wp2_with fail
          refine k1.mono ?_
          rintro e w5 ⟨u, rfl, ⟨pa, cap, rfl, _, _⟩, hb5⟩
          have hbw5 := hbx.trans (hb5.mono hbx.size)
          rw [hn]
          go_wp2_with fail
          refine (works_any w5 (G w5 hbw5)).mono ?_
          rintro e w6 ⟨rfl, hb6⟩
          go_wp2_with fail
          go_ret
          exact ⟨rfl, hbw5.trans (hb6.mono hbw5.size)⟩
        · have b1 : (a.toList == []) = false := by rw [ba_beq a [], decide_eq_false_iff_not]; exact h0
          cases ht : text a.data.toList with
          | false =>
            have n0 : n = 0 := by simpa [h0, ht] using hkn
            subst n0
            rw [ht] at cT2
            clear hkn
            go_wp2_with fail
            refine k1.mono ?_
            rintro e w5 ⟨u, rfl, ⟨pa, cap, rfl, _, _⟩, hb5⟩
            have hbw5 := hbx.trans (hb5.mono hbx.size)
            rw [hn]
            go_wp2_with fail
            refine (cT2 w5 hbw5).mono ?_
            rintro e w6 ⟨rfl, hb6⟩
            have hbw6 := hbw5.trans (hb6.mono hbw5.size)
            go_wp2_with fail
            refine (works_any w6 (G w6 hbw6)).mono ?_
            rintro e w7 ⟨rfl, hb7⟩
            go_wp2_with fail
            go_ret
            exact ⟨rfl, hbw6.trans (hb7.mono hbw6.size)⟩
          | true =>
            have n0 : ¬ n = 0 := by simpa [h0, ht] using hkn
            have n1 : ¬ (n : Int) = 0 := by omega
            rw [ht] at cT2
            clear hkn
            go_wp2_with fail
            refine k1.mono ?_
            rintro e w5 ⟨u, rfl, ⟨pa, cap, rfl, _, _⟩, hb5⟩
            have hbw5 := hbx.trans (hb5.mono hbx.size)
            rw [hn]
            go_wp2_with fail
            refine (cT2 w5 hbw5).mono ?_
            rintro e w6 ⟨rfl, hb6⟩
            have hbw6 := hbw5.trans (hb6.mono hbw5.size)
            go_wp2_with fail
            refine (works_any w6 (G w6 hbw6)).mono ?_
            rintro e w7 ⟨rfl, hb7⟩
            go_wp2_with fail
            go_ret
            have nb : ((n : Int) == 0) = false := by rw [beq_eq_false_iff_ne]; exact n1
            refine ⟨?_, hbw6.trans (hb7.mono hbw6.size)⟩
            show Ending.returned (.bool (!((n : Int) == 0))) = _
            rw [nb]; rfl
end Go.Proofs.YtgjjmapfdijphaaDoor

/- The contracts of the library's ParseUint as package coll calls it, and of coll.numbered and coll.character. -/
import Derived.Test.YtgjjmapfdijphaaDoorCoNum
import Derived.Test.YtgjjmapfdijphaaDoorCharsFrom
import Derived.Test.YtgjjmapfdijphaaDoorConvRunes
import Derived.Test.YtgjjmapfdijphaaDoorCharsPlain5
namespace Go.Proofs.YtgjjmapfdijphaaDoor
open Go.RowKit Go.Lib

/-- What package coll leans on in memory: that of chars, and the library's two errors. -/
structure GrC (w : World) : Prop where
  gr : Gr w
  syn : ∃ ev, w.cell? ⟨3, 0, none⟩ = some ev ∧ (ev = .nilIface ∨ ∃ te pe, ev = .iface te pe)
  rng : ∃ ev, w.cell? ⟨4, 0, none⟩ = some ev ∧ (ev = .nilIface ∨ ∃ te pe, ev = .iface te pe)
theorem GrC.later {w w' : World} (h : GrC w) (hb : Below w.heap.size w w') : GrC w' := by
  refine ⟨h.gr.later hb, ?_, ?_⟩
  · obtain ⟨ev, h1, h2⟩ := h.syn
    exact ⟨ev, (hb.cell (lt_of_cell h1)).trans h1, h2⟩
  · obtain ⟨ev, h1, h2⟩ := h.rng
    exact ⟨ev, (hb.cell (lt_of_cell h1)).trans h1, h2⟩
theorem puGo_err : ∀ (l : List UInt8) (n : Nat), ((puGo n l).2 = 0 ∨ (puGo n l).2 = 1 ∨ (puGo n l).2 = 2) ∧ (n ≤ 4294967295 → (puGo n l).1 ≤ 4294967295)
  | [], n => ⟨.inl rfl, fun h => h⟩
  | b :: t, n => by
    unfold puGo
    cases hexV b with
    | none => exact ⟨.inr (.inr rfl), fun _ => by simp⟩
    | some d =>
      simp only
      split
      · exact ⟨.inr (.inl rfl), fun _ => Nat.le_refl _⟩
      · exact ⟨(puGo_err t _).1, fun _ => (puGo_err t _).2 (by omega)⟩
theorem puL_err (l : List UInt8) : ((puL l).2 = 0 ∨ (puL l).2 = 1 ∨ (puL l).2 = 2) ∧ (puL l).1 ≤ 4294967295 := by
  unfold puL
  split
  · exact ⟨.inr (.inr rfl), by simp⟩
  · exact ⟨(puGo_err l 0).1, (puGo_err l 0).2 (by omega)⟩
/-- What the public ParseUint hands back. -/
def PuGives (w : World) (x : Nat × Nat) (e : Ending) (w' : World) : Prop :=
  (∃ ev, e = .returned (.tuple #[.int .u64 (x.1 : Int), ev]) ∧ ((x.2 = 0 ∧ ev = .nilIface) ∨ (x.2 ≠ 0 ∧ ∃ te pe, ev = .iface te pe))) ∧ Below w.heap.size w w'
set_option maxHeartbeats 2000000 in
set_option maxRecDepth 100000 in
theorem parseUint_any (s : ByteArray) (w : World) (hg : GrC w) (hs : s.size ≤ 4000000) :
    Calls Tryd.prog 91 #[.string s, .int .i64 16, .int .i64 32] w (PuGives w (puL s.data.toList)) := by
  have c1 := pu_any s w hs
  obtain ⟨he, _⟩ := puL_err s.data.toList
  obtain ⟨⟨x, k⟩, hx⟩ : ∃ x, puL s.data.toList = x := ⟨_, rfl⟩
  rw [hx] at c1 he ⊢
  clear hx
  simp only at he
  have cS : ∀ W, GrC W → Calls Tryd.prog 96 #[.string ⟨#[80, 97, 114, 115, 101, 85, 105, 110, 116]⟩, .string s, .int .i64 16, .int .i64 32, .iface 143 (.int .i64 2)] W fun e w' => (∃ N, e = .returned (.iface 145 (.pointer (some ⟨N, 0, none⟩)))) ∧ Below W.heap.size W w' := fun W hW => by
    obtain ⟨ev, h1, h2⟩ := hW.syn
    refine (Tryd.strconv_toError_syntax ⟨#[80, 97, 114, 115, 101, 85, 105, 110, 116]⟩ s 16 32 ev W (by omega) h1 h2).mono ?_
    rintro e w' ⟨N, rfl, _, _, hb⟩
    exact ⟨⟨N, rfl⟩, hb⟩
  have cR : ∀ W, GrC W → Calls Tryd.prog 96 #[.string ⟨#[80, 97, 114, 115, 101, 85, 105, 110, 116]⟩, .string s, .int .i64 16, .int .i64 32, .iface 143 (.int .i64 1)] W fun e w' => (∃ N, e = .returned (.iface 145 (.pointer (some ⟨N, 0, none⟩)))) ∧ Below W.heap.size W w' := fun W hW => by
    obtain ⟨ev, h1, h2⟩ := hW.rng
    refine (Tryd.strconv_toError_range ⟨#[80, 97, 114, 115, 101, 85, 105, 110, 116]⟩ s 16 32 ev W (by omega) h1 h2).mono ?_
    rintro e w' ⟨N, rfl, _, _, hb⟩
    exact ⟨⟨N, rfl⟩, hb⟩
  rcases he with rfl | rfl | rfl
  · go_enter Tryd.func91, Tryd.ntmps91
    have c1 : Calls Tryd.prog 95 #[.string s, .int .i64 16, .int .i64 32] w fun e w' => e = .returned (.tuple #[.int .u64 (x : Int), .nilIface]) ∧ Below w.heap.size w w' := c1
    go_wp2_with fail
    refine c1.mono ?_
    rintro e w1 ⟨rfl, hb⟩
    go_wp2_with fail
    go_ret2
    exact ⟨⟨_, rfl, .inl ⟨rfl, rfl⟩⟩, hb⟩
  · go_enter Tryd.func91, Tryd.ntmps91
    have c1 : Calls Tryd.prog 95 #[.string s, .int .i64 16, .int .i64 32] w fun e w' => e = .returned (.tuple #[.int .u64 (x : Int), .iface 143 (.int .i64 1)]) ∧ Below w.heap.size w w' := c1
    go_wp2_with fail
    refine c1.mono ?_
    rintro e w1 ⟨rfl, hb⟩
    have c2 := cR w1 (hg.later hb)
    clear cR cS c1
    go_wp2_with fail
    refine c2.mono ?_
    rintro e w2 ⟨⟨N, rfl⟩, hb2⟩
    go_wp2_with fail
    go_ret2
    exact ⟨⟨_, rfl, .inr ⟨(fun h => by cases h), _, _, rfl⟩⟩, hb.trans (hb2.mono hb.size)⟩
  · go_enter Tryd.func91, Tryd.ntmps91
    have c1 : Calls Tryd.prog 95 #[.string s, .int .i64 16, .int .i64 32] w fun e w' => e = .returned (.tuple #[.int .u64 (x : Int), .iface 143 (.int .i64 2)]) ∧ Below w.heap.size w w' := c1
    go_wp2_with fail
    refine c1.mono ?_
    rintro e w1 ⟨rfl, hb⟩
    have c2 := cS w1 (hg.later hb)
    clear cR cS c1
    go_wp2_with fail
    refine c2.mono ?_
    rintro e w2 ⟨⟨N, rfl⟩, hb2⟩
    go_wp2_with fail
    go_ret2
    exact ⟨⟨_, rfl, .inr ⟨(fun h => by cases h), _, _, rfl⟩⟩, hb.trans (hb2.mono hb.size)⟩
theorem hexV_lt (b : UInt8) (d : Nat) (h : hexV b = some d) : d ≤ 15 := by
  unfold hexV at h
  split at h
  · cases h; omega
  · split at h
    · cases h; omega
    · split at h
      · cases h; omega
      · cases h
theorem puGo_hexN : ∀ (l : List UInt8) (n : Nat), (n + 1) * 16 ^ l.length ≤ 4294967296 → puGo n l = match hexN n l with
    | some m => (m, 0)
    | none => (0, 2)
  | [], n, _ => rfl
  | b :: t, n, h => by
    unfold puGo hexN
    cases hb : hexV b with
    | none => rfl
    | some d =>
      have hd := hexV_lt b d hb
      simp only
      rw [List.length_cons, Nat.pow_succ] at h
      have h1 : (16 * n + d + 1) * 16 ^ t.length ≤ (n + 1) * (16 ^ t.length * 16) := by
        have : (16 * n + d + 1) * 16 ^ t.length ≤ (16 * (n + 1)) * 16 ^ t.length := Nat.mul_le_mul_right _ (by omega)
        have e : (16 * (n + 1)) * 16 ^ t.length = (n + 1) * (16 ^ t.length * 16) := by
          rw [Nat.mul_comm 16 (n + 1), Nat.mul_assoc, Nat.mul_comm 16]
        omega
      have h2 : 1 ≤ 16 ^ t.length := Nat.pow_pos (by decide)
      have h3 : 16 * n + d + 1 ≤ (16 * n + d + 1) * 16 ^ t.length := Nat.le_mul_of_pos_right _ h2
      rw [if_neg (by omega)]
      exact puGo_hexN t _ (by omega)
/-- What numbered hands back. -/
def chV : Option Nat → Value
  | some c => .tuple #[.int .i32 (c : Int), .bool true]
  | none => .tuple #[.int .i32 0, .bool false]
theorem numL_pu (d : List UInt8) : numL d = if (puL d).2 ≠ 0 ∨ 6 < d.length then none else if chr (puL d).1 = true then some (puL d).1 else none := by
  unfold numL
  by_cases h0 : d = []
  · subst h0; rfl
  · by_cases h6 : 6 < d.length
    · rw [if_pos (.inr h6), if_pos (.inr h6)]
    · have hp : puL d = puGo 0 d := by unfold puL; rw [if_neg h0]
      have hl : (0 + 1) * 16 ^ d.length ≤ 4294967296 := by
        have : 16 ^ d.length ≤ 16 ^ 6 := Nat.pow_le_pow_right (by decide) (by omega)
        have e : (16 : Nat) ^ 6 = 16777216 := by decide
        omega
      rw [if_neg (by simp [h0]; omega), hp, puGo_hexN d 0 hl]
      cases hexN 0 d with
      | none => simp
      | some m => simp [h6]
theorem ints_one (w : World) (z : Int) (t : TypeId) : Ints (w.alloc (.cells #[.int .i64 z] t)) (.slice (some ⟨w.heap.size, 0, none⟩) 1 1) [z] := by
  refine .inr ⟨w.heap.size, 0, 1, rfl, fun j y hj => ?_⟩
  rw [Nat.zero_add, cell_of_row _ w.heap.size j _ _ (0, 0) (heap_alloc_new w _)]
  have : j = 0 := by
    have := (List.getElem?_eq_some_iff.1 hj).1
    simp at this; exact this
  subst this
  simp at hj
  subst hj; rfl
set_option maxHeartbeats 2000000 in
set_option maxRecDepth 100000 in
theorem numbered_any (s : ByteArray) (w : World) (hg : GrC w) (hs : s.size ≤ 4000000) :
    Calls Tryd.prog 85 #[.string s] w fun e w' => e = .returned (chV (numL s.data.toList)) ∧ Below w.heap.size w w' := by
  have c1 := parseUint_any s w hg hs
  rw [numL_pu]
  obtain ⟨_, hx1⟩ := puL_err s.data.toList
  obtain ⟨⟨x, k⟩, hx⟩ : ∃ x, puL s.data.toList = x := ⟨_, rfl⟩
  rw [hx] at c1 hx1 ⊢
  clear hx
  unfold PuGives at c1
  simp only at c1 hx1 ⊢
  by_cases hk : k = 0
  · subst hk
    by_cases h6 : 6 < s.data.toList.length
    · rw [if_pos (.inr h6)]
      rw [← size_eq] at h6
      have h6' : (6 : Int) < (s.size : Int) := by omega
      go_enter Tryd.func85, Tryd.ntmps85
      go_wp2_with fail
      refine c1.mono ?_
      rintro e w1 ⟨⟨ev, rfl, h⟩, hb⟩
      rcases h with ⟨_, rfl⟩ | ⟨h, _⟩
      · go_wp2_with fail
        go_ret2
        exact ⟨rfl, hb⟩
      · exact absurd rfl h
    · rw [if_neg (fun h => h.elim (fun h => h rfl) h6)]
      rw [← size_eq] at h6
      have h6' : ¬ (6 : Int) < (s.size : Int) := by omega
      have c2 := fun W => from_any _ [(x : Int)] (World.alloc W (.cells #[.int .i64 (x : Int)] 3)) (ints_one W _ _) (by simp) (fun z hz => by simp at hz; omega)
      unfold fromV at c2
      rw [show [(x : Int)].all chrZ = chr x by simp [chrZ_nat]] at c2
      cases hc : chr x
      · rw [hc] at c2
        simp only [Bool.false_eq_true, if_false] at c2 ⊢
        go_enter Tryd.func85, Tryd.ntmps85
        go_wp2_with fail
        refine c1.mono ?_
        rintro e w1 ⟨⟨ev, rfl, h⟩, hb⟩
        rcases h with ⟨_, rfl⟩ | ⟨h, _⟩
        · have c3 := c2 w1
          clear c2 c1
          go_wp2_with fail
          refine c3.mono ?_
          rintro e w2 ⟨rfl, hb2⟩
          go_wp2_with fail
          go_ret2
          exact ⟨rfl, (hb.alloc hb.size _).trans (hb2.mono (by have := hb.size; simp; omega))⟩
        · exact absurd rfl h
      · rw [hc] at c2
        simp only [if_true] at c2 ⊢
        have hx2 : x ≤ 1114111 := by rw [chr_iff] at hc; omega
        generalize (formZ [(x : Int)]) = F at c2
        go_enter Tryd.func85, Tryd.ntmps85
        go_wp2_with fail
        refine c1.mono ?_
        rintro e w1 ⟨⟨ev, rfl, h⟩, hb⟩
        rcases h with ⟨_, rfl⟩ | ⟨h, _⟩
        · have c3 := c2 w1
          clear c2 c1
          go_wp2_with fail
          refine c3.mono ?_
          rintro e w2 ⟨rfl, hb2⟩
          go_wp2_with fail
          go_ret2
          exact ⟨rfl, (hb.alloc hb.size _).trans (hb2.mono (by have := hb.size; simp; omega))⟩
        · exact absurd rfl h
  · rw [if_pos (.inl hk)]
    go_enter Tryd.func85, Tryd.ntmps85
    go_wp2_with fail
    refine c1.mono ?_
    rintro e w1 ⟨⟨ev, rfl, h⟩, hb⟩
    rcases h with ⟨h, _⟩ | ⟨_, te, pe, rfl⟩
    · exact absurd h hk
    · go_wp2_with fail
      go_ret2
      exact ⟨rfl, hb⟩
end Go.Proofs.YtgjjmapfdijphaaDoor

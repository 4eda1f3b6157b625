/- The contract of chars.From. -/
import Derived.Test.YtgjjmapfdijphaaDoorCharsPoints
import Derived.BigCall
namespace Go.Proofs.YtgjjmapfdijphaaDoor
open Go.RowKit Go.Lib

/-- A value is a slice of ints that reads as zs in w. -/
def Ints (w : World) (v : Value) (zs : List Int) : Prop :=
  (∃ a cap, v = .slice a 0 cap ∧ zs = []) ∨ ∃ b off cap, v = .slice (some ⟨b, off, none⟩) zs.length cap ∧ ∀ (j : Nat) z, zs[j]? = some z → w.cell? ⟨b, off + j, none⟩ = some (.int .i64 z)
theorem Ints.later {w w' : World} {v : Value} {zs : List Int} (h : Ints w v zs) (hb : Below w.heap.size w w') : Ints w' v zs := by
  rcases h with h | ⟨b, off, cap, rfl, hc⟩
  · exact .inl h
  · refine .inr ⟨b, off, cap, rfl, fun j z hj => (hb.cell ?_).trans (hc j z hj)⟩
    have := hc j z hj
    rcases Nat.lt_or_ge b w.heap.size with h' | h'
    · exact h'
    · simp [World.cell?, Array.getElem?_eq_none h'] at this
theorem Ints.own {w : World} {B n : Nat} {v : Value} {p : List Nat} (h : w.ownsRow B 3 1 v n (intCells p)) (hn : n = p.length) : Ints w v (p.map fun (c : Nat) => (c : Int)) := by
  subst hn
  rcases h.2 with ⟨rfl, h0⟩ | ⟨g, cap, cur, rfl, _⟩
  · refine .inl ⟨none, 0, rfl, ?_⟩
    have : p = [] := List.eq_nil_of_length_eq_zero h0
    subst this; rfl
  · refine .inr ⟨g, 0, cap, by rw [List.length_map], fun j z hj => ?_⟩
    rw [List.getElem?_map] at hj
    have hjl : j < p.length := by
      rcases Nat.lt_or_ge j p.length with h' | h'
      · exact h'
      · rw [List.getElem?_eq_none h'] at hj; cases hj
    rw [Nat.zero_add, h.cellAt j (by omega)]
    unfold intCells
    rw [List.getElem?_map, List.getElem?_eq_getElem hjl] at *
    simp only [Option.map_some, Option.some.injEq] at hj ⊢
    rw [hj]

def formZ (zs : List Int) : List UInt8 := zs.flatMap encodeRune
theorem formZ_nat (p : List Nat) : formZ (p.map fun (c : Nat) => (c : Int)) = form p := by unfold formZ form; rw [List.flatMap_map]
/-- What From hands back. -/
def fromV (zs : List Int) : Value := if zs.all chrZ then .tuple #[.string ⟨(formZ zs).toArray⟩, .int .i64 0] else .tuple #[.string ⟨#[]⟩, .int .i64 10]
theorem fromV_yes (zs : List Int) (h : zs.all chrZ = true) : fromV zs = .tuple #[.string ⟨(formZ zs).toArray⟩, .int .i64 0] := by unfold fromV; rw [if_pos h]
theorem fromV_no (zs : List Int) (i : Nat) (z : Int) (hz : zs[i]? = some z) (h : chrZ z = false) : fromV zs = .tuple #[.string ⟨#[]⟩, .int .i64 10] := by
  unfold fromV
  rw [if_neg]
  intro ha
  have := List.all_eq_true.1 ha z (List.mem_of_getElem? hz)
  rw [h] at this; cases this
theorem formZ_len (zs : List Int) : (formZ zs).length ≤ 4 * zs.length := by
  induction zs with
  | nil => simp [formZ]
  | cons z t ih =>
    have := encodeRuneZ_length z
    have e : (encodeRune z).length = (encodeRuneZ z).length := List.length_map _
    simp only [formZ, List.flatMap_cons, List.length_append, List.length_cons] at ih ⊢
    omega
theorem take_snoc (zs : List Int) (i : Nat) (z : Int) (h : zs[i]? = some z) : zs.take (i + 1) = zs.take i ++ [z] := by
  rw [List.take_add_one, h]; rfl
theorem chrZ_bd (z : Int) (h : chrZ z = true) : 0 ≤ z ∧ z ≤ 1114111 := by
  unfold chrZ at h; rw [decide_eq_true_iff] at h; omega

theorem lt_of_cell {w : World} {b o : Nat} {v : Value} (h : w.cell? ⟨b, o, none⟩ = some v) : b < w.heap.size := by
  rcases Nat.lt_or_ge b w.heap.size with h' | h'
  · exact h'
  · simp [World.cell?, Array.getElem?_eq_none h'] at h
set_option maxHeartbeats 2000000 in
set_option maxRecDepth 100000 in
theorem from_some (b off cap : Nat) (zs : List Int) (w : World) (hn : zs.length ≤ 17592186044416) (hw : ∀ z ∈ zs, -9223372036854775808 ≤ z ∧ z ≤ 9223372036854775807)
    (hc : ∀ (j : Nat) z, zs[j]? = some z → w.cell? ⟨b, off + j, none⟩ = some (.int .i64 z)) :
    Calls Tryd.prog 92 #[.slice (some ⟨b, off, none⟩) zs.length cap] w fun e w' => e = .returned (fromV zs) ∧ Below w.heap.size w w' := by
  go_enter Tryd.func92, Tryd.ntmps92
  go_wp2
  go_loopg [10] zs.length (fun g s10 wx => ∃ i : Nat, s10 = .int .i64 i ∧ i + g = zs.length ∧ Lib.IsBuilderF 49 5 w.heap.size w.heap.size (Lib.byteCells (formZ (zs.take i))) wx ∧ Below w.heap.size w wx ∧ (zs.take i).all chrZ = true)
  case atStart => exact ⟨0, rfl, by omega, Lib.IsBuilderF.of (Lib.fresh_isBuilder 49 5 w), (Below.refl _ w).alloc (Nat.le_refl _) _, rfl⟩
  case round =>
    obtain ⟨i, rfl, hig, hI, hb, hall⟩ := hrel
    by_cases hlt : i < zs.length
    · obtain ⟨g, rfl⟩ : ∃ g, gk = g + 1 := ⟨gk - 1, by omega⟩
      obtain ⟨z, hz⟩ : ∃ z, zs[i]? = some z := ⟨_, List.getElem?_eq_getElem hlt⟩
      have hzw := hw z (List.mem_of_getElem? hz)
      have hcz := hc i z hz
      have hbl := lt_of_cell hcz
      have hcw : wr.cell? ⟨b, off + i, none⟩ = some (.int .i64 z) := (hb.cell hbl).trans hcz
      clear hc hcz
      cases hch : chrZ z
      · have HF := Lib.hid (fromV_no zs i z hz hch)
        have c1 : ∀ W, Calls Tryd.prog _ _ W _ := fun W => isChar_any z W
        rw [hch] at c1
        clear hz hall hw hI hch
        by_cases hr : -2147483648 ≤ z ∧ z ≤ 2147483647
        · obtain ⟨hr0, hr1⟩ := hr
          go_wp2_with (go_at_call 35; refine (c1 _).mono ?_; rintro e w' ⟨rfl, rfl⟩)
          go_ret2
          exact ⟨by rw [HF.out]; rfl, hb⟩
        · have hne : (wrap64 (wrap32 z) != z) = true := by
            rw [bne_iff_ne]; unfold wrap64 wrap32; omega
          go_wp2
          go_ret2
          exact ⟨by rw [HF.out]; rfl, hb⟩
      · have hbd := chrZ_bd z hch
        obtain ⟨hr0, hr1⟩ := hbd
        have c1 : ∀ W, Calls Tryd.prog _ _ W _ := fun W => isChar_any z W
        rw [hch] at c1
        have hall2 : (zs.take (i + 1)).all chrZ = true := by rw [take_snoc zs i z hz, List.all_append, hall]; simp [hch]
        have hfz : formZ (zs.take (i + 1)) = formZ (zs.take i) ++ encodeRune z := by rw [take_snoc zs i z hz]; simp [formZ]
        have Hfz := Lib.hid hfz
        have Hall := Lib.hid hall2
        have hl4 := formZ_len (zs.take i)
        rw [List.length_take] at hl4
        clear hz hall hw hch hall2 hfz
        go_wp2_with (go_at_call 35; refine (c1 _).mono ?_; rintro e w' ⟨rfl, rfl⟩)
        go_wp2_with (go_at_call 23; refine (Tryd.Builder_WriteRune_k w.heap.size w.heap.size _ _ (by omega) (by omega) _ hI (by rw [Lib.byteCells_length]; omega) hb.size).mono ?_; rintro e W1 ⟨rfl, h1, b1, k1⟩)
        go_roundg g
        case measure => omega
        case rel => exact ⟨i + 1, by go_num, by omega, by rw [Hfz.out, Lib.byteCells_append, Lib.byteCells_encodeRune]; exact Or.inr h1, hb.trans b1, Hall.out⟩
    · obtain rfl : gk = 0 := by omega
      obtain rfl : i = zs.length := by omega
      rw [List.take_length] at hI hall
      have HF := Lib.hid (fromV_yes zs hall)
      clear hall hc hw
      go_wp2_with (go_at_call 24; refine (Tryd.Builder_String_any_k w.heap.size w.heap.size (formZ zs) _ hI hb.size).mono ?_; rintro e W1 ⟨rfl, _, b1, _⟩)
      go_ret2
      exact ⟨by rw [HF.out]; rfl, hb.trans b1⟩

set_option maxHeartbeats 1000000 in
set_option maxRecDepth 100000 in
theorem from_empty (a : Option Addr) (cap : Nat) (w : World) :
    Calls Tryd.prog 92 #[.slice a 0 cap] w fun e w' => e = .returned (fromV []) ∧ Below w.heap.size w w' := by
  have hI0 : Lib.IsBuilderF 49 5 w.heap.size w.heap.size (Lib.byteCells []) _ := Lib.IsBuilderF.of (Lib.fresh_isBuilder 49 5 w)
  have hb0 : Below w.heap.size w (w.alloc (.cells #[.pointer none, .slice none 0 0] 49)) := (Below.refl _ w).alloc (Nat.le_refl _) _
  go_enter Tryd.func92, Tryd.ntmps92
  go_wp2
  refine wp_loop_rounds 1 ?_
  rw [rounds_succ]
  go_wp2_with (go_at_call 24; refine (Tryd.Builder_String_any_k w.heap.size w.heap.size [] _ hI0 hb0.size).mono ?_; rintro e W1 ⟨rfl, _, b1, _⟩)
  go_ret2
  exact ⟨rfl, hb0.trans b1⟩
theorem from_any (v : Value) (zs : List Int) (w : World) (hv : Ints w v zs) (hn : zs.length ≤ 17592186044416) (hw : ∀ z ∈ zs, -9223372036854775808 ≤ z ∧ z ≤ 9223372036854775807) :
    Calls Tryd.prog 92 #[v] w fun e w' => e = .returned (fromV zs) ∧ Below w.heap.size w w' := by
  rcases hv with ⟨a, cap, rfl, rfl⟩ | ⟨b, off, cap, rfl, hc⟩
  · exact from_empty a cap w
  · exact from_some b off cap zs w hn hw hc
end Go.Proofs.YtgjjmapfdijphaaDoor

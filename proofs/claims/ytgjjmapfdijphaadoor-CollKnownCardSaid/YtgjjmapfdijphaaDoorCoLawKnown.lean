/- The contract of chisellaw03.CollKnown. -/
import Derived.Test.YtgjjmapfdijphaaDoorCoTwo
import Derived.Test.YtgjjmapfdijphaaDoorCoUtf
namespace Go.Proofs.YtgjjmapfdijphaaDoor
open Go.RowKit Go.Lib Go.Shelf

theorem known_1 : cmpL (keyL chapterT [67]) (keyL chapterT [99, 99]) = -1 := by rfl
theorem known_2 : cmpL (keyL chapterT [98]) (keyL chapterT [120]) = -1 := by rfl
theorem known_3 : cmpL (keyL chapterT [85]) (keyL chapterT [120]) = -1 := by rfl
theorem known_4 : keyL ⟨[], 0, 0⟩ [97, 98] = [0, 0, 98, 0, 0, 99] := by rfl
/-- The descriptions of the examples that are none, with line and error. -/
def badL : List (List UInt8 × Nat × Nat) :=
  [([115, 116, 114, 101, 110, 103, 116, 104, 32, 52], 1, 5),
   ([97, 32, 60, 32, 98, 10, 99, 32, 59, 32, 97], 2, 4),
   ([97, 32, 60], 1, 5),
   ([85, 43, 68, 56, 48, 48], 1, 5),
   ([115, 116, 114, 101, 110, 103, 116, 104, 32, 49, 10, 10, 115, 116, 114, 101, 110, 103, 116, 104, 32, 49], 3, 4),
   ([97, 32, 97], 1, 5),
   ([105, 103, 110, 111, 114, 101], 1, 5),
   ([105, 103, 110, 111, 114, 101, 32, 60], 1, 5),
   ([97, 32, 60, 32, 97, 32, 60, 32, 98, 99], 1, 5),
   ([85, 43, 49, 49, 48, 48, 48, 48], 1, 5),
   ([0], 0, 10),
   ([255], 0, 10),
   ([105, 103, 110, 111, 114, 101, 32, 85, 43, 54, 49, 10, 97], 2, 4)]
theorem bad_all : ∀ x ∈ badL, parseL x.1 = .error (x.2.1, x.2.2) := by
  unfold badL
  simp only [List.forall_mem_cons]
  refine ⟨rfl, rfl, rfl, rfl, rfl, rfl, rfl, rfl, rfl, rfl, rfl, rfl, rfl, fun x h => by cases h⟩
def badCells : Array Value := #[.string ⟨#[115, 116, 114, 101, 110, 103, 116, 104, 32, 52]⟩, .int .i64 1, .int .i64 5, .string ⟨#[97, 32, 60, 32, 98, 10, 99, 32, 59, 32, 97]⟩, .int .i64 2, .int .i64 4, .string ⟨#[97, 32, 60]⟩, .int .i64 1, .int .i64 5, .string ⟨#[85, 43, 68, 56, 48, 48]⟩, .int .i64 1, .int .i64 5, .string ⟨#[115, 116, 114, 101, 110, 103, 116, 104, 32, 49, 10, 10, 115, 116, 114, 101, 110, 103, 116, 104, 32, 49]⟩, .int .i64 3, .int .i64 4, .string ⟨#[97, 32, 97]⟩, .int .i64 1, .int .i64 5, .string ⟨#[105, 103, 110, 111, 114, 101]⟩, .int .i64 1, .int .i64 5, .string ⟨#[105, 103, 110, 111, 114, 101, 32, 60]⟩, .int .i64 1, .int .i64 5, .string ⟨#[97, 32, 60, 32, 97, 32, 60, 32, 98, 99]⟩, .int .i64 1, .int .i64 5, .string ⟨#[85, 43, 49, 49, 48, 48, 48, 48]⟩, .int .i64 1, .int .i64 5, .string ⟨#[0]⟩, .int .i64 0, .int .i64 10, .string ⟨#[255]⟩, .int .i64 0, .int .i64 10, .string ⟨#[105, 103, 110, 111, 114, 101, 32, 85, 43, 54, 49, 10, 97]⟩, .int .i64 2, .int .i64 4]
/-- The examples lie in a block, three cells each. -/
def BadAt (W : World) (B : Nat) : Prop := ∀ (i : Nat) x, badL[i]? = some x → W.cell? ⟨B, i * 3, none⟩ = some (.string ⟨x.1.toArray⟩) ∧ W.cell? ⟨B, i * 3 + 1, none⟩ = some (.int .i64 (x.2.1 : Int)) ∧ W.cell? ⟨B, i * 3 + 2, none⟩ = some (.int .i64 (x.2.2 : Int))
theorem badAt_cells : ∀ (i : Nat) x, badL[i]? = some x → badCells[i * 3]? = some (.string ⟨x.1.toArray⟩) ∧ badCells[i * 3 + 1]? = some (.int .i64 (x.2.1 : Int)) ∧ badCells[i * 3 + 2]? = some (.int .i64 (x.2.2 : Int))
  | 0, _, rfl => ⟨rfl, rfl, rfl⟩
  | 1, _, rfl => ⟨rfl, rfl, rfl⟩
  | 2, _, rfl => ⟨rfl, rfl, rfl⟩
  | 3, _, rfl => ⟨rfl, rfl, rfl⟩
  | 4, _, rfl => ⟨rfl, rfl, rfl⟩
  | 5, _, rfl => ⟨rfl, rfl, rfl⟩
  | 6, _, rfl => ⟨rfl, rfl, rfl⟩
  | 7, _, rfl => ⟨rfl, rfl, rfl⟩
  | 8, _, rfl => ⟨rfl, rfl, rfl⟩
  | 9, _, rfl => ⟨rfl, rfl, rfl⟩
  | 10, _, rfl => ⟨rfl, rfl, rfl⟩
  | 11, _, rfl => ⟨rfl, rfl, rfl⟩
  | 12, _, rfl => ⟨rfl, rfl, rfl⟩
  | n + 13, _, h => by simp [badL] at h
theorem badAt_new (w : World) (t : TypeId) : BadAt (w.alloc (.cells badCells t)) w.heap.size := by
  intro i x hx
  obtain ⟨h0, h1, h2⟩ := badAt_cells i x hx
  exact ⟨(cell_of_row _ _ _ _ _ (0, 0) (heap_alloc_new _ _)).trans h0, (cell_of_row _ _ _ _ _ (0, 0) (heap_alloc_new _ _)).trans h1, (cell_of_row _ _ _ _ _ (0, 0) (heap_alloc_new _ _)).trans h2⟩
theorem BadAt.later {W W' : World} {B : Nat} (h : BadAt W B) (hl : B < W.heap.size) (hb : Below W.heap.size W W') : BadAt W' B := by
  intro i x hx
  obtain ⟨h0, h1, h2⟩ := h i x hx
  exact ⟨(hb.cell (p := ⟨B, i * 3, none⟩) hl).trans h0, (hb.cell (p := ⟨B, i * 3 + 1, none⟩) hl).trans h1, (hb.cell (p := ⟨B, i * 3 + 2, none⟩) hl).trans h2⟩
set_option maxHeartbeats 4000000 in
set_option maxRecDepth 100000 in
theorem known_any (w : World) (hg : GrC w) :
    Calls Tryd.prog 8 #[] w fun e w' => e = .returned (.bool true) ∧ Below w.heap.size w w' := by
  have cP := parse_ok ⟨#[105, 103, 110, 111, 114, 101, 32, 45, 10, 97, 32, 44, 32, 65, 32, 60, 32, 98, 32, 60, 32, 99, 32, 59, 32, 85, 43, 69, 55, 32, 44, 32, 67]⟩ chapterT w hg chapter_parse
  have G : ∀ W, Below w.heap.size w W → GrC W := fun W hW => hg.later hW
  have KC : ∀ (a b : ByteArray) (n : Int) W (v : Value), cmpL (keyL chapterT a.data.toList) (keyL chapterT b.data.toList) = n → a.size ≤ 1000000 → b.size ≤ 1000000 → Below w.heap.size w W → TabAt W v chapterT → TabSmall chapterT → Calls Tryd.prog 12 #[v, .string a, .string b] W fun e w' => e = .returned (.int .i64 n) ∧ Below W.heap.size W w' := fun a b n W v hn ha hb hW hT hS => by
    have := compare_any v a b chapterT W (G W hW).gr ha hb hT hS
    rwa [hn] at this
  go_enter Tryd.func8, Tryd.ntmps8
  go_wp2_with fail
  refine cP.mono ?_
  rintro e w1 ⟨p, rfl, hT, hS, hb1⟩
  go_wp2_with fail
  refine (KC ⟨#[67]⟩ ⟨#[99, 99]⟩ _ w1 _ known_1 (by decide) (by decide) hb1 hT hS).mono ?_
  rintro e w2 ⟨rfl, hb2⟩
  have hT2 := hT.later hb2
  have hbw2 := hb1.trans (hb2.mono hb1.size)
  go_wp2_with fail
  refine (KC ⟨#[98]⟩ ⟨#[120]⟩ _ w2 _ known_2 (by decide) (by decide) hbw2 hT2 hS).mono ?_
  rintro e w3 ⟨rfl, hb3⟩
  have hT3 := hT2.later hb3
  have hbw3 := hbw2.trans (hb3.mono hbw2.size)
  go_wp2_with fail
  refine (KC ⟨#[85]⟩ ⟨#[120]⟩ _ w3 _ known_3 (by decide) (by decide) hbw3 hT3 hS).mono ?_
  rintro e w4 ⟨rfl, hb4⟩
  have hbw4 := hbw3.trans (hb4.mono hbw3.size)
  clear cP KC hT hT2 hT3 hS hb1 hb2 hb3 hb4 hbw2 hbw3
  go_wp2_with fail
  obtain ⟨W5, hW5⟩ : ∃ W5, w4.alloc (.cells badCells 58) = W5 := ⟨_, rfl⟩
  have hb5 : Below w4.heap.size w4 W5 := by rw [← hW5]; exact (Below.refl _ _).alloc (Nat.le_refl _) _
  have hbw5 := hbw4.trans (hb5.mono hbw4.size)
  have hA : BadAt W5 w4.heap.size := by rw [← hW5]; exact badAt_new w4 _
  have hBl : w4.heap.size < W5.heap.size := by rw [← hW5]; simp
  unfold badCells at hW5
  rw [hW5]
  clear hW5 hb5 hbw4
  obtain ⟨B, hB⟩ : ∃ B, w4.heap.size = B := ⟨_, rfl⟩
  rw [hB] at hA hBl ⊢
  clear hB
  go_loopg [47] 13 (fun g s47 wx => ∃ i : Nat, s47 = .int .i64 i ∧ i + g = 13 ∧ BadAt wx B ∧ B < wx.heap.size ∧ Below w.heap.size w wx)
  case atStart => exact ⟨0, rfl, by omega, hA, hBl, hbw5⟩
  case round =>
    clear hA hBl hbw5
    obtain ⟨i, rfl, hig, hA, hBl, hbx⟩ := hrel
    by_cases hlt : i < 13
    · obtain ⟨g, rfl⟩ : ∃ g, gk = g + 1 := ⟨gk - 1, by omega⟩
      have hil : (i : Int) < 13 := by omega
      obtain ⟨x, hx⟩ : ∃ x, badL[i]? = some x := ⟨_, List.getElem?_eq_getElem (by show i < 13; omega)⟩
      obtain ⟨c0, c1, c2⟩ := hA i x hx
      have hbad := bad_all x (List.mem_of_getElem? hx)
      obtain ⟨l, n, k⟩ := x
      simp only at c0 c1 c2 hbad
      clear hx
      obtain ⟨W6, hW6⟩ : ∃ W6, wr.alloc (.cells #[.string ⟨l.toArray⟩, .int .i64 (n : Int), .int .i64 (k : Int)] 58) = W6 := ⟨_, rfl⟩
      have hb6 : Below wr.heap.size wr W6 := by rw [← hW6]; exact (Below.refl _ _).alloc (Nat.le_refl _) _
      have hX : W6.heap[wr.heap.size]? = some (.cells #[.string ⟨l.toArray⟩, .int .i64 (n : Int), .int .i64 (k : Int)] 58 (0, 0)) := by rw [← hW6]; exact heap_alloc_new _ _
      have hbw6 := hbx.trans (hb6.mono hbx.size)
      have HA6 := hA.later hBl hb6
      have hBl6 := Nat.lt_of_lt_of_le hBl hb6.size
      have cP2 := parse_bad ⟨l.toArray⟩ n k W6 (G W6 hbw6) hbad
      have d0 : W6.cell? ⟨wr.heap.size, 0, none⟩ = some (.string ⟨l.toArray⟩) := cell_of_row _ _ 0 _ _ _ hX
      go_wp2_with fail
      clear hW6 hA
      refine cP2.mono ?_
      rintro e w7 ⟨rfl, hb7⟩
      have hbw7 := hbw6.trans (hb7.mono hbw6.size)
      have HA7 := HA6.later hBl6 hb7
      have hBl7 := Nat.lt_of_lt_of_le hBl6 hb7.size
      have hX7 := (hb7.block wr.heap.size (Array.getElem?_eq_some_iff.1 hX).1).trans hX
      have d1 : w7.cell? ⟨wr.heap.size, 1, none⟩ = some (.int .i64 (n : Int)) := cell_of_row _ _ 1 _ _ _ hX7
      have d2 : w7.cell? ⟨wr.heap.size, 2, none⟩ = some (.int .i64 (k : Int)) := cell_of_row _ _ 2 _ _ _ hX7
      clear hX hX7 HA6
      go_wp2_with fail
      go_roundg g
      case rel => exact ⟨i + 1, by congr 1, by omega, HA7, hBl7, hbw7⟩
      all_goals omega
    · have hil : ¬ (i : Int) < 13 := by omega
      have k1 := key_any (.pointer none) ⟨#[97, 98]⟩ ⟨[], 0, 0⟩ wr (G wr hbx).gr (by decide) (.inl ⟨rfl, rfl⟩) ⟨by decide, by decide, fun c x h => by cases h⟩
      rw [show keyL ⟨[], 0, 0⟩ (⟨#[97, 98]⟩ : ByteArray).data.toList = _ from known_4] at k1
      clear hA
      go_wp2_with fail
      refine k1.mono ?_
      rintro e w5 ⟨u, rfl, hu, hb5⟩
      obtain ⟨W6, hW6⟩ : ∃ W6, w5.alloc (.cells #[.int .u8 0, .int .u8 0, .int .u8 98, .int .u8 0, .int .u8 0, .int .u8 99] 5) = W6 := ⟨_, rfl⟩
      have hb6 : Below w5.heap.size w5 W6 := by rw [← hW6]; exact (Below.refl _ _).alloc (Nat.le_refl _) _
      have hV : BytesV W6 (.slice (some ⟨w5.heap.size, 0, none⟩) 6 6) [0, 0, 98, 0, 0, 99] := by
        rw [← hW6]
        exact BytesV.of_row (B := w5.heap.size) (World.ownsRow_lit w5 #[.int .u8 0, .int .u8 0, .int .u8 98, .int .u8 0, .int .u8 0, .int .u8 99] 6 (Nat.le_refl _) (by decide) rfl)
      have hbw5 := hbx.trans (hb5.mono hbx.size)
      have hbw6 := hbw5.trans (hb6.mono hbw5.size)
      have cE := bytesEqual_any u _ _ _ W6 (hu.later hb6) hV
      rw [decide_eq_true rfl] at cE
      go_wp2_with fail
      refine cE.mono ?_
      rintro e w6' ⟨rfl, rfl⟩
      clear hW6
      go_wp2_with fail
      refine (works_any _ (G _ hbw6)).mono ?_
      rintro e w7 ⟨rfl, hb7⟩
      go_wp2_with fail
      go_ret
      exact ⟨rfl, hbw6.trans (hb7.mono hbw6.size)⟩
end Go.Proofs.YtgjjmapfdijphaaDoor

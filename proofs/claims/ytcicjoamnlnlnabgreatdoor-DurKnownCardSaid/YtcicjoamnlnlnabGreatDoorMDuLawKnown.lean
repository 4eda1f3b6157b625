/- The contract of chisellaw06.DurKnown. -/
import Derived.Test.YtcicjoamnlnlnabGreatDoorMDuUse
namespace Go.Proofs.YtcicjoamnlnlnabGreatDoor
open Go.RowKit Go.Lib

def monthsK : List (List UInt8 × Int × Int) := [([45, 80, 49, 77], -1, 0), ([80, 48, 89], 0, 0), ([80, 48, 50, 52, 77], 24, 0), ([80], 0, 5), ([80, 49, 77, 50, 89], 0, 5), ([80, 49, 68], 0, 5), ([], 0, 5), ([45, 80], 0, 5), ([80, 49], 0, 5), ([80, 45, 49, 77], 0, 5), ([49, 77], 0, 5), ([80, 49, 46, 53, 77], 0, 5), ([32, 80, 49, 77], 0, 5), ([80, 57, 57, 57, 57, 57, 57, 57, 57, 57, 57, 77], 9999999999, 0), ([80, 49, 48, 48, 48, 48, 48, 48, 48, 48, 48, 48, 77], 0, 6), ([80, 56, 51, 51, 51, 51, 51, 51, 51, 51, 89, 51, 77], 9999999999, 0), ([80, 56, 51, 51, 51, 51, 51, 51, 51, 51, 89, 52, 77], 0, 6), ([112, 49, 109], 0, 5), ([80, 49, 89, 50], 0, 5), ([45, 45, 80, 49, 77], 0, 5)]
def secsK : List (List UInt8 × List UInt8 × Int) := [([45, 80, 84, 48, 46, 48, 83], [48], 0), ([80, 84, 57, 48, 77], [53, 52, 48, 48], 0), ([80, 84], [], 5), ([80, 49, 68, 84], [], 5), ([80, 84, 46, 53, 83], [], 5), ([80, 84, 49, 46, 83], [], 5), ([80, 49, 68], [56, 54, 52, 48, 48], 0), ([45, 80, 84, 49, 46, 53, 83], [45, 49, 46, 53], 0), ([80, 49, 77], [], 5), ([80, 84, 49, 83, 49, 77], [], 5), ([80, 84, 49, 46, 53, 77], [], 5), ([80, 49, 68, 84, 48, 46, 48, 48, 48, 48, 48, 48, 48, 48, 48, 48, 48, 48, 48, 48, 48, 48, 48, 48, 48, 48, 53, 83], [56, 54, 52, 48, 48], 0), ([80, 49, 68, 84, 48, 46, 48, 48, 48, 48, 48, 48, 48, 48, 48, 48, 48, 48, 48, 48, 48, 48, 48, 48, 48, 49, 53, 83], [56, 54, 52, 48, 48, 46, 48, 48, 48, 48, 48, 48, 48, 48, 48, 48, 48, 48, 48, 48, 48, 48, 48, 48, 48, 50], 0), ([80, 49, 50, 48, 48, 48, 48, 48, 48, 48, 48, 48, 48, 48, 48, 48, 48, 48, 48, 48, 48, 48, 48, 48, 48, 48, 48, 68], [], 40), ([80, 84, 57, 57, 57, 57, 57, 57, 57, 57, 57, 57, 57, 57, 57, 57, 57, 57, 57, 57, 57, 57, 57, 57, 57, 57, 57, 57, 57, 57, 57, 57, 83], [57, 57, 57, 57, 57, 57, 57, 57, 57, 57, 57, 57, 57, 57, 57, 57, 57, 57, 57, 57, 57, 57, 57, 57, 57, 57, 57, 57, 57, 57], 0), ([80, 84, 57, 57, 57, 57, 57, 57, 57, 57, 57, 57, 57, 57, 57, 57, 57, 57, 57, 57, 57, 57, 57, 57, 57, 57, 57, 57, 57, 57, 57, 57, 46, 57, 57, 57, 57, 57, 57, 57, 57, 57, 57, 57, 57, 57, 57, 57, 57, 57, 57, 57, 57, 57, 83], [], 40)]
theorem months_all : ∀ x ∈ monthsK, parseM x.1 = (x.2.1, x.2.2) := by decide +kernel
theorem secs_all : ∀ x ∈ secsK, parseS x.1 = (x.2.1, x.2.2) := by decide +kernel
def monthsV (x : List UInt8 × Int × Int) : Value × Value × Value := (.string ⟨x.1.toArray⟩, .int .i64 x.2.1, .int .i64 x.2.2)
def secsV (x : List UInt8 × List UInt8 × Int) : Value × Value × Value := (.string ⟨x.1.toArray⟩, .string ⟨x.2.1.toArray⟩, .int .i64 x.2.2)
def monthsA : Array Value := #[.string ⟨#[45, 80, 49, 77]⟩, .string ⟨#[80, 48, 89]⟩, .string ⟨#[80, 48, 50, 52, 77]⟩, .string ⟨#[80]⟩, .string ⟨#[80, 49, 77, 50, 89]⟩, .string ⟨#[80, 49, 68]⟩, .string ⟨#[]⟩, .string ⟨#[45, 80]⟩, .string ⟨#[80, 49]⟩, .string ⟨#[80, 45, 49, 77]⟩, .string ⟨#[49, 77]⟩, .string ⟨#[80, 49, 46, 53, 77]⟩, .string ⟨#[32, 80, 49, 77]⟩, .string ⟨#[80, 57, 57, 57, 57, 57, 57, 57, 57, 57, 57, 77]⟩, .string ⟨#[80, 49, 48, 48, 48, 48, 48, 48, 48, 48, 48, 48, 77]⟩, .string ⟨#[80, 56, 51, 51, 51, 51, 51, 51, 51, 51, 89, 51, 77]⟩, .string ⟨#[80, 56, 51, 51, 51, 51, 51, 51, 51, 51, 89, 52, 77]⟩, .string ⟨#[112, 49, 109]⟩, .string ⟨#[80, 49, 89, 50]⟩, .string ⟨#[45, 45, 80, 49, 77]⟩]
def monthsB : Array Value := #[.int .i64 (-1), .int .i64 0, .int .i64 24, .int .i64 0, .int .i64 0, .int .i64 0, .int .i64 0, .int .i64 0, .int .i64 0, .int .i64 0, .int .i64 0, .int .i64 0, .int .i64 0, .int .i64 9999999999, .int .i64 0, .int .i64 9999999999, .int .i64 0, .int .i64 0, .int .i64 0, .int .i64 0]
def monthsC : Array Value := #[.int .i64 0, .int .i64 0, .int .i64 0, .int .i64 5, .int .i64 5, .int .i64 5, .int .i64 5, .int .i64 5, .int .i64 5, .int .i64 5, .int .i64 5, .int .i64 5, .int .i64 5, .int .i64 0, .int .i64 6, .int .i64 0, .int .i64 6, .int .i64 5, .int .i64 5, .int .i64 5]
def secsA : Array Value := #[.string ⟨#[45, 80, 84, 48, 46, 48, 83]⟩, .string ⟨#[80, 84, 57, 48, 77]⟩, .string ⟨#[80, 84]⟩, .string ⟨#[80, 49, 68, 84]⟩, .string ⟨#[80, 84, 46, 53, 83]⟩, .string ⟨#[80, 84, 49, 46, 83]⟩, .string ⟨#[80, 49, 68]⟩, .string ⟨#[45, 80, 84, 49, 46, 53, 83]⟩, .string ⟨#[80, 49, 77]⟩, .string ⟨#[80, 84, 49, 83, 49, 77]⟩, .string ⟨#[80, 84, 49, 46, 53, 77]⟩, .string ⟨#[80, 49, 68, 84, 48, 46, 48, 48, 48, 48, 48, 48, 48, 48, 48, 48, 48, 48, 48, 48, 48, 48, 48, 48, 48, 48, 53, 83]⟩, .string ⟨#[80, 49, 68, 84, 48, 46, 48, 48, 48, 48, 48, 48, 48, 48, 48, 48, 48, 48, 48, 48, 48, 48, 48, 48, 48, 49, 53, 83]⟩, .string ⟨#[80, 49, 50, 48, 48, 48, 48, 48, 48, 48, 48, 48, 48, 48, 48, 48, 48, 48, 48, 48, 48, 48, 48, 48, 48, 48, 48, 68]⟩, .string ⟨#[80, 84, 57, 57, 57, 57, 57, 57, 57, 57, 57, 57, 57, 57, 57, 57, 57, 57, 57, 57, 57, 57, 57, 57, 57, 57, 57, 57, 57, 57, 57, 57, 83]⟩, .string ⟨#[80, 84, 57, 57, 57, 57, 57, 57, 57, 57, 57, 57, 57, 57, 57, 57, 57, 57, 57, 57, 57, 57, 57, 57, 57, 57, 57, 57, 57, 57, 57, 57, 46, 57, 57, 57, 57, 57, 57, 57, 57, 57, 57, 57, 57, 57, 57, 57, 57, 57, 57, 57, 57, 57, 83]⟩]
def secsB : Array Value := #[.string ⟨#[48]⟩, .string ⟨#[53, 52, 48, 48]⟩, .string ⟨#[]⟩, .string ⟨#[]⟩, .string ⟨#[]⟩, .string ⟨#[]⟩, .string ⟨#[56, 54, 52, 48, 48]⟩, .string ⟨#[45, 49, 46, 53]⟩, .string ⟨#[]⟩, .string ⟨#[]⟩, .string ⟨#[]⟩, .string ⟨#[56, 54, 52, 48, 48]⟩, .string ⟨#[56, 54, 52, 48, 48, 46, 48, 48, 48, 48, 48, 48, 48, 48, 48, 48, 48, 48, 48, 48, 48, 48, 48, 48, 48, 50]⟩, .string ⟨#[]⟩, .string ⟨#[57, 57, 57, 57, 57, 57, 57, 57, 57, 57, 57, 57, 57, 57, 57, 57, 57, 57, 57, 57, 57, 57, 57, 57, 57, 57, 57, 57, 57, 57]⟩, .string ⟨#[]⟩]
def secsC : Array Value := #[.int .i64 0, .int .i64 0, .int .i64 5, .int .i64 5, .int .i64 5, .int .i64 5, .int .i64 0, .int .i64 0, .int .i64 5, .int .i64 5, .int .i64 5, .int .i64 0, .int .i64 0, .int .i64 40, .int .i64 0, .int .i64 40]
theorem months_cells : ∀ (i : Nat) x, (monthsK.map monthsV)[i]? = some x → monthsA[i]? = some x.1 ∧ monthsB[i]? = some x.2.1 ∧ monthsC[i]? = some x.2.2
  | 0, _, rfl => ⟨rfl, rfl, rfl⟩
  | 1, _, rfl => ⟨rfl, rfl, rfl⟩
  | 2, _, rfl => ⟨rfl, rfl, rfl⟩
  | 3, _, rfl => ⟨rfl, rfl, rfl⟩
  | 4, _, rfl => ⟨rfl, rfl, rfl⟩
  | 5, _, rfl => ⟨rfl, rfl, rfl⟩
  | 6, _, rfl => ⟨rfl, rfl, rfl⟩
  | 7, _, rfl => ⟨rfl, rfl, rfl⟩
  | 8, _, rfl => ⟨rfl, rfl, rfl⟩
  | 9, _, rfl => ⟨rfl, rfl, rfl⟩
  | 10, _, rfl => ⟨rfl, rfl, rfl⟩
  | 11, _, rfl => ⟨rfl, rfl, rfl⟩
  | 12, _, rfl => ⟨rfl, rfl, rfl⟩
  | 13, _, rfl => ⟨rfl, rfl, rfl⟩
  | 14, _, rfl => ⟨rfl, rfl, rfl⟩
  | 15, _, rfl => ⟨rfl, rfl, rfl⟩
  | 16, _, rfl => ⟨rfl, rfl, rfl⟩
  | 17, _, rfl => ⟨rfl, rfl, rfl⟩
  | 18, _, rfl => ⟨rfl, rfl, rfl⟩
  | 19, _, rfl => ⟨rfl, rfl, rfl⟩
  | n + 20, _, h => by simp [monthsK] at h
theorem secs_cells : ∀ (i : Nat) x, (secsK.map secsV)[i]? = some x → secsA[i]? = some x.1 ∧ secsB[i]? = some x.2.1 ∧ secsC[i]? = some x.2.2
  | 0, _, rfl => ⟨rfl, rfl, rfl⟩
  | 1, _, rfl => ⟨rfl, rfl, rfl⟩
  | 2, _, rfl => ⟨rfl, rfl, rfl⟩
  | 3, _, rfl => ⟨rfl, rfl, rfl⟩
  | 4, _, rfl => ⟨rfl, rfl, rfl⟩
  | 5, _, rfl => ⟨rfl, rfl, rfl⟩
  | 6, _, rfl => ⟨rfl, rfl, rfl⟩
  | 7, _, rfl => ⟨rfl, rfl, rfl⟩
  | 8, _, rfl => ⟨rfl, rfl, rfl⟩
  | 9, _, rfl => ⟨rfl, rfl, rfl⟩
  | 10, _, rfl => ⟨rfl, rfl, rfl⟩
  | 11, _, rfl => ⟨rfl, rfl, rfl⟩
  | 12, _, rfl => ⟨rfl, rfl, rfl⟩
  | 13, _, rfl => ⟨rfl, rfl, rfl⟩
  | 14, _, rfl => ⟨rfl, rfl, rfl⟩
  | 15, _, rfl => ⟨rfl, rfl, rfl⟩
  | n + 16, _, h => by simp [secsK] at h
/-- Three lists lie in three blocks. -/
def ThreeAt (L : List (Value × Value × Value)) (W : World) (B : Nat) : Prop := ∀ (i : Nat) x, L[i]? = some x → W.cell? ⟨B, i, none⟩ = some x.1 ∧ W.cell? ⟨B + 1, i, none⟩ = some x.2.1 ∧ W.cell? ⟨B + 2, i, none⟩ = some x.2.2
theorem ThreeAt.later {L : List (Value × Value × Value)} {W W' : World} {B : Nat} (h : ThreeAt L W B) (hl : B + 2 < W.heap.size) (hb : Below W.heap.size W W') : ThreeAt L W' B := by
  intro i x hx
  obtain ⟨h0, h1, h2⟩ := h i x hx
  exact ⟨(hb.cell (p := ⟨B, i, none⟩) (by show B < _; omega)).trans h0, (hb.cell (p := ⟨B + 1, i, none⟩) (by show B + 1 < _; omega)).trans h1, (hb.cell (p := ⟨B + 2, i, none⟩) hl).trans h2⟩
theorem threeAt_new (L : List (Value × Value × Value)) (a b c : Array Value) (hL : ∀ (i : Nat) x, L[i]? = some x → a[i]? = some x.1 ∧ b[i]? = some x.2.1 ∧ c[i]? = some x.2.2) (w : World) (t u v : TypeId) : ThreeAt L (((w.alloc (.cells a t)).alloc (.cells b u)).alloc (.cells c v)) w.heap.size := by
  intro i x hx
  obtain ⟨h0, h1, h2⟩ := hL i x hx
  have b1 : Below (w.alloc (.cells a t)).heap.size (w.alloc (.cells a t)) (((w.alloc (.cells a t)).alloc (.cells b u)).alloc (.cells c v)) := ((Below.refl _ _).alloc (Nat.le_refl _) _).alloc (by simp) _
  have b2 : Below ((w.alloc (.cells a t)).alloc (.cells b u)).heap.size ((w.alloc (.cells a t)).alloc (.cells b u)) (((w.alloc (.cells a t)).alloc (.cells b u)).alloc (.cells c v)) := (Below.refl _ _).alloc (Nat.le_refl _) _
  refine ⟨?_, ?_, ?_⟩
  · exact (b1.cell (p := ⟨w.heap.size, i, none⟩) (by simp)).trans ((cell_of_row _ _ _ _ _ (0, 0) (heap_alloc_new _ _)).trans h0)
  · have e : (w.alloc (.cells a t)).heap.size = w.heap.size + 1 := by simp
    have k := (cell_of_row _ _ i _ _ (0, 0) (heap_alloc_new (w.alloc (.cells a t)) (.cells b u))).trans h1
    rw [e] at k
    exact (b2.cell (p := ⟨w.heap.size + 1, i, none⟩) (by simp)).trans k
  · have e : ((w.alloc (.cells a t)).alloc (.cells b u)).heap.size = w.heap.size + 2 := by simp
    have k := (cell_of_row _ _ i _ _ (0, 0) (heap_alloc_new ((w.alloc (.cells a t)).alloc (.cells b u)) (.cells c v))).trans h2
    rw [e] at k
    exact k
set_option maxRecDepth 100000 in
set_option maxHeartbeats 8000000 in
theorem durKnown_law (w : World) (hg : GrD w) :
    Calls Tryz.prog 12 #[] w fun e w' => e = .returned (.bool true) ∧ Below w.heap.size w w' := by
  have k0 := (textM_on hg (-12) (by omega) (by omega) ⟨#[45, 80, 49, 89]⟩ 0 (by decide +kernel)).use
  have k1 := (textM_on hg 0 (by omega) (by omega) ⟨#[80, 48, 77]⟩ 0 (by decide +kernel)).use
  have k2 := (textM_on hg 10000000000 (by omega) (by omega) ⟨#[]⟩ 6 (by decide +kernel)).use
  have k3 := (textS_on hg ⟨#[45, 56, 54, 52, 48, 48]⟩ ⟨#[45, 80, 49, 68]⟩ 0 (by decide) (by decide +kernel)).use
  have k4 := (textS_on hg ⟨#[48, 46, 48, 48, 49]⟩ ⟨#[80, 84, 48, 46, 48, 48, 49, 83]⟩ 0 (by decide) (by decide +kernel)).use
  have k5 := (textS_on hg ⟨#[48]⟩ ⟨#[80, 84, 48, 83]⟩ 0 (by decide) (by decide +kernel)).use
  have k6 := (textS_on hg ⟨#[45, 48]⟩ ⟨#[]⟩ 1 (by decide) (by decide +kernel)).use
  have k7 := (textS_on hg ⟨#[51, 54, 54, 49]⟩ ⟨#[80, 84, 49, 72, 49, 77, 49, 83]⟩ 0 (by decide) (by decide +kernel)).use
  have cw := (works_du hg).use
  have cS : ∀ x ∈ secsK, ∀ W, Below w.heap.size w W → Calls Tryz.prog 18 #[.string ⟨x.1.toArray⟩] W fun e w' => e = .returned (.tuple #[.string ⟨x.2.1.toArray⟩, .int .i64 x.2.2]) ∧ Below W.heap.size W w' := fun x hx W hW => by
    have := parseSeconds_du ⟨x.1.toArray⟩ W (hg.later hW).num
    rw [resV_on (s := ⟨x.2.1.toArray⟩) (secs_all x hx)] at this
    exact this
  have cM : ∀ x ∈ monthsK, ∀ W, Below w.heap.size w W → Calls Tryz.prog 13 #[.string ⟨x.1.toArray⟩] W fun e w' => e = .returned (.tuple #[.int .i64 x.2.1, .int .i64 x.2.2]) ∧ Below W.heap.size W w' := fun x hx W hW => by
    have := parseMonths_du ⟨x.1.toArray⟩ W (hg.later hW)
    rw [show parseM ((⟨x.1.toArray⟩ : ByteArray).data.toList) = (x.2.1, x.2.2) from months_all x hx] at this
    exact this
  clear hg
  obtain ⟨W1, hW1⟩ : ∃ W1, (((w.alloc (.cells monthsA 9)).alloc (.cells monthsB 3)).alloc (.cells monthsC 22)) = W1 := ⟨_, rfl⟩
  have hb1 : Below w.heap.size w W1 := by rw [← hW1]; exact (((Below.refl _ _).alloc (Nat.le_refl _) _).alloc (by simp) _).alloc (by simp; omega) _
  have hA : ThreeAt (monthsK.map monthsV) W1 w.heap.size := by rw [← hW1]; exact threeAt_new _ _ _ _ months_cells _ _ _ _
  have hBl : w.heap.size + 2 < W1.heap.size := by rw [← hW1]; simp
  unfold monthsA monthsB monthsC at hW1
  go_enter Tryz.func12, Tryz.ntmps12
  go_wp2_with fail
  try rw [hW1]
  clear hW1
  obtain ⟨B, hB⟩ : ∃ B, w.heap.size = B := ⟨_, rfl⟩
  rw [hB] at hA hBl ⊢
  go_loopg [4] 20 (fun g s4 wx => ∃ i : Nat, s4 = .int .i64 i ∧ i + g = 20 ∧ ThreeAt (monthsK.map monthsV) wx B ∧ B + 2 < wx.heap.size ∧ Below w.heap.size w wx)
  case atStart => exact ⟨0, rfl, by omega, hA, hBl, hb1⟩
  case round =>
    clear hA hBl hb1
    obtain ⟨i, rfl, hig, hA, hBl, hbx⟩ := hrel
    by_cases hlt : i < 20
    · obtain ⟨g, rfl⟩ : ∃ g, gk = g + 1 := ⟨gk - 1, by omega⟩
      have hil : (i : Int) < 20 := by omega
      obtain ⟨x, hx⟩ : ∃ x, monthsK[i]? = some x := ⟨_, List.getElem?_eq_getElem (by show i < 20; omega)⟩
      have hxm := List.mem_of_getElem? hx
      have hx : (monthsK.map monthsV)[i]? = some (monthsV x) := by rw [List.getElem?_map, hx]; rfl
      have c0 := (hA i _ hx).1
      have cx := cM x hxm wr hbx
      unfold monthsV at c0
      dsimp only at c0
      have HA := Lib.hid hA
      clear hA
      go_wp2_with fail
      refine cx.mono ?_
      rintro e w2 ⟨rfl, hb2⟩
      have HA2 := HA.out.later hBl hb2
      have hBl2 := Nat.lt_of_lt_of_le hBl hb2.size
      have hbw2 := hbx.trans (hb2.mono hbx.size)
      obtain ⟨_, c1, c2⟩ := HA2 i _ hx
      unfold monthsV at c1 c2
      dsimp only at c1 c2
      have HX := Lib.hid HA2
      clear HA HA2 cx c0 hx hxm hb2 cM cS
      go_wp2_with fail
      go_roundg g
      case rel => exact ⟨i + 1, by congr 1, by omega, HX.out, hBl2, hbw2⟩
      all_goals omega
    · have hil : ¬ (i : Int) < 20 := by omega
      clear hA hBl
      clear hlt hig
      have hbr := hbx
      obtain ⟨W2, hW2⟩ : ∃ W2, (((wr.alloc (.cells secsA 9)).alloc (.cells secsB 9)).alloc (.cells secsC 22)) = W2 := ⟨_, rfl⟩
      have hb1 : Below w.heap.size w W2 := by rw [← hW2]; exact ((hbx.alloc (Nat.le_trans hbx.size (Nat.le_refl _)) _).alloc (by have := hbx.size; simp; omega) _).alloc (by have := hbx.size; simp; omega) _
      have hA : ThreeAt (secsK.map secsV) W2 wr.heap.size := by rw [← hW2]; exact threeAt_new _ _ _ _ secs_cells _ _ _ _
      have hBl : wr.heap.size + 2 < W2.heap.size := by rw [← hW2]; simp
      unfold secsA secsB secsC at hW2
      go_wp2_with fail
      try rw [hW2]
      clear hW2
      obtain ⟨B2, hB2⟩ : ∃ B2, wr.heap.size = B2 := ⟨_, rfl⟩
      rw [hB2] at hA hBl ⊢
      clear hbx hbr
      go_loopg [10] 16 (fun g s4 wx => ∃ i : Nat, s4 = .int .i64 i ∧ i + g = 16 ∧ ThreeAt (secsK.map secsV) wx B2 ∧ B2 + 2 < wx.heap.size ∧ Below w.heap.size w wx)
      case atStart => exact ⟨0, rfl, by omega, hA, hBl, hb1⟩
      case round =>
        clear hA hBl hb1
        obtain ⟨i, rfl, hig, hA, hBl, hbx⟩ := hrel
        by_cases hlt : i < 16
        · obtain ⟨g, rfl⟩ : ∃ g, gk = g + 1 := ⟨gk - 1, by omega⟩
          have hil : (i : Int) < 16 := by omega
          obtain ⟨x, hx⟩ : ∃ x, secsK[i]? = some x := ⟨_, List.getElem?_eq_getElem (by show i < 16; omega)⟩
          have hxm := List.mem_of_getElem? hx
          have hx : (secsK.map secsV)[i]? = some (secsV x) := by rw [List.getElem?_map, hx]; rfl
          have c0 := (hA i _ hx).1
          have cx := cS x hxm wr hbx
          unfold secsV at c0
          dsimp only at c0
          have HA := Lib.hid hA
          clear hA
          go_wp2_with fail
          refine cx.mono ?_
          rintro e w2 ⟨rfl, hb2⟩
          have HA2 := HA.out.later hBl hb2
          have hBl2 := Nat.lt_of_lt_of_le hBl hb2.size
          have hbw2 := hbx.trans (hb2.mono hbx.size)
          obtain ⟨_, c1, c2⟩ := HA2 i _ hx
          unfold secsV at c1 c2
          dsimp only at c1 c2
          have HX := Lib.hid HA2
          clear HA HA2 cx c0 hx hxm hb2 cM cS
          go_wp2_with fail
          go_roundg g
          case rel => exact ⟨i + 1, by congr 1, by omega, HX.out, hBl2, hbw2⟩
          all_goals omega
        · have hil : ¬ (i : Int) < 16 := by omega
          clear hA hBl
          go_wp2_with fail
          refine (k0 wr hbx).mono ?_
          rintro e w2 ⟨rfl, b2⟩
          go_wp2_with fail
          refine (k1 w2 b2).mono ?_
          rintro e w3 ⟨rfl, b3⟩
          go_wp2_with fail
          refine (k2 w3 b3).mono ?_
          rintro e w4 ⟨rfl, b4⟩
          go_wp2_with fail
          refine (k3 w4 b4).mono ?_
          rintro e w5 ⟨rfl, b5⟩
          go_wp2_with fail
          refine (k4 w5 b5).mono ?_
          rintro e w6 ⟨rfl, b6⟩
          go_wp2_with fail
          refine (k5 w6 b6).mono ?_
          rintro e w7 ⟨rfl, b7⟩
          go_wp2_with fail
          refine (k6 w7 b7).mono ?_
          rintro e w8 ⟨rfl, b8⟩
          go_wp2_with fail
          refine (k7 w8 b8).mono ?_
          rintro e w9 ⟨rfl, b9⟩
          go_wp2_with fail
          refine (cw w9 b9).mono ?_
          rintro e w10 ⟨rfl, b10⟩
          go_wp2_with fail
          go_ret
          exact ⟨rfl, b10⟩
end Go.Proofs.YtcicjoamnlnlnabGreatDoor

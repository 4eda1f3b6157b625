/- The contract of chisellaw04.NumKnown. -/
import Derived.Test.YtofpojlnfncpcaaGreatDoorNuUse
namespace Go.Proofs.YtofpojlnfncpcaaGreatDoor
open Go.RowKit Go.Lib

def knownL : List (List UInt8 × List UInt8 × Int) := [([46, 53], [48, 46, 53], 0), ([53, 46], [53], 0), ([45, 48, 46, 48], [48], 0), ([49, 101, 51], [], 5), ([46], [], 5), ([], [], 5), ([43], [], 5), ([45], [], 5), ([49, 46, 50, 46, 51], [], 5), ([48, 48, 48], [48], 0), ([57, 57, 57, 57, 57, 57, 57, 57, 57, 57, 57, 57, 57, 57, 57, 57, 57, 57, 57, 57, 57, 57, 57, 57, 57, 57, 57, 57, 57, 46, 57, 57, 57, 57, 57, 57, 57, 57, 57, 57, 57, 57, 57, 57, 57, 57, 57, 57, 57, 57, 53], [49, 48, 48, 48, 48, 48, 48, 48, 48, 48, 48, 48, 48, 48, 48, 48, 48, 48, 48, 48, 48, 48, 48, 48, 48, 48, 48, 48, 48, 48], 0), ([57, 57, 57, 57, 57, 57, 57, 57, 57, 57, 57, 57, 57, 57, 57, 57, 57, 57, 57, 57, 57, 57, 57, 57, 57, 57, 57, 57, 57, 57, 46, 57, 57, 57, 57, 57, 57, 57, 57, 57, 57, 57, 57, 57, 57, 57, 57, 57, 57, 57, 57, 53], [], 40), ([49, 48, 48, 48, 48, 48, 48, 48, 48, 48, 48, 48, 48, 48, 48, 48, 48, 48, 48, 48, 48, 48, 48, 48, 48, 48, 48, 48, 48, 48, 48], [], 40), ([48, 46, 48, 48, 48, 48, 48, 48, 48, 48, 48, 48, 48, 48, 48, 48, 48, 48, 48, 48, 48, 48, 53], [48], 0), ([48, 46, 48, 48, 48, 48, 48, 48, 48, 48, 48, 48, 48, 48, 48, 48, 48, 48, 48, 48, 48, 49, 53], [48, 46, 48, 48, 48, 48, 48, 48, 48, 48, 48, 48, 48, 48, 48, 48, 48, 48, 48, 48, 48, 50], 0), ([45, 32, 49], [], 5)]
theorem known_all : ∀ x ∈ knownL, readR x.1 = (x.2.1, x.2.2) := by decide +kernel
theorem known_len : ∀ x ∈ knownL, x.1.length ≤ 60 := by decide +kernel
theorem known_size (x : List UInt8 × List UInt8 × Int) (hx : x ∈ knownL) : (⟨x.1.toArray⟩ : ByteArray).size < 4294967281 := by
  rw [ba_len]
  exact Nat.lt_of_le_of_lt (known_len x hx) (by decide)
def textCells : Array Value := #[.string ⟨#[46, 53]⟩, .string ⟨#[53, 46]⟩, .string ⟨#[45, 48, 46, 48]⟩, .string ⟨#[49, 101, 51]⟩, .string ⟨#[46]⟩, .string ⟨#[]⟩, .string ⟨#[43]⟩, .string ⟨#[45]⟩, .string ⟨#[49, 46, 50, 46, 51]⟩, .string ⟨#[48, 48, 48]⟩, .string ⟨#[57, 57, 57, 57, 57, 57, 57, 57, 57, 57, 57, 57, 57, 57, 57, 57, 57, 57, 57, 57, 57, 57, 57, 57, 57, 57, 57, 57, 57, 46, 57, 57, 57, 57, 57, 57, 57, 57, 57, 57, 57, 57, 57, 57, 57, 57, 57, 57, 57, 57, 53]⟩, .string ⟨#[57, 57, 57, 57, 57, 57, 57, 57, 57, 57, 57, 57, 57, 57, 57, 57, 57, 57, 57, 57, 57, 57, 57, 57, 57, 57, 57, 57, 57, 57, 46, 57, 57, 57, 57, 57, 57, 57, 57, 57, 57, 57, 57, 57, 57, 57, 57, 57, 57, 57, 57, 53]⟩, .string ⟨#[49, 48, 48, 48, 48, 48, 48, 48, 48, 48, 48, 48, 48, 48, 48, 48, 48, 48, 48, 48, 48, 48, 48, 48, 48, 48, 48, 48, 48, 48, 48]⟩, .string ⟨#[48, 46, 48, 48, 48, 48, 48, 48, 48, 48, 48, 48, 48, 48, 48, 48, 48, 48, 48, 48, 48, 48, 53]⟩, .string ⟨#[48, 46, 48, 48, 48, 48, 48, 48, 48, 48, 48, 48, 48, 48, 48, 48, 48, 48, 48, 48, 48, 49, 53]⟩, .string ⟨#[45, 32, 49]⟩]
def wantCells : Array Value := #[.string ⟨#[48, 46, 53]⟩, .string ⟨#[53]⟩, .string ⟨#[48]⟩, .string ⟨#[]⟩, .string ⟨#[]⟩, .string ⟨#[]⟩, .string ⟨#[]⟩, .string ⟨#[]⟩, .string ⟨#[]⟩, .string ⟨#[48]⟩, .string ⟨#[49, 48, 48, 48, 48, 48, 48, 48, 48, 48, 48, 48, 48, 48, 48, 48, 48, 48, 48, 48, 48, 48, 48, 48, 48, 48, 48, 48, 48, 48]⟩, .string ⟨#[]⟩, .string ⟨#[]⟩, .string ⟨#[48]⟩, .string ⟨#[48, 46, 48, 48, 48, 48, 48, 48, 48, 48, 48, 48, 48, 48, 48, 48, 48, 48, 48, 48, 48, 50]⟩, .string ⟨#[]⟩]
def errCells : Array Value := #[.int .i64 0, .int .i64 0, .int .i64 0, .int .i64 5, .int .i64 5, .int .i64 5, .int .i64 5, .int .i64 5, .int .i64 5, .int .i64 0, .int .i64 0, .int .i64 40, .int .i64 40, .int .i64 0, .int .i64 0, .int .i64 5]
theorem known_cells : ∀ (i : Nat) x, knownL[i]? = some x → textCells[i]? = some (.string ⟨x.1.toArray⟩) ∧ wantCells[i]? = some (.string ⟨x.2.1.toArray⟩) ∧ errCells[i]? = some (.int .i64 x.2.2)
  | 0, _, rfl => ⟨rfl, rfl, rfl⟩
  | 1, _, rfl => ⟨rfl, rfl, rfl⟩
  | 2, _, rfl => ⟨rfl, rfl, rfl⟩
  | 3, _, rfl => ⟨rfl, rfl, rfl⟩
  | 4, _, rfl => ⟨rfl, rfl, rfl⟩
  | 5, _, rfl => ⟨rfl, rfl, rfl⟩
  | 6, _, rfl => ⟨rfl, rfl, rfl⟩
  | 7, _, rfl => ⟨rfl, rfl, rfl⟩
  | 8, _, rfl => ⟨rfl, rfl, rfl⟩
  | 9, _, rfl => ⟨rfl, rfl, rfl⟩
  | 10, _, rfl => ⟨rfl, rfl, rfl⟩
  | 11, _, rfl => ⟨rfl, rfl, rfl⟩
  | 12, _, rfl => ⟨rfl, rfl, rfl⟩
  | 13, _, rfl => ⟨rfl, rfl, rfl⟩
  | 14, _, rfl => ⟨rfl, rfl, rfl⟩
  | 15, _, rfl => ⟨rfl, rfl, rfl⟩
  | n + 16, _, h => by simp [knownL] at h
/-- The three lists lie in three blocks. -/
def ListsAt (W : World) (B : Nat) : Prop := ∀ (i : Nat) x, knownL[i]? = some x → W.cell? ⟨B, i, none⟩ = some (.string ⟨x.1.toArray⟩) ∧ W.cell? ⟨B + 1, i, none⟩ = some (.string ⟨x.2.1.toArray⟩) ∧ W.cell? ⟨B + 2, i, none⟩ = some (.int .i64 x.2.2)
theorem ListsAt.later {W W' : World} {B : Nat} (h : ListsAt W B) (hl : B + 2 < W.heap.size) (hb : Below W.heap.size W W') : ListsAt W' B := by
  intro i x hx
  obtain ⟨h0, h1, h2⟩ := h i x hx
  exact ⟨(hb.cell (p := ⟨B, i, none⟩) (by show B < _; omega)).trans h0, (hb.cell (p := ⟨B + 1, i, none⟩) (by show B + 1 < _; omega)).trans h1, (hb.cell (p := ⟨B + 2, i, none⟩) hl).trans h2⟩
theorem listsAt_new (w : World) (t u v : TypeId) : ListsAt (((w.alloc (.cells textCells t)).alloc (.cells wantCells u)).alloc (.cells errCells v)) w.heap.size := by
  intro i x hx
  obtain ⟨h0, h1, h2⟩ := known_cells i x hx
  have b1 : Below (w.alloc (.cells textCells t)).heap.size (w.alloc (.cells textCells t)) (((w.alloc (.cells textCells t)).alloc (.cells wantCells u)).alloc (.cells errCells v)) := ((Below.refl _ _).alloc (Nat.le_refl _) _).alloc (by simp) _
  have b2 : Below ((w.alloc (.cells textCells t)).alloc (.cells wantCells u)).heap.size ((w.alloc (.cells textCells t)).alloc (.cells wantCells u)) (((w.alloc (.cells textCells t)).alloc (.cells wantCells u)).alloc (.cells errCells v)) := (Below.refl _ _).alloc (Nat.le_refl _) _
  refine ⟨?_, ?_, ?_⟩
  · exact (b1.cell (p := ⟨w.heap.size, i, none⟩) (by simp)).trans ((cell_of_row _ _ _ _ _ (0, 0) (heap_alloc_new _ _)).trans h0)
  · have e : (w.alloc (.cells textCells t)).heap.size = w.heap.size + 1 := by simp
    have k := (cell_of_row _ _ i _ _ (0, 0) (heap_alloc_new (w.alloc (.cells textCells t)) (.cells wantCells u))).trans h1
    rw [e] at k
    exact (b2.cell (p := ⟨w.heap.size + 1, i, none⟩) (by simp)).trans k
  · have e : ((w.alloc (.cells textCells t)).alloc (.cells wantCells u)).heap.size = w.heap.size + 2 := by simp
    have k := (cell_of_row _ _ i _ _ (0, 0) (heap_alloc_new ((w.alloc (.cells textCells t)).alloc (.cells wantCells u)) (.cells errCells v))).trans h2
    rw [e] at k
    exact k
set_option maxRecDepth 100000 in
set_option maxHeartbeats 8000000 in
theorem known_law (w : World) (hg : GrN w) :
    Calls Tryz.prog 12 #[] w fun e w' => e = .returned (.bool true) ∧ Below w.heap.size w w' := by
  have k0 := (add_on hg ⟨#[48, 46, 49]⟩ ⟨#[48, 46, 50]⟩ ⟨#[48, 46, 51]⟩ 0 (by decide) (by decide) (by decide +kernel)).use
  have k1 := (mul_on hg ⟨#[45, 48, 46, 53]⟩ ⟨#[48, 46, 50, 53]⟩ ⟨#[45, 48, 46, 49, 50, 53]⟩ 0 (by decide) (by decide) (by decide +kernel)).use
  have k2 := (quo_on hg ⟨#[49]⟩ ⟨#[48]⟩ ⟨#[]⟩ 41 (by decide) (by decide) (by decide +kernel)).use
  have k3 := (idiv_on hg ⟨#[45, 55]⟩ ⟨#[50]⟩ ⟨#[45, 51]⟩ 0 (by decide) (by decide) (by decide +kernel)).use
  have k4 := (mod_on hg ⟨#[45, 55]⟩ ⟨#[50]⟩ ⟨#[45, 49]⟩ 0 (by decide) (by decide) (by decide +kernel)).use
  have k5 := (round_on hg ⟨#[49, 50, 53, 48]⟩ ⟨#[101, 118, 101, 110]⟩ ⟨#[49, 50, 48, 48]⟩ (-2) 0 (by decide) (by decide +kernel)).use
  have k6 := (round_on hg ⟨#[49]⟩ ⟨#[101, 118, 101, 110]⟩ ⟨#[]⟩ (-31) 6 (by decide) (by decide +kernel)).use
  have k7 := (round_on hg ⟨#[49]⟩ ⟨#[117, 112]⟩ ⟨#[]⟩ (0) 1 (by decide) (by decide +kernel)).use
  have k8 := (add_on hg ⟨#[48, 49]⟩ ⟨#[49]⟩ ⟨#[]⟩ 1 (by decide) (by decide) (by decide +kernel)).use
  have k9 := (idiv_on hg ⟨#[49, 48, 48, 48, 48, 48, 48, 48, 48, 48, 48, 48, 48, 48, 48, 48, 48, 48, 48, 48, 48, 48, 48, 48, 48, 48, 48, 48, 48, 48]⟩ ⟨#[48, 46, 48, 48, 48, 48, 48, 48, 48, 48, 48, 48, 48, 48, 48, 48, 48, 48, 48, 48, 48, 49]⟩ ⟨#[]⟩ 40 (by decide) (by decide) (by decide +kernel)).use
  have k10 := (mod_on hg ⟨#[49, 48, 48, 48, 48, 48, 48, 48, 48, 48, 48, 48, 48, 48, 48, 48, 48, 48, 48, 48, 48, 48, 48, 48, 48, 48, 48, 48, 48, 48]⟩ ⟨#[48, 46, 48, 48, 48, 48, 48, 48, 48, 48, 48, 48, 48, 48, 48, 48, 48, 48, 48, 48, 48, 51]⟩ ⟨#[48, 46, 48, 48, 48, 48, 48, 48, 48, 48, 48, 48, 48, 48, 48, 48, 48, 48, 48, 48, 48, 49]⟩ 0 (by decide) (by decide) (by decide +kernel)).use
  have k11 := (round_on hg ⟨#[49]⟩ ⟨#[99, 101, 105, 108, 105, 110, 103]⟩ ⟨#[]⟩ (-30) 40 (by decide) (by decide +kernel)).use
  have cw := (works_on hg).use
  have cP : ∀ x ∈ knownL, ∀ W, Below w.heap.size w W → Calls Tryz.prog 14 #[.string ⟨x.1.toArray⟩] W fun e w' => e = .returned (.tuple #[.string ⟨x.2.1.toArray⟩, .int .i64 x.2.2]) ∧ Below W.heap.size W w' := fun x hx W hW => by
    have := parse_of_any ⟨x.1.toArray⟩ (known_size x hx) W (hg.later hW)
    rw [resV_on (s := ⟨x.2.1.toArray⟩) (known_all x hx)] at this
    exact this
  clear hg
  obtain ⟨W1, hW1⟩ : ∃ W1, ((w.alloc (.cells textCells 9)).alloc (.cells wantCells 9)).alloc (.cells errCells 23) = W1 := ⟨_, rfl⟩
  have hb1 : Below w.heap.size w W1 := by rw [← hW1]; exact (((Below.refl _ _).alloc (Nat.le_refl _) _).alloc (by simp) _).alloc (by simp; omega) _
  have hA : ListsAt W1 w.heap.size := by rw [← hW1]; exact listsAt_new w _ _ _
  have hBl : w.heap.size + 2 < W1.heap.size := by rw [← hW1]; simp
  unfold textCells wantCells errCells at hW1
  go_enter Tryz.func12, Tryz.ntmps12
  go_wp2_with fail
  try rw [hW1]
  clear hW1
  obtain ⟨B, hB⟩ : ∃ B, w.heap.size = B := ⟨_, rfl⟩
  rw [hB] at hA hBl ⊢
  go_loopg [4] 16 (fun g s4 wx => ∃ i : Nat, s4 = .int .i64 i ∧ i + g = 16 ∧ ListsAt wx B ∧ B + 2 < wx.heap.size ∧ Below w.heap.size w wx)
  case atStart => exact ⟨0, rfl, by omega, hA, hBl, hb1⟩
  case round =>
    clear hA hBl hb1
    obtain ⟨i, rfl, hig, hA, hBl, hbx⟩ := hrel
    by_cases hlt : i < 16
    · obtain ⟨g, rfl⟩ : ∃ g, gk = g + 1 := ⟨gk - 1, by omega⟩
      have hil : (i : Int) < 16 := by omega
      obtain ⟨x, hx⟩ : ∃ x, knownL[i]? = some x := ⟨_, List.getElem?_eq_getElem (by show i < 16; omega)⟩
      obtain ⟨c0, _, _⟩ := hA i x hx
      have cx := cP x (List.mem_of_getElem? hx) wr hbx
      have HA := Lib.hid hA
      clear hA
      go_wp2_with fail
      refine cx.mono ?_
      rintro e w2 ⟨rfl, hb2⟩
      have HA2 := HA.out.later hBl hb2
      have hBl2 := Nat.lt_of_lt_of_le hBl hb2.size
      have hbw2 := hbx.trans (hb2.mono hbx.size)
      obtain ⟨_, c1, c2⟩ := HA2 i x hx
      have HX := Lib.hid HA2
      clear HA HA2 cx c0 hx hb2 cP
      go_wp2_with fail
      go_roundg g
      case rel => exact ⟨i + 1, by congr 1, by omega, HX.out, hBl2, hbw2⟩
      all_goals omega
    · have hil : ¬ (i : Int) < 16 := by omega
      clear hA
      go_wp2_with fail
      refine (k0 wr hbx).mono ?_
      rintro e w2 ⟨rfl, b2⟩
      go_wp2_with fail
      refine (k1 w2 b2).mono ?_
      rintro e w3 ⟨rfl, b3⟩
      go_wp2_with fail
      refine (k2 w3 b3).mono ?_
      rintro e w4 ⟨rfl, b4⟩
      go_wp2_with fail
      refine (k3 w4 b4).mono ?_
      rintro e w5 ⟨rfl, b5⟩
      go_wp2_with fail
      refine (k4 w5 b5).mono ?_
      rintro e w6 ⟨rfl, b6⟩
      go_wp2_with fail
      refine (k5 w6 b6).mono ?_
      rintro e w7 ⟨rfl, b7⟩
      go_wp2_with fail
      refine (k6 w7 b7).mono ?_
      rintro e w8 ⟨rfl, b8⟩
      go_wp2_with fail
      refine (k7 w8 b8).mono ?_
      rintro e w9 ⟨rfl, b9⟩
      go_wp2_with fail
      refine (k8 w9 b9).mono ?_
      rintro e w10 ⟨rfl, b10⟩
      go_wp2_with fail
      refine (k9 w10 b10).mono ?_
      rintro e w11 ⟨rfl, b11⟩
      go_wp2_with fail
      refine (k10 w11 b11).mono ?_
      rintro e w12 ⟨rfl, b12⟩
      go_wp2_with fail
      refine (k11 w12 b12).mono ?_
      rintro e w13 ⟨rfl, b13⟩
      go_wp2_with fail
      refine (cw w13 b13).mono ?_
      rintro e w14 ⟨rfl, b14⟩
      go_wp2_with fail
      go_ret
      exact ⟨rfl, b14⟩
end Go.Proofs.YtofpojlnfncpcaaGreatDoor

/- strings.IndexRune at the law's three bytes: a code point that is none of them is not found. -/
import Derived.Test.YtaieapldokkdnabGreatDoorCharsAny
import Derived.Test.YtaieapldokkdnabGreatDoorShelf3
import Derived.Laws.Runes
namespace Go.Proofs.YtaieapldokkdnabGreatDoor
open Go.RowKit Go.Lib

theorem rune_ascii (R : Nat) (W : World) (h : R < 128) (h9 : R ≠ 9) (h10 : R ≠ 10) (h13 : R ≠ 13) :
    Calls Tryz.prog 56 #[.string ⟨#[9, 10, 13]⟩, .int .i32 R] W fun e w' => e = .returned (.int .i64 (-1)) ∧ Below W.heap.size W w' := by
  refine (Tryz.strings_IndexRune_ascii ⟨#[9, 10, 13]⟩ R W (by omega) (by omega)).mono ?_
  rintro e w' ⟨rfl, rfl⟩
  refine ⟨?_, Below.refl _ _⟩
  have : ∀ R : Fin 128, R.val ≠ 9 → R.val ≠ 10 → R.val ≠ 13 → Lib.indexByte (⟨#[9, 10, 13]⟩ : ByteArray).data.toList ((R.val : Int).toNat.toUInt8) = -1 := by decide
  rw [this ⟨R, h⟩ h9 h10 h13]
set_option maxRecDepth 1000000 in
set_option maxHeartbeats 2000000 in
theorem rune_wrong (W : World) :
    Calls Tryz.prog 56 #[.string ⟨#[9, 10, 13]⟩, .int .i32 65533] W fun e w' => e = .returned (.int .i64 (-1)) ∧ Below W.heap.size W w' := by
  go_enter Tryz.func56, Tryz.ntmps56
  go_wp2_with fail
  go_loopg [5, 6] 3 (fun g _ _ wx => ∃ i : Nat, i + g = 3 ∧ wx = W.iter ⟨#[9, 10, 13]⟩ i)
  case atStart => exact ⟨0, rfl, rfl⟩
  case round =>
    obtain ⟨i, hig, rfl⟩ := hrel
    by_cases h0 : i = 0
    · subst h0
      obtain rfl : gk = 3 := by omega
      have hnx := fun ty => run_next_ascii (P := Tryz.prog) W ⟨#[9, 10, 13]⟩ 0 ty (by decide) (by decide)
      go_wp2_with fail
      go_roundg 2
      case measure => omega
      case rel => exact ⟨1, rfl, rfl⟩
    · by_cases h1 : i = 1
      · subst h1
        obtain rfl : gk = 2 := by omega
        have hnx := fun ty => run_next_ascii (P := Tryz.prog) W ⟨#[9, 10, 13]⟩ 1 ty (by decide) (by decide)
        go_wp2_with fail
        go_roundg 1
        case measure => omega
        case rel => exact ⟨2, rfl, rfl⟩
      · by_cases h2 : i = 2
        · subst h2
          obtain rfl : gk = 1 := by omega
          have hnx := fun ty => run_next_ascii (P := Tryz.prog) W ⟨#[9, 10, 13]⟩ 2 ty (by decide) (by decide)
          go_wp2_with fail
          go_roundg 0
          case measure => omega
          case rel => exact ⟨3, rfl, rfl⟩
        · obtain rfl : gk = 0 := by omega
          obtain rfl : i = 3 := by omega
          have hnx := run_next_end (P := Tryz.prog) W ⟨#[9, 10, 13]⟩ 3
          go_wp2_with fail
          go_ret
          exact ⟨rfl, (Below.refl _ _).alloc (Nat.le_refl _) _⟩
theorem none_of (c : UInt8) (hc : 128 ≤ c.toNat) (l : List UInt8) (hl : ∀ b ∈ l, b.toNat < 128) : Lib.indexByte l c = -1 := by
  induction l with
  | nil => rfl
  | cons b t ih =>
    have h1 : b ≠ c := fun e => by have := hl b (by simp); rw [e] at this; omega
    have h2 := ih (fun x hx => hl x (by simp [hx]))
    unfold Lib.indexByte
    simp [h1, h2]
end Go.Proofs.YtaieapldokkdnabGreatDoor

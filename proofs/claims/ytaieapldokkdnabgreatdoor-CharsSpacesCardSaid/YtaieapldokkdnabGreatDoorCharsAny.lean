/- strings.ContainsAny at the law's three bytes: out of IndexAny's contract; strings of more than 8 bytes by the library's. OPEN: strings of at most 8 bytes that are not ASCII (the library's short form asks ASCII). -/
import Derived.Test.YtaieapldokkdnabGreatDoorCharsWithout
import Derived.Deep.WholeRow
namespace Go.Proofs.YtaieapldokkdnabGreatDoor
open Go.RowKit Go.Lib

theorem any_from (x : ByteArray) (W : World) (cI : Calls Tryz.prog 29 #[.string x, .string ⟨#[9, 10, 13]⟩] W fun e w' => e = .returned (.int .i64 (-1)) ∧ Below W.heap.size W w') :
    Calls Tryz.prog 8 #[.string x, .string ⟨#[9, 10, 13]⟩] W fun e w' => e = .returned (.bool false) ∧ Below W.heap.size W w' := by
  go_enter Tryz.func8, Tryz.ntmps8
  go_wp2_with fail
  refine cI.mono ?_
  rintro e w' ⟨rfl, hw⟩
  go_wp2_with fail
  go_ret
  exact ⟨rfl, hw⟩
theorem indexAny_neg (l : List UInt8) (h : containsAny l [9, 10, 13] = false) : indexAny l [9, 10, 13] = -1 := by
  have := indexAny_ge [9, 10, 13] l
  unfold containsAny at h
  rw [decide_eq_false_iff_not] at h
  omega
theorem chars_ascii : ∀ (j : Nat) b, (⟨#[9, 10, 13]⟩ : ByteArray).data.toList[j]? = some b → b.toNat < 128 := by
  intro j b h
  match j, h with
  | 0, h => simp at h; rw [← h]; decide
  | 1, h => simp at h; rw [← h]; decide
  | 2, h => simp at h; rw [← h]; decide
  | j + 3, h => simp at h
theorem index_long (x : ByteArray) (W : World) (h8 : 8 < x.size) (hs : x.size ≤ 4000) (h : containsAny x.data.toList [9, 10, 13] = false) :
    Calls Tryz.prog 29 #[.string x, .string ⟨#[9, 10, 13]⟩] W fun e w' => e = .returned (.int .i64 (-1)) ∧ Below W.heap.size W w' := by
  have hz := zero_of_info (P := Tryz.prog) (t := 116) (v := .agg (Array.replicate 256 (.bool false))) (n := 256) (by kernel_rfl)
  refine (Tryz.strings_IndexAny_long hz.1 x ⟨#[9, 10, 13]⟩ W (by decide) h8 (by omega) (by decide) chars_ascii).mono ?_
  rintro e w' ⟨rfl, rfl⟩
  exact ⟨by rw [show (⟨#[9, 10, 13]⟩ : ByteArray).data.toList = [9, 10, 13] from rfl, indexAny_neg _ h], ((Below.refl _ _).alloc (Nat.le_refl _) _).alloc (by simp) _⟩
theorem index_ascii (x : ByteArray) (W : World) (h8 : x.size ≤ 8) (ha : ∀ (j : Nat) b, x.data.toList[j]? = some b → b.toNat < 128) (h : containsAny x.data.toList [9, 10, 13] = false) :
    Calls Tryz.prog 29 #[.string x, .string ⟨#[9, 10, 13]⟩] W fun e w' => e = .returned (.int .i64 (-1)) ∧ Below W.heap.size W w' := by
  refine (Tryz.strings_IndexAny_short x ⟨#[9, 10, 13]⟩ W (by decide) h8 ha).mono ?_
  rintro e w' ⟨rfl, pos, rfl⟩
  exact ⟨by rw [show (⟨#[9, 10, 13]⟩ : ByteArray).data.toList = [9, 10, 13] from rfl, indexAny_neg _ h], (Below.refl _ _).alloc (Nat.le_refl _) _⟩
/-- The law, out of IndexAny at short strings that are not ASCII. -/
theorem spaces_of (s : ByteArray) (w : World) (hg : Gr w)
    (HI : ∀ (x : ByteArray) (W : World), x.size ≤ 8 → containsAny x.data.toList [9, 10, 13] = false → Calls Tryz.prog 29 #[.string x, .string ⟨#[9, 10, 13]⟩] W fun e w' => e = .returned (.int .i64 (-1)) ∧ Below W.heap.size W w') :
    Calls Tryz.prog 3 #[.string s] w fun e w' => e = .returned (.bool true) ∧ Below w.heap.size w w' :=
  spaces_law s w hg (fun x y W hx _ hb => without_is x y W hx hb) (fun x W hx _ hc => any_from x W (by
    by_cases h8 : 8 < x.size
    · exact index_long x W h8 hx hc
    · exact HI x W (by omega) hc))
end Go.Proofs.YtaieapldokkdnabGreatDoor

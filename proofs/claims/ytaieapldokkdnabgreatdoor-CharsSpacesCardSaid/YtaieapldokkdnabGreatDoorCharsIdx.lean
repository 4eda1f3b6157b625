/- strings.IndexAny at the law's three bytes and any short string without them; and the law CharsSpaces' contract. -/
import Derived.Test.YtaieapldokkdnabGreatDoorCharsRuneOther
namespace Go.Proofs.YtaieapldokkdnabGreatDoor
open Go.RowKit Go.Lib

theorem decodeN_low (n b0 b1 b2 b3 : Nat) (h : (decodeN n b0 b1 b2 b3).1 < 128) : (decodeN n b0 b1 b2 b3).1 = b0 := by
  unfold decodeN at *
  repeat' split at h
  all_goals (simp_all <;> omega)
theorem decodeN_ok (n b0 b1 b2 b3 : Nat) (h0 : b0 < 256) : (decodeN n b0 b1 b2 b3).1 < 55296 ∨ (57343 < (decodeN n b0 b1 b2 b3).1 ∧ (decodeN n b0 b1 b2 b3).1 ≤ 1114111) := by
  unfold decodeN
  repeat' split
  all_goals (simp only; omega)
theorem rune_any (R : Nat) (W : World) (hv : R < 55296 ∨ (57343 < R ∧ R ≤ 1114111)) (h9 : R ≠ 9) (h10 : R ≠ 10) (h13 : R ≠ 13) :
    Calls Tryz.prog 56 #[.string ⟨#[9, 10, 13]⟩, .int .i32 R] W fun e w' => e = .returned (.int .i64 (-1)) ∧ Below W.heap.size W w' := by
  by_cases h1 : R < 128
  · exact rune_ascii R W h1 h9 h10 h13
  · by_cases h2 : R = 65533
    · subst h2; exact rune_wrong W
    · exact rune_other R W (by omega) (by omega) h2
theorem none_mem (cs : List UInt8) : ∀ l : List UInt8, indexAny l cs = -1 → ∀ b ∈ l, b ∉ cs
  | [], _, b, hb => by cases hb
  | x :: l, h, b, hb => by
    unfold indexAny at h
    have hge := indexAny_ge cs l
    split at h
    · cases h
    · rename_i hx
      rcases List.mem_cons.1 hb with rfl | hb
      · simpa using hx
      · refine none_mem cs l ?_ b hb
        split at h
        · rename_i hb; exact eq_of_beq hb
        · omega
/-- A code point that the decoder finds in such a string is none of the three. -/
theorem decode_not (x : ByteArray) (pos : Nat) (hp : pos < x.size) (hc : containsAny x.data.toList [9, 10, 13] = false) (c : UInt8) (hcm : c ∈ [(9 : UInt8), 10, 13]) : (Utf8.decode x pos).1 ≠ c.toNat := by
  intro he
  have hlt : (Utf8.decode x pos).1 < 128 := by rw [he]; simp at hcm; rcases hcm with rfl | rfl | rfl <;> decide
  have hb : (Utf8.decode x pos).1 = (x.get! pos).toNat := by rw [decode_at] at hlt ⊢; exact decodeN_low _ _ _ _ _ hlt
  have hg : x.get! pos = c := UInt8.toNat_inj.1 (hb.symm.trans he)
  have hmem : x.get! pos ∈ x.data.toList := by
    have e : x.get! pos = x.data.toList[pos]'(by simpa using hp) := by
      show x.data[pos]! = _
      rw [getElem!_pos x.data pos hp]; simp
    rw [e]; exact List.getElem_mem _
  exact none_mem _ _ (indexAny_neg _ hc) _ hmem (by rw [hg]; exact hcm)
theorem should_not (n : Nat) (w : World) (h : n ≤ 8) : Calls Tryz.prog 57 #[.int .i64 n] w fun e w' => e = .returned (.bool false) ∧ w = w' := by
  have h' : decide ((8 : Int) < (n : Int)) = false := by rw [decide_eq_false_iff_not]; omega
  go_enter Tryz.func57, Tryz.ntmps57
  go_wp2
  go_ret
  exact ⟨rfl, rfl⟩
set_option maxRecDepth 1000000 in
set_option maxHeartbeats 2000000 in
theorem index_short (x : ByteArray) (W : World) (h8 : x.size ≤ 8) (hc : containsAny x.data.toList [9, 10, 13] = false) :
    Calls Tryz.prog 29 #[.string x, .string ⟨#[9, 10, 13]⟩] W fun e w' => e = .returned (.int .i64 (-1)) ∧ Below W.heap.size W w' := by
  have cS := fun w => should_not x.size w h8
  have HC := Lib.hid hc
  clear hc
  go_enter Tryz.func29, Tryz.ntmps29
  go_wp2_with (go_at_call 57; refine (cS _).mono ?_; rintro e w1 ⟨rfl, rfl⟩)
  go_loopg [9, 10] x.size (fun g _ _ wx => ∃ pos : Nat, wx.heap[W.heap.size]? = some (.stringIter x pos) ∧ Below W.heap.size W wx ∧ x.size ≤ pos + g)
  case atStart => exact ⟨0, World.iter_heap W x 0, iter_below W x 0, by omega⟩
  case round =>
    obtain ⟨pos, hit, hbw, hgf⟩ := hrel
    by_cases hlt : pos < x.size
    · obtain ⟨g, rfl⟩ : ∃ g, gk = g + 1 := ⟨gk - 1, by omega⟩
      have hnx : ∀ ty, (Instr.next (.pointer (some ⟨W.heap.size, 0, none⟩)) true ty).run Tryz.prog wr = _ := fun ty => Lib.run_next_any_at wr W.heap.size x pos ty hit hlt
      have hw := width_pos x pos
      have h9 := decode_not x pos hlt HC.out 9 (by simp)
      have h10 := decode_not x pos hlt HC.out 10 (by simp)
      have h13 := decode_not x pos hlt HC.out 13 (by simp)
      have hv := decodeN_ok (x.size - pos) (x.get! pos).toNat (x.get! (pos + 1)).toNat (x.get! (pos + 2)).toNat (x.get! (pos + 3)).toNat (UInt8.toNat_lt _)
      rw [← decode_at] at hv
      obtain ⟨R, hR⟩ : ∃ R, (Utf8.decode x pos).1 = R := ⟨_, rfl⟩
      obtain ⟨K, hK⟩ : ∃ K, (Utf8.decode x pos).2 = K := ⟨_, rfl⟩
      rw [hR, hK] at hnx
      rw [hR] at h9 h10 h13 hv
      rw [hK] at hw
      clear hR hK
      have hit2 := Lib.iterAt_heap wr W.heap.size x pos (pos + K) hit
      have hbw2 := Lib.below_iterAt hbw (k := W.heap.size) (Nat.le_refl _) x (pos + K)
      obtain ⟨W1, hWd⟩ : ∃ W1, wr.iterAt W.heap.size x (pos + K) = W1 := ⟨_, rfl⟩
      rw [hWd] at hnx hit2 hbw2
      have hITW : W.heap.size < W1.heap.size := (Array.getElem?_eq_some_iff.1 hit2).1
      clear hWd hit hbw
      have cR := rune_any R W1 hv h9 h10 h13
      clear hv h9 h10 h13
      go_wp2_with fail
      refine cR.mono ?_
      rintro e w2 ⟨rfl, hb2⟩
      go_wp2_with fail
      go_roundg g
      case measure => omega
      case rel => exact ⟨pos + K, (hb2.block _ hITW).trans hit2, hbw2.trans (hb2.mono (by omega)), by omega⟩
    · have hnx : ∀ ty, (Instr.next (.pointer (some ⟨W.heap.size, 0, none⟩)) true ty).run Tryz.prog wr = _ := fun ty => Lib.run_next_end_at wr W.heap.size x pos ty hit hlt
      go_wp2
      go_ret
      exact ⟨rfl, hbw⟩
/-- The law's contract: it answers true. -/
theorem spaces_any (s : ByteArray) (w : World) (hg : Gr w) :
    Calls Tryz.prog 3 #[.string s] w fun e w' => e = .returned (.bool true) ∧ Below w.heap.size w w' :=
  spaces_of s w hg fun x W h8 hc => index_short x W h8 hc
end Go.Proofs.YtaieapldokkdnabGreatDoor

/- strings.ContainsAny at the two bytes of CollPoints, at every string of at most 4000 bytes. -/
import Derived.Test.YtgjjmapfdijphaaDoorShelfPt
import Derived.Test.YtgjjmapfdijphaaDoorCoTwo
import Derived.Test.YtgjjmapfdijphaaDoorCoUtf
import Derived.Deep.WholeRow
import Derived.Laws.Runes
import Derived.WalkMore
import Derived.Deep.QuietTactic
import Derived.BigQuiet
namespace Go.Proofs.YtgjjmapfdijphaaDoor
open Go.RowKit Go.Lib

def hitB (b : UInt8) : Bool := b == 97 || b == 45
def hasB (l : List UInt8) : Bool := l.any hitB
theorem hitB_in (b : UInt8) : hitB b = ([97, 45] : List UInt8).contains b := by rw [Bool.eq_iff_iff]; unfold hitB; simp
theorem any_has : ∀ l : List UInt8, decide (0 ≤ indexAny l [97, 45]) = hasB l
  | [] => rfl
  | b :: l => by
    have ih := any_has l
    have hge := indexAny_ge [97, 45] l
    unfold indexAny hasB
    rw [List.any_cons, hitB_in]
    by_cases h : ([97, 45] : List UInt8).contains b = true
    · rw [if_pos h, h]; rfl
    · rw [if_neg h, Bool.not_eq_true _ |>.mp h, Bool.false_or]
      have ih' : l.any hitB = decide (0 ≤ indexAny l [97, 45]) := ih.symm
      rw [ih']
      split
      · rename_i h2
        rw [eq_of_beq h2]
      · rename_i h2
        have : indexAny l [97, 45] ≠ -1 := fun e => h2 (by rw [e]; rfl)
        rw [Bool.eq_iff_iff, decide_eq_true_iff, decide_eq_true_iff]
        omega
theorem hasB_no (l : List UInt8) (h : hasB l = false) : (97 : UInt8) ∉ l ∧ (45 : UInt8) ∉ l := by
  unfold hasB at h
  rw [List.any_eq_false] at h
  exact ⟨fun hm => h _ hm rfl, fun hm => h _ hm rfl⟩
theorem two_ascii : ∀ (j : Nat) b, (⟨#[97, 45]⟩ : ByteArray).data.toList[j]? = some b → b.toNat < 128 := by
  intro j b h
  match j, h with
  | 0, h => simp at h; rw [← h]; decide
  | 1, h => simp at h; rw [← h]; decide
  | j + 2, h => simp at h
theorem decodeN_ok (n b0 b1 b2 b3 : Nat) (h0 : b0 < 256) : (decodeN n b0 b1 b2 b3).1 < 55296 ∨ (57343 < (decodeN n b0 b1 b2 b3).1 ∧ (decodeN n b0 b1 b2 b3).1 ≤ 1114111) := by
  unfold decodeN
  repeat' split
  all_goals (simp only; omega)
/-- One step through a string: it finds one of the two bytes, or goes on. -/
theorem has_step (x : ByteArray) (pos : Nat) (hp : pos < x.size) :
    (((Utf8.decode x pos).1 = 97 ∨ (Utf8.decode x pos).1 = 45) ∧ hasB (x.data.toList.drop pos) = true) ∨
    ((Utf8.decode x pos).1 ≠ 97 ∧ (Utf8.decode x pos).1 ≠ 45 ∧ hasB (x.data.toList.drop pos) = hasB (x.data.toList.drop (pos + (Utf8.decode x pos).2))) := by
  have hl : pos < x.data.toList.length := by rw [← size_eq]; exact hp
  have hd : Utf8.decode x pos = decodeL (x.data.toList.drop pos) := (decodeL_drop x pos).symm
  rw [hd, ← List.drop_drop]
  cases hc : x.data.toList.drop pos with
  | nil => have := congrArg List.length hc; rw [List.length_drop] at this; simp at this; omega
  | cons b t =>
    rcases step_bytes b t with ⟨h1, h2⟩ | ⟨h1, h2⟩
    · rw [h1]
      simp only
      by_cases hb : hitB b = true
      · left
        have hb' := hb
        unfold hitB at hb'
        rw [Bool.or_eq_true, beq_iff_eq, beq_iff_eq] at hb'
        refine ⟨by rcases hb' with rfl | rfl; exact .inl rfl; exact .inr rfl, ?_⟩
        unfold hasB
        rw [List.any_cons, hb]; rfl
      · right
        have hb' : hitB b = false := by simpa using hb
        refine ⟨fun e => hb ?_, fun e => hb ?_, ?_⟩
        · rw [UInt8.toNat_inj.1 (show b.toNat = (97 : UInt8).toNat from e)]; rfl
        · rw [UInt8.toNat_inj.1 (show b.toNat = (45 : UInt8).toNat from e)]; rfl
        · unfold hasB
          rw [List.any_cons, hb']; rfl
    · right
      refine ⟨by omega, by omega, ?_⟩
      have hsp : b :: t = (b :: t).take (decodeL (b :: t)).2 ++ (b :: t).drop (decodeL (b :: t)).2 := (List.take_append_drop _ _).symm
      have hnone : ((b :: t).take (decodeL (b :: t)).2).any hitB = false := by
        rw [List.any_eq_false]
        intro y hy hh
        have := h2 y hy
        unfold hitB at hh
        rw [Bool.or_eq_true, beq_iff_eq, beq_iff_eq] at hh
        rcases hh with rfl | rfl
        · exact absurd this (by decide)
        · exact absurd this (by decide)
      unfold hasB
      conv => lhs; rw [hsp]
      rw [List.any_append, hnone, Bool.false_or]
theorem none_of (c : UInt8) (hc : 128 ≤ c.toNat) (l : List UInt8) (hl : ∀ b ∈ l, b.toNat < 128) : Lib.indexByte l c = -1 := by
  induction l with
  | nil => rfl
  | cons b t ih =>
    have h1 : b ≠ c := fun e => by have := hl b (by simp); rw [e] at this; omega
    have h2 := ih (fun x hx => hl x (by simp [hx]))
    unfold Lib.indexByte
    simp [h1, h2]
theorem rune_low (R : Nat) (W : World) (h : R < 128) :
    Calls Tryd.prog 58 #[.string ⟨#[97, 45]⟩, .int .i32 R] W fun e w' => (∃ r : Int, e = .returned (.int .i64 r) ∧ decide (0 ≤ r) = decide (R = 97 ∨ R = 45)) ∧ Below W.heap.size W w' := by
  refine (Tryd.strings_IndexRune_ascii ⟨#[97, 45]⟩ R W (by omega) (by omega)).mono ?_
  rintro e w' ⟨rfl, rfl⟩
  refine ⟨⟨_, rfl, ?_⟩, Below.refl _ _⟩
  have : ∀ R : Fin 128, decide (0 ≤ Lib.indexByte (⟨#[97, 45]⟩ : ByteArray).data.toList ((R.val : Int).toNat.toUInt8)) = decide (R.val = 97 ∨ R.val = 45) := by decide
  exact this ⟨R, h⟩
set_option maxRecDepth 1000000 in
set_option maxHeartbeats 2000000 in
theorem rune_wrong (W : World) :
    Calls Tryd.prog 58 #[.string ⟨#[97, 45]⟩, .int .i32 65533] W fun e w' => e = .returned (.int .i64 (-1)) ∧ Below W.heap.size W w' := by
  go_enter Tryd.func58, Tryd.ntmps58
  go_wp2_with fail
  go_loopg [5, 6] 2 (fun g _ _ wx => ∃ i : Nat, i + g = 2 ∧ wx = W.iter ⟨#[97, 45]⟩ i)
  case atStart => exact ⟨0, rfl, rfl⟩
  case round =>
    obtain ⟨i, hig, rfl⟩ := hrel
    by_cases h0 : i = 0
    · subst h0
      obtain rfl : gk = 2 := by omega
      have hnx := fun ty => run_next_ascii (P := Tryd.prog) W ⟨#[97, 45]⟩ 0 ty (by decide) (by decide)
      go_wp2_with fail
      go_roundg 1
      case measure => omega
      case rel => exact ⟨1, rfl, rfl⟩
    · by_cases h1 : i = 1
      · subst h1
        obtain rfl : gk = 1 := by omega
        have hnx := fun ty => run_next_ascii (P := Tryd.prog) W ⟨#[97, 45]⟩ 1 ty (by decide) (by decide)
        go_wp2_with fail
        go_roundg 0
        case measure => omega
        case rel => exact ⟨2, rfl, rfl⟩
      · obtain rfl : gk = 0 := by omega
        obtain rfl : i = 2 := by omega
        have hnx := run_next_end (P := Tryd.prog) W ⟨#[97, 45]⟩ 2
        go_wp2_with fail
        go_ret
        exact ⟨rfl, (Below.refl _ _).alloc (Nat.le_refl _) _⟩
theorem index_byte_none (s : ByteArray) (C : Nat) (w : World) (hs : s.data.toList.all (fun b => decide (b.toNat < 128)) = true) (h1 : 128 ≤ C) (h2 : C < 256) :
    Calls Tryd.prog 79 #[.string s, .int .u8 (C : Int)] w fun e w' => e = .returned (.int .i64 (-1)) ∧ w' = w := by
  refine (Tryd.strings_IndexByte s (C : Int) w).mono ?_
  rintro e w' ⟨rfl, rfl⟩
  refine ⟨?_, rfl⟩
  rw [none_of ((C : Int).toNat.toUInt8) (by simp; omega) _ (fun b hb => by simpa using List.all_eq_true.1 hs b hb)]
set_option maxRecDepth 1000000 in
set_option maxHeartbeats 4000000 in
theorem rune_other (R : Nat) (W : World) (h128 : 128 ≤ R) (hv : R < 55296 ∨ (57344 ≤ R ∧ R ≤ 1114111)) (hne : R ≠ 65533) :
    Calls Tryd.prog 58 #[.string ⟨#[97, 45]⟩, .int .i32 R] W fun e w' => e = .returned (.int .i64 (-1)) ∧ Below W.heap.size W w' := by
  have hF := encode_facts (R : Int) (by unfold Utf8.valid; simp; omega) (by omega)
  have cV := fun w => Tryd.utf8_ValidRune (R : Int) w
  rw [show Lib.validRune (R : Int) = true by unfold Lib.validRune; rw [decide_eq_true_iff]; omega] at cV
  have hne' : ((R : Int) == 65533) = false := by rw [beq_eq_false_iff_ne]; omega
  have hd : decide ((R : Int) < 128) = false := by rw [decide_eq_false_iff_not]; omega
  clear hv
  obtain ⟨bs, hbs⟩ : ∃ bs, Utf8.encode (R : Int) = bs := ⟨_, rfl⟩
  rw [hbs] at hF
  obtain ⟨f1, f2, f3⟩ := hF
  have hz := (by omega : bs.size = 2 ∨ bs.size = 3 ∨ bs.size = 4)
  clear f1 f2
  rcases hz with hz | hz | hz
  · have hlt : 1 < bs.size := by omega
    have hc : 128 ≤ (bs[1]).toNat := by have := f3 (by omega); simpa [hz] using this
    have hL := (bs[1]).toNat_lt
    have hI : ∀ w, (Instr.index 9 (.string bs) (.int .i64 1)).run Tryd.prog w = .ok (.int .u8 ((bs[1]).toNat : Int)) w := fun w => by
      rw [run_index_string (P := Tryd.prog) (w := w) 9 bs .i64 1 Tryd.underlying9, dif_pos (by omega)]; rfl
    have hS : ∀ w, (Instr.index 9 (.string ⟨#[97, 45]⟩) (.int .i64 1)).run Tryd.prog w = .ok (.int .u8 45) w := fun w => by
      rw [run_index_string (P := Tryd.prog) (w := w) 9 ⟨#[97, 45]⟩ .i64 1 Tryd.underlying9, dif_pos (by decide)]; rfl
    obtain ⟨C, hC⟩ : ∃ C : Nat, (bs[1]).toNat = C := ⟨_, rfl⟩
    rw [hC] at hI hc hL
    clear hC f3
    have cB := fun w => index_byte_none ((⟨#[97, 45]⟩ : ByteArray).extract 2 2) C w (by decide) hc hL
    have hn2 : ((45 : Int) != (C : Int)) = true := by rw [bne_iff_ne]; omega
    go_enter Tryd.func58, Tryd.ntmps58
    go_wp2_with fail
    refine (cV _).mono ?_
    rintro e w1 ⟨rfl, rfl⟩
    go_wp2_with fail
    go_step3
    go_wp2_with fail
    refine wp_loop_rounds 1 ?_
    rw [rounds_succ]
    go_wp2_with fail
    go_step3
    go_wp2_with fail
    go_quiet (fail)
    have hb2 := below_drewN (Below.refl w1.heap.size w1) nq
    generalize w1.drewN nq = W2 at hb2 ⊢
    go_wp2_with fail
    go_quiet ((go_at_call 79; exact Calls.quiet_of_same (cB _)))
    go_wp2_with fail
    rw [Exit.noGoto_ret]
    go_wp2_with fail
    rw [Exit.noGoto_ret]
    go_ret
    exact ⟨rfl, below_drewN hb2 nq⟩
  · clear f3
    go_enter Tryd.func58, Tryd.ntmps58
    go_wp2_with fail
    refine (cV _).mono ?_
    rintro e w1 ⟨rfl, rfl⟩
    go_wp2_with fail
    go_step3
    go_wp2_with fail
    refine wp_loop_rounds 1 ?_
    rw [rounds_succ]
    go_wp2_with fail
    rw [Exit.noGoto_ret]
    go_ret
    exact ⟨rfl, Below.refl _ _⟩
  · clear f3
    go_enter Tryd.func58, Tryd.ntmps58
    go_wp2_with fail
    refine (cV _).mono ?_
    rintro e w1 ⟨rfl, rfl⟩
    go_wp2_with fail
    go_step3
    go_wp2_with fail
    refine wp_loop_rounds 1 ?_
    rw [rounds_succ]
    go_wp2_with fail
    rw [Exit.noGoto_ret]
    go_ret
    exact ⟨rfl, Below.refl _ _⟩
theorem rune_any (R : Nat) (W : World) (hv : R < 55296 ∨ (57343 < R ∧ R ≤ 1114111)) :
    Calls Tryd.prog 58 #[.string ⟨#[97, 45]⟩, .int .i32 R] W fun e w' => (∃ r : Int, e = .returned (.int .i64 r) ∧ decide (0 ≤ r) = decide (R = 97 ∨ R = 45)) ∧ Below W.heap.size W w' := by
  by_cases h1 : R < 128
  · exact rune_low R W h1
  · have hn : decide (0 ≤ (-1 : Int)) = decide (R = 97 ∨ R = 45) := by
      rw [decide_eq_false (show ¬ (R = 97 ∨ R = 45) by omega)]; rfl
    by_cases h2 : R = 65533
    · subst h2
      refine (rune_wrong W).mono ?_
      rintro e w' ⟨rfl, hb⟩
      exact ⟨⟨_, rfl, hn⟩, hb⟩
    · refine (rune_other R W (by omega) (by omega) h2).mono ?_
      rintro e w' ⟨rfl, hb⟩
      exact ⟨⟨_, rfl, hn⟩, hb⟩
theorem should_not (n : Nat) (w : World) (h : n ≤ 8) : Calls Tryd.prog 59 #[.int .i64 n] w fun e w' => e = .returned (.bool false) ∧ w = w' := by
  have h' : decide ((8 : Int) < (n : Int)) = false := by rw [decide_eq_false_iff_not]; omega
  go_enter Tryd.func59, Tryd.ntmps59
  go_wp2
  go_ret
  exact ⟨rfl, rfl⟩
set_option maxRecDepth 1000000 in
set_option maxHeartbeats 2000000 in
theorem index_short (x : ByteArray) (W : World) (h8 : x.size ≤ 8) :
    Calls Tryd.prog 38 #[.string x, .string ⟨#[97, 45]⟩] W fun e w' => (∃ r : Int, e = .returned (.int .i64 r) ∧ decide (0 ≤ r) = hasB x.data.toList) ∧ Below W.heap.size W w' := by
  have cS := fun w => should_not x.size w h8
  obtain ⟨ANS, hA⟩ : ∃ R, hasB x.data.toList = R := ⟨_, rfl⟩
  rw [hA]
  have HA := Lib.hid (show hasB (x.data.toList.drop 0) = ANS from hA)
  clear hA
  go_enter Tryd.func38, Tryd.ntmps38
  go_wp2_with (go_at_call 59; refine (cS _).mono ?_; rintro e w1 ⟨rfl, rfl⟩)
  go_loopg [9, 10] x.size (fun g _ _ wx => ∃ pos : Nat, wx.heap[W.heap.size]? = some (.stringIter x pos) ∧ Below W.heap.size W wx ∧ x.size ≤ pos + g ∧ Hid (hasB (x.data.toList.drop pos) = ANS))
  case atStart => exact ⟨0, World.iter_heap W x 0, iter_below W x 0, by omega, HA⟩
  case round =>
    clear HA
    obtain ⟨pos, hit, hbw, hgf, HK⟩ := hrel
    by_cases hlt : pos < x.size
    · obtain ⟨g, rfl⟩ : ∃ g, gk = g + 1 := ⟨gk - 1, by omega⟩
      have hnx : ∀ ty, (Instr.next (.pointer (some ⟨W.heap.size, 0, none⟩)) true ty).run Tryd.prog wr = _ := fun ty => Lib.run_next_any_at wr W.heap.size x pos ty hit hlt
      have hw := width_pos x pos
      have hst := has_step x pos hlt
      rw [HK.out] at hst
      have hv := decodeN_ok (x.size - pos) (x.get! pos).toNat (x.get! (pos + 1)).toNat (x.get! (pos + 2)).toNat (x.get! (pos + 3)).toNat (UInt8.toNat_lt _)
      rw [← decode_at] at hv
      obtain ⟨R, hR⟩ : ∃ R, (Utf8.decode x pos).1 = R := ⟨_, rfl⟩
      obtain ⟨K, hK⟩ : ∃ K, (Utf8.decode x pos).2 = K := ⟨_, rfl⟩
      rw [hR, hK] at hnx hst
      rw [hR] at hv
      rw [hK] at hw
      clear hR hK HK
      have hit2 := Lib.iterAt_heap wr W.heap.size x pos (pos + K) hit
      have hbw2 := Lib.below_iterAt hbw (k := W.heap.size) (Nat.le_refl _) x (pos + K)
      obtain ⟨W1, hWd⟩ : ∃ W1, wr.iterAt W.heap.size x (pos + K) = W1 := ⟨_, rfl⟩
      rw [hWd] at hnx hit2 hbw2
      have hITW : W.heap.size < W1.heap.size := (Array.getElem?_eq_some_iff.1 hit2).1
      clear hWd hit hbw
      have cR := rune_any R W1 hv
      clear hv
      rcases hst with ⟨h1, h2⟩ | ⟨h1, h2, h3⟩
      · rw [decide_eq_true h1] at cR
        subst h2
        clear h1
        go_wp2_with fail
        refine cR.mono ?_
        rintro e w2 ⟨⟨r, rfl, hr⟩, hb2⟩
        have hr2 : 0 ≤ r := by simpa using hr
        have hp0 : decide (0 ≤ (pos : Int)) = true := by rw [decide_eq_true_iff]; omega
        clear hr
        go_wp2_with fail
        go_ret
        exact ⟨⟨_, rfl, hp0⟩, hbw2.trans (hb2.mono (by omega))⟩
      · rw [decide_eq_false (show ¬ (R = 97 ∨ R = 45) by omega)] at cR
        have HK2 := Lib.hid h3.symm
        clear h3 h1 h2
        go_wp2_with fail
        refine cR.mono ?_
        rintro e w2 ⟨⟨r, rfl, hr⟩, hb2⟩
        have hr2 : ¬ 0 ≤ r := by simpa using hr
        clear hr
        go_wp2_with fail
        go_roundg g
        case measure => omega
        case rel => exact ⟨pos + K, (hb2.block _ hITW).trans hit2, hbw2.trans (hb2.mono (by omega)), by omega, HK2⟩
    · have hnx : ∀ ty, (Instr.next (.pointer (some ⟨W.heap.size, 0, none⟩)) true ty).run Tryd.prog wr = _ := fun ty => Lib.run_next_end_at wr W.heap.size x pos ty hit hlt
      have hk := HK.out
      rw [List.drop_eq_nil_of_le (by rw [← size_eq]; omega)] at hk
      subst hk
      go_wp2
      go_ret
      exact ⟨⟨_, rfl, rfl⟩, hbw⟩
theorem index_long (x : ByteArray) (W : World) (h8 : 8 < x.size) (hs : x.size ≤ 4000) :
    Calls Tryd.prog 38 #[.string x, .string ⟨#[97, 45]⟩] W fun e w' => (∃ r : Int, e = .returned (.int .i64 r) ∧ decide (0 ≤ r) = hasB x.data.toList) ∧ Below W.heap.size W w' := by
  have hz := zero_of_info (P := Tryd.prog) (t := 98) (v := .agg (Array.replicate 256 (.bool false))) (n := 256) (by kernel_rfl)
  refine (Tryd.strings_IndexAny_long hz.1 x ⟨#[97, 45]⟩ W (by decide) h8 (by omega) (by decide) two_ascii).mono ?_
  rintro e w' ⟨rfl, rfl⟩
  exact ⟨⟨_, rfl, by rw [show (⟨#[97, 45]⟩ : ByteArray).data.toList = [97, 45] from rfl, any_has]⟩, ((Below.refl _ _).alloc (Nat.le_refl _) _).alloc (by simp) _⟩
theorem containsAny_any (x : ByteArray) (W : World) (hs : x.size ≤ 4000) :
    Calls Tryd.prog 20 #[.string x, .string ⟨#[97, 45]⟩] W fun e w' => e = .returned (.bool (hasB x.data.toList)) ∧ Below W.heap.size W w' := by
  have cI : Calls Tryd.prog 38 #[.string x, .string ⟨#[97, 45]⟩] W fun e w' => (∃ r : Int, e = .returned (.int .i64 r) ∧ decide (0 ≤ r) = hasB x.data.toList) ∧ Below W.heap.size W w' := by
    by_cases h8 : 8 < x.size
    · exact index_long x W h8 hs
    · exact index_short x W (by omega)
  obtain ⟨ANS, hA⟩ : ∃ R, hasB x.data.toList = R := ⟨_, rfl⟩
  rw [hA] at cI ⊢
  clear hA
  go_enter Tryd.func20, Tryd.ntmps20
  go_wp2_with fail
  refine cI.mono ?_
  rintro e w' ⟨⟨r, rfl, hr⟩, hw⟩
  subst hr
  go_wp2_with fail
  go_ret
  exact ⟨rfl, hw⟩
end Go.Proofs.YtgjjmapfdijphaaDoor

/- The specification of num: plain facts about the text of digits. The specification of num: plain facts about what text writes, step by step. The specification of num: a row of bytes that grows, and its string. The specification of num: the contract of text. -/
import Derived.Test.YtdfgifnccghlmabGreatDoorMRfB
import Derived.Test.YtdfgifnccghlmabGreatDoorMRfA
import Derived.Laws.IdiomStrings
import Derived.Lib.BufferRead
namespace Go.Proofs.YtdfgifnccghlmabGreatDoor.R
open Go.Proofs.YtdfgifnccghlmabGreatDoor (dg fixed dec fixed_mod dec_zero dec_pos dec_nil bodyL trimE)

theorem dec_R (n : Nat) : dec n = (wordsOf n).reverse.map dg := by
  induction n using Nat.strongRecOn with
  | ind n ih =>
    by_cases h : n = 0
    · subst h; rfl
    · rw [dec_pos n h, wordsOf_pos n h, List.reverse_cons, List.map_append, ih (n / 10) (by omega)]
      rfl
theorem fixed_R : ∀ L : List Nat, Small L → L.reverse.map dg = fixed L.length (val L)
  | [], _ => rfl
  | d :: t, h => by
    have hd := h.head
    rw [List.reverse_cons, List.map_append, fixed_R t h.tail, List.length_cons, fixed, val, show (d + 10 * val t) / 10 = val t by omega, show (d + 10 * val t) % 10 = d by omega]
    rfl
/-- The digits of a number, with zeros ahead, 21 at least. -/
def padL (n : Nat) : List Nat := wordsOf n ++ List.replicate (21 - (wordsOf n).length) 0
theorem pad_small (n : Nat) : Small (padL n) := (small_wordsOf n).app (Small.zeros _)
theorem pad_val (n : Nat) : val (padL n) = n := by unfold padL; rw [val_app, val_zeros, val_wordsOf]; simp
theorem pad_len (n : Nat) : (padL n).length = max 21 (wordsOf n).length := by unfold padL; rw [List.length_append, List.length_replicate]; omega
theorem pad_low (n : Nat) : ((padL n).take 20).reverse.map dg = fixed 20 n := by
  have h1 := pad_len n
  obtain ⟨_, h2⟩ := val_parts (padL n) (pad_small n) 20 (by omega)
  rw [fixed_R _ ((pad_small n).take 20), List.length_take, Nat.min_eq_left (by omega), h2, pad_val, fixed_mod]
theorem pad_high (n : Nat) : ((padL n).drop 20).reverse.map dg = if dec (n / 10 ^ 20) = [] then [48] else dec (n / 10 ^ 20) := by
  have h1 := pad_len n
  obtain ⟨h3, _⟩ := val_parts (padL n) (pad_small n) 20 (by omega)
  rw [pad_val] at h3
  by_cases hl : (wordsOf n).length ≤ 20
  · have hn : n < 10 ^ 20 := Nat.lt_of_lt_of_le (words_lt n) (Nat.pow_le_pow_right (by omega) hl)
    have h0 : n / 10 ^ 20 = 0 := Nat.div_eq_of_lt hn
    rw [h0, dec_zero, if_pos rfl]
    unfold padL
    rw [List.drop_append, List.drop_eq_nil_of_le hl, List.nil_append, List.drop_replicate, show 21 - (wordsOf n).length - (20 - (wordsOf n).length) = 1 by omega]
    rfl
  · have hp : padL n = wordsOf n := by unfold padL; rw [show 21 - (wordsOf n).length = 0 by omega, List.replicate_zero, List.append_nil]
    rw [hp] at h3 ⊢
    have hw : wordsOf (n / 10 ^ 20) = (wordsOf n).drop 20 := by
      rw [← h3]
      refine wordsOf_val _ ((small_wordsOf n).drop 20) (fun w hw => wordsOf_last n w ?_)
      rw [List.getLast?_drop] at hw
      split at hw
      · cases hw
      · exact hw
    have hne : dec (n / 10 ^ 20) ≠ [] := by
      rw [dec_R, hw]
      intro h
      have := congrArg List.length h
      simp at this
      omega
    rw [if_neg hne, dec_R, hw]
end Go.Proofs.YtdfgifnccghlmabGreatDoor.R
namespace Go.Proofs.YtdfgifnccghlmabGreatDoor.R
open Go.Proofs.YtdfgifnccghlmabGreatDoor (dg dg_zero fixed dec bodyL trimE trimE_of)

/-- The characters of the digits, the highest first. -/
def chL (P : List Nat) : List UInt8 := P.reverse.map dg
theorem chL_len (P : List Nat) : (chL P).length = P.length := by simp [chL]
/-- What is written of the first i digits, M of which stand before the point. -/
def outL (H : List UInt8) (M i : Nat) : List UInt8 := if i ≤ M then H.take i else H.take M ++ 46 :: (H.drop M).take (i - M)
theorem outL_zero (H : List UInt8) (M : Nat) : outL H M 0 = [] := by unfold outL; rw [if_pos (by omega)]; rfl
theorem outL_point (H : List UInt8) (M : Nat) (c : UInt8) (h : H[M]? = some c) : outL H M M ++ [46] ++ [c] = outL H M (M + 1) := by
  unfold outL
  rw [if_pos (by omega), if_neg (by omega), show M + 1 - M = 1 by omega, List.append_assoc]
  congr 1
  show [46, c] = 46 :: (H.drop M).take 1
  congr 1
  obtain ⟨hM, he⟩ := List.getElem?_eq_some_iff.1 h
  rw [List.drop_eq_getElem_cons hM, he]
  rfl
theorem outL_next (H : List UInt8) (M i : Nat) (hi : i ≠ M) (c : UInt8) (h : H[i]? = some c) : outL H M i ++ [c] = outL H M (i + 1) := by
  obtain ⟨hiH, he⟩ := List.getElem?_eq_some_iff.1 h
  unfold outL
  by_cases h1 : i < M
  · rw [if_pos (by omega), if_pos (by omega), List.take_add_one, List.getElem?_eq_getElem hiH, he]
    rfl
  · rw [if_neg (by omega), if_neg (by omega), List.append_assoc, show i + 1 - M = (i - M) + 1 by omega, List.take_add_one, List.getElem?_drop, show M + (i - M) = i by omega, h]
    rfl
/-- The digits behind the point, without the lowest j. -/
def fracL (P : List Nat) (j : Nat) : List UInt8 := chL ((P.take 20).drop j)
theorem frac_zero (n : Nat) : trimE (fracL (padL n) 0) = trimE (fixed 20 n) := by
  unfold fracL chL
  rw [List.drop_zero, pad_low]
theorem trimE_snoc (l : List UInt8) : trimE (l ++ [48]) = trimE l := by
  unfold trimE
  rw [List.reverse_append]
  rfl
theorem frac_step (P : List Nat) (j : Nat) (hj : j < 20) (hP : 20 ≤ P.length) : fracL P j = fracL P (j + 1) ++ [dg (P.getD j 0)] := by
  unfold fracL chL
  have hl : j < (P.take 20).length := by rw [List.length_take]; omega
  rw [List.drop_eq_getElem_cons hl, List.reverse_cons, List.map_append]
  congr 1
  rw [List.getElem_take, List.getD_eq_getElem?_getD, List.getElem?_eq_getElem (by omega)]
  rfl
theorem frac_more (P : List Nat) (j : Nat) (hj : j < 20) (hP : 20 ≤ P.length) (h0 : P.getD j 0 = 0) : trimE (fracL P (j + 1)) = trimE (fracL P j) := by
  rw [frac_step P j hj hP, h0, show dg 0 = 48 from rfl, trimE_snoc]
theorem frac_stop (P : List Nat) (j : Nat) (hj : j < 20) (hP : 20 ≤ P.length) (h9 : P.getD j 0 < 10) (h0 : P.getD j 0 ≠ 0) : trimE (fracL P j) = fracL P j := by
  rw [frac_step P j hj hP]
  have := trimE_of (fracL P (j + 1) ++ [dg (P.getD j 0)]) 0 (fun b hb => by
    rw [List.getLast?_concat] at hb
    cases hb
    exact fun h => h0 ((dg_zero _ h9).1 h))
  simpa using this
theorem frac_end (P : List Nat) : trimE (fracL P 20) = fracL P 20 := by
  unfold fracL
  rw [List.drop_eq_nil_of_le (by rw [List.length_take]; omega)]
  rfl
/-- All that is written. -/
theorem out_all (n j : Nat) (hj : j ≤ 20) (h : trimE (fracL (padL n) j) = trimE (fixed 20 n)) (he : trimE (fracL (padL n) j) = fracL (padL n) j) : outL (chL (padL n)) ((padL n).length - 20) ((padL n).length - j) = bodyL n := by
  have hN := pad_len n
  have hP : 20 ≤ (padL n).length := by omega
  have hH : (chL (padL n)).take ((padL n).length - 20) = chL ((padL n).drop 20) := by
    unfold chL
    rw [← List.map_take, List.take_reverse, show (padL n).length - ((padL n).length - 20) = 20 by omega]
  have hD : (chL (padL n)).drop ((padL n).length - 20) = chL ((padL n).take 20) := by
    unfold chL
    rw [← List.map_drop, List.drop_reverse, show (padL n).length - ((padL n).length - 20) = 20 by omega]
  have hF : fracL (padL n) j = trimE (fixed 20 n) := he.symm.trans h
  have hfl : (fracL (padL n) j).length = 20 - j := by unfold fracL; rw [chL_len, List.length_drop, List.length_take]; omega
  have hhi : chL ((padL n).drop 20) = if dec (n / 10 ^ 20) = [] then [48] else dec (n / 10 ^ 20) := pad_high n
  have hQ : ((padL n).take 20).length = 20 := by rw [List.length_take]; omega
  have hT : (chL ((padL n).take 20)).take (20 - j) = fracL (padL n) j := by
    unfold fracL chL
    rw [← List.map_take, List.take_reverse, hQ, show 20 - (20 - j) = j by omega]
  unfold outL bodyL
  rw [hH, hD, hhi, ← hF]
  generalize (if dec (n / 10 ^ 20) = [] then [48] else dec (n / 10 ^ 20)) = HI at *
  by_cases h20 : j = 20
  · subst h20
    have hnil : fracL (padL n) 20 = [] := List.eq_nil_of_length_eq_zero (by rw [hfl])
    rw [if_pos (Nat.le_refl _), hH, hnil, if_pos rfl, List.append_nil]
    exact hhi
  · have hne : fracL (padL n) j ≠ [] := fun e => by
      rw [e] at hfl
      simp only [List.length_nil] at hfl
      omega
    rw [if_neg (by omega), if_neg hne, show (padL n).length - j - ((padL n).length - 20) = 20 - j by omega, hT]
end Go.Proofs.YtdfgifnccghlmabGreatDoor.R
namespace Go.Proofs.YtdfgifnccghlmabGreatDoor.R
open Go.RowKit Go.Lib

def bL (l : List UInt8) : List Value := l.map fun b => Value.int .u8 (b.toNat : Int)
theorem infoU8 : (Tryz.prog.info? 5).map (fun i => (i.zero, i.size, i.bytes)) = some (some (.int .u8 0), 1, 1) := by kernel_rfl
/-- A row of bytes of one's own. -/
def Bt (w : World) (base : Nat) (v : Value) (l : List UInt8) : Prop := w.ownsRow base 5 1 v l.length (bL l)
theorem Bt.nil (w : World) (base : Nat) : Bt w base (.slice none 0 0) [] := World.ownsRow_nil w base _ _
theorem Bt.shape {w : World} {base : Nat} {v : Value} {l : List UInt8} (h : Bt w base v l) : ∃ a cap, v = .slice a l.length cap := by
  rcases h.2 with ⟨rfl, h0⟩ | ⟨g, cap, cur, rfl, _⟩
  · exact ⟨none, 0, by rw [h0]⟩
  · exact ⟨_, cap, rfl⟩
theorem append_byte (base : Nat) (v : Value) (l : List UInt8) (b : UInt8) (hl : l.length ≤ 1000000) (w : World) (h : Bt w base v l) (hb : base ≤ w.heap.size) :
    ∃ v' w', (Builtin.append_ #[62, 62] 62 #[v, .slice (some ⟨w.heap.size, 0, none⟩) 1 1]).run Tryz.prog (w.alloc (.cells #[.int .u8 (b.toNat : Int)] 5)) = .ok v' w' ∧ Bt w' base v' (l ++ [b]) ∧ (∀ a, Below base a w → Below base a w') ∧ w.heap.size ≤ w'.heap.size := by
  obtain ⟨i, hi, hh⟩ := Option.map_eq_some_iff.1 infoU8
  simp only [Prod.mk.injEq] at hh
  obtain ⟨hz, hs, hby⟩ := hh
  have ho := World.ownsRow.alloc h (.cells #[.int .u8 (b.toNat : Int)] 5)
  obtain ⟨v', w', h1, h2, h3, _, _⟩ := run_append_own_at (P := Tryz.prog) (w.alloc (.cells #[.int .u8 (b.toNat : Int)] 5)) base 62 62 5 i _ 1 1 Tryz.underlying62 hi hz hs hby rfl (by omega) v l.length (bL l) ho ⟨w.heap.size, 0, none⟩ 1 1 [.int .u8 (b.toNat : Int)] rfl (cell_one_new w _ _) (fun u hu => by simp at hu; subst hu; rfl) (by unfold maxLen; omega) (by omega) (by rw [World.size_alloc]; omega)
  refine ⟨v', w', h1, ?_, fun a ha => (ha.alloc hb _).grown h3 (by rw [World.size_alloc]; omega) (fun j hj => (ho.lt j hj).1), ?_⟩
  · unfold Bt
    rw [List.length_append, show bL (l ++ [b]) = bL l ++ [.int .u8 (b.toNat : Int)] by simp [bL]]
    exact h2
  · have := h3.size
    rw [World.size_alloc] at this
    omega
theorem string_of {w : World} {base : Nat} {v : Value} {l : List UInt8} (h : Bt w base v l) : (convert 62 9 v).run Tryz.prog w = .ok (.string ⟨l.toArray⟩) w := by
  rcases h.2 with ⟨rfl, h0⟩ | ⟨g, cap, cur, rfl, _, hgb, _, _, hsz, htk⟩
  · have : l = [] := List.eq_nil_of_length_eq_zero h0
    subst this
    exact run_convert_nil_bytes w _ _ 5 0 Tryz.underlying62 Tryz.underlying5 Tryz.underlying9
  · refine run_convert_bytes_back w _ _ 5 ⟨g, 0, none⟩ cap l Tryz.underlying62 Tryz.underlying5 Tryz.underlying9 (fun j hj => ?_)
    have k := h.cells (g := g) rfl j (.int .u8 (l[j].toNat : Int)) (by unfold bL; rw [List.getElem?_map, List.getElem?_eq_getElem hj]; rfl)
    exact k
end Go.Proofs.YtdfgifnccghlmabGreatDoor.R
namespace Go.Proofs.YtdfgifnccghlmabGreatDoor.R
open Go.RowKit Go.Lib
open Go.Proofs.YtdfgifnccghlmabGreatDoor (trimW lt_of_cell below_drewN heap_drewN dg dg_nat fixed dec bodyL trimE)

theorem outL_len (H : List UInt8) (M i : Nat) : (outL H M i).length ≤ H.length + 1 := by
  unfold outL
  split
  · rw [List.length_take]; omega
  · simp only [List.length_append, List.length_cons, List.length_take, List.length_drop]; omega
set_option maxHeartbeats 8000000 in
set_option maxRecDepth 100000 in
theorem text_any (neg : Bool) (n : Nat) (v : Value) (hl9 : (wordsOf n).length ≤ 1000) (w : World) (hv : Digs w v (wordsOf n)) :
    Calls Tryz.prog 71 #[.agg #[.bool neg, v]] w fun e w' => e = .returned (.string ⟨((if neg = true then [45] else []) ++ bodyL n).toArray⟩) ∧ Below w.heap.size w w' := by
  obtain ⟨p1, c1, rfl⟩ := hv.shape
  obtain ⟨l1, hl1⟩ : ∃ x, (wordsOf n).length = x := ⟨_, rfl⟩
  rw [hl1] at hv hl9 ⊢
  obtain ⟨W1, hW1⟩ : ∃ W1, w.alloc (.cells #[.bool neg, .slice p1 l1 c1] 86) = W1 := ⟨_, rfl⟩
  have hb1 : Below w.heap.size w W1 := by rw [← hW1]; exact (Below.refl _ _).alloc (Nat.le_refl _) _
  have z0 : W1.cell? ⟨w.heap.size, 0, none⟩ = some (.bool neg) := by rw [← hW1]; simp [go_sem]
  have z1 : W1.cell? ⟨w.heap.size, 1, none⟩ = some (.slice p1 l1 c1) := by rw [← hW1]; simp [go_sem]
  have hv1 := hv.later hb1
  have HD0 := Lib.hid (show Digs W1 (.slice p1 l1 c1) (wordsOf n ++ List.replicate 0 0) by rw [List.replicate_zero, List.append_nil]; exact hv1)
  have HL := Lib.hid hl1
  have hN9 : max 21 l1 ≤ 1021 := by omega
  clear hv hv1 hl1
  go_enter Tryz.func71, Tryz.ntmps71
  go_wp2_with fail
  try rw [hW1]
  clear hW1
  go_loopg [3] (21 - l1) (fun g s3 wx => ∃ i : Nat, i + g = 21 - l1 ∧ Hid (Digs wx s3 (wordsOf n ++ List.replicate i 0)) ∧ Below W1.heap.size W1 wx)
  case atStart => exact ⟨0, by omega, HD0, Below.refl _ _⟩
  case round =>
    clear HD0
    obtain ⟨i, hig, HD, hbx⟩ := hrel
    obtain ⟨pa, ca, hs⟩ := HD.out.shape
    have hlen : (wordsOf n ++ List.replicate i 0).length = l1 + i := by rw [List.length_append, List.length_replicate, HL.out]
    rw [hlen] at hs
    subst hs
    obtain ⟨N, hN⟩ : ∃ N, l1 + i = N := ⟨_, rfl⟩
    rw [hN] at hlen HD ⊢
    by_cases hlt : N < 21
    · obtain ⟨g, rfl⟩ : ∃ g, gk = g + 1 := ⟨gk - 1, by omega⟩
      have hil : (N : Int) < 21 := by omega
      have hbA : Below wr.heap.size wr (wr.alloc (.cells #[.int .i64 0] 3)) := (Below.refl _ _).alloc (Nat.le_refl _) _
      obtain ⟨v2, w2, hr2, ho2, hg2⟩ := append_digs_own wr.heap.size _ (.slice pa N ca) 1 (iL [0]) (wordsOf n ++ List.replicate i 0) (by omega) (wr.alloc (.cells #[.int .i64 0] 3)) (owns_one wr 0) (HD.out.later hbA) (by simp) 84
      have hb2 := owns_belowI hbA (owns_one wr 0) hg2 (by simp)
      have HD2 := Lib.hid (show Digs w2 v2 (wordsOf n ++ List.replicate (i + 1) 0) by
        rw [List.replicate_succ', ← List.append_assoc]
        refine Digs.of_owns (B := wr.heap.size) ?_
        rw [iL_app, List.length_append, List.length_singleton, Nat.add_comm]
        exact ho2)
      have H2 := Lib.hid hr2
      have hbx2 := hbx.trans (hb2.mono hbx.size)
      clear hr2 ho2 hg2 hb2 hbA HD hlen
      go_wp2_with (at_builtin; refine Lib.wpList_append_run _ rfl (.tmp 12) (.tmp 13) 84 84 rfl _ _ rfl rfl _ _ H2.out ?_)
      go_roundg g
      case rel => exact ⟨i + 1, by omega, HD2, hbx2⟩
      all_goals omega
    · have hil : ¬ (N : Int) < 21 := by omega
      have hi : i = 21 - l1 := by omega
      have hP : wordsOf n ++ List.replicate i 0 = padL n := by rw [hi]; unfold padL; rw [HL.out]
      have HD3 := HD.out
      rw [hP] at hlen HD3
      obtain ⟨b, o, rfl, hca, hcell⟩ := HD3.hi hlen.symm (by omega)
      have y0 := (hbx.cell (p := ⟨w.heap.size, 0, none⟩) (lt_of_cell z0)).trans z0
      have hbw := hb1.trans (hbx.mono hb1.size)
      have HN := Lib.hid hlen
      have HC := Lib.hid hcell
      have hN9b : N ≤ 1021 := by omega
      clear hN9 hP HD3 HD hlen hcell hi hig hN z0 z1 hbx hb1 HL hl9
      obtain ⟨V, rfl⟩ : ∃ V, V = wr := ⟨_, rfl⟩
      have hbV := hbw
      clear hbw
      obtain ⟨M, hM⟩ : ∃ M, N - 20 = M := ⟨_, rfl⟩
      have hM1 : M + 20 = N := by omega
      have hNz : 20 < (N : Int) := by omega
      clear hM hlt
      cases neg with
      | true =>
        obtain ⟨bv, W2, hr2, hB2, hg2, hs2⟩ := append_byte V.heap.size (.slice none 0 0) [] 45 (by simp) V (Bt.nil _ _) (Nat.le_refl _)
        have hb2 := hg2 _ (Below.refl _ _)
        have HB := Lib.hid (show Bt W2 V.heap.size bv [45] from hB2)
        have H2 := Lib.hid hr2
        clear hr2 hB2 hg2 hs2
        go_wp2_with (at_builtin; refine Lib.wpList_append_run _ rfl (.tmp 17) (.tmp 18) 62 62 rfl _ _ rfl rfl _ _ H2.out ?_)
        clear H2 y0
        go_loopg [5] 20 (fun g s5 wx => ∃ j : Nat, s5 = .int .i64 ((N - j : Nat) : Int) ∧ j + g = 20 ∧ wx = W2 ∧ Hid (trimE (fracL (padL n) j) = trimE (fixed 20 n)))
        case atStart => exact ⟨0, rfl, by omega, rfl, Lib.hid (frac_zero n)⟩
        case round =>
          obtain ⟨j, rfl, hjg, hw, HF⟩ := hrel
          replace hw := hw.symm
          subst hw
          obtain ⟨T, hT⟩ : ∃ T, N - j = T := ⟨_, rfl⟩
          rw [hT]
          have hMN : (N : Int) - 20 = (M : Int) := by omega
          have hT9 : T ≤ 1021 := by omega
          by_cases hj : j < 20
          · obtain ⟨g, rfl⟩ : ∃ g, gk = g + 1 := ⟨gk - 1, by omega⟩
            have hgt : (M : Int) < (T : Int) := by omega
            obtain ⟨T1, hT1⟩ : ∃ T1, T - 1 = T1 := ⟨_, rfl⟩
            have hTz : (T : Int) - 1 = (T1 : Int) := by omega
            have hT1N : (T1 : Int) < (N : Int) := by omega
            have cD := HC.out T1 (by omega)
            have c4 := (hb2.cell (p := ⟨b, o + T1, none⟩) (lt_of_cell cD)).trans cD
            have hP : (padL n).reverse.getD T1 0 = (padL n).getD j 0 := by
              rw [List.getD_eq_getElem?_getD, List.getD_eq_getElem?_getD, List.getElem?_reverse (by rw [HN.out]; omega), HN.out, show N - 1 - T1 = j by omega]
            have hx9 := (pad_small n).getD j
            rw [hP] at c4
            by_cases hx : (padL n).getD j 0 = 0
            · have HF2 := Lib.hid ((frac_more (padL n) j hj (by rw [HN.out]; omega) hx).trans HF.out)
              have HCA := Lib.hid (show (T1 : Int) = ((N - (j + 1) : Nat) : Int) by omega)
              rw [hx] at c4
              clear hP hx hx9 cD hT hT1 HF
              go_wp2_with fail
              go_roundg g
              case rel => exact ⟨j + 1, by rw [HCA.out], by omega, rfl, HF2⟩
              all_goals omega
            · have HOUT := Lib.hid (show outL (chL (padL n)) M T = bodyL n by
                have := out_all n j (by omega) HF.out (frac_stop (padL n) j hj (by rw [HN.out]; omega) hx9 hx)
                rw [HN.out, show N - 20 = M by omega, hT] at this
                exact this)
              have hxi : ¬ (((padL n).getD j 0 : Nat) : Int) = 0 := by omega
              have hxb : ((((padL n).getD j 0 : Nat) : Int) == 0) = false := beq_eq_false_iff_ne.2 hxi
              generalize (padL n).getD j 0 = y at *
              clear hP hT1 HF cD
              go_wp2_with fail
              go_loopg [4, 6] T (fun g s4 s6 wx => ∃ i : Nat, s6 = .int .i64 i ∧ i + g = T ∧ Hid (Bt wx V.heap.size s4 ([45] ++ outL (chL (padL n)) M i)) ∧ Below V.heap.size V wx)
              case atStart => exact ⟨0, rfl, by omega, Lib.hid (by rw [outL_zero, List.append_nil]; exact HB.out), hb2⟩
              case round =>
                clear HB hb2
                obtain ⟨i, rfl, hig, HB, hbx⟩ := hrel
                obtain ⟨ba, bc, hs⟩ := HB.out.shape
                obtain ⟨LN, hLN⟩ : ∃ LN, ([45] ++ outL (chL (padL n)) M i).length = LN := ⟨_, rfl⟩
                rw [hLN] at hs
                subst hs
                clear hLN
                by_cases hlt : i < T
                · obtain ⟨g, rfl⟩ : ∃ g, gk = g + 1 := ⟨gk - 1, by omega⟩
                  have hil : (i : Int) < (T : Int) := by omega
                  have hiN : i < N := by omega
                  have hiNz : (i : Int) < (N : Int) := by omega
                  have cD := HC.out i hiN
                  have hx9 : (padL n).reverse.getD i 0 < 10 := by
                    rw [List.getD_eq_getElem?_getD]
                    cases e : (padL n).reverse[i]? with
                    | none => decide
                    | some x => exact pad_small n x (List.mem_reverse.1 (List.mem_of_getElem? e))
                  have hch : (chL (padL n))[i]? = some (dg ((padL n).reverse.getD i 0)) := by
                    unfold chL
                    rw [List.getElem?_map, List.getD_eq_getElem?_getD, List.getElem?_eq_getElem (by rw [List.length_reverse, HN.out]; exact hiN)]
                    rfl
                  generalize (padL n).reverse.getD i 0 = x at *
                  have hdx := dg_nat x hx9
                  have hdz : ((dg x).toNat : Int) = 48 + (x : Int) := by omega
                  have houtl : ∀ k, ([45] ++ outL (chL (padL n)) M k).length ≤ 5000 := fun k => by
                    have h1 := outL_len (chL (padL n)) M k
                    rw [chL_len, HN.out] at h1
                    rw [List.length_append]
                    have hpl : ([45] : List UInt8).length ≤ 1 := by decide
                    omega
                  by_cases hiM : i = M
                  · subst hiM
                    obtain ⟨v4, w4, hr4, hB4, hg4, hs4⟩ := append_byte V.heap.size _ _ 46 (Nat.le_trans (houtl i) (by omega)) wr HB.out hbx.size
                    obtain ⟨v5, w5, hr5, hB5, hg5, hs5⟩ := append_byte V.heap.size v4 _ (dg x) (by rw [List.length_append]; have := houtl i; have h46 : ([46] : List UInt8).length = 1 := rfl; omega) w4 hB4 (Nat.le_trans hbx.size hs4)
                    rw [hdz] at hr5
                    have hbx5 := hg5 _ (hg4 _ hbx)
                    have HB5 := Lib.hid (show Bt w5 V.heap.size v5 ([45] ++ outL (chL (padL n)) i (i + 1)) by rw [← outL_point _ _ _ hch, ← List.append_assoc, ← List.append_assoc]; exact hB5)
                    have c4 := ((hg4 V (by exact hbx)).cell (p := ⟨b, o + i, none⟩) (lt_of_cell cD)).trans cD
                    have H4 := Lib.hid hr4
                    have H5 := Lib.hid hr5
                    clear hr4 hr5 hB4 hB5 hg4 hg5 HB hch hdx hdz houtl cD
                    go_wp2_with (first | (at_builtin; refine Lib.wpList_append_run _ rfl (.tmp 47) (.tmp 48) 62 62 rfl _ _ rfl rfl _ _ H4.out ?_) | (at_builtin; refine Lib.wpList_append_run _ rfl (.tmp 50) (.tmp 57) 62 62 rfl _ _ rfl rfl _ _ H5.out ?_))
                    go_roundg g
                    case rel => exact ⟨i + 1, by congr 1, by omega, HB5, hbx5⟩
                    all_goals omega
                  · have hiMz : ¬ (i : Int) = (M : Int) := by omega
                    have hiMb : ((i : Int) == (M : Int)) = false := beq_eq_false_iff_ne.2 hiMz
                    obtain ⟨v5, w5, hr5, hB5, hg5, hs5⟩ := append_byte V.heap.size _ _ (dg x) (Nat.le_trans (houtl i) (by omega)) wr HB.out hbx.size
                    rw [hdz] at hr5
                    have hbx5 := hg5 _ hbx
                    have HB5 := Lib.hid (show Bt w5 V.heap.size v5 ([45] ++ outL (chL (padL n)) M (i + 1)) by rw [← outL_next _ _ _ hiM _ hch, ← List.append_assoc]; exact hB5)
                    have c4 := (hbx.cell (p := ⟨b, o + i, none⟩) (lt_of_cell cD)).trans cD
                    have H5 := Lib.hid hr5
                    clear hr5 hB5 hg5 HB hch hdx hdz houtl cD
                    go_wp2_with (at_builtin; refine Lib.wpList_append_run _ rfl (.tmp 50) (.tmp 57) 62 62 rfl _ _ rfl rfl _ _ H5.out ?_)
                    go_roundg g
                    case rel => exact ⟨i + 1, by congr 1, by omega, HB5, hbx5⟩
                    all_goals omega
                · have hil : ¬ (i : Int) < (T : Int) := by omega
                  obtain rfl : i = T := by omega
                  have hst := string_of HB.out
                  rw [HOUT.out] at hst
                  clear HB
                  go_wp2_with fail
                  go_ret
                  exact ⟨rfl, hbV.trans (hbx.mono hbV.size)⟩
          · have hgt : ¬ (M : Int) < (T : Int) := by omega
            obtain rfl : j = 20 := by omega
            have HOUT := Lib.hid (show outL (chL (padL n)) M T = bodyL n by
              have := out_all n 20 (by omega) HF.out (frac_end (padL n))
              rw [HN.out, show N - 20 = M by omega] at this
              rw [show T = M by omega]
              exact this)
            clear HF
            go_wp2_with fail
            go_loopg [4, 6] T (fun g s4 s6 wx => ∃ i : Nat, s6 = .int .i64 i ∧ i + g = T ∧ Hid (Bt wx V.heap.size s4 ([45] ++ outL (chL (padL n)) M i)) ∧ Below V.heap.size V wx)
            case atStart => exact ⟨0, rfl, by omega, Lib.hid (by rw [outL_zero, List.append_nil]; exact HB.out), hb2⟩
            case round =>
              clear HB hb2
              obtain ⟨i, rfl, hig, HB, hbx⟩ := hrel
              obtain ⟨ba, bc, hs⟩ := HB.out.shape
              obtain ⟨LN, hLN⟩ : ∃ LN, ([45] ++ outL (chL (padL n)) M i).length = LN := ⟨_, rfl⟩
              rw [hLN] at hs
              subst hs
              clear hLN
              by_cases hlt : i < T
              · obtain ⟨g, rfl⟩ : ∃ g, gk = g + 1 := ⟨gk - 1, by omega⟩
                have hil : (i : Int) < (T : Int) := by omega
                have hiN : i < N := by omega
                have hiNz : (i : Int) < (N : Int) := by omega
                have cD := HC.out i hiN
                have hx9 : (padL n).reverse.getD i 0 < 10 := by
                  rw [List.getD_eq_getElem?_getD]
                  cases e : (padL n).reverse[i]? with
                  | none => decide
                  | some x => exact pad_small n x (List.mem_reverse.1 (List.mem_of_getElem? e))
                have hch : (chL (padL n))[i]? = some (dg ((padL n).reverse.getD i 0)) := by
                  unfold chL
                  rw [List.getElem?_map, List.getD_eq_getElem?_getD, List.getElem?_eq_getElem (by rw [List.length_reverse, HN.out]; exact hiN)]
                  rfl
                generalize (padL n).reverse.getD i 0 = x at *
                have hdx := dg_nat x hx9
                have hdz : ((dg x).toNat : Int) = 48 + (x : Int) := by omega
                have houtl : ∀ k, ([45] ++ outL (chL (padL n)) M k).length ≤ 5000 := fun k => by
                  have h1 := outL_len (chL (padL n)) M k
                  rw [chL_len, HN.out] at h1
                  rw [List.length_append]
                  have hpl : ([45] : List UInt8).length ≤ 1 := by decide
                  omega
                by_cases hiM : i = M
                · exfalso
                  omega
                · have hiMz : ¬ (i : Int) = (M : Int) := by omega
                  have hiMb : ((i : Int) == (M : Int)) = false := beq_eq_false_iff_ne.2 hiMz
                  obtain ⟨v5, w5, hr5, hB5, hg5, hs5⟩ := append_byte V.heap.size _ _ (dg x) (Nat.le_trans (houtl i) (by omega)) wr HB.out hbx.size
                  rw [hdz] at hr5
                  have hbx5 := hg5 _ hbx
                  have HB5 := Lib.hid (show Bt w5 V.heap.size v5 ([45] ++ outL (chL (padL n)) M (i + 1)) by rw [← outL_next _ _ _ hiM _ hch, ← List.append_assoc]; exact hB5)
                  have c4 := (hbx.cell (p := ⟨b, o + i, none⟩) (lt_of_cell cD)).trans cD
                  have H5 := Lib.hid hr5
                  clear hr5 hB5 hg5 HB hch hdx hdz houtl cD
                  go_wp2_with (at_builtin; refine Lib.wpList_append_run _ rfl (.tmp 50) (.tmp 57) 62 62 rfl _ _ rfl rfl _ _ H5.out ?_)
                  go_roundg g
                  case rel => exact ⟨i + 1, by congr 1, by omega, HB5, hbx5⟩
                  all_goals omega
              · have hil : ¬ (i : Int) < (T : Int) := by omega
                obtain rfl : i = T := by omega
                have hst := string_of HB.out
                rw [HOUT.out] at hst
                clear HB
                go_wp2_with fail
                go_ret
                exact ⟨rfl, hbV.trans (hbx.mono hbV.size)⟩
      | false =>
        have hb2 : Below V.heap.size V V := Below.refl _ _
        have HB := Lib.hid (show Bt V V.heap.size (.slice none 0 0) [] from Bt.nil _ _)
        go_wp2_with fail
        clear y0
        go_loopg [5] 20 (fun g s5 wx => ∃ j : Nat, s5 = .int .i64 ((N - j : Nat) : Int) ∧ j + g = 20 ∧ wx = V ∧ Hid (trimE (fracL (padL n) j) = trimE (fixed 20 n)))
        case atStart => exact ⟨0, rfl, by omega, rfl, Lib.hid (frac_zero n)⟩
        case round =>
          obtain ⟨j, rfl, hjg, hw, HF⟩ := hrel
          replace hw := hw.symm
          subst hw
          obtain ⟨T, hT⟩ : ∃ T, N - j = T := ⟨_, rfl⟩
          rw [hT]
          have hMN : (N : Int) - 20 = (M : Int) := by omega
          have hT9 : T ≤ 1021 := by omega
          by_cases hj : j < 20
          · obtain ⟨g, rfl⟩ : ∃ g, gk = g + 1 := ⟨gk - 1, by omega⟩
            have hgt : (M : Int) < (T : Int) := by omega
            obtain ⟨T1, hT1⟩ : ∃ T1, T - 1 = T1 := ⟨_, rfl⟩
            have hTz : (T : Int) - 1 = (T1 : Int) := by omega
            have hT1N : (T1 : Int) < (N : Int) := by omega
            have cD := HC.out T1 (by omega)
            have c4 := (hb2.cell (p := ⟨b, o + T1, none⟩) (lt_of_cell cD)).trans cD
            have hP : (padL n).reverse.getD T1 0 = (padL n).getD j 0 := by
              rw [List.getD_eq_getElem?_getD, List.getD_eq_getElem?_getD, List.getElem?_reverse (by rw [HN.out]; omega), HN.out, show N - 1 - T1 = j by omega]
            have hx9 := (pad_small n).getD j
            rw [hP] at c4
            by_cases hx : (padL n).getD j 0 = 0
            · have HF2 := Lib.hid ((frac_more (padL n) j hj (by rw [HN.out]; omega) hx).trans HF.out)
              have HCA := Lib.hid (show (T1 : Int) = ((N - (j + 1) : Nat) : Int) by omega)
              rw [hx] at c4
              clear hP hx hx9 cD hT hT1 HF
              go_wp2_with fail
              go_roundg g
              case rel => exact ⟨j + 1, by rw [HCA.out], by omega, rfl, HF2⟩
              all_goals omega
            · have HOUT := Lib.hid (show outL (chL (padL n)) M T = bodyL n by
                have := out_all n j (by omega) HF.out (frac_stop (padL n) j hj (by rw [HN.out]; omega) hx9 hx)
                rw [HN.out, show N - 20 = M by omega, hT] at this
                exact this)
              have hxi : ¬ (((padL n).getD j 0 : Nat) : Int) = 0 := by omega
              have hxb : ((((padL n).getD j 0 : Nat) : Int) == 0) = false := beq_eq_false_iff_ne.2 hxi
              generalize (padL n).getD j 0 = y at *
              clear hP hT1 HF cD
              go_wp2_with fail
              go_loopg [4, 6] T (fun g s4 s6 wx => ∃ i : Nat, s6 = .int .i64 i ∧ i + g = T ∧ Hid (Bt wx V.heap.size s4 (([] : List UInt8) ++ outL (chL (padL n)) M i)) ∧ Below V.heap.size V wx)
              case atStart => exact ⟨0, rfl, by omega, Lib.hid (by rw [outL_zero, List.append_nil]; exact HB.out), hb2⟩
              case round =>
                clear HB hb2
                obtain ⟨i, rfl, hig, HB, hbx⟩ := hrel
                obtain ⟨ba, bc, hs⟩ := HB.out.shape
                obtain ⟨LN, hLN⟩ : ∃ LN, (([] : List UInt8) ++ outL (chL (padL n)) M i).length = LN := ⟨_, rfl⟩
                rw [hLN] at hs
                subst hs
                clear hLN
                by_cases hlt : i < T
                · obtain ⟨g, rfl⟩ : ∃ g, gk = g + 1 := ⟨gk - 1, by omega⟩
                  have hil : (i : Int) < (T : Int) := by omega
                  have hiN : i < N := by omega
                  have hiNz : (i : Int) < (N : Int) := by omega
                  have cD := HC.out i hiN
                  have hx9 : (padL n).reverse.getD i 0 < 10 := by
                    rw [List.getD_eq_getElem?_getD]
                    cases e : (padL n).reverse[i]? with
                    | none => decide
                    | some x => exact pad_small n x (List.mem_reverse.1 (List.mem_of_getElem? e))
                  have hch : (chL (padL n))[i]? = some (dg ((padL n).reverse.getD i 0)) := by
                    unfold chL
                    rw [List.getElem?_map, List.getD_eq_getElem?_getD, List.getElem?_eq_getElem (by rw [List.length_reverse, HN.out]; exact hiN)]
                    rfl
                  generalize (padL n).reverse.getD i 0 = x at *
                  have hdx := dg_nat x hx9
                  have hdz : ((dg x).toNat : Int) = 48 + (x : Int) := by omega
                  have houtl : ∀ k, (([] : List UInt8) ++ outL (chL (padL n)) M k).length ≤ 5000 := fun k => by
                    have h1 := outL_len (chL (padL n)) M k
                    rw [chL_len, HN.out] at h1
                    rw [List.length_append]
                    have hpl : (([] : List UInt8) : List UInt8).length ≤ 1 := by decide
                    omega
                  by_cases hiM : i = M
                  · subst hiM
                    obtain ⟨v4, w4, hr4, hB4, hg4, hs4⟩ := append_byte V.heap.size _ _ 46 (Nat.le_trans (houtl i) (by omega)) wr HB.out hbx.size
                    obtain ⟨v5, w5, hr5, hB5, hg5, hs5⟩ := append_byte V.heap.size v4 _ (dg x) (by rw [List.length_append]; have := houtl i; have h46 : ([46] : List UInt8).length = 1 := rfl; omega) w4 hB4 (Nat.le_trans hbx.size hs4)
                    rw [hdz] at hr5
                    have hbx5 := hg5 _ (hg4 _ hbx)
                    have HB5 := Lib.hid (show Bt w5 V.heap.size v5 (([] : List UInt8) ++ outL (chL (padL n)) i (i + 1)) by rw [← outL_point _ _ _ hch, ← List.append_assoc, ← List.append_assoc]; exact hB5)
                    have c4 := ((hg4 V (by exact hbx)).cell (p := ⟨b, o + i, none⟩) (lt_of_cell cD)).trans cD
                    have H4 := Lib.hid hr4
                    have H5 := Lib.hid hr5
                    clear hr4 hr5 hB4 hB5 hg4 hg5 HB hch hdx hdz houtl cD
                    go_wp2_with (first | (at_builtin; refine Lib.wpList_append_run _ rfl (.tmp 47) (.tmp 48) 62 62 rfl _ _ rfl rfl _ _ H4.out ?_) | (at_builtin; refine Lib.wpList_append_run _ rfl (.tmp 50) (.tmp 57) 62 62 rfl _ _ rfl rfl _ _ H5.out ?_))
                    go_roundg g
                    case rel => exact ⟨i + 1, by congr 1, by omega, HB5, hbx5⟩
                    all_goals omega
                  · have hiMz : ¬ (i : Int) = (M : Int) := by omega
                    have hiMb : ((i : Int) == (M : Int)) = false := beq_eq_false_iff_ne.2 hiMz
                    obtain ⟨v5, w5, hr5, hB5, hg5, hs5⟩ := append_byte V.heap.size _ _ (dg x) (Nat.le_trans (houtl i) (by omega)) wr HB.out hbx.size
                    rw [hdz] at hr5
                    have hbx5 := hg5 _ hbx
                    have HB5 := Lib.hid (show Bt w5 V.heap.size v5 (([] : List UInt8) ++ outL (chL (padL n)) M (i + 1)) by rw [← outL_next _ _ _ hiM _ hch, ← List.append_assoc]; exact hB5)
                    have c4 := (hbx.cell (p := ⟨b, o + i, none⟩) (lt_of_cell cD)).trans cD
                    have H5 := Lib.hid hr5
                    clear hr5 hB5 hg5 HB hch hdx hdz houtl cD
                    go_wp2_with (at_builtin; refine Lib.wpList_append_run _ rfl (.tmp 50) (.tmp 57) 62 62 rfl _ _ rfl rfl _ _ H5.out ?_)
                    go_roundg g
                    case rel => exact ⟨i + 1, by congr 1, by omega, HB5, hbx5⟩
                    all_goals omega
                · have hil : ¬ (i : Int) < (T : Int) := by omega
                  obtain rfl : i = T := by omega
                  have hst := string_of HB.out
                  rw [HOUT.out] at hst
                  clear HB
                  go_wp2_with fail
                  go_ret
                  exact ⟨rfl, hbV.trans (hbx.mono hbV.size)⟩
          · have hgt : ¬ (M : Int) < (T : Int) := by omega
            obtain rfl : j = 20 := by omega
            have HOUT := Lib.hid (show outL (chL (padL n)) M T = bodyL n by
              have := out_all n 20 (by omega) HF.out (frac_end (padL n))
              rw [HN.out, show N - 20 = M by omega] at this
              rw [show T = M by omega]
              exact this)
            clear HF
            go_wp2_with fail
            go_loopg [4, 6] T (fun g s4 s6 wx => ∃ i : Nat, s6 = .int .i64 i ∧ i + g = T ∧ Hid (Bt wx V.heap.size s4 (([] : List UInt8) ++ outL (chL (padL n)) M i)) ∧ Below V.heap.size V wx)
            case atStart => exact ⟨0, rfl, by omega, Lib.hid (by rw [outL_zero, List.append_nil]; exact HB.out), hb2⟩
            case round =>
              clear HB hb2
              obtain ⟨i, rfl, hig, HB, hbx⟩ := hrel
              obtain ⟨ba, bc, hs⟩ := HB.out.shape
              obtain ⟨LN, hLN⟩ : ∃ LN, (([] : List UInt8) ++ outL (chL (padL n)) M i).length = LN := ⟨_, rfl⟩
              rw [hLN] at hs
              subst hs
              clear hLN
              by_cases hlt : i < T
              · obtain ⟨g, rfl⟩ : ∃ g, gk = g + 1 := ⟨gk - 1, by omega⟩
                have hil : (i : Int) < (T : Int) := by omega
                have hiN : i < N := by omega
                have hiNz : (i : Int) < (N : Int) := by omega
                have cD := HC.out i hiN
                have hx9 : (padL n).reverse.getD i 0 < 10 := by
                  rw [List.getD_eq_getElem?_getD]
                  cases e : (padL n).reverse[i]? with
                  | none => decide
                  | some x => exact pad_small n x (List.mem_reverse.1 (List.mem_of_getElem? e))
                have hch : (chL (padL n))[i]? = some (dg ((padL n).reverse.getD i 0)) := by
                  unfold chL
                  rw [List.getElem?_map, List.getD_eq_getElem?_getD, List.getElem?_eq_getElem (by rw [List.length_reverse, HN.out]; exact hiN)]
                  rfl
                generalize (padL n).reverse.getD i 0 = x at *
                have hdx := dg_nat x hx9
                have hdz : ((dg x).toNat : Int) = 48 + (x : Int) := by omega
                have houtl : ∀ k, (([] : List UInt8) ++ outL (chL (padL n)) M k).length ≤ 5000 := fun k => by
                  have h1 := outL_len (chL (padL n)) M k
                  rw [chL_len, HN.out] at h1
                  rw [List.length_append]
                  have hpl : (([] : List UInt8) : List UInt8).length ≤ 1 := by decide
                  omega
                by_cases hiM : i = M
                · exfalso
                  omega
                · have hiMz : ¬ (i : Int) = (M : Int) := by omega
                  have hiMb : ((i : Int) == (M : Int)) = false := beq_eq_false_iff_ne.2 hiMz
                  obtain ⟨v5, w5, hr5, hB5, hg5, hs5⟩ := append_byte V.heap.size _ _ (dg x) (Nat.le_trans (houtl i) (by omega)) wr HB.out hbx.size
                  rw [hdz] at hr5
                  have hbx5 := hg5 _ hbx
                  have HB5 := Lib.hid (show Bt w5 V.heap.size v5 (([] : List UInt8) ++ outL (chL (padL n)) M (i + 1)) by rw [← outL_next _ _ _ hiM _ hch, ← List.append_assoc]; exact hB5)
                  have c4 := (hbx.cell (p := ⟨b, o + i, none⟩) (lt_of_cell cD)).trans cD
                  have H5 := Lib.hid hr5
                  clear hr5 hB5 hg5 HB hch hdx hdz houtl cD
                  go_wp2_with (at_builtin; refine Lib.wpList_append_run _ rfl (.tmp 50) (.tmp 57) 62 62 rfl _ _ rfl rfl _ _ H5.out ?_)
                  go_roundg g
                  case rel => exact ⟨i + 1, by congr 1, by omega, HB5, hbx5⟩
                  all_goals omega
              · have hil : ¬ (i : Int) < (T : Int) := by omega
                obtain rfl : i = T := by omega
                have hst := string_of HB.out
                rw [HOUT.out] at hst
                clear HB
                go_wp2_with fail
                go_ret
                exact ⟨rfl, hbV.trans (hbx.mono hbV.size)⟩
end Go.Proofs.YtdfgifnccghlmabGreatDoor.R

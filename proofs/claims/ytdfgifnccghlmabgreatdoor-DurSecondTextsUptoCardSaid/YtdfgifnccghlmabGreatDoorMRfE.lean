/- The specification of num: plain facts about the division digit by digit. The specification of num: the contract of div. -/
import Derived.Test.YtdfgifnccghlmabGreatDoorMRfA
namespace Go.Proofs.YtdfgifnccghlmabGreatDoor.R
open Go.RowKit Go.Lib
open Go.Proofs.YtdfgifnccghlmabGreatDoor (trimW sgnN)

theorem val_drop (a : List Nat) (i : Nat) (hi : i < a.length) : val (a.drop (a.length - (i + 1))) = a.getD (a.length - 1 - i) 0 + 10 * val (a.drop (a.length - i)) := by
  rw [List.drop_eq_getElem_cons (show a.length - (i + 1) < a.length by omega), val, show a.length - (i + 1) + 1 = a.length - i by omega, List.getD_eq_getElem?_getD, show a.length - 1 - i = a.length - (i + 1) by omega, List.getElem?_eq_getElem (by omega)]
  rfl
/-- A remainder, and a digit behind it. -/
theorem next_words (r d : Nat) (hd : d < 10) : trimW (d :: wordsOf r) = wordsOf (d + 10 * r) := by
  rw [trimW_words _ (Small.cons hd (small_wordsOf r)), val, val_wordsOf]
theorem next_small (r d : Nat) (hd : d < 10) : Small (d :: wordsOf r) := Small.cons hd (small_wordsOf r)
theorem step_div (A B d : Nat) : (d + 10 * A) / B = (d + 10 * (A % B)) / B + 10 * (A / B) ∨ B = 0 := by
  by_cases hB : B = 0
  · exact .inr hB
  · left
    have h := Nat.div_add_mod A B
    have e : d + 10 * A = (d + 10 * (A % B)) + B * (10 * (A / B)) := by
      conv => lhs; rw [← h]
      rw [Nat.mul_add, Nat.mul_left_comm]
      omega
    rw [e, Nat.add_mul_div_left _ _ (Nat.pos_of_ne_zero hB)]
theorem step_mod (A B d : Nat) : (d + 10 * A) % B = (d + 10 * (A % B)) % B := by
  have h := Nat.div_add_mod A B
  have e : d + 10 * A = (d + 10 * (A % B)) + B * (10 * (A / B)) := by
    conv => lhs; rw [← h]
    rw [Nat.mul_add, Nat.mul_left_comm]
    omega
  rw [e, Nat.add_mul_mod_self_left]
theorem step_lt (R B d : Nat) (hB : B ≠ 0) (hR : R < B) (hd : d < 10) : (d + 10 * R) / B < 10 := by
  rw [Nat.div_lt_iff_lt_mul (Nat.pos_of_ne_zero hB)]
  omega
theorem sub_more (X B n : Nat) (hB : B ≠ 0) (h : B ≤ X - n * B) : X - n * B - B = X - (n + 1) * B ∧ n < X / B := by
  have hp := Nat.pos_of_ne_zero hB
  refine ⟨by rw [Nat.add_mul, Nat.one_mul, Nat.sub_sub], ?_⟩
  show n + 1 ≤ X / B
  rw [Nat.le_div_iff_mul_le hp, Nat.add_mul, Nat.one_mul]
  omega
theorem sub_stop (X B n : Nat) (hB : B ≠ 0) (hn : n ≤ X / B) (h : X - n * B < B) : n = X / B ∧ X - n * B = X % B := by
  have hp := Nat.pos_of_ne_zero hB
  have h1 : n * B ≤ X := Nat.le_trans (Nat.mul_le_mul_right B hn) (Nat.div_mul_le_self X B)
  have h2 : n = X / B := by
    refine Nat.le_antisymm hn ?_
    have : X < (n + 1) * B := by rw [Nat.add_mul, Nat.one_mul]; omega
    exact Nat.lt_succ_iff.1 ((Nat.div_lt_iff_lt_mul hp).2 this)
  refine ⟨h2, ?_⟩
  have := Nat.div_add_mod X B
  rw [Nat.mul_comm B] at this
  rw [h2]
  omega
theorem sgn_ge (x y : Nat) : (0 ≤ sgnN x y) ↔ y ≤ x := by
  unfold sgnN
  split
  · omega
  · split <;> omega
end Go.Proofs.YtdfgifnccghlmabGreatDoor.R
namespace Go.Proofs.YtdfgifnccghlmabGreatDoor.R
open Go.RowKit Go.Lib
open Go.Proofs.YtdfgifnccghlmabGreatDoor (trimW trimW_snoc trimW_le take_snoc' lt_of_cell cmpD cmpD_app sgnN below_drewN heap_drewN getD_drop0 tail_drop)

/-- A row of digits that is one's own. -/
def Own (N : Nat) (w : World) (v : Value) (l : List Nat) : Prop := w.ownsRow N 3 1 v l.length (iL l)
theorem Own.digs {N : Nat} {w : World} {v : Value} {l : List Nat} (h : Own N w v l) : Digs w v l := Digs.of_owns h
theorem Own.start (N : Nat) (w : World) : Own N w (.slice none 0 0) [] := World.ownsRow_nil w N _ _
theorem Own.alloc {N : Nat} {w : World} {v : Value} {l : List Nat} (h : Own N w v l) (o : Obj) : Own N (w.alloc o) v l := World.ownsRow.alloc h o
theorem Own.empty {N : Nat} {w : World} {k : Nat} (hk : w.heap[k]? = some (.cells #[] 3 (0, 0))) (hN : N ≤ k) : Own N w (.slice (some ⟨k, 0, none⟩) 0 0) [] :=
  ⟨rfl, .inr ⟨k, 0, #[], rfl, hN, hk, Nat.le_refl _, Nat.zero_le _, rfl, rfl⟩⟩
theorem Own.later {N : Nat} {w w' : World} {v : Value} {l : List Nat} (h : Own N w v l) (hb : Below w.heap.size w w') : Own N w' v l := by
  unfold Own at h ⊢
  rcases h with ⟨h1, h2 | ⟨g, cap, cur, e1, e2, e3, e4⟩⟩
  · exact ⟨h1, .inl h2⟩
  · exact ⟨h1, .inr ⟨g, cap, cur, e1, e2, (hb.block g (Array.getElem?_eq_some_iff.1 e3).1).trans e3, e4⟩⟩
theorem Own.since {N : Nat} {w : World} {v : Value} {l : List Nat} (h : Own N w v l) : Since N v := fun k hk => (World.ownsRow.lt h k hk).1
theorem Own.lt {N : Nat} {w : World} {v : Value} {l : List Nat} (h : Own N w v l) (k : Nat) (hk : v.ownBlock = some k) : k < w.heap.size := (World.ownsRow.lt h k hk).2
theorem Own.shape {N : Nat} {w : World} {v : Value} {l : List Nat} (h : Own N w v l) : ∃ a cap, v = .slice a l.length cap := by
  obtain ⟨a, cap, e, _⟩ := owns_shapeI h
  exact ⟨a, cap, e⟩
theorem Since.of_from {N : Nat} {u v : Value} (h : Since N v) (k : From u v) : Since N u := fun j hj => h j (k j hj)
theorem Since.mono {N M : Nat} {u : Value} (h : Since N u) (k : M ≤ N) : Since M u := fun j hj => Nat.le_trans k (h j hj)
/-- Digits behind a row of one's own, as one step of a region that draws. -/
theorem step_append_digs {ops : Array Oper} {o : Oper} {a : Act} {wr w : World} {K : Act → World → Prop} {Q : Exit → Act → World → Prop} {E : Prop}
    (hg : o.guard = none) (s x : Operand) (hop : o.op = Op.call { callee := Callee.builtin Builtin.append, args := #[s, x], argTypes := #[84, 84] })
    (v u : Value) (l m : List Nat) (hs : a.eval s = v) (hx : a.eval x = u) (hb : Below wr.heap.size wr w) (hown : Own wr.heap.size w v l) (hu : Digs w u m) (hlen : l.length + m.length ≤ 1000000000)
    (hK : ∀ v' w', Own wr.heap.size w' v' (m ++ l) → Below wr.heap.size wr w' → (∀ j, j < w.heap.size → some j ≠ v.ownBlock → w'.heap[j]? = w.heap[j]?) → K (a.put o.dst v') w') :
    if Region.wanted o (yielded ops a.tmps) = true then Oper.wp Tryz.prog o a w K Q else E := by
  have hw : Region.wanted o (yielded ops a.tmps) = true := by simp [Region.wanted, hg]
  rw [if_pos hw]
  obtain ⟨v', w', hr, h2, h3⟩ := append_digs_own wr.heap.size v u l.length (iL l) m (by omega) w hown hu hb.size o.type
  unfold Oper.wp execOp
  simp only [hop, resolve, invoke, builtin, Sem.run_bind, Sem.run_pure, Result.andThen_ok, List.map_toArray, List.map_cons, List.map_nil, hs, hx, hr]
  refine hK v' w' ?_ (owns_belowI hb hown h3 hb.size) (fun j hj hne => h3.block j hj hne)
  unfold Own
  rw [iL_app, List.length_append, Nat.add_comm]
  exact h2
/-- A digit behind a row of one's own. -/
theorem append_digit (base : Nat) (v : Value) (l : List Nat) (d : Nat) (hl : l.length ≤ 1000000) (w : World) (h : Own base w v l) (hb : base ≤ w.heap.size) :
    ∃ v' w', (Builtin.append_ #[84, 84] 84 #[v, .slice (some ⟨w.heap.size, 0, none⟩) 1 1]).run Tryz.prog (w.alloc (.cells #[.int .i64 (d : Int)] 3)) = .ok v' w' ∧ Own base w' v' (d :: l) ∧ (∀ a, Below base a w → Below base a w') ∧ (∀ u m, Digs w u m → (∀ k, u.ownBlock = some k → v.ownBlock ≠ some k) → Digs w' u m) ∧ w.heap.size ≤ w'.heap.size := by
  obtain ⟨v', w', h1, h2, h3⟩ := append_digs_own base v _ l.length (iL l) [d] (by simp; omega) (w.alloc (.cells #[.int .i64 (d : Int)] 3)) (h.alloc _) (digs_one w d) (by rw [World.size_alloc]; omega) 84
  refine ⟨v', w', h1, ?_, fun a ha => owns_belowI (ha.alloc hb _) (h.alloc _) h3 (by rw [World.size_alloc]; omega), fun u m hu hk => ?_, ?_⟩
  · unfold Own
    rw [show iL (d :: l) = iL l ++ iL [d] from iL_app [d] l]
    exact h2
  · rcases hu with hu | ⟨b, off, cap, rfl, hc, h⟩
    · exact .inl hu
    · refine .inr ⟨b, off, cap, rfl, hc, fun j hj => ?_⟩
      have hlt : b < w.heap.size := lt_of_cell (h j hj)
      refine (World.cell?_of_block ?_).trans (h j hj)
      show w'.heap[b]? = w.heap[b]?
      rw [h3.block b (by rw [World.size_alloc]; omega) (fun e => hk b rfl e.symm)]
      show (w.heap.push _)[b]? = w.heap[b]?
      rw [Array.getElem?_push, if_neg (by omega)]
  · have := h3.size
    rw [World.size_alloc] at this
    omega
set_option maxHeartbeats 8000000 in
set_option maxRecDepth 100000 in
theorem div_any (u v : Value) (a : List Nat) (B : Nat) (ha : Small a) (hB : B ≠ 0) (ha9 : a.length < 1000000) (hb9 : (wordsOf B).length < 1000000) (w : World) (hu : Digs w u a) (hv : Digs w v (wordsOf B)) :
    Calls Tryz.prog 66 #[u, v] w fun e w' => ∃ x y, e = .returned (.tuple #[x, y]) ∧ Digs w' x (wordsOf (val a / B)) ∧ Digs w' y (wordsOf (val a % B)) ∧ Below w.heap.size w w' := by
  obtain ⟨p1, c1, rfl⟩ := hu.shape
  obtain ⟨p2, c2, rfl⟩ := hv.shape
  have HU := Lib.hid hu
  have HV := Lib.hid hv
  have HB := Lib.hid hB
  have HZ := Lib.hid (show Small [] ∧ val [] = val (a.drop (a.length - 0)) / B from ⟨Small.nil, by simp [val]⟩)
  have HR0 := Lib.hid (show wordsOf (val (a.drop (a.length - 0)) % B) = [] by simp [val, wordsOf_zero])
  clear hu hv hB
  go_enter Tryz.func66, Tryz.ntmps66
  go_wp2_with fail
  go_loopg [6, 7, 8] a.length (fun g s6 s7 s8 wx => ∃ (i : Nat) (L : List Nat), s8 = .int .i64 i ∧ i + g = a.length ∧ Hid (L.length = i) ∧ Hid (Small L ∧ val L = val (a.drop (a.length - i)) / B) ∧ Hid (Own w.heap.size wx s6 L) ∧ Hid (Digs wx s7 (wordsOf (val (a.drop (a.length - i)) % B))) ∧ Below w.heap.size w wx)
  case atStart => exact ⟨0, [], rfl, by omega, Lib.hid rfl, HZ, Lib.hid (Own.start _ _), Lib.hid (by rw [HR0.out]; exact Digs.nil _ _ _), Below.refl _ _⟩
  case round =>
    clear HZ HR0
    obtain ⟨i, L, rfl, hig, HL, HS, HO, HD, hbx⟩ := hrel
    obtain ⟨p6, c6, h6⟩ := HO.out.shape
    rw [HL.out] at h6
    obtain ⟨p7, c7, h7⟩ := HD.out.shape
    obtain ⟨l7, hl7⟩ : ∃ l, (wordsOf (val (a.drop (a.length - i)) % B)).length = l := ⟨_, rfl⟩
    rw [hl7] at h7
    have hl7b : l7 ≤ (wordsOf B).length := by
      rw [← hl7]
      exact words_len _ _ (Nat.lt_trans (Nat.mod_lt _ (Nat.pos_of_ne_zero HB.out)) (words_lt B))
    have HL7 := Lib.hid (show (wordsOf (val (a.drop (a.length - i)) % B)).length ≤ 1000000 by omega)
    subst h6 h7
    clear hl7
    by_cases hlt : i < a.length
    · obtain ⟨g, rfl⟩ : ∃ g, gk = g + 1 := ⟨gk - 1, by omega⟩
      have hil : (i : Int) < (a.length : Int) := by omega
      obtain ⟨ba, oa, rfl, _, hcell⟩ := HU.out.hi rfl (by omega)
      have hca := (hbx.cell (p := ⟨ba, oa + i, none⟩) (lt_of_cell (hcell i hlt))).trans (hcell i hlt)
      have hrev : a.reverse.getD i 0 = a.getD (a.length - 1 - i) 0 := by
        rw [List.getD_eq_getElem?_getD, List.getD_eq_getElem?_getD, List.getElem?_reverse hlt]
      rw [hrev] at hca
      have hd10 := ha.getD (a.length - 1 - i)
      have hvd := val_drop a i hlt
      obtain ⟨A, hA⟩ : ∃ A, val (a.drop (a.length - i)) = A := ⟨_, rfl⟩
      obtain ⟨A2, hA2⟩ : ∃ A, val (a.drop (a.length - (i + 1))) = A := ⟨_, rfl⟩
      obtain ⟨d, hd⟩ : ∃ d, a.getD (a.length - 1 - i) 0 = d := ⟨_, rfl⟩
      rw [hA] at HS HD hvd HL7
      rw [hA2] at hvd
      rw [hd] at hca hd10 hvd
      clear hA hrev hcell
      have HA2 := Lib.hid hA2
      clear hA2 hd
      obtain ⟨R, hR⟩ : ∃ R, A % B = R := ⟨_, rfl⟩
      have hRB : R < B := by rw [← hR]; exact Nat.mod_lt _ (Nat.pos_of_ne_zero HB.out)
      obtain ⟨X, hX⟩ : ∃ X, d + 10 * R = X := ⟨_, rfl⟩
      have HX10 := Lib.hid (show X / B < 10 by rw [← hX]; exact step_lt R B d HB.out hRB hd10)
      have HXD := Lib.hid (show A2 / B = X / B + 10 * (A / B) by
        rw [hvd, ← hX, ← hR]
        exact (step_div A B d).resolve_right HB.out)
      have HXM := Lib.hid (show A2 % B = X % B by rw [hvd, ← hX, ← hR]; exact step_mod A B d)
      rw [hR] at HD HL7
      have HNW := Lib.hid (show trimW (d :: wordsOf R) = wordsOf X by rw [next_words R d hd10, hX])
      have HX0 := Lib.hid (show X = d + 10 * R ∧ d < 10 from ⟨hX.symm, hd10⟩)
      clear hvd hR hX hRB
      have hDb : Below wr.heap.size wr wr.drew := (Below.refl wr.heap.size wr).drew
      have hx0 := (hDb.cell (p := ⟨ba, oa + i, none⟩) (lt_of_cell hca)).trans hca
      have hbE : Below wr.heap.size wr (wr.drew.alloc (.cells #[] 3)) := hDb.alloc (Nat.le_refl _) _
      have hx1 := (hbE.cell (p := ⟨ba, oa + i, none⟩) (lt_of_cell hca)).trans hca
      have hx2 : ((wr.alloc (.cells #[] 3)).drew).cell? ⟨ba, oa + i, none⟩ = some (.int .i64 (d : Int)) := hx1
      have HC := Lib.hid (show ∀ W, Below wr.heap.size wr W → W.cell? ⟨ba, oa + i, none⟩ = some (.int .i64 (d : Int)) from fun W hW => (hW.cell (p := ⟨ba, oa + i, none⟩) (lt_of_cell hca)).trans hca)
      have hbX : Below wr.heap.size wr (wr.drew.alloc (.cells #[.int .i64 (d : Int)] 3)) := hDb.alloc (Nat.le_refl _) _
      have hbEX : Below wr.heap.size wr ((wr.drew.alloc (.cells #[] 3)).alloc (.cells #[.int .i64 (d : Int)] 3)) := hbE.alloc hbE.size _
      have hbXE : Below wr.heap.size wr ((wr.drew.alloc (.cells #[.int .i64 (d : Int)] 3)).alloc (.cells #[] 3)) := hbX.alloc hbX.size _
      have oE : Own wr.heap.size (wr.drew.alloc (.cells #[] 3)) (.slice (some ⟨wr.heap.size, 0, none⟩) 0 0) [] := Own.empty (heap_alloc_new wr.drew _) (Nat.le_refl _)
      have oEX : Own wr.heap.size ((wr.drew.alloc (.cells #[] 3)).alloc (.cells #[.int .i64 (d : Int)] 3)) (.slice (some ⟨wr.heap.size, 0, none⟩) 0 0) [] := oE.alloc _
      have oXE : Own wr.heap.size ((wr.drew.alloc (.cells #[.int .i64 (d : Int)] 3)).alloc (.cells #[] 3)) (.slice (some ⟨wr.heap.size + 1, 0, none⟩) 0 0) [] := Own.empty (by have := heap_alloc_new (wr.drew.alloc (.cells #[.int .i64 (d : Int)] 3)) (.cells #[] 3); rwa [World.size_alloc] at this) (Nat.le_succ _)
      have gEX : Digs ((wr.drew.alloc (.cells #[] 3)).alloc (.cells #[.int .i64 (d : Int)] 3)) (.slice (some ⟨wr.heap.size + 1, 0, none⟩) 1 1) [d] := by have := digs_one (wr.drew.alloc (.cells #[] 3)) d; rwa [World.size_alloc] at this
      have gXE : Digs ((wr.drew.alloc (.cells #[.int .i64 (d : Int)] 3)).alloc (.cells #[] 3)) (.slice (some ⟨wr.heap.size, 0, none⟩) 1 1) [d] := (digs_one wr.drew d).later ((Below.refl _ _).alloc (Nat.le_refl _) _)
      have sEX : wr.heap.size + 1 < ((wr.drew.alloc (.cells #[] 3)).alloc (.cells #[.int .i64 (d : Int)] 3)).heap.size := by rw [World.size_alloc, World.size_alloc]; exact Nat.lt_succ_self _
      have sXE : wr.heap.size < ((wr.drew.alloc (.cells #[.int .i64 (d : Int)] 3)).alloc (.cells #[] 3)).heap.size := by rw [World.size_alloc, World.size_alloc]; exact Nat.lt_succ_of_lt (Nat.lt_succ_self _)
      have HE := Lib.hid (And.intro oE (And.intro oEX oXE))
      have HG := Lib.hid (And.intro gEX gXE)
      have HSZ := Lib.hid (And.intro sEX sXE)
      have HLEN := Lib.hid (show (wordsOf R).length ≤ 1000000 from HL7.out)
      clear oE oEX oXE gEX gXE sEX sXE
      go_wp2_with fail
      go_region_law (first
        | (refine step_append_digs (wr := wr) rfl (.tmp 16) (.tmp 17) rfl _ _ [] (wordsOf R) rfl rfl (by first | exact hbE | exact hbEX | exact hbXE) (by first | exact HE.out.1 | exact HE.out.2.1 | exact HE.out.2.2) (HD.out.later (by first | exact hbE | exact hbEX | exact hbXE)) (by have := HLEN.out; simp; omega) ?_
           intro v2 w2 ho2 hb2 hk2
           have c2 := HC.out w2 hb2
           first
             | have HQ := Lib.hid (HG.out.1.other (w' := w2) (fun j hj => by cases hj; exact hk2 _ HSZ.out.1 (by intro h; have h : some (wr.heap.size + 1) = some wr.heap.size := h; simp at h)))
             | have HQ := Lib.hid (HG.out.2.other (w' := w2) (fun j hj => by cases hj; exact hk2 _ HSZ.out.2 (by intro h; have h : some wr.heap.size = some (wr.heap.size + 1) := h; simp at h)))
             | skip
           clear hk2)
        | (refine step_append_digs (wr := wr) rfl (.tmp 18) (.tmp 23) rfl _ _ (wordsOf R ++ []) [d] rfl rfl (by first | exact hb2 | exact hb2.alloc hb2.size _) (by first | exact ho2 | exact ho2.alloc _) (by first | exact HQ.out | exact digs_one w2 d) (by have := HLEN.out; simp; omega) ?_
           intro v3 w3 ho3 hb3 hk3
           clear hk3)
        | (go_simp
           go_wp2_with (go_at_call 68; refine (trim_own v3 ([d] ++ (wordsOf R ++ [])) (by have := HLEN.out; simp; omega) w3 ho3.digs).mono ?_; rintro e w4 ⟨u, rfl, hu, rfl, hf⟩)))
      all_goals
        have hu2 : Digs w3 u (wordsOf X) := by
          rw [List.append_nil, List.singleton_append, HNW.out] at hu
          exact hu
        have hsu : Since wr.heap.size u := ho3.since.of_from hf
        have hq : ∀ k, (Value.slice p6 i c6).ownBlock = some k → k < wr.heap.size := fun k hk => HO.out.lt k hk
        have HOq := Lib.hid (HO.out.later hb3)
        have hbw3 : Below w.heap.size w w3 := hbx.trans (hb3.mono hbx.size)
        have hzw : wr.heap.size ≤ w3.heap.size := hb3.size
        have HLX := Lib.hid (show ∀ m, m ≤ X → (wordsOf m).length ≤ 1000001 from fun m hm => by
          have h1 := HLEN.out
          have h2 := words_lt R
          refine Nat.le_trans (words_len m ((wordsOf R).length + 1) ?_) (by omega)
          rw [Nat.pow_succ]
          have := HX0.out
          omega)
        obtain ⟨N, hN⟩ : ∃ N, wr.heap.size = N := ⟨_, rfl⟩
        rw [hN] at hsu hq hzw
        obtain ⟨Y, hY⟩ : ∃ Y, X / B = Y := ⟨_, rfl⟩
        have HY := Lib.hid hY
        have HQ2 := Lib.hid hq
        have HDU := Lib.hid (show Digs w3 u (wordsOf (X - 0 * B)) by rw [Nat.zero_mul, Nat.sub_zero]; exact hu2)
        have HSU := Lib.hid hsu
        have HZW := Lib.hid hzw
        have hY9 : Y < 10 := by rw [← hY]; exact HX10.out
        clear hN hY hq hu2 hu hsu hf ho3 ho2 HE HG HSZ hbE hbX hbEX hbXE hDb hx0 hx1 hx2 hca hzw HO HD hbx c2 hb2 hb3
        go_wp2_with fail
        go_loopg [7, 9] Y (fun g2 s7 s9 wx => ∃ n : Nat, s9 = .int .i64 n ∧ n + g2 = Y ∧ Hid (Digs wx s7 (wordsOf (X - n * B))) ∧ Hid (Since N s7) ∧ Below w3.heap.size w3 wx)
        case atStart => exact ⟨0, rfl, by omega, HDU, HSU, Below.refl _ _⟩
        case round =>
          clear HDU HSU
          obtain ⟨n, rfl, hng, HDX, HSI, hbw⟩ := hrel
          have HBv := Lib.hid (HV.out.later (hbw3.trans (hbw.mono hbw3.size)))
          obtain ⟨Z, hZ⟩ : ∃ Z, X - n * B = Z := ⟨_, rfl⟩
          rw [hZ] at HDX
          have HZ := Lib.hid hZ
          have HZL := Lib.hid (HLX.out Z (by omega))
          have cC := cmp_any _ _ (wordsOf Z) (wordsOf B) (small_wordsOf Z) (small_wordsOf B) (by have := HZL.out; omega) (by omega) wr HDX.out HBv.out
          rw [val_wordsOf, val_wordsOf] at cC
          clear hZ
          by_cases hge : B ≤ Z
          · have HGE := Lib.hid hge
            have hm := sub_more X B n HB.out (by rw [HZ.out]; exact hge)
            obtain ⟨g2, rfl⟩ : ∃ g2, gk = g2 + 1 := ⟨gk - 1, by have := HY.out; omega⟩
            have HM := Lib.hid hm.1
            have hs0 : 0 ≤ sgnN Z B := (sgn_ge Z B).2 hge
            obtain ⟨z, hz⟩ : ∃ z, sgnN Z B = z := ⟨_, rfl⟩
            rw [hz] at cC hs0
            have cS := fun W (hW : Below wr.heap.size wr W) => sub_own _ _ (wordsOf Z) (wordsOf B) (small_wordsOf Z) (small_wordsOf B) (by have := HZL.out; omega) (by omega) (by rw [val_wordsOf, val_wordsOf]; exact HGE.out) W (HDX.out.later hW) (HBv.out.later hW)
            simp only [val_wordsOf] at cS
            clear hz hm hge
            go_wp2_with fail
            refine cC.mono ?_
            rintro e w5 ⟨rfl, hb5⟩
            have cS2 := cS w5 hb5
            clear cS cC
            go_wp2_with fail
            refine cS2.mono ?_
            rintro e w6 ⟨x, rfl, hx, hb6, hs6⟩
            have hb56 := hb5.trans (hb6.mono hb5.size)
            have HX6 := Lib.hid (show Digs w6 x (wordsOf (X - (n + 1) * B)) by
              have := HM.out
              rw [HZ.out] at this
              rw [← this]
              exact hx)
            have HS6 := Lib.hid (hs6.mono (Nat.le_trans HZW.out (Nat.le_trans hbw.size hb5.size)))
            have hbw6 := hbw.trans (hb56.mono hbw.size)
            clear hx hs6 cS2 hb5 hb6 hb56
            go_wp2_with fail
            go_roundg g2
            case rel => exact ⟨n + 1, by congr 1, by omega, HX6, HS6, hbw6⟩
            all_goals omega
          · have hm := sub_stop X B n HB.out (by rw [HY.out]; omega) (by rw [HZ.out]; omega)
            have hnY : n = Y := hm.1.trans HY.out
            have hs0 : ¬ 0 ≤ sgnN Z B := fun h => hge ((sgn_ge Z B).1 h)
            obtain ⟨z, hz⟩ : ∃ z, sgnN Z B = z := ⟨_, rfl⟩
            rw [hz] at cC hs0
            have HM := Lib.hid (show Z = X % B by rw [← HZ.out]; exact hm.2)
            obtain rfl : gk = 0 := by omega
            have HnY := Lib.hid (And.intro hnY (show n < 10 by omega))
            clear hz hm hge hnY
            go_wp2_with fail
            refine cC.mono ?_
            rintro e w5 ⟨rfl, hb5⟩
            have hbw5 := hbw.trans (hb5.mono hbw.size)
            have hO5 := HOq.out.later hbw5
            have hD5 := HDX.out.later hb5
            have hsz5 : N ≤ w5.heap.size := Nat.le_trans HZW.out hbw5.size
            have hww : Below w.heap.size w w5 := hbw3.trans (hbw5.mono hbw3.size)
            obtain ⟨v8, w8, hr8, ho8, hg8, hd8, hs8⟩ := append_digit w.heap.size (.slice p6 i c6) L n (by rw [HL.out]; omega) w5 hO5 hww.size
            have hD8 := hd8 _ _ hD5 (fun k hk h => by
                have h1 := HQ2.out k h
                have h2 := HSI.out k hk
                omega)
            have HO8 := Lib.hid ho8
            have HD8 := Lib.hid hD8
            have hww8 := hg8 _ hww
            have H8 := Lib.hid hr8
            clear hr8 ho8 hg8 hd8 hD8 hO5 hD5 cC
            go_wp2_with (at_builtin; refine Lib.wpList_append_run _ rfl (.tmp 35) (.tmp 37) 84 84 rfl _ _ rfl rfl _ _ H8.out ?_)
            go_roundg g
            case rel => exact ⟨i + 1, n :: L, by congr 1, by omega, Lib.hid (by rw [List.length_cons, HL.out]), Lib.hid ⟨Small.cons HnY.out.2 HS.out.1, by rw [val, HS.out.2, HA2.out, HXD.out, HY.out, HnY.out.1]⟩, HO8, Lib.hid (by rw [HA2.out, HXM.out, ← HM.out]; exact HD8.out), hww8⟩
            all_goals omega
    · obtain rfl : i = a.length := by omega
      obtain rfl : gk = 0 := by omega
      have hil : ¬ (a.length : Int) < (a.length : Int) := by omega
      have hS2 := HS.out
      have hD2 := HD.out
      rw [Nat.sub_self, List.drop_zero] at hS2 hD2
      have cT := trim_any _ L (by rw [HL.out]; omega) wr HO.out.digs
      rw [trimW_words L hS2.1, hS2.2] at cT
      have HD2 := Lib.hid hD2
      clear hS2 hD2 HS HD HL7
      go_wp2_with fail
      refine cT.mono ?_
      rintro e w5 ⟨x, rfl, hx, rfl⟩
      go_wp2_with fail
      go_ret2
      exact ⟨_, _, rfl, hx, HD2.out, hbx⟩
end Go.Proofs.YtdfgifnccghlmabGreatDoor.R

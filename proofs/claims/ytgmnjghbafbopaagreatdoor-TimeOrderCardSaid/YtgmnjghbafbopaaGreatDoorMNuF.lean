/- Natural numbers: the contract of digits. What package num leans on in memory: a table of powers of ten and one variable. Natural numbers: the contract of digits: its walk. -/
import Derived.Test.YtgmnjghbafbopaaGreatDoorMNuC
import Derived.Test.YtgmnjghbafbopaaGreatDoorMNuA
import Derived.Lib.OthersKept
import Derived.Shelf.Strings.MapGrows
import Derived.Test.YtgmnjghbafbopaaGreatDoorMShelf
import Derived.Shelf.GgClosure.Gives
import Derived.Test.YtgmnjghbafbopaaGreatDoorMNuG
namespace Go.Proofs.YtgmnjghbafbopaaGreatDoor
open Go.RowKit Go.Lib
attribute [local go_sem] Oper.semAt_some

/-! ### plain -/
/-- The digits of words, the highest ones first, nine for each. -/
def nines : List (Nat × Nat) → List UInt8
  | [] => []
  | x :: t => fixed 9 x.2 ++ nines t
theorem nines_app : ∀ a b : List (Nat × Nat), nines (a ++ b) = nines a ++ nines b
  | [], _ => rfl
  | x :: a, b => by rw [List.cons_append, nines, nines_app a b, nines, List.append_assoc]
theorem nines_bw (l : List Nat) (hs : Small l) : nines (bwL l) = fixed (9 * l.length) (val l) := by
  generalize hn : l.length = n
  induction n generalizing l with
  | zero => rw [List.eq_nil_of_length_eq_zero hn]; rfl
  | succ n ih =>
    have hne : l ≠ [] := by intro e; rw [e] at hn; simp at hn
    obtain ⟨t, x, rfl⟩ : ∃ t x, l = t ++ [x] := ⟨l.dropLast, l.getLast hne, (List.dropLast_concat_getLast hne).symm⟩
    have htl : t.length = n := by simpa using hn
    have hx : x < 1000000000 := hs x (by simp)
    have ht := val_lt t hs.left
    rw [bwL_snoc, nines, ih t hs.left htl, val_app, htl, show 9 * (n + 1) = 9 + 9 * n by omega, fixed_add]
    have hp : (10 : Nat) ^ (9 * n) = 1000000000 ^ n := by rw [Nat.pow_mul]
    rw [htl] at ht
    rw [hp]
    simp only [val, Nat.mul_zero, Nat.add_zero]
    have e1 : (val t + 1000000000 ^ n * x) / 1000000000 ^ n = x := by
      rw [Nat.add_mul_div_left _ _ (Nat.pow_pos (by omega)), Nat.div_eq_of_lt ht, Nat.zero_add]
    have e2 : fixed (9 * n) (val t + 1000000000 ^ n * x) = fixed (9 * n) (val t) := by
      rw [← fixed_mod (9 * n) (val t + _), hp, Nat.add_mul_mod_self_left, ← hp, fixed_mod]
    rw [e1, e2]
/-- strconv.Itoa's digits, filled up with zeros. -/
theorem decDigits_fixed : ∀ (k x : Nat), x < 10 ^ (k + 1) → (Lib.decDigits x).length ≤ k + 1 ∧ List.replicate (k + 1 - (Lib.decDigits x).length) 48 ++ Lib.decDigits x = fixed (k + 1) x
  | k, x, h => by
    rw [Lib.decDigits]
    by_cases h10 : x < 10
    · rw [dif_pos h10]
      refine ⟨by simp, ?_⟩
      rw [fixed, Nat.mod_eq_of_lt h10, Nat.div_eq_of_lt h10, fixed_zero]
      rfl
    · rw [dif_neg h10]
      cases k with
      | zero => omega
      | succ k =>
        obtain ⟨h1, h2⟩ := decDigits_fixed k (x / 10) (by rw [Nat.pow_succ] at h; omega)
        rw [List.length_append, List.length_singleton]
        refine ⟨by omega, ?_⟩
        rw [fixed, ← h2, show k + 1 + 1 - ((Lib.decDigits (x / 10)).length + 1) = k + 1 - (Lib.decDigits (x / 10)).length by omega, List.append_assoc]
        rfl
theorem itoa_fixed (x : Nat) (hx : x < 1000000000) : (Lib.itoa (x : Int)).length ≤ 9 ∧ List.replicate (9 - (Lib.itoa (x : Int)).length) 48 ++ Lib.itoa (x : Int) = fixed 9 x := by
  unfold Lib.itoa
  rw [if_neg (by omega), Int.toNat_natCast]
  exact decDigits_fixed 8 x hx
theorem repeat_zeros : ∀ c : Nat, Lib.repeatL [48] c = List.replicate c 48
  | 0 => rfl
  | c + 1 => by rw [Lib.repeatL, repeat_zeros c]; rfl
/-- A builder is as it was where cells stay as they were. -/
theorem builder_kept {T e : TypeId} {B b : Nat} {bs : List Value} {W W' : World} (h : IsBuilderF T e B b bs W) (hk : ∀ (k : Nat) (o : Obj), W.heap[k]? = some o → o.isCells = true → W'.heap[k]? = some o) : IsBuilderF T e B b bs W' := by
  have key : ∀ p, BuilderAtF T e B b p bs W → BuilderAtF T e B b p bs W' := by
    rintro p ⟨hB, v, hv, hown, hne⟩
    refine ⟨hB, v, hk b _ hv rfl, ⟨hown.1, ?_⟩, hne⟩
    rcases hown.2 with h | ⟨g, cap, cur, fz, h1, h2, h3, h4⟩
    · exact .inl h
    · exact .inr ⟨g, cap, cur, fz, h1, h2, hk g _ h3 rfl, h4⟩
  exact h.elim (fun x => .inl (key _ x)) (fun x => .inr (key _ x))
theorem builder_new {T e : TypeId} {B b : Nat} {W : World} (hB : B ≤ b) (h : W.heap[b]? = some (.cells #[.pointer none, .slice none 0 0] T (0, 0))) : IsBuilderF T e B b [] W :=
  .inl ⟨hB, _, h, World.ownsRowF_nil _ _ _ _, by simp [Value.ownBlock]⟩
/-- What the rounds stand on: the builder's text. -/
structure DigI (w : World) (va : Value) (pre : List (Nat × Nat)) (W : World) : Prop where
  bld : IsBuilderF 182 5 w.heap.size w.heap.size (Lib.byteCells (nines pre)) W
  ax : Boxed W (w.heap.size + 1) 86 va
  below : Below w.heap.size w W
  big : w.heap.size + 2 ≤ W.heap.size
theorem DigI.other {w : World} {va : Value} {pre : List (Nat × Nat)} {X Y : World} (h : DigI w va pre X) {R : Nat → Prop} (hc : Ch R X Y) (hR : ∀ k, R k → w.heap.size + 2 ≤ k ∧ ∃ o : Obj, X.heap[k]? = some o ∧ o.isCells = false) : DigI w va pre Y := by
  have hb := h.big
  have hcells : ∀ (k : Nat) (o : Obj), X.heap[k]? = some o → o.isCells = true → Y.heap[k]? = some o := by
    intro k o hk ho
    refine (hc.block k (Array.getElem?_eq_some_iff.1 hk).1 (fun hr => ?_)).trans hk
    obtain ⟨_, o', ho', hc'⟩ := hR k hr
    rw [hk] at ho'
    cases ho'
    rw [ho] at hc'
    cases hc'
  exact ⟨builder_kept h.bld hcells, hcells _ _ h.ax rfl, h.below.trans (hc.below (by omega) (fun k hk e => by have := (hR k e).1; omega)), Nat.le_trans hb hc.size⟩
end Go.Proofs.YtgmnjghbafbopaaGreatDoor
namespace Go.Proofs.YtgmnjghbafbopaaGreatDoor
open Go.RowKit Go.Lib Go.Sort

def GrN (w : World) : Prop := Lib.TabIs Tryz.prog w "internal/strconv.uint64pow10" .u64 Lib.pow10Tab ∧ ∃ m, w.cell? ⟨3, 0, none⟩ = some (.int .i64 m)
theorem tab_later {P : Program} {w w' : World} {n : String} {k : IntKind} {zs : List Int} (h : Lib.TabIs P w n k zs) (hb : Below w.heap.size w w') : Lib.TabIs P w' n k zs := by
  unfold Lib.TabIs World.var? at h ⊢
  cases hg : P.globalNamed n with
  | none => rw [hg] at h; cases h
  | some g =>
    rw [hg] at h
    simp only [Option.bind_some] at h ⊢
    cases ho : w.heap[g]? with
    | none => rw [ho] at h; cases h
    | some o =>
      rw [hb.block g (Array.getElem?_eq_some_iff.1 ho).1]
      exact h
theorem GrN.later {w w' : World} (h : GrN w) (hb : Below w.heap.size w w') : GrN w' := by
  refine ⟨tab_later h.1 hb, ?_⟩
  obtain ⟨m, hm⟩ := h.2
  exact ⟨m, (hb.cell (lt_of_cell hm)).trans hm⟩

theorem below_itoa (w : World) (q : Nat) (os : Array Obj) : Below w.heap.size w (grow (w.drewN q) os) := by
  have h1 : (grow (w.drewN q) os).heap = w.heap ++ os := by unfold grow; rw [heap_drewN]
  have h2 : Below w.heap.size w (w.drewN q) := below_drewN (Below.refl _ _) q
  exact ⟨h2.os, h2.tape, h2.output, by rw [h1, Array.size_append]; omega, fun k hk => by rw [h1, Array.getElem?_append_left hk]⟩
theorem itoa_any (n : Nat) (hn : n < 4294967296) (w : World) (hg : GrN w) :
    Calls Tryz.prog 87 #[.int .i64 (n : Int)] w fun e w' => e = .returned (.string ⟨(Lib.itoa (n : Int)).toArray⟩) ∧ Below w.heap.size w w' := by
  refine (Tryz.strconv_Itoa (n : Int) (by omega) (by omega) w hg.1).mono ?_
  rintro e w' ⟨rfl, k, os, rfl⟩
  exact ⟨rfl, below_itoa w k os⟩
end Go.Proofs.YtgmnjghbafbopaaGreatDoor
namespace Go.Proofs.YtgmnjghbafbopaaGreatDoor
open Go.RowKit Go.Lib
attribute [local go_sem] Oper.semAt_some

theorem nines_len : ∀ l : List (Nat × Nat), (nines l).length = 9 * l.length
  | [] => rfl
  | x :: t => by rw [nines, List.length_append, fixed_len, nines_len t, List.length_cons]; omega
def DigX (_ : Code) (_ : List (Nat × Nat)) (_ : World) : Prop := False
theorem ch_kept {T : TypeId} {b : Nat} {W W' : World} (h : OthersKept T (some b) W W') : ∀ (k : Nat) (o : Obj), W.heap[k]? = some o → k ≠ b → (∀ c fz, o ≠ .cells c T fz) → W'.heap[k]? = some o :=
  fun k o hk hb ho => h k o hk (fun e => hb (Option.some.inj e)) ho
/-- A write to the builder. -/
theorem write_in (w : World) (bs : List UInt8) (s : ByteArray) (hl : bs.length + s.size ≤ 1000000000) (W : World) (h : IsBuilderF 182 5 w.heap.size w.heap.size (Lib.byteCells bs) W) (hW : Below w.heap.size w W) (hlt : w.heap.size < W.heap.size) :
    Calls Tryz.prog 171 #[.pointer (some ⟨w.heap.size, 0, none⟩), .string s] W fun e W' => e = .returned (.tuple #[.int .i64 s.size, .nilIface]) ∧ IsBuilderF 182 5 w.heap.size w.heap.size (Lib.byteCells (bs ++ s.data.toList)) W' ∧ Below w.heap.size w W' ∧ OthersKept 5 (some w.heap.size) W W' ∧ W.heap.size ≤ W'.heap.size := by
  refine (Tryz.Builder_WriteString_k w.heap.size w.heap.size (Lib.byteCells bs) s W h (by rw [Lib.byteCells_length]; omega) (by omega)).mono ?_
  rintro e W' ⟨rfl, h1, h2, h3⟩
  refine ⟨rfl, .inr ?_, hW.trans h2, h3, h2.size⟩
  rw [Lib.byteCells_append]
  exact h1
set_option maxRecDepth 100000 in
set_option maxHeartbeats 4000000 in
theorem digits_any (v : Value) (n : Nat) (hn9 : (wordsOf n).length < 100000) (w : World) (hg : GrN w) (hu : Nats w v (wordsOf n)) :
    Calls Tryz.prog 127 #[v] w fun e w' => e = .returned (.string ⟨(fixed (9 * (wordsOf n).length) n).toArray⟩) ∧ Below w.heap.size w w' := by
  refine (callsIn_wide (n := 8)).1 ?_
  refine callsIn_of_wp_marks Tryz.func127 rfl trivial ?_ rfl
  simp only [Tryz.ntmps127, List.size_toArray, List.length_cons, List.length_nil, Nat.reduceAdd, Nat.reduceSub, Array.replicate_succ, Array.replicate_zero, List.push_toArray, List.append_toArray, List.nil_append, List.cons_append]
  obtain ⟨p1, c1, rfl⟩ := hu.shape
  have hnb := nines_bw (wordsOf n) (small_wordsOf n)
  rw [val_wordsOf] at hnb
  rw [← hnb]
  have hsA := small_wordsOf n
  obtain ⟨A, hA⟩ : ∃ A, wordsOf n = A := ⟨_, rfl⟩
  rw [hA] at hu hn9 hsA ⊢
  clear hnb hA
  gi_wp2_with (refine ⟨trivial, ?_⟩; gi_at_call 164; refine (backward_any _ _ _ _ _).mono ?_; rintro e w3 ⟨rfl, hw3⟩)
  rw [← hw3]
  have hz3 : w3.heap.size = w.heap.size + 2 := by rw [hw3]; simp
  have hb3 : Below w.heap.size w w3 := by rw [hw3]; exact ((Below.refl _ _).alloc (Nat.le_refl _) _).alloc (by simp) _
  have hax3 : Boxed w3 (w.heap.size + 1) 86 (.slice p1 A.length c1) := by
    rw [hw3]
    have := Boxed.new (w.alloc (.cells #[.pointer none, .slice none 0 0] 182)) 86 (.slice p1 A.length c1)
    rwa [World.size_alloc] at this
  have hbl3 : IsBuilderF 182 5 w.heap.size w.heap.size (Lib.byteCells (nines [])) w3 := by
    rw [hw3]
    refine builder_new (Nat.le_refl _) ?_
    exact (Below.heap_alloc _ _ _ (by simp)).trans (heap_alloc_new w _)
  have h0 : DigI w (.slice p1 A.length c1) [] w3 := ⟨hbl3, hax3, hb3, by omega⟩
  have hseq : SeqRuns Fence.wide 7 Tryz.prog 198 #[.pointer (some ⟨w.heap.size + 1, 0, none⟩)] (fun x : Nat × Nat => #[.int .i64 (x.1 : Int), .int .u32 (x.2 : Int)]) (Ch (fun _ => False)) (KeptB (w.heap.size + 1) (.slice p1 A.length c1) A)
      (fun pre x => ∃ rest, pre ++ x :: rest = bwL A) (fun ys => ys = bwL A) (fun _ => True) w3 := fun l J Jx W hW _ _ hY h0 =>
    backward1_in 7 (by omega) l _ _ _ (by omega) J Jx hY W ((hW.block _ (by omega)).trans hax3) ((hu.later hb3).later hW) h0
  clear hbl3 hax3 hw3
  refine wpIn_rangeFunc_runs rfl (by omega) (gf := 198) rfl trivial (enters_of Tryz.func198 (by kernel_rfl) rfl) hseq (fun h k => h.trans k) ?kb ?ab (fun _ => rfl)
    (DigI w (.slice p1 A.length c1)) DigX ?own ?ownx ?ia ?ixa h0
    (fun x : Nat × Nat => { tmps := #[.slice p1 A.length c1, undef, .string ⟨#[]⟩, .pointer (some ⟨w.heap.size, 0, none⟩), undef, .int .u32 (x.2 : Int), undef, .slice p1 A.length c1, .func (.func 198) #[] #[.pointer (some ⟨w.heap.size + 1, 0, none⟩)], .int .i64 (x.1 : Int), .int .u32 (x.2 : Int), undef, undef, undef, undef, undef, undef, undef, undef, undef, undef, undef], defers := [] })
    ?assign ?body ?done ?stop
  case kb =>
    intro W l o o' hB ho hc _
    exact ⟨World.putObj_heap_other (by omega), fun hN => hN.put o' ho hc⟩
  case ab =>
    intro X Y h k o hk ho _ _
    exact (h.block k (Array.getElem?_eq_some_iff.1 ho).1 (fun e => e)).trans ho
  case own =>
    intro s X Y row h hgr hr
    exact h.other (R := fun k => row = some k) (Ch.of_grown hgr (fun k e => e)) (fun k e => by have := hr k e; exact ⟨by omega, this.2⟩)
  case ownx =>
    intro c s X Y row h _ _
    exact h
  case ia =>
    intro s X Y h hab
    exact h.other hab (fun k e => e.elim)
  case ixa =>
    intro c s X Y h _
    exact h
  case assign =>
    intro l x W K hK
    gi_wp2
    exact hK
  case body =>
    rintro l pre x W ⟨rest0, hx⟩ HI hlt
    obtain ⟨m1, m2, _, m4⟩ := bwL_mem A pre rest0 x hx
    obtain ⟨i, y⟩ := x
    simp only at m1 m2 m4
    have hy9 : y < 1000000000 := by rw [m2]; exact hsA.getD i
    obtain ⟨f1, f2⟩ := itoa_fixed y hy9
    have hnl : (nines pre).length ≤ 9 * 100000 := by
      have h1 := congrArg List.length hx
      simp only [List.length_append, List.length_cons] at h1
      have h2 : (bwL A).length = A.length := by unfold bwL; simp
      rw [nines_len]
      omega
    have cI := itoa_any y (by omega) W (hg.later HI.below)
    obtain ⟨S, hS⟩ : ∃ S : ByteArray, (⟨(Lib.itoa (y : Int)).toArray⟩ : ByteArray) = S := ⟨_, rfl⟩
    have hSl : S.data.toList = Lib.itoa (y : Int) := by rw [← hS]
    have hSs : S.size ≤ 9 := by
      have : S.size = S.data.toList.length := by rw [Array.length_toList]; rfl
      rw [this, hSl]; exact f1
    obtain ⟨c, hc⟩ : ∃ c, 9 - S.size = c := ⟨_, rfl⟩
    have hcz : 9 - (S.size : Int) = (c : Int) := by omega
    have hc9 : c ≤ 9 := by omega
    rw [hS] at cI
    have cR := fun X => Tryz.strings_Repeat ⟨#[48]⟩ c X (by omega) (by show 1 * c ≤ _; omega)
    rw [show (⟨#[48]⟩ : ByteArray).data.toList = [48] from rfl, repeat_zeros] at cR
    obtain ⟨Z, hZ⟩ : ∃ Z : ByteArray, (⟨(List.replicate c 48).toArray⟩ : ByteArray) = Z := ⟨_, rfl⟩
    have hZl : Z.data.toList = List.replicate c 48 := by rw [← hZ]
    have hZs : Z.size ≤ 9 := by
      have : Z.size = Z.data.toList.length := by rw [Array.length_toList]; rfl
      rw [this, hZl, List.length_replicate]; omega
    rw [hZ] at cR
    have hfin : nines pre ++ Z.data.toList ++ S.data.toList = nines (pre ++ [(i, y)]) := by
      rw [nines_app, hZl, hSl, List.append_assoc]
      show _ = _ ++ (fixed 9 y ++ [])
      rw [List.append_nil, ← f2, ← hc]
      have : S.size = (Lib.itoa (y : Int)).length := by rw [← hSl, Array.length_toList]; rfl
      rw [this]
    have HF := Lib.hid hfin
    have hbld := HI.bld
    have hax := HI.ax
    have hbw := HI.below
    have hbig := HI.big
    have cW1 := fun X h1 h2 h3 => write_in w (nines pre) Z (by omega) X h1 h2 h3
    have cW2 := fun X h1 h2 h3 => write_in w (nines pre ++ Z.data.toList) S (by rw [List.length_append, hZl, List.length_replicate]; omega) X h1 h2 h3
    clear m2 m4 hx hseq h0 HI f1 f2 hSl hc hZl hfin hS hZ hnl
    gi_wp2
    refine ⟨trivial, ?_⟩
    refine (CallsIn.inRound l (callsIn_wide.2 cI)).mono ?_
    rintro e W1 ⟨rfl, hb1⟩
    have hbld1 := hbld.below hb1
    have hbw1 := hbw.trans (hb1.mono hbw.size)
    gi_wp2
    refine ⟨trivial, ?_⟩
    refine (CallsIn.inRound l (callsIn_wide.2 (cR W1))).mono ?_
    rintro e W2 ⟨rfl, hb2⟩
    have hbld2 := hbld1.below hb2
    have hbw2 := hbw1.trans (hb2.mono hbw1.size)
    have hl2 : w.heap.size < W2.heap.size := by have := hb1.size; have := hb2.size; omega
    gi_wp2
    refine ⟨trivial, ?_⟩
    refine (CallsIn.inRound l (callsIn_wide.2 (cW1 W2 hbld2 hbw2 hl2))).mono ?_
    rintro e W3 ⟨rfl, hbld3, hbw3, hk3, hs3⟩
    have hl3 : w.heap.size < W3.heap.size := by omega
    gi_wp2
    refine ⟨trivial, ?_⟩
    refine (CallsIn.inRound l (callsIn_wide.2 (cW2 W3 hbld3 hbw3 hl3))).mono ?_
    rintro e W4 ⟨rfl, hbld4, hbw4, hk4, hs4⟩
    have hk : ∀ (k : Nat) (o : Obj), W.heap[k]? = some o → k ≠ w.heap.size → (∀ c fz, o ≠ .cells c 5 fz) → W4.heap[k]? = some o := by
      intro k o h1 h2 h3
      have hkl := (Array.getElem?_eq_some_iff.1 h1).1
      have e2 : W2.heap[k]? = some o := (hb2.block _ (Nat.lt_of_lt_of_le hkl hb1.size)).trans ((hb1.block _ hkl).trans h1)
      exact ch_kept hk4 k o (ch_kept hk3 k o e2 h2 h3) h2 h3
    have hz4 : W.heap.size ≤ W4.heap.size := by have := hb1.size; have := hb2.size; omega
    have hax4 : Boxed W4 (w.heap.size + 1) 86 (.slice p1 A.length c1) := hk _ _ hax (by omega) (fun c fz e => by cases e)
    rw [HF.out] at hbld4
    have HEND := Lib.hid (show ownPostG w3.heap.size (KeptB (w.heap.size + 1) (.slice p1 A.length c1) A) (DigI w (.slice p1 A.length c1)) DigX (pre ++ [(i, y)]) W .normal { tmps := #[], defers := [] } W4 from
      ⟨⟨hz4, fun k o h1 h2 h3 => hk k o h2 (by omega) (fun c fz e => by rw [e] at h3; cases h3)⟩, ⟨hax4.trans hax.symm, fun _ => hu.later hbw4⟩, ⟨hbld4, hax4, hbw4, by omega⟩⟩)
    clear hk hax4 hbld4 hbw4 hk4 hs4 hbld3 hbw3 hk3 hs3 hz4 hbld2 hbld1 hbld hax hbw hbw1 hbw2 cW1 cW2 cR cI
    gi_wp2
    exact HEND.out
  case done =>
    rintro D xs W hD hS HI hdef
    have hbld := HI.bld
    rw [hS] at hbld
    have hbig := HI.big
    have hbw := HI.below
    have cS := Tryz.Builder_String_any_k w.heap.size w.heap.size (nines (bwL A)) W hbld (by omega)
    have hDl : D < W.heap.size := (Array.getElem?_eq_some_iff.1 hdef).1
    clear hseq h0 HI hS hbld hu hsA
    gi_wp2
    refine ⟨trivial, ?_⟩
    refine (callsIn_wide.2 cS).mono ?_
    rintro e W1 ⟨rfl, _, hb1, hk1⟩
    have hdef1 := ch_kept hk1 D _ hdef (by omega) (fun c fz e => by cases e)
    clear hk1 cS
    gi_wp2
    refine ⟨by simp, .inl ⟨_, _, rfl, run_takeDeferred hdef1, ?_⟩⟩
    refine ⟨_, by simp [results, Tryz.results127, go_sem], rfl, ?_⟩
    have hbw1 := hbw.trans hb1
    exact hbw1.trans (Ch.below (R := fun k => k = D) (Ch.of_grown (grownBy_putObj' _ _ _) (fun k e => (Option.some.inj e).symm)) hbw1.size (fun k hk e => by omega))
  case stop =>
    rintro D c pre W _ _ h _
    exact h.elim
end Go.Proofs.YtgmnjghbafbopaaGreatDoor

/- A range over a function whose iterator keeps a state of its own in memory: a law beside the library's. No program in this text. Worlds that have new blocks and writes to some old ones; numbers are compared by their words. No program in this text. slices.Backward at words: the iterator. Natural numbers: the contract of compare. -/
import Derived.RangeFuncNested
import Derived.RangeFuncBound
import Derived.RangeFuncLeaves
import Derived.Shelf.Abstract
import Derived.Test.YtgmnjghbafbopaaGreatDoorMNuA
import Derived.RangeFuncWrites
import Derived.RangeFuncBox
import Derived.Test.YtgmnjghbafbopaaGreatDoorMNuB
import Derived.LoopIn
import Derived.LoopNIn
import Derived.TacticsInMore
import Derived.Test.YtgmnjghbafbopaaGreatDoorMShelf
namespace Go.Proofs.YtgmnjghbafbopaaGreatDoor
open Go.RowKit

/-- What an iterator does, whatever is asked of the rounds by J and Jx that bear its own steps (Ab): the rounds get what may come next (Nx); a round that goes on keeps Kp. -/
def SeqRuns {α : Type} (F : Fence) (n : Nat) (P : Program) (g : Nat) (lb : Array Value) (encs : α → Array Value) (Ab Kp : World → World → Prop) (Nx : List α → α → Prop) (S Sp : List α → Prop) (w : World) : Prop :=
  ∀ (l : Nat) (J Jx : List α → World → Prop) (W : World), Below w.heap.size w W → (∀ s A B, J s A → Ab A B → J s B) → (∀ s A B, Jx s A → Ab A B → Jx s B) →
    (∀ pre x W1, Nx pre x → J pre W1 → YieldAt F (n - 1) P l (encs x) W1 fun e W' =>
      (e = .returned (.bool true) ∧ J (pre ++ [x]) W' ∧ Kp W1 W') ∨ (e = .returned (.bool false) ∧ Jx (pre ++ [x]) W')) →
    J [] W →
    CallsIn F n P g (#[.func (.yield l) #[] #[]] ++ lb) W fun e W' => (∃ v, e = .returned v) ∧ ((∃ xs, S xs ∧ J xs W') ∨ (∃ pre, Sp pre ∧ Jx pre W'))

theorem wpIn_rangeFunc_runs {α : Type} {F : Fence} {n : Nat} {P : Program} {g : Operand} {ps : Array Tmp} {assign body : Code} {Q : Exit → Act → World → Prop} {a : Act} {w : World}
    (hro : F.round = none) (h1 : 1 ≤ n) {gf : Nat} {lb : Array Value} (hg : a.eval g = .func (.func gf) #[] lb) (hFg : F.fn gf) (eg : ∀ args w, (callFunc gf args).run P w = .ok (.enter gf args) w)
    {encs : α → Array Value} {Ab Kp : World → World → Prop} {Nx : List α → α → Prop} {S Sp : List α → Prop} (hseq : SeqRuns F (n - 1) P gf lb encs Ab Kp Nx S Sp w)
    (hKt : ∀ {A B C : World}, Kp A B → Kp B C → Kp A C) (hKb : ∀ (W : World) (l : Nat) (o o' : Obj), w.heap.size ≤ l → W.heap[l]? = some o → o.isCells = false → o.isWalk = false → Kp W (W.putObj l o'))
    (hAb : ∀ A B, Ab A B → ∀ (k : Nat) (o : Obj), w.heap.size ≤ k → A.heap[k]? = some o → o.isCells = false → o.isWalk = false → B.heap[k]? = some o) (hps : ∀ x, (encs x).size = ps.size)
    (I : List α → World → Prop) (Ix : Code → List α → World → Prop) (hI : OwnFrom w.heap.size I) (hIx : ∀ c, OwnFrom w.heap.size (Ix c)) (hIA : ∀ s A B, I s A → Ab A B → I s B) (hIxA : ∀ c s A B, Ix c s A → Ab A B → Ix c s B) (h0 : I [] w)
    (a₁ : α → Act)
    (hassign : ∀ (l : Nat) (x : α) (W : World) (K : Act → World → Prop), K (a₁ x) W →
      assign.wpIn (F.inRound l) (n - 1 - 1) P (Exit.then K (fun _ _ _ => False)) { tmps := (ps.zip (encs x)).foldl (fun t (p, v) => t.setIfInBounds p v) a.tmps, defers := [] } W)
    (hbody : ∀ (l : Nat) (pre : List α) (x : α) (W : World), Nx pre x → I pre W → w.heap.size < W.heap.size → body.wpIn (F.inRound l) (n - 1 - 1) P (ownPostG w.heap.size Kp I Ix (pre ++ [x]) W) (a₁ x) W)
    (hdone : ∀ (D : Nat) (xs : List α) (W : World), w.heap.size ≤ D → S xs → I xs W → W.heap[D]? = some (.deferred (some [])) → Q .normal { a with defers := { target := .collected D, args := #[] } :: a.defers } W)
    (hstop : ∀ (D : Nat) (c : Code) (pre : List α) (W : World), w.heap.size ≤ D → Sp pre → Ix c pre W → W.heap[D]? = some (.deferred (some [])) → c.wpIn F n P Q { a with defers := { target := .collected D, args := #[] } :: a.defers } W) :
    (Code.rangeFunc g ps assign body).wpIn F n P Q a w := by
  refine wpIn_rangeFunc fun fn hfn => ?_
  rw [hro]
  generalize hB : w.heap.size = B at *
  obtain ⟨R, hR⟩ : ∃ R : LoopState → Option Code → Loop, R = fun st pe => { state := st, pending := pe, fn, tmps := a.tmps, params := ps, assign, body, defers := B } := ⟨_, rfl⟩
  have hRs : ∀ st pe, (R st pe).state = st := fun st pe => by rw [hR]
  have hRp : ∀ st pe, (R st pe).pending = pe := fun st pe => by rw [hR]
  obtain ⟨W1, hW1⟩ : ∃ W1, (w.alloc (.deferred (some []))).alloc (.loop (R .ready none)) = W1 := ⟨_, rfl⟩
  have hl1 : W1.heap[B + 1]? = some (.loop (R .ready none)) := by
    rw [← hW1, ← hB]
    have := World.alloc_heap_new (w.alloc (.deferred (some []))) (.loop (R .ready none))
    rwa [World.size_alloc] at this
  have hd1 : W1.heap[B]? = some (.deferred (some [])) := by
    rw [← hW1, ← hB]
    exact (Below.heap_alloc _ _ _ (by simp)).trans (World.alloc_heap_new w _)
  have hb1 : Below B w W1 := by
    rw [← hW1]
    exact (((Below.refl _ w).alloc (by omega) _).alloc (by simp; omega) _)
  have hi1 : I [] W1 := by rw [← hW1]; exact hI.alloc _ (hI.alloc _ h0)
  refine ⟨B + 1, [{ target := .collected B, args := #[] }], W1, { target := .fn (.func gf) lb, args := #[.func (.yield (B + 1)) #[] #[]] }, W1, gf, #[.func (.yield (B + 1)) #[] #[]] ++ lb, W1, ?_, ?_, ?_, ?_, fun _ => h1, ?_⟩
  · rw [← hW1, hR, ← hB]; exact run_enterLoop_outer _ _ _ _ _
  · simp only [resolve, hg]
    simp [go_sem]
  · intro f' hf'
    simp [Target.leads] at hf'
    subst hf'; exact hFg
  · simp [invoke, go_sem, eg]
  · refine (hseq (B + 1) (fun pre W => I pre W ∧ W.heap[B + 1]? = some (.loop (R .ready none)) ∧ W.heap[B]? = some (.deferred (some [])))
      (fun pre W => ∃ c, Ix c pre W ∧ W.heap[B + 1]? = some (.loop (R .done (some c))) ∧ W.heap[B]? = some (.deferred (some []))) W1 (by rw [hB]; exact hb1)
      (fun s A C hs hab => ⟨hIA s A C hs.1 hab, hAb A C hab _ _ (by omega) hs.2.1 rfl rfl, hAb A C hab _ _ (Nat.le_refl _) hs.2.2 rfl rfl⟩)
      (fun s A C hs hab => by
        obtain ⟨c, hc, hl, hd⟩ := hs
        exact ⟨c, hIxA c s A C hc hab, hAb A C hab _ _ (by omega) hl rfl rfl, hAb A C hab _ _ (Nat.le_refl _) hd rfl rfl⟩)
      ?_ ⟨hi1, hl1, hd1⟩).mono ?_
    · rintro pre x W hnx ⟨hi, hl, hd⟩
      have hlt : B + 1 < W.heap.size := (Array.getElem?_eq_some_iff.1 hl).1
      have hy := run_yield (P := P) (args := encs x) hl (by rw [hR]; exact hps x)
      rw [hR] at hy
      refine ⟨fn, _, assign, body, hy, roundIn_of_wpIn hfn (hassign _ x W _ ?_)⟩
      clear hy
      refine ⟨_, run_beginRound hl (hRs _ _), ?_⟩
      have hl2 : (W.putObj (B + 1) (.loop { R .ready none with state := .busy })).heap[B + 1]? = some (.loop { R .ready none with state := .busy }) := World.putObj_heap_same hlt
      have hd2 : (W.putObj (B + 1) (.loop { R .ready none with state := .busy })).heap[B]? = some (.deferred (some [])) := (World.putObj_heap_other (by omega)).trans hd
      have hk2 : Kp W (W.putObj (B + 1) (.loop { R .ready none with state := .busy })) := hKb _ _ _ _ (by omega) hl rfl rfl
      have hi2 : I pre (W.putObj (B + 1) (.loop { R .ready none with state := .busy })) := hI.putObj _ hi (by omega) hl rfl
      have hs2 : B < (W.putObj (B + 1) (.loop { R .ready none with state := .busy })).heap.size := by simp [World.putObj]; omega
      refine wpIn_mono (hbody _ pre x _ hnx hi2 hs2) ?_
      generalize W.putObj (B + 1) (.loop { R .ready none with state := .busy }) = W2 at hl2 hd2 hk2 ⊢
      have fin : ∀ (jump : Option Code) (W3 : World), KeepsFrom B W2 W3 →
          W3.heap[B + 1]? = some (.loop { R .ready none with state := .busy }) ∧
          (Instr.endRound (B + 1) jump).run P W3 = .ok (.bool jump.isNone) (W3.putObj (B + 1) (.loop (R (if jump.isNone then .ready else .done) jump))) ∧
          (W3.putObj (B + 1) (.loop (R (if jump.isNone then .ready else .done) jump))).heap[B + 1]? = some (.loop (R (if jump.isNone then .ready else .done) jump)) ∧
          (W3.putObj (B + 1) (.loop (R (if jump.isNone then .ready else .done) jump))).heap[B]? = some (.deferred (some [])) := fun jump W3 hk3 => by
        have hl3 := hk3.same _ _ (by omega) hl2 rfl
        have he := run_endRound (P := P) jump hl3
        have hd3 := hk3.same _ _ (Nat.le_refl _) hd2 rfl
        rw [hR] at he ⊢
        rw [hR] at hl3
        exact ⟨hl3, he, World.putObj_heap_same (Array.getElem?_eq_some_iff.1 hl3).1, (World.putObj_heap_other (by omega)).trans hd3⟩
      rintro e a3 W3 hp
      cases e with
      | normal =>
        obtain ⟨hk3, hp3, hi3⟩ := hp
        obtain ⟨hl3, hr, hl4, hd4⟩ := fin none W3 hk3
        exact ⟨_, _, hr, .inl ⟨rfl, ⟨hI.putObj _ hi3 (by omega) hl3 rfl, hl4, hd4⟩, hKt (hKt hk2 hp3) (hKb _ _ _ _ (by omega) hl3 rfl rfl)⟩⟩
      | ret =>
        obtain ⟨hk3, hi3⟩ := hp
        obtain ⟨hl3, hr, hl4, hd4⟩ := fin (some .ret) W3 hk3
        exact ⟨_, _, hr, .inr ⟨rfl, .ret, (hIx _).putObj _ hi3 (by omega) hl3 rfl, hl4, hd4⟩⟩
      | exit id =>
        obtain ⟨hk3, hi3⟩ := hp
        obtain ⟨hl3, hr, hl4, hd4⟩ := fin (some (.exit id)) W3 hk3
        exact ⟨_, _, hr, .inr ⟨rfl, .exit id, (hIx _).putObj _ hi3 (by omega) hl3 rfl, hl4, hd4⟩⟩
      | goto t =>
        obtain ⟨hk3, hi3⟩ := hp
        obtain ⟨hl3, hr, hl4, hd4⟩ := fin (some (.goto t)) W3 hk3
        exact ⟨_, _, hr, .inr ⟨rfl, .goto t, (hIx _).putObj _ hi3 (by omega) hl3 rfl, hl4, hd4⟩⟩
      | panic ch => exact hp.elim
      | outgrown => exact hp.elim
    · rintro e W2 ⟨⟨v, rfl⟩, (⟨xs, hS, hi, hl, hd⟩ | ⟨pre, hSp, c, hi, hl, hd⟩)⟩
      · have he := run_endLoop (P := P) hl (by rw [hRs]; simp)
        rw [hRp] at he
        exact ⟨none, _, he, hdone B xs _ (Nat.le_refl _) hS (hI.putObj _ hi (by omega) hl rfl) ((World.putObj_heap_other (by omega)).trans hd)⟩
      · have he := run_endLoop (P := P) hl (by rw [hRs]; simp)
        rw [hRp] at he
        exact ⟨some c, _, he, hstop B c pre _ (Nat.le_refl _) hSp ((hIx c).putObj _ hi (by omega) hl rfl) ((World.putObj_heap_other (by omega)).trans hd)⟩
end Go.Proofs.YtgmnjghbafbopaaGreatDoor
namespace Go.Proofs.YtgmnjghbafbopaaGreatDoor
open Go.RowKit Go.Lib

/-- New blocks, and writes to such old ones as R says. -/
structure Ch (R : Nat → Prop) (w w' : World) : Prop where
  os : w'.os = w.os
  tape : w'.tape = w.tape
  output : w'.output = w.output
  size : w.heap.size ≤ w'.heap.size
  block : ∀ k, k < w.heap.size → ¬ R k → w'.heap[k]? = w.heap[k]?
theorem Ch.refl (R : Nat → Prop) (w : World) : Ch R w w := ⟨rfl, rfl, rfl, Nat.le_refl _, fun _ _ _ => rfl⟩
theorem Ch.trans {R : Nat → Prop} {a b c : World} (h : Ch R a b) (k : Ch R b c) : Ch R a c :=
  ⟨k.os.trans h.os, k.tape.trans h.tape, k.output.trans h.output, Nat.le_trans h.size k.size, fun i hi hn => (k.block i (Nat.lt_of_lt_of_le hi h.size) hn).trans (h.block i hi hn)⟩
theorem Ch.mono {R R' : Nat → Prop} {a b : World} (h : Ch R a b) (hR : ∀ k, k < a.heap.size → R k → R' k) : Ch R' a b :=
  ⟨h.os, h.tape, h.output, h.size, fun i hi hn => h.block i hi (fun hr => hn (hR i hi hr))⟩
theorem Ch.of_below {R : Nat → Prop} {a b : World} (h : Below a.heap.size a b) : Ch R a b := ⟨h.os, h.tape, h.output, h.size, fun k hk _ => h.block k hk⟩
theorem Ch.of_grown {R : Nat → Prop} {a b : World} {row : Option Nat} (h : a.grownBy b row) (hr : ∀ k, row = some k → R k) : Ch R a b :=
  ⟨h.os, h.tape, h.output, h.size, fun k hk hn => h.block k hk (fun e => hn (hr k e.symm))⟩
theorem Ch.behind {R : Nat → Prop} {w a b : World} (h : Ch (fun k => R k ∨ w.heap.size ≤ k) a b) (ha : Below w.heap.size w a) : Ch R w b :=
  ⟨h.os.trans ha.os, h.tape.trans ha.tape, h.output.trans ha.output, Nat.le_trans ha.size h.size, fun k hk hn => (h.block k (Nat.lt_of_lt_of_le hk ha.size) (fun e => e.elim hn (fun e => by omega))).trans (ha.block k hk)⟩
theorem Ch.alloc {R : Nat → Prop} {a b : World} (h : Ch R a b) (o : Obj) : Ch R a (b.alloc o) := h.trans (.of_grown (World.grownBy_alloc b o none) (fun _ e => by cases e))
theorem Ch.drew {R : Nat → Prop} {a b : World} (h : Ch R a b) : Ch R a b.drew := ⟨h.os, h.tape, h.output, h.size, h.block⟩
theorem Ch.setCell {R : Nat → Prop} {a b : World} (h : Ch R a b) {p : Addr} (hp : R p.block ∨ a.heap.size ≤ p.block) (u : Value) : Ch R a (b.setCell p u) :=
  ⟨h.os, h.tape, h.output, by simpa [World.setCell] using h.size, fun k hk hn => (Below.heap_setCell _ _ _ _ (fun e => hp.elim (fun h => hn (by rw [e]; exact h)) (fun h => by omega))).trans (h.block k hk hn)⟩
theorem Ch.below {R : Nat → Prop} {a b : World} (h : Ch R a b) {B : Nat} (hB : B ≤ a.heap.size) (hR : ∀ k, k < B → ¬ R k) : Below B a b :=
  ⟨h.os, h.tape, h.output, h.size, fun k hk => h.block k (by omega) (hR k hk)⟩
theorem Ch.cell {R : Nat → Prop} {a b : World} (h : Ch R a b) {p : Addr} (hp : p.block < a.heap.size) (hn : ¬ R p.block) : b.cell? p = a.cell? p := World.cell?_of_block (h.block p.block hp hn)
theorem Ch.frozen {R : Nat → Prop} {a b : World} (h : Ch R a b) {p : Addr} (hp : p.block < a.heap.size) (hn : ¬ R p.block) : b.frozen? p = a.frozen? p := World.frozen?_of_block (h.block p.block hp hn)

/-- The words of a list with their places, from the highest on. -/
def bwL (l : List Nat) : List (Nat × Nat) := (List.range l.length).reverse.map fun i => (i, l.getD i 0)
theorem bwL_snoc (t : List Nat) (x : Nat) : bwL (t ++ [x]) = (t.length, x) :: bwL t := by
  unfold bwL
  rw [List.length_append, List.length_singleton, List.range_succ, List.reverse_append, List.reverse_singleton, List.singleton_append, List.map_cons]
  congr 1
  · congr 1
    rw [List.getD_eq_getElem?_getD, List.getElem?_append_right (Nat.le_refl _), Nat.sub_self]; rfl
  · refine List.map_congr_left fun i hi => ?_
    rw [List.mem_reverse, List.mem_range] at hi
    rw [List.getD_eq_getElem?_getD, List.getD_eq_getElem?_getD, List.getElem?_append_left hi]
theorem cmp_at (a b : List Nat) (ha : Small a) (i : Nat) (hi : i < a.length) (hl : a.length = b.length) (he : a.drop (i + 1) = b.drop (i + 1)) (hlt : a.getD i 0 < b.getD i 0) : val a < val b := by
  have key : ∀ l : List Nat, i < l.length → val l = val (l.take i) + 1000000000 ^ i * (l.getD i 0 + 1000000000 * val (l.drop (i + 1))) := by
    intro l h
    have e : l = l.take i ++ (l.getD i 0 :: l.drop (i + 1)) := by
      conv => lhs; rw [← List.take_append_drop i l, List.drop_eq_getElem_cons h]
      rw [List.getD_eq_getElem?_getD, List.getElem?_eq_getElem h]; rfl
    conv => lhs; rw [e, val_app, List.length_take, Nat.min_eq_left (by omega), val]
  rw [key a hi, key b (by omega), he]
  have h1 := val_lt (a.take i) (ha.take i)
  rw [List.length_take, Nat.min_eq_left (by omega)] at h1
  have h2 : 1000000000 ^ i * (a.getD i 0 + 1000000000 * val (b.drop (i + 1)) + 1) ≤ 1000000000 ^ i * (b.getD i 0 + 1000000000 * val (b.drop (i + 1))) := Nat.mul_le_mul_left _ (by omega)
  rw [Nat.mul_add _ (a.getD i 0 + _) 1, Nat.mul_one] at h2
  omega
end Go.Proofs.YtgmnjghbafbopaaGreatDoor
namespace Go.Proofs.YtgmnjghbafbopaaGreatDoor
open Go.RowKit Go.Lib
attribute [local go_sem] Oper.semAt_some

def intOf : Value → Int
  | .int _ z => z
  | _ => 0
/-- What a round keeps of what the iterator reads: the box, and the words. -/
def KeptB (Bs : Nat) (v : Value) (l : List Nat) (W W' : World) : Prop := W'.heap[Bs]? = W.heap[Bs]? ∧ (Nats W v l → Nats W' v l)
theorem KeptB.trans {Bs : Nat} {v : Value} {l : List Nat} {X Y Z : World} (h : KeptB Bs v l X Y) (k : KeptB Bs v l Y Z) : KeptB Bs v l X Z := ⟨k.1.trans h.1, fun x => k.2 (h.2 x)⟩
theorem backward_any (n : Nat) (p : Option Addr) (k cap : Nat) (w : World) :
    CallsIn Fence.wide n Tryz.prog 164 #[.slice p k cap] w fun e w' => e = .returned (.func (.func 198) #[] #[.pointer (some ⟨w.heap.size, 0, none⟩)]) ∧ w' = w.alloc (.cells #[.slice p k cap] 86) := by
  refine callsIn_of_wp Tryz.func164 rfl trivial ?_ rfl
  simp only [Tryz.ntmps164, List.size_toArray, List.length_cons, List.length_nil, Nat.reduceAdd, Nat.reduceSub, Array.replicate_succ, Array.replicate_zero, List.push_toArray, List.append_toArray, List.nil_append, List.cons_append]
  gi_wp2
  go_ret
  exact ⟨rfl, rfl⟩
set_option maxRecDepth 100000 in
set_option maxHeartbeats 2000000 in
theorem backward1_in (n : Nat) (hn : 1 ≤ n) (l Bs : Nat) (v : Value) (ws : List Nat) (hw9 : ws.length < 100000000) (J Jx : List (Nat × Nat) → World → Prop)
    (hY : ∀ pre x W, (∃ rest, pre ++ x :: rest = bwL ws) → J pre W → YieldAt Fence.wide (n - 1) Tryz.prog l #[.int .i64 (x.1 : Int), .int .u32 (x.2 : Int)] W fun e W' =>
      (e = .returned (.bool true) ∧ J (pre ++ [x]) W' ∧ KeptB Bs v ws W W') ∨ (e = .returned (.bool false) ∧ Jx (pre ++ [x]) W'))
    (W : World) (hs : Boxed W Bs 86 v) (hN : Nats W v ws) (h0 : J [] W) :
    CallsIn Fence.wide n Tryz.prog 198 #[.func (.yield l) #[] #[], .pointer (some ⟨Bs, 0, none⟩)] W fun e W' => (∃ r, e = .returned r) ∧
      ((∃ ys, ys = bwL ws ∧ J ys W') ∨ (∃ pre, True ∧ Jx pre W')) := by
  refine callsIn_of_wp Tryz.func198 rfl trivial ?_ rfl
  simp only [Tryz.ntmps198, List.size_toArray, List.length_cons, List.length_nil, Nat.reduceAdd, Nat.reduceSub, Array.replicate_succ, Array.replicate_zero, List.push_toArray, List.append_toArray, List.nil_append, List.cons_append]
  obtain ⟨p, cap, rfl⟩ := hN.shape
  have cs := hs.cell
  gi_wp2
  have hK0 : Nats W (.slice p ws.length cap) ws := hN
  gi_loopw [3] (fun s3 wr => ∃ (k : Nat) (pre : List (Nat × Nat)), s3 = .int .i64 ((k : Int) - 1) ∧ k ≤ ws.length ∧ pre ++ bwL (ws.take k) = bwL ws ∧ J pre wr ∧ Boxed wr Bs 86 (.slice p ws.length cap) ∧ Nats wr (.slice p ws.length cap) ws) (fun s3 _ => (intOf s3 + 1).toNat)
  case atStart => exact ⟨ws.length, [], rfl, Nat.le_refl _, by rw [List.take_length]; rfl, h0, hs, hK0⟩
  case round =>
    clear hs hN cs h0 hK0
    obtain ⟨k, pre, rfl, hk, hpr, hj, hB, hNw⟩ := hrel
    by_cases hk0 : k = 0
    · subst hk0
      have hkz : ¬ (0 : Int) ≤ ((0 : Nat) : Int) - 1 := by omega
      have hpr2 : pre = bwL ws := by rw [← hpr]; exact (List.append_nil _).symm
      gi_wp2
      refine bodyPost_end (results_none rfl _ _ _) rfl ?_
      exact ⟨⟨_, rfl⟩, .inl (by first | (rw [← hpr2]; exact hj) | exact ⟨_, hpr2, hj⟩)⟩
    · obtain ⟨k, rfl⟩ : ∃ j, k = j + 1 := ⟨k - 1, by omega⟩
      have hkz : (0 : Int) ≤ ((k + 1 : Nat) : Int) - 1 := by omega
      have hsub : ((k + 1 : Nat) : Int) - 1 = (k : Int) := by omega
      rw [take_snoc' ws k (by omega), bwL_snoc, List.length_take, Nat.min_eq_left (by omega)] at hpr
      have hYx := hY pre (k, ws.getD k 0) wr ⟨_, hpr⟩ hj
      obtain ⟨b0, off, hp, hcell⟩ := hNw.at (Below.refl _ wr) k (by omega)
      have cb := hB.cell
      subst hp
      obtain ⟨fn, tmps, assign, body, hy, hR⟩ := hYx
      have HP := Lib.hid hpr
      have HN := Lib.hid hNw
      clear hpr hNw hY
      generalize ws.getD k 0 = x at *
      gi_wp2
      refine hR.mono ?_
      rintro e W3 (⟨rfl, hJ3, hk3⟩ | ⟨rfl, hJx3⟩)
      · have hB3 : Boxed W3 Bs 86 (.slice (some ⟨b0, off, none⟩) ws.length cap) := hk3.1.trans hB
        have hN3 := hk3.2 HN.out
        gi_wp2
        go_roundw
        case rel => exact ⟨k, pre ++ [(k, x)], rfl, by omega, by rw [List.append_assoc]; exact HP.out, hJ3, hB3, hN3⟩
        case measure => simp [intOf] <;> omega
      · gi_wp2
        refine bodyPost_ret (results_none rfl _ _ _) rfl ?_
        exact ⟨⟨_, rfl⟩, .inr (by first | exact ⟨_, trivial, hJx3⟩ | exact ⟨_, hJx3⟩)⟩
end Go.Proofs.YtgmnjghbafbopaaGreatDoor
namespace Go.Proofs.YtgmnjghbafbopaaGreatDoor
open Go.RowKit Go.Lib
attribute [local go_sem] Oper.semAt_some

theorem bwL_mem : ∀ (l : List Nat) (pre rest : List (Nat × Nat)) (x : Nat × Nat), pre ++ x :: rest = bwL l → x.1 < l.length ∧ x.2 = l.getD x.1 0 ∧ pre.map Prod.fst = ((List.range l.length).reverse).take pre.length ∧ x.1 + 1 + pre.length = l.length := by
  intro l pre rest x h
  have h1 := congrArg (fun y => y.map Prod.fst) h
  simp only [bwL, List.map_append, List.map_cons, List.map_map] at h1
  rw [show (Prod.fst ∘ fun i => (i, l.getD i 0)) = (id : Nat → Nat) from rfl, List.map_id] at h1
  have hlen := congrArg List.length h1
  simp at hlen
  have hx : ((List.range l.length).reverse)[pre.length]? = some x.1 := by
    rw [← h1, List.getElem?_append_right (by simp)]
    simp
  have hlt : pre.length < l.length := by omega
  rw [List.getElem?_reverse (by simpa using hlt), List.length_range, List.getElem?_range (by omega)] at hx
  have hx1 : l.length - 1 - pre.length = x.1 := Option.some.inj hx
  have hm : x ∈ bwL l := by rw [← h]; simp
  obtain ⟨i, _, hi⟩ := List.mem_map.1 hm
  refine ⟨by omega, by rw [← hi], ?_, by omega⟩
  rw [← h1, List.take_append_of_le_length (by simp), List.take_of_length_le (by simp)]
theorem res_cmp {W : World} {b2 : Nat} {z : Int} (h2 : Boxed W b2 3 (.int .i64 z)) (tmps : Array Value) (t4 : tmps.getD 4 undef = .pointer (some ⟨b2, 0, none⟩)) :
    (results Tryz.f123 tmps).run Tryz.prog W = .ok (.int .i64 z) W := by
  have c2 := h2.cell
  have u4 : tmps[4]?.getD undef = .pointer (some ⟨b2, 0, none⟩) := by simpa using t4
  simp [results, Tryz.results123, go_sem, u4, c2]
theorem cmpInt_any (x y : Int) (w : World) : Calls Tryz.prog 163 #[.int .i64 x, .int .i64 y] w fun e w' => e = .returned (.int .i64 (if x < y then -1 else if y < x then 1 else 0)) ∧ w' = w := by
  refine (Tryz.cmp_Compare_int x y w).mono ?_
  rintro e w' ⟨rfl, rfl⟩
  exact ⟨rfl, rfl⟩
theorem isNaN_u32 (x : Int) (w : World) : Calls Tryz.prog 199 #[.int .u32 x] w fun e w' => e = .returned (.bool false) ∧ w = w' := by
  go_enter Tryz.func199, Tryz.ntmps199
  go_wp2_with fail
  go_ret
  exact ⟨rfl, rfl⟩
def sgI (x y : Int) : Int := if x < y then -1 else if y < x then 1 else 0
theorem cmpU32_any (x y : Int) (w : World) : Calls Tryz.prog 165 #[.int .u32 x, .int .u32 y] w fun e w' => e = .returned (.int .i64 (sgI x y)) ∧ w = w' := by
  have c1 := fun W => isNaN_u32 x W
  have c2 := fun W => isNaN_u32 y W
  unfold sgI
  by_cases h1 : x < y
  · rw [if_pos h1]
    go_enter Tryz.func165, Tryz.ntmps165
    go_wp2_with fail
    refine (c1 _).mono ?_
    rintro e w1 ⟨rfl, rfl⟩
    go_wp2_with fail
    refine (c2 _).mono ?_
    rintro e w1 ⟨rfl, rfl⟩
    go_wp2_with fail
    go_ret
    exact ⟨rfl, rfl⟩
  · by_cases h2 : y < x
    · rw [if_neg h1, if_pos h2]
      go_enter Tryz.func165, Tryz.ntmps165
      go_wp2_with fail
      refine (c1 _).mono ?_
      rintro e w1 ⟨rfl, rfl⟩
      go_wp2_with fail
      refine (c2 _).mono ?_
      rintro e w1 ⟨rfl, rfl⟩
      go_wp2_with fail
      go_ret
      exact ⟨rfl, rfl⟩
    · rw [if_neg h1, if_neg h2]
      go_enter Tryz.func165, Tryz.ntmps165
      go_wp2_with fail
      refine (c1 _).mono ?_
      rintro e w1 ⟨rfl, rfl⟩
      go_wp2_with fail
      refine (c2 _).mono ?_
      rintro e w1 ⟨rfl, rfl⟩
      go_wp2_with fail
      go_ret
      exact ⟨rfl, rfl⟩
theorem Nats.put {W : World} {v : Value} {ws : List Nat} (h : Nats W v ws) {l : Nat} {o : Obj} (o' : Obj) (ho : W.heap[l]? = some o) (hc : o.isCells = false) : Nats (W.putObj l o') v ws := by
  rcases h with h | ⟨b, off, cap, rfl, hcap, h⟩
  · exact .inl h
  · refine .inr ⟨b, off, cap, rfl, hcap, fun j hj => ?_⟩
    have hj' := h j hj
    have hne : b ≠ l := by
      rintro rfl
      unfold World.cell? at hj'
      rw [ho] at hj'
      cases o with
      | cells _ _ _ => cases hc
      | _ => simp at hj'
    exact (World.cell?_of_block (a := ⟨b, off + j, none⟩) (World.putObj_heap_other hne)).trans hj'
theorem Boxed.put {W : World} {B : Nat} {t : TypeId} {v : Value} (h : Boxed W B t v) {l : Nat} (o' : Obj) (hne : B ≠ l) : Boxed (W.putObj l o') B t v := (World.putObj_heap_other hne).trans h
/-- What the rounds stand on: the boxes; the words behind are the same. -/
structure CmpI (w : World) (v : Value) (la lb : List Nat) (pre : List (Nat × Nat)) (W : World) : Prop where
  box : Boxed W w.heap.size 86 v
  res : Boxed W (w.heap.size + 1) 3 (.int .i64 0)
  below : Below w.heap.size w W
  big : w.heap.size + 3 ≤ W.heap.size
  same : la.drop (la.length - pre.length) = lb.drop (la.length - pre.length)
theorem CmpI.other {w : World} {v : Value} {la lb : List Nat} {pre : List (Nat × Nat)} {X Y : World} (h : CmpI w v la lb pre X) {R : Nat → Prop} (hc : Ch R X Y) (hR : ∀ k, R k → w.heap.size + 3 ≤ k) : CmpI w v la lb pre Y := by
  have hb := h.big
  exact ⟨(hc.block _ (by omega) (fun e => by have := hR _ e; omega)).trans h.box, (hc.block _ (by omega) (fun e => by have := hR _ e; omega)).trans h.res, h.below.trans (hc.below (by omega) (fun k hk e => by have := hR k e; omega)), Nat.le_trans hb hc.size, h.same⟩
def CmpX (w : World) (z : Int) (c : Code) (_ : List (Nat × Nat)) (W : World) : Prop := c = .ret ∧ Boxed W (w.heap.size + 1) 3 (.int .i64 z) ∧ Below w.heap.size w W ∧ w.heap.size + 3 ≤ W.heap.size
theorem CmpX.other {w : World} {z : Int} {c : Code} {pre : List (Nat × Nat)} {X Y : World} (h : CmpX w z c pre X) {R : Nat → Prop} (hc : Ch R X Y) (hR : ∀ k, R k → w.heap.size + 3 ≤ k) : CmpX w z c pre Y := by
  obtain ⟨h1, h2, h3, hb⟩ := h
  exact ⟨h1, (hc.block _ (by omega) (fun e => by have := hR _ e; omega)).trans h2, h3.trans (hc.below (by omega) (fun k hk e => by have := hR k e; omega)), Nat.le_trans hb hc.size⟩
theorem drop_more (la lb : List Nat) (i : Nat) (hl : la.length = lb.length) (hi : i < la.length) (he : la.drop (i + 1) = lb.drop (i + 1)) (hx : la.getD i 0 = lb.getD i 0) : la.drop i = lb.drop i := by
  have key : ∀ l : List Nat, i < l.length → l.drop i = l.getD i 0 :: l.drop (i + 1) := fun l h => by
    rw [List.drop_eq_getElem_cons h, List.getD_eq_getElem?_getD, List.getElem?_eq_getElem h]; rfl
  rw [key la hi, key lb (by omega), he, hx]
set_option maxRecDepth 100000 in
set_option maxHeartbeats 4000000 in
theorem compare_any (u v : Value) (a b : Nat) (ha9 : (wordsOf a).length < 100000000) (w : World) (hu : Nats w u (wordsOf a)) (hv : Nats w v (wordsOf b)) :
    Calls Tryz.prog 123 #[u, v] w fun e w' => e = .returned (.int .i64 (sgnN a b)) ∧ Below w.heap.size w w' := by
  refine (callsIn_wide (n := 8)).1 ?_
  refine callsIn_of_wp_marks Tryz.func123 rfl trivial ?_ rfl
  simp only [Tryz.ntmps123, List.size_toArray, List.length_cons, List.length_nil, Nat.reduceAdd, Nat.reduceSub, Array.replicate_succ, Array.replicate_zero, List.push_toArray, List.append_toArray, List.nil_append, List.cons_append]
  obtain ⟨p1, c1, rfl⟩ := hu.shape
  obtain ⟨p2, c2, rfl⟩ := hv.shape
  have cI := fun W => cmpInt_any ((wordsOf a).length : Int) ((wordsOf b).length : Int) W
  obtain ⟨W1, hW1⟩ : ∃ W1, (w.alloc (.cells #[.slice p2 (wordsOf b).length c2] 86)).alloc (.cells #[.int .i64 0] 3) = W1 := ⟨_, rfl⟩
  have hbx : Boxed W1 w.heap.size 86 (.slice p2 (wordsOf b).length c2) := by rw [← hW1]; exact (Boxed.new w _ _).alloc _
  have hrx : Boxed W1 (w.heap.size + 1) 3 (.int .i64 0) := by
    rw [← hW1]
    have := Boxed.new (w.alloc (.cells #[.slice p2 (wordsOf b).length c2] 86)) 3 (.int .i64 0)
    rwa [World.size_alloc] at this
  have hb1 : Below w.heap.size w W1 := by rw [← hW1]; exact ((Below.refl _ _).alloc (Nat.le_refl _) _).alloc (by simp) _
  have hz1 : W1.heap.size = w.heap.size + 2 := by rw [← hW1]; simp
  have hab := len_lt a b
  have hba := len_lt b a
  have c0 := hrx.cell
  have cb := hbx.cell
  have f0 := hrx.frozen
  by_cases h1 : (wordsOf a).length < (wordsOf b).length
  · have hs : sgnN a b = -1 := by unfold sgnN; rw [if_pos (hab h1)]
    have cI1 := cI W1
    rw [if_pos (by omega)] at cI1
    rw [hs]
    obtain ⟨W2, hW2⟩ : ∃ W2, W1.setCell ⟨w.heap.size + 1, 0, none⟩ (.int .i64 (-1)) = W2 := ⟨_, rfl⟩
    have hr2 : Boxed W2 (w.heap.size + 1) 3 (.int .i64 (-1)) := by rw [← hW2]; exact hrx.set _
    have hb2 : Below w.heap.size w W2 := by rw [← hW2]; exact hb1.setCell (p := ⟨w.heap.size + 1, 0, none⟩) (by simp) _
    clear hu hv hab hba cI
    gi_wp2_with (refine ⟨trivial, ?_⟩; gi_at_call 163; refine (callsIn_wide.2 cI1).mono ?_; rintro e w2 ⟨rfl, rfl⟩)
    exact ⟨_, res_cmp hr2 _ rfl, rfl, hb2⟩
  · by_cases h2 : (wordsOf b).length < (wordsOf a).length
    · have hs : sgnN a b = 1 := by unfold sgnN; rw [if_neg (by have := hba h2; omega), if_pos (hba h2)]
      have cI1 := cI W1
      rw [if_neg (by omega), if_pos (by omega)] at cI1
      rw [hs]
      obtain ⟨W2, hW2⟩ : ∃ W2, W1.setCell ⟨w.heap.size + 1, 0, none⟩ (.int .i64 1) = W2 := ⟨_, rfl⟩
      have hr2 : Boxed W2 (w.heap.size + 1) 3 (.int .i64 1) := by rw [← hW2]; exact hrx.set _
      have hb2 : Below w.heap.size w W2 := by rw [← hW2]; exact hb1.setCell (p := ⟨w.heap.size + 1, 0, none⟩) (by simp) _
      clear hu hv hab hba cI
      gi_wp2_with (refine ⟨trivial, ?_⟩; gi_at_call 163; refine (callsIn_wide.2 cI1).mono ?_; rintro e w2 ⟨rfl, rfl⟩)
      exact ⟨_, res_cmp hr2 _ rfl, rfl, hb2⟩
    · have hl : (wordsOf a).length = (wordsOf b).length := by omega
      have cI1 := cI W1
      rw [if_neg (by omega), if_neg (by omega)] at cI1
      have HL := Lib.hid hl
      clear hab hba cI hl h1 h2
      gi_wp2_with (first | (refine ⟨trivial, ?_⟩; gi_at_call 163; refine (callsIn_wide.2 cI1).mono ?_; rintro e w2 ⟨rfl, rfl⟩; clear hW1) | (refine ⟨trivial, ?_⟩; gi_at_call 164; refine (backward_any _ _ _ _ _).mono ?_; rintro e w3 ⟨rfl, hw3⟩))
      have hl := HL.out
      have hbx3 := hbx.alloc (.cells #[.slice p1 (wordsOf a).length c1] 86)
      have hrx3 := hrx.alloc (.cells #[.slice p1 (wordsOf a).length c1] 86)
      have hb3 := hb1.alloc (by omega) (.cells #[.slice p1 (wordsOf a).length c1] 86)
      have hax3 : Boxed (w2.alloc (.cells #[.slice p1 (wordsOf a).length c1] 86)) (w.heap.size + 2) 86 (.slice p1 (wordsOf a).length c1) := by
        have := Boxed.new w2 86 (.slice p1 (wordsOf a).length c1)
        rwa [hz1] at this
      have hz3 : (w2.alloc (.cells #[.slice p1 (wordsOf a).length c1] 86)).heap.size = w.heap.size + 3 := by rw [World.size_alloc, hz1]
      generalize w2.alloc (.cells #[.slice p1 (wordsOf a).length c1] 86) = W3 at hbx3 hrx3 hb3 hax3 hz3 ⊢
      have hseq : SeqRuns Fence.wide 7 Tryz.prog 198 #[.pointer (some ⟨w.heap.size + 2, 0, none⟩)] (fun x : Nat × Nat => #[.int .i64 (x.1 : Int), .int .u32 (x.2 : Int)]) (Ch (fun _ => False)) (KeptB (w.heap.size + 2) (.slice p1 (wordsOf a).length c1) (wordsOf a))
          (fun pre x => ∃ rest, pre ++ x :: rest = bwL (wordsOf a)) (fun ys => ys = bwL (wordsOf a)) (fun _ => True) W3 := fun l J Jx W hW _ _ hY h0 =>
        backward1_in 7 (by omega) l _ _ _ ha9 J Jx hY W ((hW.block _ (by omega)).trans hax3) ((hu.later hb3).later hW) h0
      have h0 : CmpI w (.slice p2 (wordsOf b).length c2) (wordsOf a) (wordsOf b) [] W3 := ⟨hbx3, hrx3, hb3, by omega, by rw [List.length_nil, Nat.sub_zero, List.drop_length, hl, List.drop_length]⟩
      obtain ⟨A, hA⟩ : ∃ A, wordsOf a = A := ⟨_, rfl⟩
      obtain ⟨Bw, hBw⟩ : ∃ B, wordsOf b = B := ⟨_, rfl⟩
      have hsA : Small A := by rw [← hA]; exact small_wordsOf a
      have hsB : Small Bw := by rw [← hBw]; exact small_wordsOf b
      have hvA : val A = a := by rw [← hA]; exact val_wordsOf a
      have hvB : val Bw = b := by rw [← hBw]; exact val_wordsOf b
      rw [hA, hBw] at h0 hl
      rw [hA] at hseq ha9 hu
      rw [hBw] at hv
      rw [hA, hBw]
      clear hA hBw HL hbx hrx hb1 c0 cb f0 hbx3 hrx3 hax3 cI1
      have HL2 := Lib.hid hl
      clear hl
      refine wpIn_rangeFunc_runs rfl (by omega) (gf := 198) rfl trivial (enters_of Tryz.func198 (by kernel_rfl) rfl) hseq (fun h k => h.trans k) ?kb ?ab (fun _ => rfl)
        (CmpI w (.slice p2 Bw.length c2) A Bw) (CmpX w (sgnN a b)) ?own ?ownx ?ia ?ixa h0
        (fun x : Nat × Nat => { tmps := #[.slice p1 A.length c1, .slice p2 Bw.length c2, undef, .pointer (some ⟨w.heap.size, 0, none⟩), .pointer (some ⟨w.heap.size + 1, 0, none⟩), .int .i64 0, .int .i64 (x.1 : Int), .int .u32 (x.2 : Int), undef, .slice p1 A.length c1, .int .i64 A.length, .slice p2 Bw.length c2, .int .i64 Bw.length, .int .i64 0, .int .i64 0, .bool false, undef, .slice p1 A.length c1, .func (.func 198) #[] #[.pointer (some ⟨w.heap.size + 2, 0, none⟩)], .int .i64 (x.1 : Int), .int .u32 (x.2 : Int), undef, undef, undef, undef, undef, undef, undef, undef, undef], defers := [] })
        ?assign ?body ?done ?stop
      case kb =>
        intro W l o o' hB ho hc _
        exact ⟨World.putObj_heap_other (by omega), fun hN => hN.put o' ho hc⟩
      case ab =>
        intro X Y h k o hk ho _ _
        exact (h.block k (Array.getElem?_eq_some_iff.1 ho).1 (fun e => e)).trans ho
      case own =>
        intro s X Y row h hgr hr
        exact h.other (R := fun k => row = some k) (Ch.of_grown hgr (fun k e => e)) (fun k e => by have := (hr k e).1; omega)
      case ownx =>
        intro c s X Y row h hgr hr
        exact h.other (R := fun k => row = some k) (Ch.of_grown hgr (fun k e => e)) (fun k e => by have := (hr k e).1; omega)
      case ia =>
        intro s X Y h hab
        exact h.other hab (fun k e => e.elim)
      case ixa =>
        intro c s X Y h hab
        exact h.other hab (fun k e => e.elim)
      case assign =>
        intro l x W K hK
        gi_wp2
        exact hK
      case body =>
        rintro l pre x W ⟨rest0, hx⟩ HI hlt
        have hl := HL2.out
        obtain ⟨m1, m2, _, m4⟩ := bwL_mem A pre rest0 x hx
        obtain ⟨i, y⟩ := x
        simp only at m1 m2 m4
        have hsame := HI.same
        rw [show A.length - pre.length = i + 1 by omega] at hsame
        have hbw := HI.below
        have hbig := HI.big
        have hbx := HI.box
        have hrx := HI.res
        have cb := hbx.cell
        have cr := hrx.cell
        have fr := hrx.frozen
        obtain ⟨b0, off, hp2, hcell⟩ := hv.at hbw i (by omega)
        obtain ⟨z, hz⟩ : ∃ z, Bw.getD i 0 = z := ⟨_, rfl⟩
        rw [hz] at hcell
        have hiB : (i : Int) < (Bw.length : Int) := by omega
        have hdone : y = z → CmpI w (.slice p2 Bw.length c2) A Bw (pre ++ [(i, y)]) W := fun e =>
          ⟨HI.box, HI.res, HI.below, HI.big, by
            rw [List.length_append, List.length_singleton, show A.length - (pre.length + 1) = i by omega]
            exact drop_more A Bw i hl (by omega) hsame (by rw [← m2, hz, e])⟩
        have hlt2 : y < z → sgnN a b = -1 := fun e => by
          have := cmp_at A Bw hsA i m1 hl hsame (by rw [← m2, hz]; exact e)
          rw [hvA, hvB] at this
          unfold sgnN
          rw [if_pos this]
        have hgt2 : z < y → sgnN a b = 1 := fun e => by
          have := cmp_at Bw A hsB i (by omega) hl.symm hsame.symm (by rw [← m2, hz]; exact e)
          rw [hvA, hvB] at this
          unfold sgnN
          rw [if_neg (by omega), if_pos this]
        have cC := cmpU32_any (y : Int) (z : Int) W
        have hfrom : KeepsFrom W3.heap.size W W ∧ KeptB (w.heap.size + 2) (.slice p1 A.length c1) A W W := ⟨⟨Nat.le_refl _, fun k o _ h _ => h⟩, rfl, fun h => h⟩
        have hkeep : ∀ u : Value, KeepsFrom W3.heap.size W (W.setCell ⟨w.heap.size + 1, 0, none⟩ u) := fun u => ⟨by simp [World.setCell], fun k o hB ho _ => (Below.heap_setCell _ _ _ _ (by simp; omega)).trans ho⟩
        have hbs : ∀ u : Value, Below w.heap.size w (W.setCell ⟨w.heap.size + 1, 0, none⟩ u) := fun u => hbw.setCell (p := ⟨w.heap.size + 1, 0, none⟩) (by simp) u
        have hzs : ∀ u : Value, (W.setCell ⟨w.heap.size + 1, 0, none⟩ u).heap.size = W.heap.size := fun u => by simp [World.setCell]
        have HH := Lib.hid (And.intro hdone (And.intro hlt2 (And.intro hgt2 (And.intro hfrom (And.intro hkeep (And.intro hbs (And.intro hzs hrx)))))))
        clear hseq h0 HI hx hsame m2 m4 hz hu hv hl hdone hlt2 hgt2 hfrom hkeep hbs hzs hbx hrx hvA hvB hsA hsB
        subst hp2
        by_cases hlt1 : y < z
        · rw [show sgI (y : Int) (z : Int) = -1 by unfold sgI; rw [if_pos (by omega)]] at cC
          gi_wp2_with (refine ⟨trivial, ?_⟩; gi_at_call 165; refine (CallsIn.inRound l (callsIn_wide.2 cC)).mono ?_; rintro e W6 ⟨rfl, rfl⟩)
          obtain ⟨_, k2, _, _, k5, k6, k7, k8⟩ := HH.out
          exact ⟨k5 _, rfl, by rw [k2 hlt1]; exact k8.set _, k6 _, by rw [k7]; exact hbig⟩
        · by_cases hgt1 : z < y
          · rw [show sgI (y : Int) (z : Int) = 1 by unfold sgI; rw [if_neg (by omega), if_pos (by omega)]] at cC
            gi_wp2_with (refine ⟨trivial, ?_⟩; gi_at_call 165; refine (CallsIn.inRound l (callsIn_wide.2 cC)).mono ?_; rintro e W6 ⟨rfl, rfl⟩)
            obtain ⟨_, _, k3, _, k5, k6, k7, k8⟩ := HH.out
            exact ⟨k5 _, rfl, by rw [k3 hgt1]; exact k8.set _, k6 _, by rw [k7]; exact hbig⟩
          · rw [show sgI (y : Int) (z : Int) = 0 by unfold sgI; rw [if_neg (by omega), if_neg (by omega)]] at cC
            gi_wp2_with (refine ⟨trivial, ?_⟩; gi_at_call 165; refine (CallsIn.inRound l (callsIn_wide.2 cC)).mono ?_; rintro e W6 ⟨rfl, rfl⟩)
            obtain ⟨k1, _, _, ⟨k4, k4'⟩, _⟩ := HH.out
            exact ⟨k4, k4', k1 (by omega)⟩
      case done =>
        rintro D xs W hD hS HI hdef
        have hl := HL2.out
        have hlen : xs.length = A.length := by rw [hS]; unfold bwL; simp
        have hsame := HI.same
        rw [hlen, Nat.sub_self, List.drop_zero, List.drop_zero] at hsame
        have hs : sgnN a b = 0 := by
          rw [← hvA, ← hvB, hsame]
          unfold sgnN
          rw [if_neg (Nat.lt_irrefl _), if_neg (Nat.lt_irrefl _)]
        have hbw := HI.below
        have hbig := HI.big
        have hrx := HI.res
        have cr := hrx.cell
        have fr := hrx.frozen
        have HS0 := Lib.hid hs
        clear hl hseq h0 HI hS hsame hu hv hs hvA hvB hsA hsB
        have hrs := hrx.set (.int .i64 0)
        have hbs : Below w.heap.size w (W.setCell ⟨w.heap.size + 1, 0, none⟩ (.int .i64 0)) := hbw.setCell (p := ⟨w.heap.size + 1, 0, none⟩) (by simp) _
        have hds : (W.setCell ⟨w.heap.size + 1, 0, none⟩ (.int .i64 0)).heap[D]? = some (.deferred (some [])) := (Below.heap_setCell _ _ _ _ (by simp; omega)).trans hdef
        gi_wp2
        refine ⟨by simp, .inl ⟨_, _, rfl, run_takeDeferred hds, ?_⟩⟩
        refine ⟨_, res_cmp (Boxed.put hrs _ (by omega)) _ rfl, by rw [HS0.out], ?_⟩
        exact hbs.trans (Ch.below (R := fun k => k = D) (Ch.of_grown (grownBy_putObj' _ _ _) (fun k e => (Option.some.inj e).symm)) hbs.size (fun k hk e => by omega))
      case stop =>
        rintro D c pre W hD _ ⟨rfl, h2, h3, h4⟩ hdef
        gi_wp2
        refine ⟨by simp, .inl ⟨_, _, rfl, run_takeDeferred hdef, ?_⟩⟩
        refine ⟨_, res_cmp (Boxed.put h2 _ (by omega)) _ rfl, rfl, ?_⟩
        exact h3.trans (Ch.below (R := fun k => k = D) (Ch.of_grown (grownBy_putObj' _ _ _) (fun k e => (Option.some.inj e).symm)) h3.size (fun k hk e => by omega))
end Go.Proofs.YtgmnjghbafbopaaGreatDoor

/- Natural numbers in memory: slices of words; the contracts of word, isOdd and trimmed. Natural numbers: rows of words that a call makes and stores into; the contracts of add and subtract. Natural numbers: the contract of subtract. Natural numbers: the contract of multiply. Natural numbers: the contract of multiply: its walk. Natural numbers: rows that a call appends to. Natural numbers: the contract of power. -/
import Derived.Test.YtgmnjghbafbopaaGreatDoorMNuA
import Derived.Test.YtgmnjghbafbopaaGreatDoorProg
import Derived.WalkKit
import Derived.Deep.LoopGhost
import Derived.Lib.Hide
import Derived.Laws.MakeOwn
import Derived.Deep.QuietTactic
import Derived.BigQuiet
import Derived.Laws.OwnMore
import Derived.Maps.AppendAt
import Derived.Deep.RegionLaw
import Derived.BigRegion
import Derived.Deep.DeepMust
namespace Go.Proofs.YtgmnjghbafbopaaGreatDoor
open Go.RowKit Go.Lib

/-- A value is a slice whose words are these. -/
def Nats (w : World) (v : Value) (l : List Nat) : Prop :=
  (l = [] ∧ ∃ a cap, v = .slice a 0 cap) ∨ ∃ b off cap, v = .slice (some ⟨b, off, none⟩) l.length cap ∧ l.length ≤ cap ∧ ∀ j, j < l.length → w.cell? ⟨b, off + j, none⟩ = some (.int .u32 ((l.getD j 0 : Nat) : Int))
theorem lt_of_cell {w : World} {b o : Nat} {v : Value} (h : w.cell? ⟨b, o, none⟩ = some v) : b < w.heap.size := by
  rcases Nat.lt_or_ge b w.heap.size with h' | h'
  · exact h'
  · simp [World.cell?, Array.getElem?_eq_none h'] at h
theorem Nats.later {w w' : World} {v : Value} {l : List Nat} (h : Nats w v l) (hb : Below w.heap.size w w') : Nats w' v l := by
  rcases h with h | ⟨b, off, cap, rfl, hc, h⟩
  · exact .inl h
  · exact .inr ⟨b, off, cap, rfl, hc, fun j hj => (hb.cell (p := ⟨b, off + j, none⟩) (lt_of_cell (h j hj))).trans (h j hj)⟩
theorem Nats.nil (w : World) (a : Option Addr) (cap : Nat) : Nats w (.slice a 0 cap) [] := .inl ⟨rfl, a, cap, rfl⟩
/-- A slice's shape. -/
theorem Nats.shape {w : World} {v : Value} {l : List Nat} (h : Nats w v l) : ∃ a cap, v = .slice a l.length cap := by
  rcases h with ⟨rfl, a, cap, rfl⟩ | ⟨b, off, cap, rfl, _, _⟩
  · exact ⟨a, cap, rfl⟩
  · exact ⟨_, cap, rfl⟩
def trimW (l : List Nat) : List Nat := (l.reverse.dropWhile fun w => w == 0).reverse
theorem trimW_snoc (l : List Nat) (x : Nat) : trimW (l ++ [x]) = if x = 0 then trimW l else l ++ [x] := by
  unfold trimW
  rw [List.reverse_append, List.reverse_singleton, List.singleton_append, List.dropWhile_cons]
  by_cases h : x = 0
  · subst h; rfl
  · rw [if_neg (by simpa using h), if_neg h, List.reverse_cons, List.reverse_reverse]
/-- What trimmed leaves: the words of the value. -/
theorem trimW_words (l : List Nat) (h : Small l) : trimW l = wordsOf (val l) := by
  generalize hn : l.length = n
  induction n generalizing l with
  | zero => rw [List.eq_nil_of_length_eq_zero hn]; rfl
  | succ n ih =>
    have hne : l ≠ [] := by intro e; rw [e] at hn; simp at hn
    obtain ⟨t, x, rfl⟩ : ∃ t x, l = t ++ [x] := ⟨l.dropLast, l.getLast hne, (List.dropLast_concat_getLast hne).symm⟩
    rw [trimW_snoc]
    by_cases hx : x = 0
    · subst hx
      rw [if_pos rfl, wordsOf_snoc]
      exact ih t h.left (by simpa using hn)
    · rw [if_neg hx, wordsOf_val _ h (fun w hw => by simp at hw; omega)]
set_option maxHeartbeats 1000000 in
theorem word_neg (v : Value) (l : List Nat) (p : Int) (hp : p < 0) (w : World) (h : Nats w v l) :
    Calls Tryz.prog 183 #[v, .int .i64 p] w fun e w' => e = .returned (.int .u32 0) ∧ w = w' := by
  obtain ⟨a, cap, rfl⟩ := h.shape
  go_enter Tryz.func183, Tryz.ntmps183
  go_wp2_with fail
  go_ret
  exact ⟨rfl, rfl⟩
set_option maxHeartbeats 1000000 in
theorem word_any (v : Value) (l : List Nat) (p : Nat) (hp9 : p < 1000000000) (hl9 : l.length < 1000000000) (w : World) (h : Nats w v l) :
    Calls Tryz.prog 183 #[v, .int .i64 (p : Int)] w fun e w' => e = .returned (.int .u32 ((l.getD p 0 : Nat) : Int)) ∧ w = w' := by
  by_cases hp : p < l.length
  · have hpi : (p : Int) < (l.length : Int) := by omega
    have hp0 : ¬ (p : Int) < 0 := by omega
    rcases h with ⟨rfl, _⟩ | ⟨b, off, cap, rfl, hc, h⟩
    · simp at hp
    · have c0 := h p hp
      clear h
      generalize l.getD p 0 = x at *
      go_enter Tryz.func183, Tryz.ntmps183
      go_wp2_with fail
      go_ret
      exact ⟨rfl, rfl⟩
  · have hpi : ¬ (p : Int) < (l.length : Int) := by omega
    have hp0 : ¬ (p : Int) < 0 := by omega
    have hx : l.getD p 0 = 0 := by rw [List.getD_eq_getElem?_getD, List.getElem?_eq_none (by omega)]; rfl
    rw [hx]
    obtain ⟨a, cap, rfl⟩ := h.shape
    go_enter Tryz.func183, Tryz.ntmps183
    go_wp2_with fail
    go_ret
    exact ⟨rfl, rfl⟩
set_option maxHeartbeats 1000000 in
theorem isOdd_any (v : Value) (l : List Nat) (hs : Small l) (hl9 : l.length < 1000000000) (w : World) (h : Nats w v l) :
    Calls Tryz.prog 138 #[v] w fun e w' => e = .returned (.bool (decide (val l % 2 = 1))) ∧ w = w' := by
  have c := word_any v l 0 (by omega) hl9 w h
  have hx := hs.getD 0
  have hv : val l % 2 = l.getD 0 0 % 2 := by
    rw [val_ht]
    have : l.headD 0 = l.getD 0 0 := by cases l <;> rfl
    omega
  rw [hv]
  clear hv hs
  generalize l.getD 0 0 = x at *
  go_enter Tryz.func138, Tryz.ntmps138
  go_wp2_with fail
  refine c.mono ?_
  rintro e w1 ⟨rfl, rfl⟩
  go_wp2_with fail
  go_ret
  refine ⟨?_, rfl⟩
  show Ending.returned (.bool ((x : Int) % 2 == 1)) = _
  congr 2
  rw [Bool.eq_iff_iff, beq_iff_eq, decide_eq_true_iff]
  omega
/-- The words of a list without those 0 at its end. -/
theorem trimW_le (l : List Nat) : (trimW l).length ≤ l.length := by
  unfold trimW
  rw [List.length_reverse]
  have := (List.dropWhile_sublist (fun w : Nat => w == 0) (l := l.reverse)).length_le
  rwa [List.length_reverse] at this
theorem take_snoc' (l : List Nat) (k : Nat) (hk : k < l.length) : l.take (k + 1) = l.take k ++ [l.getD k 0] := by
  rw [List.take_add_one, List.getD_eq_getElem?_getD, List.getElem?_eq_getElem hk]; rfl
set_option maxHeartbeats 2000000 in
set_option maxRecDepth 100000 in
theorem trimmed_at (a : Option Addr) (cap : Nat) (l : List Nat) (hl9 : l.length < 1000000000) (w : World) (h : Nats w (.slice a l.length cap) l) :
    Calls Tryz.prog 136 #[.slice a l.length cap] w fun e w' => e = .returned (.slice a (trimW l).length cap) ∧ Nats w (.slice a (trimW l).length cap) (trimW l) ∧ w = w' := by
  rcases h with ⟨rfl, _⟩ | ⟨b, off, cap', heq, hc, h⟩
  · go_enter Tryz.func136, Tryz.ntmps136
    go_wp2_with fail
    refine wp_loop_rounds 1 ?_
    rw [rounds_succ]
    go_wp2_with fail
    go_ret
    exact ⟨rfl, Nats.nil w a cap, rfl⟩
  · injection heq with h1 _ h3
    subst h1
    subst h3
    obtain ⟨R, hR⟩ : ∃ R, trimW l = R := ⟨_, rfl⟩
    rw [hR]
    have HR := Lib.hid (show trimW (l.take l.length) = R by rw [List.take_length]; exact hR)
    clear hR
    go_enter Tryz.func136, Tryz.ntmps136
    go_wp2_with fail
    go_loopg [0] l.length (fun g s0 wx => ∃ k : Nat, s0 = .slice (some ⟨b, off, none⟩) k cap ∧ k = g ∧ k ≤ l.length ∧ wx = w ∧ Hid (trimW (l.take k) = R))
    case atStart => exact ⟨l.length, rfl, rfl, Nat.le_refl _, rfl, HR⟩
    case round =>
      clear HR
      obtain ⟨k, rfl, rfl, hk, rfl, HK⟩ := hrel
      by_cases h0 : k = 0
      · subst h0
        have hr : R = [] := HK.out.symm
        subst hr
        go_wp2_with fail
        go_ret
        exact ⟨rfl, Nats.nil wr _ cap, rfl⟩
      · obtain ⟨j, rfl⟩ : ∃ j, k = j + 1 := ⟨k - 1, by omega⟩
        have hjk : (0 : Int) < ((j + 1 : Nat) : Int) := by omega
        have c0 := h j (by omega)
        have hK := HK.out
        rw [take_snoc' l j (by omega), trimW_snoc] at hK
        have hsub : ((j + 1 : Nat) : Int) - 1 = (j : Int) := by omega
        have hjc : j < cap := by omega
        by_cases hx : l.getD j 0 = 0
        · rw [if_pos hx] at hK
          rw [hx] at c0
          have HK2 := Lib.hid hK
          clear HK hK hx h
          go_wp2_with fail
          go_roundg j
          case rel => exact ⟨j, by simp, rfl, by omega, rfl, HK2⟩
          all_goals omega
        · rw [if_neg hx] at hK
          have hxi : ¬ ((l.getD j 0 : Nat) : Int) = 0 := by omega
          have hxb : (((l.getD j 0 : Nat) : Int) == 0) = false := by rw [beq_eq_false_iff_ne]; exact hxi
          have hRl : R.length = j + 1 := by rw [← hK, List.length_append, List.length_take]; simp; omega
          have hN : Nats wr (.slice (some ⟨b, off, none⟩) (j + 1) cap) R := by
            refine .inr ⟨b, off, cap, by rw [hRl], by rw [hRl]; omega, fun i hi => ?_⟩
            have hil : i < j + 1 := by rw [hRl] at hi; omega
            rw [h i (by omega)]
            congr 2
            rw [← hK, ← take_snoc' l j (by omega), List.getD_eq_getElem?_getD, List.getD_eq_getElem?_getD, List.getElem?_take_of_lt hil]
          have HRL := Lib.hid hRl
          clear HK hK h hRl
          generalize l.getD j 0 = x at *
          go_wp2_with fail
          go_ret
          exact ⟨by rw [HRL.out]; rfl, by rw [HRL.out]; exact hN, rfl⟩
theorem trimmed_any (v : Value) (l : List Nat) (hl9 : l.length < 1000000000) (w : World) (h : Nats w v l) :
    Calls Tryz.prog 136 #[v] w fun e w' => ∃ u, e = .returned u ∧ Nats w' u (trimW l) ∧ w = w' := by
  obtain ⟨a, cap, rfl⟩ := h.shape
  refine (trimmed_at a cap l hl9 w h).mono ?_
  rintro e w' ⟨rfl, h1, rfl⟩
  exact ⟨_, rfl, h1, rfl⟩
end Go.Proofs.YtgmnjghbafbopaaGreatDoor
namespace Go.Proofs.YtgmnjghbafbopaaGreatDoor
open Go.RowKit Go.Lib

def u32Cells (l : List Nat) : Array Value := (l.map fun (n : Nat) => Value.int .u32 (n : Int)).toArray
/-- Block B is a row of these words. -/
def RowIs (w : World) (B : Nat) (l : List Nat) : Prop := w.heap[B]? = some (.cells (u32Cells l) 156 (0, 0))
theorem RowIs.lt {w : World} {B : Nat} {l : List Nat} (h : RowIs w B l) : B < w.heap.size := (Array.getElem?_eq_some_iff.1 h).1
theorem RowIs.cell {w : World} {B : Nat} {l : List Nat} (h : RowIs w B l) (i : Nat) (hi : i < l.length) : w.cell? ⟨B, i, none⟩ = some (.int .u32 ((l.getD i 0 : Nat) : Int)) := by
  unfold RowIs at h
  have : w.cell? ⟨B, i, none⟩ = (u32Cells l)[i]? := by simp [World.cell?, h]
  rw [this]
  unfold u32Cells
  rw [List.getElem?_toArray, List.getElem?_map, List.getD_eq_getElem?_getD, List.getElem?_eq_getElem hi]
  rfl
theorem RowIs.frozen {w : World} {B : Nat} {l : List Nat} (h : RowIs w B l) (i : Nat) : w.frozen? ⟨B, i, none⟩ = false := by
  unfold RowIs at h
  simp [World.frozen?, h]
theorem RowIs.set {w : World} {B : Nat} {l : List Nat} (h : RowIs w B l) (i x : Nat) : RowIs (w.setCell ⟨B, i, none⟩ (.int .u32 (x : Int))) B (l.set i x) := by
  unfold RowIs at h ⊢
  unfold World.setCell
  have e : u32Cells (l.set i x) = (u32Cells l).setIfInBounds i (.int .u32 (x : Int)) := by
    unfold u32Cells
    rw [List.map_set, List.setIfInBounds_toArray]
  simp [Array.getElem?_modify, h, e]
theorem RowIs.other {w w' : World} {B : Nat} {l : List Nat} (h : RowIs w B l) (hb : w'.heap[B]? = w.heap[B]?) : RowIs w' B l := hb.trans h
theorem RowIs.nats {w : World} {B : Nat} {l : List Nat} (h : RowIs w B l) (cap : Nat) (hc : l.length ≤ cap) : Nats w (.slice (some ⟨B, 0, none⟩) l.length cap) l :=
  .inr ⟨B, 0, cap, rfl, hc, fun j hj => by rw [Nat.zero_add]; exact h.cell j hj⟩
theorem below_drewN {B : Nat} {a w : World} (h : Below B a w) : ∀ q, Below B a (w.drewN q)
  | 0 => h
  | q + 1 => (below_drewN h q).drew
theorem heap_drewN (w : World) : ∀ q, (w.drewN q).heap = w.heap
  | 0 => rfl
  | q + 1 => heap_drewN w q
theorem RowIs.drewN {w : World} {B : Nat} {l : List Nat} (h : RowIs w B l) (q : Nat) : RowIs (w.drewN q) B l := by unfold RowIs at h ⊢; rw [heap_drewN]; exact h
theorem infoU32 : (Tryz.prog.info? 156).map (fun i => (i.zero, i.size, i.bytes)) = some (some (.int .u32 0), 1, 4) := by kernel_rfl
theorem made_zeros (n : Nat) : madeCells #[.int .u32 0] n = u32Cells (List.replicate n 0) := by
  apply Array.toList_inj.1
  unfold madeCells u32Cells
  rw [Array.toList_map, Array.toList_range, List.map_replicate]
  apply List.ext_getElem
  · simp
  · intro i h1 h2
    simp [Nat.mod_one]
/-- make([]uint32, n). -/
theorem make_nats (n : Nat) (hn : n ≤ 1000000000) (t : TypeId) (ht : Tryz.prog.underlying t = some (.slice 156)) (w : World) :
    (Instr.makeSlice t (.int .i64 (n : Int)) (.int .i64 (n : Int))).run Tryz.prog w = .ok (.slice (some ⟨w.heap.size, 0, none⟩) n n) (w.alloc (.cells (u32Cells (List.replicate n 0)) 156)) := by
  obtain ⟨i, hi, hh⟩ := Option.map_eq_some_iff.1 infoU32
  simp only [Prod.mk.injEq] at hh
  have hmk := run_make (P := Tryz.prog) w t 156 i (.int .u32 0) ht hi hh.1 .i64 .i64 (n : Int) (n : Int) (by omega) (by omega) (by rw [hh.2.2]; omega) (by omega)
  rw [Int.toNat_natCast, hh.2.1, Nat.mul_one, show (Value.int IntKind.u32 0).cells = #[Value.int IntKind.u32 0] from rfl, made_zeros] at hmk
  exact hmk
theorem made_row (w : World) (n : Nat) : RowIs (w.alloc (.cells (u32Cells (List.replicate n 0)) 156)) w.heap.size (List.replicate n 0) := heap_alloc_new _ _
/-- A row that is written from the front. -/
theorem set_front (done : List Nat) (k x : Nat) : (done ++ List.replicate (k + 1) 0).set done.length x = (done ++ [x]) ++ List.replicate k 0 := by
  rw [List.set_append_right _ _ (Nat.le_refl _), Nat.sub_self, List.replicate_succ, List.set_cons_zero, List.append_assoc]
  rfl
theorem getD_drop0 (l : List Nat) (i : Nat) : l.getD i 0 = (l.drop i).headD 0 := by
  rw [List.getD_eq_getElem?_getD, List.headD_eq_head?_getD, List.head?_drop]
theorem tail_drop (l : List Nat) (i : Nat) : (l.drop i).tail = l.drop (i + 1) := by rw [List.tail_drop]
set_option maxHeartbeats 4000000 in
set_option maxRecDepth 100000 in
theorem add_lt (u v : Value) (a b : List Nat) (ha : Small a) (hb : Small b) (ha9 : a.length < 100000000) (hb9 : b.length < 100000000) (hab : a.length < b.length) (w : World) (hu : Nats w u a) (hv : Nats w v b) :
    Calls Tryz.prog 139 #[u, v] w fun e w' => ∃ x, e = .returned x ∧ Nats w' x (wordsOf (val a + val b)) ∧ Below w.heap.size w w' := by
  obtain ⟨p1, c1, rfl⟩ := hu.shape
  obtain ⟨p2, c2, rfl⟩ := hv.shape
  obtain ⟨n, hn⟩ : ∃ n, b.length + 1 = n := ⟨_, rfl⟩
  have hmax : max a.length b.length + 1 = n := by omega
  have hn9 : n ≤ 100000000 := by omega
  have hmk := make_nats n (by omega) 86 Tryz.underlying86 w
  rw [show (n : Int) = (b.length : Int) + 1 by omega] at hmk
  obtain ⟨W1, hW1⟩ : ∃ W1, w.alloc (.cells (u32Cells (List.replicate n 0)) 156) = W1 := ⟨_, rfl⟩
  have hR1 : RowIs W1 w.heap.size (List.replicate n 0) := by rw [← hW1]; exact made_row w n
  have hb1 : Below w.heap.size w W1 := by rw [← hW1]; exact (Below.refl _ _).alloc (Nat.le_refl _) _
  rw [hW1] at hmk
  have hsum := addW_sum a b ha hb
  have hsm := addW_small n a b 0
  have htr := trimW_words _ hsm
  rw [hmax] at hsum
  rw [hsum] at htr
  obtain ⟨TOT, hTOT⟩ : ∃ T, addW n a b 0 = T := ⟨_, rfl⟩
  have htl : TOT.length = n := by rw [← hTOT]; exact addW_len n a b 0
  rw [hTOT] at htr
  have HT := Lib.hid (show [] ++ addW (n - 0) (a.drop 0) (b.drop 0) 0 = TOT from hTOT)
  clear hW1 hsum hsm hTOT hmax
  have cA := fun (i : Nat) (hi : i < 1000000000) W (hW : Below w.heap.size w W) => word_any _ a i hi (by omega) W (hu.later hW)
  have cB := fun (i : Nat) (hi : i < 1000000000) W (hW : Below w.heap.size w W) => word_any _ b i hi (by omega) W (hv.later hW)
  have hRT := fun W (hW : RowIs W w.heap.size TOT) => trimmed_any _ TOT (by omega) W (hW.nats n (by omega))
  rw [htl] at hRT
  clear hu hv
  go_enter Tryz.func139, Tryz.ntmps139
  go_wp2_with fail
  go_loopg [6, 18] n (fun g s6 s18 wx => ∃ (i c : Nat) (done : List Nat), s18 = .int .i64 i ∧ i + g = n ∧ s6 = .int .u32 c ∧ c ≤ 1 ∧ done.length = i ∧ RowIs wx w.heap.size (done ++ List.replicate g 0) ∧ Below w.heap.size w wx ∧ Hid (done ++ addW (n - i) (a.drop i) (b.drop i) c = TOT))
  case atStart => exact ⟨0, 0, [], rfl, by omega, rfl, by omega, rfl, hR1, hb1, HT⟩
  case round =>
    clear hR1 hb1 HT
    obtain ⟨i, c, done, rfl, hig, rfl, hc1, hdl, hR, hbx, HK⟩ := hrel
    by_cases hlt : i < n
    · obtain ⟨g, rfl⟩ : ∃ g, gk = g + 1 := ⟨gk - 1, by omega⟩
      have hil : (i : Int) < (n : Int) := by omega
      have hk := HK.out
      rw [show n - i = (n - (i + 1)) + 1 by omega, addW, tail_drop, tail_drop, ← getD_drop0, ← getD_drop0] at hk
      have xs := ha.getD i
      have ys := hb.getD i
      have kA := cA i (by omega) wr hbx
      have kB := cB i (by omega) wr hbx
      generalize a.getD i 0 = x at *
      generalize b.getD i 0 = y at *
      have hcell : wr.cell? ⟨w.heap.size, i, none⟩ = some (.int .u32 0) := by
        have := hR.cell i (by rw [List.length_append, List.length_replicate]; omega)
        rw [this]
        congr 2
        rw [List.getD_eq_getElem?_getD, List.getElem?_append_right (by omega), hdl, Nat.sub_self, List.replicate_succ]
        rfl
      have hfr := hR.frozen i
      have hcast : (((x + y + c) % 1000000000 : Nat) : Int) = ((x : Int) + (y : Int) + (c : Int)) % 1000000000 := by omega
      have hcast2 : (((x + y + c) / 1000000000 : Nat) : Int) = ((x : Int) + (y : Int) + (c : Int)) / 1000000000 := by omega
      obtain ⟨W2, hW2⟩ : ∃ W2, wr.setCell ⟨w.heap.size, i, none⟩ (.int .u32 (((x : Int) + (y : Int) + (c : Int)) % 1000000000)) = W2 := ⟨_, rfl⟩
      have hR2 : RowIs W2 w.heap.size ((done ++ [(x + y + c) % 1000000000]) ++ List.replicate g 0) := by
        rw [← hW2, ← set_front, hdl, ← hcast]
        exact hR.set i _
      have hb2 : Below w.heap.size w W2 := by rw [← hW2]; exact hbx.setCell (p := ⟨w.heap.size, i, none⟩) (Nat.le_refl _) _
      have HK2 := Lib.hid (show (done ++ [(x + y + c) % 1000000000]) ++ addW (n - (i + 1)) (a.drop (i + 1)) (b.drop (i + 1)) ((x + y + c) / 1000000000) = TOT by rw [List.append_assoc]; exact hk)
      clear hk HK cA cB hRT
      go_wp2_with fail
      refine kA.mono ?_
      rintro e w3 ⟨rfl, rfl⟩
      go_wp2_with fail
      refine kB.mono ?_
      rintro e w3 ⟨rfl, rfl⟩
      have hc2 : (x + y + c) / 1000000000 ≤ 1 := by omega
      go_wp2_with fail
      go_roundg g
      case rel => exact ⟨i + 1, (x + y + c) / 1000000000, done ++ [(x + y + c) % 1000000000], by congr 1, by omega, by rw [hcast2], hc2, by rw [List.length_append, hdl]; rfl, hR2, hb2, HK2⟩
      all_goals omega
    · have hil : ¬ (i : Int) < (n : Int) := by omega
      obtain rfl : i = n := by omega
      obtain rfl : gk = 0 := by omega
      have hk := HK.out
      rw [Nat.sub_self] at hk
      have e : done = TOT := by rw [← hk]; simp [addW]
      rw [e] at hR
      have k := hRT wr (by simpa using hR)
      rw [htr] at k
      clear cA cB hRT HK hk e hR
      go_wp2_with fail
      refine k.mono ?_
      rintro e w3 ⟨x, rfl, hx, rfl⟩
      go_wp2_with fail
      go_ret
      exact ⟨x, rfl, hx, hbx⟩
set_option maxHeartbeats 4000000 in
set_option maxRecDepth 100000 in
theorem add_ge (u v : Value) (a b : List Nat) (ha : Small a) (hb : Small b) (ha9 : a.length < 100000000) (hb9 : b.length < 100000000) (hab : ¬ a.length < b.length) (w : World) (hu : Nats w u a) (hv : Nats w v b) :
    Calls Tryz.prog 139 #[u, v] w fun e w' => ∃ x, e = .returned x ∧ Nats w' x (wordsOf (val a + val b)) ∧ Below w.heap.size w w' := by
  obtain ⟨p1, c1, rfl⟩ := hu.shape
  obtain ⟨p2, c2, rfl⟩ := hv.shape
  obtain ⟨n, hn⟩ : ∃ n, a.length + 1 = n := ⟨_, rfl⟩
  have hmax : max a.length b.length + 1 = n := by omega
  have hn9 : n ≤ 100000000 := by omega
  have hmk := make_nats n (by omega) 86 Tryz.underlying86 w
  rw [show (n : Int) = (a.length : Int) + 1 by omega] at hmk
  obtain ⟨W1, hW1⟩ : ∃ W1, w.alloc (.cells (u32Cells (List.replicate n 0)) 156) = W1 := ⟨_, rfl⟩
  have hR1 : RowIs W1 w.heap.size (List.replicate n 0) := by rw [← hW1]; exact made_row w n
  have hb1 : Below w.heap.size w W1 := by rw [← hW1]; exact (Below.refl _ _).alloc (Nat.le_refl _) _
  rw [hW1] at hmk
  have hsum := addW_sum a b ha hb
  have hsm := addW_small n a b 0
  have htr := trimW_words _ hsm
  rw [hmax] at hsum
  rw [hsum] at htr
  obtain ⟨TOT, hTOT⟩ : ∃ T, addW n a b 0 = T := ⟨_, rfl⟩
  have htl : TOT.length = n := by rw [← hTOT]; exact addW_len n a b 0
  rw [hTOT] at htr
  have HT := Lib.hid (show [] ++ addW (n - 0) (a.drop 0) (b.drop 0) 0 = TOT from hTOT)
  clear hW1 hsum hsm hTOT hmax
  have cA := fun (i : Nat) (hi : i < 1000000000) W (hW : Below w.heap.size w W) => word_any _ a i hi (by omega) W (hu.later hW)
  have cB := fun (i : Nat) (hi : i < 1000000000) W (hW : Below w.heap.size w W) => word_any _ b i hi (by omega) W (hv.later hW)
  have hRT := fun W (hW : RowIs W w.heap.size TOT) => trimmed_any _ TOT (by omega) W (hW.nats n (by omega))
  rw [htl] at hRT
  clear hu hv
  go_enter Tryz.func139, Tryz.ntmps139
  go_wp2_with fail
  go_loopg [6, 18] n (fun g s6 s18 wx => ∃ (i c : Nat) (done : List Nat), s18 = .int .i64 i ∧ i + g = n ∧ s6 = .int .u32 c ∧ c ≤ 1 ∧ done.length = i ∧ RowIs wx w.heap.size (done ++ List.replicate g 0) ∧ Below w.heap.size w wx ∧ Hid (done ++ addW (n - i) (a.drop i) (b.drop i) c = TOT))
  case atStart => exact ⟨0, 0, [], rfl, by omega, rfl, by omega, rfl, hR1, hb1, HT⟩
  case round =>
    clear hR1 hb1 HT
    obtain ⟨i, c, done, rfl, hig, rfl, hc1, hdl, hR, hbx, HK⟩ := hrel
    by_cases hlt : i < n
    · obtain ⟨g, rfl⟩ : ∃ g, gk = g + 1 := ⟨gk - 1, by omega⟩
      have hil : (i : Int) < (n : Int) := by omega
      have hk := HK.out
      rw [show n - i = (n - (i + 1)) + 1 by omega, addW, tail_drop, tail_drop, ← getD_drop0, ← getD_drop0] at hk
      have xs := ha.getD i
      have ys := hb.getD i
      have kA := cA i (by omega) wr hbx
      have kB := cB i (by omega) wr hbx
      generalize a.getD i 0 = x at *
      generalize b.getD i 0 = y at *
      have hcell : wr.cell? ⟨w.heap.size, i, none⟩ = some (.int .u32 0) := by
        have := hR.cell i (by rw [List.length_append, List.length_replicate]; omega)
        rw [this]
        congr 2
        rw [List.getD_eq_getElem?_getD, List.getElem?_append_right (by omega), hdl, Nat.sub_self, List.replicate_succ]
        rfl
      have hfr := hR.frozen i
      have hcast : (((x + y + c) % 1000000000 : Nat) : Int) = ((x : Int) + (y : Int) + (c : Int)) % 1000000000 := by omega
      have hcast2 : (((x + y + c) / 1000000000 : Nat) : Int) = ((x : Int) + (y : Int) + (c : Int)) / 1000000000 := by omega
      obtain ⟨W2, hW2⟩ : ∃ W2, wr.setCell ⟨w.heap.size, i, none⟩ (.int .u32 (((x : Int) + (y : Int) + (c : Int)) % 1000000000)) = W2 := ⟨_, rfl⟩
      have hR2 : RowIs W2 w.heap.size ((done ++ [(x + y + c) % 1000000000]) ++ List.replicate g 0) := by
        rw [← hW2, ← set_front, hdl, ← hcast]
        exact hR.set i _
      have hb2 : Below w.heap.size w W2 := by rw [← hW2]; exact hbx.setCell (p := ⟨w.heap.size, i, none⟩) (Nat.le_refl _) _
      have HK2 := Lib.hid (show (done ++ [(x + y + c) % 1000000000]) ++ addW (n - (i + 1)) (a.drop (i + 1)) (b.drop (i + 1)) ((x + y + c) / 1000000000) = TOT by rw [List.append_assoc]; exact hk)
      clear hk HK cA cB hRT
      go_wp2_with fail
      refine kA.mono ?_
      rintro e w3 ⟨rfl, rfl⟩
      go_wp2_with fail
      refine kB.mono ?_
      rintro e w3 ⟨rfl, rfl⟩
      have hc2 : (x + y + c) / 1000000000 ≤ 1 := by omega
      go_wp2_with fail
      go_roundg g
      case rel => exact ⟨i + 1, (x + y + c) / 1000000000, done ++ [(x + y + c) % 1000000000], by congr 1, by omega, by rw [hcast2], hc2, by rw [List.length_append, hdl]; rfl, hR2, hb2, HK2⟩
      all_goals omega
    · have hil : ¬ (i : Int) < (n : Int) := by omega
      obtain rfl : i = n := by omega
      obtain rfl : gk = 0 := by omega
      have hk := HK.out
      rw [Nat.sub_self] at hk
      have e : done = TOT := by rw [← hk]; simp [addW]
      rw [e] at hR
      have k := hRT wr (by simpa using hR)
      rw [htr] at k
      clear cA cB hRT HK hk e hR
      go_wp2_with fail
      refine k.mono ?_
      rintro e w3 ⟨x, rfl, hx, rfl⟩
      go_wp2_with fail
      go_ret
      exact ⟨x, rfl, hx, hbx⟩
theorem add_any (u v : Value) (a b : List Nat) (ha : Small a) (hb : Small b) (ha9 : a.length < 100000000) (hb9 : b.length < 100000000) (w : World) (hu : Nats w u a) (hv : Nats w v b) :
    Calls Tryz.prog 139 #[u, v] w fun e w' => ∃ x, e = .returned x ∧ Nats w' x (wordsOf (val a + val b)) ∧ Below w.heap.size w w' := by
  by_cases hab : a.length < b.length
  · exact add_lt u v a b ha hb ha9 hb9 hab w hu hv
  · exact add_ge u v a b ha hb ha9 hb9 hab w hu hv
end Go.Proofs.YtgmnjghbafbopaaGreatDoor
namespace Go.Proofs.YtgmnjghbafbopaaGreatDoor
open Go.RowKit Go.Lib

set_option maxHeartbeats 4000000 in
set_option maxRecDepth 100000 in
theorem subtract_at (u v : Value) (a b : List Nat) (ha : Small a) (hb : Small b) (ha9 : a.length < 100000000) (hb9 : b.length < 100000000) (hab : val b ≤ val a) (w : World) (hu : Nats w u a) (hv : Nats w v b) :
    Calls Tryz.prog 140 #[u, v] w fun e w' => e = .returned (.slice (some ⟨w.heap.size, 0, none⟩) (wordsOf (val a - val b)).length a.length) ∧ Nats w' (.slice (some ⟨w.heap.size, 0, none⟩) (wordsOf (val a - val b)).length a.length) (wordsOf (val a - val b)) ∧ Below w.heap.size w w' := by
  obtain ⟨p1, c1, rfl⟩ := hu.shape
  obtain ⟨p2, c2, rfl⟩ := hv.shape
  obtain ⟨n, hn⟩ : ∃ n, a.length = n := ⟨_, rfl⟩
  rw [hn]
  have hn9 : n ≤ 100000000 := by omega
  have hmk := make_nats n (by omega) 86 Tryz.underlying86 w
  obtain ⟨W1, hW1⟩ : ∃ W1, w.alloc (.cells (u32Cells (List.replicate n 0)) 156) = W1 := ⟨_, rfl⟩
  have hR1 : RowIs W1 w.heap.size (List.replicate n 0) := by rw [← hW1]; exact made_row w n
  have hb1 : Below w.heap.size w W1 := by rw [← hW1]; exact (Below.refl _ _).alloc (Nat.le_refl _) _
  rw [hW1] at hmk
  have hsum := subW_val n a b 0 ha hb (by omega) (by omega) (by rw [← hn]; exact val_lt a ha)
  have hsm := subW_small n a b 0
  have htr := trimW_words _ hsm
  rw [show val (subW n a b 0) = val a - val b by omega] at htr
  obtain ⟨TOT, hTOT⟩ : ∃ T, subW n a b 0 = T := ⟨_, rfl⟩
  have htl : TOT.length = n := by rw [← hTOT]; exact subW_len n a b 0
  rw [hTOT] at htr
  have HT := Lib.hid (show [] ++ subW (n - 0) (a.drop 0) (b.drop 0) 0 = TOT from hTOT)
  clear hW1 hsum hsm hTOT
  have cB := fun (i : Nat) (hi : i < 1000000000) W (hW : Below w.heap.size w W) => word_any _ b i hi (by omega) W (hv.later hW)
  have hRT := fun W (hW : RowIs W w.heap.size TOT) => trimmed_at _ n TOT (by omega) W (hW.nats n (by omega))
  rw [htl] at hRT
  clear hv
  go_enter Tryz.func140, Tryz.ntmps140
  go_wp2_with fail
  have HU := Lib.hid hu
  clear hu
  go_loopg [6, 14] n (fun g s6 s14 wx => ∃ (i c : Nat) (done : List Nat), s14 = .int .i64 i ∧ i + g = n ∧ s6 = .int .u32 c ∧ c ≤ 1 ∧ done.length = i ∧ RowIs wx w.heap.size (done ++ List.replicate g 0) ∧ Below w.heap.size w wx ∧ Hid (done ++ subW (n - i) (a.drop i) (b.drop i) c = TOT))
  case atStart => exact ⟨0, 0, [], rfl, by omega, rfl, by omega, rfl, hR1, hb1, HT⟩
  case round =>
    clear hR1 hb1 HT
    obtain ⟨i, c, done, rfl, hig, rfl, hc1, hdl, hR, hbx, HK⟩ := hrel
    by_cases hlt : i < n
    · obtain ⟨g, rfl⟩ : ∃ g, gk = g + 1 := ⟨gk - 1, by omega⟩
      have hil : (i : Int) < (n : Int) := by omega
      have hk := HK.out
      rw [show n - i = (n - (i + 1)) + 1 by omega, subW, tail_drop, tail_drop, ← getD_drop0, ← getD_drop0] at hk
      have xs := ha.getD i
      have ys := hb.getD i
      have hca : ∃ b0 off cap0, p1 = some ⟨b0, off, none⟩ ∧ wr.cell? ⟨b0, off + i, none⟩ = some (.int .u32 ((a.getD i 0 : Nat) : Int)) ∧ cap0 = c1 := by
        rcases HU.out with ⟨h0, _⟩ | ⟨b0, off, cap0, heq, hc0, hcells⟩
        · rw [h0] at hn; simp at hn; omega
        · injection heq with h1 _ h3
          have hci := hcells i (by omega)
          exact ⟨b0, off, cap0, h1, (hbx.cell (p := ⟨b0, off + i, none⟩) (lt_of_cell hci)).trans hci, h3.symm⟩
      obtain ⟨b0, off, cap0, rfl, hca, rfl⟩ := hca
      have kB := fun W hW => (cB i (by omega) W hW).mono fun e w' ⟨h1, h2⟩ => And.intro h1 h2.symm
      generalize a.getD i 0 = x at *
      generalize b.getD i 0 = y at *
      have hcast : (((1000000000 + x - y - c) % 1000000000 : Nat) : Int) = (1000000000 + (x : Int) - (y : Int) - (c : Int)) % 1000000000 := by omega
      have hcast2 : ((1 - (1000000000 + x - y - c) / 1000000000 : Nat) : Int) = 1 - (1000000000 + (x : Int) - (y : Int) - (c : Int)) / 1000000000 := by omega
      have hc2 : 1 - (1000000000 + x - y - c) / 1000000000 ≤ 1 := by omega
      have HK2 := Lib.hid (show (done ++ [(1000000000 + x - y - c) % 1000000000]) ++ subW (n - (i + 1)) (a.drop (i + 1)) (b.drop (i + 1)) (1 - (1000000000 + x - y - c) / 1000000000) = TOT by rw [List.append_assoc]; exact hk)
      have HR2 := Lib.hid hR
      clear hk HK cB hRT HU hR
      go_wp2_with fail
      go_quiet ((go_at_call 183; exact Calls.quiet_of_same (kB _ (below_drewN hbx _))))
      have hbq := below_drewN hbx nq
      have hRq := HR2.out.drewN nq
      generalize wr.drewN nq = W1 at hbq hRq ⊢
      have hcell : W1.cell? ⟨w.heap.size, i, none⟩ = some (.int .u32 0) := by
        have := hRq.cell i (by rw [List.length_append, List.length_replicate]; omega)
        rw [this]
        congr 2
        rw [List.getD_eq_getElem?_getD, List.getElem?_append_right (by omega), hdl, Nat.sub_self, List.replicate_succ]
        rfl
      have hfr := hRq.frozen i
      obtain ⟨W2, hW2⟩ : ∃ W2, W1.setCell ⟨w.heap.size, i, none⟩ (.int .u32 ((1000000000 + (x : Int) - (y : Int) - (c : Int)) % 1000000000)) = W2 := ⟨_, rfl⟩
      have hR2 : RowIs W2 w.heap.size ((done ++ [(1000000000 + x - y - c) % 1000000000]) ++ List.replicate g 0) := by
        rw [← hW2, ← set_front, hdl, ← hcast]
        exact hRq.set i _
      have hb2 : Below w.heap.size w W2 := by rw [← hW2]; exact hbq.setCell (p := ⟨w.heap.size, i, none⟩) (Nat.le_refl _) _
      clear hRq hbq kB
      go_wp2_with fail
      go_roundg g
      case rel => exact ⟨i + 1, 1 - (1000000000 + x - y - c) / 1000000000, done ++ [(1000000000 + x - y - c) % 1000000000], by congr 1, by omega, by rw [hcast2], hc2, by rw [List.length_append, hdl]; rfl, hR2, hb2, HK2⟩
      all_goals omega
    · have hil : ¬ (i : Int) < (n : Int) := by omega
      obtain rfl : i = n := by omega
      obtain rfl : gk = 0 := by omega
      have hk := HK.out
      rw [Nat.sub_self] at hk
      have e : done = TOT := by rw [← hk]; simp [subW]
      rw [e] at hR
      have k := hRT wr (by simpa using hR)
      rw [htr] at k
      clear cB hRT HK hk e hR HU
      go_wp2_with fail
      refine k.mono ?_
      rintro e w3 ⟨rfl, hx, rfl⟩
      go_wp2_with fail
      go_ret
      exact ⟨rfl, hx, hbx⟩
theorem subtract_any (u v : Value) (a b : List Nat) (ha : Small a) (hb : Small b) (ha9 : a.length < 100000000) (hb9 : b.length < 100000000) (hab : val b ≤ val a) (w : World) (hu : Nats w u a) (hv : Nats w v b) :
    Calls Tryz.prog 140 #[u, v] w fun e w' => ∃ x, e = .returned x ∧ Nats w' x (wordsOf (val a - val b)) ∧ Below w.heap.size w w' := by
  refine (subtract_at u v a b ha hb ha9 hb9 hab w hu hv).mono ?_
  rintro e w' ⟨rfl, h1, h2⟩
  exact ⟨_, rfl, h1, h2⟩
end Go.Proofs.YtgmnjghbafbopaaGreatDoor
namespace Go.Proofs.YtgmnjghbafbopaaGreatDoor
open Go.RowKit Go.Lib

/-- The row of a product, behind i words of the first factor. -/
structure MulI (a b : List Nat) (i : Nat) (P : List Nat) : Prop where
  len : P.length = a.length + b.length
  small : Small P
  value : val P = val (a.take i) * val b
  zeros : ∀ j, i + b.length ≤ j → P.getD j 0 = 0
def mulNext (x : Nat) (b P : List Nat) (i : Nat) : List Nat := P.take i ++ mulRow x b (P.drop i) 0
theorem getD_drop' (l : List Nat) (i j : Nat) : (l.drop i).getD j 0 = l.getD (i + j) 0 := by rw [List.getD_eq_getElem?_getD, List.getD_eq_getElem?_getD, List.getElem?_drop]
theorem MulI.next {a b : List Nat} {i : Nat} {P : List Nat} (h : MulI a b i P) (ha : Small a) (hb : Small b) (hi : i < a.length) : MulI a b (i + 1) (mulNext (a.getD i 0) b P i) := by
  have hx := ha.getD i
  have hlen := h.len
  have hd : b.length < (P.drop i).length := by rw [List.length_drop]; omega
  have hz : (P.drop i).getD b.length 0 = 0 := by rw [getD_drop']; exact h.zeros _ (Nat.le_refl _)
  have hl := mulRow_len (a.getD i 0) b (P.drop i) 0 hd
  refine ⟨?_, ?_, ?_, fun j hj => ?_⟩
  · unfold mulNext
    rw [List.length_append, List.length_take, hl, List.length_drop]
    omega
  · exact Small.app (h.small.take i) (mulRow_small _ hx b _ 0 hb (h.small.drop i) (by omega))
  · have hP : val P = val (P.take i) + 1000000000 ^ i * val (P.drop i) := by
      conv => lhs; rw [← List.take_append_drop i P, val_app, List.length_take, Nat.min_eq_left (by omega)]
    unfold mulNext
    rw [val_app, mulRow_val _ b _ 0 hz, List.length_take, Nat.min_eq_left (by omega), take_snoc' a i hi, val_app, List.length_take, Nat.min_eq_left (by omega), Nat.add_zero, Nat.mul_add, ← Nat.add_assoc, ← hP, h.value, Nat.add_mul]
    show _ = _ + 1000000000 ^ i * (a.getD i 0 + 1000000000 * 0) * val b
    rw [Nat.mul_zero, Nat.add_zero, Nat.mul_assoc]
  · unfold mulNext
    rw [List.getD_eq_getElem?_getD, List.getElem?_append_right (by rw [List.length_take]; omega), ← List.getD_eq_getElem?_getD, List.length_take, Nat.min_eq_left (by omega), mulRow_behind _ _ _ _ _ (by omega), getD_drop', show i + (j - i) = j by omega]
    exact h.zeros j (by omega)
theorem MulI.start (a b : List Nat) : MulI a b 0 (List.replicate (a.length + b.length) 0) := by
  refine ⟨by simp, Small.zeros _, by rw [val_zeros]; simp [val], fun j _ => ?_⟩
  rw [List.getD_eq_getElem?_getD]
  cases h : (List.replicate (a.length + b.length) 0)[j]? with
  | none => rfl
  | some x => exact List.eq_of_mem_replicate (List.mem_of_getElem? h)
/-- Inside a row: k words of the second factor are done. -/
theorem row_step (x c : Nat) (b Q : List Nat) (i k : Nat) (hk : k < b.length) (hQ : i + k < Q.length) (R : List Nat) (h : Q.take (i + k) ++ mulRow x (b.drop k) (Q.drop (i + k)) c = R) :
    (Q.set (i + k) ((x * b.getD k 0 + Q.getD (i + k) 0 + c) % 1000000000)).take (i + (k + 1)) ++ mulRow x (b.drop (k + 1)) ((Q.set (i + k) ((x * b.getD k 0 + Q.getD (i + k) 0 + c) % 1000000000)).drop (i + (k + 1))) ((x * b.getD k 0 + Q.getD (i + k) 0 + c) / 1000000000) = R := by
  rw [← h]
  have e1 : b.drop k = b.getD k 0 :: b.drop (k + 1) := by
    rw [List.drop_eq_getElem_cons hk, List.getD_eq_getElem?_getD, List.getElem?_eq_getElem hk]; rfl
  have e2 : Q.drop (i + k) = Q.getD (i + k) 0 :: Q.drop (i + k + 1) := by
    rw [List.drop_eq_getElem_cons hQ, List.getD_eq_getElem?_getD, List.getElem?_eq_getElem hQ]; rfl
  conv => rhs; rw [e1, e2, mulRow]
  rw [List.headD_cons, List.tail_cons, ← Nat.add_assoc, List.drop_set_of_lt (by omega)]
  rw [List.take_add_one, List.getElem?_set_self hQ, List.take_set_of_le (by omega), List.append_assoc]
  rfl
theorem row_end (x c : Nat) (b Q : List Nat) (i : Nat) (hQ : i + b.length < Q.length) : Q.take (i + b.length) ++ mulRow x (b.drop b.length) (Q.drop (i + b.length)) c = Q.set (i + b.length) c := by
  rw [List.drop_length, mulRow, List.tail_drop, List.set_eq_take_append_cons_drop, if_pos hQ]
end Go.Proofs.YtgmnjghbafbopaaGreatDoor
namespace Go.Proofs.YtgmnjghbafbopaaGreatDoor
open Go.RowKit Go.Lib

/-- Words of an argument are read in later worlds. -/
theorem Nats.at {w wr : World} {p : Option Addr} {c1 : Nat} {a : List Nat} (h : Nats w (.slice p a.length c1) a) (hb : Below w.heap.size w wr) (i : Nat) (hi : i < a.length) :
    ∃ b0 off, p = some ⟨b0, off, none⟩ ∧ wr.cell? ⟨b0, off + i, none⟩ = some (.int .u32 ((a.getD i 0 : Nat) : Int)) := by
  rcases h with ⟨h0, _⟩ | ⟨b0, off, cap0, heq, hc0, hcells⟩
  · rw [h0] at hi; simp at hi
  · injection heq with h1 _ h3
    have hci := hcells i hi
    exact ⟨b0, off, h1, (hb.cell (p := ⟨b0, off + i, none⟩) (lt_of_cell hci)).trans hci⟩
set_option maxHeartbeats 8000000 in
set_option maxRecDepth 100000 in
theorem multiply_any (u v : Value) (a b : List Nat) (ha : Small a) (hb : Small b) (ha9 : a.length < 100000000) (hb9 : b.length < 100000000) (w : World) (hu : Nats w u a) (hv : Nats w v b) :
    Calls Tryz.prog 81 #[u, v] w fun e w' => ∃ x, e = .returned x ∧ Nats w' x (wordsOf (val a * val b)) ∧ Below w.heap.size w w' := by
  obtain ⟨p1, c1, rfl⟩ := hu.shape
  obtain ⟨p2, c2, rfl⟩ := hv.shape
  obtain ⟨n, hn⟩ : ∃ n, a.length + b.length = n := ⟨_, rfl⟩
  have hn9 : n ≤ 200000000 := by omega
  have hmk := make_nats n (by omega) 86 Tryz.underlying86 w
  have hnz : (n : Int) = (a.length : Int) + (b.length : Int) := by omega
  rw [hnz] at hmk
  obtain ⟨W1, hW1⟩ : ∃ W1, w.alloc (.cells (u32Cells (List.replicate n 0)) 156) = W1 := ⟨_, rfl⟩
  have hR1 : RowIs W1 w.heap.size (List.replicate n 0) := by rw [← hW1]; exact made_row w n
  have hb1 : Below w.heap.size w W1 := by rw [← hW1]; exact (Below.refl _ _).alloc (Nat.le_refl _) _
  rw [hW1] at hmk
  have hM0 := MulI.start a b
  rw [hn] at hM0
  clear hW1
  have HU := Lib.hid hu
  have HV := Lib.hid hv
  clear hu hv
  go_enter Tryz.func81, Tryz.ntmps81
  go_wp2_with fail
  go_loopg [18] a.length (fun g s18 wx => ∃ (i : Nat) (P : List Nat), s18 = .int .i64 i ∧ i + g = a.length ∧ MulI a b i P ∧ RowIs wx w.heap.size P ∧ Below w.heap.size w wx)
  case atStart => exact ⟨0, _, rfl, by omega, hM0, hR1, hb1⟩
  case round =>
    clear hR1 hb1 hM0
    obtain ⟨i, P, rfl, hig, hM, hR, hbx⟩ := hrel
    by_cases hlt : i < a.length
    · obtain ⟨g, rfl⟩ : ∃ g, gk = g + 1 := ⟨gk - 1, by omega⟩
      have hil : (i : Int) < (a.length : Int) := by omega
      have hMn := hM.next ha hb hlt
      have hPl := hM.len
      have hPs := hM.small
      have xs := ha.getD i
      obtain ⟨NX, hNX⟩ : ∃ Q, mulNext (a.getD i 0) b P i = Q := ⟨_, rfl⟩
      rw [hNX] at hMn
      have HN := Lib.hid (show P.take (i + 0) ++ mulRow (a.getD i 0) (b.drop 0) (P.drop (i + 0)) 0 = NX from hNX)
      clear hNX hM
      go_wp2_with fail
      go_loopg [7, 23] b.length (fun g2 s7 s23 wx => ∃ (k c : Nat) (Q : List Nat), s23 = .int .i64 k ∧ k + g2 = b.length ∧ s7 = .int .u64 c ∧ c < 1000000000 ∧ Q.length = n ∧ Small Q ∧ RowIs wx w.heap.size Q ∧ Below w.heap.size w wx ∧ Hid (Q.take (i + k) ++ mulRow (a.getD i 0) (b.drop k) (Q.drop (i + k)) c = NX))
      case atStart => exact ⟨0, 0, P, rfl, by omega, rfl, by omega, by omega, hPs, hR, hbx, HN⟩
      case round =>
        clear HN hR hbx
        obtain ⟨k, c, Q, rfl, hkg, rfl, hc, hQl, hQs, hR, hbx, HK⟩ := hrel
        by_cases hkt : k < b.length
        · obtain ⟨g2, rfl⟩ : ∃ g2, gk = g2 + 1 := ⟨gk - 1, by omega⟩
          have hkl : (k : Int) < (b.length : Int) := by omega
          have hstep := row_step (a.getD i 0) c b Q i k hkt (by omega) NX HK.out
          have ys := hb.getD k
          have qs := hQs.getD (i + k)
          obtain ⟨b0, off, hp1, hca⟩ := HU.out.at hbx i hlt
          obtain ⟨b1, off1, hp2, hcb⟩ := HV.out.at hbx k hkt
          have hcq := hR.cell (i + k) (by omega)
          have hfr := hR.frozen (i + k)
          have hset := hR.set (i + k) ((a.getD i 0 * b.getD k 0 + Q.getD (i + k) 0 + c) % 1000000000)
          have hsm : Small (Q.set (i + k) ((a.getD i 0 * b.getD k 0 + Q.getD (i + k) 0 + c) % 1000000000)) := by
            intro z hz
            rcases List.mem_or_eq_of_mem_set hz with hz | rfl
            · exact hQs z hz
            · exact Nat.mod_lt _ (by omega)
          have HSP := Lib.hid hstep
          clear HK hstep hMn hPs hPl
          subst hp1
          subst hp2
          generalize a.getD i 0 = x at *
          generalize b.getD k 0 = y at *
          generalize Q.getD (i + k) 0 = z at *
          obtain ⟨X, hX⟩ : ∃ X, x * y = X := ⟨_, rfl⟩
          have hXz : (x : Int) * (y : Int) = (X : Int) := by rw [← hX]; exact (Int.natCast_mul x y).symm
          have hXl : X ≤ 999999999 * 999999999 := by rw [← hX]; exact Nat.mul_le_mul (by omega) (by omega)
          rw [hX] at hset hsm HSP
          clear hX HU HV
          have hcast : (((X + z + c) % 1000000000 : Nat) : Int) = ((X : Int) + (z : Int) + (c : Int)) % 1000000000 := by omega
          have hcast2 : (((X + z + c) / 1000000000 : Nat) : Int) = ((X : Int) + (z : Int) + (c : Int)) / 1000000000 := by omega
          have hc2 : (X + z + c) / 1000000000 < 1000000000 := by omega
          have hikn : (i : Int) + (k : Int) < (n : Int) := by omega
          have HR2 := Lib.hid hR
          clear hset hR
          go_wp2_with fail
          go_quiet (fail)
          have hbq := below_drewN hbx nq
          have hRq := HR2.out.drewN nq
          generalize wr.drewN nq = W2 at hbq hRq ⊢
          have hcq2 := hRq.cell (i + k) (by omega)
          have hfr2 := hRq.frozen (i + k)
          have hset := hRq.set (i + k) ((X + z + c) % 1000000000)
          rw [hcast] at hset
          obtain ⟨W3, hW3⟩ : ∃ W3, W2.setCell ⟨w.heap.size, i + k, none⟩ (.int .u32 (((X : Int) + (z : Int) + (c : Int)) % 1000000000)) = W3 := ⟨_, rfl⟩
          rw [hW3] at hset
          have hb3 : Below w.heap.size w W3 := by rw [← hW3]; exact hbq.setCell (p := ⟨w.heap.size, i + k, none⟩) (Nat.le_refl _) _
          clear hca hcb hcq hfr hbx hRq hbq
          go_wp2_with fail
          go_roundg g2
          case rel => exact ⟨k + 1, (X + z + c) / 1000000000, Q.set (i + k) ((X + z + c) % 1000000000), by congr 1, by omega, by rw [hcast2], hc2, by rw [List.length_set]; exact hQl, hsm, hset, hb3, HSP⟩
          all_goals omega
        · obtain rfl : k = b.length := by omega
          obtain rfl : gk = 0 := by omega
          have hkl : ¬ (b.length : Int) < (b.length : Int) := by omega
          have he := HK.out
          rw [row_end _ _ _ _ _ (by omega)] at he
          have hcq := hR.cell (i + b.length) (by omega)
          have hfr := hR.frozen (i + b.length)
          have hset := hR.set (i + b.length) c
          rw [he] at hset
          obtain ⟨W3, hW3⟩ : ∃ W3, wr.setCell ⟨w.heap.size, i + b.length, none⟩ (.int .u32 (c : Int)) = W3 := ⟨_, rfl⟩
          rw [hW3] at hset
          have hb3 : Below w.heap.size w W3 := by rw [← hW3]; exact hbx.setCell (p := ⟨w.heap.size, i + b.length, none⟩) (Nat.le_refl _) _
          have hikn : (i : Int) + (b.length : Int) < (n : Int) := by omega
          generalize Q.getD (i + b.length) 0 = z at *
          clear HK he hR hbx HU HV hQs
          go_wp2_with fail
          go_roundg g
          case rel => exact ⟨i + 1, NX, by congr 1, by omega, hMn, hset, hb3⟩
          all_goals omega
    · obtain rfl : i = a.length := by omega
      obtain rfl : gk = 0 := by omega
      have hil : ¬ (a.length : Int) < (a.length : Int) := by omega
      have hv := hM.value
      rw [List.take_length] at hv
      have hl := hM.len
      have htr := trimW_words P hM.small
      rw [hv] at htr
      have k := trimmed_any _ P (by omega) wr (hR.nats n (by omega))
      rw [htr, show P.length = n by omega] at k
      clear HU HV hM hR
      go_wp2_with fail
      refine k.mono ?_
      rintro e w3 ⟨x, rfl, hx, rfl⟩
      go_wp2_with fail
      go_ret
      exact ⟨x, rfl, hx, hbx⟩
end Go.Proofs.YtgmnjghbafbopaaGreatDoor
namespace Go.Proofs.YtgmnjghbafbopaaGreatDoor
open Go.RowKit Go.Lib

def u32L (l : List Nat) : List Value := l.map fun (n : Nat) => Value.int .u32 (n : Int)
theorem Nats.of_owns {w : World} {B : Nat} {v : Value} {l : List Nat} (h : w.ownsRow B 156 1 v l.length (u32L l)) : Nats w v l := by
  rcases h.2 with ⟨rfl, h0⟩ | ⟨g, cap, cur, rfl, _, hgb, hc, _, hsz, htk⟩
  · exact .inl ⟨List.eq_nil_of_length_eq_zero h0, none, 0, rfl⟩
  · refine .inr ⟨g, 0, cap, rfl, hc, fun j hj => ?_⟩
    have hcur : w.cell? ⟨g, 0 + j, none⟩ = cur[j]? := by simp [World.cell?, hgb]
    rw [hcur]
    have h1 : (cur.toList.take (l.length * 1))[j]? = cur[j]? := by rw [List.getElem?_take_of_lt (by omega), Array.getElem?_toList]
    rw [← h1, htk]
    unfold u32L
    rw [List.getElem?_map, List.getD_eq_getElem?_getD, List.getElem?_eq_getElem hj]
    rfl
theorem RowIs.owns {w : World} {B base : Nat} {l : List Nat} (h : RowIs w B l) (hb : base ≤ B) (hl : l.length ≤ maxLen) : w.ownsRow base 156 1 (.slice (some ⟨B, 0, none⟩) l.length l.length) l.length (u32L l) := by
  refine ⟨by simp [u32L], .inr ⟨B, l.length, u32Cells l, rfl, hb, h, Nat.le_refl _, hl, by simp [u32Cells], ?_⟩⟩
  show List.take (l.length * 1) (List.map _ l) = List.map _ l
  exact List.take_of_length_le (by simp)
theorem owns_shape {w : World} {B k : Nat} {v : Value} {xs : List Value} (h : w.ownsRow B 156 1 v k xs) : ∃ a cap, v = .slice a k cap := by
  rcases h.2 with ⟨rfl, h0⟩ | ⟨g, cap, cur, rfl, _⟩
  · exact ⟨none, 0, by rw [h0]⟩
  · exact ⟨_, cap, rfl⟩
/-- What a row's growth does below it. -/
theorem owns_below {a w w' : World} {B : Nat} {v : Value} {k : Nat} {xs : List Value} (h : Below B a w) (ho : w.ownsRow B 156 1 v k xs) (hg : w.grownBy w' v.ownBlock) (hB : B ≤ w.heap.size) : Below B a w' :=
  h.grown hg hB (fun j hj => (ho.lt j hj).1)
theorem cell_one_u32 (w : World) (x : Nat) : ∀ (j : Nat) u, [Value.int .u32 (x : Int)][j]? = some u → (w.alloc (.cells #[.int .u32 (x : Int)] 156)).cell? (Addr.add ⟨w.heap.size, 0, none⟩ j) = some u := by
  intro j u h
  cases j with
  | zero => simp at h; subst h; simp [go_sem, Addr.add]
  | succ j => simp at h
theorem lit_nats (w : World) (x : Nat) : Nats (w.alloc (.cells #[.int .u32 (x : Int)] 156)) (.slice (some ⟨w.heap.size, 0, none⟩) 1 1) [x] :=
  RowIs.nats (l := [x]) (heap_alloc_new _ _) 1 (Nat.le_refl _)
theorem step_append_num {P : Program} {ops : Array Oper} {o : Oper} {a : Act} {w : World} {K : Act → World → Prop} {Q : Exit → Act → World → Prop} {E : Prop}
    (hg : o.guard = none) (s x : Operand) (t : TypeId) (hop : o.op = Op.call { callee := Callee.builtin Builtin.append, args := #[s, x], argTypes := #[t, t] })
    (base : Nat) (e : TypeId) (i : TypeInfo) (z : Value) (size bytes : Nat) (ht : P.underlying t = some (.slice e)) (hi : P.info? e = some i) (hz : i.zero = some z)
    (hsize : i.size = size) (hby : i.bytes = bytes) (hzs : z.cells.size = size) (hsz : 0 < size)
    (v : Value) (n : Nat) (xs : List Value) (hs : a.eval s = v) (hown : w.ownsRow base e size v n xs)
    (ad : Addr) (m c : Nat) (news : List Value) (hx : a.eval x = .slice (some ad) m c) (hl : news.length = m * size) (hnews : ∀ j u, news[j]? = some u → w.cell? (ad.add j) = some u) (h1 : ∀ u ∈ news, u.oneCell' = true)
    (h63 : n + m ≤ maxLen) (hbytes : (n + m) * bytes ≤ 140737488355328) (hbase : base ≤ w.heap.size)
    (hK : ∀ v' w', w'.ownsRow base e size v' (n + m) (xs ++ news) → w.grownBy w' v.ownBlock → K (a.put o.dst v') w') :
    if Region.wanted o (yielded ops a.tmps) = true then Oper.wp P o a w K Q else E := by
  have hw : Region.wanted o (yielded ops a.tmps) = true := by simp [Region.wanted, hg]
  rw [if_pos hw]
  obtain ⟨v', w', hr, h2, h3, _, h5⟩ := run_append_own_at (P := P) w base t o.type e i z size bytes ht hi hz hsize hby hzs hsz v n xs hown ad m c news hl hnews h1 h63 hbytes hbase
  unfold Oper.wp execOp
  simp only [hop, resolve, invoke, builtin, Sem.run_bind, Sem.run_pure, Result.andThen_ok, List.map_toArray, List.map_cons, List.map_nil, hs, hx, hr]
  exact hK v' w' h2 h3
end Go.Proofs.YtgmnjghbafbopaaGreatDoor
namespace Go.Proofs.YtgmnjghbafbopaaGreatDoor
open Go.RowKit Go.Lib

theorem val_shift (n x : Nat) : val (List.replicate n 0 ++ [x]) = 1000000000 ^ n * x := by
  rw [val_app, val_zeros, List.length_replicate]
  simp [val]
theorem words_pow (n : Nat) : List.replicate (n / 9) 0 ++ [10 ^ (n % 9)] = wordsOf (10 ^ n) := by
  have hlt : 10 ^ (n % 9) < 1000000000 := by
    have : 10 ^ (n % 9) ≤ 10 ^ 8 := Nat.pow_le_pow_right (by omega) (by omega)
    omega
  have hs : Small (List.replicate (n / 9) 0 ++ [10 ^ (n % 9)]) := Small.app (Small.zeros _) (Small.cons hlt Small.nil)
  have hv : val (List.replicate (n / 9) 0 ++ [10 ^ (n % 9)]) = 10 ^ n := by
    rw [val_shift, show (1000000000 : Nat) = 10 ^ 9 from rfl, ← Nat.pow_mul, ← Nat.pow_add, Nat.div_add_mod]
  rw [← hv, wordsOf_val _ hs]
  intro w hw
  simp at hw
  subst hw
  exact Nat.ne_of_gt (Nat.pow_pos (by omega))
set_option maxRecDepth 100000 in
set_option maxHeartbeats 4000000 in
theorem power_any (n : Nat) (hn : n ≤ 100000) (w : World) :
    Calls Tryz.prog 80 #[.int .i64 (n : Int)] w fun e w' => ∃ x, e = .returned x ∧ Nats w' x (wordsOf (10 ^ n)) ∧ Below w.heap.size w w' := by
  obtain ⟨r, hr⟩ : ∃ r, n % 9 = r := ⟨_, rfl⟩
  obtain ⟨q, hq⟩ : ∃ q, n / 9 = q := ⟨_, rfl⟩
  have hrz : (n : Int) % 9 = (r : Int) := by omega
  have hqz : (n : Int) / 9 = (q : Int) := by omega
  have hr9 : r < 9 := by omega
  have hq9 : q ≤ 100000 := by omega
  have hwp := words_pow n
  rw [hr, hq] at hwp
  have HW := Lib.hid hwp
  obtain ⟨i0, hi, hh⟩ := Option.map_eq_some_iff.1 infoU32
  simp only [Prod.mk.injEq] at hh
  obtain ⟨hz0, hz1, hz2⟩ := hh
  clear hwp hr hq
  have hmk := make_nats q (by omega) 86 Tryz.underlying86 w
  obtain ⟨W1, hW1⟩ : ∃ W1, w.alloc (.cells (u32Cells (List.replicate q 0)) 156) = W1 := ⟨_, rfl⟩
  have hR1 : RowIs W1 w.heap.size (List.replicate q 0) := by rw [← hW1]; exact made_row w q
  have hb1 : Below w.heap.size w W1 := by rw [← hW1]; exact (Below.refl _ _).alloc (Nat.le_refl _) _
  have hO1 := hR1.owns (Nat.le_refl _) (by rw [List.length_replicate]; unfold maxLen; omega)
  rw [List.length_replicate] at hO1
  rw [hW1] at hmk
  have hz : w.heap.size ≤ W1.heap.size := hb1.size
  clear hW1 hR1
  have HO1 := Lib.hid hO1
  clear hO1
  go_enter Tryz.func80, Tryz.ntmps80
  go_wp2_with fail
  go_loopg [3, 6] r (fun g s3 s6 wx => ∃ i p : Nat, s3 = .int .u32 (p : Int) ∧ s6 = .int .i64 (i : Int) ∧ i + g = r ∧ Hid (p = 10 ^ i) ∧ wx = w)
  case atStart => exact ⟨0, 1, rfl, rfl, by omega, Lib.hid rfl, rfl⟩
  case round =>
    obtain ⟨i, p, rfl, rfl, hig, HP, rfl⟩ := hrel
    by_cases hlt : i < r
    · obtain ⟨g, rfl⟩ : ∃ g, gk = g + 1 := ⟨gk - 1, by omega⟩
      have hil : (i : Int) < (r : Int) := by omega
      have hp8 : p ≤ 10000000 := by
        rw [HP.out]
        exact Nat.le_trans (Nat.pow_le_pow_right (by omega) (show i ≤ 7 by omega)) (by decide)
      have hpi : (p : Int) ≤ 10000000 := by omega
      have HP2 := Lib.hid (show p * 10 = 10 ^ (i + 1) by rw [Nat.pow_succ, HP.out])
      clear HP hmk HW HO1
      go_wp2_with fail
      go_roundg g
      case rel => exact ⟨i + 1, p * 10, by congr 1, by congr 1, by omega, HP2, rfl⟩
      all_goals omega
    · obtain rfl : i = r := by omega
      obtain rfl : gk = 0 := by omega
      have hil : ¬ (i : Int) < (i : Int) := by omega
      have hO1 := HO1.out
      go_wp2_with (at_builtin; go_must (refine wpList_append_own_at _ rfl (.tmp 13) (.tmp 15) 86 rfl wr.heap.size 156 i0 (.int .u32 0) 1 4 Tryz.underlying86 hi hz0 hz1 hz2 rfl (by decide) _ _ _ rfl (hO1.alloc _) ⟨W1.heap.size, 0, none⟩ 1 1 [.int .u32 (p : Int)] rfl rfl (cell_one_u32 _ _) (by intro u hu; simp at hu; rcases hu with rfl; rfl) (by unfold maxLen; omega) (by omega) (by simp; omega) ?_; intro v2 w2 ho2 hg2 hn2 ha2))
      go_ret
      have hp0 := HP.out
      refine ⟨v2, rfl, ?_, owns_below (hb1.alloc hz _) (hO1.alloc _) hg2 (by simp; omega)⟩
      have e : u32L (List.replicate q 0) ++ [Value.int .u32 (p : Int)] = u32L (List.replicate q 0 ++ [10 ^ i]) := by
        unfold u32L
        rw [List.map_append, ← hp0]; rfl
      rw [e, HW.out] at ho2
      refine Nats.of_owns (B := wr.heap.size) ?_
      have hlen : (wordsOf (10 ^ n)).length = q + 1 := by rw [← HW.out]; simp
      rw [hlen]
      exact ho2
end Go.Proofs.YtgmnjghbafbopaaGreatDoor

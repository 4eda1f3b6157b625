/- Natural numbers: rows of words that a call makes and stores into; the contracts of add and subtract. -/
import Derived.Test.YtofpojlnfncpcaaGreatDoorNuMem
import Derived.Laws.MakeOwn
import Derived.Deep.QuietTactic
import Derived.BigQuiet
namespace Go.Proofs.YtofpojlnfncpcaaGreatDoor
open Go.RowKit Go.Lib

def u32Cells (l : List Nat) : Array Value := (l.map fun (n : Nat) => Value.int .u32 (n : Int)).toArray
/-- Block B is a row of these words. -/
def RowIs (w : World) (B : Nat) (l : List Nat) : Prop := w.heap[B]? = some (.cells (u32Cells l) 96 (0, 0))
theorem RowIs.lt {w : World} {B : Nat} {l : List Nat} (h : RowIs w B l) : B < w.heap.size := (Array.getElem?_eq_some_iff.1 h).1
theorem RowIs.cell {w : World} {B : Nat} {l : List Nat} (h : RowIs w B l) (i : Nat) (hi : i < l.length) : w.cell? ⟨B, i, none⟩ = some (.int .u32 ((l.getD i 0 : Nat) : Int)) := by
  unfold RowIs at h
  have : w.cell? ⟨B, i, none⟩ = (u32Cells l)[i]? := by simp [World.cell?, h]
  rw [this]
  unfold u32Cells
  rw [List.getElem?_toArray, List.getElem?_map, List.getD_eq_getElem?_getD, List.getElem?_eq_getElem hi]
  rfl
theorem RowIs.frozen {w : World} {B : Nat} {l : List Nat} (h : RowIs w B l) (i : Nat) : w.frozen? ⟨B, i, none⟩ = false := by
  unfold RowIs at h
  simp [World.frozen?, h]
theorem RowIs.set {w : World} {B : Nat} {l : List Nat} (h : RowIs w B l) (i x : Nat) : RowIs (w.setCell ⟨B, i, none⟩ (.int .u32 (x : Int))) B (l.set i x) := by
  unfold RowIs at h ⊢
  unfold World.setCell
  have e : u32Cells (l.set i x) = (u32Cells l).setIfInBounds i (.int .u32 (x : Int)) := by
    unfold u32Cells
    rw [List.map_set, List.setIfInBounds_toArray]
  simp [Array.getElem?_modify, h, e]
theorem RowIs.other {w w' : World} {B : Nat} {l : List Nat} (h : RowIs w B l) (hb : w'.heap[B]? = w.heap[B]?) : RowIs w' B l := hb.trans h
theorem RowIs.nats {w : World} {B : Nat} {l : List Nat} (h : RowIs w B l) (cap : Nat) (hc : l.length ≤ cap) : Nats w (.slice (some ⟨B, 0, none⟩) l.length cap) l :=
  .inr ⟨B, 0, cap, rfl, hc, fun j hj => by rw [Nat.zero_add]; exact h.cell j hj⟩
theorem below_drewN {B : Nat} {a w : World} (h : Below B a w) : ∀ q, Below B a (w.drewN q)
  | 0 => h
  | q + 1 => (below_drewN h q).drew
theorem heap_drewN (w : World) : ∀ q, (w.drewN q).heap = w.heap
  | 0 => rfl
  | q + 1 => heap_drewN w q
theorem RowIs.drewN {w : World} {B : Nat} {l : List Nat} (h : RowIs w B l) (q : Nat) : RowIs (w.drewN q) B l := by unfold RowIs at h ⊢; rw [heap_drewN]; exact h
theorem infoU32 : (Tryz.prog.info? 96).map (fun i => (i.zero, i.size, i.bytes)) = some (some (.int .u32 0), 1, 4) := by kernel_rfl
theorem made_zeros (n : Nat) : madeCells #[.int .u32 0] n = u32Cells (List.replicate n 0) := by
  apply Array.toList_inj.1
  unfold madeCells u32Cells
  rw [Array.toList_map, Array.toList_range, List.map_replicate]
  apply List.ext_getElem
  · simp
  · intro i h1 h2
    simp [Nat.mod_one]
/-- make([]uint32, n). -/
theorem make_nats (n : Nat) (hn : n ≤ 1000000000) (t : TypeId) (ht : Tryz.prog.underlying t = some (.slice 96)) (w : World) :
    (Instr.makeSlice t (.int .i64 (n : Int)) (.int .i64 (n : Int))).run Tryz.prog w = .ok (.slice (some ⟨w.heap.size, 0, none⟩) n n) (w.alloc (.cells (u32Cells (List.replicate n 0)) 96)) := by
  obtain ⟨i, hi, hh⟩ := Option.map_eq_some_iff.1 infoU32
  simp only [Prod.mk.injEq] at hh
  have hmk := run_make (P := Tryz.prog) w t 96 i (.int .u32 0) ht hi hh.1 .i64 .i64 (n : Int) (n : Int) (by omega) (by omega) (by rw [hh.2.2]; omega) (by omega)
  rw [Int.toNat_natCast, hh.2.1, Nat.mul_one, show (Value.int IntKind.u32 0).cells = #[Value.int IntKind.u32 0] from rfl, made_zeros] at hmk
  exact hmk
theorem made_row (w : World) (n : Nat) : RowIs (w.alloc (.cells (u32Cells (List.replicate n 0)) 96)) w.heap.size (List.replicate n 0) := heap_alloc_new _ _
/-- A row that is written from the front. -/
theorem set_front (done : List Nat) (k x : Nat) : (done ++ List.replicate (k + 1) 0).set done.length x = (done ++ [x]) ++ List.replicate k 0 := by
  rw [List.set_append_right _ _ (Nat.le_refl _), Nat.sub_self, List.replicate_succ, List.set_cons_zero, List.append_assoc]
  rfl
theorem getD_drop0 (l : List Nat) (i : Nat) : l.getD i 0 = (l.drop i).headD 0 := by
  rw [List.getD_eq_getElem?_getD, List.headD_eq_head?_getD, List.head?_drop]
theorem tail_drop (l : List Nat) (i : Nat) : (l.drop i).tail = l.drop (i + 1) := by rw [List.tail_drop]
set_option maxHeartbeats 4000000 in
set_option maxRecDepth 100000 in
theorem add_lt (u v : Value) (a b : List Nat) (ha : Small a) (hb : Small b) (ha9 : a.length < 100000000) (hb9 : b.length < 100000000) (hab : a.length < b.length) (w : World) (hu : Nats w u a) (hv : Nats w v b) :
    Calls Tryz.prog 81 #[u, v] w fun e w' => ∃ x, e = .returned x ∧ Nats w' x (wordsOf (val a + val b)) ∧ Below w.heap.size w w' := by
  obtain ⟨p1, c1, rfl⟩ := hu.shape
  obtain ⟨p2, c2, rfl⟩ := hv.shape
  obtain ⟨n, hn⟩ : ∃ n, b.length + 1 = n := ⟨_, rfl⟩
  have hmax : max a.length b.length + 1 = n := by omega
  have hn9 : n ≤ 100000000 := by omega
  have hmk := make_nats n (by omega) 45 Tryz.underlying45 w
  rw [show (n : Int) = (b.length : Int) + 1 by omega] at hmk
  obtain ⟨W1, hW1⟩ : ∃ W1, w.alloc (.cells (u32Cells (List.replicate n 0)) 96) = W1 := ⟨_, rfl⟩
  have hR1 : RowIs W1 w.heap.size (List.replicate n 0) := by rw [← hW1]; exact made_row w n
  have hb1 : Below w.heap.size w W1 := by rw [← hW1]; exact (Below.refl _ _).alloc (Nat.le_refl _) _
  rw [hW1] at hmk
  have hsum := addW_sum a b ha hb
  have hsm := addW_small n a b 0
  have htr := trimW_words _ hsm
  rw [hmax] at hsum
  rw [hsum] at htr
  obtain ⟨TOT, hTOT⟩ : ∃ T, addW n a b 0 = T := ⟨_, rfl⟩
  have htl : TOT.length = n := by rw [← hTOT]; exact addW_len n a b 0
  rw [hTOT] at htr
  have HT := Lib.hid (show [] ++ addW (n - 0) (a.drop 0) (b.drop 0) 0 = TOT from hTOT)
  clear hW1 hsum hsm hTOT hmax
  have cA := fun (i : Nat) (hi : i < 1000000000) W (hW : Below w.heap.size w W) => word_any _ a i hi (by omega) W (hu.later hW)
  have cB := fun (i : Nat) (hi : i < 1000000000) W (hW : Below w.heap.size w W) => word_any _ b i hi (by omega) W (hv.later hW)
  have hRT := fun W (hW : RowIs W w.heap.size TOT) => trimmed_any _ TOT (by omega) W (hW.nats n (by omega))
  rw [htl] at hRT
  clear hu hv
  go_enter Tryz.func81, Tryz.ntmps81
  go_wp2_with fail
  go_loopg [6, 18] n (fun g s6 s18 wx => ∃ (i c : Nat) (done : List Nat), s18 = .int .i64 i ∧ i + g = n ∧ s6 = .int .u32 c ∧ c ≤ 1 ∧ done.length = i ∧ RowIs wx w.heap.size (done ++ List.replicate g 0) ∧ Below w.heap.size w wx ∧ Hid (done ++ addW (n - i) (a.drop i) (b.drop i) c = TOT))
  case atStart => exact ⟨0, 0, [], rfl, by omega, rfl, by omega, rfl, hR1, hb1, HT⟩
  case round =>
    clear hR1 hb1 HT
    obtain ⟨i, c, done, rfl, hig, rfl, hc1, hdl, hR, hbx, HK⟩ := hrel
    by_cases hlt : i < n
    · obtain ⟨g, rfl⟩ : ∃ g, gk = g + 1 := ⟨gk - 1, by omega⟩
      have hil : (i : Int) < (n : Int) := by omega
      have hk := HK.out
      rw [show n - i = (n - (i + 1)) + 1 by omega, addW, tail_drop, tail_drop, ← getD_drop0, ← getD_drop0] at hk
      have xs := ha.getD i
      have ys := hb.getD i
      have kA := cA i (by omega) wr hbx
      have kB := cB i (by omega) wr hbx
      generalize a.getD i 0 = x at *
      generalize b.getD i 0 = y at *
      have hcell : wr.cell? ⟨w.heap.size, i, none⟩ = some (.int .u32 0) := by
        have := hR.cell i (by rw [List.length_append, List.length_replicate]; omega)
        rw [this]
        congr 2
        rw [List.getD_eq_getElem?_getD, List.getElem?_append_right (by omega), hdl, Nat.sub_self, List.replicate_succ]
        rfl
      have hfr := hR.frozen i
      have hcast : (((x + y + c) % 1000000000 : Nat) : Int) = ((x : Int) + (y : Int) + (c : Int)) % 1000000000 := by omega
      have hcast2 : (((x + y + c) / 1000000000 : Nat) : Int) = ((x : Int) + (y : Int) + (c : Int)) / 1000000000 := by omega
      obtain ⟨W2, hW2⟩ : ∃ W2, wr.setCell ⟨w.heap.size, i, none⟩ (.int .u32 (((x : Int) + (y : Int) + (c : Int)) % 1000000000)) = W2 := ⟨_, rfl⟩
      have hR2 : RowIs W2 w.heap.size ((done ++ [(x + y + c) % 1000000000]) ++ List.replicate g 0) := by
        rw [← hW2, ← set_front, hdl, ← hcast]
        exact hR.set i _
      have hb2 : Below w.heap.size w W2 := by rw [← hW2]; exact hbx.setCell (p := ⟨w.heap.size, i, none⟩) (Nat.le_refl _) _
      have HK2 := Lib.hid (show (done ++ [(x + y + c) % 1000000000]) ++ addW (n - (i + 1)) (a.drop (i + 1)) (b.drop (i + 1)) ((x + y + c) / 1000000000) = TOT by rw [List.append_assoc]; exact hk)
      clear hk HK cA cB hRT
      go_wp2_with fail
      refine kA.mono ?_
      rintro e w3 ⟨rfl, rfl⟩
      go_wp2_with fail
      refine kB.mono ?_
      rintro e w3 ⟨rfl, rfl⟩
      have hc2 : (x + y + c) / 1000000000 ≤ 1 := by omega
      go_wp2_with fail
      go_roundg g
      case rel => exact ⟨i + 1, (x + y + c) / 1000000000, done ++ [(x + y + c) % 1000000000], by congr 1, by omega, by rw [hcast2], hc2, by rw [List.length_append, hdl]; rfl, hR2, hb2, HK2⟩
      all_goals omega
    · have hil : ¬ (i : Int) < (n : Int) := by omega
      obtain rfl : i = n := by omega
      obtain rfl : gk = 0 := by omega
      have hk := HK.out
      rw [Nat.sub_self] at hk
      have e : done = TOT := by rw [← hk]; simp [addW]
      rw [e] at hR
      have k := hRT wr (by simpa using hR)
      rw [htr] at k
      clear cA cB hRT HK hk e hR
      go_wp2_with fail
      refine k.mono ?_
      rintro e w3 ⟨x, rfl, hx, rfl⟩
      go_wp2_with fail
      go_ret
      exact ⟨x, rfl, hx, hbx⟩
set_option maxHeartbeats 4000000 in
set_option maxRecDepth 100000 in
theorem add_ge (u v : Value) (a b : List Nat) (ha : Small a) (hb : Small b) (ha9 : a.length < 100000000) (hb9 : b.length < 100000000) (hab : ¬ a.length < b.length) (w : World) (hu : Nats w u a) (hv : Nats w v b) :
    Calls Tryz.prog 81 #[u, v] w fun e w' => ∃ x, e = .returned x ∧ Nats w' x (wordsOf (val a + val b)) ∧ Below w.heap.size w w' := by
  obtain ⟨p1, c1, rfl⟩ := hu.shape
  obtain ⟨p2, c2, rfl⟩ := hv.shape
  obtain ⟨n, hn⟩ : ∃ n, a.length + 1 = n := ⟨_, rfl⟩
  have hmax : max a.length b.length + 1 = n := by omega
  have hn9 : n ≤ 100000000 := by omega
  have hmk := make_nats n (by omega) 45 Tryz.underlying45 w
  rw [show (n : Int) = (a.length : Int) + 1 by omega] at hmk
  obtain ⟨W1, hW1⟩ : ∃ W1, w.alloc (.cells (u32Cells (List.replicate n 0)) 96) = W1 := ⟨_, rfl⟩
  have hR1 : RowIs W1 w.heap.size (List.replicate n 0) := by rw [← hW1]; exact made_row w n
  have hb1 : Below w.heap.size w W1 := by rw [← hW1]; exact (Below.refl _ _).alloc (Nat.le_refl _) _
  rw [hW1] at hmk
  have hsum := addW_sum a b ha hb
  have hsm := addW_small n a b 0
  have htr := trimW_words _ hsm
  rw [hmax] at hsum
  rw [hsum] at htr
  obtain ⟨TOT, hTOT⟩ : ∃ T, addW n a b 0 = T := ⟨_, rfl⟩
  have htl : TOT.length = n := by rw [← hTOT]; exact addW_len n a b 0
  rw [hTOT] at htr
  have HT := Lib.hid (show [] ++ addW (n - 0) (a.drop 0) (b.drop 0) 0 = TOT from hTOT)
  clear hW1 hsum hsm hTOT hmax
  have cA := fun (i : Nat) (hi : i < 1000000000) W (hW : Below w.heap.size w W) => word_any _ a i hi (by omega) W (hu.later hW)
  have cB := fun (i : Nat) (hi : i < 1000000000) W (hW : Below w.heap.size w W) => word_any _ b i hi (by omega) W (hv.later hW)
  have hRT := fun W (hW : RowIs W w.heap.size TOT) => trimmed_any _ TOT (by omega) W (hW.nats n (by omega))
  rw [htl] at hRT
  clear hu hv
  go_enter Tryz.func81, Tryz.ntmps81
  go_wp2_with fail
  go_loopg [6, 18] n (fun g s6 s18 wx => ∃ (i c : Nat) (done : List Nat), s18 = .int .i64 i ∧ i + g = n ∧ s6 = .int .u32 c ∧ c ≤ 1 ∧ done.length = i ∧ RowIs wx w.heap.size (done ++ List.replicate g 0) ∧ Below w.heap.size w wx ∧ Hid (done ++ addW (n - i) (a.drop i) (b.drop i) c = TOT))
  case atStart => exact ⟨0, 0, [], rfl, by omega, rfl, by omega, rfl, hR1, hb1, HT⟩
  case round =>
    clear hR1 hb1 HT
    obtain ⟨i, c, done, rfl, hig, rfl, hc1, hdl, hR, hbx, HK⟩ := hrel
    by_cases hlt : i < n
    · obtain ⟨g, rfl⟩ : ∃ g, gk = g + 1 := ⟨gk - 1, by omega⟩
      have hil : (i : Int) < (n : Int) := by omega
      have hk := HK.out
      rw [show n - i = (n - (i + 1)) + 1 by omega, addW, tail_drop, tail_drop, ← getD_drop0, ← getD_drop0] at hk
      have xs := ha.getD i
      have ys := hb.getD i
      have kA := cA i (by omega) wr hbx
      have kB := cB i (by omega) wr hbx
      generalize a.getD i 0 = x at *
      generalize b.getD i 0 = y at *
      have hcell : wr.cell? ⟨w.heap.size, i, none⟩ = some (.int .u32 0) := by
        have := hR.cell i (by rw [List.length_append, List.length_replicate]; omega)
        rw [this]
        congr 2
        rw [List.getD_eq_getElem?_getD, List.getElem?_append_right (by omega), hdl, Nat.sub_self, List.replicate_succ]
        rfl
      have hfr := hR.frozen i
      have hcast : (((x + y + c) % 1000000000 : Nat) : Int) = ((x : Int) + (y : Int) + (c : Int)) % 1000000000 := by omega
      have hcast2 : (((x + y + c) / 1000000000 : Nat) : Int) = ((x : Int) + (y : Int) + (c : Int)) / 1000000000 := by omega
      obtain ⟨W2, hW2⟩ : ∃ W2, wr.setCell ⟨w.heap.size, i, none⟩ (.int .u32 (((x : Int) + (y : Int) + (c : Int)) % 1000000000)) = W2 := ⟨_, rfl⟩
      have hR2 : RowIs W2 w.heap.size ((done ++ [(x + y + c) % 1000000000]) ++ List.replicate g 0) := by
        rw [← hW2, ← set_front, hdl, ← hcast]
        exact hR.set i _
      have hb2 : Below w.heap.size w W2 := by rw [← hW2]; exact hbx.setCell (p := ⟨w.heap.size, i, none⟩) (Nat.le_refl _) _
      have HK2 := Lib.hid (show (done ++ [(x + y + c) % 1000000000]) ++ addW (n - (i + 1)) (a.drop (i + 1)) (b.drop (i + 1)) ((x + y + c) / 1000000000) = TOT by rw [List.append_assoc]; exact hk)
      clear hk HK cA cB hRT
      go_wp2_with fail
      refine kA.mono ?_
      rintro e w3 ⟨rfl, rfl⟩
      go_wp2_with fail
      refine kB.mono ?_
      rintro e w3 ⟨rfl, rfl⟩
      have hc2 : (x + y + c) / 1000000000 ≤ 1 := by omega
      go_wp2_with fail
      go_roundg g
      case rel => exact ⟨i + 1, (x + y + c) / 1000000000, done ++ [(x + y + c) % 1000000000], by congr 1, by omega, by rw [hcast2], hc2, by rw [List.length_append, hdl]; rfl, hR2, hb2, HK2⟩
      all_goals omega
    · have hil : ¬ (i : Int) < (n : Int) := by omega
      obtain rfl : i = n := by omega
      obtain rfl : gk = 0 := by omega
      have hk := HK.out
      rw [Nat.sub_self] at hk
      have e : done = TOT := by rw [← hk]; simp [addW]
      rw [e] at hR
      have k := hRT wr (by simpa using hR)
      rw [htr] at k
      clear cA cB hRT HK hk e hR
      go_wp2_with fail
      refine k.mono ?_
      rintro e w3 ⟨x, rfl, hx, rfl⟩
      go_wp2_with fail
      go_ret
      exact ⟨x, rfl, hx, hbx⟩
theorem add_any (u v : Value) (a b : List Nat) (ha : Small a) (hb : Small b) (ha9 : a.length < 100000000) (hb9 : b.length < 100000000) (w : World) (hu : Nats w u a) (hv : Nats w v b) :
    Calls Tryz.prog 81 #[u, v] w fun e w' => ∃ x, e = .returned x ∧ Nats w' x (wordsOf (val a + val b)) ∧ Below w.heap.size w w' := by
  by_cases hab : a.length < b.length
  · exact add_lt u v a b ha hb ha9 hb9 hab w hu hv
  · exact add_ge u v a b ha hb ha9 hb9 hab w hu hv
end Go.Proofs.YtofpojlnfncpcaaGreatDoor

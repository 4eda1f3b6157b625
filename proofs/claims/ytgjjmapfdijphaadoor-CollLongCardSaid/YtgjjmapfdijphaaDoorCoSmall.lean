/- The contracts of package coll's small functions: signs, weights, numbers in three bytes. -/
import Derived.Test.YtgjjmapfdijphaaDoorCoPure
import Derived.Test.YtgjjmapfdijphaaDoorCharsPure
import Derived.Test.YtgjjmapfdijphaaDoorCharsPart
import Derived.Laws.AppendOwn
import Derived.Laws.OwnMore
import Derived.Maps.AppendAt
import Derived.Deep.LoopGhost
import Derived.Deep.DeepMust
namespace Go.Proofs.YtgjjmapfdijphaaDoor
open Go.RowKit Go.Lib

theorem ba_eq {s : ByteArray} {l : List UInt8} (h : s.data.toList = l) : s = ⟨l.toArray⟩ := by subst h; rfl
theorem ba_list (s : ByteArray) : s.toList = s.data.toList := by
  exact ByteArray.toList_eq s
theorem ba_beq (s : ByteArray) (l : List UInt8) : (s.toList == l) = decide (s.data.toList = l) := by
  rw [Bool.eq_iff_iff, beq_iff_eq, decide_eq_true_iff, ba_list]
/-- What levelOf hands back. -/
def sgV : Option Nat → Value
  | some lv => .tuple #[.int .i64 lv, .bool true]
  | none => .tuple #[.int .i64 0, .bool false]
set_option maxHeartbeats 1000000 in
theorem levelOf_any (s : ByteArray) (w : World) :
    Calls Tryd.prog 74 #[.string s] w fun e w' => e = .returned (sgV (signL s.data.toList)) ∧ w = w' := by
  unfold signL
  by_cases h1 : s.data.toList = [60]
  · rw [if_pos h1]
    obtain rfl := ba_eq h1
    go_enter Tryd.func74, Tryd.ntmps74
    go_wp2
    go_ret2
    exact ⟨rfl, rfl⟩
  · rw [if_neg h1]
    have b1 : (s.toList == [60]) = false := by rw [ba_beq s [60], decide_eq_false_iff_not]; exact h1
    by_cases h2 : s.data.toList = [44]
    · rw [if_pos h2]
      obtain rfl := ba_eq h2
      go_enter Tryd.func74, Tryd.ntmps74
      go_wp2
      go_ret2
      exact ⟨rfl, rfl⟩
    · rw [if_neg h2]
      have b2 : (s.toList == [44]) = false := by rw [ba_beq s [44], decide_eq_false_iff_not]; exact h2
      by_cases h3 : s.data.toList = [59]
      · rw [if_pos h3]
        obtain rfl := ba_eq h3
        go_enter Tryd.func74, Tryd.ntmps74
        go_wp2
        go_ret2
        exact ⟨rfl, rfl⟩
      · rw [if_neg h3]
        have b3 : (s.toList == [59]) = false := by rw [ba_beq s [59], decide_eq_false_iff_not]; exact h3
        go_enter Tryd.func74, Tryd.ntmps74
        go_wp2
        go_ret2
        exact ⟨rfl, rfl⟩

/-- Weights, as a value. -/
def wtV (x : Wt) : Value := .agg #[.int .i64 (x.1 : Int), .int .i64 (x.2.1 : Int), .int .i64 (x.2.2 : Int)]
set_option maxHeartbeats 1000000 in
theorem ignored_any (w : World) :
    Calls Tryd.prog 32 #[] w fun e w' => e = .returned (wtV (0, 0, 0)) ∧ Below w.heap.size w w' := by
  go_enter Tryd.func32, Tryd.ntmps32
  go_wp2
  exact bodyPost_ret (v := wtV (0, 0, 0)) (by simp [results, Tryd.results32, go_sem, wtV]) rfl ⟨rfl, ((Below.refl _ w).alloc (Nat.le_refl _) _)⟩
set_option maxHeartbeats 2000000 in
theorem next_any (x : Wt) (lv : Nat) (h : lv ≤ 2) (h1 : x.1 ≤ 16777216) (h2 : x.2.1 ≤ 16777216) (h3 : x.2.2 ≤ 16777216) (w : World) :
    Calls Tryd.prog 75 #[wtV x, .int .i64 lv] w fun e w' => e = .returned (wtV (wtNext x lv)) ∧ Below w.heap.size w w' := by
  obtain ⟨a, b, c⟩ := x
  simp only at h1 h2 h3
  rcases (show lv = 0 ∨ lv = 1 ∨ lv = 2 by omega) with rfl | rfl | rfl
  · unfold wtV
    go_enter Tryd.func75, Tryd.ntmps75
    go_wp2
    refine wp_loop_rounds 3 ?_
    rw [rounds_succ]
    go_wp2
    rw [rounds_succ]
    go_wp2
    rw [rounds_succ]
    go_wp2
    exact bodyPost_ret (v := wtV (wtNext (a, b, c) 0)) (by simp [results, Tryd.results75, go_sem, wtV, wtNext]) rfl ⟨rfl, by repeat (first | exact Below.refl _ _ | (refine Below.setCell ?_ (by simp) _) | (refine Below.alloc ?_ (by simp) _))⟩
  · unfold wtV
    go_enter Tryd.func75, Tryd.ntmps75
    go_wp2
    refine wp_loop_rounds 2 ?_
    rw [rounds_succ]
    go_wp2
    rw [rounds_succ]
    go_wp2
    exact bodyPost_ret (v := wtV (wtNext (a, b, c) 1)) (by simp [results, Tryd.results75, go_sem, wtV, wtNext]) rfl ⟨rfl, by repeat (first | exact Below.refl _ _ | (refine Below.setCell ?_ (by simp) _) | (refine Below.alloc ?_ (by simp) _))⟩
  · unfold wtV
    go_enter Tryd.func75, Tryd.ntmps75
    go_wp2
    refine wp_loop_rounds 1 ?_
    rw [rounds_succ]
    go_wp2
    exact bodyPost_ret (v := wtV (wtNext (a, b, c) 2)) (by simp [results, Tryd.results75, go_sem, wtV, wtNext]) rfl ⟨rfl, by repeat (first | exact Below.refl _ _ | (refine Below.setCell ?_ (by simp) _) | (refine Below.alloc ?_ (by simp) _))⟩
theorem infoByte : (Tryd.prog.info? 5).map (fun i => (i.zero, i.size, i.bytes)) = some (some (.int .u8 0), 1, 1) := by kernel_rfl
def byteCellsOf (l : List UInt8) : List Value := l.map fun b => Value.int .u8 (b.toNat : Int)
theorem three_cells (n : Nat) : byteCellsOf (three n) = [.int .u8 ((n : Int) / 65536 % 256), .int .u8 ((n : Int) / 256 % 256), .int .u8 ((n : Int) % 256)] := by
  unfold three byteCellsOf
  simp
theorem three_len (n : Nat) : (three n).length = 3 := rfl
theorem byteCellsOf_app (a b : List UInt8) : byteCellsOf (a ++ b) = byteCellsOf a ++ byteCellsOf b := List.map_append
theorem new_three (w : World) (x y z : Value) (t : TypeId) : ∀ (j : Nat) (u : Value), [x, y, z][j]? = some u → (w.alloc (.cells #[x, y, z] t)).cell? ((⟨w.heap.size, 0, none⟩ : Addr).add j) = some u := by
  intro j u hu
  have hadd : (⟨w.heap.size, 0, none⟩ : Addr).add j = ⟨w.heap.size, j, none⟩ := by unfold Addr.add; split <;> simp_all
  rw [hadd, cell_of_row _ w.heap.size _ _ _ (0, 0) (heap_alloc_new w _)]
  simpa using hu
set_option maxHeartbeats 2000000 in
set_option maxRecDepth 100000 in
/-- Three bytes are appended to a row that the call's caller owns. -/
theorem appendNumber_any (B : Nat) (v : Value) (xs : List UInt8) (n : Nat) (w : World) (hB : B ≤ w.heap.size) (hown : w.ownsRow B 5 1 v xs.length (byteCellsOf xs)) (hl : xs.length ≤ 1000000000) (_hn : n ≤ 1000000000) :
    Calls Tryd.prog 33 #[v, .int .i64 n] w fun e w' => ∃ v', e = .returned v' ∧ w'.ownsRow B 5 1 v' (xs ++ three n).length (byteCellsOf (xs ++ three n)) ∧ w.grownBy w' v.ownBlock ∧ (v'.ownBlock = v.ownBlock ∨ v'.ownBlock = some (w.heap.size + 1)) := by
  obtain ⟨i0, hi, hz0, hz1, hz2⟩ := info_parts infoByte
  have HT := Lib.hid (three_cells n)
  go_enter Tryd.func33, Tryd.ntmps33
  go_wp2_with (at_builtin; go_must (refine wpList_append_own_at _ rfl (.tmp 5) (.tmp 14) 33 rfl B 5 i0 (.int .u8 0) 1 1 Tryd.underlying33 hi hz0 hz1 hz2 rfl (by decide) v _ _ rfl (hown.alloc _) ⟨w.heap.size, 0, none⟩ 3 3 [.int .u8 ((n : Int) / 65536 % 256), .int .u8 ((n : Int) / 256 % 256), .int .u8 ((n : Int) % 256)] rfl rfl (new_three _ _ _ _ _) (by intro u hu; simp at hu; rcases hu with rfl | rfl | rfl <;> rfl) (by unfold maxLen; omega) (by omega) (by simp; omega) ?_; intro v3 w3 hown3 hgrow3 hnil3 hat3))
  go_ret
  refine ⟨_, rfl, ?_, (World.grownBy_alloc w _ _).trans hgrow3, by simpa using hat3⟩
  rw [byteCellsOf_app, HT.out, List.length_append, three_len]
  exact hown3
end Go.Proofs.YtgjjmapfdijphaaDoor

/- Natural numbers in memory: slices of words; the contracts of word, isOdd and trimmed. -/
import Derived.Test.YtofpojlnfncpcaaGreatDoorNuCanon
import Derived.Test.YtofpojlnfncpcaaGreatDoorProg
import Derived.WalkKit
import Derived.Deep.LoopGhost
import Derived.Lib.Hide
namespace Go.Proofs.YtofpojlnfncpcaaGreatDoor
open Go.RowKit Go.Lib

/-- A value is a slice whose words are these. -/
def Nats (w : World) (v : Value) (l : List Nat) : Prop :=
  (l = [] ∧ ∃ a cap, v = .slice a 0 cap) ∨ ∃ b off cap, v = .slice (some ⟨b, off, none⟩) l.length cap ∧ l.length ≤ cap ∧ ∀ j, j < l.length → w.cell? ⟨b, off + j, none⟩ = some (.int .u32 ((l.getD j 0 : Nat) : Int))
theorem lt_of_cell {w : World} {b o : Nat} {v : Value} (h : w.cell? ⟨b, o, none⟩ = some v) : b < w.heap.size := by
  rcases Nat.lt_or_ge b w.heap.size with h' | h'
  · exact h'
  · simp [World.cell?, Array.getElem?_eq_none h'] at h
theorem Nats.later {w w' : World} {v : Value} {l : List Nat} (h : Nats w v l) (hb : Below w.heap.size w w') : Nats w' v l := by
  rcases h with h | ⟨b, off, cap, rfl, hc, h⟩
  · exact .inl h
  · exact .inr ⟨b, off, cap, rfl, hc, fun j hj => (hb.cell (p := ⟨b, off + j, none⟩) (lt_of_cell (h j hj))).trans (h j hj)⟩
theorem Nats.nil (w : World) (a : Option Addr) (cap : Nat) : Nats w (.slice a 0 cap) [] := .inl ⟨rfl, a, cap, rfl⟩
/-- A slice's shape. -/
theorem Nats.shape {w : World} {v : Value} {l : List Nat} (h : Nats w v l) : ∃ a cap, v = .slice a l.length cap := by
  rcases h with ⟨rfl, a, cap, rfl⟩ | ⟨b, off, cap, rfl, _, _⟩
  · exact ⟨a, cap, rfl⟩
  · exact ⟨_, cap, rfl⟩
def trimW (l : List Nat) : List Nat := (l.reverse.dropWhile fun w => w == 0).reverse
theorem trimW_snoc (l : List Nat) (x : Nat) : trimW (l ++ [x]) = if x = 0 then trimW l else l ++ [x] := by
  unfold trimW
  rw [List.reverse_append, List.reverse_singleton, List.singleton_append, List.dropWhile_cons]
  by_cases h : x = 0
  · subst h; rfl
  · rw [if_neg (by simpa using h), if_neg h, List.reverse_cons, List.reverse_reverse]
/-- What trimmed leaves: the words of the value. -/
theorem trimW_words (l : List Nat) (h : Small l) : trimW l = wordsOf (val l) := by
  generalize hn : l.length = n
  induction n generalizing l with
  | zero => rw [List.eq_nil_of_length_eq_zero hn]; rfl
  | succ n ih =>
    have hne : l ≠ [] := by intro e; rw [e] at hn; simp at hn
    obtain ⟨t, x, rfl⟩ : ∃ t x, l = t ++ [x] := ⟨l.dropLast, l.getLast hne, (List.dropLast_concat_getLast hne).symm⟩
    rw [trimW_snoc]
    by_cases hx : x = 0
    · subst hx
      rw [if_pos rfl, wordsOf_snoc]
      exact ih t h.left (by simpa using hn)
    · rw [if_neg hx, wordsOf_val _ h (fun w hw => by simp at hw; omega)]
set_option maxHeartbeats 1000000 in
theorem word_neg (v : Value) (l : List Nat) (p : Int) (hp : p < 0) (w : World) (h : Nats w v l) :
    Calls Tryz.prog 112 #[v, .int .i64 p] w fun e w' => e = .returned (.int .u32 0) ∧ w = w' := by
  obtain ⟨a, cap, rfl⟩ := h.shape
  go_enter Tryz.func112, Tryz.ntmps112
  go_wp2_with fail
  go_ret
  exact ⟨rfl, rfl⟩
set_option maxHeartbeats 1000000 in
theorem word_any (v : Value) (l : List Nat) (p : Nat) (hp9 : p < 1000000000) (hl9 : l.length < 1000000000) (w : World) (h : Nats w v l) :
    Calls Tryz.prog 112 #[v, .int .i64 (p : Int)] w fun e w' => e = .returned (.int .u32 ((l.getD p 0 : Nat) : Int)) ∧ w = w' := by
  by_cases hp : p < l.length
  · have hpi : (p : Int) < (l.length : Int) := by omega
    have hp0 : ¬ (p : Int) < 0 := by omega
    rcases h with ⟨rfl, _⟩ | ⟨b, off, cap, rfl, hc, h⟩
    · simp at hp
    · have c0 := h p hp
      clear h
      generalize l.getD p 0 = x at *
      go_enter Tryz.func112, Tryz.ntmps112
      go_wp2_with fail
      go_ret
      exact ⟨rfl, rfl⟩
  · have hpi : ¬ (p : Int) < (l.length : Int) := by omega
    have hp0 : ¬ (p : Int) < 0 := by omega
    have hx : l.getD p 0 = 0 := by rw [List.getD_eq_getElem?_getD, List.getElem?_eq_none (by omega)]; rfl
    rw [hx]
    obtain ⟨a, cap, rfl⟩ := h.shape
    go_enter Tryz.func112, Tryz.ntmps112
    go_wp2_with fail
    go_ret
    exact ⟨rfl, rfl⟩
set_option maxHeartbeats 1000000 in
theorem isOdd_any (v : Value) (l : List Nat) (hs : Small l) (hl9 : l.length < 1000000000) (w : World) (h : Nats w v l) :
    Calls Tryz.prog 93 #[v] w fun e w' => e = .returned (.bool (decide (val l % 2 = 1))) ∧ w = w' := by
  have c := word_any v l 0 (by omega) hl9 w h
  have hx := hs.getD 0
  have hv : val l % 2 = l.getD 0 0 % 2 := by
    rw [val_ht]
    have : l.headD 0 = l.getD 0 0 := by cases l <;> rfl
    omega
  rw [hv]
  clear hv hs
  generalize l.getD 0 0 = x at *
  go_enter Tryz.func93, Tryz.ntmps93
  go_wp2_with fail
  refine c.mono ?_
  rintro e w1 ⟨rfl, rfl⟩
  go_wp2_with fail
  go_ret
  refine ⟨?_, rfl⟩
  show Ending.returned (.bool ((x : Int) % 2 == 1)) = _
  congr 2
  rw [Bool.eq_iff_iff, beq_iff_eq, decide_eq_true_iff]
  omega
/-- The words of a list without those 0 at its end. -/
theorem trimW_le (l : List Nat) : (trimW l).length ≤ l.length := by
  unfold trimW
  rw [List.length_reverse]
  have := (List.dropWhile_sublist (fun w : Nat => w == 0) (l := l.reverse)).length_le
  rwa [List.length_reverse] at this
theorem take_snoc' (l : List Nat) (k : Nat) (hk : k < l.length) : l.take (k + 1) = l.take k ++ [l.getD k 0] := by
  rw [List.take_add_one, List.getD_eq_getElem?_getD, List.getElem?_eq_getElem hk]; rfl
set_option maxHeartbeats 2000000 in
set_option maxRecDepth 100000 in
theorem trimmed_at (a : Option Addr) (cap : Nat) (l : List Nat) (hl9 : l.length < 1000000000) (w : World) (h : Nats w (.slice a l.length cap) l) :
    Calls Tryz.prog 84 #[.slice a l.length cap] w fun e w' => e = .returned (.slice a (trimW l).length cap) ∧ Nats w (.slice a (trimW l).length cap) (trimW l) ∧ w = w' := by
  rcases h with ⟨rfl, _⟩ | ⟨b, off, cap', heq, hc, h⟩
  · go_enter Tryz.func84, Tryz.ntmps84
    go_wp2_with fail
    refine wp_loop_rounds 1 ?_
    rw [rounds_succ]
    go_wp2_with fail
    go_ret
    exact ⟨rfl, Nats.nil w a cap, rfl⟩
  · injection heq with h1 _ h3
    subst h1
    subst h3
    obtain ⟨R, hR⟩ : ∃ R, trimW l = R := ⟨_, rfl⟩
    rw [hR]
    have HR := Lib.hid (show trimW (l.take l.length) = R by rw [List.take_length]; exact hR)
    clear hR
    go_enter Tryz.func84, Tryz.ntmps84
    go_wp2_with fail
    go_loopg [0] l.length (fun g s0 wx => ∃ k : Nat, s0 = .slice (some ⟨b, off, none⟩) k cap ∧ k = g ∧ k ≤ l.length ∧ wx = w ∧ Hid (trimW (l.take k) = R))
    case atStart => exact ⟨l.length, rfl, rfl, Nat.le_refl _, rfl, HR⟩
    case round =>
      clear HR
      obtain ⟨k, rfl, rfl, hk, rfl, HK⟩ := hrel
      by_cases h0 : k = 0
      · subst h0
        have hr : R = [] := HK.out.symm
        subst hr
        go_wp2_with fail
        go_ret
        exact ⟨rfl, Nats.nil wr _ cap, rfl⟩
      · obtain ⟨j, rfl⟩ : ∃ j, k = j + 1 := ⟨k - 1, by omega⟩
        have hjk : (0 : Int) < ((j + 1 : Nat) : Int) := by omega
        have c0 := h j (by omega)
        have hK := HK.out
        rw [take_snoc' l j (by omega), trimW_snoc] at hK
        have hsub : ((j + 1 : Nat) : Int) - 1 = (j : Int) := by omega
        have hjc : j < cap := by omega
        by_cases hx : l.getD j 0 = 0
        · rw [if_pos hx] at hK
          rw [hx] at c0
          have HK2 := Lib.hid hK
          clear HK hK hx h
          go_wp2_with fail
          go_roundg j
          case rel => exact ⟨j, by simp, rfl, by omega, rfl, HK2⟩
          all_goals omega
        · rw [if_neg hx] at hK
          have hxi : ¬ ((l.getD j 0 : Nat) : Int) = 0 := by omega
          have hxb : (((l.getD j 0 : Nat) : Int) == 0) = false := by rw [beq_eq_false_iff_ne]; exact hxi
          have hRl : R.length = j + 1 := by rw [← hK, List.length_append, List.length_take]; simp; omega
          have hN : Nats wr (.slice (some ⟨b, off, none⟩) (j + 1) cap) R := by
            refine .inr ⟨b, off, cap, by rw [hRl], by rw [hRl]; omega, fun i hi => ?_⟩
            have hil : i < j + 1 := by rw [hRl] at hi; omega
            rw [h i (by omega)]
            congr 2
            rw [← hK, ← take_snoc' l j (by omega), List.getD_eq_getElem?_getD, List.getD_eq_getElem?_getD, List.getElem?_take_of_lt hil]
          have HRL := Lib.hid hRl
          clear HK hK h hRl
          generalize l.getD j 0 = x at *
          go_wp2_with fail
          go_ret
          exact ⟨by rw [HRL.out]; rfl, by rw [HRL.out]; exact hN, rfl⟩
theorem trimmed_any (v : Value) (l : List Nat) (hl9 : l.length < 1000000000) (w : World) (h : Nats w v l) :
    Calls Tryz.prog 84 #[v] w fun e w' => ∃ u, e = .returned u ∧ Nats w' u (trimW l) ∧ w = w' := by
  obtain ⟨a, cap, rfl⟩ := h.shape
  refine (trimmed_at a cap l hl9 w h).mono ?_
  rintro e w' ⟨rfl, h1, rfl⟩
  exact ⟨_, rfl, h1, rfl⟩
end Go.Proofs.YtofpojlnfncpcaaGreatDoor

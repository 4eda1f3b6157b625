/- The contract of (*coll.description).add. -/
import Derived.Test.YtgjjmapfdijphaaDoorCoWords
import Derived.Test.YtgjjmapfdijphaaDoorCoList
import Derived.Test.YtgjjmapfdijphaaDoorCoSet
namespace Go.Proofs.YtgjjmapfdijphaaDoor
open Go.RowKit Go.Lib Go.Shelf

theorem blankFn_grows (w : World) : PredGrows Tryd.prog 49 #[] blank w := by
  intro W x hx _
  unfold blank
  show Calls Tryd.prog 49 #[.int .i32 (x : Int)] W _
  by_cases h : x = 32
  · subst h
    go_enter Tryd.func49, Tryd.ntmps49
    go_wp2
    go_ret
    exact ⟨rfl, Below.refl _ _⟩
  · have hn : ¬ (x : Int) = 32 := by omega
    rw [decide_eq_false h]
    go_enter Tryd.func49, Tryd.ntmps49
    go_wp2
    go_ret
    exact ⟨by simp [hn], Below.refl _ _⟩
theorem pre_one (c : UInt8) (l : List UInt8) : Lib.hasPrefix l [c] = decide (l.head? = some c) := by
  unfold Lib.hasPrefix
  cases l with
  | nil => rfl
  | cons a t =>
    rw [Bool.eq_iff_iff, decide_eq_true_iff, List.isPrefixOf_iff_prefix]
    constructor
    · rintro ⟨u, h⟩; cases h; rfl
    · intro h; cases h; exact ⟨t, rfl⟩
theorem map_bytes (F : List ByteArray) : F = (F.map (·.data.toList)).map fun l => (⟨l.toArray⟩ : ByteArray) := by
  rw [List.map_map]
  exact (List.map_id'' (fun s => rfl) F).symm
set_option maxHeartbeats 2000000 in
set_option maxRecDepth 100000 in
theorem add_any (p mb : Nat) (d : Ds) (line : ByteArray) (w w0 : World) (hg : GrC w0) (hb0 : Below w0.heap.size w0 w) (hp0 : w0.heap.size ≤ p ∧ w0.heap.size ≤ mb) (hd : DsAt w p mb d) (hs : line.size ≤ 1048576) (htab : d.tab.length ≤ 5000)
    (hM : d.last.1 ≤ 10000000 ∧ d.last.2.1 ≤ 10000000 ∧ d.last.2.2 ≤ 10000000) :
    Calls Tryd.prog 28 #[.pointer (some ⟨p, 0, none⟩), .string line] w (KeepGives w p mb (addL line.data.toList d)) := by
  have cF := Tryd.strings_FieldsFunc_grows 49 #[] (fun args w => by kernel_rfl) blank line w (by omega) (blankFn_grows w)
  have hF := fields_blank line
  have hwl := words_sum line.data.toList
  have hws := word_short line.data.toList
  rw [← size_eq] at hwl hws
  unfold addL
  generalize wordsL line.data.toList = ws at hF hwl hws ⊢
  generalize goFieldsP blank line = F at cF hF
  have hF2 : F = ws.map fun l => (⟨l.toArray⟩ : ByteArray) := by rw [← hF]; exact map_bytes F
  subst hF2
  clear hF
  rw [List.length_map, List.map_map] at cF
  have cF2 : Calls Tryd.prog 48 #[.string line, .func (.func 49) #[] #[]] w fun e w' => ∃ A, e = .returned (.slice (some ⟨A, 0, none⟩) ws.length ws.length) ∧ (∀ (j : Nat) x, ws[j]? = some x → w'.cell? ⟨A, 0 + j, none⟩ = some (.string ⟨x.toArray⟩)) ∧ Below w.heap.size w w' := by
    refine cF.mono ?_
    rintro e w' ⟨A, rfl, _, hown, hb⟩
    refine ⟨A, rfl, fun j x hj => ?_, hb⟩
    rw [Nat.zero_add, hown.cellAt j (by rw [Nat.mul_one]; exact (List.getElem?_eq_some_iff.1 hj).1), List.getElem?_map, hj]; rfl
  clear cF
  match ws, hwl, hws, cF2 with
  | [], _, _, cF2 =>
    simp only [List.length_nil] at cF2
    go_enter Tryd.func28, Tryd.ntmps28
    go_wp2_with fail
    refine cF2.mono ?_
    rintro e w1 ⟨A, rfl, _, hb⟩
    go_wp2_with fail
    go_ret
    exact ⟨Ch.of_below hb, rfl, hd.below hb⟩
  | x :: r, hwl, hws, cF2 =>
    have hx8 : x.length ≤ 4000000 := by have := hws x (by simp); omega
    have hr8 : ∀ y ∈ r, y.length ≤ 4000000 := fun y hy => by have := hws y (by simp [hy]); omega
    have hxr : ∀ y ∈ x :: r, y.length ≤ 4000000 := fun y hy => by have := hws y hy; omega
    have hrl : r.length ≤ 1048575 := by simp at hwl; omega
    have hr1 : ((r.length : Int) + 1 == 0) = false := by rw [beq_eq_false_iff_ne]; omega
    rw [List.length_cons] at cF2
    have e1 : ((r.length + 1 : Nat) : Int) = (r.length : Int) + 1 := by omega
    clear hwl hws
    have cPre : ∀ W, Calls Tryd.prog 43 #[.string ⟨x.toArray⟩, .string ⟨#[35]⟩] W fun e w' => e = .returned (.bool (decide (x.head? = some 35))) ∧ w' = W := fun W => by
      have h := Tryd.strings_HasPrefix ⟨x.toArray⟩ ⟨#[35]⟩ W
      rw [show Lib.hasPrefix (⟨x.toArray⟩ : ByteArray).data.toList (⟨#[35]⟩ : ByteArray).data.toList = decide (x.head? = some 35) from pre_one 35 x] at h
      exact h
    simp only
    by_cases h35 : x.head? = some 35
    · rw [if_pos h35]
      rw [decide_eq_true h35] at cPre
      go_enter Tryd.func28, Tryd.ntmps28
      go_wp2_with fail
      refine cF2.mono ?_
      rintro e w1 ⟨A, rfl, hc, hb⟩
      have c0 := hc 0 x rfl
      have cP := cPre w1
      have hgW : GrC w1 := hg.later (hb0.trans (hb.mono hb0.size))
      have hdW := hd.below hb
      have hv0 : StrsAt w1 (.slice (some ⟨A, 0, none⟩) (r.length + 1) (r.length + 1)) (x :: r) := ⟨_, _, rfl, fun _ => ⟨A, 0, rfl, hc⟩⟩
      go_wp2_with fail
      refine cP.mono ?_
      rintro e w2 ⟨rfl, rfl⟩
      go_wp2_with fail
      go_ret
      exact ⟨Ch.of_below hb, rfl, hdW⟩
    · rw [if_neg h35]
      rw [decide_eq_false h35] at cPre
      have bS : ∀ l : List UInt8, x ≠ l → ((⟨x.toArray⟩ : ByteArray).toList == l) = false := fun l hl => by rw [ba_beq ⟨x.toArray⟩ l, decide_eq_false_iff_not]; simpa using hl
      by_cases hS : x = strengthW
      · rw [if_pos hS]
        subst hS
        unfold strengthW at cF2 cPre
        go_enter Tryd.func28, Tryd.ntmps28
        go_wp2_with fail
        refine cF2.mono ?_
        rintro e w1 ⟨A, rfl, hc, hb⟩
        have c0 := hc 0 strengthW rfl
        have cP := cPre w1
        have hgW : GrC w1 := hg.later (hb0.trans (hb.mono hb0.size))
        have hdW := hd.below hb
        have hv0 : StrsAt w1 (.slice (some ⟨A, 0, none⟩) (r.length + 1) (r.length + 1)) (strengthW :: r) := ⟨_, _, rfl, fun _ => ⟨A, 0, rfl, hc⟩⟩
        have hvS : StrsAt w1 (.slice (some ⟨A, 1, none⟩) r.length r.length) r := ⟨_, _, rfl, fun _ => ⟨A, 1, rfl, fun j y hj => by have := hc (j + 1) y hj; rw [Nat.zero_add, Nat.add_comm] at this; exact this⟩⟩
        have hvE : r.length = 0 → StrsAt w1 (.slice (some ⟨A, 0, none⟩) 0 0) r := fun h => by obtain rfl := List.length_eq_zero_iff.1 h; exact ⟨_, _, rfl, fun h => absurd rfl h⟩
        clear hc cF2
        go_wp2_with fail
        refine cP.mono ?_
        rintro e w2 ⟨rfl, rfl⟩
        go_wp2_with fail
        all_goals
          refine (setStrength_any p mb d _ r w2 hdW (by first | exact hvS | exact hvE (by rw [List.length_eq_zero_iff]; assumption)) (by omega)).mono ?_
          intro e w3 hK
          obtain ⟨z, rfl⟩ := hK.val
          go_wp2_with fail
          go_ret
          exact hK.behind hb
      · rw [if_neg hS]
        have bS1 : ((⟨x.toArray⟩ : ByteArray).toList == [115, 116, 114, 101, 110, 103, 116, 104]) = false := bS _ hS
        by_cases hI : x = ignoreW
        · rw [if_pos hI]
          clear bS bS1
          subst hI
          unfold ignoreW at cF2 cPre
          go_enter Tryd.func28, Tryd.ntmps28
          go_wp2_with fail
          refine cF2.mono ?_
          rintro e w1 ⟨A, rfl, hc, hb⟩
          have c0 := hc 0 ignoreW rfl
          have cP := cPre w1
          have hgW : GrC w1 := hg.later (hb0.trans (hb.mono hb0.size))
          have hdW := hd.below hb
          have hv0 : StrsAt w1 (.slice (some ⟨A, 0, none⟩) (r.length + 1) (r.length + 1)) (ignoreW :: r) := ⟨_, _, rfl, fun _ => ⟨A, 0, rfl, hc⟩⟩
          have hvS : StrsAt w1 (.slice (some ⟨A, 1, none⟩) r.length r.length) r := ⟨_, _, rfl, fun _ => ⟨A, 1, rfl, fun j y hj => by have := hc (j + 1) y hj; rw [Nat.zero_add, Nat.add_comm] at this; exact this⟩⟩
          have hvE : r.length = 0 → StrsAt w1 (.slice (some ⟨A, 0, none⟩) 0 0) r := fun h => by obtain rfl := List.length_eq_zero_iff.1 h; exact ⟨_, _, rfl, fun h => absurd rfl h⟩
          clear hc cF2
          go_wp2_with fail
          refine cP.mono ?_
          rintro e w2 ⟨rfl, rfl⟩
          go_wp2_with fail
          all_goals
            refine (ignore_any p mb d _ r w2 hgW hdW (by first | exact hvS | exact hvE (by rw [List.length_eq_zero_iff]; assumption)) (by omega) hr8 htab).mono ?_
            intro e w3 hK
            obtain ⟨z, rfl⟩ := hK.val
            go_wp2_with fail
            go_ret
            exact hK.behind hb
        · rw [if_neg hI]
          have bS2 : ((⟨x.toArray⟩ : ByteArray).toList == [105, 103, 110, 111, 114, 101]) = false := bS _ hI
          clear bS
          obtain ⟨sx, hsx⟩ : ∃ sx : ByteArray, (⟨x.toArray⟩ : ByteArray) = sx := ⟨_, rfl⟩
          rw [hsx] at bS1 bS2
          simp only [hsx] at cPre
          go_enter Tryd.func28, Tryd.ntmps28
          go_wp2_with fail
          refine cF2.mono ?_
          rintro e w1 ⟨A, rfl, hc, hb⟩
          have c0 := hc 0 x rfl
          rw [hsx] at c0
          have cP := cPre w1
          have hgW : GrC w1 := hg.later (hb0.trans (hb.mono hb0.size))
          have hdW := hd.below hb
          have hv0 : StrsAt w1 (.slice (some ⟨A, 0, none⟩) (r.length + 1) (r.length + 1)) (x :: r) := ⟨_, _, rfl, fun _ => ⟨A, 0, rfl, hc⟩⟩
          have hvS : StrsAt w1 (.slice (some ⟨A, 1, none⟩) r.length r.length) r := ⟨_, _, rfl, fun _ => ⟨A, 1, rfl, fun j y hj => by have := hc (j + 1) y hj; rw [Nat.zero_add, Nat.add_comm] at this; exact this⟩⟩
          have hvE : r.length = 0 → StrsAt w1 (.slice (some ⟨A, 0, none⟩) 0 0) r := fun h => by obtain rfl := List.length_eq_zero_iff.1 h; exact ⟨_, _, rfl, fun h => absurd rfl h⟩
          clear hc cF2 hsx
          go_wp2_with fail
          refine cP.mono ?_
          rintro e w2 ⟨rfl, rfl⟩
          go_wp2_with fail
          all_goals
            refine (list_any p mb d _ (x :: r) w2 w0 hg (hb0.trans (hb.mono hb0.size)) hp0 hdW hv0 (by simp) (by simp; omega) hxr htab hM).mono ?_
            intro e w3 hK
            obtain ⟨z, rfl⟩ := hK.val
            go_wp2_with fail
            go_ret
            exact hK.behind hb
end Go.Proofs.YtgjjmapfdijphaaDoor

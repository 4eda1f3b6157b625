/- The contracts of the specification's IsName and IsSpace. -/
import Derived.Test.YtpdgajjcapdjdaaDoorCharsRefPoints
import Derived.Test.YtpdgajjcapdjdaaDoorCharsPlain6
namespace Go.Proofs.YtpdgajjcapdjdaaDoor
open Go.RowKit Go.Lib

/-- The specification's machine for names: so many colons; a part is to begin. -/
def runN : Nat → Bool → List Nat → Bool
  | k, f, [] => !f && decide (k ≤ 1)
  | k, f, c :: t => if c = 58 ∧ f = false then runN (k + 1) true t else if (f && letC c || !f && nmC c) = true then runN k false t else false
theorem runN_cons (k : Nat) (f : Bool) (c : Nat) (t : List Nat) : runN k f (c :: t) = if c = 58 ∧ f = false then runN (k + 1) true t else if (f && letC c || !f && nmC c) = true then runN k false t else false := rfl
theorem splitC_cons (c : Nat) (t : List Nat) : splitC (c :: t) = if c = 58 then ([], some t) else (c :: (splitC t).1, (splitC t).2) := rfl
theorem run_ge2 (p : List Nat) : ∀ k f, 2 ≤ k → runN k f p = false := by
  induction p with
  | nil => intro k f h; unfold runN; rw [decide_eq_false (by omega), Bool.and_false]
  | cons c t ih =>
    intro k f h
    unfold runN
    split
    · exact ih _ _ (by omega)
    · split
      · exact ih _ _ h
      · rfl
theorem run_one (p : List Nat) : runN 1 false p = p.all nmC := by
  induction p with
  | nil => rfl
  | cons c t ih =>
    unfold runN
    rw [List.all_cons]
    by_cases hc : c = 58
    · subst hc
      rw [if_pos ⟨rfl, rfl⟩, run_ge2 _ _ _ (by omega), nm58]; rfl
    · rw [if_neg (by simp [hc]), ih]
      cases nmC c <;> simp
theorem run_first (k : Nat) (p : List Nat) : runN k true p = (match p with | [] => false | c :: t => letC c && runN k false t) := by
  cases p with
  | nil => rfl
  | cons c t =>
    rw [runN_cons, if_neg (by simp)]
    cases hl : letC c <;> simp [hl]
theorem run_part (p : List Nat) : runN 1 true p = partC p := by
  rw [run_first]
  cases p with
  | nil => rfl
  | cons c t => simp only [run_one]; rfl
theorem run_zero (p : List Nat) : runN 0 false p = ((splitC p).1.all nmC && tailC (splitC p).2) := by
  induction p with
  | nil => rfl
  | cons c t ih =>
    rw [runN_cons, splitC_cons]
    by_cases hc : c = 58
    · subst hc
      rw [if_pos ⟨rfl, rfl⟩, run_part]; simp [tailC]
    · rw [if_neg (by simp [hc]), ih, if_neg hc]
      simp only [List.all_cons]
      cases nmC c <;> simp
theorem nameC_run (p : List Nat) : nameC p = (decide (1 ≤ p.length ∧ p.length ≤ 100) && runN 0 true p) := by
  unfold nameC
  rw [run_first]
  cases p with
  | nil => rfl
  | cons c t =>
    simp only [run_zero]
    rw [show decide (1 ≤ (c :: t).length ∧ (c :: t).length ≤ 100) = decide ((c :: t).length ≤ 100) by rw [decide_eq_decide]; simp]
    congr 1
    rw [splitC_cons]
    by_cases hc : c = 58
    · subst hc; simp [partC, show letC 58 = false from by decide]
    · rw [if_neg hc]; simp [partC, Bool.and_assoc]

theorem own_some {w : World} {B n : Nat} {v : Value} {p : List Nat} (h : w.ownsRow B 3 1 v n (intCells p)) (hn : n = p.length) (h1 : 1 ≤ n) : ∃ g cap, v = .slice (some ⟨g, 0, none⟩) n cap ∧ ∀ (i c : Nat), p[i]? = some c → w.cell? ⟨g, i, none⟩ = some (.int .i64 (c : Int)) := by
  subst hn
  rcases h.2 with ⟨_, h0⟩ | ⟨g, cap, cur, rfl, _⟩
  · omega
  · refine ⟨g, cap, rfl, fun i c hi => ?_⟩
    have hl : i < p.length := (List.getElem?_eq_some_iff.1 hi).1
    rw [h.cellAt i (by omega)]
    unfold intCells
    rw [List.getElem?_map, hi]; rfl

set_option maxHeartbeats 2000000 in
set_option maxRecDepth 100000 in
theorem refName_main (s : ByteArray) (p : List Nat) (w : World) (hs : s.size ≤ 17592186044416) (h : text s.data.toList = true) (hp : codes s.data.toList = p) (h1 : 1 ≤ p.length) (h2 : p.length ≤ 100) :
    Calls Tryd.prog 17 #[.string s] w fun e w' => e = .returned (.bool (runN 0 true p)) ∧ Below w.heap.size w w' := by
  have cP := refPoints_yes s w hs h
  rw [hp] at cP
  obtain ⟨ANS, hANS⟩ : ∃ ANS, runN 0 true p = ANS := ⟨_, rfl⟩
  have HA := Lib.hid (show runN 0 true (p.drop 0) = ANS by rw [List.drop_zero]; exact hANS)
  rw [hANS]
  clear hANS h hp
  go_enter Tryd.func17, Tryd.ntmps17
  go_wp2_with fail
  refine cP.mono ?_
  rintro e w1 ⟨v, rfl, hown, hb⟩
  obtain ⟨g0, cap, rfl, hcell⟩ := own_some hown rfl h1
  clear hown cP
  have HC := Lib.hid hcell
  clear hcell
  have g1 : ¬ ((p.length : Int) < 1) := by omega
  have g2 : ¬ ((100 : Int) < (p.length : Int)) := by omega
  go_wp2
  go_loopg [5, 6, 7] p.length (fun g s5 s6 s7 wx => wx = w1 ∧ ∃ (i k : Nat) (f : Bool), s5 = .int .i64 k ∧ s6 = .bool f ∧ s7 = .int .i64 i ∧ i + g = p.length ∧ k ≤ i ∧ Hid (runN k f (p.drop i) = ANS))
  case atStart => exact ⟨rfl, 0, 0, true, rfl, rfl, rfl, by omega, Nat.le_refl _, HA⟩
  case round =>
    clear HA
    obtain ⟨rfl, i, k, f, rfl, rfl, rfl, hig, hki, HA⟩ := hrel
    by_cases hlt : i < p.length
    · obtain ⟨g, rfl⟩ : ∃ g, gk = g + 1 := ⟨gk - 1, by omega⟩
      have hpi : p[i]? = some p[i] := List.getElem?_eq_getElem hlt
      have hc := HC.out i _ hpi
      have ha := HA.out
      rw [List.drop_eq_getElem_cons hlt] at ha
      generalize p[i] = c at hc ha
      unfold runN at ha
      clear hpi HA
      have cL := fun W => refLetter_any (c : Int) W
      have cM := fun W => refInName_any (c : Int) W
      rw [show letZ (c : Int) = letC c from rfl] at cL
      rw [show (letZ (c : Int) || latZ (c : Int)) = nmC c from rfl] at cM
      cases f
      · by_cases h58 : c = 58
        · subst h58
          rw [if_pos ⟨rfl, rfl⟩] at ha
          have Ha := Lib.hid ha
          clear ha cL cM
          go_wp2
          go_roundg g
          case measure => omega
          case rel => exact ⟨rfl, i + 1, k + 1, true, by go_num, rfl, by go_num, by omega, by omega, Ha⟩
        · have hb58 : ((c : Int) == 58) = false := by rw [beq_eq_false_iff_ne]; omega
          rw [if_neg (by simp [h58])] at ha
          cases hn : nmC c <;> rw [hn] at cM ha
          · have hA : ANS = false := by rw [← ha]; rfl
            subst hA
            clear ha cL h58
            go_wp2_with (go_at_call 42; refine (cM _).mono ?_; rintro e w' ⟨rfl, rfl⟩)
            go_ret
            exact ⟨rfl, hb⟩
          · have Ha := Lib.hid (show runN k false (p.drop (i + 1)) = ANS from ha)
            clear ha cL h58
            go_wp2_with (go_at_call 42; refine (cM _).mono ?_; rintro e w' ⟨rfl, rfl⟩)
            go_roundg g
            case measure => omega
            case rel => exact ⟨rfl, i + 1, k, false, rfl, rfl, by go_num, by omega, by omega, Ha⟩
      · rw [if_neg (by simp)] at ha
        cases hn : letC c <;> rw [hn] at cL ha
        · have hA : ANS = false := by rw [← ha]; rfl
          subst hA
          clear ha cM
          by_cases h58 : ((c : Int) == 58) = true
          all_goals
            go_wp2_with (go_at_call 41; refine (cL _).mono ?_; rintro e w' ⟨rfl, rfl⟩)
            go_ret
            exact ⟨rfl, hb⟩
        · have Ha := Lib.hid (show runN k false (p.drop (i + 1)) = ANS from ha)
          have hb58 : ((c : Int) == 58) = false := by
            rw [beq_eq_false_iff_ne]
            intro e
            have : c = 58 := by omega
            rw [this] at hn
            exact absurd hn (by decide)
          clear ha cM
          go_wp2_with (go_at_call 41; refine (cL _).mono ?_; rintro e w' ⟨rfl, rfl⟩)
          go_roundg g
          case measure => omega
          case rel => exact ⟨rfl, i + 1, k, false, rfl, rfl, by go_num, by omega, by omega, Ha⟩
    · obtain rfl : gk = 0 := by omega
      have hie : i = p.length := by omega
      have ha := HA.out
      rw [List.drop_eq_nil_of_le (by omega)] at ha
      unfold runN at ha
      have Ha := Lib.hid ha
      have hz : ¬ ((i : Int) < (p.length : Int)) := by omega
      clear ha HA hie
      cases f
      · by_cases hk : k ≤ 1
        · have hk' : (k : Int) ≤ 1 := by omega
          go_wp2
          go_ret
          exact ⟨ret_bool (by rw [← Ha.out]; simp [hk]), hb⟩
        · have hk' : ¬ (k : Int) ≤ 1 := by omega
          go_wp2
          go_ret
          exact ⟨ret_bool (by rw [← Ha.out]; simp [hk]), hb⟩
      · go_wp2
        go_ret
        exact ⟨ret_bool (by rw [← Ha.out]; simp), hb⟩
set_option maxHeartbeats 2000000 in
theorem refName_is (s : ByteArray) (b : Bool) (hb : nameL s.data.toList = b) (w : World) (hs : s.size ≤ 17592186044416) :
    Calls Tryd.prog 17 #[.string s] w fun e w' => e = .returned (.bool b) ∧ Below w.heap.size w w' := by
  cases ht : text s.data.toList
  · have hf : b = false := by rw [← hb]; unfold nameL; rw [ht]; rfl
    subst hf
    have cP := refPoints_no s w hs ht
    clear hb ht
    go_enter Tryd.func17, Tryd.ntmps17
    go_wp2_with fail
    refine cP.mono ?_
    rintro e w1 ⟨rfl, hb⟩
    go_wp2
    go_ret
    exact ⟨rfl, hb⟩
  · rw [nameL_codes _ ht, nameC_run] at hb
    by_cases hl : 1 ≤ (codes s.data.toList).length ∧ (codes s.data.toList).length ≤ 100
    · rw [decide_eq_true hl, Bool.true_and] at hb
      rw [← hb]
      exact refName_main s _ w hs ht rfl hl.1 hl.2
    · rw [decide_eq_false hl, Bool.false_and] at hb
      subst hb
      have cP := refPoints_yes s w hs ht
      generalize codes s.data.toList = p at cP hl
      clear ht
      by_cases h0 : p.length < 1
      · have g1 : (p.length : Int) < 1 := by omega
        go_enter Tryd.func17, Tryd.ntmps17
        go_wp2_with fail
        refine cP.mono ?_
        rintro e w1 ⟨v, rfl, hown, hb⟩
        obtain ⟨a, cap, rfl⟩ := own_slice hown
        clear hl hown
        go_wp2
        go_ret
        exact ⟨rfl, hb⟩
      · have g1 : ¬ (p.length : Int) < 1 := by omega
        have g2 : (100 : Int) < (p.length : Int) := by omega
        go_enter Tryd.func17, Tryd.ntmps17
        go_wp2_with fail
        refine cP.mono ?_
        rintro e w1 ⟨v, rfl, hown, hb⟩
        obtain ⟨a, cap, rfl⟩ := own_slice hown
        clear hl hown
        go_wp2
        go_ret
        exact ⟨rfl, hb⟩
set_option maxHeartbeats 2000000 in
set_option maxRecDepth 100000 in
theorem refSpaceS_is (s : ByteArray) (b : Bool) (hb : spaceL s.data.toList = b) (w : World) (_hs : s.size ≤ 17592186044416) :
    Calls Tryd.prog 19 #[.string s] w fun e w' => e = .returned (.bool b) ∧ Below w.heap.size w w' := by
  have HA := Lib.hid (show (s.data.toList.drop 0).all whiteB = b by rw [List.drop_zero]; exact hb)
  clear hb
  go_enter Tryd.func19, Tryd.ntmps19
  go_wp2
  go_loopg [3] s.size (fun g s3 wx => wx = w ∧ ∃ i : Nat, s3 = .int .i64 i ∧ i + g = s.size ∧ Hid ((s.data.toList.drop i).all whiteB = b))
  case atStart => exact ⟨rfl, 0, rfl, by omega, HA⟩
  case round =>
    clear HA
    obtain ⟨rfl, i, rfl, hig, HA⟩ := hrel
    by_cases hlt : i < s.size
    · obtain ⟨g, rfl⟩ : ∃ g, gk = g + 1 := ⟨gk - 1, by omega⟩
      have ha := HA.out
      rw [drop_at s i hlt, List.all_cons] at ha
      have cS := fun W => refSpace_any s[i] W
      cases hw : whiteB s[i] <;> rw [hw] at cS ha
      · have hA : b = false := by rw [← ha]; rfl
        subst hA
        clear ha HA hw
        go_wp2_with (go_at_call 46; refine (cS _).mono ?_; rintro e w' ⟨rfl, rfl⟩)
        go_ret
        exact ⟨rfl, Below.refl _ _⟩
      · have Ha := Lib.hid (show (s.data.toList.drop (i + 1)).all whiteB = b from ha)
        clear ha HA hw
        go_wp2_with (go_at_call 46; refine (cS _).mono ?_; rintro e w' ⟨rfl, rfl⟩)
        go_roundg g
        case measure => omega
        case rel => exact ⟨rfl, i + 1, by go_num, by omega, Ha⟩
    · have ha := HA.out
      rw [List.drop_eq_nil_of_le (by rw [← size_eq]; omega)] at ha
      have hA : b = true := ha.symm
      subst hA
      have hz : ¬ ((i : Int) < (s.size : Int)) := by omega
      clear ha HA
      go_wp2
      go_ret
      exact ⟨rfl, Below.refl _ _⟩
end Go.Proofs.YtpdgajjcapdjdaaDoor

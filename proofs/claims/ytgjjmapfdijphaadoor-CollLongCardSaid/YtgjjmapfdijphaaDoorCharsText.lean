/- The contract of chars.IsText, out of that of utf8.ValidString. -/
import Derived.Test.YtgjjmapfdijphaaDoorCharsPart
namespace Go.Proofs.YtgjjmapfdijphaaDoor
open Go.RowKit Go.Lib

theorem chr_le (R : Nat) : chrZ (R : Int) = chr R := chrZ_nat R

set_option maxHeartbeats 1000000 in
set_option maxRecDepth 100000 in
theorem isText_of (s : ByteArray) (w : World)
    (cV : Calls Tryd.prog 34 #[.string s] w fun e w' => e = .returned (.bool (validD s.data.toList)) ∧ Below w.heap.size w w') :
    Calls Tryd.prog 16 #[.string s] w fun e w' => e = .returned (.bool (text s.data.toList)) ∧ Below w.heap.size w w' := by
  rw [text_split]
  obtain ⟨ANS, hANS⟩ : ∃ ANS, ((steps s.data.toList).all fun x => chr x.1) = ANS := ⟨_, rfl⟩
  have HANS0 := Lib.hid (show ((steps (s.data.toList.drop 0)).all fun x => chr x.1) = ANS by rw [List.drop_zero]; exact hANS)
  rw [hANS]
  clear hANS
  cases hv : validD s.data.toList <;> rw [hv] at cV <;> clear hv
  · go_enter Tryd.func16, Tryd.ntmps16
    go_wp2_with (go_at_call 34; refine cV.mono ?_; rintro e w' ⟨rfl, hb⟩)
    go_ret
    exact ⟨rfl, hb⟩
  · go_enter Tryd.func16, Tryd.ntmps16
    go_wp2_with (go_at_call 34; refine cV.mono ?_; rintro e w1 ⟨rfl, hb⟩)
    go_loopg [] s.size (fun g wx => ∃ pos : Nat, wx = w1.iter s pos ∧ ((steps (s.data.toList.drop pos)).all fun x => chr x.1) = ANS ∧ s.size ≤ pos + g)
    case atStart => exact ⟨0, rfl, HANS0.out, by omega⟩
    case round =>
      clear HANS0 cV
      obtain ⟨pos, rfl, hp, hg⟩ := hrel
      have hbx : ∀ q, Below w.heap.size w (w1.iter s q) := fun q => hb.trans ((iter_below w1 s q).mono hb.size)
      by_cases hlt : pos < s.size
      · obtain ⟨g, rfl⟩ : ∃ g, gk = g + 1 := ⟨gk - 1, by omega⟩
        have hnx := fun ty => run_next_any (P := Tryd.prog) w1 s pos ty hlt
        have hw := width_pos s pos
        rw [steps_at s pos hlt, List.all_cons] at hp
        obtain ⟨R, hR⟩ : ∃ R, (Utf8.decode s pos).1 = R := ⟨_, rfl⟩
        obtain ⟨K, hK⟩ : ∃ K, (Utf8.decode s pos).2 = K := ⟨_, rfl⟩
        rw [hR, hK] at hnx hp
        rw [hK] at hw
        clear hR hK
        have c1 : ∀ W, Calls Tryd.prog _ _ W _ := fun W => isChar_any (R : Int) W
        rw [chrZ_nat] at c1
        cases h1 : chr R <;> rw [h1] at c1 hp
        · have hA : ANS = false := by rw [← hp]; rfl
          subst hA
          clear hp
          go_wp2_with (go_at_call 35; refine (c1 _).mono ?_; rintro e w' ⟨rfl, rfl⟩)
          go_ret
          exact ⟨rfl, hbx _⟩
        · rw [Bool.true_and] at hp
          have Hp := Lib.hid hp
          clear hp
          go_wp2_with (go_at_call 35; refine (c1 _).mono ?_; rintro e w' ⟨rfl, rfl⟩)
          go_roundg g
          case measure => omega
          case rel => exact ⟨pos + K, rfl, Hp.out, by omega⟩
      · have hnx := fun ty => run_next_end (P := Tryd.prog) w1 s pos ty hlt
        rw [steps_end s pos hlt] at hp
        have hA : ANS = true := hp.symm
        subst hA
        clear hp
        go_wp2
        go_ret
        exact ⟨rfl, hbx _⟩
end Go.Proofs.YtgjjmapfdijphaaDoor

/- Dates: the contract of fits. -/
import Derived.Test.YtgmnjghbafbopaaGreatDoorMTiA
import Derived.Test.YtgmnjghbafbopaaGreatDoorMNuB
import Derived.Lib.AppendZeros
import Derived.Deep.LoopGhost
import Derived.BigQuiet
import Derived.Deep.QuietTactic
namespace Go.Proofs.YtgmnjghbafbopaaGreatDoor
open Go.RowKit Go.Lib

theorem getD_byte (s : ByteArray) (k : Nat) (h : k < s.size) : s.data.toList.getD k 0 = s[k] := by
  rw [List.getD_eq_getElem?_getD, List.getElem?_eq_getElem (by rw [Array.length_toList]; exact h)]
  rfl
theorem fitB_nat (c f : UInt8) : fitB c f = (decide (c.toNat = f.toNat) || (decide (f.toNat = 48) && decide (48 ≤ c.toNat ∧ c.toNat ≤ 57))) := by
  unfold fitB isDg
  rw [show (c == f) = decide (c.toNat = f.toNat) from by
    by_cases h : c = f
    · subst h; simp
    · rw [beq_eq_false_iff_ne.2 h, decide_eq_false (fun e => h (UInt8.toNat.inj e))],
    show (f == 48) = decide (f.toNat = 48) from by
    by_cases h : f = 48
    · subst h; rfl
    · exact (beq_eq_false_iff_ne.2 h).trans (decide_eq_false (fun e => h (UInt8.toNat.inj e))).symm]
theorem fitB_same {c f : UInt8} (h : c.toNat = f.toNat) : fitB c f = true := by rw [fitB_nat, decide_eq_true h]; rfl
theorem fitB_dg {c f : UInt8} (h : f.toNat = 48) (h1 : 48 ≤ c.toNat) (h2 : c.toNat ≤ 57) : fitB c f = true := by rw [fitB_nat, decide_eq_true h, decide_eq_true (And.intro h1 h2)]; simp
theorem fitB_no {c f : UInt8} (h : c.toNat ≠ f.toNat) (h1 : f.toNat ≠ 48 ∨ c.toNat < 48 ∨ 57 < c.toNat) : fitB c f = false := by
  rw [fitB_nat, decide_eq_false h, Bool.false_or]
  rcases h1 with h1 | h1
  · rw [decide_eq_false h1]; rfl
  · rw [decide_eq_false (show ¬ (48 ≤ c.toNat ∧ c.toNat ≤ 57) by omega), Bool.and_false]
set_option maxRecDepth 100000 in
set_option maxHeartbeats 4000000 in
theorem fits_ti (s f : ByteArray) (hf : f.size ≤ 1000000) (b : Bool) (hv : fitsL s.data.toList f.data.toList = b) (w : World) :
    Calls Tryz.prog 151 #[.string s, .string f] w fun e w' => e = .returned (.bool b) ∧ Below w.heap.size w w' := by
  have sl : s.data.toList.length = s.size := by rw [Array.length_toList]; rfl
  have fl : f.data.toList.length = f.size := by rw [Array.length_toList]; rfl
  by_cases hl : s.size = f.size
  · have hlb : ((s.size : Int) != (f.size : Int)) = false := by rw [hl]; simp
    have HV := Lib.hid hv
    have HL := Lib.hid hl
    obtain ⟨L, hL⟩ : ∃ L, s.size = L := ⟨_, rfl⟩
    have hfL : f.size = L := by rw [← hl]; exact hL
    have hL9 : L ≤ 1000000 := by omega
    rw [hL, hfL] at hlb
    have HS := Lib.hid (And.intro hL hfL)
    have HLL := Lib.hid (And.intro sl fl)
    clear hv hl hf sl fl
    go_enter Tryz.func151, Tryz.ntmps151
    go_wp2_with fail
    go_loopg [14] (L) (fun g s14 wx => ∃ k : Nat, s14 = .int .i64 k ∧ k + g = L ∧ Below w.heap.size w wx ∧ Hid (∀ j, j < k → fitB (s.data.toList.getD j 0) (f.data.toList.getD j 0) = true))
    case atStart => exact ⟨0, rfl, by omega, Below.refl _ _, Lib.hid (fun j h => by omega)⟩
    case round =>
      obtain ⟨k, rfl, hkg, hbx, HK⟩ := hrel
      by_cases hlt : k < L
      · obtain ⟨g, rfl⟩ : ∃ g, gk = g + 1 := ⟨gk - 1, by omega⟩
        have hil : (k : Int) < (L : Int) := by omega
        have hks : k < s.size := by rw [HS.out.1]; exact hlt
        have hkf : k < f.size := by rw [HS.out.2]; exact hlt
        have e1 := getD_byte s k hks
        have e2 := getD_byte f k hkf
        have hN : fitB s[k] f[k] = true → Hid (∀ j, j < k + 1 → fitB (s.data.toList.getD j 0) (f.data.toList.getD j 0) = true) := fun h => Lib.hid (fun j hj => by
          by_cases e : j = k
          · rw [e, e1, e2]; exact h
          · exact HK.out j (by omega))
        have hF : fitB s[k] f[k] = false → Hid (b = false) := fun h => Lib.hid (by
          rw [← HV.out]
          exact fits_bad k (by rw [HLL.out.1]; exact hks) (by rw [HLL.out.2]; exact hkf) (by rw [e1, e2]; exact h))
        obtain ⟨d, hd⟩ : ∃ d, s[k].toNat = d := ⟨_, rfl⟩
        obtain ⟨m, hm⟩ : ∃ m, f[k].toNat = m := ⟨_, rfl⟩
        have fsame := fun h : d = m => hN (fitB_same (by rw [hd, hm]; exact h))
        have fdg := fun (h : m = 48) (h1 : 48 ≤ d) (h2 : d ≤ 57) => hN (fitB_dg (by rw [hm]; exact h) (by rw [hd]; exact h1) (by rw [hd]; exact h2))
        have fno := fun (h : d ≠ m) (h1 : m ≠ 48 ∨ d < 48 ∨ 57 < d) => hF (fitB_no (by rw [hd, hm]; exact h) (by rw [hd, hm]; exact h1))
        have hd9 : d < 256 := by rw [← hd]; exact UInt8.toNat_lt _
        have hm9 : m < 256 := by rw [← hm]; exact UInt8.toNat_lt _
        clear e1 e2 hN hF HK
        by_cases hdm : d = m
        · have HN := fsame hdm
          subst hdm
          have n1 : ((d : Int) != (d : Int)) = false := by simp
          clear fsame fdg fno
          by_cases q1 : 48 ≤ d
          · have q1z : (48 : Int) ≤ (d : Int) := by omega
            by_cases q2 : d ≤ 57
            · have q2z : (d : Int) ≤ 57 := by omega
              go_wp2_with fail
              go_quiet (fail)
              have hbq := below_drewN hbx nq
              obtain ⟨W2, hW2⟩ : ∃ W2, wr.drewN nq = W2 := ⟨_, rfl⟩
              rw [hW2] at hbq ⊢
              go_wp2_with fail
              go_roundg g
              case rel => exact ⟨k + 1, by congr 1, by omega, hbq, HN⟩
              all_goals omega
            · have q2z : ¬ (d : Int) ≤ 57 := by omega
              go_wp2_with fail
              go_quiet (fail)
              have hbq := below_drewN hbx nq
              obtain ⟨W2, hW2⟩ : ∃ W2, wr.drewN nq = W2 := ⟨_, rfl⟩
              rw [hW2] at hbq ⊢
              go_wp2_with fail
              go_roundg g
              case rel => exact ⟨k + 1, by congr 1, by omega, hbq, HN⟩
              all_goals omega
          · have q1z : ¬ (48 : Int) ≤ (d : Int) := by omega
            go_wp2_with fail
            go_quiet (fail)
            have hbq := below_drewN hbx nq
            obtain ⟨W2, hW2⟩ : ∃ W2, wr.drewN nq = W2 := ⟨_, rfl⟩
            rw [hW2] at hbq ⊢
            go_wp2_with fail
            go_roundg g
            case rel => exact ⟨k + 1, by congr 1, by omega, hbq, HN⟩
            all_goals omega
        · have n1 : ((d : Int) != (m : Int)) = true := by rw [bne_iff_ne]; omega
          have n1z : ((d : Int) == (m : Int)) = false := beq_eq_false_iff_ne.2 (by omega)
          clear fsame
          by_cases h48 : m = 48
          · subst h48
            have n1' : ((d : Int) != 48) = true := by rw [bne_iff_ne]; omega
            have n1z' : ((d : Int) == 48) = false := beq_eq_false_iff_ne.2 (by omega)
            by_cases q1 : 48 ≤ d
            · have q1z : (48 : Int) ≤ (d : Int) := by omega
              by_cases q2 : d ≤ 57
              · have q2z : (d : Int) ≤ 57 := by omega
                have HN := fdg rfl q1 q2
                clear fdg fno
                go_wp2_with fail
                go_quiet (fail)
                have hbq := below_drewN hbx nq
                obtain ⟨W2, hW2⟩ : ∃ W2, wr.drewN nq = W2 := ⟨_, rfl⟩
                rw [hW2] at hbq ⊢
                go_wp2_with fail
                go_roundg g
                case rel => exact ⟨k + 1, by congr 1, by omega, hbq, HN⟩
                all_goals omega
              · have q2z : ¬ (d : Int) ≤ 57 := by omega
                have HB := fno hdm (by omega)
                clear fdg fno
                go_wp2_with fail
                go_quiet (fail)
                have hbq := below_drewN hbx nq
                obtain ⟨W2, hW2⟩ : ∃ W2, wr.drewN nq = W2 := ⟨_, rfl⟩
                rw [hW2] at hbq ⊢
                have hb := HB.out
                subst hb
                go_wp2_with fail
                go_ret
                exact ⟨rfl, hbq⟩
            · have q1z : ¬ (48 : Int) ≤ (d : Int) := by omega
              have HB := fno hdm (by omega)
              clear fdg fno
              go_wp2_with fail
              go_quiet (fail)
              have hbq := below_drewN hbx nq
              obtain ⟨W2, hW2⟩ : ∃ W2, wr.drewN nq = W2 := ⟨_, rfl⟩
              rw [hW2] at hbq ⊢
              have hb := HB.out
              subst hb
              go_wp2_with fail
              go_ret
              exact ⟨rfl, hbq⟩
          · have n2 : ((m : Int) != 48) = true := by rw [bne_iff_ne]; omega
            have n2z : ((m : Int) == 48) = false := beq_eq_false_iff_ne.2 (by omega)
            have HB := fno hdm (.inl h48)
            clear fdg fno
            by_cases q1 : 48 ≤ d
            · have q1z : (48 : Int) ≤ (d : Int) := by omega
              by_cases q2 : d ≤ 57
              · have q2z : (d : Int) ≤ 57 := by omega
                go_wp2_with fail
                go_quiet (fail)
                have hbq := below_drewN hbx nq
                obtain ⟨W2, hW2⟩ : ∃ W2, wr.drewN nq = W2 := ⟨_, rfl⟩
                rw [hW2] at hbq ⊢
                have hb := HB.out
                subst hb
                go_wp2_with fail
                go_ret
                exact ⟨rfl, hbq⟩
              · have q2z : ¬ (d : Int) ≤ 57 := by omega
                go_wp2_with fail
                go_quiet (fail)
                have hbq := below_drewN hbx nq
                obtain ⟨W2, hW2⟩ : ∃ W2, wr.drewN nq = W2 := ⟨_, rfl⟩
                rw [hW2] at hbq ⊢
                have hb := HB.out
                subst hb
                go_wp2_with fail
                go_ret
                exact ⟨rfl, hbq⟩
            · have q1z : ¬ (48 : Int) ≤ (d : Int) := by omega
              go_wp2_with fail
              go_quiet (fail)
              have hbq := below_drewN hbx nq
              obtain ⟨W2, hW2⟩ : ∃ W2, wr.drewN nq = W2 := ⟨_, rfl⟩
              rw [hW2] at hbq ⊢
              have hb := HB.out
              subst hb
              go_wp2_with fail
              go_ret
              exact ⟨rfl, hbq⟩
      · have hil : ¬ (k : Int) < (L : Int) := by omega
        obtain rfl : k = L := by omega
        have hb : b = true := by
          rw [← HV.out]
          exact fits_all (by rw [HLL.out.1, HLL.out.2, HL.out]) (fun i hi => HK.out i (by rw [← HS.out.1, ← HLL.out.1]; exact hi))
        subst hb
        go_wp2_with fail
        go_ret
        exact ⟨rfl, hbx⟩
  · have hlb : ((s.size : Int) != (f.size : Int)) = true := by rw [bne_iff_ne]; omega
    have hb : b = false := by rw [← hv]; exact fits_no_len (by rw [sl, fl]; exact hl)
    subst hb
    clear sl fl hv
    go_enter Tryz.func151, Tryz.ntmps151
    go_wp2_with fail
    go_ret
    exact ⟨rfl, Below.refl _ _⟩
end Go.Proofs.YtgmnjghbafbopaaGreatDoor

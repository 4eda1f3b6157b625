/- The contracts of the library's ParseUint at base 16 and 32 bits. -/
import Derived.Test.YtgjjmapfdijphaaDoorCoWords
import Derived.Test.YtgjjmapfdijphaaDoorCharsGround
import Derived.Test.YtgjjmapfdijphaaDoorCoSmall
import Derived.Test.YtgjjmapfdijphaaDoorShelfCo
import Derived.Lib.ConvBytes
namespace Go.Proofs.YtgjjmapfdijphaaDoor
open Go.RowKit Go.Lib

/-- What the digits give: a value and an error (0 none, 1 range, 2 syntax). -/
def puGo : Nat → List UInt8 → Nat × Nat
  | n, [] => (n, 0)
  | n, b :: t => match hexV b with
    | none => (0, 2)
    | some d => if 4294967295 < 16 * n + d then (4294967295, 1) else puGo (16 * n + d) t
def puL (l : List UInt8) : Nat × Nat := if l = [] then (0, 2) else puGo 0 l
def puErr (k : Nat) : Value := if k = 0 then .nilIface else .iface 143 (.int .i64 (k : Int))
def puV (x : Nat × Nat) : Value := .tuple #[.int .u64 (x.1 : Int), puErr x.2]
def lw (b : UInt8) : Int := bits .or .u8 (b.toNat : Int) 32
theorem lw_all : ∀ n : Fin 256, let z : Int := bits .or .u8 (n.val : Int) 32
    0 ≤ z ∧ z < 256 ∧ (65 ≤ n.val → n.val ≤ 90 → z = n.val + 32) ∧ (97 ≤ n.val → n.val ≤ 122 → z = n.val) ∧ (¬ (65 ≤ n.val ∧ n.val ≤ 90) → ¬ (97 ≤ n.val ∧ n.val ≤ 122) → z < 97 ∨ 122 < z) := by decide +kernel
theorem conv_bytes (s : ByteArray) (w : World) : ∃ (cap : Nat) (w' : World), (convert 9 33 (.string s)).run Tryd.prog w = .ok (.slice (some ⟨w.heap.size, 0, none⟩) s.size cap) w' ∧ Below w.heap.size w w' ∧
    ∀ j b, s.data.toList[j]? = some b → w'.cell? ⟨w.heap.size, j, none⟩ = some (.int .u8 ((b.toNat : Nat) : Int)) := by
  refine ⟨_, _, Lib.run_convert_string_bytes w 9 33 5 s Tryd.underlying9 Tryd.underlying33 Tryd.underlying5, ?_, fun j b hj => ?_⟩
  · exact ⟨rfl, rfl, rfl, by rw [Lib.bytesWorld_size]; omega, fun k hk => Lib.bytesWorld_at_old w _ s k hk⟩
  · have hjl := (List.getElem?_eq_some_iff.1 hj).1
    rw [← size_eq] at hjl
    rw [Lib.bytesWorld_cell w _ s j hjl, List.getD_eq_getElem?_getD, hj]; rfl
theorem lower_any (c : Int) (w : World) : Calls Tryd.prog 97 #[.int .u8 c] w fun e w' => e = .returned (.int .u8 (bits .or .u8 c 32)) ∧ w = w' :=
  (Tryd.internal_strconv_lower c w).mono fun _ _ h => ⟨h.1, h.2.symm⟩
set_option maxHeartbeats 8000000 in
set_option maxRecDepth 1000000 in
theorem pu_any (s : ByteArray) (w : World) (hs : s.size ≤ 4000000) :
    Calls Tryd.prog 95 #[.string s, .int .i64 16, .int .i64 32] w fun e w' => e = .returned (puV (puL s.data.toList)) ∧ Below w.heap.size w w' := by
  by_cases h0 : s.data.toList = []
  · obtain rfl := ba_eq h0
    go_enter Tryd.func95, Tryd.ntmps95
    go_wp2
    go_ret2
    exact ⟨rfl, Below.refl _ _⟩
  · have b0 : (s.toList == []) = false := by rw [ba_beq s [], decide_eq_false_iff_not]; exact h0
    go_enter Tryd.func95, Tryd.ntmps95
    obtain ⟨cap, W1, hcv, hb1, htx⟩ := conv_bytes s w
    have hP : puL s.data.toList = puGo 0 (s.data.toList.drop 0) := by unfold puL; rw [if_neg h0, List.drop_zero]
    obtain ⟨ANS, hA⟩ : ∃ ANS, puGo 0 (s.data.toList.drop 0) = ANS := ⟨_, rfl⟩
    rw [hP, hA]
    have HA := Lib.hid hA
    clear hP hA h0
    have Hsz := Lib.hid (size_eq s)
    go_wp2
    obtain ⟨Q, hQ⟩ : ∃ Q : Int, Q = 1152921504606846976 := ⟨_, rfl⟩
    have hQ1 : 4294967295 < Q := by omega
    rw [← hQ]
    have HQ := Lib.hid hQ
    clear hQ
    go_loopg [12, 13, 101] s.size (fun g s12 s13 s101 wx => ∃ (k n : Nat), s12 = .bool false ∧ s13 = .int .u64 n ∧ s101 = .int .i64 k ∧ k + g = s.size ∧ n ≤ 4294967295 ∧ Hid (puGo n (s.data.toList.drop k) = ANS) ∧ wx = W1)
    case atStart => exact ⟨0, 0, rfl, rfl, rfl, by omega, by omega, HA, rfl⟩
    case round =>
      clear HA hcv b0
      obtain ⟨k, n, rfl, rfl, rfl, hkg, hn, HP, rfl⟩ := hrel
      by_cases hlt : k < s.size
      · obtain ⟨g, rfl⟩ : ∃ g, gk = g + 1 := ⟨gk - 1, by omega⟩
        have hkl : k < s.data.toList.length := by rw [← Hsz.out]; exact hlt
        obtain ⟨b, hb⟩ : ∃ b, s.data.toList[k]? = some b := ⟨_, List.getElem?_eq_getElem hkl⟩
        have hcb := htx k b hb
        have hd : s.data.toList.drop k = b :: s.data.toList.drop (k + 1) := by
          rw [List.drop_eq_getElem_cons hkl]; congr 1
          rw [List.getElem?_eq_getElem hkl] at hb; exact Option.some.inj hb
        have hp := HP.out
        rw [hd] at hp
        unfold puGo at hp
        have hl := lw_all ⟨b.toNat, b.toNat_lt⟩
        simp only at hl
        obtain ⟨hz0, hz1, hzU, hzL, hzN⟩ := hl
        have hbn := b.toNat_lt
        have hv : hexV b = if 48 ≤ b.toNat ∧ b.toNat ≤ 57 then some (b.toNat - 48) else if 65 ≤ b.toNat ∧ b.toNat ≤ 70 then some (b.toNat - 55) else if 97 ≤ b.toNat ∧ b.toNat ≤ 102 then some (b.toNat - 87) else none := rfl
        have cL := fun W => lower_any (b.toNat : Int) W
        generalize bits .or .u8 ((b.toNat : Nat) : Int) 32 = z at hz0 hz1 hzU hzL hzN cL
        generalize b.toNat = c at hv hcb hbn hzU hzL hzN cL
        clear hd hb htx HP
        by_cases hdig : 48 ≤ c ∧ c ≤ 57
        · rw [if_pos hdig] at hv
          obtain ⟨d, hD⟩ : ∃ d, c - 48 = d := ⟨_, rfl⟩
          rw [hv, hD] at hp
          have hdz : (c : Int) = d + 48 := by omega
          have h9 : d ≤ 9 := by omega
          clear hD hdig
          rw [hdz] at hcb cL
          clear hdz
          have q1 : ((d : Int) + 48 == 95) = false := by rw [beq_eq_false_iff_ne]; omega
          simp only at hp
          by_cases hov : 4294967295 < 16 * n + d
          · rw [if_pos hov] at hp
            subst hp
            clear hv hzU hzL hzN
            go_wp2_with (first | (go_at_call 97; refine (cL _).mono ?_; rintro e w' ⟨rfl, rfl⟩))
            go_ret2
            exact ⟨rfl, hb1⟩
          · rw [if_neg hov] at hp
            have Hp := Lib.hid hp
            clear hp hv hzU hzL hzN
            go_wp2_with (first | (go_at_call 97; refine (cL _).mono ?_; rintro e w' ⟨rfl, rfl⟩))
            go_roundg g
            case measure => omega
            case rel => exact ⟨k + 1, 16 * n + d, rfl, congrArg (Value.int .u64) (by omega), by go_num, by omega, by omega, Hp, rfl⟩
        · rw [if_neg hdig] at hv
          by_cases hhex : (65 ≤ c ∧ c ≤ 70) ∨ (97 ≤ c ∧ c ≤ 102)
          · have hex2 : ∃ d : Nat, hexV b = some d ∧ z = (d : Int) + 87 ∧ 10 ≤ d ∧ d ≤ 15 := by
              rcases hhex with h | h
              · exact ⟨c - 55, by rw [hv, if_pos h], by have := hzU (by omega) (by omega); omega, by omega, by omega⟩
              · exact ⟨c - 87, by rw [hv, if_neg (by omega), if_pos h], by have := hzL (by omega) (by omega); omega, by omega, by omega⟩
            obtain ⟨d, hx, hzd, hd0, hd1⟩ := hex2
            rw [hx] at hp
            simp only at hp
            have q1 : ((c : Int) == 95) = false := by rw [beq_eq_false_iff_ne]; omega
            have q2 : (48 : Int) ≤ c := by omega
            have q3 : (57 : Int) < c := by omega
            have q4 : (97 : Int) ≤ z := by omega
            have q5 : z ≤ 102 := by omega
            have Hzd := Lib.hid hzd
            have Hp := Lib.hid hp
            clear hp hv hzU hzL hzN hx hhex hdig hzd
            go_wp2_with fail
            refine (cL _).mono ?_
            rintro e w' ⟨rfl, rfl⟩
            go_wp2_with fail
            refine (cL _).mono ?_
            rintro e w' ⟨rfl, rfl⟩
            go_wp2_with fail
            refine (cL _).mono ?_
            rintro e w' ⟨rfl, rfl⟩
            clear cL hcb
            go_wp2_with fail
            · go_ret2
              have hov : 4294967295 < 16 * n + d := by have := Hzd.out; omega
              have hA : ANS = (4294967295, 1) := by have := Hp.out; rw [if_pos hov] at this; exact this.symm
              exact ⟨by rw [hA]; rfl, hb1⟩
            · have hov : ¬ 4294967295 < 16 * n + d := by have := Hzd.out; omega
              have hA : puGo (16 * n + d) (s.data.toList.drop (k + 1)) = ANS := by have := Hp.out; rw [if_neg hov] at this; exact this
              have HA := Lib.hid hA
              clear hA
              go_roundg g
              case measure => omega
              case rel => exact ⟨k + 1, 16 * n + d, rfl, congrArg (Value.int .u64) (by have := Hzd.out; omega), by go_num, by omega, by omega, HA, rfl⟩
          · have hx : hexV b = none := by rw [hv, if_neg (by omega), if_neg (by omega)]
            rw [hx] at hp
            simp only at hp
            subst hp
            clear hv hx
            by_cases hlet : (65 ≤ c ∧ c ≤ 90) ∨ (97 ≤ c ∧ c ≤ 122)
            · have hz : 103 ≤ z ∧ z ≤ 122 := by
                rcases hlet with h | h
                · have := hzU h.1 h.2; omega
                · have := hzL h.1 h.2; omega
              obtain ⟨hza, hzb⟩ := hz
              have q1 : ((c : Int) == 95) = false := by rw [beq_eq_false_iff_ne]; omega
              have q2 : (48 : Int) ≤ c := by omega
              have q3 : (57 : Int) < c := by omega
              clear hzU hzL hzN hlet hhex hdig
              go_wp2_with (first | (go_at_call 97; refine (cL _).mono ?_; rintro e w' ⟨rfl, rfl⟩))
              go_ret2
              exact ⟨rfl, hb1⟩
            · have hz := hzN (by omega) (by omega)
              clear hzU hzL hzN hlet hhex
              by_cases hc48 : c < 48
              · have q1 : ((c : Int) == 95) = false := by rw [beq_eq_false_iff_ne]; omega
                have q2 : (c : Int) < 48 := by omega
                clear hdig hc48
                rcases hz with hz | hz
                all_goals
                  go_wp2_with (first | (go_at_call 97; refine (cL _).mono ?_; rintro e w' ⟨rfl, rfl⟩))
                  go_ret2
                  exact ⟨rfl, hb1⟩
              · have q2 : (48 : Int) ≤ c := by omega
                have q3 : (57 : Int) < c := by omega
                clear hdig hc48
                by_cases h95 : c = 95
                · have q1 : ((c : Int) == 95) = true := by rw [beq_iff_eq]; omega
                  clear h95
                  rcases hz with hz | hz
                  all_goals
                    go_wp2_with (first | (go_at_call 97; refine (cL _).mono ?_; rintro e w' ⟨rfl, rfl⟩))
                    go_ret2
                    exact ⟨rfl, hb1⟩
                · have q1 : ((c : Int) == 95) = false := by rw [beq_eq_false_iff_ne]; omega
                  clear h95
                  rcases hz with hz | hz
                  all_goals
                    go_wp2_with (first | (go_at_call 97; refine (cL _).mono ?_; rintro e w' ⟨rfl, rfl⟩))
                    go_ret2
                    exact ⟨rfl, hb1⟩
      · obtain rfl : gk = 0 := by omega
        have hd : s.data.toList.drop k = [] := List.drop_eq_nil_of_le (by rw [← Hsz.out]; omega)
        have hp := HP.out
        rw [hd] at hp
        clear hd HP
        unfold puGo at hp
        subst hp
        have hlt' : ¬ (k : Int) < (s.size : Int) := by omega
        go_wp2
        go_ret2
        exact ⟨rfl, hb1⟩
end Go.Proofs.YtgjjmapfdijphaaDoor

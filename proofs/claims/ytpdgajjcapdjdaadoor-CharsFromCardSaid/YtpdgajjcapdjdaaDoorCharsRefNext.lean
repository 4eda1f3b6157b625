/- The contract of the specification's 'next'. -/
import Derived.Test.YtpdgajjcapdjdaaDoorCharsRefPure
import Derived.Test.YtpdgajjcapdjdaaDoorCharsPlain7
namespace Go.Proofs.YtpdgajjcapdjdaaDoor
open Go.RowKit Go.Lib

theorem drop_at (s : ByteArray) (i : Nat) (hi : i < s.size) : s.data.toList.drop i = s[i] :: s.data.toList.drop (i + 1) := by
  rw [List.drop_eq_getElem_cons (by rw [← size_eq]; exact hi)]; rfl
theorem fin_cases (S : Nat) (least : Int) (x : Option Int) : fin S least x = (0, 0) ∨ ∃ c, x = some c ∧ least ≤ c ∧ fin S least x = (c, (S : Int)) := by
  cases x with
  | none => exact .inl rfl
  | some c =>
    unfold fin
    by_cases h : c < least
    · left; simp [h]
    · right; exact ⟨c, rfl, by omega, by simp [h]⟩
theorem cont_short (t : List UInt8) (m : Nat) (c : Int) (h : t.length < m) : cont t m c = none := by
  induction m generalizing t c with
  | zero => omega
  | succ m ih =>
    match t, h with
    | [], _ => rfl
    | b :: t, h =>
      unfold cont
      split
      · exact ih t _ (by simp at h; omega)
      · rfl
def nextV (x : Int × Int) : Value := .tuple #[.int .i64 x.1, .int .i64 x.2]
set_option maxHeartbeats 1000000 in
set_option maxRecDepth 100000 in
theorem next_ascii (s : ByteArray) (i : Nat) (w : World) (hi : i < s.size) (_hs : s.size ≤ 9223372036854775000) (h : s[i].toNat < 128) :
    Calls Tryd.prog 49 #[.string s, .int .i64 i] w fun e w' => e = .returned (.tuple #[.int .i64 (s[i].toNat : Int), .int .i64 1]) ∧ w = w' := by
  have g1 : (s[i].toNat : Int) < 128 := by omega
  go_enter Tryd.func49, Tryd.ntmps49
  go_wp2
  go_ret2
  exact ⟨rfl, rfl⟩
set_option maxHeartbeats 1000000 in
set_option maxRecDepth 100000 in
theorem next_mid (s : ByteArray) (i : Nat) (w : World) (hi : i < s.size) (_hs : s.size ≤ 9223372036854775000) (h : 128 ≤ s[i].toNat) (h2 : s[i].toNat < 192) :
    Calls Tryd.prog 49 #[.string s, .int .i64 i] w fun e w' => e = .returned (.tuple #[.int .i64 0, .int .i64 0]) ∧ w = w' := by
  have g1 : ¬ (s[i].toNat : Int) < 128 := by omega
  have g2 : (s[i].toNat : Int) < 192 := by omega
  go_enter Tryd.func49, Tryd.ntmps49
  go_wp2
  go_ret2
  exact ⟨rfl, rfl⟩
set_option maxHeartbeats 1000000 in
set_option maxRecDepth 100000 in
theorem next_far (s : ByteArray) (i : Nat) (w : World) (hi : i < s.size) (_hs : s.size ≤ 9223372036854775000) (h : 248 ≤ s[i].toNat) :
    Calls Tryd.prog 49 #[.string s, .int .i64 i] w fun e w' => e = .returned (.tuple #[.int .i64 0, .int .i64 0]) ∧ w = w' := by
  have g1 : (248 : Int) ≤ (s[i].toNat : Int) := by omega
  have g2 : (s[i].toNat : Int) < 256 := by have := s[i].toNat_lt; omega
  go_enter Tryd.func49, Tryd.ntmps49
  go_wp2
  go_ret2
  exact ⟨rfl, rfl⟩
set_option maxHeartbeats 1000000 in
set_option maxRecDepth 100000 in
theorem next_short2 (s : ByteArray) (i : Nat) (w : World) (hi : i < s.size) (_hs : s.size ≤ 9223372036854775000) (h : 192 ≤ s[i].toNat) (h2 : s[i].toNat < 224) (hn : s.size < i + 2) :
    Calls Tryd.prog 49 #[.string s, .int .i64 i] w fun e w' => e = .returned (.tuple #[.int .i64 0, .int .i64 0]) ∧ w = w' := by
  have g1 : (192 : Int) ≤ (s[i].toNat : Int) := by omega
  have g2 : (s[i].toNat : Int) < 224 := by omega
  have g3 : (s.size : Int) < (i : Int) + 2 := by omega
  go_enter Tryd.func49, Tryd.ntmps49
  go_wp2
  go_ret2
  exact ⟨rfl, rfl⟩
set_option maxHeartbeats 4000000 in
set_option maxRecDepth 100000 in
theorem next_size2 (s : ByteArray) (i : Nat) (w : World) (hi : i < s.size) (_hs : s.size ≤ 9223372036854775000) (h : 192 ≤ s[i].toNat) (h2 : s[i].toNat < 224) (hn : i + 2 ≤ s.size) :
    Calls Tryd.prog 49 #[.string s, .int .i64 i] w fun e w' => e = .returned (nextV (fin 2 128 (cont (s.data.toList.drop (i + 1)) 1 ((s[i].toNat : Int) - 192)))) ∧ w = w' := by
  have g1 : (192 : Int) ≤ (s[i].toNat : Int) := by omega
  have g2 : (s[i].toNat : Int) < 224 := by omega
  have g3 : (i : Int) + 2 ≤ (s.size : Int) := by omega
  obtain ⟨R, hR⟩ : ∃ R, cont (s.data.toList.drop (i + 1)) 1 ((s[i].toNat : Int) - 192) = R := ⟨_, rfl⟩
  have HR := Lib.hid hR
  rw [hR]
  clear hR
  go_enter Tryd.func49, Tryd.ntmps49
  go_wp2
  go_loopg [6, 9] 2 (fun g s6 s9 wx => wx = w ∧ ∃ (k : Nat) (c : Int), s9 = .int .i64 k ∧ s6 = .int .i64 c ∧ 1 ≤ k ∧ k + g = 2 + 1 ∧ 1 ≤ g ∧ 0 ≤ c ∧ Hid (c < 32 * 64 ^ (k - 1)) ∧ Hid (cont (s.data.toList.drop (i + k)) (2 - k) c = R))
  case atStart => exact ⟨rfl, 1, _, rfl, rfl, by omega, by omega, by omega, by omega, Lib.hid (by simp; omega), HR⟩
  case round =>
    obtain ⟨rfl, k, c, rfl, rfl, hk1, hkg, hg1, hc0, HB, HC⟩ := hrel
    clear HR
    by_cases hlt : k < 2
    · obtain ⟨g, rfl⟩ : ∃ g, gk = g + 1 := ⟨gk - 1, by omega⟩
      have hin : i + k < s.size := by omega
      have hd := drop_at s (i + k) hin
      have hb := HB.out
      have hcb : c < 131072 := by
        have : k = 1 ∨ k = 2 ∨ k = 3 := by omega
        rcases this with rfl | rfl | rfl <;> simp at hb <;> omega
      have hx : s[i + k].toNat < 256 := s[i + k].toNat_lt
      have hcn := HC.out
      rw [hd, show 2 - k = (2 - (k + 1)) + 1 by omega] at hcn
      unfold cont at hcn
      have x0 : (0 : Int) ≤ (s[i + k].toNat : Int) := by omega
      have x1 : (s[i + k].toNat : Int) < 256 := by omega
      clear hd HB HC
      by_cases hr : 128 ≤ s[i + k].toNat ∧ s[i + k].toNat < 192
      · rw [if_pos hr] at hcn
        obtain ⟨r1, r2⟩ := hr
        have y1 : (128 : Int) ≤ (s[i + k].toNat : Int) := by omega
        have y2 : (s[i + k].toNat : Int) < 192 := by omega
        have Hcn := Lib.hid hcn
        have HB2 := Lib.hid (show c * 64 + (s[i + k].toNat : Int) - 128 < 32 * 64 ^ (k + 1 - 1) by
          have : k = 1 ∨ k = 2 ∨ k = 3 := by omega
          rcases this with rfl | rfl | rfl <;> simp at hb ⊢ <;> omega)
        clear hcn hb
        go_wp2
        go_roundg g
        case measure => omega
        case rel => exact ⟨rfl, k + 1, _, by go_num, rfl, by omega, by omega, by omega, by omega, HB2, Hcn⟩
      · rw [if_neg hr] at hcn
        subst hcn
        have z1 : ¬ ((128 : Int) ≤ (s[i + k].toNat : Int) ∧ (s[i + k].toNat : Int) < 192) := by omega
        clear hb
        go_wp2
        all_goals (go_ret2; exact ⟨rfl, rfl⟩)
    · obtain rfl : k = 2 := by omega
      obtain rfl : gk = 1 := by omega
      have hcn := HC.out
      rw [show 2 - 2 = 0 from rfl, cont] at hcn
      subst hcn
      clear HB HC
      by_cases hl : c < 128
      · have HF := Lib.hid (show fin 2 128 (some c) = (0, 0) by unfold fin; simp [hl])
        go_wp2
        go_ret2
        exact ⟨by rw [HF.out]; rfl, rfl⟩
      · have HF := Lib.hid (show fin 2 128 (some c) = (c, 2) by unfold fin; simp [hl])
        go_wp2
        go_ret2
        exact ⟨by rw [HF.out]; rfl, rfl⟩
set_option maxHeartbeats 1000000 in
set_option maxRecDepth 100000 in
theorem next_short3 (s : ByteArray) (i : Nat) (w : World) (hi : i < s.size) (_hs : s.size ≤ 9223372036854775000) (h : 224 ≤ s[i].toNat) (h2 : s[i].toNat < 240) (hn : s.size < i + 3) :
    Calls Tryd.prog 49 #[.string s, .int .i64 i] w fun e w' => e = .returned (.tuple #[.int .i64 0, .int .i64 0]) ∧ w = w' := by
  have g1 : (224 : Int) ≤ (s[i].toNat : Int) := by omega
  have g2 : (s[i].toNat : Int) < 240 := by omega
  have g3 : (s.size : Int) < (i : Int) + 3 := by omega
  go_enter Tryd.func49, Tryd.ntmps49
  go_wp2
  go_ret2
  exact ⟨rfl, rfl⟩
set_option maxHeartbeats 4000000 in
set_option maxRecDepth 100000 in
theorem next_size3 (s : ByteArray) (i : Nat) (w : World) (hi : i < s.size) (_hs : s.size ≤ 9223372036854775000) (h : 224 ≤ s[i].toNat) (h2 : s[i].toNat < 240) (hn : i + 3 ≤ s.size) :
    Calls Tryd.prog 49 #[.string s, .int .i64 i] w fun e w' => e = .returned (nextV (fin 3 2048 (cont (s.data.toList.drop (i + 1)) 2 ((s[i].toNat : Int) - 224)))) ∧ w = w' := by
  have g1 : (224 : Int) ≤ (s[i].toNat : Int) := by omega
  have g2 : (s[i].toNat : Int) < 240 := by omega
  have g3 : (i : Int) + 3 ≤ (s.size : Int) := by omega
  obtain ⟨R, hR⟩ : ∃ R, cont (s.data.toList.drop (i + 1)) 2 ((s[i].toNat : Int) - 224) = R := ⟨_, rfl⟩
  have HR := Lib.hid hR
  rw [hR]
  clear hR
  go_enter Tryd.func49, Tryd.ntmps49
  go_wp2
  go_loopg [6, 9] 3 (fun g s6 s9 wx => wx = w ∧ ∃ (k : Nat) (c : Int), s9 = .int .i64 k ∧ s6 = .int .i64 c ∧ 1 ≤ k ∧ k + g = 3 + 1 ∧ 1 ≤ g ∧ 0 ≤ c ∧ Hid (c < 32 * 64 ^ (k - 1)) ∧ Hid (cont (s.data.toList.drop (i + k)) (3 - k) c = R))
  case atStart => exact ⟨rfl, 1, _, rfl, rfl, by omega, by omega, by omega, by omega, Lib.hid (by simp; omega), HR⟩
  case round =>
    obtain ⟨rfl, k, c, rfl, rfl, hk1, hkg, hg1, hc0, HB, HC⟩ := hrel
    clear HR
    by_cases hlt : k < 3
    · obtain ⟨g, rfl⟩ : ∃ g, gk = g + 1 := ⟨gk - 1, by omega⟩
      have hin : i + k < s.size := by omega
      have hd := drop_at s (i + k) hin
      have hb := HB.out
      have hcb : c < 131072 := by
        have : k = 1 ∨ k = 2 ∨ k = 3 := by omega
        rcases this with rfl | rfl | rfl <;> simp at hb <;> omega
      have hx : s[i + k].toNat < 256 := s[i + k].toNat_lt
      have hcn := HC.out
      rw [hd, show 3 - k = (3 - (k + 1)) + 1 by omega] at hcn
      unfold cont at hcn
      have x0 : (0 : Int) ≤ (s[i + k].toNat : Int) := by omega
      have x1 : (s[i + k].toNat : Int) < 256 := by omega
      clear hd HB HC
      by_cases hr : 128 ≤ s[i + k].toNat ∧ s[i + k].toNat < 192
      · rw [if_pos hr] at hcn
        obtain ⟨r1, r2⟩ := hr
        have y1 : (128 : Int) ≤ (s[i + k].toNat : Int) := by omega
        have y2 : (s[i + k].toNat : Int) < 192 := by omega
        have Hcn := Lib.hid hcn
        have HB2 := Lib.hid (show c * 64 + (s[i + k].toNat : Int) - 128 < 32 * 64 ^ (k + 1 - 1) by
          have : k = 1 ∨ k = 2 ∨ k = 3 := by omega
          rcases this with rfl | rfl | rfl <;> simp at hb ⊢ <;> omega)
        clear hcn hb
        go_wp2
        go_roundg g
        case measure => omega
        case rel => exact ⟨rfl, k + 1, _, by go_num, rfl, by omega, by omega, by omega, by omega, HB2, Hcn⟩
      · rw [if_neg hr] at hcn
        subst hcn
        have z1 : ¬ ((128 : Int) ≤ (s[i + k].toNat : Int) ∧ (s[i + k].toNat : Int) < 192) := by omega
        clear hb
        go_wp2
        all_goals (go_ret2; exact ⟨rfl, rfl⟩)
    · obtain rfl : k = 3 := by omega
      obtain rfl : gk = 1 := by omega
      have hcn := HC.out
      rw [show 3 - 3 = 0 from rfl, cont] at hcn
      subst hcn
      clear HB HC
      by_cases hl : c < 2048
      · have HF := Lib.hid (show fin 3 2048 (some c) = (0, 0) by unfold fin; simp [hl])
        go_wp2
        go_ret2
        exact ⟨by rw [HF.out]; rfl, rfl⟩
      · have HF := Lib.hid (show fin 3 2048 (some c) = (c, 3) by unfold fin; simp [hl])
        go_wp2
        go_ret2
        exact ⟨by rw [HF.out]; rfl, rfl⟩
set_option maxHeartbeats 1000000 in
set_option maxRecDepth 100000 in
theorem next_short4 (s : ByteArray) (i : Nat) (w : World) (hi : i < s.size) (_hs : s.size ≤ 9223372036854775000) (h : 240 ≤ s[i].toNat) (h2 : s[i].toNat < 248) (hn : s.size < i + 4) :
    Calls Tryd.prog 49 #[.string s, .int .i64 i] w fun e w' => e = .returned (.tuple #[.int .i64 0, .int .i64 0]) ∧ w = w' := by
  have g1 : (240 : Int) ≤ (s[i].toNat : Int) := by omega
  have g2 : (s[i].toNat : Int) < 248 := by omega
  have g3 : (s.size : Int) < (i : Int) + 4 := by omega
  go_enter Tryd.func49, Tryd.ntmps49
  go_wp2
  go_ret2
  exact ⟨rfl, rfl⟩
set_option maxHeartbeats 4000000 in
set_option maxRecDepth 100000 in
theorem next_size4 (s : ByteArray) (i : Nat) (w : World) (hi : i < s.size) (_hs : s.size ≤ 9223372036854775000) (h : 240 ≤ s[i].toNat) (h2 : s[i].toNat < 248) (hn : i + 4 ≤ s.size) :
    Calls Tryd.prog 49 #[.string s, .int .i64 i] w fun e w' => e = .returned (nextV (fin 4 65536 (cont (s.data.toList.drop (i + 1)) 3 ((s[i].toNat : Int) - 240)))) ∧ w = w' := by
  have g1 : (240 : Int) ≤ (s[i].toNat : Int) := by omega
  have g2 : (s[i].toNat : Int) < 248 := by omega
  have g3 : (i : Int) + 4 ≤ (s.size : Int) := by omega
  obtain ⟨R, hR⟩ : ∃ R, cont (s.data.toList.drop (i + 1)) 3 ((s[i].toNat : Int) - 240) = R := ⟨_, rfl⟩
  have HR := Lib.hid hR
  rw [hR]
  clear hR
  go_enter Tryd.func49, Tryd.ntmps49
  go_wp2
  go_loopg [6, 9] 4 (fun g s6 s9 wx => wx = w ∧ ∃ (k : Nat) (c : Int), s9 = .int .i64 k ∧ s6 = .int .i64 c ∧ 1 ≤ k ∧ k + g = 4 + 1 ∧ 1 ≤ g ∧ 0 ≤ c ∧ Hid (c < 32 * 64 ^ (k - 1)) ∧ Hid (cont (s.data.toList.drop (i + k)) (4 - k) c = R))
  case atStart => exact ⟨rfl, 1, _, rfl, rfl, by omega, by omega, by omega, by omega, Lib.hid (by simp; omega), HR⟩
  case round =>
    obtain ⟨rfl, k, c, rfl, rfl, hk1, hkg, hg1, hc0, HB, HC⟩ := hrel
    clear HR
    by_cases hlt : k < 4
    · obtain ⟨g, rfl⟩ : ∃ g, gk = g + 1 := ⟨gk - 1, by omega⟩
      have hin : i + k < s.size := by omega
      have hd := drop_at s (i + k) hin
      have hb := HB.out
      have hcb : c < 131072 := by
        have : k = 1 ∨ k = 2 ∨ k = 3 := by omega
        rcases this with rfl | rfl | rfl <;> simp at hb <;> omega
      have hx : s[i + k].toNat < 256 := s[i + k].toNat_lt
      have hcn := HC.out
      rw [hd, show 4 - k = (4 - (k + 1)) + 1 by omega] at hcn
      unfold cont at hcn
      have x0 : (0 : Int) ≤ (s[i + k].toNat : Int) := by omega
      have x1 : (s[i + k].toNat : Int) < 256 := by omega
      clear hd HB HC
      by_cases hr : 128 ≤ s[i + k].toNat ∧ s[i + k].toNat < 192
      · rw [if_pos hr] at hcn
        obtain ⟨r1, r2⟩ := hr
        have y1 : (128 : Int) ≤ (s[i + k].toNat : Int) := by omega
        have y2 : (s[i + k].toNat : Int) < 192 := by omega
        have Hcn := Lib.hid hcn
        have HB2 := Lib.hid (show c * 64 + (s[i + k].toNat : Int) - 128 < 32 * 64 ^ (k + 1 - 1) by
          have : k = 1 ∨ k = 2 ∨ k = 3 := by omega
          rcases this with rfl | rfl | rfl <;> simp at hb ⊢ <;> omega)
        clear hcn hb
        go_wp2
        go_roundg g
        case measure => omega
        case rel => exact ⟨rfl, k + 1, _, by go_num, rfl, by omega, by omega, by omega, by omega, HB2, Hcn⟩
      · rw [if_neg hr] at hcn
        subst hcn
        have z1 : ¬ ((128 : Int) ≤ (s[i + k].toNat : Int) ∧ (s[i + k].toNat : Int) < 192) := by omega
        clear hb
        go_wp2
        all_goals (go_ret2; exact ⟨rfl, rfl⟩)
    · obtain rfl : k = 4 := by omega
      obtain rfl : gk = 1 := by omega
      have hcn := HC.out
      rw [show 4 - 4 = 0 from rfl, cont] at hcn
      subst hcn
      clear HB HC
      by_cases hl : c < 65536
      · have HF := Lib.hid (show fin 4 65536 (some c) = (0, 0) by unfold fin; simp [hl])
        go_wp2
        go_ret2
        exact ⟨by rw [HF.out]; rfl, rfl⟩
      · have HF := Lib.hid (show fin 4 65536 (some c) = (c, 4) by unfold fin; simp [hl])
        go_wp2
        go_ret2
        exact ⟨by rw [HF.out]; rfl, rfl⟩
theorem refNext_any (s : ByteArray) (i : Nat) (w : World) (hi : i < s.size) (hs : s.size ≤ 9223372036854775000) :
    Calls Tryd.prog 49 #[.string s, .int .i64 i] w fun e w' => e = .returned (nextV (nextL (s.data.toList.drop i))) ∧ w = w' := by
  rw [drop_at s i hi]
  have hx := s[i].toNat_lt
  simp only [nextL]
  by_cases h0 : s[i].toNat < 128
  · rw [if_pos h0]; exact next_ascii s i w hi hs h0
  · rw [if_neg h0]
    by_cases h2 : 192 ≤ s[i].toNat ∧ s[i].toNat < 224
    · rw [if_pos h2]
      by_cases hn : i + 2 ≤ s.size
      · exact next_size2 s i w hi hs h2.1 h2.2 hn
      · rw [cont_short _ _ _ (by rw [List.length_drop, ← size_eq]; omega)]
        exact next_short2 s i w hi hs h2.1 h2.2 (by omega)
    · rw [if_neg h2]
      by_cases h3 : 224 ≤ s[i].toNat ∧ s[i].toNat < 240
      · rw [if_pos h3]
        by_cases hn : i + 3 ≤ s.size
        · exact next_size3 s i w hi hs h3.1 h3.2 hn
        · rw [cont_short _ _ _ (by rw [List.length_drop, ← size_eq]; omega)]
          exact next_short3 s i w hi hs h3.1 h3.2 (by omega)
      · rw [if_neg h3]
        by_cases h4 : 240 ≤ s[i].toNat ∧ s[i].toNat < 248
        · rw [if_pos h4]
          by_cases hn : i + 4 ≤ s.size
          · exact next_size4 s i w hi hs h4.1 h4.2 hn
          · rw [cont_short _ _ _ (by rw [List.length_drop, ← size_eq]; omega)]
            exact next_short4 s i w hi hs h4.1 h4.2 (by omega)
        · rw [if_neg h4]
          by_cases h5 : s[i].toNat < 192
          · exact next_mid s i w hi hs (by omega) h5
          · exact next_far s i w hi hs (by omega)
end Go.Proofs.YtpdgajjcapdjdaaDoor

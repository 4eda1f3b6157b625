/- Numbers as they are written: the contract of isDigits. -/
import Derived.Test.YtofpojlnfncpcaaGreatDoorNuNum
import Derived.Laws.RangeString
import Derived.Laws.RangeAny
import Derived.Shelf.GgClosure.StringsIndexFunc
namespace Go.Proofs.YtofpojlnfncpcaaGreatDoor
open Go.RowKit Go.Lib

def nonDg (x : Nat) : Bool := decide (x < 48 ∨ 57 < x)
theorem nonDg_byte (b : UInt8) : nonDg b.toNat = !isDg b := by
  unfold nonDg
  cases h : isDg b with
  | true => rw [isDg_iff] at h; exact decide_eq_false (by omega)
  | false =>
    have : ¬ (48 ≤ b.toNat ∧ b.toNat ≤ 57) := fun k => by rw [(isDg_iff b).2 k] at h; cases h
    exact decide_eq_true (by omega)
theorem idx_digits (s : ByteArray) : decide (0 ≤ idxFunc nonDg true s) = !(s.data.toList.all isDg) := by
  have key : ∀ f pos, s.size ≤ pos + f → decide (0 ≤ idxFuncFrom nonDg true s f pos) = !((s.data.toList.drop pos).all isDg) := by
    intro f
    induction f with
    | zero =>
      intro pos h
      rw [List.drop_of_length_le (by rw [Array.length_toList]; exact h)]
      rfl
    | succ f ih =>
      intro pos h
      unfold idxFuncFrom
      by_cases hp : pos < s.size
      · have hpl : pos < s.data.toList.length := by rw [Array.length_toList]; exact hp
        have hd : s.data.toList.drop pos = s[pos] :: s.data.toList.drop (pos + 1) := by
          rw [List.drop_eq_getElem_cons hpl]; rfl
        rw [if_pos hp, hd, List.all_cons]
        by_cases ha : (s[pos]).toNat < 128
        · rw [decode_ascii s pos hp ha, nonDg_byte]
          have hi := ih (pos + 1) (by omega)
          cases isDg s[pos]
          · simp
          · simpa using hi
        · have h2 := (decode_high s pos hp (by omega)).1
          have e1 : nonDg (Utf8.decode s pos).1 = true := decide_eq_true (by omega)
          have e2 : isDg s[pos] = false := by
            cases hh : isDg s[pos] with
            | false => rfl
            | true => rw [isDg_iff] at hh; omega
          rw [e1, e2]
          simp
      · rw [if_neg hp, List.drop_of_length_le (by rw [Array.length_toList]; exact Nat.le_of_not_lt hp)]
        rfl
  have := key s.size 0 (by omega)
  rw [List.drop_zero] at this
  exact this

set_option maxHeartbeats 1000000 in
theorem dgFn_any (x : Nat) (W : World) : Calls Tryz.prog 96 #[.int .i32 (x : Int)] W fun e w' => e = .returned (.bool (nonDg x)) ∧ W = w' := by
  by_cases h1 : x < 48
  · rw [show nonDg x = true from decide_eq_true (by omega)]
    have z1 : (x : Int) < 48 := by omega
    go_enter Tryz.func96, Tryz.ntmps96
    go_wp2_with fail
    go_ret
    exact ⟨rfl, rfl⟩
  · by_cases h2 : 57 < x
    · rw [show nonDg x = true from decide_eq_true (by omega)]
      have z1 : ¬ (x : Int) < 48 := by omega
      have z2 : (57 : Int) < x := by omega
      go_enter Tryz.func96, Tryz.ntmps96
      go_wp2_with fail
      go_ret
      exact ⟨rfl, rfl⟩
    · rw [show nonDg x = false from decide_eq_false (by omega)]
      have z1 : ¬ (x : Int) < 48 := by omega
      have z2 : ¬ (57 : Int) < x := by omega
      go_enter Tryz.func96, Tryz.ntmps96
      go_wp2_with fail
      go_ret
      exact ⟨rfl, rfl⟩

set_option maxHeartbeats 1000000 in
theorem isDigits_any (s : ByteArray) (w : World) :
    Calls Tryz.prog 72 #[.string s] w fun e w' => e = .returned (.bool (s.data.toList.all isDg)) ∧ Below w.heap.size w w' := by
  have cF := Tryz.strings_ContainsFunc 96 #[] (fun args w => by kernel_rfl) nonDg s w (fun W x _ => by
    refine (dgFn_any x W).mono ?_
    rintro e w' ⟨rfl, rfl⟩
    exact ⟨rfl, 0, rfl⟩)
  rw [idx_digits] at cF
  generalize s.data.toList.all isDg = V at cF ⊢
  go_enter Tryz.func72, Tryz.ntmps72
  go_wp2_with (go_at_call 95; refine cF.mono ?_; rintro e w' ⟨rfl, hb⟩)
  go_ret
  exact ⟨rfl, hb⟩
end Go.Proofs.YtofpojlnfncpcaaGreatDoor

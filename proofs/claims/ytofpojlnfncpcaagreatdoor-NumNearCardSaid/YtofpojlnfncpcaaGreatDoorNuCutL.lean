/- Numbers as they are written: what strings.Cut gives at a point; the fields of a written number. -/
import Derived.Test.YtofpojlnfncpcaaGreatDoorNuDigit
import Derived.Lib.IndexMore
namespace Go.Proofs.YtofpojlnfncpcaaGreatDoor
open Go.RowKit Go.Lib

theorem cut_dot : ∀ s : List UInt8, Lib.cut s [46] = dotL s
  | [] => rfl
  | b :: t => by
    have ih := cut_dot t
    have hg := index_ge t [46]
    unfold Lib.cut at ih ⊢
    rw [dotL, index]
    by_cases hb : b = 46
    · subst hb
      rw [if_pos (show List.isPrefixOf [46] (46 :: t) = true by simp [List.isPrefixOf]), if_pos rfl]
      simp
    · have hp : ¬ List.isPrefixOf [46] (b :: t) = true := by simp [List.isPrefixOf]; exact fun e => hb e.symm
      rw [if_neg hp, if_neg hb, ← ih]
      by_cases hi : index t [46] = -1
      · rw [hi]; simp
      · have h0 : 0 ≤ index t [46] := by omega
        have hbq : (index t [46] == -1) = false := by rw [beq_eq_false_iff_ne]; exact hi
        rw [hbq, if_pos h0]
        have e : (index t [46] + 1).toNat = (index t [46]).toNat + 1 := by omega
        simp only [Bool.false_eq_true, if_false]
        rw [if_pos (by omega), e, List.take_succ_cons, Nat.add_right_comm, List.drop_succ_cons]
end Go.Proofs.YtofpojlnfncpcaaGreatDoor

/- Two weights are held against each other. -/
import Derived.Test.YtgjjmapfdijphaaDoorCoWorld
import Derived.Test.YtgjjmapfdijphaaDoorCharsPoints
import Derived.ChangeKeysEq
import Derived.Laws.StructEq
namespace Go.Proofs.YtgjjmapfdijphaaDoor
open Go.RowKit Go.Lib

theorem cellsInt : Tryd.prog.cellsOf 3 = 1 := by kernel_rfl
theorem eqIn_wt (x y : Wt) (w : World) : (Op.equalIn 10000 64 (wtV x) (wtV y)).run Tryd.prog w = .ok (decide (x = y)) w := by
  obtain ⟨i, hi, _⟩ := info_parts infoInt
  obtain ⟨a, b, c⟩ := x
  obtain ⟨a', b', c'⟩ := y
  unfold wtV
  rw [run_equalIn_array w 9999 _ _ Tryd.underlying64 hi, cellsInt]
  have p0 : ∀ (u v z : Int), (part 3 #[Value.int .i64 u, Value.int .i64 v, Value.int .i64 z] (0 * 1)).run Tryd.prog w = .ok (.int .i64 u) w := fun _ _ _ => by kernel_rfl
  have p1 : ∀ (u v z : Int), (part 3 #[Value.int .i64 u, Value.int .i64 v, Value.int .i64 z] (1 * 1)).run Tryd.prog w = .ok (.int .i64 v) w := fun _ _ _ => by kernel_rfl
  have p2 : ∀ (u v z : Int), (part 3 #[Value.int .i64 u, Value.int .i64 v, Value.int .i64 z] (2 * 1)).run Tryd.prog w = .ok (.int .i64 z) w := fun _ _ _ => by kernel_rfl
  have he : ∀ (u v : Int), (Op.equalIn 9999 3 (.int .i64 u) (.int .i64 v)).run Tryd.prog w = .ok (u == v) w := fun u v => run_equalIn_int w 9998 3 .i64 .i64 u v Tryd.underlying3
  simp only [show List.range 3 = [0, 1, 2] from rfl, Op.eqItems, Sem.run_bind, p0, p1, p2, he, Result.andThen_ok, Sem.run_ite, Sem.run_pure]
  by_cases h1 : a = a'
  · subst h1
    by_cases h2 : b = b'
    · subst h2
      by_cases h3 : c = c'
      · subst h3
        simp
      · simp [h3]; omega
    · have : ((b : Int) == (b' : Int)) = false := by rw [beq_eq_false_iff_ne]; omega
      simp [this, h2]
  · have : ((a : Int) == (a' : Int)) = false := by rw [beq_eq_false_iff_ne]; omega
    simp [this, h1]
theorem neq_wt (x y : Wt) (w : World) : (binOp .neq 64 (wtV x) (wtV y)).run Tryd.prog w = .ok (.bool (!decide (x = y))) w := by
  have h := eqIn_wt x y w
  unfold wtV at h ⊢
  rw [run_neq_struct, h]
  rfl
end Go.Proofs.YtgjjmapfdijphaaDoor

/- The contract of (*coll.description).table. -/
import Derived.Test.YtgjjmapfdijphaaDoorCoKeep
namespace Go.Proofs.YtgjjmapfdijphaaDoor
open Go.RowKit Go.Lib

set_option maxHeartbeats 2000000 in
set_option maxRecDepth 100000 in
theorem table_any (p mb : Nat) (d : Ds) (w : World) (hd : DsAt w p mb d) :
    Calls Tryd.prog 29 #[.pointer (some ⟨p, 0, none⟩)] w fun e w' => e = .returned (.pointer (some ⟨w.heap.size, 0, none⟩)) ∧ w'.heap[w.heap.size]? = some (.cells #[.map (some mb), .int .i64 ((tbOf d).last : Int), .int .i64 ((tbOf d).str : Int)] 44 (0, 0)) ∧ Below w.heap.size w w' := by
  obtain ⟨d0, d1, d2, d3, d4, d5⟩ := hd.cells
  have hmap := hd.map
  have hlt := hd.lt
  have hne := hd.ne
  by_cases hz : d.str = 0
  · rw [hz] at d4
    have ht : tbOf d = ⟨d.tab, d.last.1, 3⟩ := by unfold tbOf; rw [if_pos hz]
    rw [ht]
    clear ht hd
    go_enter Tryd.func29, Tryd.ntmps29
    go_wp2
    go_region
    go_wp2
    go_ret
    have h1 : ((w.alloc (.cells #[.map (some mb), .int .i64 (d.last.1 : Int), .int .i64 3] 44)).drew).heap[w.heap.size]? = some (.cells #[.map (some mb), .int .i64 (d.last.1 : Int), .int .i64 3] 44 (0, 0)) := World.alloc_heap_new w _
    have hbl : Below w.heap.size w ((w.alloc (.cells #[.map (some mb), .int .i64 (d.last.1 : Int), .int .i64 3] 44)).drew) := ((Below.refl _ w).alloc (Nat.le_refl _) _).drew
    exact ⟨rfl, h1, hbl⟩
  · have ht : tbOf d = ⟨d.tab, d.last.1, d.str⟩ := by unfold tbOf; rw [if_neg hz]
    rw [ht]
    clear ht hd
    have hz2 : ((d.str : Int) == 0) = false := by rw [beq_eq_false_iff_ne]; omega
    have hz3 : ¬ (d.str : Int) = 0 := by omega
    clear hz
    go_enter Tryd.func29, Tryd.ntmps29
    go_wp2
    go_region
    go_wp2
    go_ret
    have h1 : ((w.alloc (.cells #[.map (some mb), .int .i64 (d.last.1 : Int), .int .i64 d.str] 44)).drew).heap[w.heap.size]? = some (.cells #[.map (some mb), .int .i64 (d.last.1 : Int), .int .i64 d.str] 44 (0, 0)) := World.alloc_heap_new w _
    have hbl : Below w.heap.size w ((w.alloc (.cells #[.map (some mb), .int .i64 (d.last.1 : Int), .int .i64 d.str] 44)).drew) := ((Below.refl _ w).alloc (Nat.le_refl _) _).drew
    exact ⟨rfl, h1, hbl⟩
end Go.Proofs.YtgjjmapfdijphaaDoor

/- The frame of dur's rows: the world of the witness, in which the library's tables and its two errors lie; and what the rows' premises give of memory. -/
import Derived.Test.YtdfgifnccghlmabGreatDoorMFrame
import Derived.Test.YtdfgifnccghlmabGreatDoorMDuI
import Derived.Lib.LaidU8T
import Derived.PinnedBridge
namespace Go.Proofs.YtdfgifnccghlmabGreatDoor
open Go.ChangeShapes Go.WideShapes Go.ChangeAt Go.RowKit Go.Lib Go.Shelf

/-- The numbers of a table, as cells. -/
def litCells : DataW Unit → Array Value
  | .agg l => (l.map fun | .lit (.int k z) => Value.int k z | _ => undef).toArray
  | _ => #[]
/-- The settled world with the tables and errors as their initialisers lay them. -/
noncomputable def laidWorld (os : Os) : World :=
  let err (l : List UInt8) : Obj := .cells #[.string ⟨l.toArray⟩] 183
  let w0 := World.holding Tryz.prog os ⟨#[], #[], []⟩
  let n := w0.heap.size
  let put (h : Array Obj) (g : Nat) (cs : Array Value) : Array Obj := h.modify g fun
    | .cells _ t frozen => .cells cs t frozen
    | o => o
  let h1 := put w0.heap 6 (Lib.firstTab.map fun z => Value.int .u8 z).toArray
  let h2 := put h1 7 ((List.range 16).flatMap fun i => [Value.int .u8 (Lib.accLo i), Value.int .u8 (Lib.accHi i)]).toArray
  let h3 := put h2 8 (litCells Rows.laid_math_bits_deBruijn32tab)
  let h4 := put h3 9 (litCells Rows.laid_math_bits_deBruijn64tab)
  let h5 := put h4 2 (litCells Rows.laid_internal_strconv_uint64pow10)
  let h6 := put h5 1 #[.iface 181 (.pointer (some ⟨n, 0, none⟩))]
  let h7 := put h6 0 #[.iface 181 (.pointer (some ⟨n + 1, 0, none⟩))]
  { w0 with heap := (h7.push (err [118, 97, 108, 117, 101, 32, 111, 117, 116, 32, 111, 102, 32, 114, 97, 110, 103, 101])).push (err [105, 110, 118, 97, 108, 105, 100, 32, 115, 121, 110, 116, 97, 120]) }
def laidList : List (String × DataW Unit) := [("math/bits.deBruijn32tab", Rows.laid_math_bits_deBruijn32tab), ("math/bits.deBruijn64tab", Rows.laid_math_bits_deBruijn64tab), ("internal/strconv.uint64pow10", Rows.laid_internal_strconv_uint64pow10), ("unicode/utf8.acceptRanges", Rows.laid_unicode_utf8_acceptRanges), ("strconv.ErrRange", Rows.laid_strconv_ErrRange), ("strconv.ErrSyntax", Rows.laid_strconv_ErrSyntax), ("unicode/utf8.first", Rows.laid_unicode_utf8_first)]
theorem iface_of_reads {P : Program} {w : World} {n : String} {g : Nat} {t : TypeId} {ms : Array (String × TypeId)} {d : DataW Unit} (hn : P.globalNamed n = some g) (hy : (P.globals[g]?).map (·.type) = some t) (ht : P.underlying t = some (.interface ms)) (h : VarReads P w n d) :
    ∃ ev, w.cell? ⟨g, 0, none⟩ = some ev ∧ (ev = .nilIface ∨ ∃ te pe, ev = .iface te pe) := by
  obtain ⟨g', t', cs, fuel, p, h1, h2, h3, h4⟩ := h
  rw [hn] at h1
  cases h1
  rw [hy] at h2
  cases h2
  have hcs : cs.toList = [.nilIface] ∨ ∃ te pe, cs.toList = [.iface te pe] := by
    cases fuel with
    | zero => simp [DataW.trod] at h4
    | succ fuel =>
      generalize cs.toList = l at h4
      match l, h4 with
      | [], h4 => simp [DataW.trod, ht] at h4
      | [v], h4 => cases v <;> simp [DataW.trod, ht] at h4 ⊢
      | a :: b :: r, h4 => simp [DataW.trod, ht] at h4
  have hh : ∃ e f, w.heap[g]? = some (.cells cs e f) := by
    unfold World.var? at h3
    rw [hn] at h3
    simp only [Option.bind_some] at h3
    split at h3
    · cases h3; exact ⟨_, _, by assumption⟩
    · cases h3
  obtain ⟨e, f, hh⟩ := hh
  have hc0 : ∀ v, cs.toList = [v] → w.cell? ⟨g, 0, none⟩ = some v := by
    intro v hv
    have : cs = #[v] := Array.ext' (by simpa using hv)
    subst this
    simp [World.cell?, hh]
  rcases hcs with hcs | ⟨te, pe, hcs⟩
  · exact ⟨_, hc0 _ hcs, .inl rfl⟩
  · exact ⟨_, hc0 _ hcs, .inr ⟨te, pe, rfl⟩⟩
theorem pow10_eq : Rows.laid_internal_strconv_uint64pow10 = (Lib.tabData .u64 Lib.pow10Tab : DataW Unit) := by kernel_rfl
/-- A listed table's cells. -/
theorem tabIs_of_reads {P : Program} {W : World} {name : String} {k : IntKind} {zs : List Int} {g : Nat} {t e : TypeId} {n : Nat}
    (hg : P.globalNamed name = some g) (hty : (P.globals[g]?).map (·.type) = some t) (ht : P.underlying t = some (.array n e)) (he : P.underlying e = some (.int k)) (hce : P.cellsOf e = 1) (hct : P.cellsOf t = n)
    (h : VarReads P W name (Lib.tabData k zs)) : Lib.TabIs P W name k zs := by
  obtain ⟨g', t', cs, fuel, p, hg', ht', hvar, hd⟩ := h
  obtain rfl := Option.some.inj (hg.symm.trans hg')
  obtain rfl := Option.some.inj (hty.symm.trans ht')
  unfold Lib.TabIs
  rw [hvar, ← Lib.cells_of_tab ht he hce hct hd]
set_option maxRecDepth 1000000 in
theorem groundD_of {W : World} (hL : laidMet Tryz.prog laidList W) (hsh : W.ShapedOpen Tryz.prog) : GrD W := by
  refine ⟨⟨?_, ?_⟩, ?_, ?_⟩
  · have h3 := Lib.laidMet.reads hL (.tail _ (.tail _ (.head _)))
    rw [pow10_eq] at h3
    exact tabIs_of_reads (g := 2) (t := 177) (e := 104) (by kernel_rfl) (by kernel_rfl) Tryz.underlying177 Tryz.underlying104 (by kernel_rfl) (by kernel_rfl) h3
  · exact Go.Proofs.cell_of_shapedOpen_int (zero := #[.int .i64 0]) (t := 3) hsh (of_decide_eq_true (by kernel_rfl)) (by kernel_rfl) rfl (by kernel_rfl) (by kernel_rfl) Tryz.underlying3
  · exact iface_of_reads (t := 47) (by kernel_rfl) (by kernel_rfl) Tryz.underlying47 (Lib.laidMet.reads hL (.tail _ (.tail _ (.tail _ (.tail _ (.head _))))))
  · exact iface_of_reads (t := 47) (by kernel_rfl) (by kernel_rfl) Tryz.underlying47 (Lib.laidMet.reads hL (.tail _ (.tail _ (.tail _ (.tail _ (.tail _ (.head _)))))))
theorem laid_met (os : Os) (args : Array Value) : laidMet Tryz.prog laidList ((laidWorld os).forCall (fun _ _ => 0) ⟨#[], args, []⟩).memory :=
  (LaidIn.of_run (l := laidList) [6, 7, 8, 9, 2, 1, 0, (World.holding Tryz.prog os ⟨#[], #[], []⟩).heap.size, (World.holding Tryz.prog os ⟨#[], #[], []⟩).heap.size + 1] 8 (by kernel_rfl) (by kernel_rfl) (by kernel_rfl) (by kernel_rfl)).met
theorem i64_bounds {x : Int} (h : (Lit.int .i64 x).wf = true) : -9223372036854775808 ≤ x ∧ x ≤ 9223372036854775807 := bounds_i64 h
end Go.Proofs.YtdfgifnccghlmabGreatDoor

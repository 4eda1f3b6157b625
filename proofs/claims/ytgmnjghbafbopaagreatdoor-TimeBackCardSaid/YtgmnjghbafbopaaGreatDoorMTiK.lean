/- The frame of time's rows: the world of the witness, in which the library's tables, its two errors and the months' days lie; and what the rows' premises give of memory. A moment that comes in as an argument: its fields. -/
import Derived.Test.YtgmnjghbafbopaaGreatDoorMFrame
import Derived.Test.YtgmnjghbafbopaaGreatDoorMTiB
import Derived.Lib.LaidU8T
import Derived.PinnedBridge
namespace Go.Proofs.YtgmnjghbafbopaaGreatDoor
open Go.ChangeShapes Go.WideShapes Go.ChangeAt Go.RowKit Go.Lib Go.Shelf

/-- The numbers of a table, as cells. -/
def litCells : DataW Unit → Array Value
  | .agg l => (l.map fun | .lit (.int k z) => Value.int k z | _ => undef).toArray
  | _ => #[]
/-- The settled world with the tables and errors as their initialisers lay them. -/
noncomputable def laidWorld (os : Os) : World :=
  let err (l : List UInt8) : Obj := .cells #[.string ⟨l.toArray⟩] 237
  let w0 := World.holding Tryz.prog os ⟨#[], #[], []⟩
  let n := w0.heap.size
  let put (h : Array Obj) (g : Nat) (cs : Array Value) : Array Obj := h.modify g fun
    | .cells _ t frozen => .cells cs t frozen
    | o => o
  let h1 := put w0.heap 7 (Lib.firstTab.map fun z => Value.int .u8 z).toArray
  let h2 := put h1 8 ((List.range 16).flatMap fun i => [Value.int .u8 (Lib.accLo i), Value.int .u8 (Lib.accHi i)]).toArray
  let h3 := put h2 9 (litCells Rows.laid_math_bits_deBruijn32tab)
  let h4 := put h3 10 (litCells Rows.laid_math_bits_deBruijn64tab)
  let h5 := put h4 6 (litCells Rows.laid_internal_strconv_uint64pow10)
  let h6 := put h5 2 #[.iface 235 (.pointer (some ⟨n, 0, none⟩))]
  let h7 := put h6 1 #[.iface 235 (.pointer (some ⟨n + 1, 0, none⟩))]
  let h8 := put h7 0 (litCells Rows.laid_chisel_time_monthDays)
  { w0 with heap := (h8.push (err [118, 97, 108, 117, 101, 32, 111, 117, 116, 32, 111, 102, 32, 114, 97, 110, 103, 101])).push (err [105, 110, 118, 97, 108, 105, 100, 32, 115, 121, 110, 116, 97, 120]) }
def laidList : List (String × DataW Unit) := [("math/bits.deBruijn32tab", Rows.laid_math_bits_deBruijn32tab), ("math/bits.deBruijn64tab", Rows.laid_math_bits_deBruijn64tab), ("internal/strconv.uint64pow10", Rows.laid_internal_strconv_uint64pow10), ("unicode/utf8.acceptRanges", Rows.laid_unicode_utf8_acceptRanges), ("strconv.ErrRange", Rows.laid_strconv_ErrRange), ("strconv.ErrSyntax", Rows.laid_strconv_ErrSyntax), ("chisel/time.monthDays", Rows.laid_chisel_time_monthDays), ("unicode/utf8.first", Rows.laid_unicode_utf8_first)]
theorem iface_of_reads {P : Program} {w : World} {n : String} {g : Nat} {t : TypeId} {ms : Array (String × TypeId)} {d : DataW Unit} (hn : P.globalNamed n = some g) (hy : (P.globals[g]?).map (·.type) = some t) (ht : P.underlying t = some (.interface ms)) (h : VarReads P w n d) :
    ∃ ev, w.cell? ⟨g, 0, none⟩ = some ev ∧ (ev = .nilIface ∨ ∃ te pe, ev = .iface te pe) := by
  obtain ⟨g', t', cs, fuel, p, h1, h2, h3, h4⟩ := h
  rw [hn] at h1
  cases h1
  rw [hy] at h2
  cases h2
  have hcs : cs.toList = [.nilIface] ∨ ∃ te pe, cs.toList = [.iface te pe] := by
    cases fuel with
    | zero => simp [DataW.trod] at h4
    | succ fuel =>
      generalize cs.toList = l at h4
      match l, h4 with
      | [], h4 => simp [DataW.trod, ht] at h4
      | [v], h4 => cases v <;> simp [DataW.trod, ht] at h4 ⊢
      | a :: b :: r, h4 => simp [DataW.trod, ht] at h4
  have hh : ∃ e f, w.heap[g]? = some (.cells cs e f) := by
    unfold World.var? at h3
    rw [hn] at h3
    simp only [Option.bind_some] at h3
    split at h3
    · cases h3; exact ⟨_, _, by assumption⟩
    · cases h3
  obtain ⟨e, f, hh⟩ := hh
  have hc0 : ∀ v, cs.toList = [v] → w.cell? ⟨g, 0, none⟩ = some v := by
    intro v hv
    have : cs = #[v] := Array.ext' (by simpa using hv)
    subst this
    simp [World.cell?, hh]
  rcases hcs with hcs | ⟨te, pe, hcs⟩
  · exact ⟨_, hc0 _ hcs, .inl rfl⟩
  · exact ⟨_, hc0 _ hcs, .inr ⟨te, pe, rfl⟩⟩
theorem pow10_eq : Rows.laid_internal_strconv_uint64pow10 = (Lib.tabData .u64 Lib.pow10Tab : DataW Unit) := by kernel_rfl
/-- A listed table's cells. -/
theorem tabIs_of_reads {P : Program} {W : World} {name : String} {k : IntKind} {zs : List Int} {g : Nat} {t e : TypeId} {n : Nat}
    (hg : P.globalNamed name = some g) (hty : (P.globals[g]?).map (·.type) = some t) (ht : P.underlying t = some (.array n e)) (he : P.underlying e = some (.int k)) (hce : P.cellsOf e = 1) (hct : P.cellsOf t = n)
    (h : VarReads P W name (Lib.tabData k zs)) : Lib.TabIs P W name k zs := by
  obtain ⟨g', t', cs, fuel, p, hg', ht', hvar, hd⟩ := h
  obtain rfl := Option.some.inj (hg.symm.trans hg')
  obtain rfl := Option.some.inj (hty.symm.trans ht')
  unfold Lib.TabIs
  rw [hvar, ← Lib.cells_of_tab ht he hce hct hd]
theorem months_eq : Rows.laid_chisel_time_monthDays = (Lib.tabData .i64 [31, 28, 31, 30, 31, 30, 31, 31, 30, 31, 30, 31] : DataW Unit) := by kernel_rfl
set_option maxRecDepth 1000000 in
theorem groundT_of {W : World} (hL : laidMet Tryz.prog laidList W) (hsh : W.ShapedOpen Tryz.prog) : GrT W := by
  refine ⟨⟨?_, ?_⟩, ?_, ?_⟩
  · have h3 := Lib.laidMet.reads hL (.tail _ (.tail _ (.head _)))
    rw [pow10_eq] at h3
    exact tabIs_of_reads (g := 6) (t := 231) (e := 157) (by kernel_rfl) (by kernel_rfl) Tryz.underlying231 Tryz.underlying157 (by kernel_rfl) (by kernel_rfl) h3
  · exact Go.Proofs.cell_of_shapedOpen_int (zero := #[.int .i64 0]) (t := 3) hsh (of_decide_eq_true (by kernel_rfl)) (by kernel_rfl) rfl (by kernel_rfl) (by kernel_rfl) Tryz.underlying3
  · exact iface_of_reads (t := 118) (by kernel_rfl) (by kernel_rfl) Tryz.underlying118 (Lib.laidMet.reads hL (.tail _ (.tail _ (.tail _ (.tail _ (.head _))))))
  · have h7 := Lib.laidMet.reads hL (.tail _ (.tail _ (.tail _ (.tail _ (.tail _ (.tail _ (.head _)))))))
    rw [months_eq] at h7
    have ht := tabIs_of_reads (g := 0) (t := 142) (e := 3) (by kernel_rfl) (by kernel_rfl) Tryz.underlying142 Tryz.underlying3 (by kernel_rfl) (by kernel_rfl) h7
    intro i hi
    have hc := Lib.TabIs.cell ht (g := 0) (by kernel_rfl) i (by simpa using hi)
    rw [hc]
    congr 2
    rcases (show i = 0 ∨ i = 1 ∨ i = 2 ∨ i = 3 ∨ i = 4 ∨ i = 5 ∨ i = 6 ∨ i = 7 ∨ i = 8 ∨ i = 9 ∨ i = 10 ∨ i = 11 by omega) with rfl | rfl | rfl | rfl | rfl | rfl | rfl | rfl | rfl | rfl | rfl | rfl <;> rfl
theorem laid_met (os : Os) (args : Array Value) : laidMet Tryz.prog laidList ((laidWorld os).forCall (fun _ _ => 0) ⟨#[], args, []⟩).memory :=
  (LaidIn.of_run (l := laidList) [7, 8, 9, 10, 6, 2, 1, 0, (World.holding Tryz.prog os ⟨#[], #[], []⟩).heap.size, (World.holding Tryz.prog os ⟨#[], #[], []⟩).heap.size + 1] 8 (by kernel_rfl) (by kernel_rfl) (by kernel_rfl) (by kernel_rfl)).met
theorem i64_bounds {x : Int} (h : (Lit.int .i64 x).wf = true) : -9223372036854775808 ≤ x ∧ x ≤ 9223372036854775807 := bounds_i64 h
end Go.Proofs.YtgmnjghbafbopaaGreatDoor
namespace Go.Proofs.YtgmnjghbafbopaaGreatDoor
open Go.ChangeShapes Go.WideShapes Go.ChangeAt Go.RowKit Go.Lib Go.Shelf

theorem fld_int {H : Type} {enc : TypeId × Value → H} {w : World} {base : Nat} {sp : Nat → Bool} {held : Bool} {n : Nat} {c : Value} {x : DataW H × List MemPlace} (h : DataW.trod enc Tryz.prog w base sp held n 3 [c] = some x) : ∃ v, c = .int .i64 v ∧ (-9223372036854775808 ≤ v ∧ v ≤ 9223372036854775807) := by
  obtain ⟨v, h1, _, hw⟩ := DataW.trod_int Tryz.underlying3 h
  injection h1 with h1 _
  exact ⟨v, h1, bounds_i64 hw⟩
theorem fld_str {H : Type} {enc : TypeId × Value → H} {w : World} {base : Nat} {sp : Nat → Bool} {held : Bool} {n : Nat} {c : Value} {x : DataW H × List MemPlace} (h : DataW.trod enc Tryz.prog w base sp held n 9 [c] = some x) : ∃ v : ByteArray, c = .string v ∧ v.size ≤ maxLen := by
  obtain ⟨v, h1, _, hw⟩ := DataW.trod_string Tryz.underlying9 h
  injection h1 with h1 _
  exact ⟨v, h1, hw⟩
theorem fld_bool {H : Type} {enc : TypeId × Value → H} {w : World} {base : Nat} {sp : Nat → Bool} {held : Bool} {n : Nat} {c : Value} {x : DataW H × List MemPlace} (h : DataW.trod enc Tryz.prog w base sp held n 4 [c] = some x) : ∃ v : Bool, c = .bool v := by
  obtain ⟨v, h1, _⟩ := DataW.trod_bool Tryz.underlying4 h
  injection h1 with h1 _
  exact ⟨v, h1⟩
theorem array8 {α : Type} {cs : Array α} (h : cs.size = 8) : ∃ c0 c1 c2 c3 c4 c5 c6 c7, cs = #[c0, c1, c2, c3, c4, c5, c6, c7] := by
  obtain ⟨l⟩ := cs
  match l, h with
  | [c0, c1, c2, c3, c4, c5, c6, c7], _ => exact ⟨c0, c1, c2, c3, c4, c5, c6, c7, rfl⟩
set_option maxRecDepth 1000000 in
/-- A moment that comes in: its fields, each within its bounds. -/
theorem open_mom {H : Type} {enc : TypeId × Value → H} {w : World} {r : Reach} {b0 base : Nat} {sp : Nat → Bool} {held : Bool} {v : Value} {d : DataW H} {ps : List MemPlace} (hval : Value.okWide Tryz.prog w r b0 24 v) (hd : DataW.Trod enc Tryz.prog w base sp held 24 v d ps) :
    ∃ (y mo dy h mi : Int) (S : ByteArray) (z : Int) (has : Bool), v = .agg #[.int .i64 y, .int .i64 mo, .int .i64 dy, .int .i64 h, .int .i64 mi, .string S, .int .i64 z, .bool has] ∧ (-9223372036854775808 ≤ y ∧ y ≤ 9223372036854775807) ∧ (-9223372036854775808 ≤ mo ∧ mo ≤ 9223372036854775807) ∧ (-9223372036854775808 ≤ dy ∧ dy ≤ 9223372036854775807) ∧ (-9223372036854775808 ≤ h ∧ h ≤ 9223372036854775807) ∧ (-9223372036854775808 ≤ mi ∧ mi ≤ 9223372036854775807) ∧ S.size ≤ maxLen ∧ (-9223372036854775808 ≤ z ∧ z ≤ 9223372036854775807) := by
  obtain ⟨cs, rfl, hsz⟩ := okWide_struct Tryz.underlying24 hval
  have hC : Tryz.prog.cellsOf 24 = 8 := by kernel_rfl
  have hI : Tryz.prog.cellsOf 3 = 1 := by kernel_rfl
  have hS : Tryz.prog.cellsOf 9 = 1 := by kernel_rfl
  have hB : Tryz.prog.cellsOf 4 = 1 := by kernel_rfl
  rw [hC] at hsz
  obtain ⟨c0, c1, c2, c3, c4, c5, c6, c7, rfl⟩ := array8 hsz
  obtain ⟨fuel, hf⟩ := hd
  obtain ⟨xs, n, _, _, _, hxl, hx⟩ := DataW.trod_struct Tryz.underlying24 hf
  have g : ∀ i, i < 8 → ∃ x, xs[i]? = some x := fun i hi => ⟨_, List.getElem?_eq_getElem (by rw [hxl]; exact hi)⟩
  have k0 : DataW.trod enc Tryz.prog w base sp held n 3 ((([c0, c1, c2, c3, c4, c5, c6, c7] : List Value).drop 0).take (Tryz.prog.cellsOf 3)) = xs[0]? := hx 0 _ rfl
  rw [hI] at k0
  have k1 : DataW.trod enc Tryz.prog w base sp held n 3 ((([c0, c1, c2, c3, c4, c5, c6, c7] : List Value).drop 1).take (Tryz.prog.cellsOf 3)) = xs[1]? := hx 1 _ rfl
  rw [hI] at k1
  have k2 : DataW.trod enc Tryz.prog w base sp held n 3 ((([c0, c1, c2, c3, c4, c5, c6, c7] : List Value).drop 2).take (Tryz.prog.cellsOf 3)) = xs[2]? := hx 2 _ rfl
  rw [hI] at k2
  have k3 : DataW.trod enc Tryz.prog w base sp held n 3 ((([c0, c1, c2, c3, c4, c5, c6, c7] : List Value).drop 3).take (Tryz.prog.cellsOf 3)) = xs[3]? := hx 3 _ rfl
  rw [hI] at k3
  have k4 : DataW.trod enc Tryz.prog w base sp held n 3 ((([c0, c1, c2, c3, c4, c5, c6, c7] : List Value).drop 4).take (Tryz.prog.cellsOf 3)) = xs[4]? := hx 4 _ rfl
  rw [hI] at k4
  have k5 : DataW.trod enc Tryz.prog w base sp held n 9 ((([c0, c1, c2, c3, c4, c5, c6, c7] : List Value).drop 5).take (Tryz.prog.cellsOf 9)) = xs[5]? := hx 5 _ rfl
  rw [hS] at k5
  have k6 : DataW.trod enc Tryz.prog w base sp held n 3 ((([c0, c1, c2, c3, c4, c5, c6, c7] : List Value).drop 6).take (Tryz.prog.cellsOf 3)) = xs[6]? := hx 6 _ rfl
  rw [hI] at k6
  have k7 : DataW.trod enc Tryz.prog w base sp held n 4 ((([c0, c1, c2, c3, c4, c5, c6, c7] : List Value).drop 7).take (Tryz.prog.cellsOf 4)) = xs[7]? := hx 7 _ rfl
  rw [hB] at k7
  obtain ⟨x0, e0⟩ := g 0 (by decide)
  obtain ⟨x1, e1⟩ := g 1 (by decide)
  obtain ⟨x2, e2⟩ := g 2 (by decide)
  obtain ⟨x3, e3⟩ := g 3 (by decide)
  obtain ⟨x4, e4⟩ := g 4 (by decide)
  obtain ⟨x5, e5⟩ := g 5 (by decide)
  obtain ⟨x6, e6⟩ := g 6 (by decide)
  obtain ⟨x7, e7⟩ := g 7 (by decide)
  obtain ⟨v0, rfl, b0⟩ := fld_int (c := c0) (k0.trans e0)
  obtain ⟨v1, rfl, b1⟩ := fld_int (c := c1) (k1.trans e1)
  obtain ⟨v2, rfl, b2⟩ := fld_int (c := c2) (k2.trans e2)
  obtain ⟨v3, rfl, b3⟩ := fld_int (c := c3) (k3.trans e3)
  obtain ⟨v4, rfl, b4⟩ := fld_int (c := c4) (k4.trans e4)
  obtain ⟨v5, rfl, b5⟩ := fld_str (c := c5) (k5.trans e5)
  obtain ⟨v6, rfl, b6⟩ := fld_int (c := c6) (k6.trans e6)
  obtain ⟨v7, rfl⟩ := fld_bool (c := c7) (k7.trans e7)
  exact ⟨v0, v1, v2, v3, v4, v5, v6, v7, rfl, b0, b1, b2, b3, b4, b5, b6⟩
end Go.Proofs.YtgmnjghbafbopaaGreatDoor

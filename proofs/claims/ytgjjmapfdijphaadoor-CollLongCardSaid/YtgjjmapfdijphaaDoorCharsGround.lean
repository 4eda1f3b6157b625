/- What package chars leans on in memory: the library's tables and one variable; and the contract of chars.IsText. -/
import Derived.Test.YtgjjmapfdijphaaDoorCharsText
import Derived.Test.YtgjjmapfdijphaaDoorShelf
namespace Go.Proofs.YtgjjmapfdijphaaDoor
open Go.RowKit Go.Lib

/-- The library's tables and its variable MaxLen are in memory. -/
def Gr (w : World) : Prop := Lib.Utf8Tabs 0 1 w ∧ ∃ m, w.cell? ⟨2, 0, none⟩ = some (.int .i64 m)
theorem Gr.later {w w' : World} (h : Gr w) (hb : Below w.heap.size w w') : Gr w' := by
  refine ⟨Utf8Tabs_below h.1 hb, ?_⟩
  obtain ⟨m, hm⟩ := h.2
  refine ⟨m, (hb.cell ?_).trans hm⟩
  rcases Nat.lt_or_ge 2 w.heap.size with h' | h'
  · exact h'
  · simp [World.cell?, Array.getElem?_eq_none h'] at hm
theorem Gr.drewN {w : World} (h : Gr w) : ∀ n, Gr (w.drewN n)
  | 0 => h
  | n + 1 => (h.drewN n).later (Below.refl _ _).drew

theorem isText_any (s : ByteArray) (w : World) (hs : s.size ≤ 9223372036854775807) (hg : Gr w) :
    Calls Tryd.prog 16 #[.string s] w fun e w' => e = .returned (.bool (text s.data.toList)) ∧ Below w.heap.size w w' :=
  isText_of s w (Tryd.utf8_ValidString s w hs hg.1)

theorem below_drewN {B : Nat} {a w : World} (h : Below B a w) : ∀ q, Below B a (w.drewN q)
  | 0 => h
  | q + 1 => (below_drewN h q).drew

/-- Names: texts of at most 100 characters, one part, or two with a colon between them. -/
def nameL (l : List UInt8) : Bool := text l && decide ((steps l).length ≤ 100) && (partL (Lib.cut l [58]).1 && (!(Lib.cut l [58]).2.2 || partL (Lib.cut l [58]).2.1))

end Go.Proofs.YtgjjmapfdijphaaDoor

/- The contract of chars.isPart: a loop over the characters of a string. -/
import Derived.Test.YtgjjmapfdijphaaDoorCharsPure
import Derived.Deep.LoopGhost
import Derived.Lib.OthersKept
import Derived.Below
namespace Go.Proofs.YtgjjmapfdijphaaDoor
open Go.RowKit Go.Lib

/-- What isPart's loop asks of the steps that are left; 'first': none was taken yet. -/
def partS : Bool → List (Nat × Nat) → Bool
  | _, [] => true
  | first, x :: t => if letZ (x.1 : Int) = false ∧ (first = true ∨ latZ (x.1 : Int) = false) then false else partS false t
def partL (l : List UInt8) : Bool := partS true (steps l) && !l.isEmpty

theorem iter_below (w : World) (s : ByteArray) (p : Nat) : Below w.heap.size w (w.iter s p) := (Below.refl _ w).alloc (Nat.le_refl _) _

end Go.Proofs.YtgjjmapfdijphaaDoor

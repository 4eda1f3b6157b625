/- The contracts of chars.IsSpace and chars.Norm. -/
import Derived.Test.YtgjjmapfdijphaaDoorCharsGround
import Derived.Test.YtgjjmapfdijphaaDoorCharsPlain3
import Derived.Laws.OwnMore
namespace Go.Proofs.YtgjjmapfdijphaaDoor
open Go.RowKit Go.Lib

def spaceL (l : List UInt8) : Bool := l.all whiteB
theorem whiteFn_grows (w : World) : PredGrows Tryd.prog 54 #[] white w := fun W x _ _ =>
  (isWhite_any (x : Int) W).mono fun _ _ ⟨h1, h2⟩ => ⟨by rw [h1, whiteZ_nat], h2 ▸ Below.refl _ _⟩


end Go.Proofs.YtgjjmapfdijphaaDoor

import Derived.Test.YtoiacbdnkkolmabR2
import Derived.Deep.LoopGhost
namespace Go.Proofs.Ytoiacbdnkkolmab
open Go.RowKit

/-- A slice of open calls, in blocks from lo on. -/
def FrsAt (lo : Nat) (w : World) (v : Value) (l : List Fr) : Prop := w.ownsRow lo 105 3 v l.length (frCells l)

theorem FrsAt.below {lo : Nat} {w w' : World} {v : Value} {l : List Fr} (h : FrsAt lo w v l) (hb : Below w.heap.size w w') : FrsAt lo w' v l := owns_below h hb

end Go.Proofs.Ytoiacbdnkkolmab

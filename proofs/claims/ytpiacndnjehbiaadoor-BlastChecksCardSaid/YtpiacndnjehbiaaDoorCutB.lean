/- A frame with some slots set, told by a list: it reads without unfolding the frame twice. -/
import Derived.Test.YtpiacndnjehbiaaDoorCut
namespace Go.Proofs.YtpiacndnjehbiaaDoor
open Go.RowKit
def sets (a : Act) (l : List (Nat × Value)) : Act := { tmps := (l.foldl (fun t p => t.set p.1 p.2) a.tmps.toList).toArray, defers := a.defers }
end Go.Proofs.YtpiacndnjehbiaaDoor

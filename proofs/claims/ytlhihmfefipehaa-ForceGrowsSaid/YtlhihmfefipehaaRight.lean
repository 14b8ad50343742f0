/- Contracts of what package span says of the origin and the corners of a sweep. Condition: the corners are places. -/
import Derived.Test.YtlhihmfefipehaaTailInG
namespace Go.Proofs.Ytlhihmfefipehaa
open Go.RowKit Go.Shelf
attribute [local go_sem] Oper.semAt_some
attribute [local go_sem] Ext.cell Ext.frozen Ext.lt Ext.le Ext.lt_add Ext.le_add Ext.ne Ext.ne' lt2 lt3 lt4 lt5 le2 le3 le4
theorem KeepsOthers.below {W W' : World} (h : Below W.heap.size W W') : KeepsOthers W W' :=
  ⟨h.size, fun k _ hk _ => (h.block k (Array.getElem?_eq_some_iff.1 hk).1).trans hk⟩
/-- No corner is to the right of c. -/
def rightOk (cx cy : Int) (o : Pl) : Bool := decide (0 ≤ cx * o.y - cy * o.x)
end Go.Proofs.Ytlhihmfefipehaa

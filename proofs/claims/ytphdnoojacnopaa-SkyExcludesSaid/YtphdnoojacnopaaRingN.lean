/- Contract of NewRing. No condition. -/
import Derived.Test.YtphdnoojacnopaaRing
import Derived.WalkLawsBesides
namespace Go.Proofs.Ytphdnoojacnopaa
open Go.RowKit Go.Shelf
attribute [local go_sem] Ext.cell Ext.frozen Ext.lt Ext.le Ext.lt_add Ext.le_add Ext.ne Ext.ne' lt2 lt3 lt4 lt5 le2 le3 le4
/-- The numbers of a list that came in. -/
structure ListIn (w : World) (p : Option Addr) (len : Nat) (z : Nat → Int) : Prop where
  long : len < 9223372036854775808
  some : len ≠ 0 → ∃ B o, p = some ⟨B, o, none⟩ ∧ B < w.heap.size ∧ ∀ i, i < len → w.cell? ⟨B, o + i, none⟩ = some (.int .i64 (z i)) ∧ I64 (z i)
end Go.Proofs.Ytphdnoojacnopaa

/- Contract of package sky's iterator of the corners of an area. No condition. -/
import Derived.Test.YtgoilmiiegpnoaaSkyH
import Derived.RangeFuncNested
import Derived.RangeFuncFrom
import Derived.RangeFuncBound
import Derived.RangeFuncCalls
import Derived.RangeFuncLeaves
import Derived.Shelf.Abstract
import Derived.Shelf.RegionOpen
import Derived.OwnWalkIn
import Derived.TacticsInMore
import Derived.LoopNIn
import Derived.LoopIn
namespace Go.Proofs.Ytgoilmiiegpnoaa
open Go.RowKit Go.Shelf
attribute [local go_sem] Oper.semAt_some
attribute [local go_sem] Ext.cell Ext.frozen Ext.lt Ext.le Ext.lt_add Ext.le_add Ext.ne Ext.ne' lt2 lt3 lt4 lt5 le2 le3 le4
/-- A place as seen from a station. -/
structure Sn where
  x : Int
  y : Int
  hx : P27 x
  hy : P27 y
/-- An area as seen from a station. -/
structure SnA where
  a : Int
  b : Int
  c : Int
  d : Int
  ha : P27 a
  hb : P27 b
  hc : P27 c
  hd : P27 d
def cornersV (s : SnA) : List Sn := [⟨s.a, s.c, s.ha, s.hc⟩, ⟨s.a, s.d, s.ha, s.hd⟩, ⟨s.b, s.c, s.hb, s.hc⟩, ⟨s.b, s.d, s.hb, s.hd⟩]
def one2 (i : Nat) (a b : Int) : Int := if i = 0 then a else b
theorem one2_in {i : Nat} {a b : Int} (ha : P27 a) (hb : P27 b) : P27 (one2 i a b) := by unfold one2; split <;> assumption
theorem take_cornersV (s : SnA) (i j : Nat) (hi : i < 2) (hj : j < 2) : (cornersV s).take (2 * i + (j + 1)) = (cornersV s).take (2 * i + j) ++ [⟨one2 i s.a s.b, one2 j s.c s.d, one2_in s.ha s.hb, one2_in s.hc s.hd⟩] := by
  rcases (show i = 0 ∨ i = 1 by omega) with rfl | rfl <;> rcases (show j = 0 ∨ j = 1 by omega) with rfl | rfl <;> rfl
/-- An area in memory. -/
def AreaAt (W : World) (B : Nat) (a b c d : Int) : Prop := W.cell? ⟨B, 0, none⟩ = some (.int .i64 a) ∧ W.cell? ⟨B, 1, none⟩ = some (.int .i64 b) ∧ W.cell? ⟨B, 2, none⟩ = some (.int .i64 c) ∧ W.cell? ⟨B, 3, none⟩ = some (.int .i64 d)
theorem AreaAt.below {W W' : World} {B n : Nat} {a b c d : Int} (h : AreaAt W B a b c d) (hb : Below n W W') (hB : B < n) : AreaAt W' B a b c d :=
  ⟨(hb.cell (p := ⟨B, 0, none⟩) hB).trans h.1, (hb.cell (p := ⟨B, 1, none⟩) hB).trans h.2.1, (hb.cell (p := ⟨B, 2, none⟩) hB).trans h.2.2.1, (hb.cell (p := ⟨B, 3, none⟩) hB).trans h.2.2.2⟩
end Go.Proofs.Ytgoilmiiegpnoaa

/- Contracts of package span's numbers. No condition. -/
import Derived.Test.YtgoilmiiegpnoaaBase
namespace Go.Proofs.Ytgoilmiiegpnoaa
open Go.RowKit Go.Shelf
attribute [local go_sem] Ext.cell Ext.frozen Ext.lt Ext.le Ext.lt_add Ext.le_add Ext.ne Ext.ne' lt2 lt3 lt4 lt5 le2 le3 le4
/-- The error of a span. -/
def chk (lo hi : Int) : Int := if numB lo && numB hi then (if lo ≤ hi then 0 else 11) else 2
theorem chk_ok (lo hi : Int) : chk lo hi = 0 ↔ -1152921504606846976 ≤ lo ∧ hi ≤ 1152921504606846976 ∧ lo ≤ hi := by
  unfold chk numB
  repeat' split
  all_goals (simp at *; omega)
/-- Both numbers of a place are from -MaxFar to MaxFar; a radius is from 0 to MaxFar. -/
def farB (x y : Int) : Bool := decide (-268435456 ≤ x ∧ x ≤ 268435456 ∧ -268435456 ≤ y ∧ y ≤ 268435456)
def radB (r : Int) : Bool := decide (0 ≤ r ∧ r ≤ 268435456)
def sgn (n : Int) : Int := if n < 0 then -1 else if 0 < n then 1 else 0
theorem cmpw_sgn (m n : Int) : cmpw (whi m) (wlo m) (whi n) (wlo n) = sgn (m - n) := by
  unfold whi wlo; rw [cmpw_at]; unfold sgn
  repeat' split
  all_goals first | rfl | omega
theorem neg_I64 {a b : Int} (ha : I64 a) (hb : I64 b) : I64 (whi (-(a * b))) := by
  have := prod_bounds ha hb
  unfold I64 whi; omega
end Go.Proofs.Ytgoilmiiegpnoaa

/- Contract of Excludes: whether a sight excludes an area. Condition: a sky in memory. -/
import Derived.Test.YtgoilmiiegpnoaaSkyR
import Derived.Test.YtgoilmiiegpnoaaSkyN
namespace Go.Proofs.Ytgoilmiiegpnoaa
open Go.RowKit Go.Shelf
attribute [local go_sem] Option.isSome_some Ext.cell Ext.frozen Ext.lt Ext.le Ext.lt_add Ext.le_add Ext.ne Ext.ne' lt2 lt3 lt4 lt5 le2 le3 le4
/-- The corners of an area, and whether a word excludes it, as plain mathematics. -/
def corV (a b c d : Int) : List V2 := [⟨a, c⟩, ⟨a, d⟩, ⟨b, c⟩, ⟨b, d⟩]
def excl (g : WordR) (a b c d : Int) : Bool := match g with
  | .angle k => ((corV a b c d).all fun x => behindB k x.x x.y) || ((corV a b c d).all fun x => rightB k x.x x.y) || ((corV a b c d).all fun x => leftB2 k x.x x.y)
  | .ring lo hi => ((corV a b c d).all fun x => decide (sqV x.x x.y < lo * lo)) || decide (hi * hi < sqV (nearV a b) (nearV c d))
  | .empty k hi => (corV a b c d).all fun x => blocksB k hi x.x x.y
theorem excl_eq (g : WordR) (s : SnA) : excludesB g s = excl g s.a s.b s.c s.d := by cases g <;> rfl
def excludesV (s : SkyR) (x : SightR) (a b c d : Int) : Bool := match checkedR s x with
  | .ok k => partB a b && partB c d && excl k.says (a - k.frm.x) (b - k.frm.x) (c - k.frm.y) (d - k.frm.y)
  | .error _ => false
theorem part_seen {a b x : Int} (h : partB a b = true) (hx : -34603008 ≤ x ∧ x ≤ 34603008) : P27 (a - x) ∧ P27 (b - x) := by
  unfold partB at h
  simp only [Bool.and_eq_true, decide_eq_true_eq] at h
  unfold P27; omega
end Go.Proofs.Ytgoilmiiegpnoaa

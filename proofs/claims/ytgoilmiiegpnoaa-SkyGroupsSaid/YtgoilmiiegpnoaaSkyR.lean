/- Contracts of isPart, seenFrom, nearest, excludes: whether no place of an area agrees with what a sight says. Condition: the sizes of valid sights. -/
import Derived.Test.YtgoilmiiegpnoaaSkyQ
namespace Go.Proofs.Ytgoilmiiegpnoaa
open Go.RowKit Go.Shelf
attribute [local go_sem] Option.isSome_some Ext.cell Ext.frozen Ext.lt Ext.le Ext.lt_add Ext.le_add Ext.ne Ext.ne' lt2 lt3 lt4 lt5 le2 le3 le4
def partB (a b : Int) : Bool := decide (-33554432 ≤ a) && decide (a ≤ b) && decide (b ≤ 33554432)
theorem ret_pair {a b c d : Int} (h1 : a = c) (h2 : b = d) : Ending.returned (.agg #[.int .i64 a, .int .i64 b]) = .returned (.agg #[.int .i64 c, .int .i64 d]) := by rw [h1, h2]
def nearV (a b : Int) : Int := max a (min b 0)
theorem nearV_in {a b : Int} (ha : P27 a) (hb : P27 b) : P27 (nearV a b) := by unfold P27 nearV at *; omega
def tooNear (lo : Int) (x : Sn) : Bool := decide (sqV x.x x.y < lo * lo)
def excludesB : WordR → SnA → Bool
  | .angle k, s => ((cornersV s).all fun x => behindB k x.x x.y) || ((cornersV s).all fun x => rightB k x.x x.y) || ((cornersV s).all fun x => leftB2 k x.x x.y)
  | .ring lo hi, s => ((cornersV s).all (tooNear lo)) || decide (hi * hi < sqV (nearV s.a s.b) (nearV s.c s.d))
  | .empty k hi, s => (cornersV s).all fun x => blocksB k hi x.x x.y
theorem ta_11 (v : Value) (w : World) : (Instr.typeAssert (.iface 133 v) 101 133 true).run Try.prog w = .ok (.tuple #[v, .bool true]) w := by
  kernel_rfl
theorem ta_21 (v : Value) (w : World) : (Instr.typeAssert (.iface 127 v) 101 133 true).run Try.prog w = .ok (.tuple #[.agg #[.int .i64 0, .int .i64 0, .int .i64 0, .int .i64 0], .bool false]) w := by
  kernel_rfl
theorem ta_22 (v : Value) (w : World) : (Instr.typeAssert (.iface 127 v) 101 127 true).run Try.prog w = .ok (.tuple #[v, .bool true]) w := by
  kernel_rfl
theorem ta_31 (v : Value) (w : World) : (Instr.typeAssert (.iface 135 v) 101 133 true).run Try.prog w = .ok (.tuple #[.agg #[.int .i64 0, .int .i64 0, .int .i64 0, .int .i64 0], .bool false]) w := by
  kernel_rfl
theorem ta_32 (v : Value) (w : World) : (Instr.typeAssert (.iface 135 v) 101 127 true).run Try.prog w = .ok (.tuple #[.agg #[.int .i64 0, .int .i64 0], .bool false]) w := by
  kernel_rfl
theorem ta_33 (v : Value) (w : World) : (Instr.typeAssert (.iface 135 v) 101 135 true).run Try.prog w = .ok (.tuple #[v, .bool true]) w := by
  kernel_rfl
end Go.Proofs.Ytgoilmiiegpnoaa

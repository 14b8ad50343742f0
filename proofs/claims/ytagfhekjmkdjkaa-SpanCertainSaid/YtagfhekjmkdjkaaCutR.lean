/- A region of calls of the ring that makes two blocks, told once for all its orders. -/
import Derived.Test.YtagfhekjmkdjkaaCut
namespace Go.Proofs.Ytagfhekjmkdjkaa
open Go.RowKit
attribute [local go_sem] Ext.cell Ext.frozen Ext.lt Ext.le Ext.lt_add Ext.le_add Ext.ne Ext.ne' lt2 lt3 lt4 lt5 le2 le3 le4
/-- Two new blocks in a world in which nothing that was there has turned but for the ring, which has gone on. -/
structure TwoR (W : World) (b : Nat) (p : Option Addr) (len cap : Nat) (z : Nat → Int) (k : Nat) (B B' : Nat) (u v u' v' : Value) where
  at_ : RExt W b
  ring : RingAt at_.now b p len cap z k
  lo : W.heap.size ≤ B
  lo' : W.heap.size ≤ B'
  lt : B < at_.now.heap.size
  lt' : B' < at_.now.heap.size
  ne : B ≠ B'
  c0 : at_.now.cell? ⟨B, 0, none⟩ = some u
  c1 : at_.now.cell? ⟨B, 1, none⟩ = some v
  c0' : at_.now.cell? ⟨B', 0, none⟩ = some u'
  c1' : at_.now.cell? ⟨B', 1, none⟩ = some v'
theorem twoR_intro {W w' : World} {b : Nat} {p : Option Addr} {len cap : Nat} {z : Nat → Int} {k : Nat} {B B' : Nat} {u v u' v' : Value} (hb : BelowX b W.heap.size W w') (hr : RingAt w' b p len cap z k) (h1 : W.heap.size ≤ B) (h2 : W.heap.size ≤ B') (h3 : B < w'.heap.size) (h4 : B' < w'.heap.size) (h5 : B ≠ B')
    (c0 : w'.cell? ⟨B, 0, none⟩ = some u) (c1 : w'.cell? ⟨B, 1, none⟩ = some v) (c0' : w'.cell? ⟨B', 0, none⟩ = some u') (c1' : w'.cell? ⟨B', 1, none⟩ = some v') : ∃ t : TwoR W b p len cap z k B B' u v u' v', w' = t.at_.now :=
  ⟨⟨⟨w', hb⟩, hr, h1, h2, h3, h4, h5, c0, c1, c0', c1'⟩, rfl⟩
theorem cell_alloc_lt {W : World} {o : Obj} {n k : Nat} (h : n < W.heap.size) : (W.alloc o).cell? ⟨n, k, none⟩ = W.cell? ⟨n, k, none⟩ := World.cell?_of_block (w := W) (Below.heap_alloc W _ n h)
theorem cell_set_ne {W : World} {v : Value} {B o n k : Nat} (h : n ≠ B) : (W.setCell ⟨B, o, none⟩ v).cell? ⟨n, k, none⟩ = W.cell? ⟨n, k, none⟩ := World.cell?_of_block (w := W) (Below.heap_setCell _ _ _ _ h)
/-- What the loop of SpanCertain keeps: both areas, and the ring. -/
structure CR (w : World) (T U : Nat) (a b c d e f g h : Int) (p : Option Addr) (len cap : Nat) (z : Nat → Int) (k : Nat) (W : World) : Prop where
  a0 : W.cell? ⟨T, 0, none⟩ = some (.int .i64 a)
  a1 : W.cell? ⟨T, 1, none⟩ = some (.int .i64 b)
  a2 : W.cell? ⟨T, 2, none⟩ = some (.int .i64 c)
  a3 : W.cell? ⟨T, 3, none⟩ = some (.int .i64 d)
  b0 : W.cell? ⟨U, 0, none⟩ = some (.int .i64 e)
  b1 : W.cell? ⟨U, 1, none⟩ = some (.int .i64 f)
  b2 : W.cell? ⟨U, 2, none⟩ = some (.int .i64 g)
  b3 : W.cell? ⟨U, 3, none⟩ = some (.int .i64 h)
  lw : w.heap.size < W.heap.size
  lT : T < W.heap.size
  lU : U < W.heap.size
  ring : RingAt W w.heap.size p len cap z k
  bw : Below w.heap.size w W
/-- Two new blocks of four cells. -/
structure TwoE (W : World) (O O' : Nat) (c0 c1 c2 c3 d0 d1 d2 d3 : Int) where
  at_ : Ext W
  lo : W.heap.size ≤ O
  lo' : W.heap.size ≤ O'
  lt : O < at_.now.heap.size
  lt' : O' < at_.now.heap.size
  k0 : at_.now.cell? ⟨O, 0, none⟩ = some (.int .i64 c0)
  k1 : at_.now.cell? ⟨O, 1, none⟩ = some (.int .i64 c1)
  k2 : at_.now.cell? ⟨O, 2, none⟩ = some (.int .i64 c2)
  k3 : at_.now.cell? ⟨O, 3, none⟩ = some (.int .i64 c3)
  l0 : at_.now.cell? ⟨O', 0, none⟩ = some (.int .i64 d0)
  l1 : at_.now.cell? ⟨O', 1, none⟩ = some (.int .i64 d1)
  l2 : at_.now.cell? ⟨O', 2, none⟩ = some (.int .i64 d2)
  l3 : at_.now.cell? ⟨O', 3, none⟩ = some (.int .i64 d3)
theorem twoE_intro {W w' : World} {O O' : Nat} {c0 c1 c2 c3 d0 d1 d2 d3 : Int} (hb : Below W.heap.size W w') (h1 : W.heap.size ≤ O) (h2 : W.heap.size ≤ O') (h3 : O < w'.heap.size) (h4 : O' < w'.heap.size)
    (k0 : w'.cell? ⟨O, 0, none⟩ = some (.int .i64 c0)) (k1 : w'.cell? ⟨O, 1, none⟩ = some (.int .i64 c1)) (k2 : w'.cell? ⟨O, 2, none⟩ = some (.int .i64 c2)) (k3 : w'.cell? ⟨O, 3, none⟩ = some (.int .i64 c3))
    (l0 : w'.cell? ⟨O', 0, none⟩ = some (.int .i64 d0)) (l1 : w'.cell? ⟨O', 1, none⟩ = some (.int .i64 d1)) (l2 : w'.cell? ⟨O', 2, none⟩ = some (.int .i64 d2)) (l3 : w'.cell? ⟨O', 3, none⟩ = some (.int .i64 d3)) :
    ∃ t : TwoE W O O' c0 c1 c2 c3 d0 d1 d2 d3, w' = t.at_.now :=
  ⟨⟨⟨w', hb⟩, h1, h2, h3, h4, k0, k1, k2, k3, l0, l1, l2, l3⟩, rfl⟩
/-- What a round of SpanCertain keeps: both areas, a place of each, and the ring. -/
structure LS (w : World) (T U B B' : Nat) (a b c d e f g h x1 y1 x2 y2 : Int) (p : Option Addr) (len cap : Nat) (z : Nat → Int) (k : Nat) (W : World) : Prop where
  cr : CR w T U a b c d e f g h p len cap z k W
  p0 : W.cell? ⟨B, 0, none⟩ = some (.int .i64 x1)
  p1 : W.cell? ⟨B, 1, none⟩ = some (.int .i64 y1)
  q0 : W.cell? ⟨B', 0, none⟩ = some (.int .i64 x2)
  q1 : W.cell? ⟨B', 1, none⟩ = some (.int .i64 y2)
  lB : B < W.heap.size
  lB' : B' < W.heap.size
section
variable {w W : World} {T U B B' : Nat} {a b c d e f g h x1 y1 x2 y2 : Int} {p : Option Addr} {len cap : Nat} {z : Nat → Int} {k : Nat}
theorem CR.ext (hC : CR w T U a b c d e f g h p len cap z k W) (y : Ext W) : CR w T U a b c d e f g h p len cap z k y.now := by
  have hs := y.size
  obtain ⟨a0, a1, a2, a3, b0, b1, b2, b3, lw, lT, lU, hR, hB⟩ := hC
  exact ⟨(y.cell lT).trans a0, (y.cell lT).trans a1, (y.cell lT).trans a2, (y.cell lT).trans a3, (y.cell lU).trans b0, (y.cell lU).trans b1, (y.cell lU).trans b2, (y.cell lU).trans b3, by omega, by omega, by omega, RingAt.ext y hR, hB.trans (y.grew.mono (by omega))⟩
theorem LS.ext (hC : LS w T U B B' a b c d e f g h x1 y1 x2 y2 p len cap z k W) (y : Ext W) : LS w T U B B' a b c d e f g h x1 y1 x2 y2 p len cap z k y.now := by
  have hs := y.size
  obtain ⟨cr, p0, p1, q0, q1, lB, lB'⟩ := hC
  exact ⟨cr.ext y, (y.cell lB).trans p0, (y.cell lB).trans p1, (y.cell lB').trans q0, (y.cell lB').trans q1, by omega, by omega⟩
end
end Go.Proofs.Ytagfhekjmkdjkaa

/- A region told once for all its orders: what it leaves is stated of the frame that it got. A frame with some slots set, told by a list: it reads without unfolding the frame twice. What holds of a world as long as the blocks in a range stand: Held. Regions that take of a ring and fill boxes. No condition. -/
import Derived.Test.YtlhihmfefipehaaRing
import Derived.Test.YtlhihmfefipehaaFree
import Derived.Test.YtlhihmfefipehaaPairG
namespace Go.Proofs.Ytlhihmfefipehaa
open Go.RowKit
attribute [local go_sem] Ext.cell Ext.frozen Ext.lt Ext.le Ext.lt_add Ext.le_add Ext.ne Ext.ne' lt2 lt3 lt4 lt5 le2 le3 le4
theorem wp_tell {P : Program} {c : Code} {Q : Exit → Act → World → Prop} {a : Act} {w : World} (R : Act → World → Act → World → Prop) (h : c.wp P (fun e a' w' => e = .normal ∧ R a w a' w') a w)
    (hq : ∀ a' w', R a w a' w' → Q .normal a' w') : c.wp P Q a w :=
  wp_mono h fun _ a' w' ⟨he, hr⟩ => he ▸ hq a' w' hr
/-- Two new blocks in a world in which nothing that was there has turned. -/
structure Two (W : World) (B B' : Nat) (u v u' v' : Value) where
  at_ : Ext W
  lo : W.heap.size ≤ B
  lo' : W.heap.size ≤ B'
  lt : B < at_.now.heap.size
  lt' : B' < at_.now.heap.size
  ne : B ≠ B'
  c0 : at_.now.cell? ⟨B, 0, none⟩ = some u
  c1 : at_.now.cell? ⟨B, 1, none⟩ = some v
  c0' : at_.now.cell? ⟨B', 0, none⟩ = some u'
  c1' : at_.now.cell? ⟨B', 1, none⟩ = some v'
  f0 : at_.now.frozen? ⟨B, 0, none⟩ = false
  f1 : at_.now.frozen? ⟨B, 1, none⟩ = false
  f0' : at_.now.frozen? ⟨B', 0, none⟩ = false
  f1' : at_.now.frozen? ⟨B', 1, none⟩ = false
theorem two_intro {W w' : World} {B B' : Nat} {u v u' v' : Value} (hb : Below W.heap.size W w') (h1 : W.heap.size ≤ B) (h2 : W.heap.size ≤ B') (h3 : B < w'.heap.size) (h4 : B' < w'.heap.size) (h5 : B ≠ B')
    (c0 : w'.cell? ⟨B, 0, none⟩ = some u) (c1 : w'.cell? ⟨B, 1, none⟩ = some v) (c0' : w'.cell? ⟨B', 0, none⟩ = some u') (c1' : w'.cell? ⟨B', 1, none⟩ = some v')
    (f0 : w'.frozen? ⟨B, 0, none⟩ = false) (f1 : w'.frozen? ⟨B, 1, none⟩ = false) (f0' : w'.frozen? ⟨B', 0, none⟩ = false) (f1' : w'.frozen? ⟨B', 1, none⟩ = false) : ∃ t : Two W B B' u v u' v', w' = t.at_.now :=
  ⟨⟨⟨w', hb⟩, h1, h2, h3, h4, h5, c0, c1, c0', c1', f0, f1, f0', f1'⟩, rfl⟩
/-- What SpanGrows keeps of its variables: six spans in six blocks, of which those in T and U are written. -/
structure St (w W : World) (r B B' T U : Nat) (al ah bl bh cl ch dl dh pl ph ql qh : Int) : Prop where
  a0 : W.cell? ⟨r, 0, none⟩ = some (.int .i64 al)
  a1 : W.cell? ⟨r, 1, none⟩ = some (.int .i64 ah)
  b0 : W.cell? ⟨r + 1, 0, none⟩ = some (.int .i64 bl)
  b1 : W.cell? ⟨r + 1, 1, none⟩ = some (.int .i64 bh)
  c0 : W.cell? ⟨B, 0, none⟩ = some (.int .i64 cl)
  c1 : W.cell? ⟨B, 1, none⟩ = some (.int .i64 ch)
  d0 : W.cell? ⟨B', 0, none⟩ = some (.int .i64 dl)
  d1 : W.cell? ⟨B', 1, none⟩ = some (.int .i64 dh)
  p0 : W.cell? ⟨T, 0, none⟩ = some (.int .i64 pl)
  p1 : W.cell? ⟨T, 1, none⟩ = some (.int .i64 ph)
  q0 : W.cell? ⟨U, 0, none⟩ = some (.int .i64 ql)
  q1 : W.cell? ⟨U, 1, none⟩ = some (.int .i64 qh)
  f0 : W.frozen? ⟨T, 0, none⟩ = false
  f1 : W.frozen? ⟨T, 1, none⟩ = false
  g0 : W.frozen? ⟨U, 0, none⟩ = false
  g1 : W.frozen? ⟨U, 1, none⟩ = false
  lr : r < W.heap.size
  lr1 : r + 1 < W.heap.size
  lB : B < W.heap.size
  lB' : B' < W.heap.size
  lT : T < W.heap.size
  lU : U < W.heap.size
  ne : (T ≠ r ∧ T ≠ r + 1 ∧ T ≠ B ∧ T ≠ B') ∧ (U ≠ r ∧ U ≠ r + 1 ∧ U ≠ B ∧ U ≠ B') ∧ T ≠ U
  low : w.heap.size ≤ T ∧ w.heap.size ≤ U ∧ w.heap.size < W.heap.size
  bw : Below w.heap.size w W
section
variable {w W : World} {r B B' T U : Nat} {al ah bl bh cl ch dl dh pl ph ql qh : Int}
theorem St.make (y1 : Ext W) {c : TypeId} (y2 : Ext (y1.now.alloc (.cells #[.int .i64 pl, .int .i64 ph] c))) (a0 : W.cell? ⟨r, 0, none⟩ = some (.int .i64 al)) (a1 : W.cell? ⟨r, 1, none⟩ = some (.int .i64 ah)) (b0 : W.cell? ⟨r + 1, 0, none⟩ = some (.int .i64 bl)) (b1 : W.cell? ⟨r + 1, 1, none⟩ = some (.int .i64 bh))
    (c0 : W.cell? ⟨B, 0, none⟩ = some (.int .i64 cl)) (c1 : W.cell? ⟨B, 1, none⟩ = some (.int .i64 ch)) (d0 : W.cell? ⟨B', 0, none⟩ = some (.int .i64 dl)) (d1 : W.cell? ⟨B', 1, none⟩ = some (.int .i64 dh))
    (lr : r < W.heap.size) (lr1 : r + 1 < W.heap.size) (lB : B < W.heap.size) (lB' : B' < W.heap.size) (lw : w.heap.size < W.heap.size) (bw : Below w.heap.size w W) :
    St w (y2.now.alloc (.cells #[.int .i64 ql, .int .i64 qh] c)) r B B' y1.now.heap.size y2.now.heap.size al ah bl bh cl ch dl dh pl ph ql qh := by
  have s1 := y1.size
  have s2 := y2.size
  rw [World.size_alloc] at s2
  have old : ∀ n o, n < W.heap.size → (y2.now.alloc (.cells #[.int .i64 ql, .int .i64 qh] c)).cell? ⟨n, o, none⟩ = W.cell? ⟨n, o, none⟩ := fun n o hn => by
    have e1 : (y2.now.alloc (.cells #[.int .i64 ql, .int .i64 qh] c)).cell? ⟨n, o, none⟩ = y2.now.cell? ⟨n, o, none⟩ := World.cell?_of_block (w := y2.now) (Below.heap_alloc y2.now _ n (by omega))
    have e2 : (y1.now.alloc (.cells #[.int .i64 pl, .int .i64 ph] c)).cell? ⟨n, o, none⟩ = y1.now.cell? ⟨n, o, none⟩ := World.cell?_of_block (w := y1.now) (Below.heap_alloc y1.now _ n (by omega))
    rw [e1, y2.cell (by rw [World.size_alloc]; omega), e2, y1.cell hn]
  have x1 : Below w.heap.size w y1.now := bw.trans (y1.grew.mono (by omega))
  have x2 := x1.alloc (show w.heap.size ≤ y1.now.heap.size by omega) (.cells #[.int .i64 pl, .int .i64 ph] c)
  have x3 := x2.trans (y2.grew.mono (show w.heap.size ≤ _ by rw [World.size_alloc]; omega))
  have hT : y1.now.heap.size < y2.now.heap.size := by omega
  refine ⟨(old _ _ lr).trans a0, (old _ _ lr).trans a1, (old _ _ lr1).trans b0, (old _ _ lr1).trans b1, (old _ _ lB).trans c0, (old _ _ lB).trans c1, (old _ _ lB').trans d0, (old _ _ lB').trans d1, ?_, ?_, ?_, ?_, ?_, ?_, ?_, ?_, ?_, ?_, ?_, ?_, ?_, ?_, ⟨⟨?_, ?_, ?_, ?_⟩, ⟨?_, ?_, ?_, ?_⟩, ?_⟩, ⟨?_, ?_, ?_⟩, x3.alloc (show w.heap.size ≤ y2.now.heap.size by omega) _⟩
  all_goals first | (simp [go_sem, hT]; done) | (simp only [World.size_alloc]; omega) | omega
theorem St.ext (h : St w W r B B' T U al ah bl bh cl ch dl dh pl ph ql qh) (y : Ext W) : St w y.now r B B' T U al ah bl bh cl ch dl dh pl ph ql qh := by
  have hs := y.size
  obtain ⟨a0, a1, b0, b1, c0, c1, d0, d1, p0, p1, q0, q1, f0, f1, g0, g1, lr, lr1, lB, lB', lT, lU, ne, low, bw⟩ := h
  exact ⟨(y.cell lr).trans a0, (y.cell lr).trans a1, (y.cell lr1).trans b0, (y.cell lr1).trans b1, (y.cell lB).trans c0, (y.cell lB).trans c1, (y.cell lB').trans d0, (y.cell lB').trans d1, (y.cell lT).trans p0, (y.cell lT).trans p1, (y.cell lU).trans q0, (y.cell lU).trans q1,
    (y.frozen lT).trans f0, (y.frozen lT).trans f1, (y.frozen lU).trans g0, (y.frozen lU).trans g1, by omega, by omega, by omega, by omega, by omega, by omega, ne, ⟨low.1, low.2.1, by omega⟩, bw.trans (y.grew.mono (by omega))⟩
theorem St.setT (h : St w W r B B' T U al ah bl bh cl ch dl dh pl ph ql qh) (x y : Int) : St w ((W.setCell ⟨T, 0, none⟩ (.int .i64 x)).setCell ⟨T, 1, none⟩ (.int .i64 y)) r B B' T U al ah bl bh cl ch dl dh x y ql qh := by
  obtain ⟨a0, a1, b0, b1, c0, c1, d0, d1, p0, p1, q0, q1, f0, f1, g0, g1, lr, lr1, lB, lB', lT, lU, ⟨⟨n1, n2, n3, n4⟩, ⟨n5, n6, n7, n8⟩, n9⟩, low, bw⟩ := h
  have m1 := n1.symm; have m2 := n2.symm; have m3 := n3.symm; have m4 := n4.symm; have m9 := n9.symm
  constructor <;> first | (simp [go_sem, *]; done) | (simp only [World.size_setCell]; omega) | skip
  · exact (bw.setCell (p := ⟨T, 0, none⟩) low.1 _).setCell (p := ⟨T, 1, none⟩) low.1 _
theorem St.setU (h : St w W r B B' T U al ah bl bh cl ch dl dh pl ph ql qh) (x y : Int) : St w ((W.setCell ⟨U, 0, none⟩ (.int .i64 x)).setCell ⟨U, 1, none⟩ (.int .i64 y)) r B B' T U al ah bl bh cl ch dl dh pl ph x y := by
  obtain ⟨a0, a1, b0, b1, c0, c1, d0, d1, p0, p1, q0, q1, f0, f1, g0, g1, lr, lr1, lB, lB', lT, lU, ⟨⟨n1, n2, n3, n4⟩, ⟨n5, n6, n7, n8⟩, n9⟩, low, bw⟩ := h
  have m5 := n5.symm; have m6 := n6.symm; have m7 := n7.symm; have m8 := n8.symm; have m9 := n9.symm
  constructor <;> first | (simp [go_sem, *]; done) | (simp only [World.size_setCell]; omega) | skip
  · exact (bw.setCell (p := ⟨U, 0, none⟩) low.2.1 _).setCell (p := ⟨U, 1, none⟩) low.2.1 _
end
end Go.Proofs.Ytlhihmfefipehaa
namespace Go.Proofs.Ytlhihmfefipehaa
open Go.RowKit
def sets (a : Act) (l : List (Nat × Value)) : Act := { tmps := (l.foldl (fun t p => t.set p.1 p.2) a.tmps.toList).toArray, defers := a.defers }
end Go.Proofs.Ytlhihmfefipehaa
namespace Go.Proofs.Ytlhihmfefipehaa
open Go.RowKit Go.Shelf
theorem heap_setCellQ {W : World} {g k o : Nat} (h : k ≠ g) (v : Value) : (W.setCell ⟨g, o, none⟩ v).heap[k]? = W.heap[k]? := by
  have h2 : ¬ g = k := fun e => h e.symm
  simp [World.setCell, Array.getElem?_modify, h2]
theorem heap_setCellI {W : World} {g o : Nat} {cs : Array Value} {T : TypeId} {fr : Nat × Nat} (h : W.heap[g]? = some (.cells cs T fr)) (v : Value) : (W.setCell ⟨g, o, none⟩ v).heap[g]? = some (.cells (cs.setIfInBounds o v) T fr) := by
  simp [World.setCell, Array.getElem?_modify, h]
theorem frozen_rowQ {W : World} {g o : Nat} {cs : Array Value} {T : TypeId} (h : W.heap[g]? = some (.cells cs T (0, 0))) : W.frozen? ⟨g, o, none⟩ = false := by
  unfold World.frozen?
  simp [h]
theorem size_setRowQ (W : World) (g : Nat) (cs : Array Value) : (W.setRow g cs).heap.size = W.heap.size := by simp [World.setRow]
theorem row_ltQ {W : World} {g : Nat} {o : Obj} (h : W.heap[g]? = some o) : g < W.heap.size := (Array.getElem?_eq_some_iff.1 h).1
theorem wp_namedQ {c : Code} {P : Program} {Q : Exit → Act → World → Prop} {a : Act} {w : World} (h : ∀ W0, w = W0 → c.wp P Q a W0) : c.wp P Q a w := h w rfl
/-- P holds, and goes on to hold as long as the blocks from lo to hi stand. -/
def Held (P : World → Prop) (lo hi : Nat) (W : World) : Prop := hi ≤ W.heap.size ∧ ∀ W' : World, hi ≤ W'.heap.size → (∀ B o, lo ≤ B → B < hi → W'.cell? ⟨B, o, none⟩ = W.cell? ⟨B, o, none⟩) → P W'
section
variable {P : World → Prop} {lo hi b m g : Nat} {W W' w : World}
theorem Held.now (h : Held P lo hi W) : P W := h.2 W h.1 fun _ _ _ _ => rfl
theorem Held.on (h : Held P lo hi W) (hs : hi ≤ W'.heap.size) (hc : ∀ B o, lo ≤ B → B < hi → W'.cell? ⟨B, o, none⟩ = W.cell? ⟨B, o, none⟩) : Held P lo hi W' :=
  ⟨hs, fun W'' h1 h2 => h.2 W'' h1 fun B o h3 h4 => (h2 B o h3 h4).trans (hc B o h3 h4)⟩
theorem Held.rext (h : Held P lo hi W) (hb : b < lo) (y : RExt W b) : Held P lo hi y.now :=
  h.on (Nat.le_trans h.1 y.size) fun B o h1 h2 => y.cell (by have := h.1; omega) (by omega)
theorem Held.below (h : Held P lo hi W) (y : Below W.heap.size W W') : Held P lo hi W' :=
  h.on (Nat.le_trans h.1 y.size) fun B o h1 h2 => y.cell (p := ⟨B, o, none⟩) (by have := h.1; simp only; omega)
theorem Held.ext (h : Held P lo hi W) (y : Ext W) : Held P lo hi y.now := h.below y.grew
theorem Held.alloc (h : Held P lo hi W) (o : Obj) : Held P lo hi (W.alloc o) := h.below ((Below.refl _ _).alloc (Nat.le_refl _) o)
theorem Held.drew (h : Held P lo hi W) : Held P lo hi W.drew := h.below (Below.refl _ _).drew
theorem Held.row (h : Held P lo hi W) (hg : g < lo ∨ hi ≤ g) (cs : Array Value) : Held P lo hi (W.setRow g cs) :=
  h.on (by rw [size_setRowQ]; exact h.1) fun B o h1 h2 => World.cell?_of_block (a := ⟨B, o, none⟩) (setRow_other W g B cs (by omega))
theorem Held.set (h : Held P lo hi W) (hg : g < lo ∨ hi ≤ g) (o : Nat) (v : Value) : Held P lo hi (W.setCell ⟨g, o, none⟩ v) :=
  h.on (by simp; exact h.1) fun B o' h1 h2 => World.cell?_of_block (a := ⟨B, o', none⟩) (heap_setCellQ (show B ≠ g by omega) v)
theorem BelowX.row {n : Nat} (h : BelowX b n w W) (hg : n ≤ g) (cs : Array Value) : BelowX b n w (W.setRow g cs) := by
  have k : Below n W (W.setRow g cs) := below_setRow (Below.refl _ _) hg cs
  exact h.trans (.of k)
theorem RingM.rowQ (h : RingM W b m) (hg : b < g) (cs : Array Value) : RingM (W.setRow g cs) b m := by
  obtain ⟨p, len, cap, z, k, h, hk⟩ := h
  have hs : ∀ B, B ≤ b → (W.setRow g cs).heap[B]? = W.heap[B]? := fun B hB => setRow_other W g B cs (by omega)
  refine ⟨p, len, cap, z, k, ⟨?_, ?_, ?_, h.long, fun h0 => ?_⟩, hk⟩
  · exact (World.cell?_of_block (a := ⟨b, 0, none⟩) (hs b (Nat.le_refl _))).trans h.list
  · exact (World.cell?_of_block (a := ⟨b, 1, none⟩) (hs b (Nat.le_refl _))).trans h.count
  · exact (World.frozen?_of_block (a := ⟨b, 1, none⟩) (hs b (Nat.le_refl _))).trans h.free
  · obtain ⟨B, o, hp, hB, hi⟩ := h.some h0
    exact ⟨B, o, hp, hB, fun i hi' => ⟨(World.cell?_of_block (a := ⟨B, o + i, none⟩) (hs B (by omega))).trans (hi i hi').1, (hi i hi').2⟩⟩
end
end Go.Proofs.Ytlhihmfefipehaa

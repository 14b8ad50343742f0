/- A region told once for all its orders: what it leaves is stated of the frame that it got. A frame with some slots set, told by a list: it reads without unfolding the frame twice. Regions that draw their order and take of a ring: what is kept but for the ring's block and the rows that are written. No condition. Contract of package span's Root. Condition: a number of 64 bits. -/
import Derived.Test.YtlmhbggigbmeaaaDoorRing
import Derived.Test.YtlmhbggigbmeaaaDoorPairG
import Derived.Test.YtlmhbggigbmeaaaDoorFree
import Derived.RegionTactic
import Derived.Test.YtlmhbggigbmeaaaDoorKitG
import Derived.LoopTactic
import Derived.Laws.Bits64b
import Derived.Lib.ItoaNum
namespace Go.Proofs.YtlmhbggigbmeaaaDoor
open Go.RowKit
attribute [local go_sem] Ext.cell Ext.frozen Ext.lt Ext.le Ext.lt_add Ext.le_add Ext.ne Ext.ne' lt2 lt3 lt4 lt5 le2 le3 le4
theorem wp_tell {P : Program} {c : Code} {Q : Exit → Act → World → Prop} {a : Act} {w : World} (R : Act → World → Act → World → Prop) (h : c.wp P (fun e a' w' => e = .normal ∧ R a w a' w') a w)
    (hq : ∀ a' w', R a w a' w' → Q .normal a' w') : c.wp P Q a w :=
  wp_mono h fun _ a' w' ⟨he, hr⟩ => he ▸ hq a' w' hr
/-- Two new blocks in a world in which nothing that was there has turned. -/
structure Two (W : World) (B B' : Nat) (u v u' v' : Value) where
  at_ : Ext W
  lo : W.heap.size ≤ B
  lo' : W.heap.size ≤ B'
  lt : B < at_.now.heap.size
  lt' : B' < at_.now.heap.size
  ne : B ≠ B'
  c0 : at_.now.cell? ⟨B, 0, none⟩ = some u
  c1 : at_.now.cell? ⟨B, 1, none⟩ = some v
  c0' : at_.now.cell? ⟨B', 0, none⟩ = some u'
  c1' : at_.now.cell? ⟨B', 1, none⟩ = some v'
  f0 : at_.now.frozen? ⟨B, 0, none⟩ = false
  f1 : at_.now.frozen? ⟨B, 1, none⟩ = false
  f0' : at_.now.frozen? ⟨B', 0, none⟩ = false
  f1' : at_.now.frozen? ⟨B', 1, none⟩ = false
theorem two_intro {W w' : World} {B B' : Nat} {u v u' v' : Value} (hb : Below W.heap.size W w') (h1 : W.heap.size ≤ B) (h2 : W.heap.size ≤ B') (h3 : B < w'.heap.size) (h4 : B' < w'.heap.size) (h5 : B ≠ B')
    (c0 : w'.cell? ⟨B, 0, none⟩ = some u) (c1 : w'.cell? ⟨B, 1, none⟩ = some v) (c0' : w'.cell? ⟨B', 0, none⟩ = some u') (c1' : w'.cell? ⟨B', 1, none⟩ = some v')
    (f0 : w'.frozen? ⟨B, 0, none⟩ = false) (f1 : w'.frozen? ⟨B, 1, none⟩ = false) (f0' : w'.frozen? ⟨B', 0, none⟩ = false) (f1' : w'.frozen? ⟨B', 1, none⟩ = false) : ∃ t : Two W B B' u v u' v', w' = t.at_.now :=
  ⟨⟨⟨w', hb⟩, h1, h2, h3, h4, h5, c0, c1, c0', c1', f0, f1, f0', f1'⟩, rfl⟩
/-- What SpanGrows keeps of its variables: six spans in six blocks, of which those in T and U are written. -/
structure St (w W : World) (r B B' T U : Nat) (al ah bl bh cl ch dl dh pl ph ql qh : Int) : Prop where
  a0 : W.cell? ⟨r, 0, none⟩ = some (.int .i64 al)
  a1 : W.cell? ⟨r, 1, none⟩ = some (.int .i64 ah)
  b0 : W.cell? ⟨r + 1, 0, none⟩ = some (.int .i64 bl)
  b1 : W.cell? ⟨r + 1, 1, none⟩ = some (.int .i64 bh)
  c0 : W.cell? ⟨B, 0, none⟩ = some (.int .i64 cl)
  c1 : W.cell? ⟨B, 1, none⟩ = some (.int .i64 ch)
  d0 : W.cell? ⟨B', 0, none⟩ = some (.int .i64 dl)
  d1 : W.cell? ⟨B', 1, none⟩ = some (.int .i64 dh)
  p0 : W.cell? ⟨T, 0, none⟩ = some (.int .i64 pl)
  p1 : W.cell? ⟨T, 1, none⟩ = some (.int .i64 ph)
  q0 : W.cell? ⟨U, 0, none⟩ = some (.int .i64 ql)
  q1 : W.cell? ⟨U, 1, none⟩ = some (.int .i64 qh)
  f0 : W.frozen? ⟨T, 0, none⟩ = false
  f1 : W.frozen? ⟨T, 1, none⟩ = false
  g0 : W.frozen? ⟨U, 0, none⟩ = false
  g1 : W.frozen? ⟨U, 1, none⟩ = false
  lr : r < W.heap.size
  lr1 : r + 1 < W.heap.size
  lB : B < W.heap.size
  lB' : B' < W.heap.size
  lT : T < W.heap.size
  lU : U < W.heap.size
  ne : (T ≠ r ∧ T ≠ r + 1 ∧ T ≠ B ∧ T ≠ B') ∧ (U ≠ r ∧ U ≠ r + 1 ∧ U ≠ B ∧ U ≠ B') ∧ T ≠ U
  low : w.heap.size ≤ T ∧ w.heap.size ≤ U ∧ w.heap.size < W.heap.size
  bw : Below w.heap.size w W
section
variable {w W : World} {r B B' T U : Nat} {al ah bl bh cl ch dl dh pl ph ql qh : Int}
theorem St.make (y1 : Ext W) {c : TypeId} (y2 : Ext (y1.now.alloc (.cells #[.int .i64 pl, .int .i64 ph] c))) (a0 : W.cell? ⟨r, 0, none⟩ = some (.int .i64 al)) (a1 : W.cell? ⟨r, 1, none⟩ = some (.int .i64 ah)) (b0 : W.cell? ⟨r + 1, 0, none⟩ = some (.int .i64 bl)) (b1 : W.cell? ⟨r + 1, 1, none⟩ = some (.int .i64 bh))
    (c0 : W.cell? ⟨B, 0, none⟩ = some (.int .i64 cl)) (c1 : W.cell? ⟨B, 1, none⟩ = some (.int .i64 ch)) (d0 : W.cell? ⟨B', 0, none⟩ = some (.int .i64 dl)) (d1 : W.cell? ⟨B', 1, none⟩ = some (.int .i64 dh))
    (lr : r < W.heap.size) (lr1 : r + 1 < W.heap.size) (lB : B < W.heap.size) (lB' : B' < W.heap.size) (lw : w.heap.size < W.heap.size) (bw : Below w.heap.size w W) :
    St w (y2.now.alloc (.cells #[.int .i64 ql, .int .i64 qh] c)) r B B' y1.now.heap.size y2.now.heap.size al ah bl bh cl ch dl dh pl ph ql qh := by
  have s1 := y1.size
  have s2 := y2.size
  rw [World.size_alloc] at s2
  have old : ∀ n o, n < W.heap.size → (y2.now.alloc (.cells #[.int .i64 ql, .int .i64 qh] c)).cell? ⟨n, o, none⟩ = W.cell? ⟨n, o, none⟩ := fun n o hn => by
    have e1 : (y2.now.alloc (.cells #[.int .i64 ql, .int .i64 qh] c)).cell? ⟨n, o, none⟩ = y2.now.cell? ⟨n, o, none⟩ := World.cell?_of_block (w := y2.now) (Below.heap_alloc y2.now _ n (by omega))
    have e2 : (y1.now.alloc (.cells #[.int .i64 pl, .int .i64 ph] c)).cell? ⟨n, o, none⟩ = y1.now.cell? ⟨n, o, none⟩ := World.cell?_of_block (w := y1.now) (Below.heap_alloc y1.now _ n (by omega))
    rw [e1, y2.cell (by rw [World.size_alloc]; omega), e2, y1.cell hn]
  have x1 : Below w.heap.size w y1.now := bw.trans (y1.grew.mono (by omega))
  have x2 := x1.alloc (show w.heap.size ≤ y1.now.heap.size by omega) (.cells #[.int .i64 pl, .int .i64 ph] c)
  have x3 := x2.trans (y2.grew.mono (show w.heap.size ≤ _ by rw [World.size_alloc]; omega))
  have hT : y1.now.heap.size < y2.now.heap.size := by omega
  refine ⟨(old _ _ lr).trans a0, (old _ _ lr).trans a1, (old _ _ lr1).trans b0, (old _ _ lr1).trans b1, (old _ _ lB).trans c0, (old _ _ lB).trans c1, (old _ _ lB').trans d0, (old _ _ lB').trans d1, ?_, ?_, ?_, ?_, ?_, ?_, ?_, ?_, ?_, ?_, ?_, ?_, ?_, ?_, ⟨⟨?_, ?_, ?_, ?_⟩, ⟨?_, ?_, ?_, ?_⟩, ?_⟩, ⟨?_, ?_, ?_⟩, x3.alloc (show w.heap.size ≤ y2.now.heap.size by omega) _⟩
  all_goals first | (simp [go_sem, hT]; done) | (simp only [World.size_alloc]; omega) | omega
theorem St.ext (h : St w W r B B' T U al ah bl bh cl ch dl dh pl ph ql qh) (y : Ext W) : St w y.now r B B' T U al ah bl bh cl ch dl dh pl ph ql qh := by
  have hs := y.size
  obtain ⟨a0, a1, b0, b1, c0, c1, d0, d1, p0, p1, q0, q1, f0, f1, g0, g1, lr, lr1, lB, lB', lT, lU, ne, low, bw⟩ := h
  exact ⟨(y.cell lr).trans a0, (y.cell lr).trans a1, (y.cell lr1).trans b0, (y.cell lr1).trans b1, (y.cell lB).trans c0, (y.cell lB).trans c1, (y.cell lB').trans d0, (y.cell lB').trans d1, (y.cell lT).trans p0, (y.cell lT).trans p1, (y.cell lU).trans q0, (y.cell lU).trans q1,
    (y.frozen lT).trans f0, (y.frozen lT).trans f1, (y.frozen lU).trans g0, (y.frozen lU).trans g1, by omega, by omega, by omega, by omega, by omega, by omega, ne, ⟨low.1, low.2.1, by omega⟩, bw.trans (y.grew.mono (by omega))⟩
theorem St.setT (h : St w W r B B' T U al ah bl bh cl ch dl dh pl ph ql qh) (x y : Int) : St w ((W.setCell ⟨T, 0, none⟩ (.int .i64 x)).setCell ⟨T, 1, none⟩ (.int .i64 y)) r B B' T U al ah bl bh cl ch dl dh x y ql qh := by
  obtain ⟨a0, a1, b0, b1, c0, c1, d0, d1, p0, p1, q0, q1, f0, f1, g0, g1, lr, lr1, lB, lB', lT, lU, ⟨⟨n1, n2, n3, n4⟩, ⟨n5, n6, n7, n8⟩, n9⟩, low, bw⟩ := h
  have m1 := n1.symm; have m2 := n2.symm; have m3 := n3.symm; have m4 := n4.symm; have m9 := n9.symm
  constructor <;> first | (simp [go_sem, *]; done) | (simp only [World.size_setCell]; omega) | skip
  · exact (bw.setCell (p := ⟨T, 0, none⟩) low.1 _).setCell (p := ⟨T, 1, none⟩) low.1 _
theorem St.setU (h : St w W r B B' T U al ah bl bh cl ch dl dh pl ph ql qh) (x y : Int) : St w ((W.setCell ⟨U, 0, none⟩ (.int .i64 x)).setCell ⟨U, 1, none⟩ (.int .i64 y)) r B B' T U al ah bl bh cl ch dl dh pl ph x y := by
  obtain ⟨a0, a1, b0, b1, c0, c1, d0, d1, p0, p1, q0, q1, f0, f1, g0, g1, lr, lr1, lB, lB', lT, lU, ⟨⟨n1, n2, n3, n4⟩, ⟨n5, n6, n7, n8⟩, n9⟩, low, bw⟩ := h
  have m5 := n5.symm; have m6 := n6.symm; have m7 := n7.symm; have m8 := n8.symm; have m9 := n9.symm
  constructor <;> first | (simp [go_sem, *]; done) | (simp only [World.size_setCell]; omega) | skip
  · exact (bw.setCell (p := ⟨U, 0, none⟩) low.2.1 _).setCell (p := ⟨U, 1, none⟩) low.2.1 _
end
end Go.Proofs.YtlmhbggigbmeaaaDoor
namespace Go.Proofs.YtlmhbggigbmeaaaDoor
open Go.RowKit
def sets (a : Act) (l : List (Nat × Value)) : Act := { tmps := (l.foldl (fun t p => t.set p.1 p.2) a.tmps.toList).toArray, defers := a.defers }
end Go.Proofs.YtlmhbggigbmeaaaDoor
namespace Go.Proofs.YtlmhbggigbmeaaaDoor
open Go.RowKit Go.Shelf
/-- All blocks but the ring's and those from lo to hi stand as they did. -/
structure KeptX (b lo hi : Nat) (w w' : World) : Prop where
  os : w'.os = w.os
  tape : w'.tape = w.tape
  output : w'.output = w.output
  size : w.heap.size ≤ w'.heap.size
  block : ∀ B, B < w.heap.size → B ≠ b → ¬ (lo ≤ B ∧ B < hi) → w'.heap[B]? = w.heap[B]?
section
variable {b lo hi n m g : Nat} {w X W : World}
theorem KeptX.of (h : BelowX b X.heap.size X W) : KeptX b lo hi X W := ⟨h.os, h.tape, h.output, h.size, fun B hB hb _ => h.block B hB hb⟩
theorem KeptX.start : KeptX b lo hi X X.drew := KeptX.of (BelowX.refl _ _ _).drew
theorem KeptX.rext (h : KeptX b lo hi X W) (y : RExt W b) : KeptX b lo hi X y.now :=
  ⟨y.grew.os.trans h.os, y.grew.tape.trans h.tape, y.grew.output.trans h.output, Nat.le_trans h.size y.size, fun B hB hb hn => (y.grew.block B (Nat.lt_of_lt_of_le hB h.size) hb).trans (h.block B hB hb hn)⟩
theorem KeptX.row (h : KeptX b lo hi X W) (h1 : lo ≤ g) (h2 : g < hi) (cs : Array Value) : KeptX b lo hi X (W.setRow g cs) := by
  have k : Below 0 W (W.setRow g cs) := below_setRow (Below.refl _ _) (Nat.zero_le _) cs
  exact ⟨k.os.trans h.os, k.tape.trans h.tape, k.output.trans h.output, Nat.le_trans h.size k.size, fun B hB hb hn => (setRow_other W g B cs (by omega)).trans (h.block B hB hb hn)⟩
theorem KeptX.alloc (h : KeptX b lo hi X W) (o : Obj) : KeptX b lo hi X (W.alloc o) := by
  have k := (Below.refl W.heap.size W).alloc (Nat.le_refl _) o
  exact ⟨k.os.trans h.os, k.tape.trans h.tape, k.output.trans h.output, Nat.le_trans h.size k.size, fun B hB hb hn => (k.block B (Nat.lt_of_lt_of_le hB h.size)).trans (h.block B hB hb hn)⟩
theorem KeptX.ext (h : KeptX b lo hi X W) (y : Ext W) : KeptX b lo hi X y.now :=
  ⟨y.grew.os.trans h.os, y.grew.tape.trans h.tape, y.grew.output.trans h.output, Nat.le_trans h.size y.size, fun B hB hb hn => (y.grew.block B (Nat.lt_of_lt_of_le hB h.size)).trans (h.block B hB hb hn)⟩
theorem KeptX.cell (h : KeptX b lo hi X W) {B o : Nat} (hB : B < X.heap.size) (hb : B ≠ b) (hn : ¬ (lo ≤ B ∧ B < hi)) : W.cell? ⟨B, o, none⟩ = X.cell? ⟨B, o, none⟩ := World.cell?_of_block (a := ⟨B, o, none⟩) (h.block B hB hb hn)
theorem KeptX.belowX (h : KeptX b lo hi X W) (k : BelowX b n w X) (hn : n ≤ lo) (hX : n ≤ X.heap.size) : BelowX b n w W :=
  ⟨h.os.trans k.os, h.tape.trans k.tape, h.output.trans k.output, Nat.le_trans k.size h.size, fun B hB hb => (h.block B (by omega) hb (by omega)).trans (k.block B hB hb)⟩
theorem RingM.row (h : RingM W b m) (hg : b < g) (cs : Array Value) : RingM (W.setRow g cs) b m := by
  obtain ⟨p, len, cap, z, k, h, hk⟩ := h
  have hs : ∀ B, B ≤ b → (W.setRow g cs).heap[B]? = W.heap[B]? := fun B hB => setRow_other W g B cs (by omega)
  refine ⟨p, len, cap, z, k, ⟨?_, ?_, ?_, h.long, fun h0 => ?_⟩, hk⟩
  · exact (World.cell?_of_block (a := ⟨b, 0, none⟩) (hs b (Nat.le_refl _))).trans h.list
  · exact (World.cell?_of_block (a := ⟨b, 1, none⟩) (hs b (Nat.le_refl _))).trans h.count
  · exact (World.frozen?_of_block (a := ⟨b, 1, none⟩) (hs b (Nat.le_refl _))).trans h.free
  · obtain ⟨B, o, hp, hB, hi⟩ := h.some h0
    exact ⟨B, o, hp, hB, fun i hi' => ⟨(World.cell?_of_block (a := ⟨B, o + i, none⟩) (hs B (by omega))).trans (hi i hi').1, (hi i hi').2⟩⟩
theorem RExt.row {B : Nat} {v : Option Obj} (y : RExt W b) (h : W.heap[B]? = v) (hB : B < W.heap.size) (hb : B ≠ b) : y.now.heap[B]? = v := (y.grew.block B hB hb).trans h
end
theorem wpOp_open {P : Program} {ops : Array Oper} {Q : Exit → Act → World → Prop} {i : Nat} {o : Oper} {K : Act → World → Prop} {a : Act} {w : World} (ho : ops[i]? = some o) (hg : o.guard = none) (h : ∀ K' : Act → World → Prop, (∀ a w, K a w → K' a w) → Oper.wp P o a w K' Q) : wpOp P ops Q i K a w :=
  wpOp_step ho fun K' hK => by
    unfold Region.wanted
    rw [hg]
    exact h K' hK
theorem row_lt {W : World} {g : Nat} {o : Obj} (h : W.heap[g]? = some o) : g < W.heap.size := (Array.getElem?_eq_some_iff.1 h).1
end Go.Proofs.YtlmhbggigbmeaaaDoor
namespace Go.Proofs.YtlmhbggigbmeaaaDoor
open Go.RowKit Go.Shelf
attribute [local go_sem] Ext.cell Ext.frozen Ext.lt Ext.le Ext.lt_add Ext.le_add Ext.ne Ext.ne' lt2 lt3 lt4 lt5 le2 le3 le4
def rt (n : Int) : Nat → Int → Int
  | 0, r => r
  | k + 1, r => if (r + 2 ^ k) * (r + 2 ^ k) ≤ n then rt n k (r + 2 ^ k) else rt n k r
theorem rt_spec (n : Int) : ∀ (k : Nat) (r : Int), 0 ≤ r → r * r ≤ n → n < (r + 2 ^ k) * (r + 2 ^ k) → 0 ≤ rt n k r ∧ rt n k r * rt n k r ≤ n ∧ n < (rt n k r + 1) * (rt n k r + 1)
  | 0, r, h0, h1, h2 => by simp at h2; exact ⟨h0, h1, h2⟩
  | k + 1, r, h0, h1, h2 => by
    have hp : (0 : Int) < 2 ^ k := Int.pow_pos (by decide)
    have e : (2 : Int) ^ (k + 1) = 2 ^ k + 2 ^ k := by rw [Int.pow_succ]; omega
    unfold rt
    split
    · rename_i h
      exact rt_spec n k _ (by omega) h (by rw [show r + 2 ^ k + 2 ^ k = r + 2 ^ (k + 1) by rw [e]; omega]; exact h2)
    · rename_i h
      exact rt_spec n k r h0 h1 (by omega)
theorem root_unique {n r s : Int} (hr : 0 ≤ r) (h1 : r * r ≤ n) (h2 : n < (r + 1) * (r + 1)) (hs : 0 ≤ s) (h3 : s * s ≤ n) (h4 : n < (s + 1) * (s + 1)) : r = s := by
  rcases Int.lt_trichotomy r s with h | h | h
  · have := Int.mul_le_mul (show r + 1 ≤ s by omega) (show r + 1 ≤ s by omega) (by omega) hs
    omega
  · exact h
  · have := Int.mul_le_mul (show s + 1 ≤ r by omega) (show s + 1 ≤ r by omega) (by omega) hr
    omega
def rootI (n : Int) : Int := if n < 0 then -1 else rt n 32 0
theorem rootI_spec {n : Int} (h0 : 0 ≤ n) (h1 : n < 18446744073709551616) : 0 ≤ rootI n ∧ rootI n * rootI n ≤ n ∧ n < (rootI n + 1) * (rootI n + 1) := by
  unfold rootI
  rw [if_neg (by omega)]
  exact rt_spec n 32 0 (by decide) (by omega) (by simpa using h1)
theorem or_add (k : Nat) (m : Nat) : 2 ^ (k + 1) * m ||| 2 ^ k = 2 ^ (k + 1) * m + 2 ^ k := (Nat.two_pow_add_eq_or_of_lt (Nat.pow_lt_pow_right (by decide) (by omega)) m).symm
theorem len64 (n : Int) (w : World) (h0 : 0 ≤ n) (h1 : n < 9223372036854775808) : Calls Tryd.prog 83 #[.int .u64 n] w fun e w' => e = .returned (.int .i64 (Lib.bitLen n.toNat)) ∧ w = w' :=
  (Tryd.bits_Len64 n w h0 (by omega)).mono fun _ _ ⟨he, hw⟩ => ⟨he, hw.symm⟩
theorem len_bounds (n : Nat) (h : n < 9223372036854775808) : Lib.bitLen n ≤ 63 ∧ n < 2 ^ Lib.bitLen n := by
  refine ⟨Lib.bitLen_le n 63 (by decide) h, ?_⟩
  by_cases h0 : n = 0
  · subst h0; exact Nat.pow_pos (by decide)
  · exact (Lib.bitLenAux_bounds 64 n (by omega) h0).2.2
/-- The bit that is tried when so many are left. -/
def rv : Nat → Int
  | 0 => 0
  | k + 1 => 2 ^ k
theorem rv_half (k : Nat) : (2 : Int) ^ k / 2 = rv k := by
  cases k with
  | zero => decide
  | succ k => simp only [rv]; rw [Int.pow_succ]; omega
theorem Root_neg (n : Int) (w : World) (h : n < 0) : Calls Tryd.prog 55 #[.int .i64 n] w (Gives (.int .i64 (rootI n)) w) := by
  have e : rootI n = -1 := by unfold rootI; rw [if_pos h]
  rw [e]
  clear e
  go_enter Tryd.func55, Tryd.ntmps55
  go_wp2_with (first | ((first | with_reducible refine wrx2 ?_ | with_reducible refine wrx ?_); (repeat (first | go_big_quiet_step ((first | fail)) | quiet_step ((first | fail)))); refine wpQuiet_nil ?_; rintro _ ⟨yr, rfl⟩; have syr := Ext.size yr; (repeat (first | rw [World.size_alloc] at syr | rw [World.size_setCell] at syr | rw [World.size_drew] at syr))))
  go_returns
  refine ⟨rfl, ?_⟩
  repeat' (first | (with_reducible exact Below.refl _ _) | (with_reducible assumption) | (with_reducible refine Ext.below _ ?_ ?_) | (with_reducible refine Below.on ?_ (by with_reducible assumption) ?_) | (with_reducible refine Below.alloc ?_ ?_ _) | (with_reducible refine Below.drew ?_) | (with_reducible refine Below.setCell ?_ ?_ _) | (with_reducible exact Nat.le_refl _) | omega | (simp; done) | (simp [go_sem]; done) | (simp at *; omega))
theorem root_room (n : Int) (k m : Nat) (hn : n < 9223372036854775808) (hk : k + 1 ≤ 32) (hr : ((2 ^ (k + 1) * m : Nat) : Int) * ((2 ^ (k + 1) * m : Nat) : Int) ≤ n) :
    2 ^ (k + 1) * m + 2 ^ k ≤ 4294967295 ∧ (2 : Nat) ^ k ≤ 2147483648 := by
  have h1 : 2 ^ (k + 1) * m ≤ 3037000499 := by
    rcases Nat.lt_or_ge 3037000499 (2 ^ (k + 1) * m) with h | h
    · have := Nat.mul_le_mul (show 3037000500 ≤ 2 ^ (k + 1) * m by omega) (show 3037000500 ≤ 2 ^ (k + 1) * m by omega)
      have h2 : ((2 ^ (k + 1) * m * (2 ^ (k + 1) * m) : Nat) : Int) ≤ n := by rw [Int.natCast_mul]; exact hr
      omega
    · exact h
  rcases Nat.lt_or_ge k 31 with h | h
  · have h2 : (2 : Nat) ^ k ≤ 2 ^ 30 := Nat.pow_le_pow_right (by decide) (by omega)
    omega
  · obtain rfl : k = 31 := by omega
    cases m with
    | zero => simp
    | succ m => have : 2 ^ (31 + 1) * (m + 1) ≥ 4294967296 := by omega
                omega
set_option maxHeartbeats 1000000 in
theorem Root_pos (n : Int) (w : World) (hn0 : 0 ≤ n) (hn : n < 9223372036854775808) : Calls Tryd.prog 55 #[.int .i64 n] w (Gives (.int .i64 (rootI n)) w) := by
  have e : IntKind.u64.wrap n = n := by go_arith
  have HL := Go.Lib.hid (fun W => len64 n W hn0 hn)
  obtain ⟨l1, l2⟩ := len_bounds n.toNat (by omega)
  have HS := Go.Lib.hid (rootI_spec hn0 (by omega))
  generalize Lib.bitLen n.toNat = L at *
  obtain ⟨H, hH⟩ : ∃ H, L / 2 = H := ⟨_, rfl⟩
  have hH31 : H ≤ 31 := by omega
  have hlim : (n : Int) < 2 ^ (H + 1) * 2 ^ (H + 1) := by
    have h1 : (2 : Nat) ^ L ≤ 2 ^ (H + 1 + (H + 1)) := Nat.pow_le_pow_right (by decide) (by omega)
    rw [Nat.pow_add] at h1
    have h2 : n.toNat < 2 ^ (H + 1) * 2 ^ (H + 1) := Nat.lt_of_lt_of_le l2 h1
    have h3 : ((n.toNat : Nat) : Int) = n := by omega
    have h4 : ((n.toNat : Nat) : Int) < ((2 ^ (H + 1) * 2 ^ (H + 1) : Nat) : Int) := Int.ofNat_lt.2 h2
    rw [h3] at h4
    simpa using h4
  have eH : wrap64 ((L : Int) / 2) = (H : Int) := by go_arith
  have hp32 : (2 : Int) ^ H ≤ 2147483648 := by
    have := Nat.pow_le_pow_right (n := 2) (by decide) hH31
    have h2 : ((2 ^ H : Nat) : Int) ≤ ((2 ^ 31 : Nat) : Int) := Int.ofNat_le.2 this
    simpa using h2
  have hp0 : (0 : Int) < 2 ^ H := Int.pow_pos (by decide)
  have eB : IntKind.u64.wrap (2 ^ H) = 2 ^ H := by go_arith
  have Hlim := Go.Lib.hid hlim
  have HH := Go.Lib.hid hH
  have b0 : (0 : Int) ≤ H := by omega
  have b1 : (H : Int) ≤ 64 := by omega
  clear l2 hlim hH l1
  go_enter Tryd.func55, Tryd.ntmps55
  go_wp2_with (go_at_call 83; refine (HL.out _).mono ?_; rintro e w' ⟨rfl, rfl⟩)
  go_loop [3, 4] (fun s t => ∃ k m : Nat, s = .int .u64 ((2 ^ k * m : Nat) : Int) ∧ t = .int .u64 (rv k) ∧ k ≤ 32 ∧ ((2 ^ k * m : Nat) : Int) * ((2 ^ k * m : Nat) : Int) ≤ n ∧ n < (((2 ^ k * m : Nat) : Int) + 2 ^ k) * (((2 ^ k * m : Nat) : Int) + 2 ^ k)) (fun _ t => (intOf t).toNat)
  case atStart => exact ⟨H + 1, 0, by simp, rfl, by omega, by simpa using hn0, by simpa using Hlim.out⟩
  case round =>
    obtain ⟨k, m, rfl, rfl, hk, h1, h2⟩ := hrel
    cases k with
    | zero =>
      simp at h1 h2
      have hr : (m : Int) ≤ 3037000499 := by
        rcases Int.lt_or_le 3037000499 (m : Int) with h | h
        · have := Int.mul_le_mul (show (3037000500 : Int) ≤ m by omega) (show (3037000500 : Int) ≤ m by omega) (by decide) (by omega)
          omega
        · exact h
      have U := Go.Lib.hid (root_unique (r := rootI n) (s := m) HS.out.1 HS.out.2.1 HS.out.2.2 (by omega) h1 h2)
      have em : (((2 : Nat) ^ 0 * m : Nat) : Int) = (m : Int) := by simp
      have ew : wrap64 (m : Int) = m := IntWalk.wrap64_in _ (by omega)
      rw [em]
      simp only [rv]
      clear em h1 h2
      go_wp2_with fail
      go_returns
      refine ⟨ret_int ?_, ?_⟩
      · rw [U.out]
      · repeat' (first | (with_reducible exact Below.refl _ _) | (with_reducible assumption) | (with_reducible refine Ext.below _ ?_ ?_) | (with_reducible refine Below.on ?_ (by with_reducible assumption) ?_) | (with_reducible refine Below.alloc ?_ ?_ _) | (with_reducible refine Below.drew ?_) | (with_reducible refine Below.setCell ?_ ?_ _) | (with_reducible exact Nat.le_refl _) | omega | (simp; done) | (simp [go_sem]; done) | (simp at *; omega))
    | succ k =>
      obtain ⟨c1, c2⟩ := root_room n k m hn hk h1
      have eor := or_add k m
      have hb := bits_or_u64_nat (2 ^ (k + 1) * m) (2 ^ k) (Nat.lt_of_le_of_lt (Nat.le_trans (Nat.le_add_right _ _) c1) (by decide)) (Nat.lt_of_le_of_lt c2 (by decide))
      rw [eor] at hb
      have hB : ((2 ^ k : Nat) : Int) = 2 ^ k := by simp
      have hpos : (0 : Int) < 2 ^ k := Int.pow_pos (by decide)
      have e2 : (2 : Int) ^ (k + 1) = 2 ^ k + 2 ^ k := by rw [Int.pow_succ]; omega
      have hh := rv_half k
      have m1 : 2 ^ (k + 1) * m + 2 ^ k = 2 ^ k * (2 * m + 1) := by rw [Nat.pow_succ]; grind
      have m2 : 2 ^ (k + 1) * m = 2 ^ k * (2 * m) := by rw [Nat.pow_succ]; grind
      rw [Int.natCast_add, hB] at hb
      rw [e2] at h2
      have lim : ((2 ^ (k + 1) * m : Nat) : Int) + 2 ^ k ≤ 4294967295 := by have := Int.ofNat_le.2 c1; rw [Int.natCast_add, hB] at this; exact this
      have r0 : (0 : Int) ≤ ((2 ^ (k + 1) * m : Nat) : Int) := by omega
      have M1 := Go.Lib.hid m1; have M2 := Go.Lib.hid m2; have HB := Go.Lib.hid hB
      simp only [rv]
      clear eor m1 c1 c2 e2
      clear m2
      generalize hR : ((2 ^ (k + 1) * m : Nat) : Int) = R at *
      have HR := Go.Lib.hid hR
      generalize hB2 : (2 : Int) ^ k = B at *
      have HB2 := Go.Lib.hid hB2
      have HH2 := Go.Lib.hid hh
      have sqb := sq_bounds (x := R + B) (B := 4294967295) (by omega) lim
      simp only [Int.reduceMul] at sqb
      obtain ⟨s1, s2⟩ := sqb
      have eW : IntKind.u64.wrap ((R + B) * (R + B)) = (R + B) * (R + B) := by go_arith
      have H1 := Go.Lib.hid h1; have H2 := Go.Lib.hid h2
      clear hR hB2 hh hB h1 h2
      by_cases ht : (R + B) * (R + B) ≤ n
      · have HT := Go.Lib.hid ht
        go_wp2_with fail
        have v : ((2 ^ k * (2 * m + 1) : Nat) : Int) = R + B := by rw [← M1.out, Int.natCast_add, HR.out, HB.out]
        refine ⟨⟨k, 2 * m + 1, by rw [v], by rw [HH2.out]; cases k <;> rfl, by omega, by rw [v]; exact HT.out, ?_⟩, by simp only [intOf]; omega⟩
        rw [v, HB2.out, show R + B + B = R + (B + B) by omega]
        exact H2.out
      · have ht' : n < (R + B) * (R + B) := by omega
        clear ht
        have HT := Go.Lib.hid ht'
        go_wp2_with fail
        have v : ((2 ^ k * (2 * m) : Nat) : Int) = R := by rw [← M2.out, HR.out]
        refine ⟨⟨k, 2 * m, by rw [v], by rw [HH2.out]; cases k <;> rfl, by omega, by rw [v]; exact H1.out, ?_⟩, by simp only [intOf]; omega⟩
        rw [v, HB2.out]
        exact HT.out
theorem Root_any (n : Int) (w : World) (h : I64 n) : Calls Tryd.prog 55 #[.int .i64 n] w (Gives (.int .i64 (rootI n)) w) := by
  unfold I64 at h
  rcases Int.lt_or_le n 0 with h0 | h0
  · exact Root_neg n w h0
  · exact Root_pos n w h0 h.2
end Go.Proofs.YtlmhbggigbmeaaaDoor

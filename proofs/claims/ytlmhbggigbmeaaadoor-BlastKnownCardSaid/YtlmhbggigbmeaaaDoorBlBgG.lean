/- For the reference's slowed: the way through a layer, rounded up, and what the factors of its loss are within. Condition: none; a valid stone and a valid layer. Contracts of first and last (the stones of a rock that bound all others), of sole and SoleRock. No condition. The first region of blowsOf's iterator: what holds between its operations, and what it leaves. Written by gen_sole.py. No condition. -/
import Derived.Test.YtlmhbggigbmeaaaDoorBlLG
import Derived.Test.YtlmhbggigbmeaaaDoorBlM
namespace Go.Proofs.YtlmhbggigbmeaaaDoor
open Go.RowKit Go.Shelf
theorem cei_way {n c : Int} (hc : 0 < c) : (n + c - 1) / c = cei n c := by
  rw [cei_eq hc]
  have h1 := Int.emod_add_mul_ediv n c
  have h2 := Int.emod_nonneg n (b := c) (by omega)
  have h3 := Int.emod_lt_of_pos n hc
  generalize n / c = q at *
  generalize n % c = r at *
  have e1 : (q + 1) * c = c * q + c := by rw [Int.add_mul, Int.mul_comm q c, Int.one_mul]
  have e2 : (q + 1 + 1) * c = c * q + c + c := by rw [Int.add_mul, e1, Int.one_mul]
  have e3 : q * c = c * q := Int.mul_comm _ _
  generalize c * q = P at *
  split
  · exact Int.le_antisymm (Int.le_of_lt_add_one (Int.ediv_lt_of_lt_mul hc (by omega))) (Int.le_ediv_of_mul_le hc (by omega))
  · rw [Int.add_zero]
    exact Int.le_antisymm (Int.le_of_lt_add_one (Int.ediv_lt_of_lt_mul hc (by omega))) (Int.le_ediv_of_mul_le hc (by omega))
/-- What the reference multiplies and divides by in a layer. -/
theorem slow_parts {s : StoneR} {v : V2} {wv : Int} (hs : s.Ok) (hx : 1 ≤ v.x ∧ v.x ≤ 1000) (hy : 0 ≤ v.y ∧ v.y ≤ 1000) (hw : 0 ≤ wv ∧ wv ≤ 64000000) :
    (v.x * 1000 + s.slope - 1) / s.slope = cei (v.x * 1000) s.slope ∧ kOf s v = v.y * cei (v.x * 1000) s.slope * s.shape ∧ (0 ≤ v.y * cei (v.x * 1000) s.slope ∧ v.y * cei (v.x * 1000) s.slope ≤ 1000000000) ∧ (0 ≤ kOf s v ∧ kOf s v ≤ 2000000000000) ∧ cei (wv * kOf s v) (dOf s) ≤ 1152921504606846976 ∧ 0 ≤ wv * kOf s v / dOf s := by
  obtain ⟨-, e3, e4⟩ := lost_bounds hs hx hy hw
  obtain ⟨e5, e6⟩ := way_bounds hs hx
  obtain ⟨e7, e8, e9⟩ := k_bounds hs hx hy
  obtain ⟨-, d3, d4⟩ := d_bounds hs
  have sl := hs.slope
  rw [e3] at e4
  have kk : kOf s v ≤ 2000000000000 := by
    have h2 := Int.mul_le_mul hy.2 e8 e7 (by omega)
    have h3 : kOf s v = v.y * (cei (v.x * 1000) s.slope * s.shape) := rfl
    omega
  have b2 := Int.mul_le_mul hy.2 e6 e5 (by omega)
  exact ⟨cei_way (by omega), by unfold kOf; rw [Int.mul_assoc], ⟨Int.mul_nonneg hy.1 e5, by omega⟩, ⟨e9, kk⟩, e4, Int.ediv_nonneg (Int.mul_nonneg hw.1 e9) (by omega)⟩
end Go.Proofs.YtlmhbggigbmeaaaDoor
namespace Go.Proofs.YtlmhbggigbmeaaaDoor
open Go.RowKit Go.Shelf
attribute [local go_sem] Option.isSome_some Ext.cell Ext.frozen Ext.lt Ext.le Ext.lt_add Ext.le_add Ext.ne Ext.ne' lt2 lt3 lt4 lt5 le2 le3 le4
def firstS (k : RockR) (f : FallR) : StoneR := ⟨k.size.y, k.dens.y, k.strong.x, k.spin.y, k.shape.x, k.pile, f.speed.y, f.slope.y⟩
def lastS (k : RockR) (f : FallR) : StoneR := ⟨k.size.x, k.dens.x, k.strong.y, k.spin.x, k.shape.y, k.pile, f.speed.x, f.slope.x⟩
theorem first_any (k : RockR) (f : FallR) (w : World) : Calls Tryd.prog 80 #[k.val, f.val] w (Gives (firstS k f).val w) := by
  unfold RockR.val FallR.val StoneR.val StoneR.vals firstS
  go_enter Tryd.func80, Tryd.ntmps80
  go_wp2_with (first | ((first | with_reducible refine wrx2 ?_ | with_reducible refine wrx ?_); (repeat (first | go_big_quiet_step ((first | fail)) | quiet_step ((first | fail)))); refine wpQuiet_nil ?_; rintro _ ⟨yr, rfl⟩; have syr := Ext.size yr; (repeat (first | rw [World.size_alloc] at syr | rw [World.size_setCell] at syr | rw [World.size_drew] at syr))))
  refine bodyPost_ret (v := .agg #[.int .i64 k.size.y, .int .i64 k.dens.y, .int .i64 k.strong.x, .int .i64 k.spin.y, .int .i64 k.shape.x, .bool k.pile, .int .i64 f.speed.y, .int .i64 f.slope.y]) (by simp (maxDischargeDepth := 9) [results, Tryd.results80, go_sem]) rfl ?_
  refine ⟨rfl, ?_⟩
  repeat' (first | (with_reducible exact Below.refl _ _) | (with_reducible assumption) | (with_reducible refine Ext.below _ ?_ ?_) | (with_reducible refine Below.on ?_ (by with_reducible assumption) ?_) | (with_reducible refine Below.alloc ?_ ?_ _) | (with_reducible refine Below.drew ?_) | (with_reducible refine Below.setCell ?_ ?_ _) | (with_reducible exact Nat.le_refl _) | omega | (simp; done) | (simp [go_sem]; done) | (simp at *; omega))
theorem last_any (k : RockR) (f : FallR) (w : World) : Calls Tryd.prog 81 #[k.val, f.val] w (Gives (lastS k f).val w) := by
  unfold RockR.val FallR.val StoneR.val StoneR.vals lastS
  go_enter Tryd.func81, Tryd.ntmps81
  go_wp2_with (first | ((first | with_reducible refine wrx2 ?_ | with_reducible refine wrx ?_); (repeat (first | go_big_quiet_step ((first | fail)) | quiet_step ((first | fail)))); refine wpQuiet_nil ?_; rintro _ ⟨yr, rfl⟩; have syr := Ext.size yr; (repeat (first | rw [World.size_alloc] at syr | rw [World.size_setCell] at syr | rw [World.size_drew] at syr))))
  refine bodyPost_ret (v := .agg #[.int .i64 k.size.x, .int .i64 k.dens.x, .int .i64 k.strong.y, .int .i64 k.spin.x, .int .i64 k.shape.y, .bool k.pile, .int .i64 f.speed.x, .int .i64 f.slope.x]) (by simp (maxDischargeDepth := 9) [results, Tryd.results81, go_sem]) rfl ?_
  refine ⟨rfl, ?_⟩
  repeat' (first | (with_reducible exact Below.refl _ _) | (with_reducible assumption) | (with_reducible refine Ext.below _ ?_ ?_) | (with_reducible refine Below.on ?_ (by with_reducible assumption) ?_) | (with_reducible refine Below.alloc ?_ ?_ _) | (with_reducible refine Below.drew ?_) | (with_reducible refine Below.setCell ?_ ?_ _) | (with_reducible exact Nat.le_refl _) | omega | (simp; done) | (simp [go_sem]; done) | (simp at *; omega))
theorem sole_any (n : Int) (w : World) : Calls Tryd.prog 77 #[.int .i64 n] w (Gives (.agg #[.int .i64 n, .int .i64 n]) w) := by
  go_enter Tryd.func77, Tryd.ntmps77
  go_wp2_with (first | ((first | with_reducible refine wrx2 ?_ | with_reducible refine wrx ?_); (repeat (first | go_big_quiet_step ((first | fail)) | quiet_step ((first | fail)))); refine wpQuiet_nil ?_; rintro _ ⟨yr, rfl⟩; have syr := Ext.size yr; (repeat (first | rw [World.size_alloc] at syr | rw [World.size_setCell] at syr | rw [World.size_drew] at syr))))
  refine bodyPost_ret (v := .agg #[.int .i64 n, .int .i64 n]) (by simp (maxDischargeDepth := 9) [results, Tryd.results77, go_sem]) rfl ?_
  refine ⟨rfl, ?_⟩
  repeat' (first | (with_reducible exact Below.refl _ _) | (with_reducible assumption) | (with_reducible refine Ext.below _ ?_ ?_) | (with_reducible refine Below.on ?_ (by with_reducible assumption) ?_) | (with_reducible refine Below.alloc ?_ ?_ _) | (with_reducible refine Below.drew ?_) | (with_reducible refine Below.setCell ?_ ?_ _) | (with_reducible exact Nat.le_refl _) | omega | (simp; done) | (simp [go_sem]; done) | (simp at *; omega))
def soleK (s : StoneR) : RockR := ⟨⟨s.size, s.size⟩, ⟨s.dens, s.dens⟩, ⟨s.strong, s.strong⟩, ⟨s.spin, s.spin⟩, ⟨s.shape, s.shape⟩, s.pile⟩
def soleF (s : StoneR) : FallR := ⟨⟨s.speed, s.speed⟩, ⟨s.slope, s.slope⟩⟩
theorem first_sole (s : StoneR) : firstS (soleK s) (soleF s) = s ∧ lastS (soleK s) (soleF s) = s := ⟨rfl, rfl⟩
end Go.Proofs.YtlmhbggigbmeaaaDoor
namespace Go.Proofs.YtlmhbggigbmeaaaDoor
open Go.RowKit Go.Shelf
attribute [local go_sem] Option.isSome_some Ext.cell Ext.frozen Ext.lt Ext.le Ext.lt_add Ext.le_add Ext.ne Ext.ne' lt2 lt3 lt4 lt5 le2 le3 le4
theorem size_setRow2 (W : World) (g : Nat) (cs : Array Value) : (W.setRow g cs).heap.size = W.heap.size := by simp [World.setRow]
theorem below_row {n g : Nat} {w W : World} (h : Below n w W) (hg : n ≤ g) (cs : Array Value) : Below n w (W.setRow g cs) := below_setRow h hg cs
def blwDeps : List (List Nat) := [[], [], [], [1, 2], [0, 3], [], [], [], [6, 7, 4], [5, 8], [], [], [10, 4, 9], [11, 9, 12]]
def blwInv (k : RockR) (f : FallR) (s t : StoneR) (p : Option Addr) (cap n : Nat) (a0 : Act) (X : World) (l : List Bool) (fr : Act) (W : World) : Prop :=
  ∃ s5 s6 s8 s9 s10 s11 s12 s13 s14 s15 s16 s17 : Value, fr = sets a0 [(5, s5), (6, s6), (8, s8), (9, s9), (10, s10), (11, s11), (12, s12), (13, s13), (14, s14), (15, s15), (16, s16), (17, s17)] ∧ Below X.heap.size X W ∧
    (l.getD 10 false = true → l.getD 11 false = true → s5 ≠ s6) ∧
    (l.getD 12 false = true → l.getD 10 false = true) ∧
    (l.getD 13 false = true → l.getD 11 false = true) ∧
    (l.getD 0 false = true → s8 = .slice p n cap) ∧
    (l.getD 1 false = true → s9 = .agg #[.int .i64 k.size.x, .int .i64 k.size.y, .int .i64 k.dens.x, .int .i64 k.dens.y, .int .i64 k.strong.x, .int .i64 k.strong.y, .int .i64 k.spin.x, .int .i64 k.spin.y, .int .i64 k.shape.x, .int .i64 k.shape.y, .bool k.pile]) ∧
    (l.getD 2 false = true → s10 = .agg #[.int .i64 f.speed.x, .int .i64 f.speed.y, .int .i64 f.slope.x, .int .i64 f.slope.y]) ∧
    (l.getD 3 false = true → s11 = .agg #[.int .i64 s.size, .int .i64 s.dens, .int .i64 s.strong, .int .i64 s.spin, .int .i64 s.shape, .bool s.pile, .int .i64 s.speed, .int .i64 s.slope]) ∧
    (l.getD 4 false = true → s12 = .agg #[.slice p n cap, .int .i64 s.size, .int .i64 s.dens, .int .i64 s.strong, .int .i64 s.spin, .int .i64 s.shape, .bool s.pile, .int .i64 s.speed, .int .i64 s.slope, .int .i64 0, .int .i64 (s.speed * s.speed)]) ∧
    (l.getD 5 false = true → s13 = .slice p n cap) ∧
    (l.getD 6 false = true → s14 = .agg #[.int .i64 k.size.x, .int .i64 k.size.y, .int .i64 k.dens.x, .int .i64 k.dens.y, .int .i64 k.strong.x, .int .i64 k.strong.y, .int .i64 k.spin.x, .int .i64 k.spin.y, .int .i64 k.shape.x, .int .i64 k.shape.y, .bool k.pile]) ∧
    (l.getD 7 false = true → s15 = .agg #[.int .i64 f.speed.x, .int .i64 f.speed.y, .int .i64 f.slope.x, .int .i64 f.slope.y]) ∧
    (l.getD 8 false = true → s16 = .agg #[.int .i64 t.size, .int .i64 t.dens, .int .i64 t.strong, .int .i64 t.spin, .int .i64 t.shape, .bool t.pile, .int .i64 t.speed, .int .i64 t.slope]) ∧
    (l.getD 9 false = true → s17 = .agg #[.slice p n cap, .int .i64 t.size, .int .i64 t.dens, .int .i64 t.strong, .int .i64 t.spin, .int .i64 t.shape, .bool t.pile, .int .i64 t.speed, .int .i64 t.slope, .int .i64 0, .int .i64 (t.speed * t.speed)]) ∧
    (l.getD 10 false = true → ∃ g : Nat, s5 = .pointer (some ⟨g, 0, none⟩) ∧ X.heap.size ≤ g ∧ g < W.heap.size ∧ (l.getD 12 false = false → W.heap[g]? = some (.cells #[.slice none 0 0, .int .i64 0, .int .i64 0, .int .i64 0, .int .i64 0, .int .i64 0, .bool false, .int .i64 0, .int .i64 0, .int .i64 0, .int .i64 0] 103 (0, 0))) ∧ (l.getD 12 false = true → W.heap[g]? = some (.cells #[.slice p n cap, .int .i64 s.size, .int .i64 s.dens, .int .i64 s.strong, .int .i64 s.spin, .int .i64 s.shape, .bool s.pile, .int .i64 s.speed, .int .i64 s.slope, .int .i64 0, .int .i64 (s.speed * s.speed)] 103 (0, 0)))) ∧
    (l.getD 11 false = true → ∃ g : Nat, s6 = .pointer (some ⟨g, 0, none⟩) ∧ X.heap.size ≤ g ∧ g < W.heap.size ∧ (l.getD 13 false = false → W.heap[g]? = some (.cells #[.slice none 0 0, .int .i64 0, .int .i64 0, .int .i64 0, .int .i64 0, .int .i64 0, .bool false, .int .i64 0, .int .i64 0, .int .i64 0, .int .i64 0] 103 (0, 0))) ∧ (l.getD 13 false = true → W.heap[g]? = some (.cells #[.slice p n cap, .int .i64 t.size, .int .i64 t.dens, .int .i64 t.strong, .int .i64 t.spin, .int .i64 t.shape, .bool t.pile, .int .i64 t.speed, .int .i64 t.slope, .int .i64 0, .int .i64 (t.speed * t.speed)] 103 (0, 0))))
def blwTold (s t : StoneR) (p : Option Addr) (cap n : Nat) : Act → World → Act → World → Prop := fun a X a' W => ∃ (g h : Nat), a' = sets a [(5, .pointer (some ⟨g, 0, none⟩)), (6, .pointer (some ⟨h, 0, none⟩)), (8, a'.tmps.getD 8 undef), (9, a'.tmps.getD 9 undef), (10, a'.tmps.getD 10 undef), (11, a'.tmps.getD 11 undef), (12, a'.tmps.getD 12 undef), (13, a'.tmps.getD 13 undef), (14, a'.tmps.getD 14 undef), (15, a'.tmps.getD 15 undef), (16, a'.tmps.getD 16 undef), (17, a'.tmps.getD 17 undef)] ∧ Below X.heap.size X W ∧ X.heap.size ≤ g ∧ X.heap.size ≤ h ∧ g ≠ h ∧ g < W.heap.size ∧ h < W.heap.size ∧ W.heap[g]? = some (.cells #[.slice p n cap, .int .i64 s.size, .int .i64 s.dens, .int .i64 s.strong, .int .i64 s.spin, .int .i64 s.shape, .bool s.pile, .int .i64 s.speed, .int .i64 s.slope, .int .i64 0, .int .i64 (s.speed * s.speed)] 103 (0, 0)) ∧ W.heap[h]? = some (.cells #[.slice p n cap, .int .i64 t.size, .int .i64 t.dens, .int .i64 t.strong, .int .i64 t.spin, .int .i64 t.shape, .bool t.pile, .int .i64 t.speed, .int .i64 t.slope, .int .i64 0, .int .i64 (t.speed * t.speed)] 103 (0, 0))
end Go.Proofs.YtlmhbggigbmeaaaDoor

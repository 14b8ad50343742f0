/- What the statements of layer 3 take of a ring: numbers in a range, areas, places of areas, drifts. Condition: the ring is in memory. -/
import Derived.Test.YtlhihmfefipehaaPairG
import Derived.Test.YtlhihmfefipehaaRingA
import Derived.Test.YtlhihmfefipehaaFoEG
namespace Go.Proofs.Ytlhihmfefipehaa
open Go.RowKit Go.Shelf
attribute [local go_sem] Option.isSome_some Ext.cell Ext.frozen Ext.lt Ext.le Ext.lt_add Ext.le_add Ext.ne Ext.ne' lt2 lt3 lt4 lt5 le2 le3 le4
attribute [local go_sem] RExt.cell RExt.frozen RExt.lt RExt.le RExt.lt_add RExt.le_add RExt.ne RExt.ne'
set_option maxRecDepth 100000
set_option maxHeartbeats 4000000
theorem RangeQ_y (lo hi : Int) (b m : Nat) (w : World) (hm : m < 100000000) (h0 : lo ≤ hi) (h1 : -1000000000000 ≤ lo) (h2 : hi ≤ 1000000000000) (h : RingM w b m) :
    Calls Try.prog 25 #[.pointer (some ⟨b, 0, none⟩), .int .i64 lo, .int .i64 hi] w (fun e w' => ∃ (y : RExt w b) (v : Int), e = .returned (.int .i64 v) ∧ (lo ≤ v ∧ v ≤ hi) ∧ w' = y.now ∧ RingM y.now b (m + 1)) := by
  obtain ⟨p, len, cap, z, k, h, hk⟩ := h
  refine (Range_r lo hi b p len cap z k w (by omega) h1 h0 h2 h).mono ?_
  rintro e w' ⟨rfl, hb, hr⟩
  have b1 := Int.emod_nonneg (ringX z len k) (b := hi - lo + 1) (by omega)
  have b2 := Int.emod_lt_of_pos (ringX z len k) (b := hi - lo + 1) (by omega)
  exact ⟨⟨w', hb⟩, _, rfl, by omega, rfl, p, len, cap, z, k + 1, hr, by omega⟩
/-- An area within m of 0, with spans in order. -/
structure ArIn (a b c d : Int) (m : Int) : Prop where
  x0 : -m ≤ a
  x1 : a ≤ b
  x2 : b ≤ m
  y0 : -m ≤ c
  y1 : c ≤ d
  y2 : d ≤ m
theorem AreaOf_y (most wide : Int) (b m : Nat) (w : World) (hm : m < 1000000) (h1 : 0 ≤ most) (h2 : most ≤ 1000000000) (h3 : 0 ≤ wide) (h4 : wide ≤ 1000000000) (h : RingM w b m) :
    Calls Try.prog 30 #[.pointer (some ⟨b, 0, none⟩), .int .i64 most, .int .i64 wide] w (fun e w' => ∃ (y : RExt w b) (a b' c d : Int), e = .returned (.agg #[.int .i64 a, .int .i64 b', .int .i64 c, .int .i64 d]) ∧ ArIn a b' c d (most + wide) ∧ w' = y.now ∧ RingM y.now b (m + 6)) := by
  obtain ⟨p, len, cap, z, k, h, hk⟩ := h
  refine (AreaOf_r most wide b p len cap z k w (by omega) h1 h2 h3 h4 h).mono ?_
  rintro e w' ⟨rfl, hb, hr⟩
  have b1 := ar_bounds z len k most wide h1 h3
  have b2 := ar_bounds z len (k + 3) most wide h1 h3
  exact ⟨⟨w', hb⟩, _, _, _, _, rfl, ⟨by omega, by omega, by omega, by omega, by omega, by omega⟩, rfl, p, len, cap, z, k + 6, hr, by omega⟩
theorem SomeIn_y (a1 a2 c1 c2 : Int) (b m : Nat) (w : World) (hm : m < 1000000) (k : ArIn a1 a2 c1 c2 1000000000) (h : RingM w b m) :
    Calls Try.prog 34 #[.pointer (some ⟨b, 0, none⟩), .agg #[.int .i64 a1, .int .i64 a2, .int .i64 c1, .int .i64 c2]] w (fun e w' => ∃ (y : RExt w b) (v : V2), e = .returned (.agg #[.int .i64 v.x, .int .i64 v.y]) ∧ ((a1 ≤ v.x ∧ v.x ≤ a2) ∧ c1 ≤ v.y ∧ v.y ≤ c2) ∧ w' = y.now ∧ RingM y.now b (m + 2)) := by
  obtain ⟨p, len, cap, z, n, h, hk⟩ := h
  obtain ⟨k1, k2, k3, k4, k5, k6⟩ := k
  refine (SomeIn_r a1 a2 c1 c2 b p len cap z n w (by omega) k1 k2 k3 k4 k5 k6 h).mono ?_
  rintro e w' ⟨rfl, hb, hr⟩
  exact ⟨⟨w', hb⟩, ⟨_, _⟩, rfl, ⟨someX_bounds z len n a1 a2 k2, someX_bounds z len (n + 1) c1 c2 k5⟩, rfl, p, len, cap, z, n + 2, hr, by omega⟩
/-- A drift as the statements take it of a ring. -/
structure SmallDrift (d : DriftR) : Prop where
  e : driftE d = 0
  l0 : 0 ≤ d.ll
  l1 : d.ll ≤ d.lh
  l2 : d.lh ≤ 1000
  h0 : -1000 ≤ d.hl
  h1 : d.hl ≤ d.hh
  h2 : d.hh ≤ 1000
  g0 : 0 ≤ d.gas
  g1 : d.gas ≤ 1000
theorem small_drift {ll lh hl hh g : Int} (l0 : 0 ≤ ll) (l1 : ll ≤ lh) (l2 : lh ≤ 1000) (h0 : -1000 ≤ hl) (h1 : hl ≤ hh) (h2 : hh ≤ 1000) (g0 : 0 ≤ g) (g1 : g ≤ 1000) : SmallDrift ⟨ll, lh, hl, hh, g⟩ := by
  refine ⟨?_, l0, l1, l2, h0, h1, h2, g0, g1⟩
  unfold driftE partE
  simp only
  repeat' split
  all_goals omega
theorem DriftOf_y (b m : Nat) (w : World) (hm : m < 1000000) (h : RingM w b m) :
    Calls Try.prog 29 #[.pointer (some ⟨b, 0, none⟩)] w (fun e w' => ∃ (y : RExt w b) (d : DriftR), e = .returned d.val ∧ SmallDrift d ∧ w' = y.now ∧ RingM y.now b (m + 6)) := by
  have hl := h.lt
  have hne : w.heap.size ≠ b := by omega
  go_enter Try.func29, Try.ntmps29
  go_wp2_with (first | ((first | with_reducible refine wrx2 ?_ | with_reducible refine wrx ?_); (repeat (first | go_big_quiet_step ((first | fail)) | quiet_step ((first | fail)))); refine wpQuiet_nil ?_; rintro _ ⟨yr, rfl⟩; have syr := Ext.size yr; (repeat (first | rw [World.size_alloc] at syr | rw [World.size_setCell] at syr | rw [World.size_drew] at syr)); have : b < yr.now.heap.size := (by omega); have : b ≤ yr.now.heap.size := (by omega); have : b < yr.now.heap.size + 1 + 1 := (by omega); have : w.heap.size < yr.now.heap.size := (by omega); have : w.heap.size ≤ yr.now.heap.size := (by omega); have : w.heap.size < yr.now.heap.size + 1 + 1 := (by omega)) | (go_at_call 59; (with_reducible refine Calls.mono (Next_y 4 b m _ (by omega) (by omega) (by omega) ?_) ?_); (focus ((repeat (first | (with_reducible assumption) | (with_reducible refine RingM.alloc ?_ _) | (with_reducible refine RingM.drew ?_) | (with_reducible refine RingM.ext ?_ _) | (with_reducible refine RingM.set ?_ _ (by omega)))); done)); (rintro _ _ ⟨yx1, vx1, rfl, hvx1, rfl, rgx1⟩); have syx1 := RExt.size yx1; (repeat (first | rw [World.size_alloc] at syx1 | rw [World.size_setCell] at syx1 | rw [World.size_drew] at syx1)); have : b < yx1.now.heap.size := (by omega); have : b ≤ yx1.now.heap.size := (by omega); have : b < yx1.now.heap.size + 1 + 1 := (by omega); have : w.heap.size < yx1.now.heap.size := (by omega); have : w.heap.size ≤ yx1.now.heap.size := (by omega); have : w.heap.size < yx1.now.heap.size + 1 + 1 := (by omega)) | (go_at_call 59; (with_reducible refine Calls.mono (Next_y 300 b (m + 1) _ (by omega) (by omega) (by omega) ?_) ?_); (focus ((repeat (first | (with_reducible assumption) | (with_reducible refine RingM.alloc ?_ _) | (with_reducible refine RingM.drew ?_) | (with_reducible refine RingM.ext ?_ _) | (with_reducible refine RingM.set ?_ _ (by omega)))); done)); (rintro _ _ ⟨yx2, vx2, rfl, hvx2, rfl, rgx2⟩); have syx2 := RExt.size yx2; (repeat (first | rw [World.size_alloc] at syx2 | rw [World.size_setCell] at syx2 | rw [World.size_drew] at syx2)); have : b < yx2.now.heap.size := (by omega); have : b ≤ yx2.now.heap.size := (by omega); have : b < yx2.now.heap.size + 1 + 1 := (by omega); have : w.heap.size < yx2.now.heap.size := (by omega); have : w.heap.size ≤ yx2.now.heap.size := (by omega); have : w.heap.size < yx2.now.heap.size + 1 + 1 := (by omega)) | (go_at_call 59; (with_reducible refine Calls.mono (Next_y 600 b (m + 2) _ (by omega) (by omega) (by omega) ?_) ?_); (focus ((repeat (first | (with_reducible assumption) | (with_reducible refine RingM.alloc ?_ _) | (with_reducible refine RingM.drew ?_) | (with_reducible refine RingM.ext ?_ _) | (with_reducible refine RingM.set ?_ _ (by omega)))); done)); (rintro _ _ ⟨yx3, vx3, rfl, hvx3, rfl, rgx3⟩); have syx3 := RExt.size yx3; (repeat (first | rw [World.size_alloc] at syx3 | rw [World.size_setCell] at syx3 | rw [World.size_drew] at syx3)); have : b < yx3.now.heap.size := (by omega); have : b ≤ yx3.now.heap.size := (by omega); have : b < yx3.now.heap.size + 1 + 1 := (by omega); have : w.heap.size < yx3.now.heap.size := (by omega); have : w.heap.size ≤ yx3.now.heap.size := (by omega); have : w.heap.size < yx3.now.heap.size + 1 + 1 := (by omega)) | (go_at_call 59; (with_reducible refine Calls.mono (Next_y 100 b (m + 3) _ (by omega) (by omega) (by omega) ?_) ?_); (focus ((repeat (first | (with_reducible assumption) | (with_reducible refine RingM.alloc ?_ _) | (with_reducible refine RingM.drew ?_) | (with_reducible refine RingM.ext ?_ _) | (with_reducible refine RingM.set ?_ _ (by omega)))); done)); (rintro _ _ ⟨yx4, vx4, rfl, hvx4, rfl, rgx4⟩); have syx4 := RExt.size yx4; (repeat (first | rw [World.size_alloc] at syx4 | rw [World.size_setCell] at syx4 | rw [World.size_drew] at syx4)); have : b < yx4.now.heap.size := (by omega); have : b ≤ yx4.now.heap.size := (by omega); have : b < yx4.now.heap.size + 1 + 1 := (by omega); have : w.heap.size < yx4.now.heap.size := (by omega); have : w.heap.size ≤ yx4.now.heap.size := (by omega); have : w.heap.size < yx4.now.heap.size + 1 + 1 := (by omega)) | (go_at_call 59; (with_reducible refine Calls.mono (Next_y 100 b (m + 4) _ (by omega) (by omega) (by omega) ?_) ?_); (focus ((repeat (first | (with_reducible assumption) | (with_reducible refine RingM.alloc ?_ _) | (with_reducible refine RingM.drew ?_) | (with_reducible refine RingM.ext ?_ _) | (with_reducible refine RingM.set ?_ _ (by omega)))); done)); (rintro _ _ ⟨yx5, vx5, rfl, hvx5, rfl, rgx5⟩); have syx5 := RExt.size yx5; (repeat (first | rw [World.size_alloc] at syx5 | rw [World.size_setCell] at syx5 | rw [World.size_drew] at syx5)); have : b < yx5.now.heap.size := (by omega); have : b ≤ yx5.now.heap.size := (by omega); have : b < yx5.now.heap.size + 1 + 1 := (by omega); have : w.heap.size < yx5.now.heap.size := (by omega); have : w.heap.size ≤ yx5.now.heap.size := (by omega); have : w.heap.size < yx5.now.heap.size + 1 + 1 := (by omega)) | (go_at_call 59; (with_reducible refine Calls.mono (Next_y 4 b (m + 5) _ (by omega) (by omega) (by omega) ?_) ?_); (focus ((repeat (first | (with_reducible assumption) | (with_reducible refine RingM.alloc ?_ _) | (with_reducible refine RingM.drew ?_) | (with_reducible refine RingM.ext ?_ _) | (with_reducible refine RingM.set ?_ _ (by omega)))); done)); (rintro _ _ ⟨yx6, vx6, rfl, hvx6, rfl, rgx6⟩); have syx6 := RExt.size yx6; (repeat (first | rw [World.size_alloc] at syx6 | rw [World.size_setCell] at syx6 | rw [World.size_drew] at syx6)); have : b < yx6.now.heap.size := (by omega); have : b ≤ yx6.now.heap.size := (by omega); have : b < yx6.now.heap.size + 1 + 1 := (by omega); have : w.heap.size < yx6.now.heap.size := (by omega); have : w.heap.size ≤ yx6.now.heap.size := (by omega); have : w.heap.size < yx6.now.heap.size + 1 + 1 := (by omega)))
  ·
    have l : ∀ o, yx1.now.cell? ⟨w.heap.size, o, none⟩ = (w.alloc (.cells #[.int .i64 0, .int .i64 0, .int .i64 0, .int .i64 0, .int .i64 0] 31)).cell? ⟨w.heap.size, o, none⟩ := fun o => by
      rw [yx1.cell (by simp) hne]
    have l0 : yx1.now.cell? ⟨w.heap.size, 0, none⟩ = some (.int .i64 0) := by rw [l]; simp [go_sem]
    have l1 : yx1.now.cell? ⟨w.heap.size, 1, none⟩ = some (.int .i64 0) := by rw [l]; simp [go_sem]
    have l2 : yx1.now.cell? ⟨w.heap.size, 2, none⟩ = some (.int .i64 0) := by rw [l]; simp [go_sem]
    have l3 : yx1.now.cell? ⟨w.heap.size, 3, none⟩ = some (.int .i64 0) := by rw [l]; simp [go_sem]
    have l4 : yx1.now.cell? ⟨w.heap.size, 4, none⟩ = some (.int .i64 0) := by rw [l]; simp [go_sem]
    refine bodyPost_ret (v := .agg #[.int .i64 (0), .int .i64 (0), .int .i64 (0), .int .i64 (0), .int .i64 (0)]) (by simp [results, Try.results29, go_sem, l0, l1, l2, l3, l4]) rfl ?_
    refine ⟨⟨(((((yx1.now).setCell ⟨w.heap.size, 0, none⟩ (.int .i64 (0))).setCell ⟨w.heap.size, 1, none⟩ (.int .i64 (0))).setCell ⟨w.heap.size, 2, none⟩ (.int .i64 (0))).setCell ⟨w.heap.size, 3, none⟩ (.int .i64 (0))).setCell ⟨w.heap.size, 4, none⟩ (.int .i64 (0)), ?_⟩, ⟨0, 0, 0, 0, 0⟩, rfl, small_drift (by omega) (by omega) (by omega) (by omega) (by omega) (by omega) (by omega) (by omega), rfl, RingM.mono ((((((rgx1).set _ (by omega)).set _ (by omega)).set _ (by omega)).set _ (by omega)).set _ (by omega)) (by omega)⟩
    repeat' (first | (with_reducible exact BelowX.refl _ _ _) | (with_reducible assumption) | (with_reducible refine RExt.belowX _ ?_ ?_) | (with_reducible refine Ext.belowX _ ?_ ?_) | (with_reducible refine BelowX.alloc ?_ ?_ _) | (with_reducible refine BelowX.drew ?_) | (with_reducible refine BelowX.setCell ?_ ?_ _) | (with_reducible exact Nat.le_refl _) | omega | (simp; done) | (simp [go_sem]; done) | (simp at *; omega))
  ·
    have l : ∀ o, yx6.now.cell? ⟨w.heap.size, o, none⟩ = (w.alloc (.cells #[.int .i64 0, .int .i64 0, .int .i64 0, .int .i64 0, .int .i64 0] 31)).cell? ⟨w.heap.size, o, none⟩ := fun o => by
      rw [yx6.cell (by omega) hne, yx5.cell (by omega) hne, yx4.cell (by omega) hne, yx3.cell (by omega) hne, yx2.cell (by omega) hne, yx1.cell (by simp) hne]
    have l0 : yx6.now.cell? ⟨w.heap.size, 0, none⟩ = some (.int .i64 0) := by rw [l]; simp [go_sem]
    have l1 : yx6.now.cell? ⟨w.heap.size, 1, none⟩ = some (.int .i64 0) := by rw [l]; simp [go_sem]
    have l2 : yx6.now.cell? ⟨w.heap.size, 2, none⟩ = some (.int .i64 0) := by rw [l]; simp [go_sem]
    have l3 : yx6.now.cell? ⟨w.heap.size, 3, none⟩ = some (.int .i64 0) := by rw [l]; simp [go_sem]
    have l4 : yx6.now.cell? ⟨w.heap.size, 4, none⟩ = some (.int .i64 0) := by rw [l]; simp [go_sem]
    refine bodyPost_ret (v := .agg #[.int .i64 (vx2), .int .i64 (vx2 + vx4), .int .i64 (vx3 - 300), .int .i64 (vx3 - 300 + vx5), .int .i64 (vx6)]) (by simp [results, Try.results29, go_sem, l0, l1, l2, l3, l4]) rfl ?_
    refine ⟨⟨(((((yx6.now).setCell ⟨w.heap.size, 0, none⟩ (.int .i64 (vx2))).setCell ⟨w.heap.size, 1, none⟩ (.int .i64 (vx2 + vx4))).setCell ⟨w.heap.size, 2, none⟩ (.int .i64 (vx3 - 300))).setCell ⟨w.heap.size, 3, none⟩ (.int .i64 (vx3 - 300 + vx5))).setCell ⟨w.heap.size, 4, none⟩ (.int .i64 (vx6)), ?_⟩, ⟨vx2, vx2 + vx4, vx3 - 300, vx3 - 300 + vx5, vx6⟩, rfl, small_drift (by omega) (by omega) (by omega) (by omega) (by omega) (by omega) (by omega) (by omega), rfl, RingM.mono ((((((rgx6).set _ (by omega)).set _ (by omega)).set _ (by omega)).set _ (by omega)).set _ (by omega)) (by omega)⟩
    repeat' (first | (with_reducible exact BelowX.refl _ _ _) | (with_reducible assumption) | (with_reducible refine RExt.belowX _ ?_ ?_) | (with_reducible refine Ext.belowX _ ?_ ?_) | (with_reducible refine BelowX.alloc ?_ ?_ _) | (with_reducible refine BelowX.drew ?_) | (with_reducible refine BelowX.setCell ?_ ?_ _) | (with_reducible exact Nat.le_refl _) | omega | (simp; done) | (simp [go_sem]; done) | (simp at *; omega))
end Go.Proofs.Ytlhihmfefipehaa

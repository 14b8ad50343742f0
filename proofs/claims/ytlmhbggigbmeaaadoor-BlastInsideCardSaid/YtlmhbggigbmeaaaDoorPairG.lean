/- Contracts of the makers of rocks and stones: what a ring hands out in a range, spans, rocks with falls, stones of them. Condition: the ring's block is as NewRing made it. A region that draws its order, by what holds between its operations: no order is walked through. A region that draws its order, by what holds between its operations: what may come up is told by the edges alone, so that no order and no set of operations is walked through. -/
import Derived.Test.YtlmhbggigbmeaaaDoorBlMG
import Derived.Deep.RegionHeld3
import Derived.Deep.CutRange
import Derived.Test.YtlmhbggigbmeaaaDoorBase
import Derived.OrdersIn
import Derived.Laws.Tables
namespace Go.Proofs.YtlmhbggigbmeaaaDoor
open Go.RowKit Go.Shelf
attribute [local go_sem] Option.isSome_some Ext.cell Ext.frozen Ext.lt Ext.le Ext.lt_add Ext.le_add Ext.ne Ext.ne' lt2 lt3 lt4 lt5 le2 le3 le4
attribute [local go_sem] RExt.cell RExt.frozen RExt.lt RExt.le RExt.lt_add RExt.le_add RExt.ne RExt.ne'
theorem alloc_cell {W : World} (o : Obj) {B k : Nat} (h : B < W.heap.size) : (W.alloc o).cell? ⟨B, k, none⟩ = W.cell? ⟨B, k, none⟩ := Ext.cell ⟨W.alloc o, (Below.refl _ _).alloc (Nat.le_refl _) _⟩ h
theorem alloc_frozen {W : World} (o : Obj) {B k : Nat} (h : B < W.heap.size) : (W.alloc o).frozen? ⟨B, k, none⟩ = W.frozen? ⟨B, k, none⟩ := Ext.frozen ⟨W.alloc o, (Below.refl _ _).alloc (Nat.le_refl _) _⟩ h
/-- A number in a range, and a ring that has handed out one more, at most k more. -/
def NumPost (lo hi : Int) (b m k : Nat) (w : World) : Ending → World → Prop := fun e w' => ∃ (y : RExt w b) (v : Int), e = .returned (.int .i64 v) ∧ (lo ≤ v ∧ v ≤ hi) ∧ w' = y.now ∧ RingM y.now b (m + k)
theorem NumPost.intro {lo hi : Int} {b m k : Nat} {w W : World} {e : Ending} (v : Int) (he : e = .returned (.int .i64 v)) (hv : lo ≤ v ∧ v ≤ hi) (hB : BelowX b w.heap.size w W) (hr : RingM W b (m + k)) : NumPost lo hi b m k w e W := ⟨⟨W, hB⟩, v, he, hv, rfl, hr⟩
theorem Range_y (lo hi : Int) (b m : Nat) (w : World) (hm : m < 100000000) (h0 : lo ≤ hi) (h1 : -1000000000000000000 ≤ lo) (h2 : hi ≤ 1000000000000000000) (h : RingM w b m) :
    Calls Tryd.prog 42 #[.pointer (some ⟨b, 0, none⟩), .int .i64 lo, .int .i64 hi] w (NumPost lo hi b m 1 w) := by
  have hl := h.lt
  go_enter Tryd.func42, Tryd.ntmps42
  go_wp2_with (first | ((first | with_reducible refine wrx2 ?_ | with_reducible refine wrx ?_); (repeat (first | go_big_quiet_step ((first | fail)) | quiet_step ((first | fail)))); refine wpQuiet_nil ?_; rintro _ ⟨yr, rfl⟩; have syr := Ext.size yr; (repeat (first | rw [World.size_alloc] at syr | rw [World.size_setCell] at syr | rw [World.size_drew] at syr)); have : b < yr.now.heap.size := (by omega); have : b ≤ yr.now.heap.size := (by omega); have : b < yr.now.heap.size + 1 + 1 := (by omega)) | (go_at_call 15; (with_reducible refine Calls.mono (Next_y (hi - lo + 1) b m _ (by omega) (by omega) (by omega) ?_) ?_); (focus ((repeat (first | (with_reducible assumption) | (with_reducible refine RingM.alloc ?_ _) | (with_reducible refine RingM.drew ?_) | (with_reducible refine RingM.ext ?_ _) | (with_reducible refine RingM.set ?_ _ (by omega)))); done)); (rintro _ _ ⟨yx1, vx1, rfl, hvx1, rfl, rgx1⟩); have syx1 := RExt.size yx1; (repeat (first | rw [World.size_alloc] at syx1 | rw [World.size_setCell] at syx1 | rw [World.size_drew] at syx1)); have : b < yx1.now.heap.size := (by omega); have : b ≤ yx1.now.heap.size := (by omega); have : b < yx1.now.heap.size + 1 + 1 := (by omega)))
  go_returns
  refine NumPost.intro (lo + vx1) rfl (by omega) ?_ rgx1
  repeat' (first | (with_reducible exact BelowX.refl _ _ _) | (with_reducible assumption) | (with_reducible refine RExt.belowX _ ?_ ?_) | (with_reducible refine Ext.belowX _ ?_ ?_) | (with_reducible refine BelowX.alloc ?_ ?_ _) | (with_reducible refine BelowX.drew ?_) | (with_reducible refine BelowX.setCell ?_ ?_ _) | (with_reducible exact Nat.le_refl _) | omega | (simp; done) | (simp [go_sem]; done) | (simp at *; omega))
/-- A span in a range. -/
def SpanPost (lo hi : Int) (b m : Nat) (w : World) : Ending → World → Prop := fun e w' => ∃ (y : RExt w b) (v : V2), e = .returned (.agg #[.int .i64 v.x, .int .i64 v.y]) ∧ (lo ≤ v.x ∧ v.x ≤ v.y ∧ v.y ≤ hi) ∧ w' = y.now ∧ RingM y.now b (m + 2)
theorem SpanPost.intro {lo hi : Int} {b m : Nat} {w W : World} {e : Ending} (v : V2) (he : e = .returned (.agg #[.int .i64 v.x, .int .i64 v.y])) (hv : lo ≤ v.x ∧ v.x ≤ v.y ∧ v.y ≤ hi) (hB : BelowX b w.heap.size w W) (hr : RingM W b (m + 2)) : SpanPost lo hi b m w e W := ⟨⟨W, hB⟩, v, he, hv, rfl, hr⟩
set_option maxHeartbeats 4000000 in
theorem spanIn_y (lo hi wide : Int) (b m : Nat) (w : World) (hm : m < 10000000) (h0 : lo ≤ hi) (h1 : 0 ≤ lo) (h2 : hi ≤ 1000000000000000) (h3 : 0 ≤ wide) (h4 : wide ≤ 1000000000000000) (h : RingM w b m) :
    Calls Tryd.prog 41 #[.pointer (some ⟨b, 0, none⟩), .int .i64 lo, .int .i64 hi, .int .i64 wide] w (SpanPost lo hi b m w) := by
  have hl := h.lt
  have hne : w.heap.size ≠ b := by omega
  go_enter Tryd.func41, Tryd.ntmps41
  go_wp2_with (first | ((first | with_reducible refine wrx2 ?_ | with_reducible refine wrx ?_); (repeat (first | go_big_quiet_step ((first | fail)) | quiet_step ((first | fail)))); refine wpQuiet_nil ?_; rintro _ ⟨yr, rfl⟩; have syr := Ext.size yr; (repeat (first | rw [World.size_alloc] at syr | rw [World.size_setCell] at syr | rw [World.size_drew] at syr)); have : b < yr.now.heap.size := (by omega); have : b ≤ yr.now.heap.size := (by omega); have : b < yr.now.heap.size + 1 + 1 := (by omega); have : w.heap.size < yr.now.heap.size := (by omega); have : w.heap.size ≤ yr.now.heap.size := (by omega); have : w.heap.size < yr.now.heap.size + 1 + 1 := (by omega)) | (go_at_call 42; (with_reducible refine Calls.mono (Range_y lo hi b m _ (by omega) (by omega) (by omega) (by omega) ?_) ?_); (focus ((repeat (first | (with_reducible assumption) | (with_reducible refine RingM.alloc ?_ _) | (with_reducible refine RingM.drew ?_) | (with_reducible refine RingM.ext ?_ _) | (with_reducible refine RingM.set ?_ _ (by omega)))); done)); (rintro _ _ ⟨yx1, vx1, rfl, hvx1, rfl, rgx1⟩); have syx1 := RExt.size yx1; (repeat (first | rw [World.size_alloc] at syx1 | rw [World.size_setCell] at syx1 | rw [World.size_drew] at syx1)); have : b < yx1.now.heap.size := (by omega); have : b ≤ yx1.now.heap.size := (by omega); have : b < yx1.now.heap.size + 1 + 1 := (by omega); have : w.heap.size < yx1.now.heap.size := (by omega); have : w.heap.size ≤ yx1.now.heap.size := (by omega); have : w.heap.size < yx1.now.heap.size + 1 + 1 := (by omega)) | (go_at_call 42; (with_reducible refine Calls.mono (Range_y 0 wide b (m + 1) _ (by omega) (by omega) (by omega) (by omega) ?_) ?_); (focus ((repeat (first | (with_reducible assumption) | (with_reducible refine RingM.alloc ?_ _) | (with_reducible refine RingM.drew ?_) | (with_reducible refine RingM.ext ?_ _) | (with_reducible refine RingM.set ?_ _ (by omega)))); done)); (rintro _ _ ⟨yx2, vx2, rfl, hvx2, rfl, rgx2⟩); have syx2 := RExt.size yx2; (repeat (first | rw [World.size_alloc] at syx2 | rw [World.size_setCell] at syx2 | rw [World.size_drew] at syx2)); have : b < yx2.now.heap.size := (by omega); have : b ≤ yx2.now.heap.size := (by omega); have : b < yx2.now.heap.size + 1 + 1 := (by omega); have : w.heap.size < yx2.now.heap.size := (by omega); have : w.heap.size ≤ yx2.now.heap.size := (by omega); have : w.heap.size < yx2.now.heap.size + 1 + 1 := (by omega)))
  all_goals
    have l : ∀ o, yx2.now.cell? ⟨w.heap.size, o, none⟩ = (w.alloc (.cells #[.int .i64 0, .int .i64 0] 29)).cell? ⟨w.heap.size, o, none⟩ := fun o => by
      rw [yx2.cell (by omega) hne, yx1.cell (by simp) hne]
    have l0 : yx2.now.cell? ⟨w.heap.size, 0, none⟩ = some (.int .i64 0) := by rw [l]; simp [go_sem]
    have l1 : yx2.now.cell? ⟨w.heap.size, 1, none⟩ = some (.int .i64 0) := by rw [l]; simp [go_sem]
  all_goals first
    | (refine bodyPost_ret (v := .agg #[.int .i64 vx1, .int .i64 (min hi (vx1 + vx2))]) (by simp [results, Tryd.results41, go_sem, l0, l1]; done) rfl ?_; refine SpanPost.intro ⟨vx1, min hi (vx1 + vx2)⟩ rfl (by simp only; omega) ?_ ((rgx2.set _ (by omega)).set _ (by omega)); (repeat' (first | (with_reducible exact BelowX.refl _ _ _) | (with_reducible assumption) | (with_reducible refine RExt.belowX _ ?_ ?_) | (with_reducible refine Ext.belowX _ ?_ ?_) | (with_reducible refine BelowX.alloc ?_ ?_ _) | (with_reducible refine BelowX.drew ?_) | (with_reducible refine BelowX.setCell ?_ ?_ _) | (with_reducible exact Nat.le_refl _) | omega | (simp; done) | (simp [go_sem]; done) | (simp at *; omega))); done)
    | (refine bodyPost_ret (v := .agg #[.int .i64 vx1, .int .i64 (vx1 + vx2)]) (by simp [results, Tryd.results41, go_sem, l0, l1]; done) rfl ?_; refine SpanPost.intro ⟨vx1, vx1 + vx2⟩ rfl (by simp only; omega) ?_ ((rgx2.set _ (by omega)).set _ (by omega)); (repeat' (first | (with_reducible exact BelowX.refl _ _ _) | (with_reducible assumption) | (with_reducible refine RExt.belowX _ ?_ ?_) | (with_reducible refine Ext.belowX _ ?_ ?_) | (with_reducible refine BelowX.alloc ?_ ?_ _) | (with_reducible refine BelowX.drew ?_) | (with_reducible refine BelowX.setCell ?_ ?_ _) | (with_reducible exact Nat.le_refl _) | omega | (simp; done) | (simp [go_sem]; done) | (simp at *; omega))); done)
    | (refine bodyPost_ret (v := .agg #[.int .i64 vx1, .int .i64 hi]) (by simp [results, Tryd.results41, go_sem, l0, l1]; done) rfl ?_; refine SpanPost.intro ⟨vx1, hi⟩ rfl (by simp only; omega) ?_ ((rgx2.set _ (by omega)).set _ (by omega)); (repeat' (first | (with_reducible exact BelowX.refl _ _ _) | (with_reducible assumption) | (with_reducible refine RExt.belowX _ ?_ ?_) | (with_reducible refine Ext.belowX _ ?_ ?_) | (with_reducible refine BelowX.alloc ?_ ?_ _) | (with_reducible refine BelowX.drew ?_) | (with_reducible refine BelowX.setCell ?_ ?_ _) | (with_reducible exact Nat.le_refl _) | omega | (simp; done) | (simp [go_sem]; done) | (simp at *; omega))); done)
/-- A number of a span. -/
theorem inside_y (lo hi : Int) (b m : Nat) (w : World) (hm : m < 10000000) (h0 : lo ≤ hi) (h1 : 0 ≤ lo) (h2 : hi ≤ 1000000000000000) (h : RingM w b m) :
    Calls Tryd.prog 64 #[.pointer (some ⟨b, 0, none⟩), .agg #[.int .i64 lo, .int .i64 hi]] w (NumPost lo hi b m 2 w) := by
  have hl := h.lt
  have hne : w.heap.size ≠ b := by omega
  go_enter Tryd.func64, Tryd.ntmps64
  have z0 : (hi - lo + 1 == 0) = false := by simp; omega
  go_wp2_with (first | ((first | with_reducible refine wrx2 ?_ | with_reducible refine wrx ?_); (repeat (first | go_big_quiet_step ((first | fail)) | quiet_step ((first | fail)))); refine wpQuiet_nil ?_; rintro _ ⟨yr, rfl⟩; have syr := Ext.size yr; (repeat (first | rw [World.size_alloc] at syr | rw [World.size_setCell] at syr | rw [World.size_drew] at syr)); have : b < yr.now.heap.size := (by omega); have : b ≤ yr.now.heap.size := (by omega); have : b < yr.now.heap.size + 1 + 1 := (by omega); have : w.heap.size < yr.now.heap.size := (by omega); have : w.heap.size ≤ yr.now.heap.size := (by omega); have : w.heap.size < yr.now.heap.size + 1 + 1 := (by omega)) | (go_at_call 15; (with_reducible refine Calls.mono (Next_y 1048576 b m _ (by omega) (by omega) (by omega) ?_) ?_); (focus ((repeat (first | (with_reducible assumption) | (with_reducible refine RingM.alloc ?_ _) | (with_reducible refine RingM.drew ?_) | (with_reducible refine RingM.ext ?_ _) | (with_reducible refine RingM.set ?_ _ (by omega)))); done)); (rintro _ _ ⟨yx1, vx1, rfl, hvx1, rfl, rgx1⟩); have syx1 := RExt.size yx1; (repeat (first | rw [World.size_alloc] at syx1 | rw [World.size_setCell] at syx1 | rw [World.size_drew] at syx1)); have : b < yx1.now.heap.size := (by omega); have : b ≤ yx1.now.heap.size := (by omega); have : b < yx1.now.heap.size + 1 + 1 := (by omega); have : w.heap.size < yx1.now.heap.size := (by omega); have : w.heap.size ≤ yx1.now.heap.size := (by omega); have : w.heap.size < yx1.now.heap.size + 1 + 1 := (by omega)) | (go_at_call 15; (with_reducible refine Calls.mono (Next_y 1048576 b (m + 1) _ (by omega) (by omega) (by omega) ?_) ?_); (focus ((repeat (first | (with_reducible assumption) | (with_reducible refine RingM.alloc ?_ _) | (with_reducible refine RingM.drew ?_) | (with_reducible refine RingM.ext ?_ _) | (with_reducible refine RingM.set ?_ _ (by omega)))); done)); (rintro _ _ ⟨yx2, vx2, rfl, hvx2, rfl, rgx2⟩); have syx2 := RExt.size yx2; (repeat (first | rw [World.size_alloc] at syx2 | rw [World.size_setCell] at syx2 | rw [World.size_drew] at syx2)); have : b < yx2.now.heap.size := (by omega); have : b ≤ yx2.now.heap.size := (by omega); have : b < yx2.now.heap.size + 1 + 1 := (by omega); have : w.heap.size < yx2.now.heap.size := (by omega); have : w.heap.size ≤ yx2.now.heap.size := (by omega); have : w.heap.size < yx2.now.heap.size + 1 + 1 := (by omega)))
  go_returns
  have q0 := Int.emod_nonneg (vx1 * 1048576 + vx2) (b := hi - lo + 1) (by omega)
  have q1 := Int.emod_lt_of_pos (vx1 * 1048576 + vx2) (b := hi - lo + 1) (by omega)
  refine NumPost.intro (lo + (vx1 * 1048576 + vx2) % (hi - lo + 1)) (ret_int (IntWalk.wrap64_in _ (by omega))) (by omega) ?_ ?_
  · repeat' (first | (with_reducible exact BelowX.refl _ _ _) | (with_reducible assumption) | (with_reducible refine RExt.belowX _ ?_ ?_) | (with_reducible refine Ext.belowX _ ?_ ?_) | (with_reducible refine BelowX.alloc ?_ ?_ _) | (with_reducible refine BelowX.drew ?_) | (with_reducible refine BelowX.setCell ?_ ?_ _) | (with_reducible exact Nat.le_refl _) | omega | (simp; done) | (simp [go_sem]; done) | (simp at *; omega))
  · exact rgx2.ext yr
/-- A rock with a fall that statements make of numbers. -/
structure RockOk (k : RockR) (f : FallR) : Prop where
  size : 1 ≤ k.size.x ∧ k.size.x ≤ k.size.y ∧ k.size.y ≤ 120
  dens : 500 ≤ k.dens.x ∧ k.dens.x ≤ k.dens.y ∧ k.dens.y ≤ 4000
  strong : 0 ≤ k.strong.x ∧ k.strong.x ≤ k.strong.y ∧ k.strong.y ≤ 34359738368
  spin : 0 ≤ k.spin.x ∧ k.spin.x ≤ k.spin.y ∧ k.spin.y ≤ 1000
  shape : 500 ≤ k.shape.x ∧ k.shape.x ≤ k.shape.y ∧ k.shape.y ≤ 2000
  speed : 100 ≤ f.speed.x ∧ f.speed.x ≤ f.speed.y ∧ f.speed.y ≤ 5000
  slope : 50 ≤ f.slope.x ∧ f.slope.x ≤ f.slope.y ∧ f.slope.y ≤ 1000
end Go.Proofs.YtlmhbggigbmeaaaDoor
namespace Go.Proofs.YtlmhbggigbmeaaaDoor
open Go.RowKit
def bools : Nat → List (List Bool)
  | 0 => [[]]
  | n + 1 => (bools n).flatMap fun l => [false :: l, true :: l]
theorem mem_bools : ∀ l : List Bool, l ∈ bools l.length
  | [] => by simp [bools]
  | b :: l => by
    simp only [List.length_cons, bools, List.mem_flatMap]
    exact ⟨l, mem_bools l, by cases b <;> simp⟩
/-- Which operations may come up, told by R: a closed fact of the region's own edges. -/
def readyOk (md : Region.Mode) (ops : Array Oper) (R : List Bool → Nat → Bool) : Bool :=
  (bools ops.size).all fun l => (Region.ready md ops l.toArray).all (fun i => R l i && l[i]? == some false) && ((Region.ready md ops l.toArray).isEmpty == l.all id)
theorem readyOk_at {md : Region.Mode} {ops : Array Oper} {R : List Bool → Nat → Bool} (h : readyOk md ops R = true) {l : List Bool} (hl : l.length = ops.size) :
    (∀ i ∈ Region.ready md ops l.toArray, R l i = true ∧ l[i]? = some false) ∧ (Region.ready md ops l.toArray = [] ↔ l.all id = true) := by
  have := List.all_eq_true.1 h l (hl ▸ mem_bools l)
  simp only [Bool.and_eq_true, List.all_eq_true, beq_iff_eq] at this
  refine ⟨this.1, ?_⟩
  have h2 := this.2
  cases hr : Region.ready md ops l.toArray <;> rw [hr] at h2 <;> simp at h2 ⊢ <;> simpa using h2
theorem count_set : ∀ (l : List Bool) (i : Nat), l[i]? = some false → (l.set i true).count false < l.count false
  | [], i, h => by simp at h
  | b :: l, 0, h => by
    simp at h
    subst h
    simp
  | b :: l, i + 1, h => by
    have := count_set l i (by simpa using h)
    simp only [List.set_cons_succ, List.count_cons]
    omega
theorem all_of_count : ∀ l : List Bool, l.count false = 0 → l.all id = true
  | [], _ => rfl
  | false :: l, h => by simp at h
  | true :: l, h => by
    have := all_of_count l (by simpa using h)
    simpa using this
section
variable {P : Program} {ops : Array Oper} {Q : Exit → Act → World → Prop} {md : Region.Mode} {R : List Bool → Nat → Bool} {Inv : List Bool → Act → World → Prop}
theorem wpAny_by (hR : readyOk md ops R = true)
    (hstep : ∀ l a w i, l.length = ops.size → Inv l a w → R l i = true → l[i]? = some false → wpOp P ops Q i (Inv (l.set i true)) a w)
    (hend : ∀ l a w, l.length = ops.size → l.all id = true → Inv l a w → Q .normal a w) :
    ∀ (fuel : Nat) (l : List Bool) (a : Act) (w : World), l.length = ops.size → l.count false ≤ fuel → Inv l a w → wpAny P md ops Q fuel l.toArray a w
  | 0, l, a, w, hl, hc, hi => by
    have := all_of_count l (by omega)
    exact ⟨(readyOk_at hR hl).2.2 this, hend l a w hl this hi⟩
  | fuel + 1, l, a, w, hl, hc, hi => by
    refine ⟨fun h => hend l a w hl ((readyOk_at hR hl).2.1 h) hi, fun i hr => ?_⟩
    obtain ⟨h1, h2⟩ := (readyOk_at hR hl).1 i hr
    have := count_set l i h2
    rw [List.setIfInBounds_toArray]
    exact wpOp_mono (fun a w h => wpAny_by hR hstep hend fuel (l.set i true) a w (by simpa using hl) (by omega) h) (hstep l a w i hl hi h1 h2)
theorem region_by {rid : Nat} {a : Act} {w : World} (hm : P.follows .mixedOrders = true) (R : List Bool → Nat → Bool) (hR : readyOk .any ops R = true) (Inv : List Bool → Act → World → Prop)
    (h0 : Inv (List.replicate ops.size false) a w.drew)
    (hstep : ∀ l a w i, l.length = ops.size → Inv l a w → R l i = true → l[i]? = some false → wpOp P ops Q i (Inv (l.set i true)) a w)
    (hend : ∀ l a w, l.length = ops.size → l.all id = true → Inv l a w → Q .normal a w) : (Code.region rid ops true).wp P Q a w := by
  refine wp_region_any hm ?_
  rw [← List.toArray_replicate]
  exact wpAny_by hR hstep hend ops.size _ _ _ (by simp) (by simp) h0
variable {F : Fence} {n : Nat}
theorem wpAnyIn_by (hR : readyOk md ops R = true)
    (hstep : ∀ l a w i, l.length = ops.size → Inv l a w → R l i = true → l[i]? = some false → wpOpIn F n P ops Q i (Inv (l.set i true)) a w)
    (hend : ∀ l a w, l.length = ops.size → l.all id = true → Inv l a w → Q .normal a w) :
    ∀ (fuel : Nat) (l : List Bool) (a : Act) (w : World), l.length = ops.size → l.count false ≤ fuel → Inv l a w → wpAnyIn F n P md ops Q fuel l.toArray a w
  | 0, l, a, w, hl, hc, hi => by
    have := all_of_count l (by omega)
    exact ⟨(readyOk_at hR hl).2.2 this, hend l a w hl this hi⟩
  | fuel + 1, l, a, w, hl, hc, hi => by
    refine ⟨fun h => hend l a w hl ((readyOk_at hR hl).2.1 h) hi, fun i hr => ?_⟩
    obtain ⟨h1, h2⟩ := (readyOk_at hR hl).1 i hr
    have := count_set l i h2
    rw [List.setIfInBounds_toArray]
    exact wpOpIn_mono (fun a w h => wpAnyIn_by hR hstep hend fuel (l.set i true) a w (by simpa using hl) (by omega) h) (hstep l a w i hl hi h1 h2)
theorem region_by_in {rid : Nat} {a : Act} {w : World} (hm : P.follows .mixedOrders = true) (R : List Bool → Nat → Bool) (hR : readyOk .any ops R = true) (Inv : List Bool → Act → World → Prop)
    (h0 : Inv (List.replicate ops.size false) a w.drew)
    (hstep : ∀ l a w i, l.length = ops.size → Inv l a w → R l i = true → l[i]? = some false → wpOpIn F n P ops Q i (Inv (l.set i true)) a w)
    (hend : ∀ l a w, l.length = ops.size → l.all id = true → Inv l a w → Q .normal a w) : (Code.region rid ops true).wpIn F n P Q a w := by
  refine wpIn_region_any hm ?_
  rw [← List.toArray_replicate]
  exact wpAnyIn_by hR hstep hend ops.size _ _ _ (by simp) (by simp) h0
end
/-- A whole row stored into a block, inside a fence. -/
theorem wpIn_store_row {P : Program} {F : Fence} {n : Nat} {o : Oper} {a : Act} {w : World} {K : Act → World → Prop} {Q : Exit → Act → World → Prop} (ty : TypeId) (x y : Operand) (ho : o.op = .store ty x y) (hab : o.about P w a.eval = none)
    (g : Nat) (cells : Array Value) (hx : a.eval x = .pointer (some ⟨g, 0, none⟩)) (hy : a.eval y = .agg cells)
    (t : TypeId) (old : Array Value) (hg : w.heap[g]? = some (.cells old t (0, 0))) (hi : (P.info? ty).map (·.size) = some cells.size)
    (hsz : old.size = cells.size) (h1 : cells.all (·.oneCell') = true) (h : K (a.put o.dst undef) (w.setRow g cells)) : o.wpIn F n P a w K Q := by
  refine ⟨fun f hf => (by rw [hab] at hf; cases hf), ?_⟩
  rw [Oper.semAt_eq _ _ _ (fun c hc => (by rw [ho] at hc; cases hc))]
  unfold execOp
  simp only [ho, hx, hy, Instr.storeAt, Instr.sureAddr, Sem.run_bind, Sem.run_pure, Result.andThen_ok, run_storeVar_row w g t ty old cells hg hi hsz h1]
  exact h
theorem below_setRow {B : Nat} {w W : World} (h : Below B w W) {g : Nat} (hg : B ≤ g) (cs : Array Value) : Below B w (W.setRow g cs) :=
  ⟨h.os, h.tape, h.output, by have := h.size; simpa using this, fun i hi => (setRow_other W g i cs (by omega)).trans (h.block i hi)⟩
theorem list7 {α : Type} {l : List α} (h : l.length = 7) : ∃ a b c d e f g, l = [a, b, c, d, e, f, g] := by
  match l, h with
  | [a, b, c, d, e, f, g], _ => exact ⟨a, b, c, d, e, f, g, rfl⟩
end Go.Proofs.YtlmhbggigbmeaaaDoor
namespace Go.Proofs.YtlmhbggigbmeaaaDoor
open Go.RowKit
def depsOk (md : Region.Mode) (ops : Array Oper) (deps : List (List Nat)) : Bool :=
  (List.range ops.size).all fun i => match ops[i]? with
    | none => true
    | some o => (o.after.all fun e => !Region.binds md e || decide (e.on < i)) && (deps.getD i []).all fun j => o.after.any fun e => Region.binds md e && e.on == j
section
variable {P : Program} {ops : Array Oper} {Q : Exit → Act → World → Prop} {md : Region.Mode} {deps : List (List Nat)} {Inv : List Bool → Act → World → Prop}
theorem depsOk_at (hD : depsOk md ops deps = true) {i : Nat} {o : Oper} (ho : ops[i]? = some o) : (∀ e ∈ o.after, Region.binds md e = true → e.on < i) ∧ ∀ j ∈ deps.getD i [], ∃ e ∈ o.after, Region.binds md e = true ∧ e.on = j := by
  have h1 := List.all_eq_true.1 hD i (List.mem_range.2 (Array.getElem?_eq_some_iff.1 ho).1)
  simp only [ho, Bool.and_eq_true, Array.all_eq_true', List.all_eq_true] at h1
  refine ⟨fun e he hb => ?_, fun j hj => ?_⟩
  · have := h1.1 e he
    simpa [hb] using this
  · obtain ⟨e, he, hb⟩ := Array.any_eq_true'.1 (h1.2 j hj)
    simp only [Bool.and_eq_true, beq_iff_eq] at hb
    exact ⟨e, he, hb.1, hb.2⟩
theorem ready_dep (hD : depsOk md ops deps = true) {l : List Bool} (hl : l.length = ops.size) {i : Nat} (hi : i ∈ Region.ready md ops l.toArray) : ((deps.getD i []).all fun j => l.getD j false) = true ∧ l[i]? = some false := by
  obtain ⟨hu, o, ho, hall⟩ := mem_ready.1 hi
  have hlt : i < ops.size := (Array.getElem?_eq_some_iff.1 ho).1
  refine ⟨List.all_eq_true.2 fun j hj => ?_, ?_⟩
  · obtain ⟨e, he, hb, rfl⟩ := (depsOk_at hD ho).2 j hj
    simpa using hall e he hb
  · have h2 : i < l.length := by omega
    rw [List.getElem?_eq_getElem h2]
    simpa [h2] using hu
theorem ready_nil (hD : depsOk md ops deps = true) {l : List Bool} (hl : l.length = ops.size) (hr : Region.ready md ops l.toArray = []) : l.all id = true := by
  have key : ∀ i, i < ops.size → l.getD i false = true := by
    intro i
    induction i using Nat.strongRecOn with
    | ind i ih =>
      intro hi
      cases hb : l.getD i false with
      | true => rfl
      | false =>
        have hm : i ∈ Region.ready md ops l.toArray := by
          refine mem_ready.2 ⟨?_, ops[i], Array.getElem?_eq_getElem hi, fun e he hbn => ?_⟩
          · have h2 : i < l.length := by omega
            simpa [h2] using hb
          · have h1 := (depsOk_at hD (Array.getElem?_eq_getElem hi)).1 e he hbn
            simpa using ih e.on h1 (by omega)
        rw [hr] at hm
        cases hm
  refine List.all_eq_true.2 fun b hb => ?_
  obtain ⟨i, hi, rfl⟩ := List.getElem_of_mem hb
  have := key i (by omega)
  simpa [hi] using this
theorem wpAny_dep (hD : depsOk md ops deps = true)
    (hstep : ∀ l a w i, l.length = ops.size → Inv l a w → ((deps.getD i []).all fun j => l.getD j false) = true → l[i]? = some false → wpOp P ops Q i (Inv (l.set i true)) a w)
    (hend : ∀ l a w, l.length = ops.size → l.all id = true → Inv l a w → Q .normal a w) :
    ∀ (fuel : Nat) (l : List Bool) (a : Act) (w : World), l.length = ops.size → l.count false ≤ fuel → Inv l a w → wpAny P md ops Q fuel l.toArray a w
  | 0, l, a, w, hl, hc, hi => by
    have hall := all_of_count l (by omega)
    refine ⟨?_, hend l a w hl hall hi⟩
    refine List.eq_nil_iff_forall_not_mem.2 fun i hm => ?_
    obtain ⟨-, h2⟩ := ready_dep hD hl hm
    have := List.all_eq_true.1 hall false (List.mem_of_getElem? h2)
    cases this
  | fuel + 1, l, a, w, hl, hc, hi => by
    refine ⟨fun h => hend l a w hl (ready_nil hD hl h) hi, fun i hr => ?_⟩
    obtain ⟨h1, h2⟩ := ready_dep hD hl hr
    have := count_set l i h2
    rw [List.setIfInBounds_toArray]
    exact wpOp_mono (fun a w h => wpAny_dep hD hstep hend fuel (l.set i true) a w (by simpa using hl) (by omega) h) (hstep l a w i hl hi h1 h2)
theorem region_dep {rid : Nat} {a : Act} {w : World} (hm : P.follows .mixedOrders = true) (deps : List (List Nat)) (hD : depsOk .any ops deps = true) (Inv : Act → World → List Bool → Act → World → Prop)
    (h0 : Inv a w (List.replicate ops.size false) a w.drew)
    (hstep : ∀ l fr W i, l.length = ops.size → Inv a w l fr W → ((deps.getD i []).all fun j => l.getD j false) = true → l[i]? = some false → wpOp P ops Q i (Inv a w (l.set i true)) fr W)
    (hend : ∀ l fr W, l.length = ops.size → l.all id = true → Inv a w l fr W → Q .normal fr W) : (Code.region rid ops true).wp P Q a w := by
  refine wp_region_any hm ?_
  rw [← List.toArray_replicate]
  exact wpAny_dep (Inv := Inv a w) hD hstep hend ops.size _ _ _ (by simp) (by simp) h0
end
theorem list14 {α : Type} {l : List α} (h : l.length = 14) : ∃ b0 b1 b2 b3 b4 b5 b6 b7 b8 b9 b10 b11 b12 b13, l = [b0, b1, b2, b3, b4, b5, b6, b7, b8, b9, b10, b11, b12, b13] := by
  match l, h with
  | [b0, b1, b2, b3, b4, b5, b6, b7, b8, b9, b10, b11, b12, b13], _ => exact ⟨_, _, _, _, _, _, _, _, _, _, _, _, _, _, rfl⟩
end Go.Proofs.YtlmhbggigbmeaaaDoor

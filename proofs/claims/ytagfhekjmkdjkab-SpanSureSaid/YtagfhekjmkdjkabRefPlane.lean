/- Contracts of the reference's distances of segments. Condition: the places' numbers lie within their limits, where a function asks for it. -/
import Derived.Test.YtagfhekjmkdjkabRefWide
import Derived.Test.YtagfhekjmkdjkabMath
import Derived.LoopTactic
namespace Go.Proofs.Ytagfhekjmkdjkab
open Go.RowKit Go.Shelf
attribute [local go_sem] Ext.cell Ext.frozen Ext.lt Ext.le Ext.lt_add Ext.le_add Ext.ne Ext.ne' lt2 lt3 lt4 lt5 le2 le3 le4
def btwB (n lo hi : Int) : Bool := decide (lo ≤ n) && decide (n ≤ hi)
theorem between_any (n lo hi : Int) (w : World) : Calls Try.prog 35 #[.int .i64 n, .int .i64 lo, .int .i64 hi] w (Gives (.bool (btwB n lo hi)) w) := by
  unfold btwB
  by_cases h1 : lo ≤ n
  · simp only [h1, decide_true, Bool.true_and]
    go_enter Try.func35, Try.ntmps35
    go_wp2_with (first | ((first | with_reducible refine wp_region_ext2 (by kernel_rfl) (by kernel_rfl) ?_ | with_reducible refine wp_region_ext (by kernel_rfl) (by kernel_rfl) ?_); (repeat (first | go_big_quiet_step ((first | fail)) | quiet_step ((first | fail)))); refine wpQuiet_nil ?_; rintro _ ⟨yr, rfl⟩; have syr := Ext.size yr; (repeat (first | rw [World.size_alloc] at syr | rw [World.size_setCell] at syr | rw [World.size_drew] at syr))))
    go_returns
    refine ⟨rfl, ?_⟩
    repeat' (first | (with_reducible exact Below.refl _ _) | (with_reducible assumption) | (with_reducible refine Ext.below _ ?_ ?_) | (with_reducible refine Below.on ?_ (by with_reducible assumption) ?_) | (with_reducible refine Below.alloc ?_ ?_ _) | (with_reducible refine Below.drew ?_) | (with_reducible refine Below.setCell ?_ ?_ _) | (with_reducible exact Nat.le_refl _) | omega | (simp; done) | (simp [go_sem]; done) | (simp at *; omega))
  · simp only [h1, decide_false, Bool.false_and]
    go_enter Try.func35, Try.ntmps35
    go_wp2_with (first | ((first | with_reducible refine wp_region_ext2 (by kernel_rfl) (by kernel_rfl) ?_ | with_reducible refine wp_region_ext (by kernel_rfl) (by kernel_rfl) ?_); (repeat (first | go_big_quiet_step ((first | fail)) | quiet_step ((first | fail)))); refine wpQuiet_nil ?_; rintro _ ⟨yr, rfl⟩; have syr := Ext.size yr; (repeat (first | rw [World.size_alloc] at syr | rw [World.size_setCell] at syr | rw [World.size_drew] at syr))))
    go_returns
    refine ⟨rfl, ?_⟩
    repeat' (first | (with_reducible exact Below.refl _ _) | (with_reducible assumption) | (with_reducible refine Ext.below _ ?_ ?_) | (with_reducible refine Below.on ?_ (by with_reducible assumption) ?_) | (with_reducible refine Below.alloc ?_ ?_ _) | (with_reducible refine Below.drew ?_) | (with_reducible refine Below.setCell ?_ ?_ _) | (with_reducible exact Nat.le_refl _) | omega | (simp; done) | (simp [go_sem]; done) | (simp at *; omega))
def far1 (n : Int) : Bool := btwB n (-268435456) 268435456
theorem far1_farB (x y : Int) : (far1 x && far1 y) = farB x y := by unfold far1 btwB farB; rw [Bool.eq_iff_iff]; simp; omega
theorem btwB_rad (r : Int) : btwB r 0 268435456 = radB r := by unfold btwB radB; rw [Bool.eq_iff_iff]; simp
theorem far_any (n : Int) (w : World) : Calls Try.prog 54 #[.int .i64 n] w (Gives (.bool (far1 n)) w) := by
  go_enter Try.func54, Try.ntmps54
  go_wp2_with (first | ((first | with_reducible refine wp_region_ext2 (by kernel_rfl) (by kernel_rfl) ?_ | with_reducible refine wp_region_ext (by kernel_rfl) (by kernel_rfl) ?_); (repeat (first | go_big_quiet_step ((first | (go_at_call 35; with_reducible exact Calls.ext (between_any _ _ _ _)))) | quiet_step ((first | (go_at_call 35; with_reducible exact Calls.ext (between_any _ _ _ _)))))); refine wpQuiet_nil ?_; rintro _ ⟨yr, rfl⟩; have syr := Ext.size yr; (repeat (first | rw [World.size_alloc] at syr | rw [World.size_setCell] at syr | rw [World.size_drew] at syr))) | (go_at_call 35; (first | with_reducible refine (Calls.giv2 (between_any _ _ _ _)).mono ?_ | with_reducible refine (Calls.giv (between_any _ _ _ _)).mono ?_); rintro _ _ ⟨y1, rfl, rfl⟩; have sy1 := Ext.size y1; (repeat (first | rw [World.size_alloc] at sy1 | rw [World.size_setCell] at sy1 | rw [World.size_drew] at sy1))))
  go_returns
  refine ⟨rfl, ?_⟩
  repeat' (first | (with_reducible exact Below.refl _ _) | (with_reducible assumption) | (with_reducible refine Ext.below _ ?_ ?_) | (with_reducible refine Below.on ?_ (by with_reducible assumption) ?_) | (with_reducible refine Below.alloc ?_ ?_ _) | (with_reducible refine Below.drew ?_) | (with_reducible refine Below.setCell ?_ ?_ _) | (with_reducible exact Nat.le_refl _) | omega | (simp; done) | (simp [go_sem]; done) | (simp at *; omega))
theorem square_any (x y : Int) (w : World) (h1 : -536870912 ≤ x) (h2 : x ≤ 536870912) (h3 : -536870912 ≤ y) (h4 : y ≤ 536870912) : Calls Try.prog 36 #[.agg #[.int .i64 x, .int .i64 y]] w (Gives (.int .i64 (x * x + y * y)) w) := by
  have a := sq_bounds h1 h2
  have b := sq_bounds h3 h4
  simp only [Int.reduceMul] at a b
  obtain ⟨a1, a2⟩ := a; obtain ⟨b1, b2⟩ := b
  go_enter Try.func36, Try.ntmps36
  go_wp2_with (first | ((first | with_reducible refine wp_region_ext2 (by kernel_rfl) (by kernel_rfl) ?_ | with_reducible refine wp_region_ext (by kernel_rfl) (by kernel_rfl) ?_); (repeat (first | go_big_quiet_step ((first | fail)) | quiet_step ((first | fail)))); refine wpQuiet_nil ?_; rintro _ ⟨yr, rfl⟩; have syr := Ext.size yr; (repeat (first | rw [World.size_alloc] at syr | rw [World.size_setCell] at syr | rw [World.size_drew] at syr))))
  go_returns
  refine ⟨rfl, ?_⟩
  repeat' (first | (with_reducible exact Below.refl _ _) | (with_reducible assumption) | (with_reducible refine Ext.below _ ?_ ?_) | (with_reducible refine Below.on ?_ (by with_reducible assumption) ?_) | (with_reducible refine Below.alloc ?_ ?_ _) | (with_reducible refine Below.drew ?_) | (with_reducible refine Below.setCell ?_ ?_ _) | (with_reducible exact Nat.le_refl _) | omega | (simp; done) | (simp [go_sem]; done) | (simp at *; omega))
theorem order_refw (m n : Int) (hm : 0 ≤ m) (hn : 0 ≤ n) (w : World) : Calls Try.prog 38 #[refw m, refw n] w (Gives (.int .i64 (sgn (m - n))) w) := by
  have h := order_any (decide (m < 0)) (decide (n < 0)) (absI m / 18446744073709551616) (absI m % 18446744073709551616) (absI n / 18446744073709551616) (absI n % 18446744073709551616) w
  rw [absI_pos hm, absI_pos hn, cmp_abs _ _ hm hn] at h
  unfold refw
  rw [absI_pos hm, absI_pos hn]
  exact h
set_option maxHeartbeats 1000000 in
theorem refwithin_any (px py qx qy r : Int) (w : World) (h1 : Far px) (h2 : Far py) (h3 : Far qx) (h4 : Far qy) (hr0 : 0 ≤ r) (hr1 : r ≤ 1073741824) :
    Calls Try.prog 19 #[.agg #[.int .i64 px, .int .i64 py], .agg #[.int .i64 qx, .int .i64 qy], .int .i64 r] w (Gives (.bool (withinB px py qx qy r)) w) := by
  have i7 : I64 (px * qy - py * qx) := by
    have e1 := mul_bounds h1.1 h1.2 h4.1 h4.2
    have e2 := mul_bounds h2.1 h2.2 h3.1 h3.2
    simp only [Int.reduceMul] at e1 e2
    unfold I64; omega
  unfold Far at h1 h2 h3 h4
  obtain ⟨a1, a2⟩ := h1; obtain ⟨b1, b2⟩ := h2; obtain ⟨c1, c2⟩ := h3; obtain ⟨d1, d2⟩ := h4
  have e1 := mul_bounds a1 a2 d1 d2
  have e2 := mul_bounds b1 b2 c1 c2
  have e3 := sq_bounds (B := 536870912) (x := qx - px) (by omega) (by omega)
  have e4 := sq_bounds (B := 536870912) (x := qy - py) (by omega) (by omega)
  have e5 := sq_bounds (B := 1073741824) (x := r) (by omega) (by omega)
  have e6 := mul_bounds (B := 536870912) (x := px) (y := qx - px) (by omega) (by omega) (by omega) (by omega)
  have e7 := mul_bounds (B := 536870912) (x := py) (y := qy - py) (by omega) (by omega) (by omega) (by omega)
  have e8 := mul_bounds (B := 536870912) (x := qx) (y := qx - px) (by omega) (by omega) (by omega) (by omega)
  have e9 := mul_bounds (B := 536870912) (x := qy) (y := qy - py) (by omega) (by omega) (by omega) (by omega)
  simp only [Int.reduceMul, Int.reduceNeg] at e1 e2 e3 e4 e5 e6 e7 e8 e9
  obtain ⟨e11, e12⟩ := e1; obtain ⟨e21, e22⟩ := e2; obtain ⟨e31, e32⟩ := e3; obtain ⟨e41, e42⟩ := e4; obtain ⟨e51, e52⟩ := e5
  obtain ⟨e61, e62⟩ := e6; obtain ⟨e71, e72⟩ := e7; obtain ⟨e81, e82⟩ := e8; obtain ⟨e91, e92⟩ := e9
  by_cases t1 : 0 ≤ px * (qx - px) + py * (qy - py)
  · have hv : withinB px py qx qy r = decide (px * px + py * py ≤ r * r) := by unfold withinB nearB; rw [if_pos t1]
    rw [hv]; clear hv
    go_enter Try.func19, Try.ntmps19
    go_wp2_with (first | ((first | with_reducible refine wp_region_ext2 (by kernel_rfl) (by kernel_rfl) ?_ | with_reducible refine wp_region_ext (by kernel_rfl) (by kernel_rfl) ?_); (repeat (first | go_big_quiet_step ((first | (go_at_call 36; with_reducible exact Calls.ext (square_any _ _ _ (by omega) (by omega) (by omega) (by omega))))) | quiet_step ((first | (go_at_call 36; with_reducible exact Calls.ext (square_any _ _ _ (by omega) (by omega) (by omega) (by omega))))))); refine wpQuiet_nil ?_; rintro _ ⟨yr, rfl⟩; have syr := Ext.size yr; (repeat (first | rw [World.size_alloc] at syr | rw [World.size_setCell] at syr | rw [World.size_drew] at syr))) | (go_at_call 36; (first | with_reducible refine (Calls.giv2 (square_any _ _ _ (by omega) (by omega) (by omega) (by omega))).mono ?_ | with_reducible refine (Calls.giv (square_any _ _ _ (by omega) (by omega) (by omega) (by omega))).mono ?_); rintro _ _ ⟨y1, rfl, rfl⟩; have sy1 := Ext.size y1; (repeat (first | rw [World.size_alloc] at sy1 | rw [World.size_setCell] at sy1 | rw [World.size_drew] at sy1))))
    go_returns
    refine ⟨rfl, ?_⟩
    repeat' (first | (with_reducible exact Below.refl _ _) | (with_reducible assumption) | (with_reducible refine Ext.below _ ?_ ?_) | (with_reducible refine Below.on ?_ (by with_reducible assumption) ?_) | (with_reducible refine Below.alloc ?_ ?_ _) | (with_reducible refine Below.drew ?_) | (with_reducible refine Below.setCell ?_ ?_ _) | (with_reducible exact Nat.le_refl _) | omega | (simp; done) | (simp [go_sem]; done) | (simp at *; omega))
  by_cases t2 : qx * (qx - px) + qy * (qy - py) ≤ 0
  · have hv : withinB px py qx qy r = decide (qx * qx + qy * qy ≤ r * r) := by unfold withinB nearB; rw [if_neg t1, if_pos t2]
    rw [hv]; clear hv
    go_enter Try.func19, Try.ntmps19
    go_wp2_with (first | ((first | with_reducible refine wp_region_ext2 (by kernel_rfl) (by kernel_rfl) ?_ | with_reducible refine wp_region_ext (by kernel_rfl) (by kernel_rfl) ?_); (repeat (first | go_big_quiet_step ((first | (go_at_call 36; with_reducible exact Calls.ext (square_any _ _ _ (by omega) (by omega) (by omega) (by omega))))) | quiet_step ((first | (go_at_call 36; with_reducible exact Calls.ext (square_any _ _ _ (by omega) (by omega) (by omega) (by omega))))))); refine wpQuiet_nil ?_; rintro _ ⟨yr, rfl⟩; have syr := Ext.size yr; (repeat (first | rw [World.size_alloc] at syr | rw [World.size_setCell] at syr | rw [World.size_drew] at syr))) | (go_at_call 36; (first | with_reducible refine (Calls.giv2 (square_any _ _ _ (by omega) (by omega) (by omega) (by omega))).mono ?_ | with_reducible refine (Calls.giv (square_any _ _ _ (by omega) (by omega) (by omega) (by omega))).mono ?_); rintro _ _ ⟨y1, rfl, rfl⟩; have sy1 := Ext.size y1; (repeat (first | rw [World.size_alloc] at sy1 | rw [World.size_setCell] at sy1 | rw [World.size_drew] at sy1))))
    go_returns
    refine ⟨rfl, ?_⟩
    repeat' (first | (with_reducible exact Below.refl _ _) | (with_reducible assumption) | (with_reducible refine Ext.below _ ?_ ?_) | (with_reducible refine Below.on ?_ (by with_reducible assumption) ?_) | (with_reducible refine Below.alloc ?_ ?_ _) | (with_reducible refine Below.drew ?_) | (with_reducible refine Below.setCell ?_ ?_ _) | (with_reducible exact Nat.le_refl _) | omega | (simp; done) | (simp [go_sem]; done) | (simp at *; omega))
  · have i8 : I64 (r * r) := by unfold I64; omega
    have i9 : I64 ((qx - px) * (qx - px) + (qy - py) * (qy - py)) := by unfold I64; omega
    have o := fun W => order_refw ((px * qy - py * qx) * (px * qy - py * qx)) (r * r * ((qx - px) * (qx - px) + (qy - py) * (qy - py))) (sq0 _) (Int.mul_nonneg e51 (by omega)) W
    have O := Go.Lib.hid o
    clear o
    have hv : withinB px py qx qy r = decide (sgn ((px * qy - py * qx) * (px * qy - py * qx) - r * r * ((qx - px) * (qx - px) + (qy - py) * (qy - py))) ≤ 0) := by
      unfold withinB; rw [if_neg t1, if_neg t2, Bool.eq_iff_iff, decide_eq_true_eq, decide_eq_true_eq, sgn_nonpos]; omega
    rw [hv]; clear hv
    have t1' : px * (qx - px) + py * (qy - py) < 0 := by omega
    have t2' : 0 < qx * (qx - px) + qy * (qy - py) := by omega
    clear t1 t2
    go_enter Try.func19, Try.ntmps19
    go_wp2_with (first | ((first | with_reducible refine wp_region_ext2 (by kernel_rfl) (by kernel_rfl) ?_ | with_reducible refine wp_region_ext (by kernel_rfl) (by kernel_rfl) ?_); (repeat (first | go_big_quiet_step ((first | (go_at_call 36; with_reducible exact Calls.ext (square_any _ _ _ (by omega) (by omega) (by omega) (by omega))) | (go_at_call 37; with_reducible exact Calls.ext (wideOf_any _ _ _ (by assumption) (by assumption))) | (go_at_call 38; with_reducible exact Calls.ext (O.out _)))) | quiet_step ((first | (go_at_call 36; with_reducible exact Calls.ext (square_any _ _ _ (by omega) (by omega) (by omega) (by omega))) | (go_at_call 37; with_reducible exact Calls.ext (wideOf_any _ _ _ (by assumption) (by assumption))) | (go_at_call 38; with_reducible exact Calls.ext (O.out _)))))); refine wpQuiet_nil ?_; rintro _ ⟨yr, rfl⟩; have syr := Ext.size yr; (repeat (first | rw [World.size_alloc] at syr | rw [World.size_setCell] at syr | rw [World.size_drew] at syr))) | (go_at_call 36; (first | with_reducible refine (Calls.giv2 (square_any _ _ _ (by omega) (by omega) (by omega) (by omega))).mono ?_ | with_reducible refine (Calls.giv (square_any _ _ _ (by omega) (by omega) (by omega) (by omega))).mono ?_); rintro _ _ ⟨y1, rfl, rfl⟩; have sy1 := Ext.size y1; (repeat (first | rw [World.size_alloc] at sy1 | rw [World.size_setCell] at sy1 | rw [World.size_drew] at sy1))) | (go_at_call 37; (first | with_reducible refine (Calls.giv2 (wideOf_any _ _ _ (by assumption) (by assumption))).mono ?_ | with_reducible refine (Calls.giv (wideOf_any _ _ _ (by assumption) (by assumption))).mono ?_); rintro _ _ ⟨y2, rfl, rfl⟩; have sy2 := Ext.size y2; (repeat (first | rw [World.size_alloc] at sy2 | rw [World.size_setCell] at sy2 | rw [World.size_drew] at sy2))) | (go_at_call 38; (first | with_reducible refine (Calls.giv2 (O.out _)).mono ?_ | with_reducible refine (Calls.giv (O.out _)).mono ?_); rintro _ _ ⟨y3, rfl, rfl⟩; have sy3 := Ext.size y3; (repeat (first | rw [World.size_alloc] at sy3 | rw [World.size_setCell] at sy3 | rw [World.size_drew] at sy3))))
    go_returns
    refine ⟨rfl, ?_⟩
    repeat' (first | (with_reducible exact Below.refl _ _) | (with_reducible assumption) | (with_reducible refine Ext.below _ ?_ ?_) | (with_reducible refine Below.on ?_ (by with_reducible assumption) ?_) | (with_reducible refine Below.alloc ?_ ?_ _) | (with_reducible refine Below.drew ?_) | (with_reducible refine Below.setCell ?_ ?_ _) | (with_reducible exact Nat.le_refl _) | omega | (simp; done) | (simp [go_sem]; done) | (simp at *; omega))
end Go.Proofs.Ytagfhekjmkdjkab

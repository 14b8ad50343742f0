/- Contracts of package span's plane: near, within, and the least radius. Conditions: the places' numbers lie within their limits. -/
import Derived.Test.YtagfhekjmkdjkaaNum
import Derived.LoopTactic
namespace Go.Proofs.Ytagfhekjmkdjkaa
open Go.RowKit Go.Shelf
attribute [local go_sem] Ext.cell Ext.frozen Ext.lt Ext.le Ext.lt_add Ext.le_add Ext.ne Ext.ne' lt2 lt3 lt4 lt5 le2 le3 le4
/-- Numbers with which no square overflows. -/
def S40 (n : Int) : Prop := -1099511627776 ≤ n ∧ n ≤ 1099511627776
theorem S40.i64 {n : Int} (h : S40 n) : I64 n := by unfold S40 I64 at *; omega
theorem sq_bounds {x : Int} {B : Int} (h1 : -B ≤ x) (h2 : x ≤ B) : 0 ≤ x * x ∧ x * x ≤ B * B := by
  constructor
  · rcases Int.le_total 0 x with h | h
    · exact Int.mul_nonneg h h
    · exact Int.mul_nonneg_of_nonpos_of_nonpos h h
  · have a := Int.mul_nonneg (show 0 ≤ B - x by omega) (show 0 ≤ B + x by omega)
    simp only [Int.sub_mul, Int.mul_add] at a
    have c : x * B = B * x := Int.mul_comm _ _
    omega
theorem mul_bounds {x y : Int} {B : Int} (h1 : -B ≤ x) (h2 : x ≤ B) (h3 : -B ≤ y) (h4 : y ≤ B) : -(B * B) ≤ x * y ∧ x * y ≤ B * B := by
  have a := Int.mul_nonneg (show 0 ≤ B - x by omega) (show 0 ≤ B + y by omega)
  have b := Int.mul_nonneg (show 0 ≤ B + x by omega) (show 0 ≤ B - y by omega)
  have c := Int.mul_nonneg (show 0 ≤ B - x by omega) (show 0 ≤ B - y by omega)
  have d := Int.mul_nonneg (show 0 ≤ B + x by omega) (show 0 ≤ B + y by omega)
  simp only [Int.sub_mul, Int.mul_sub, Int.add_mul, Int.mul_add] at a b c d
  have e : x * B = B * x := Int.mul_comm _ _
  constructor <;> omega
/-- A place is within r of the origin. -/
def nearB (x y r : Int) : Bool := decide (x * x + y * y ≤ r * r)
theorem near_any (x y r : Int) (w : World) (hx : S40 x) (hy : S40 y) (hr : S40 r) : Calls Try.prog 48 #[.agg #[.int .i64 x, .int .i64 y], .int .i64 r] w (Gives (.bool (nearB x y r)) w) := by
  have hs : I64 (whi (x * x + y * y)) := by
    have a := sq_bounds hx.1 hx.2; have b := sq_bounds hy.1 hy.2
    unfold I64 whi; omega
  have hx := hx.i64; have hy := hy.i64; have hr := hr.i64
  go_enter Try.func48, Try.ntmps48
  go_wp2_with (first | ((first | with_reducible refine wp_region_ext2 (by kernel_rfl) (by kernel_rfl) ?_ | with_reducible refine wp_region_ext (by kernel_rfl) (by kernel_rfl) ?_); (repeat (first | go_big_quiet_step ((first | (go_at_call 41; with_reducible exact Calls.ext (product_any _ _ _ (by assumption) (by assumption))) | (go_at_call 64; with_reducible exact Calls.ext (plus_any _ _ _ hs)) | (go_at_call 44; with_reducible exact Calls.ext (compare_any _ _ _ _ _)))) | quiet_step ((first | (go_at_call 41; with_reducible exact Calls.ext (product_any _ _ _ (by assumption) (by assumption))) | (go_at_call 64; with_reducible exact Calls.ext (plus_any _ _ _ hs)) | (go_at_call 44; with_reducible exact Calls.ext (compare_any _ _ _ _ _)))))); refine wpQuiet_nil ?_; rintro _ ⟨yr, rfl⟩; have syr := Ext.size yr; (repeat (first | rw [World.size_alloc] at syr | rw [World.size_setCell] at syr | rw [World.size_drew] at syr))) | (go_at_call 41; (first | with_reducible refine (Calls.giv2 (product_any _ _ _ (by assumption) (by assumption))).mono ?_ | with_reducible refine (Calls.giv (product_any _ _ _ (by assumption) (by assumption))).mono ?_); rintro _ _ ⟨y1, rfl, rfl⟩; have sy1 := Ext.size y1; (repeat (first | rw [World.size_alloc] at sy1 | rw [World.size_setCell] at sy1 | rw [World.size_drew] at sy1))) | (go_at_call 64; (first | with_reducible refine (Calls.giv2 (plus_any _ _ _ hs)).mono ?_ | with_reducible refine (Calls.giv (plus_any _ _ _ hs)).mono ?_); rintro _ _ ⟨y2, rfl, rfl⟩; have sy2 := Ext.size y2; (repeat (first | rw [World.size_alloc] at sy2 | rw [World.size_setCell] at sy2 | rw [World.size_drew] at sy2))) | (go_at_call 44; (first | with_reducible refine (Calls.giv2 (compare_any _ _ _ _ _)).mono ?_ | with_reducible refine (Calls.giv (compare_any _ _ _ _ _)).mono ?_); rintro _ _ ⟨y3, rfl, rfl⟩; have sy3 := Ext.size y3; (repeat (first | rw [World.size_alloc] at sy3 | rw [World.size_setCell] at sy3 | rw [World.size_drew] at sy3))))
  go_returns
  refine ⟨ret_bool ?_, ?_⟩
  · rw [cmpw_sgn]; unfold sgn nearB; rw [Bool.eq_iff_iff]; simp; split <;> (try split) <;> omega
  · repeat' (first | (with_reducible exact Below.refl _ _) | (with_reducible assumption) | (with_reducible refine Ext.below _ ?_ ?_) | (with_reducible refine Below.on ?_ (by with_reducible assumption) ?_) | (with_reducible refine Below.alloc ?_ ?_ _) | (with_reducible refine Below.drew ?_) | (with_reducible refine Below.setCell ?_ ?_ _) | (with_reducible exact Nat.le_refl _) | omega | (simp; done) | (simp [go_sem]; done) | (simp at *; omega))
theorem sgn_nonneg (n : Int) : 0 ≤ sgn n ↔ 0 ≤ n := by unfold sgn; split <;> (try split) <;> omega
theorem sgn_nonpos (n : Int) : sgn n ≤ 0 ↔ n ≤ 0 := by unfold sgn; split <;> (try split) <;> omega
/-- A segment comes within r of the origin. -/
def withinB (px py qx qy r : Int) : Bool :=
  if 0 ≤ px * (qx - px) + py * (qy - py) then nearB px py r
  else if qx * (qx - px) + qy * (qy - py) ≤ 0 then nearB qx qy r
  else decide ((px * qy - py * qx) * (px * qy - py * qx) ≤ r * r * ((qx - px) * (qx - px) + (qy - py) * (qy - py)))
def Far (n : Int) : Prop := -268435456 ≤ n ∧ n ≤ 268435456
theorem within_any (px py qx qy r : Int) (w : World) (h1 : Far px) (h2 : Far py) (h3 : Far qx) (h4 : Far qy) (hr0 : 0 ≤ r) (hr1 : r ≤ 536870912) :
    Calls Try.prog 49 #[.agg #[.int .i64 px, .int .i64 py], .agg #[.int .i64 qx, .int .i64 qy], .int .i64 r] w (Gives (.bool (withinB px py qx qy r)) w) := by
  have i1 : I64 px := by unfold Far I64 at *; omega
  have i2 : I64 py := by unfold Far I64 at *; omega
  have i3 : I64 qx := by unfold Far I64 at *; omega
  have i4 : I64 qy := by unfold Far I64 at *; omega
  have i5 : I64 (qx - px) := by unfold Far I64 at *; omega
  have i6 : I64 (qy - py) := by unfold Far I64 at *; omega
  have n1 : S40 px := by unfold Far S40 at *; omega
  have n2 : S40 py := by unfold Far S40 at *; omega
  have n3 : S40 qx := by unfold Far S40 at *; omega
  have n4 : S40 qy := by unfold Far S40 at *; omega
  have n5 : S40 r := by unfold S40 at *; omega
  unfold Far at h1 h2 h3 h4
  obtain ⟨a1, a2⟩ := h1; obtain ⟨b1, b2⟩ := h2; obtain ⟨c1, c2⟩ := h3; obtain ⟨d1, d2⟩ := h4
  have e1 := mul_bounds a1 a2 d1 d2
  have e2 := mul_bounds b1 b2 c1 c2
  have e3 := sq_bounds (B := 536870912) (x := qx - px) (by omega) (by omega)
  have e4 := sq_bounds (B := 536870912) (x := qy - py) (by omega) (by omega)
  have e5 := sq_bounds (B := 536870912) (x := r) (by omega) (by omega)
  simp only [Int.reduceMul, Int.reduceNeg] at e1 e2 e3 e4 e5
  obtain ⟨e11, e12⟩ := e1; obtain ⟨e21, e22⟩ := e2; obtain ⟨e31, e32⟩ := e3; obtain ⟨e41, e42⟩ := e4; obtain ⟨e51, e52⟩ := e5
  have i7 : I64 (px * qy - py * qx) := by unfold I64; omega
  have i8 : I64 (r * r) := by unfold I64; omega
  have i9 : I64 ((qx - px) * (qx - px) + (qy - py) * (qy - py)) := by unfold I64; omega
  by_cases t1 : 0 ≤ px * (qx - px) + py * (qy - py)
  · have hv : withinB px py qx qy r = nearB px py r := by unfold withinB; rw [if_pos t1]
    have s1 := (sgn_nonneg _).2 t1
    clear t1
    rw [hv]
    clear hv
    go_enter Try.func49, Try.ntmps49
    go_wp2_with (first | ((first | with_reducible refine wp_region_ext2 (by kernel_rfl) (by kernel_rfl) ?_ | with_reducible refine wp_region_ext (by kernel_rfl) (by kernel_rfl) ?_); (repeat (first | go_big_quiet_step ((first | (go_at_call 21; with_reducible exact Calls.ext (Dot_any _ _ _ _ _ (by assumption) (by assumption) (by assumption) (by assumption))) | (go_at_call 48; with_reducible exact Calls.ext (near_any _ _ _ _ (by assumption) (by assumption) (by assumption))))) | quiet_step ((first | (go_at_call 21; with_reducible exact Calls.ext (Dot_any _ _ _ _ _ (by assumption) (by assumption) (by assumption) (by assumption))) | (go_at_call 48; with_reducible exact Calls.ext (near_any _ _ _ _ (by assumption) (by assumption) (by assumption))))))); refine wpQuiet_nil ?_; rintro _ ⟨yr, rfl⟩; have syr := Ext.size yr; (repeat (first | rw [World.size_alloc] at syr | rw [World.size_setCell] at syr | rw [World.size_drew] at syr))) | (go_at_call 21; (first | with_reducible refine (Calls.giv2 (Dot_any _ _ _ _ _ (by assumption) (by assumption) (by assumption) (by assumption))).mono ?_ | with_reducible refine (Calls.giv (Dot_any _ _ _ _ _ (by assumption) (by assumption) (by assumption) (by assumption))).mono ?_); rintro _ _ ⟨y1, rfl, rfl⟩; have sy1 := Ext.size y1; (repeat (first | rw [World.size_alloc] at sy1 | rw [World.size_setCell] at sy1 | rw [World.size_drew] at sy1))) | (go_at_call 48; (first | with_reducible refine (Calls.giv2 (near_any _ _ _ _ (by assumption) (by assumption) (by assumption))).mono ?_ | with_reducible refine (Calls.giv (near_any _ _ _ _ (by assumption) (by assumption) (by assumption))).mono ?_); rintro _ _ ⟨y2, rfl, rfl⟩; have sy2 := Ext.size y2; (repeat (first | rw [World.size_alloc] at sy2 | rw [World.size_setCell] at sy2 | rw [World.size_drew] at sy2))))
    go_returns
    refine ⟨rfl, ?_⟩
    repeat' (first | (with_reducible exact Below.refl _ _) | (with_reducible assumption) | (with_reducible refine Ext.below _ ?_ ?_) | (with_reducible refine Below.on ?_ (by with_reducible assumption) ?_) | (with_reducible refine Below.alloc ?_ ?_ _) | (with_reducible refine Below.drew ?_) | (with_reducible refine Below.setCell ?_ ?_ _) | (with_reducible exact Nat.le_refl _) | omega | (simp; done) | (simp [go_sem]; done) | (simp at *; omega))
  by_cases t2 : qx * (qx - px) + qy * (qy - py) ≤ 0
  · have hv : withinB px py qx qy r = nearB qx qy r := by unfold withinB; rw [if_neg t1, if_pos t2]
    have s1 : sgn (px * (qx - px) + py * (qy - py)) < 0 := by have := sgn_nonneg (px * (qx - px) + py * (qy - py)); omega
    have s2 := (sgn_nonpos _).2 t2
    clear t1 t2
    rw [hv]
    clear hv
    go_enter Try.func49, Try.ntmps49
    go_wp2_with (first | ((first | with_reducible refine wp_region_ext2 (by kernel_rfl) (by kernel_rfl) ?_ | with_reducible refine wp_region_ext (by kernel_rfl) (by kernel_rfl) ?_); (repeat (first | go_big_quiet_step ((first | (go_at_call 21; with_reducible exact Calls.ext (Dot_any _ _ _ _ _ (by assumption) (by assumption) (by assumption) (by assumption))) | (go_at_call 48; with_reducible exact Calls.ext (near_any _ _ _ _ (by assumption) (by assumption) (by assumption))))) | quiet_step ((first | (go_at_call 21; with_reducible exact Calls.ext (Dot_any _ _ _ _ _ (by assumption) (by assumption) (by assumption) (by assumption))) | (go_at_call 48; with_reducible exact Calls.ext (near_any _ _ _ _ (by assumption) (by assumption) (by assumption))))))); refine wpQuiet_nil ?_; rintro _ ⟨yr, rfl⟩; have syr := Ext.size yr; (repeat (first | rw [World.size_alloc] at syr | rw [World.size_setCell] at syr | rw [World.size_drew] at syr))) | (go_at_call 21; (first | with_reducible refine (Calls.giv2 (Dot_any _ _ _ _ _ (by assumption) (by assumption) (by assumption) (by assumption))).mono ?_ | with_reducible refine (Calls.giv (Dot_any _ _ _ _ _ (by assumption) (by assumption) (by assumption) (by assumption))).mono ?_); rintro _ _ ⟨y1, rfl, rfl⟩; have sy1 := Ext.size y1; (repeat (first | rw [World.size_alloc] at sy1 | rw [World.size_setCell] at sy1 | rw [World.size_drew] at sy1))) | (go_at_call 48; (first | with_reducible refine (Calls.giv2 (near_any _ _ _ _ (by assumption) (by assumption) (by assumption))).mono ?_ | with_reducible refine (Calls.giv (near_any _ _ _ _ (by assumption) (by assumption) (by assumption))).mono ?_); rintro _ _ ⟨y2, rfl, rfl⟩; have sy2 := Ext.size y2; (repeat (first | rw [World.size_alloc] at sy2 | rw [World.size_setCell] at sy2 | rw [World.size_drew] at sy2))))
    go_returns
    refine ⟨rfl, ?_⟩
    repeat' (first | (with_reducible exact Below.refl _ _) | (with_reducible assumption) | (with_reducible refine Ext.below _ ?_ ?_) | (with_reducible refine Below.on ?_ (by with_reducible assumption) ?_) | (with_reducible refine Below.alloc ?_ ?_ _) | (with_reducible refine Below.drew ?_) | (with_reducible refine Below.setCell ?_ ?_ _) | (with_reducible exact Nat.le_refl _) | omega | (simp; done) | (simp [go_sem]; done) | (simp at *; omega))
  · have hv : withinB px py qx qy r = decide ((px * qy - py * qx) * (px * qy - py * qx) ≤ r * r * ((qx - px) * (qx - px) + (qy - py) * (qy - py))) := by unfold withinB; rw [if_neg t1, if_neg t2]
    have s1 : sgn (px * (qx - px) + py * (qy - py)) < 0 := by have := sgn_nonneg (px * (qx - px) + py * (qy - py)); omega
    have s2 : 0 < sgn (qx * (qx - px) + qy * (qy - py)) := by have := sgn_nonpos (qx * (qx - px) + qy * (qy - py)); omega
    clear t1 t2
    rw [hv]
    have H := Go.Lib.hid hv
    clear hv
    go_enter Try.func49, Try.ntmps49
    go_wp2_with (first | ((first | with_reducible refine wp_region_ext2 (by kernel_rfl) (by kernel_rfl) ?_ | with_reducible refine wp_region_ext (by kernel_rfl) (by kernel_rfl) ?_); (repeat (first | go_big_quiet_step ((first | (go_at_call 21; with_reducible exact Calls.ext (Dot_any _ _ _ _ _ (by assumption) (by assumption) (by assumption) (by assumption))) | (go_at_call 41; with_reducible exact Calls.ext (product_any _ _ _ (by assumption) (by assumption))) | (go_at_call 44; with_reducible exact Calls.ext (compare_any _ _ _ _ _)))) | quiet_step ((first | (go_at_call 21; with_reducible exact Calls.ext (Dot_any _ _ _ _ _ (by assumption) (by assumption) (by assumption) (by assumption))) | (go_at_call 41; with_reducible exact Calls.ext (product_any _ _ _ (by assumption) (by assumption))) | (go_at_call 44; with_reducible exact Calls.ext (compare_any _ _ _ _ _)))))); refine wpQuiet_nil ?_; rintro _ ⟨yr, rfl⟩; have syr := Ext.size yr; (repeat (first | rw [World.size_alloc] at syr | rw [World.size_setCell] at syr | rw [World.size_drew] at syr))) | (go_at_call 21; (first | with_reducible refine (Calls.giv2 (Dot_any _ _ _ _ _ (by assumption) (by assumption) (by assumption) (by assumption))).mono ?_ | with_reducible refine (Calls.giv (Dot_any _ _ _ _ _ (by assumption) (by assumption) (by assumption) (by assumption))).mono ?_); rintro _ _ ⟨y1, rfl, rfl⟩; have sy1 := Ext.size y1; (repeat (first | rw [World.size_alloc] at sy1 | rw [World.size_setCell] at sy1 | rw [World.size_drew] at sy1))) | (go_at_call 41; (first | with_reducible refine (Calls.giv2 (product_any _ _ _ (by assumption) (by assumption))).mono ?_ | with_reducible refine (Calls.giv (product_any _ _ _ (by assumption) (by assumption))).mono ?_); rintro _ _ ⟨y2, rfl, rfl⟩; have sy2 := Ext.size y2; (repeat (first | rw [World.size_alloc] at sy2 | rw [World.size_setCell] at sy2 | rw [World.size_drew] at sy2))) | (go_at_call 44; (first | with_reducible refine (Calls.giv2 (compare_any _ _ _ _ _)).mono ?_ | with_reducible refine (Calls.giv (compare_any _ _ _ _ _)).mono ?_); rintro _ _ ⟨y3, rfl, rfl⟩; have sy3 := Ext.size y3; (repeat (first | rw [World.size_alloc] at sy3 | rw [World.size_setCell] at sy3 | rw [World.size_drew] at sy3))))
    go_returns
    refine ⟨ret_bool ?_, ?_⟩
    · rw [cmpw_sgn]; unfold sgn; rw [Bool.eq_iff_iff]; simp; split <;> (try split) <;> omega
    · repeat' (first | (with_reducible exact Below.refl _ _) | (with_reducible assumption) | (with_reducible refine Ext.below _ ?_ ?_) | (with_reducible refine Below.on ?_ (by with_reducible assumption) ?_) | (with_reducible refine Below.alloc ?_ ?_ _) | (with_reducible refine Below.drew ?_) | (with_reducible refine Below.setCell ?_ ?_ _) | (with_reducible exact Nat.le_refl _) | omega | (simp; done) | (simp [go_sem]; done) | (simp at *; omega))
theorem S40.of_far {x y : Int} (h : farB x y = true) : S40 x ∧ S40 y := by unfold farB at h; unfold S40; simp at h; omega
theorem Far.of_far {x y : Int} (h : farB x y = true) : Far x ∧ Far y := by unfold farB at h; unfold Far; simp at h; omega
theorem S40.of_rad {x : Int} (h : radB x = true) : S40 x := by unfold radB at h; unfold S40; simp at h; omega
theorem Near_any (x y r : Int) (w : World) : Calls Try.prog 22 #[.agg #[.int .i64 x, .int .i64 y], .int .i64 r] w (Gives (.bool (radB r && farB x y && nearB x y r)) w) := by
  cases h1 : radB r <;> cases h2 : farB x y
  all_goals
    simp only [Bool.and_self, Bool.and_false, Bool.false_and, Bool.true_and]
  case true.true =>
    have a1 := (S40.of_far h2).1
    have a2 := (S40.of_far h2).2
    have a3 := S40.of_rad h1
    go_enter Try.func22, Try.ntmps22
    go_wp2_with (first | ((first | with_reducible refine wp_region_ext2 (by kernel_rfl) (by kernel_rfl) ?_ | with_reducible refine wp_region_ext (by kernel_rfl) (by kernel_rfl) ?_); (repeat (first | go_big_quiet_step ((first | (go_at_call 46; with_reducible exact Calls.ext (inReach_any _ _)) | (go_at_call 47; with_reducible exact Calls.ext (inFar_any _ _ _)) | (go_at_call 48; with_reducible exact Calls.ext (near_any _ _ _ _ a1 a2 a3)))) | quiet_step ((first | (go_at_call 46; with_reducible exact Calls.ext (inReach_any _ _)) | (go_at_call 47; with_reducible exact Calls.ext (inFar_any _ _ _)) | (go_at_call 48; with_reducible exact Calls.ext (near_any _ _ _ _ a1 a2 a3)))))); refine wpQuiet_nil ?_; rintro _ ⟨yr, rfl⟩; have syr := Ext.size yr; (repeat (first | rw [World.size_alloc] at syr | rw [World.size_setCell] at syr | rw [World.size_drew] at syr))) | (go_at_call 46; (first | with_reducible refine (Calls.giv2 (inReach_any _ _)).mono ?_ | with_reducible refine (Calls.giv (inReach_any _ _)).mono ?_); rintro _ _ ⟨y1, rfl, rfl⟩; have sy1 := Ext.size y1; (repeat (first | rw [World.size_alloc] at sy1 | rw [World.size_setCell] at sy1 | rw [World.size_drew] at sy1))) | (go_at_call 47; (first | with_reducible refine (Calls.giv2 (inFar_any _ _ _)).mono ?_ | with_reducible refine (Calls.giv (inFar_any _ _ _)).mono ?_); rintro _ _ ⟨y2, rfl, rfl⟩; have sy2 := Ext.size y2; (repeat (first | rw [World.size_alloc] at sy2 | rw [World.size_setCell] at sy2 | rw [World.size_drew] at sy2))) | (go_at_call 48; (first | with_reducible refine (Calls.giv2 (near_any _ _ _ _ a1 a2 a3)).mono ?_ | with_reducible refine (Calls.giv (near_any _ _ _ _ a1 a2 a3)).mono ?_); rintro _ _ ⟨y3, rfl, rfl⟩; have sy3 := Ext.size y3; (repeat (first | rw [World.size_alloc] at sy3 | rw [World.size_setCell] at sy3 | rw [World.size_drew] at sy3))))
    go_returns
    refine ⟨rfl, ?_⟩
    repeat' (first | (with_reducible exact Below.refl _ _) | (with_reducible assumption) | (with_reducible refine Ext.below _ ?_ ?_) | (with_reducible refine Below.on ?_ (by with_reducible assumption) ?_) | (with_reducible refine Below.alloc ?_ ?_ _) | (with_reducible refine Below.drew ?_) | (with_reducible refine Below.setCell ?_ ?_ _) | (with_reducible exact Nat.le_refl _) | omega | (simp; done) | (simp [go_sem]; done) | (simp at *; omega))
  all_goals
    go_enter Try.func22, Try.ntmps22
    go_wp2_with (first | ((first | with_reducible refine wp_region_ext2 (by kernel_rfl) (by kernel_rfl) ?_ | with_reducible refine wp_region_ext (by kernel_rfl) (by kernel_rfl) ?_); (repeat (first | go_big_quiet_step ((first | (go_at_call 46; with_reducible exact Calls.ext (inReach_any _ _)) | (go_at_call 47; with_reducible exact Calls.ext (inFar_any _ _ _)))) | quiet_step ((first | (go_at_call 46; with_reducible exact Calls.ext (inReach_any _ _)) | (go_at_call 47; with_reducible exact Calls.ext (inFar_any _ _ _)))))); refine wpQuiet_nil ?_; rintro _ ⟨yr, rfl⟩; have syr := Ext.size yr; (repeat (first | rw [World.size_alloc] at syr | rw [World.size_setCell] at syr | rw [World.size_drew] at syr))) | (go_at_call 46; (first | with_reducible refine (Calls.giv2 (inReach_any _ _)).mono ?_ | with_reducible refine (Calls.giv (inReach_any _ _)).mono ?_); rintro _ _ ⟨y1, rfl, rfl⟩; have sy1 := Ext.size y1; (repeat (first | rw [World.size_alloc] at sy1 | rw [World.size_setCell] at sy1 | rw [World.size_drew] at sy1))) | (go_at_call 47; (first | with_reducible refine (Calls.giv2 (inFar_any _ _ _)).mono ?_ | with_reducible refine (Calls.giv (inFar_any _ _ _)).mono ?_); rintro _ _ ⟨y2, rfl, rfl⟩; have sy2 := Ext.size y2; (repeat (first | rw [World.size_alloc] at sy2 | rw [World.size_setCell] at sy2 | rw [World.size_drew] at sy2))))
    go_returns
    refine ⟨rfl, ?_⟩
    repeat' (first | (with_reducible exact Below.refl _ _) | (with_reducible assumption) | (with_reducible refine Ext.below _ ?_ ?_) | (with_reducible refine Below.on ?_ (by with_reducible assumption) ?_) | (with_reducible refine Below.alloc ?_ ?_ _) | (with_reducible refine Below.drew ?_) | (with_reducible refine Below.setCell ?_ ?_ _) | (with_reducible exact Nat.le_refl _) | omega | (simp; done) | (simp [go_sem]; done) | (simp at *; omega))
theorem Within_any (px py qx qy r : Int) (w : World) : Calls Try.prog 23 #[.agg #[.int .i64 px, .int .i64 py], .agg #[.int .i64 qx, .int .i64 qy], .int .i64 r] w (Gives (.bool (radB r && farB px py && farB qx qy && withinB px py qx qy r)) w) := by
  cases h1 : radB r <;> cases h2 : farB px py <;> cases h3 : farB qx qy
  all_goals
    simp only [Bool.and_self, Bool.and_true, Bool.and_false, Bool.false_and, Bool.true_and]
  case true.true.true =>
    have a1 := (Far.of_far h2).1
    have a2 := (Far.of_far h2).2
    have a3 := (Far.of_far h3).1
    have a4 := (Far.of_far h3).2
    have a5 : 0 ≤ r ∧ r ≤ 536870912 := by unfold radB at h1; simp at h1; omega
    obtain ⟨a5, a6⟩ := a5
    go_enter Try.func23, Try.ntmps23
    go_wp2_with (first | ((first | with_reducible refine wp_region_ext2 (by kernel_rfl) (by kernel_rfl) ?_ | with_reducible refine wp_region_ext (by kernel_rfl) (by kernel_rfl) ?_); (repeat (first | go_big_quiet_step ((first | (go_at_call 46; with_reducible exact Calls.ext (inReach_any _ _)) | (go_at_call 47; with_reducible exact Calls.ext (inFar_any _ _ _)) | (go_at_call 49; with_reducible exact Calls.ext (within_any _ _ _ _ _ _ a1 a2 a3 a4 a5 a6)))) | quiet_step ((first | (go_at_call 46; with_reducible exact Calls.ext (inReach_any _ _)) | (go_at_call 47; with_reducible exact Calls.ext (inFar_any _ _ _)) | (go_at_call 49; with_reducible exact Calls.ext (within_any _ _ _ _ _ _ a1 a2 a3 a4 a5 a6)))))); refine wpQuiet_nil ?_; rintro _ ⟨yr, rfl⟩; have syr := Ext.size yr; (repeat (first | rw [World.size_alloc] at syr | rw [World.size_setCell] at syr | rw [World.size_drew] at syr))) | (go_at_call 46; (first | with_reducible refine (Calls.giv2 (inReach_any _ _)).mono ?_ | with_reducible refine (Calls.giv (inReach_any _ _)).mono ?_); rintro _ _ ⟨y1, rfl, rfl⟩; have sy1 := Ext.size y1; (repeat (first | rw [World.size_alloc] at sy1 | rw [World.size_setCell] at sy1 | rw [World.size_drew] at sy1))) | (go_at_call 47; (first | with_reducible refine (Calls.giv2 (inFar_any _ _ _)).mono ?_ | with_reducible refine (Calls.giv (inFar_any _ _ _)).mono ?_); rintro _ _ ⟨y2, rfl, rfl⟩; have sy2 := Ext.size y2; (repeat (first | rw [World.size_alloc] at sy2 | rw [World.size_setCell] at sy2 | rw [World.size_drew] at sy2))) | (go_at_call 49; (first | with_reducible refine (Calls.giv2 (within_any _ _ _ _ _ _ a1 a2 a3 a4 a5 a6)).mono ?_ | with_reducible refine (Calls.giv (within_any _ _ _ _ _ _ a1 a2 a3 a4 a5 a6)).mono ?_); rintro _ _ ⟨y3, rfl, rfl⟩; have sy3 := Ext.size y3; (repeat (first | rw [World.size_alloc] at sy3 | rw [World.size_setCell] at sy3 | rw [World.size_drew] at sy3))))
    go_returns
    refine ⟨rfl, ?_⟩
    repeat' (first | (with_reducible exact Below.refl _ _) | (with_reducible assumption) | (with_reducible refine Ext.below _ ?_ ?_) | (with_reducible refine Below.on ?_ (by with_reducible assumption) ?_) | (with_reducible refine Below.alloc ?_ ?_ _) | (with_reducible refine Below.drew ?_) | (with_reducible refine Below.setCell ?_ ?_ _) | (with_reducible exact Nat.le_refl _) | omega | (simp; done) | (simp [go_sem]; done) | (simp at *; omega))
  all_goals
    go_enter Try.func23, Try.ntmps23
    go_wp2_with (first | ((first | with_reducible refine wp_region_ext2 (by kernel_rfl) (by kernel_rfl) ?_ | with_reducible refine wp_region_ext (by kernel_rfl) (by kernel_rfl) ?_); (repeat (first | go_big_quiet_step ((first | (go_at_call 46; with_reducible exact Calls.ext (inReach_any _ _)) | (go_at_call 47; with_reducible exact Calls.ext (inFar_any _ _ _)))) | quiet_step ((first | (go_at_call 46; with_reducible exact Calls.ext (inReach_any _ _)) | (go_at_call 47; with_reducible exact Calls.ext (inFar_any _ _ _)))))); refine wpQuiet_nil ?_; rintro _ ⟨yr, rfl⟩; have syr := Ext.size yr; (repeat (first | rw [World.size_alloc] at syr | rw [World.size_setCell] at syr | rw [World.size_drew] at syr))) | (go_at_call 46; (first | with_reducible refine (Calls.giv2 (inReach_any _ _)).mono ?_ | with_reducible refine (Calls.giv (inReach_any _ _)).mono ?_); rintro _ _ ⟨y1, rfl, rfl⟩; have sy1 := Ext.size y1; (repeat (first | rw [World.size_alloc] at sy1 | rw [World.size_setCell] at sy1 | rw [World.size_drew] at sy1))) | (go_at_call 47; (first | with_reducible refine (Calls.giv2 (inFar_any _ _ _)).mono ?_ | with_reducible refine (Calls.giv (inFar_any _ _ _)).mono ?_); rintro _ _ ⟨y2, rfl, rfl⟩; have sy2 := Ext.size y2; (repeat (first | rw [World.size_alloc] at sy2 | rw [World.size_setCell] at sy2 | rw [World.size_drew] at sy2))))
    go_returns
    refine ⟨rfl, ?_⟩
    repeat' (first | (with_reducible exact Below.refl _ _) | (with_reducible assumption) | (with_reducible refine Ext.below _ ?_ ?_) | (with_reducible refine Below.on ?_ (by with_reducible assumption) ?_) | (with_reducible refine Below.alloc ?_ ?_ _) | (with_reducible refine Below.drew ?_) | (with_reducible refine Below.setCell ?_ ?_ _) | (with_reducible exact Nat.le_refl _) | omega | (simp; done) | (simp [go_sem]; done) | (simp at *; omega))

/-- The search by halves. -/
def bs (p : Int → Bool) : Nat → Int → Int → Int
  | 0, i, _ => i
  | f + 1, i, j => if i < j then (if p ((i + j) / 2) then bs p f i ((i + j) / 2) else bs p f ((i + j) / 2 + 1) j) else i
theorem bs_end (p : Int → Bool) (f : Nat) (i j : Int) (h : ¬ i < j) : bs p f i j = i := by cases f <;> simp [bs, h]
theorem bs_yes (p : Int → Bool) (f : Nat) (i j : Int) (h : i < j) (h2 : p ((i + j) / 2) = true) : bs p (f + 1) i j = bs p f i ((i + j) / 2) := by simp [bs, h, h2]
theorem bs_no (p : Int → Bool) (f : Nat) (i j : Int) (h : i < j) (h2 : p ((i + j) / 2) = false) : bs p (f + 1) i j = bs p f ((i + j) / 2 + 1) j := by simp [bs, h, h2]
theorem Search_any (n : Int) (p : Int → Bool) (c1 c2 : Value) (w : World) (hn0 : 0 ≤ n) (hn : n < 1073741824)
    (hf : ∀ (x : Ext w) (r : Int), 0 ≤ r → r < n → Calls Try.prog 51 #[.int .i64 r, c1, c2] x.now (Gives (.bool (p r)) x.now)) :
    Calls Try.prog 50 #[.int .i64 n, .func (.func 51) #[] #[c1, c2]] w (Gives (.int .i64 (bs p 30 0 n)) w) := by
  have F := Go.Lib.hid hf
  clear hf
  go_enter Try.func50, Try.ntmps50
  go_wp2_with fail
  go_loopw [5, 6] (fun s t wr => ∃ (f : Nat) (i j : Int) (x : Ext w), s = .int .i64 i ∧ t = .int .i64 j ∧ wr = x.now ∧ 0 ≤ i ∧ i ≤ j ∧ j ≤ n ∧ j - i < 2 ^ f ∧ bs p f i j = bs p 30 0 n) (fun s t _ => (intOf t - intOf s).toNat)
  case atStart => exact ⟨30, 0, n, ⟨w, Below.refl _ _⟩, rfl, rfl, rfl, Int.le_refl _, hn0, Int.le_refl _, by omega, rfl⟩
  case round =>
    obtain ⟨f, i, j, x, rfl, rfl, rfl, h1, h2, h3, h4, h5⟩ := hrel
    have H4 := Go.Lib.hid h4
    have H5 := Go.Lib.hid h5
    clear h4 h5
    by_cases hlt : i < j
    · cases f with
      | zero => exact absurd H4.out (by simp; omega)
      | succ f =>
        have e4 : j - i < 2 * 2 ^ f := by have := H4.out; rw [Int.pow_succ] at this; omega
        have E4 := Go.Lib.hid e4
        clear e4
        cases hp : p ((i + j) / 2)
        · go_wp2_with (go_at_call 51; with_reducible refine (Calls.giv2 (F.out _ _ (by omega) (by omega))).mono ?_; rintro _ _ ⟨x, rfl, rfl⟩; have sx := Ext.size x)
          have e4 := E4.out
          exact ⟨⟨f, _, _, x, rfl, rfl, rfl, by omega, by omega, by omega, by omega, (bs_no p f i j hlt hp).symm.trans H5.out⟩, by simp only [intOf]; omega⟩
        · go_wp2_with (go_at_call 51; with_reducible refine (Calls.giv2 (F.out _ _ (by omega) (by omega))).mono ?_; rintro _ _ ⟨x, rfl, rfl⟩; have sx := Ext.size x)
          have e4 := E4.out
          exact ⟨⟨f, _, _, x, rfl, rfl, rfl, by omega, by omega, by omega, by omega, (bs_yes p f i j hlt hp).symm.trans H5.out⟩, by simp only [intOf]; omega⟩
    · go_wp2_with fail
      go_returns
      refine ⟨ret_int ((bs_end p f i j (by omega)).symm.trans H5.out), ?_⟩
      repeat' (first | (with_reducible exact Below.refl _ _) | (with_reducible assumption) | (with_reducible refine Ext.below _ ?_ ?_) | (with_reducible refine Below.on ?_ (by with_reducible assumption) ?_) | (with_reducible refine Below.alloc ?_ ?_ _) | (with_reducible refine Below.drew ?_) | (with_reducible refine Below.setCell ?_ ?_ _) | (with_reducible exact Nat.le_refl _) | omega | (simp; done) | (simp [go_sem]; done) | (simp at *; omega))
theorem Miss1_any (px py qx qy r : Int) (b1 b2 : Nat) (w : World) (g1 : w.cell? ⟨b1, 0, none⟩ = some (.int .i64 px)) (g2 : w.cell? ⟨b1, 1, none⟩ = some (.int .i64 py)) (g3 : w.cell? ⟨b2, 0, none⟩ = some (.int .i64 qx)) (g4 : w.cell? ⟨b2, 1, none⟩ = some (.int .i64 qy))
    (h1 : Far px) (h2 : Far py) (h3 : Far qx) (h4 : Far qy) (hr0 : 0 ≤ r) (hr1 : r < 536870912) :
    Calls Try.prog 51 #[.int .i64 r, .pointer (some ⟨b1, 0, none⟩), .pointer (some ⟨b2, 0, none⟩)] w (Gives (.bool (withinB px py qx qy r)) w) := by
  have hr2 : r ≤ 536870912 := by omega
  go_enter Try.func51, Try.ntmps51
  go_wp2_with (first | ((first | with_reducible refine wp_region_ext2 (by kernel_rfl) (by kernel_rfl) ?_ | with_reducible refine wp_region_ext (by kernel_rfl) (by kernel_rfl) ?_); (repeat (first | go_big_quiet_step ((first | (go_at_call 49; with_reducible exact Calls.ext (within_any _ _ _ _ _ _ h1 h2 h3 h4 hr0 hr2)))) | quiet_step ((first | (go_at_call 49; with_reducible exact Calls.ext (within_any _ _ _ _ _ _ h1 h2 h3 h4 hr0 hr2)))))); refine wpQuiet_nil ?_; rintro _ ⟨yr, rfl⟩; have syr := Ext.size yr; (repeat (first | rw [World.size_alloc] at syr | rw [World.size_setCell] at syr | rw [World.size_drew] at syr))) | (go_at_call 49; (first | with_reducible refine (Calls.giv2 (within_any _ _ _ _ _ _ h1 h2 h3 h4 hr0 hr2)).mono ?_ | with_reducible refine (Calls.giv (within_any _ _ _ _ _ _ h1 h2 h3 h4 hr0 hr2)).mono ?_); rintro _ _ ⟨y1, rfl, rfl⟩; have sy1 := Ext.size y1; (repeat (first | rw [World.size_alloc] at sy1 | rw [World.size_setCell] at sy1 | rw [World.size_drew] at sy1))))
  go_returns
  refine ⟨rfl, ?_⟩
  repeat' (first | (with_reducible exact Below.refl _ _) | (with_reducible assumption) | (with_reducible refine Ext.below _ ?_ ?_) | (with_reducible refine Below.on ?_ (by with_reducible assumption) ?_) | (with_reducible refine Below.alloc ?_ ?_ _) | (with_reducible refine Below.drew ?_) | (with_reducible refine Below.setCell ?_ ?_ _) | (with_reducible exact Nat.le_refl _) | omega | (simp; done) | (simp [go_sem]; done) | (simp at *; omega))
/-- How near a segment comes. -/
def missI (px py qx qy : Int) : Int := if farB px py && farB qx qy then bs (withinB px py qx qy) 30 0 536870912 else -1
theorem Miss_any (px py qx qy : Int) (w : World) : Calls Try.prog 24 #[.agg #[.int .i64 px, .int .i64 py], .agg #[.int .i64 qx, .int .i64 qy]] w (Gives (.int .i64 (missI px py qx qy)) w) := by
  cases h2 : farB px py <;> cases h3 : farB qx qy
  case true.true =>
    have hv : missI px py qx qy = bs (withinB px py qx qy) 30 0 536870912 := by simp [missI, h2, h3]
    rw [hv]
    clear hv
    have a1 := (Far.of_far h2).1
    have a2 := (Far.of_far h2).2
    have a3 := (Far.of_far h3).1
    have a4 := (Far.of_far h3).2
    go_enter Try.func24, Try.ntmps24
    go_wp2_with (first | ((first | with_reducible refine wp_region_ext2 (by kernel_rfl) (by kernel_rfl) ?_ | with_reducible refine wp_region_ext (by kernel_rfl) (by kernel_rfl) ?_); (repeat (first | go_big_quiet_step ((first | (go_at_call 47; with_reducible exact Calls.ext (inFar_any _ _ _)))) | quiet_step ((first | (go_at_call 47; with_reducible exact Calls.ext (inFar_any _ _ _)))))); refine wpQuiet_nil ?_; rintro _ ⟨yr, rfl⟩; have syr := Ext.size yr; (repeat (first | rw [World.size_alloc] at syr | rw [World.size_setCell] at syr | rw [World.size_drew] at syr))) | (go_at_call 47; (first | with_reducible refine (Calls.giv2 (inFar_any _ _ _)).mono ?_ | with_reducible refine (Calls.giv (inFar_any _ _ _)).mono ?_); rintro _ _ ⟨y1, rfl, rfl⟩; have sy1 := Ext.size y1; (repeat (first | rw [World.size_alloc] at sy1 | rw [World.size_setCell] at sy1 | rw [World.size_drew] at sy1))))
    with_reducible refine (Calls.giv2 (Search_any 536870912 (withinB px py qx qy) _ _ _ (by decide) (by decide) (fun y r r0 r1 => Miss1_any px py qx qy r _ _ _ ?_ ?_ ?_ ?_ a1 a2 a3 a4 r0 r1))).mono ?_
    · exact (y.cell (by first | omega | (simp only [World.size_alloc]; omega))).trans (by simp [go_sem])
    · exact (y.cell (by first | omega | (simp only [World.size_alloc]; omega))).trans (by simp [go_sem])
    · exact (y.cell (by first | omega | (simp only [World.size_alloc]; omega))).trans (by simp [go_sem])
    · exact (y.cell (by first | omega | (simp only [World.size_alloc]; omega))).trans (by simp [go_sem])
    rintro _ _ ⟨x, rfl, rfl⟩
    go_wp2_with fail
    go_returns
    refine ⟨rfl, ?_⟩
    repeat' (first | (with_reducible exact Below.refl _ _) | (with_reducible assumption) | (with_reducible refine Ext.below _ ?_ ?_) | (with_reducible refine Below.on ?_ (by with_reducible assumption) ?_) | (with_reducible refine Below.alloc ?_ ?_ _) | (with_reducible refine Below.drew ?_) | (with_reducible refine Below.setCell ?_ ?_ _) | (with_reducible exact Nat.le_refl _) | omega | (simp; done) | (simp [go_sem]; done) | (simp at *; omega))
  all_goals
    have hv : missI px py qx qy = -1 := by simp [missI, h2, h3]
    rw [hv]
    clear hv
    go_enter Try.func24, Try.ntmps24
    go_wp2_with (first | ((first | with_reducible refine wp_region_ext2 (by kernel_rfl) (by kernel_rfl) ?_ | with_reducible refine wp_region_ext (by kernel_rfl) (by kernel_rfl) ?_); (repeat (first | go_big_quiet_step ((first | (go_at_call 47; with_reducible exact Calls.ext (inFar_any _ _ _)))) | quiet_step ((first | (go_at_call 47; with_reducible exact Calls.ext (inFar_any _ _ _)))))); refine wpQuiet_nil ?_; rintro _ ⟨yr, rfl⟩; have syr := Ext.size yr; (repeat (first | rw [World.size_alloc] at syr | rw [World.size_setCell] at syr | rw [World.size_drew] at syr))) | (go_at_call 47; (first | with_reducible refine (Calls.giv2 (inFar_any _ _ _)).mono ?_ | with_reducible refine (Calls.giv (inFar_any _ _ _)).mono ?_); rintro _ _ ⟨y1, rfl, rfl⟩; have sy1 := Ext.size y1; (repeat (first | rw [World.size_alloc] at sy1 | rw [World.size_setCell] at sy1 | rw [World.size_drew] at sy1))))
    go_returns
    refine ⟨rfl, ?_⟩
    repeat' (first | (with_reducible exact Below.refl _ _) | (with_reducible assumption) | (with_reducible refine Ext.below _ ?_ ?_) | (with_reducible refine Below.on ?_ (by with_reducible assumption) ?_) | (with_reducible refine Below.alloc ?_ ?_ _) | (with_reducible refine Below.drew ?_) | (with_reducible refine Below.setCell ?_ ?_ _) | (with_reducible exact Nat.le_refl _) | omega | (simp; done) | (simp [go_sem]; done) | (simp at *; omega))
end Go.Proofs.Ytagfhekjmkdjkaa

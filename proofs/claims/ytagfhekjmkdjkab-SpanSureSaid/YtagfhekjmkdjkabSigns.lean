/- SpanSigns: the signs of the cross and the dot product are those that the reference gives. No condition. -/
import Derived.Test.YtagfhekjmkdjkabLaw
import Derived.Test.YtagfhekjmkdjkabAwake
import Derived.Test.YtagfhekjmkdjkabRefWide
namespace Go.Proofs.Ytagfhekjmkdjkab
open Go.ChangeShapes Go.WideShapes Go.ChangeAt Go.RowKit Go.Joins
attribute [local go_sem] Ext.cell Ext.frozen Ext.lt Ext.le Ext.lt_add Ext.le_add Ext.ne Ext.ne' lt2 lt3 lt4 lt5 le2 le3 le4
theorem refCross_any (a b c d : Int) (w : World) (ha : I64 a) (hb : I64 b) (hc : I64 c) (hd : I64 d) : Calls Try.prog 42 #[.agg #[.int .i64 a, .int .i64 b], .agg #[.int .i64 c, .int .i64 d]] w (Gives (.int .i64 (sgn (a * d - b * c))) w) := by
  go_enter Try.func42, Try.ntmps42
  go_wp2_with (first | ((first | with_reducible refine wp_region_ext2 (by kernel_rfl) (by kernel_rfl) ?_ | with_reducible refine wp_region_ext (by kernel_rfl) (by kernel_rfl) ?_); (repeat (first | go_big_quiet_step ((first | (go_at_call 37; with_reducible exact Calls.ext (wideOf_any _ _ _ (by assumption) (by assumption))) | (go_at_call 58; with_reducible exact Calls.ext (refCompare_any _ _ _)))) | quiet_step ((first | (go_at_call 37; with_reducible exact Calls.ext (wideOf_any _ _ _ (by assumption) (by assumption))) | (go_at_call 58; with_reducible exact Calls.ext (refCompare_any _ _ _)))))); refine wpQuiet_nil ?_; rintro _ ⟨yr, rfl⟩; have syr := Ext.size yr; (repeat (first | rw [World.size_alloc] at syr | rw [World.size_setCell] at syr | rw [World.size_drew] at syr))) | (go_at_call 37; (first | with_reducible refine (Calls.giv2 (wideOf_any _ _ _ (by assumption) (by assumption))).mono ?_ | with_reducible refine (Calls.giv (wideOf_any _ _ _ (by assumption) (by assumption))).mono ?_); rintro _ _ ⟨y1, rfl, rfl⟩; have sy1 := Ext.size y1; (repeat (first | rw [World.size_alloc] at sy1 | rw [World.size_setCell] at sy1 | rw [World.size_drew] at sy1))) | (go_at_call 58; (first | with_reducible refine (Calls.giv2 (refCompare_any _ _ _)).mono ?_ | with_reducible refine (Calls.giv (refCompare_any _ _ _)).mono ?_); rintro _ _ ⟨y2, rfl, rfl⟩; have sy2 := Ext.size y2; (repeat (first | rw [World.size_alloc] at sy2 | rw [World.size_setCell] at sy2 | rw [World.size_drew] at sy2))))
  go_returns
  refine ⟨rfl, ?_⟩
  repeat' (first | (with_reducible exact Below.refl _ _) | (with_reducible assumption) | (with_reducible refine Ext.below _ ?_ ?_) | (with_reducible refine Below.on ?_ (by with_reducible assumption) ?_) | (with_reducible refine Below.alloc ?_ ?_ _) | (with_reducible refine Below.drew ?_) | (with_reducible refine Below.setCell ?_ ?_ _) | (with_reducible exact Nat.le_refl _) | omega | (simp; done) | (simp [go_sem]; done) | (simp at *; omega))
theorem refw_neg (n : Int) : refw (-n) = .agg #[.bool (!decide (n < 0) && (decide (0 < absI n / 18446744073709551616) || decide (0 < absI n % 18446744073709551616))), .int .u64 (absI n / 18446744073709551616), .int .u64 (absI n % 18446744073709551616)] := by
  have h0 := absI_nonneg n
  have e : absI (-n) = absI n := by unfold absI; split <;> split <;> omega
  unfold refw
  rw [e]
  congr 3
  congr 1
  rw [Bool.eq_iff_iff]
  simp only [Bool.and_eq_true, Bool.or_eq_true, decide_eq_true_eq, Bool.not_eq_true', decide_eq_false_iff_not]
  unfold absI at *; split at h0 <;> split <;> omega
set_option maxHeartbeats 1000000 in
theorem refDot_any (a b c d : Int) (w : World) (ha : I64 a) (hb : I64 b) (hc : I64 c) (hd : I64 d) : Calls Try.prog 43 #[.agg #[.int .i64 a, .int .i64 b], .agg #[.int .i64 c, .int .i64 d]] w (Gives (.int .i64 (sgn (a * c + b * d))) w) := by
  have hw := fun W => wideOf_any b d W hb hd
  have hx := fun W => wideOf_any a c W ha hc
  have hq := fun W => refCompare_any (a * c) (-(b * d)) W
  rw [show a * c - -(b * d) = a * c + b * d by omega, refw_neg] at hq
  unfold refw at hw
  have HW := Go.Lib.hid hw; have HX := Go.Lib.hid hx; have HQ := Go.Lib.hid hq
  clear hw hx hq
  generalize sgn (a * c + b * d) = res at *
  generalize absI (b * d) / 18446744073709551616 = hi at *
  generalize absI (b * d) % 18446744073709551616 = lo at *
  cases h1 : decide (b * d < 0) <;> cases h2 : decide (0 < hi)
  all_goals
    rw [h1, h2] at HQ
    rw [h1] at HW
    simp only [Bool.not_true, Bool.not_false, Bool.false_and, Bool.true_and, Bool.false_or, Bool.true_or] at HQ
    clear h1
    go_enter Try.func43, Try.ntmps43
    go_wp2_with (first | ((first | with_reducible refine wp_region_ext2 (by kernel_rfl) (by kernel_rfl) ?_ | with_reducible refine wp_region_ext (by kernel_rfl) (by kernel_rfl) ?_); (repeat (first | go_big_quiet_step ((first | (go_at_call 37; with_reducible exact Calls.ext (HW.out _)) | (go_at_call 37; with_reducible exact Calls.ext (HX.out _)) | (go_at_call 58; with_reducible exact Calls.ext (HQ.out _)))) | quiet_step ((first | (go_at_call 37; with_reducible exact Calls.ext (HW.out _)) | (go_at_call 37; with_reducible exact Calls.ext (HX.out _)) | (go_at_call 58; with_reducible exact Calls.ext (HQ.out _)))))); refine wpQuiet_nil ?_; rintro _ ⟨yr, rfl⟩; have syr := Ext.size yr; (repeat (first | rw [World.size_alloc] at syr | rw [World.size_setCell] at syr | rw [World.size_drew] at syr)); have : w.heap.size < yr.now.heap.size := (by omega); have : w.heap.size ≤ yr.now.heap.size := (by omega); have : w.heap.size < yr.now.heap.size + 1 + 1 := (by omega); have : w.heap.size + 1 < yr.now.heap.size := (by omega); have : w.heap.size + 1 ≤ yr.now.heap.size := (by omega); have : w.heap.size + 1 < yr.now.heap.size + 1 + 1 := (by omega)) | (go_at_call 37; (first | with_reducible refine (Calls.giv2 (HW.out _)).mono ?_ | with_reducible refine (Calls.giv (HW.out _)).mono ?_); rintro _ _ ⟨y1, rfl, rfl⟩; have sy1 := Ext.size y1; (repeat (first | rw [World.size_alloc] at sy1 | rw [World.size_setCell] at sy1 | rw [World.size_drew] at sy1)); have : w.heap.size < y1.now.heap.size := (by omega); have : w.heap.size ≤ y1.now.heap.size := (by omega); have : w.heap.size < y1.now.heap.size + 1 + 1 := (by omega); have : w.heap.size + 1 < y1.now.heap.size := (by omega); have : w.heap.size + 1 ≤ y1.now.heap.size := (by omega); have : w.heap.size + 1 < y1.now.heap.size + 1 + 1 := (by omega)) | (go_at_call 37; (first | with_reducible refine (Calls.giv2 (HX.out _)).mono ?_ | with_reducible refine (Calls.giv (HX.out _)).mono ?_); rintro _ _ ⟨y2, rfl, rfl⟩; have sy2 := Ext.size y2; (repeat (first | rw [World.size_alloc] at sy2 | rw [World.size_setCell] at sy2 | rw [World.size_drew] at sy2)); have : w.heap.size < y2.now.heap.size := (by omega); have : w.heap.size ≤ y2.now.heap.size := (by omega); have : w.heap.size < y2.now.heap.size + 1 + 1 := (by omega); have : w.heap.size + 1 < y2.now.heap.size := (by omega); have : w.heap.size + 1 ≤ y2.now.heap.size := (by omega); have : w.heap.size + 1 < y2.now.heap.size + 1 + 1 := (by omega)) | (go_at_call 58; (first | with_reducible refine (Calls.giv2 (HQ.out _)).mono ?_ | with_reducible refine (Calls.giv (HQ.out _)).mono ?_); rintro _ _ ⟨y3, rfl, rfl⟩; have sy3 := Ext.size y3; (repeat (first | rw [World.size_alloc] at sy3 | rw [World.size_setCell] at sy3 | rw [World.size_drew] at sy3)); have : w.heap.size < y3.now.heap.size := (by omega); have : w.heap.size ≤ y3.now.heap.size := (by omega); have : w.heap.size < y3.now.heap.size + 1 + 1 := (by omega); have : w.heap.size + 1 < y3.now.heap.size := (by omega); have : w.heap.size + 1 ≤ y3.now.heap.size := (by omega); have : w.heap.size + 1 < y3.now.heap.size + 1 + 1 := (by omega)))
    go_returns
    refine ⟨rfl, ?_⟩
    repeat' (first | (with_reducible exact Below.refl _ _) | (with_reducible assumption) | (with_reducible refine Ext.below _ ?_ ?_) | (with_reducible refine Below.on ?_ (by with_reducible assumption) ?_) | (with_reducible refine Below.alloc ?_ ?_ _) | (with_reducible refine Below.drew ?_) | (with_reducible refine Below.setCell ?_ ?_ _) | (with_reducible exact Nat.le_refl _) | omega | (simp; done) | (simp [go_sem]; done) | (simp at *; omega))
end Go.Proofs.Ytagfhekjmkdjkab

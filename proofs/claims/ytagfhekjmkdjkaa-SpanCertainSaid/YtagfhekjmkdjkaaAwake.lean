/- The examples that every statement of this chapter asks for. No condition. -/
import Derived.Test.YtagfhekjmkdjkaaClear
import Derived.Test.YtagfhekjmkdjkaaMulB
namespace Go.Proofs.Ytagfhekjmkdjkaa
open Go.RowKit Go.Shelf
attribute [local go_sem] Ext.cell Ext.frozen Ext.lt Ext.le Ext.lt_add Ext.le_add Ext.ne Ext.ne' lt2 lt3 lt4 lt5 le2 le3 le4
theorem of_any (a b : Int) (w : World) : Calls Try.prog 7 #[.int .i64 a, .int .i64 b] w (Gives (.agg #[.int .i64 a, .int .i64 b]) w) := by
  go_enter Try.func7, Try.ntmps7
  go_wp2_with (first | ((first | with_reducible refine wp_region_ext2 (by kernel_rfl) (by kernel_rfl) ?_ | with_reducible refine wp_region_ext (by kernel_rfl) (by kernel_rfl) ?_); (repeat (first | go_big_quiet_step ((first | fail)) | quiet_step ((first | fail)))); refine wpQuiet_nil ?_; rintro _ ⟨yr, rfl⟩; have syr := Ext.size yr; (repeat (first | rw [World.size_alloc] at syr | rw [World.size_setCell] at syr | rw [World.size_drew] at syr))))
  go_returns
  refine ⟨rfl, ?_⟩
  repeat' (first | (with_reducible exact Below.refl _ _) | (with_reducible assumption) | (with_reducible refine Ext.below _ ?_ ?_) | (with_reducible refine Below.on ?_ (by with_reducible assumption) ?_) | (with_reducible refine Below.alloc ?_ ?_ _) | (with_reducible refine Below.drew ?_) | (with_reducible refine Below.setCell ?_ ?_ _) | (with_reducible exact Nat.le_refl _) | omega | (simp; done) | (simp [go_sem]; done) | (simp at *; omega))
theorem area_any (a b c d : Int) (w : World) : Calls Try.prog 26 #[.int .i64 a, .int .i64 b, .int .i64 c, .int .i64 d] w (Gives (.agg #[.int .i64 a, .int .i64 b, .int .i64 c, .int .i64 d]) w) := by
  go_enter Try.func26, Try.ntmps26
  go_wp2_with (first | ((first | with_reducible refine wp_region_ext2 (by kernel_rfl) (by kernel_rfl) ?_ | with_reducible refine wp_region_ext (by kernel_rfl) (by kernel_rfl) ?_); (repeat (first | go_big_quiet_step ((first | (go_at_call 7; with_reducible exact Calls.ext (of_any _ _ _)))) | quiet_step ((first | (go_at_call 7; with_reducible exact Calls.ext (of_any _ _ _)))))); refine wpQuiet_nil ?_; rintro _ ⟨yr, rfl⟩; have syr := Ext.size yr; (repeat (first | rw [World.size_alloc] at syr | rw [World.size_setCell] at syr | rw [World.size_drew] at syr))) | (go_at_call 7; (first | with_reducible refine (Calls.giv2 (of_any _ _ _)).mono ?_ | with_reducible refine (Calls.giv (of_any _ _ _)).mono ?_); rintro _ _ ⟨y1, rfl, rfl⟩; have sy1 := Ext.size y1; (repeat (first | rw [World.size_alloc] at sy1 | rw [World.size_setCell] at sy1 | rw [World.size_drew] at sy1))))
  go_returns
  refine ⟨rfl, ?_⟩
  repeat' (first | (with_reducible exact Below.refl _ _) | (with_reducible assumption) | (with_reducible refine Ext.below _ ?_ ?_) | (with_reducible refine Below.on ?_ (by with_reducible assumption) ?_) | (with_reducible refine Below.alloc ?_ ?_ _) | (with_reducible refine Below.drew ?_) | (with_reducible refine Below.setCell ?_ ?_ _) | (with_reducible exact Nat.le_refl _) | omega | (simp; done) | (simp [go_sem]; done) | (simp at *; omega))
theorem Mul_known (w : World) : Calls Try.prog 16 #[.agg #[.int .i64 (-2), .int .i64 3], .agg #[.int .i64 (-5), .int .i64 4]] w (Gives (.tuple #[.agg #[.int .i64 (-15), .int .i64 12], .int .i64 0]) w) := by
  have h := Mul_any (-2) 3 (-5) 4 w
  rw [show mulL (-2) 3 (-5) 4 = -15 by decide +kernel, show mulH (-2) 3 (-5) 4 = 12 by decide +kernel, show mulE (-2) 3 (-5) 4 = 0 by decide +kernel] at h
  exact h
theorem Miss_known (w : World) : Calls Try.prog 24 #[.agg #[.int .i64 2, .int .i64 3], .agg #[.int .i64 10, .int .i64 3]] w (Gives (.int .i64 4) w) := by
  have h := Miss_any 2 3 10 3 w
  rw [show missI 2 3 10 3 = 4 by decide +kernel] at h
  exact h
theorem Clear_known (w : World) : Calls Try.prog 27 #[.agg #[.int .i64 5, .int .i64 6, .int .i64 (-9), .int .i64 (-8)], .agg #[.int .i64 5, .int .i64 6, .int .i64 8, .int .i64 9], .int .i64 4] w (Gives (.bool true) w) := by
  have h := Clear_any 5 6 (-9) (-8) 5 6 8 9 4 w
  rw [show clearI 5 6 (-9) (-8) 5 6 8 9 4 = true by decide +kernel] at h
  exact h
theorem awake_any (w : World) : Calls Try.prog 5 #[] w (Gives (.bool true) w) := by
  go_enter Try.func5, Try.ntmps5
  go_wp2_with (first | ((first | with_reducible refine wp_region_ext2 (by kernel_rfl) (by kernel_rfl) ?_ | with_reducible refine wp_region_ext (by kernel_rfl) (by kernel_rfl) ?_); (repeat (first | go_big_quiet_step ((first | (go_at_call 7; with_reducible exact Calls.ext (of_any _ _ _)) | (go_at_call 16; with_reducible exact Calls.ext (Mul_known _)) | (go_at_call 24; with_reducible exact Calls.ext (Miss_known _)) | (go_at_call 26; with_reducible exact Calls.ext (area_any _ _ _ _ _)) | (go_at_call 27; with_reducible exact Calls.ext (Clear_known _)))) | quiet_step ((first | (go_at_call 7; with_reducible exact Calls.ext (of_any _ _ _)) | (go_at_call 16; with_reducible exact Calls.ext (Mul_known _)) | (go_at_call 24; with_reducible exact Calls.ext (Miss_known _)) | (go_at_call 26; with_reducible exact Calls.ext (area_any _ _ _ _ _)) | (go_at_call 27; with_reducible exact Calls.ext (Clear_known _)))))); refine wpQuiet_nil ?_; rintro _ ⟨yr, rfl⟩; have syr := Ext.size yr; (repeat (first | rw [World.size_alloc] at syr | rw [World.size_setCell] at syr | rw [World.size_drew] at syr))) | (go_at_call 7; (first | with_reducible refine (Calls.giv2 (of_any _ _ _)).mono ?_ | with_reducible refine (Calls.giv (of_any _ _ _)).mono ?_); rintro _ _ ⟨y1, rfl, rfl⟩; have sy1 := Ext.size y1; (repeat (first | rw [World.size_alloc] at sy1 | rw [World.size_setCell] at sy1 | rw [World.size_drew] at sy1))) | (go_at_call 16; (first | with_reducible refine (Calls.giv2 (Mul_known _)).mono ?_ | with_reducible refine (Calls.giv (Mul_known _)).mono ?_); rintro _ _ ⟨y2, rfl, rfl⟩; have sy2 := Ext.size y2; (repeat (first | rw [World.size_alloc] at sy2 | rw [World.size_setCell] at sy2 | rw [World.size_drew] at sy2))) | (go_at_call 24; (first | with_reducible refine (Calls.giv2 (Miss_known _)).mono ?_ | with_reducible refine (Calls.giv (Miss_known _)).mono ?_); rintro _ _ ⟨y3, rfl, rfl⟩; have sy3 := Ext.size y3; (repeat (first | rw [World.size_alloc] at sy3 | rw [World.size_setCell] at sy3 | rw [World.size_drew] at sy3))) | (go_at_call 26; (first | with_reducible refine (Calls.giv2 (area_any _ _ _ _ _)).mono ?_ | with_reducible refine (Calls.giv (area_any _ _ _ _ _)).mono ?_); rintro _ _ ⟨y4, rfl, rfl⟩; have sy4 := Ext.size y4; (repeat (first | rw [World.size_alloc] at sy4 | rw [World.size_setCell] at sy4 | rw [World.size_drew] at sy4))) | (go_at_call 27; (first | with_reducible refine (Calls.giv2 (Clear_known _)).mono ?_ | with_reducible refine (Calls.giv (Clear_known _)).mono ?_); rintro _ _ ⟨y5, rfl, rfl⟩; have sy5 := Ext.size y5; (repeat (first | rw [World.size_alloc] at sy5 | rw [World.size_setCell] at sy5 | rw [World.size_drew] at sy5))))
  go_returns
  refine ⟨rfl, ?_⟩
  repeat' (first | (with_reducible exact Below.refl _ _) | (with_reducible assumption) | (with_reducible refine Ext.below _ ?_ ?_) | (with_reducible refine Below.on ?_ (by with_reducible assumption) ?_) | (with_reducible refine Below.alloc ?_ ?_ _) | (with_reducible refine Below.drew ?_) | (with_reducible refine Below.setCell ?_ ?_ _) | (with_reducible exact Nat.le_refl _) | omega | (simp; done) | (simp [go_sem]; done) | (simp at *; omega))
end Go.Proofs.Ytagfhekjmkdjkaa

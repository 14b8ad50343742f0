/- Contract of the statements' awake: some of the chapter's examples. No condition. -/
import Derived.Test.YtgoilmiiegpnoaaSkyT
namespace Go.Proofs.Ytgoilmiiegpnoaa
open Go.RowKit Go.Shelf
attribute [local go_sem] Option.isSome_some Ext.cell Ext.frozen Ext.lt Ext.le Ext.lt_add Ext.le_add Ext.ne Ext.ne' lt2 lt3 lt4 lt5 le2 le3 le4
theorem aw_where (bp t1 t2 sp cp : Option Addr) (w : World) (h : (showS bp t1 t2 sp cp).At w) : Calls Try.prog 30 #[(showS bp t1 t2 sp cp).val, .int .i64 7, .int .i64 2] w (Gives (.tuple #[.agg #[.int .i64 1000, .int .i64 10], .bool true]) w) := by
  have := Where_any (showS bp t1 t2 sp cp) 7 2 w h
  rw [show_where] at this
  exact this
theorem aw_agrees (bp t1 t2 sp cp : Option Addr) (w : World) (h : (showS bp t1 t2 sp cp).At w) : Calls Try.prog 32 #[(showS bp t1 t2 sp cp).val, SightR.val ⟨1, 7, 1, 0, ⟨0, 1⟩, 100000, 0, 0⟩, .agg #[.int .i64 1010, .int .i64 110]] w (Gives (.bool true) w) := by
  have := Agrees_any (showS bp t1 t2 sp cp) ⟨1, 7, 1, 0, ⟨0, 1⟩, 100000, 0, 0⟩ ⟨1010, 110⟩ w h
  rw [show_agrees] at this
  exact this
theorem aw_not (bp t1 t2 sp cp : Option Addr) (w : World) (h : (showS bp t1 t2 sp cp).At w) : Calls Try.prog 32 #[(showS bp t1 t2 sp cp).val, SightR.val ⟨1, 7, 1, 0, ⟨0, 1⟩, 100000, 0, 0⟩, .agg #[.int .i64 1011, .int .i64 110]] w (Gives (.bool false) w) := by
  have := Agrees_any (showS bp t1 t2 sp cp) ⟨1, 7, 1, 0, ⟨0, 1⟩, 100000, 0, 0⟩ ⟨1011, 110⟩ w h
  rw [show_not] at this
  exact this
set_option maxHeartbeats 4000000 in
theorem skyAwake_any (w : World) : Calls Try.prog 12 #[] w (Gives (.bool true) w) := by
  go_enter Try.func12, Try.ntmps12
  go_wp2_with (first | ((first | with_reducible refine wp_region_ext2 (by kernel_rfl) (by kernel_rfl) ?_ | with_reducible refine wp_region_ext (by kernel_rfl) (by kernel_rfl) ?_); (repeat (first | go_big_quiet_step ((first | (go_at_call 30; with_reducible exact Calls.ext (aw_where _ _ _ _ _ _ (by assumption))) | (go_at_call 33; with_reducible exact Calls.ext (angle_any _ _)) | (go_at_call 32; with_reducible exact Calls.ext (aw_agrees _ _ _ _ _ _ (SkyR.At.ext (by assumption) _))) | (go_at_call 32; with_reducible exact Calls.ext (aw_not _ _ _ _ _ _ (SkyR.At.ext (by assumption) _))))) | quiet_step ((first | (go_at_call 30; with_reducible exact Calls.ext (aw_where _ _ _ _ _ _ (by assumption))) | (go_at_call 33; with_reducible exact Calls.ext (angle_any _ _)) | (go_at_call 32; with_reducible exact Calls.ext (aw_agrees _ _ _ _ _ _ (SkyR.At.ext (by assumption) _))) | (go_at_call 32; with_reducible exact Calls.ext (aw_not _ _ _ _ _ _ (SkyR.At.ext (by assumption) _))))))); refine wpQuiet_nil ?_; rintro _ ⟨yr, rfl⟩; have syr := Ext.size yr; (repeat (first | rw [World.size_alloc] at syr | rw [World.size_setCell] at syr | rw [World.size_drew] at syr))) | (go_at_call 30; (first | with_reducible refine (Calls.giv2 (aw_where _ _ _ _ _ _ (by assumption))).mono ?_ | with_reducible refine (Calls.giv (aw_where _ _ _ _ _ _ (by assumption))).mono ?_); rintro _ _ ⟨y1, rfl, rfl⟩; have sy1 := Ext.size y1; (repeat (first | rw [World.size_alloc] at sy1 | rw [World.size_setCell] at sy1 | rw [World.size_drew] at sy1))) | (go_at_call 33; (first | with_reducible refine (Calls.giv2 (angle_any _ _)).mono ?_ | with_reducible refine (Calls.giv (angle_any _ _)).mono ?_); rintro _ _ ⟨y2, rfl, rfl⟩; have sy2 := Ext.size y2; (repeat (first | rw [World.size_alloc] at sy2 | rw [World.size_setCell] at sy2 | rw [World.size_drew] at sy2))) | (go_at_call 32; (first | with_reducible refine (Calls.giv2 (aw_agrees _ _ _ _ _ _ (SkyR.At.ext (by assumption) _))).mono ?_ | with_reducible refine (Calls.giv (aw_agrees _ _ _ _ _ _ (SkyR.At.ext (by assumption) _))).mono ?_); rintro _ _ ⟨y3, rfl, rfl⟩; have sy3 := Ext.size y3; (repeat (first | rw [World.size_alloc] at sy3 | rw [World.size_setCell] at sy3 | rw [World.size_drew] at sy3))) | (go_at_call 32; (first | with_reducible refine (Calls.giv2 (aw_not _ _ _ _ _ _ (SkyR.At.ext (by assumption) _))).mono ?_ | with_reducible refine (Calls.giv (aw_not _ _ _ _ _ _ (SkyR.At.ext (by assumption) _))).mono ?_); rintro _ _ ⟨y4, rfl, rfl⟩; have sy4 := Ext.size y4; (repeat (first | rw [World.size_alloc] at sy4 | rw [World.size_setCell] at sy4 | rw [World.size_drew] at sy4))) | (go_at_call 31; refine (shown_any _).mono ?_; rintro _ W1 ⟨bp, t1, t2, sp, cp, rfl, hbW, hAt⟩; have hsW := hbW.size; (repeat (first | rw [World.size_alloc] at hsW | rw [World.size_setCell] at hsW | rw [World.size_drew] at hsW))))
  go_returns
  refine ⟨rfl, ?_⟩
  repeat' (first | (with_reducible exact Below.refl _ _) | (with_reducible assumption) | (with_reducible refine Ext.below _ ?_ ?_) | (with_reducible refine Below.on ?_ (by with_reducible assumption) ?_) | (with_reducible refine Below.alloc ?_ ?_ _) | (with_reducible refine Below.drew ?_) | (with_reducible refine Below.setCell ?_ ?_ _) | (with_reducible exact Nat.le_refl _) | omega | (simp; done) | (simp [go_sem]; done) | (simp at *; omega))
end Go.Proofs.Ytgoilmiiegpnoaa

/- Contracts of first and last (the stones of a rock that bound all others), of sole and SoleRock. No condition. -/
import Derived.Test.YtpiacndnjehbiaaDoorBlM
namespace Go.Proofs.YtpiacndnjehbiaaDoor
open Go.RowKit Go.Shelf
attribute [local go_sem] Option.isSome_some Ext.cell Ext.frozen Ext.lt Ext.le Ext.lt_add Ext.le_add Ext.ne Ext.ne' lt2 lt3 lt4 lt5 le2 le3 le4
def firstS (k : RockR) (f : FallR) : StoneR := ⟨k.size.y, k.dens.y, k.strong.x, k.spin.y, k.shape.x, k.pile, f.speed.y, f.slope.y⟩
def lastS (k : RockR) (f : FallR) : StoneR := ⟨k.size.x, k.dens.x, k.strong.y, k.spin.x, k.shape.y, k.pile, f.speed.x, f.slope.x⟩
theorem first_any (k : RockR) (f : FallR) (w : World) : Calls Tryd.prog 67 #[k.val, f.val] w (Gives (firstS k f).val w) := by
  unfold RockR.val FallR.val StoneR.val StoneR.vals firstS
  go_enter Tryd.func67, Tryd.ntmps67
  go_wp2_with (first | ((first | with_reducible refine wp_region_ext2 (by kernel_rfl) (by kernel_rfl) ?_ | with_reducible refine wp_region_ext (by kernel_rfl) (by kernel_rfl) ?_); (repeat (first | go_big_quiet_step ((first | fail)) | quiet_step ((first | fail)))); refine wpQuiet_nil ?_; rintro _ ⟨yr, rfl⟩; have syr := Ext.size yr; (repeat (first | rw [World.size_alloc] at syr | rw [World.size_setCell] at syr | rw [World.size_drew] at syr))))
  refine bodyPost_ret (v := .agg #[.int .i64 k.size.y, .int .i64 k.dens.y, .int .i64 k.strong.x, .int .i64 k.spin.y, .int .i64 k.shape.x, .bool k.pile, .int .i64 f.speed.y, .int .i64 f.slope.y]) (by simp (maxDischargeDepth := 9) [results, Tryd.results67, go_sem]) rfl ?_
  refine ⟨rfl, ?_⟩
  repeat' (first | (with_reducible exact Below.refl _ _) | (with_reducible assumption) | (with_reducible refine Ext.below _ ?_ ?_) | (with_reducible refine Below.on ?_ (by with_reducible assumption) ?_) | (with_reducible refine Below.alloc ?_ ?_ _) | (with_reducible refine Below.drew ?_) | (with_reducible refine Below.setCell ?_ ?_ _) | (with_reducible exact Nat.le_refl _) | omega | (simp; done) | (simp [go_sem]; done) | (simp at *; omega))
theorem last_any (k : RockR) (f : FallR) (w : World) : Calls Tryd.prog 68 #[k.val, f.val] w (Gives (lastS k f).val w) := by
  unfold RockR.val FallR.val StoneR.val StoneR.vals lastS
  go_enter Tryd.func68, Tryd.ntmps68
  go_wp2_with (first | ((first | with_reducible refine wp_region_ext2 (by kernel_rfl) (by kernel_rfl) ?_ | with_reducible refine wp_region_ext (by kernel_rfl) (by kernel_rfl) ?_); (repeat (first | go_big_quiet_step ((first | fail)) | quiet_step ((first | fail)))); refine wpQuiet_nil ?_; rintro _ ⟨yr, rfl⟩; have syr := Ext.size yr; (repeat (first | rw [World.size_alloc] at syr | rw [World.size_setCell] at syr | rw [World.size_drew] at syr))))
  refine bodyPost_ret (v := .agg #[.int .i64 k.size.x, .int .i64 k.dens.x, .int .i64 k.strong.y, .int .i64 k.spin.x, .int .i64 k.shape.y, .bool k.pile, .int .i64 f.speed.x, .int .i64 f.slope.x]) (by simp (maxDischargeDepth := 9) [results, Tryd.results68, go_sem]) rfl ?_
  refine ⟨rfl, ?_⟩
  repeat' (first | (with_reducible exact Below.refl _ _) | (with_reducible assumption) | (with_reducible refine Ext.below _ ?_ ?_) | (with_reducible refine Below.on ?_ (by with_reducible assumption) ?_) | (with_reducible refine Below.alloc ?_ ?_ _) | (with_reducible refine Below.drew ?_) | (with_reducible refine Below.setCell ?_ ?_ _) | (with_reducible exact Nat.le_refl _) | omega | (simp; done) | (simp [go_sem]; done) | (simp at *; omega))
theorem sole_any (n : Int) (w : World) : Calls Tryd.prog 53 #[.int .i64 n] w (Gives (.agg #[.int .i64 n, .int .i64 n]) w) := by
  go_enter Tryd.func53, Tryd.ntmps53
  go_wp2_with (first | ((first | with_reducible refine wp_region_ext2 (by kernel_rfl) (by kernel_rfl) ?_ | with_reducible refine wp_region_ext (by kernel_rfl) (by kernel_rfl) ?_); (repeat (first | go_big_quiet_step ((first | fail)) | quiet_step ((first | fail)))); refine wpQuiet_nil ?_; rintro _ ⟨yr, rfl⟩; have syr := Ext.size yr; (repeat (first | rw [World.size_alloc] at syr | rw [World.size_setCell] at syr | rw [World.size_drew] at syr))))
  refine bodyPost_ret (v := .agg #[.int .i64 n, .int .i64 n]) (by simp (maxDischargeDepth := 9) [results, Tryd.results53, go_sem]) rfl ?_
  refine ⟨rfl, ?_⟩
  repeat' (first | (with_reducible exact Below.refl _ _) | (with_reducible assumption) | (with_reducible refine Ext.below _ ?_ ?_) | (with_reducible refine Below.on ?_ (by with_reducible assumption) ?_) | (with_reducible refine Below.alloc ?_ ?_ _) | (with_reducible refine Below.drew ?_) | (with_reducible refine Below.setCell ?_ ?_ _) | (with_reducible exact Nat.le_refl _) | omega | (simp; done) | (simp [go_sem]; done) | (simp at *; omega))
def soleK (s : StoneR) : RockR := ⟨⟨s.size, s.size⟩, ⟨s.dens, s.dens⟩, ⟨s.strong, s.strong⟩, ⟨s.spin, s.spin⟩, ⟨s.shape, s.shape⟩, s.pile⟩
def soleF (s : StoneR) : FallR := ⟨⟨s.speed, s.speed⟩, ⟨s.slope, s.slope⟩⟩
theorem first_sole (s : StoneR) : firstS (soleK s) (soleF s) = s ∧ lastS (soleK s) (soleF s) = s := ⟨rfl, rfl⟩
end Go.Proofs.YtpiacndnjehbiaaDoor

/- Contracts of the reference's corners, blends and checks of two areas. No condition. -/
import Derived.Test.YtagfhekjmkdjkabRefArea
import Derived.Test.YtagfhekjmkdjkabHits
namespace Go.Proofs.Ytagfhekjmkdjkab
open Go.RowKit Go.Shelf
attribute [local go_sem] Ext.cell Ext.frozen Ext.lt Ext.le Ext.lt_add Ext.le_add Ext.ne Ext.ne' lt2 lt3 lt4 lt5 le2 le3 le4
theorem sure_any (a b c d e f g h r : Int) (w : World) : Calls Try.prog 15 #[.agg #[.int .i64 a, .int .i64 b, .int .i64 c, .int .i64 d], .agg #[.int .i64 e, .int .i64 f, .int .i64 g, .int .i64 h], .int .i64 r] w (Gives (.bool (canB a b c d e f g h r)) w) := by
  unfold canB
  rw [← btwB_rad]
  cases h1 : (chkA a b c d == 0) <;> cases h2 : (chkA e f g h == 0)
  all_goals
    simp only [Bool.and_self, Bool.and_true, Bool.and_false, Bool.false_and, Bool.true_and]
    go_enter Try.func15, Try.ntmps15
    go_wp2_with (first | ((first | with_reducible refine wp_region_ext2 (by kernel_rfl) (by kernel_rfl) ?_ | with_reducible refine wp_region_ext (by kernel_rfl) (by kernel_rfl) ?_); (repeat (first | go_big_quiet_step ((first | (go_at_call 34; with_reducible exact Calls.ext (refCheckArea_any _ _ _ _ _)) | (go_at_call 35; with_reducible exact Calls.ext (between_any _ _ _ _)))) | quiet_step ((first | (go_at_call 34; with_reducible exact Calls.ext (refCheckArea_any _ _ _ _ _)) | (go_at_call 35; with_reducible exact Calls.ext (between_any _ _ _ _)))))); refine wpQuiet_nil ?_; rintro _ ⟨yr, rfl⟩; have syr := Ext.size yr; (repeat (first | rw [World.size_alloc] at syr | rw [World.size_setCell] at syr | rw [World.size_drew] at syr)); have : w.heap.size < yr.now.heap.size := (by omega); have : w.heap.size ≤ yr.now.heap.size := (by omega); have : w.heap.size < yr.now.heap.size + 1 + 1 := (by omega); have : w.heap.size + 1 < yr.now.heap.size := (by omega); have : w.heap.size + 1 ≤ yr.now.heap.size := (by omega); have : w.heap.size + 1 < yr.now.heap.size + 1 + 1 := (by omega)) | (go_at_call 34; (first | with_reducible refine (Calls.giv2 (refCheckArea_any _ _ _ _ _)).mono ?_ | with_reducible refine (Calls.giv (refCheckArea_any _ _ _ _ _)).mono ?_); rintro _ _ ⟨y1, rfl, rfl⟩; have sy1 := Ext.size y1; (repeat (first | rw [World.size_alloc] at sy1 | rw [World.size_setCell] at sy1 | rw [World.size_drew] at sy1)); have : w.heap.size < y1.now.heap.size := (by omega); have : w.heap.size ≤ y1.now.heap.size := (by omega); have : w.heap.size < y1.now.heap.size + 1 + 1 := (by omega); have : w.heap.size + 1 < y1.now.heap.size := (by omega); have : w.heap.size + 1 ≤ y1.now.heap.size := (by omega); have : w.heap.size + 1 < y1.now.heap.size + 1 + 1 := (by omega)) | (go_at_call 35; (first | with_reducible refine (Calls.giv2 (between_any _ _ _ _)).mono ?_ | with_reducible refine (Calls.giv (between_any _ _ _ _)).mono ?_); rintro _ _ ⟨y2, rfl, rfl⟩; have sy2 := Ext.size y2; (repeat (first | rw [World.size_alloc] at sy2 | rw [World.size_setCell] at sy2 | rw [World.size_drew] at sy2)); have : w.heap.size < y2.now.heap.size := (by omega); have : w.heap.size ≤ y2.now.heap.size := (by omega); have : w.heap.size < y2.now.heap.size + 1 + 1 := (by omega); have : w.heap.size + 1 < y2.now.heap.size := (by omega); have : w.heap.size + 1 ≤ y2.now.heap.size := (by omega); have : w.heap.size + 1 < y2.now.heap.size + 1 + 1 := (by omega)))
    go_returns
    refine ⟨rfl, ?_⟩
    repeat' (first | (with_reducible exact Below.refl _ _) | (with_reducible assumption) | (with_reducible refine Ext.below _ ?_ ?_) | (with_reducible refine Below.on ?_ (by with_reducible assumption) ?_) | (with_reducible refine Below.alloc ?_ ?_ _) | (with_reducible refine Below.drew ?_) | (with_reducible refine Below.setCell ?_ ?_ _) | (with_reducible exact Nat.le_refl _) | omega | (simp; done) | (simp [go_sem]; done) | (simp at *; omega))
theorem blend_any (a b c d i : Int) (w : World) (hi : 0 ≤ i ∧ i ≤ 8) (ha : Far a) (hb : Far b) (hc : Far c) (hd : Far d) : Calls Try.prog 17 #[.agg #[.int .i64 a, .int .i64 b], .agg #[.int .i64 c, .int .i64 d], .int .i64 i] w (Gives (.agg #[.int .i64 (mixI i a c), .int .i64 (mixI i b d)]) w) := by
  obtain ⟨i0, i1⟩ := hi
  have e1 : mixI i a c = (8 - i) * a + i * c := by unfold mixI; rw [Int.mul_comm a, Int.mul_comm c]
  have e2 : mixI i b d = (8 - i) * b + i * d := by unfold mixI; rw [Int.mul_comm b, Int.mul_comm d]
  unfold Far at ha hb hc hd
  have b1 := mul_bounds (x := 8 - i) (y := a) (B := 268435456) (by omega) (by omega) (by omega) (by omega)
  have b2 := mul_bounds (x := i) (y := c) (B := 268435456) (by omega) (by omega) (by omega) (by omega)
  have b3 := mul_bounds (x := 8 - i) (y := b) (B := 268435456) (by omega) (by omega) (by omega) (by omega)
  have b4 := mul_bounds (x := i) (y := d) (B := 268435456) (by omega) (by omega) (by omega) (by omega)
  rw [e1, e2]
  clear e1 e2
  go_enter Try.func17, Try.ntmps17
  go_wp2_with (first | ((first | with_reducible refine wp_region_ext2 (by kernel_rfl) (by kernel_rfl) ?_ | with_reducible refine wp_region_ext (by kernel_rfl) (by kernel_rfl) ?_); (repeat (first | go_big_quiet_step ((first | fail)) | quiet_step ((first | fail)))); refine wpQuiet_nil ?_; rintro _ ⟨yr, rfl⟩; have syr := Ext.size yr; (repeat (first | rw [World.size_alloc] at syr | rw [World.size_setCell] at syr | rw [World.size_drew] at syr))))
  go_returns
  refine ⟨rfl, ?_⟩
  repeat' (first | (with_reducible exact Below.refl _ _) | (with_reducible assumption) | (with_reducible refine Ext.below _ ?_ ?_) | (with_reducible refine Below.on ?_ (by with_reducible assumption) ?_) | (with_reducible refine Below.alloc ?_ ?_ _) | (with_reducible refine Below.drew ?_) | (with_reducible refine Below.setCell ?_ ?_ _) | (with_reducible exact Nat.le_refl _) | omega | (simp; done) | (simp [go_sem]; done) | (simp at *; omega))
/-- The corners of an area in a new slice. -/
theorem points_any (a b c d : Int) (w : World) : Calls Try.prog 18 #[.agg #[.int .i64 a, .int .i64 b, .int .i64 c, .int .i64 d]] w fun e w' => e = .returned (.slice (some ⟨w.heap.size + 1, 0, none⟩) 4 4) ∧ w' = ((w.alloc (.cells #[.int .i64 a, .int .i64 b, .int .i64 c, .int .i64 d] 25)).alloc (.cells #[.int .i64 a, .int .i64 c, .int .i64 a, .int .i64 d, .int .i64 b, .int .i64 c, .int .i64 b, .int .i64 d] 31)) := by
  go_enter Try.func18, Try.ntmps18
  go_wp2_with (first | ((first | with_reducible refine wp_region_ext2 (by kernel_rfl) (by kernel_rfl) ?_ | with_reducible refine wp_region_ext (by kernel_rfl) (by kernel_rfl) ?_); (repeat (first | go_big_quiet_step ((first | fail)) | quiet_step ((first | fail)))); refine wpQuiet_nil ?_; rintro _ ⟨yr, rfl⟩; have syr := Ext.size yr; (repeat (first | rw [World.size_alloc] at syr | rw [World.size_setCell] at syr | rw [World.size_drew] at syr))))
  go_returns
  refine ⟨rfl, ?_⟩
  rfl
end Go.Proofs.Ytagfhekjmkdjkab

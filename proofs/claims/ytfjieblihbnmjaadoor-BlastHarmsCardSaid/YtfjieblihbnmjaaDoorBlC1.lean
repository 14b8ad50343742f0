/- The reference's rows of numbers, of spans, of limits; CheckRock, CheckStone, Mass, Holds, CheckAir of the reference. No condition. -/
import Derived.Test.YtfjieblihbnmjaaDoorBlCR
namespace Go.Proofs.YtfjieblihbnmjaaDoor
open Go.RowKit Go.Shelf
attribute [local go_sem] Option.isSome_some Ext.cell Ext.frozen Ext.lt Ext.le Ext.lt_add Ext.le_add Ext.ne Ext.ne' lt2 lt3 lt4 lt5 le2 le3 le4
theorem rbetween_any (n a b : Int) (w : World) : Calls Tryd.prog 59 #[.int .i64 n, .int .i64 a, .int .i64 b] w (Gives (.bool (decide (a ≤ n ∧ n ≤ b))) w) := by
  go_enter Tryd.func59, Tryd.ntmps59
  go_wp2_with (first | ((first | with_reducible refine wp_region_ext2 (by kernel_rfl) (by kernel_rfl) ?_ | with_reducible refine wp_region_ext (by kernel_rfl) (by kernel_rfl) ?_); (repeat (first | go_big_quiet_step ((first | fail)) | quiet_step ((first | fail)))); refine wpQuiet_nil ?_; rintro _ ⟨yr, rfl⟩; have syr := Ext.size yr; (repeat (first | rw [World.size_alloc] at syr | rw [World.size_setCell] at syr | rw [World.size_drew] at syr))))
  all_goals go_returns
  all_goals refine ⟨ret_bool ?_, ?_⟩
  all_goals first
    | (rw [decide_eq_decide]; omega)
    | (simp; omega)
    | (symm; simp; omega)
    | ((repeat' (first | (with_reducible exact Below.refl _ _) | (with_reducible assumption) | (with_reducible refine Ext.below _ ?_ ?_) | (with_reducible refine Below.on ?_ (by with_reducible assumption) ?_) | (with_reducible refine Below.alloc ?_ ?_ _) | (with_reducible refine Below.drew ?_) | (with_reducible refine Below.setCell ?_ ?_ _) | (with_reducible exact Nat.le_refl _) | omega | (simp; done) | (simp [go_sem]; done) | (simp at *; omega))); done)
def numsL (s : StoneR) : List Int := [s.size, s.dens, s.strong, s.spin, s.shape, s.speed, s.slope]
theorem rnumbers_any (s : StoneR) (w : World) : Calls Tryd.prog 82 #[s.val] w fun e w' => e = .returned (.slice (some ⟨w.heap.size + 1, 0, none⟩) 7 7) ∧ w' = (w.alloc (.cells #[.int .i64 s.size, .int .i64 s.dens, .int .i64 s.strong, .int .i64 s.spin, .int .i64 s.shape, .bool s.pile, .int .i64 s.speed, .int .i64 s.slope] 30)).alloc (.cells #[.int .i64 s.size, .int .i64 s.dens, .int .i64 s.strong, .int .i64 s.spin, .int .i64 s.shape, .int .i64 s.speed, .int .i64 s.slope] 2) := by
  unfold StoneR.val StoneR.vals
  go_enter Tryd.func82, Tryd.ntmps82
  go_wp2_with (first | ((first | with_reducible refine wp_region_ext2 (by kernel_rfl) (by kernel_rfl) ?_ | with_reducible refine wp_region_ext (by kernel_rfl) (by kernel_rfl) ?_); (repeat (first | go_big_quiet_step ((first | fail)) | quiet_step ((first | fail)))); refine wpQuiet_nil ?_; rintro _ ⟨yr, rfl⟩; have syr := Ext.size yr; (repeat (first | rw [World.size_alloc] at syr | rw [World.size_setCell] at syr | rw [World.size_drew] at syr))))
  go_returns
  exact ⟨rfl, rfl⟩
theorem rspans_any (k : RockR) (f : FallR) (w : World) : Calls Tryd.prog 91 #[k.val, f.val] w fun e w' => e = .returned (.slice (some ⟨w.heap.size + 1 + 1, 0, none⟩) 7 7) ∧ w' = ((w.alloc (.cells #[.int .i64 k.size.x, .int .i64 k.size.y, .int .i64 k.dens.x, .int .i64 k.dens.y, .int .i64 k.strong.x, .int .i64 k.strong.y, .int .i64 k.spin.x, .int .i64 k.spin.y, .int .i64 k.shape.x, .int .i64 k.shape.y, .bool k.pile] 26)).alloc (.cells #[.int .i64 f.speed.x, .int .i64 f.speed.y, .int .i64 f.slope.x, .int .i64 f.slope.y] 28)).alloc (.cells #[.int .i64 k.size.x, .int .i64 k.size.y, .int .i64 k.dens.x, .int .i64 k.dens.y, .int .i64 k.strong.x, .int .i64 k.strong.y, .int .i64 k.spin.x, .int .i64 k.spin.y, .int .i64 k.shape.x, .int .i64 k.shape.y, .int .i64 f.speed.x, .int .i64 f.speed.y, .int .i64 f.slope.x, .int .i64 f.slope.y] 24) := by
  unfold RockR.val FallR.val
  go_enter Tryd.func91, Tryd.ntmps91
  go_wp2_with (first | ((first | with_reducible refine wp_region_ext2 (by kernel_rfl) (by kernel_rfl) ?_ | with_reducible refine wp_region_ext (by kernel_rfl) (by kernel_rfl) ?_); (repeat (first | go_big_quiet_step ((first | fail)) | quiet_step ((first | fail)))); refine wpQuiet_nil ?_; rintro _ ⟨yr, rfl⟩; have syr := Ext.size yr; (repeat (first | rw [World.size_alloc] at syr | rw [World.size_setCell] at syr | rw [World.size_drew] at syr))))
  go_returns
  exact ⟨rfl, rfl⟩
theorem rlimits_any (w : World) : Calls Tryd.prog 83 #[] w fun e w' => e = .returned (.slice (some ⟨w.heap.size, 0, none⟩) 7 7) ∧ w' = w.alloc (.cells #[.int .i64 1, .int .i64 1000, .int .i64 1, .int .i64 9000, .int .i64 0, .int .i64 1099511627776, .int .i64 0, .int .i64 1000, .int .i64 500, .int .i64 2000, .int .i64 1, .int .i64 8000, .int .i64 1, .int .i64 1000] 126) := by
  go_enter Tryd.func83, Tryd.ntmps83
  go_wp2_with (first | ((first | with_reducible refine wp_region_ext2 (by kernel_rfl) (by kernel_rfl) ?_ | with_reducible refine wp_region_ext (by kernel_rfl) (by kernel_rfl) ?_); (repeat (first | go_big_quiet_step ((first | fail)) | quiet_step ((first | fail)))); refine wpQuiet_nil ?_; rintro _ ⟨yr, rfl⟩; have syr := Ext.size yr; (repeat (first | rw [World.size_alloc] at syr | rw [World.size_setCell] at syr | rw [World.size_drew] at syr))))
  go_returns
  exact ⟨rfl, rfl⟩
/-- A row of seven pairs, of seven numbers in one block. -/
def P7At (W : World) (G : Nat) (l : List V2) : Prop := G < W.heap.size ∧ ∀ i (h : i < l.length), W.cell? ⟨G, i * 2, none⟩ = some (.int .i64 l[i].x) ∧ W.cell? ⟨G, i * 2 + 1, none⟩ = some (.int .i64 l[i].y)
def N7At (W : World) (G : Nat) (l : List Int) : Prop := G < W.heap.size ∧ ∀ i (h : i < l.length), W.cell? ⟨G, i, none⟩ = some (.int .i64 l[i])
theorem P7At.on {W W' : World} {G : Nat} {l : List V2} (h : P7At W G l) (b : Below W.heap.size W W') : P7At W' G l :=
  ⟨Nat.lt_of_lt_of_le h.1 b.size, fun i hi => ⟨(b.cell (p := ⟨G, i * 2, none⟩) h.1).trans (h.2 i hi).1, (b.cell (p := ⟨G, i * 2 + 1, none⟩) h.1).trans (h.2 i hi).2⟩⟩
theorem N7At.on {W W' : World} {G : Nat} {l : List Int} (h : N7At W G l) (b : Below W.heap.size W W') : N7At W' G l :=
  ⟨Nat.lt_of_lt_of_le h.1 b.size, fun i hi => (b.cell (p := ⟨G, i, none⟩) h.1).trans (h.2 i hi)⟩
theorem p7_row {W : World} {G : Nat} {T : TypeId} {a0 a1 a2 a3 a4 a5 a6 a7 a8 a9 a10 a11 a12 a13 : Int} (h : W.heap[G]? = some (.cells #[.int .i64 a0, .int .i64 a1, .int .i64 a2, .int .i64 a3, .int .i64 a4, .int .i64 a5, .int .i64 a6, .int .i64 a7, .int .i64 a8, .int .i64 a9, .int .i64 a10, .int .i64 a11, .int .i64 a12, .int .i64 a13] T (0, 0))) : P7At W G [⟨a0, a1⟩, ⟨a2, a3⟩, ⟨a4, a5⟩, ⟨a6, a7⟩, ⟨a8, a9⟩, ⟨a10, a11⟩, ⟨a12, a13⟩] := by
  refine ⟨row_lt h, fun i hi => ?_⟩
  have hi7 : i < 7 := hi
  rcases (show i = 0 ∨ i = 1 ∨ i = 2 ∨ i = 3 ∨ i = 4 ∨ i = 5 ∨ i = 6 by omega) with rfl | rfl | rfl | rfl | rfl | rfl | rfl
  all_goals exact ⟨(cell_of_row W _ _ _ _ _ h).trans rfl, (cell_of_row W _ _ _ _ _ h).trans rfl⟩
theorem n7_row {W : World} {G : Nat} {T : TypeId} {a0 a1 a2 a3 a4 a5 a6 : Int} (h : W.heap[G]? = some (.cells #[.int .i64 a0, .int .i64 a1, .int .i64 a2, .int .i64 a3, .int .i64 a4, .int .i64 a5, .int .i64 a6] T (0, 0))) : N7At W G [a0, a1, a2, a3, a4, a5, a6] := by
  refine ⟨row_lt h, fun i hi => ?_⟩
  have hi7 : i < 7 := hi
  rcases (show i = 0 ∨ i = 1 ∨ i = 2 ∨ i = 3 ∨ i = 4 ∨ i = 5 ∨ i = 6 by omega) with rfl | rfl | rfl | rfl | rfl | rfl | rfl
  all_goals exact (cell_of_row W _ _ _ _ _ h).trans rfl
/-- The three rows as the calls leave them, with what was there before. -/
theorem rspans_g (k : RockR) (f : FallR) (w : World) : Calls Tryd.prog 91 #[k.val, f.val] w fun e w' => ∃ (y : Ext w) (G : Nat), e = .returned (.slice (some ⟨G, 0, none⟩) 7 7) ∧ w' = y.now ∧ P7At y.now G (spansL k f) := by
  refine (rspans_any k f w).mono ?_
  rintro _ w' ⟨rfl, hw'⟩
  have hB : Below w.heap.size w w' := by rw [hw']; repeat' (first | (with_reducible exact Below.refl _ _) | (with_reducible assumption) | (with_reducible refine Ext.below _ ?_ ?_) | (with_reducible refine Below.on ?_ (by with_reducible assumption) ?_) | (with_reducible refine Below.alloc ?_ ?_ _) | (with_reducible refine Below.drew ?_) | (with_reducible refine Below.setCell ?_ ?_ _) | (with_reducible exact Nat.le_refl _) | omega | (simp; done) | (simp [go_sem]; done) | (simp at *; omega))
  have hr : w'.heap[w.heap.size + 1 + 1]? = some (.cells #[.int .i64 k.size.x, .int .i64 k.size.y, .int .i64 k.dens.x, .int .i64 k.dens.y, .int .i64 k.strong.x, .int .i64 k.strong.y, .int .i64 k.spin.x, .int .i64 k.spin.y, .int .i64 k.shape.x, .int .i64 k.shape.y, .int .i64 f.speed.x, .int .i64 f.speed.y, .int .i64 f.slope.x, .int .i64 f.slope.y] 24 (0, 0)) := by rw [hw']; have := heap_alloc_new ((w.alloc (.cells #[.int .i64 k.size.x, .int .i64 k.size.y, .int .i64 k.dens.x, .int .i64 k.dens.y, .int .i64 k.strong.x, .int .i64 k.strong.y, .int .i64 k.spin.x, .int .i64 k.spin.y, .int .i64 k.shape.x, .int .i64 k.shape.y, .bool k.pile] 26)).alloc (.cells #[.int .i64 f.speed.x, .int .i64 f.speed.y, .int .i64 f.slope.x, .int .i64 f.slope.y] 28)) (.cells #[.int .i64 k.size.x, .int .i64 k.size.y, .int .i64 k.dens.x, .int .i64 k.dens.y, .int .i64 k.strong.x, .int .i64 k.strong.y, .int .i64 k.spin.x, .int .i64 k.spin.y, .int .i64 k.shape.x, .int .i64 k.shape.y, .int .i64 f.speed.x, .int .i64 f.speed.y, .int .i64 f.slope.x, .int .i64 f.slope.y] 24); simp only [World.size_alloc] at this; exact this
  exact ⟨⟨w', hB⟩, _, rfl, rfl, p7_row hr⟩
theorem rnumbers_g (s : StoneR) (w : World) : Calls Tryd.prog 82 #[s.val] w fun e w' => ∃ (y : Ext w) (G : Nat), e = .returned (.slice (some ⟨G, 0, none⟩) 7 7) ∧ w' = y.now ∧ N7At y.now G (numsL s) := by
  refine (rnumbers_any s w).mono ?_
  rintro _ w' ⟨rfl, hw'⟩
  have hB : Below w.heap.size w w' := by rw [hw']; repeat' (first | (with_reducible exact Below.refl _ _) | (with_reducible assumption) | (with_reducible refine Ext.below _ ?_ ?_) | (with_reducible refine Below.on ?_ (by with_reducible assumption) ?_) | (with_reducible refine Below.alloc ?_ ?_ _) | (with_reducible refine Below.drew ?_) | (with_reducible refine Below.setCell ?_ ?_ _) | (with_reducible exact Nat.le_refl _) | omega | (simp; done) | (simp [go_sem]; done) | (simp at *; omega))
  have hr : w'.heap[w.heap.size + 1]? = some (.cells #[.int .i64 s.size, .int .i64 s.dens, .int .i64 s.strong, .int .i64 s.spin, .int .i64 s.shape, .int .i64 s.speed, .int .i64 s.slope] 2 (0, 0)) := by rw [hw']; have := heap_alloc_new (w.alloc (.cells #[.int .i64 s.size, .int .i64 s.dens, .int .i64 s.strong, .int .i64 s.spin, .int .i64 s.shape, .bool s.pile, .int .i64 s.speed, .int .i64 s.slope] 30)) (.cells #[.int .i64 s.size, .int .i64 s.dens, .int .i64 s.strong, .int .i64 s.spin, .int .i64 s.shape, .int .i64 s.speed, .int .i64 s.slope] 2); simp only [World.size_alloc] at this; exact this
  exact ⟨⟨w', hB⟩, _, rfl, rfl, n7_row hr⟩
theorem rlimits_g (w : World) : Calls Tryd.prog 83 #[] w fun e w' => ∃ (y : Ext w) (G : Nat), e = .returned (.slice (some ⟨G, 0, none⟩) 7 7) ∧ w' = y.now ∧ P7At y.now G limsL := by
  refine (rlimits_any w).mono ?_
  rintro _ w' ⟨rfl, hw'⟩
  have hB : Below w.heap.size w w' := by rw [hw']; repeat' (first | (with_reducible exact Below.refl _ _) | (with_reducible assumption) | (with_reducible refine Ext.below _ ?_ ?_) | (with_reducible refine Below.on ?_ (by with_reducible assumption) ?_) | (with_reducible refine Below.alloc ?_ ?_ _) | (with_reducible refine Below.drew ?_) | (with_reducible refine Below.setCell ?_ ?_ _) | (with_reducible exact Nat.le_refl _) | omega | (simp; done) | (simp [go_sem]; done) | (simp at *; omega))
  have hr : w'.heap[w.heap.size]? = some (.cells #[.int .i64 1, .int .i64 1000, .int .i64 1, .int .i64 9000, .int .i64 0, .int .i64 1099511627776, .int .i64 0, .int .i64 1000, .int .i64 500, .int .i64 2000, .int .i64 1, .int .i64 8000, .int .i64 1, .int .i64 1000] 126 (0, 0)) := by rw [hw']; exact heap_alloc_new _ _
  exact ⟨⟨w', hB⟩, _, rfl, rfl, p7_row hr⟩
end Go.Proofs.YtfjieblihbnmjaaDoor

/- Contracts of the statements' own sky, angle and area. No condition. -/
import Derived.Test.YtgoilmiiegpnoaaSkyS
namespace Go.Proofs.Ytgoilmiiegpnoaa
open Go.RowKit Go.Shelf
attribute [local go_sem] Option.isSome_some Ext.cell Ext.frozen Ext.lt Ext.le Ext.lt_add Ext.le_add Ext.ne Ext.ne' lt2 lt3 lt4 lt5 le2 le3 le4
def showS (bp t1 t2 sp cp : Option Addr) : SkyR where
  bp := bp
  bc := 2
  bodies := [⟨0, 0, t1, 1, [⟨0, 0⟩]⟩, ⟨0, 0, t2, 2, [⟨1000, 0⟩, ⟨0, 1000⟩]⟩]
  home := 1
  sp := sp
  sc := 1
  sts := [⟨7, ⟨0, 10⟩⟩]
  cp := cp
  cc := 2
  cats := [⟨1, 0, 0⟩, ⟨2, 100000, 200000⟩]
set_option maxHeartbeats 4000000 in
theorem shown_raw (w : World) : Calls Try.prog 31 #[] w fun e w' => e = .returned (.agg #[.slice (some ⟨w.heap.size + 1 + 1 + 1 + 1, 0, none⟩) 2 2, .int .i64 1, .slice (some ⟨w.heap.size + 1 + 1 + 1 + 1 + 1, 0, none⟩) 1 1, .slice (some ⟨w.heap.size + 1 + 1 + 1 + 1 + 1 + 1, 0, none⟩) 2 2]) ∧ w' = (((((((w.alloc (.cells #[.slice (some ⟨w.heap.size + 1 + 1 + 1 + 1, 0, none⟩) 2 2, .int .i64 1, .slice (some ⟨w.heap.size + 1 + 1 + 1 + 1 + 1, 0, none⟩) 1 1, .slice (some ⟨w.heap.size + 1 + 1 + 1 + 1 + 1 + 1, 0, none⟩) 2 2] 29)).alloc (.cells #[.slice (some ⟨w.heap.size + 1 + 1 + 1 + 1, 0, none⟩) 2 2, .int .i64 1, .slice (some ⟨w.heap.size + 1 + 1 + 1 + 1 + 1, 0, none⟩) 1 1, .slice (some ⟨w.heap.size + 1 + 1 + 1 + 1 + 1 + 1, 0, none⟩) 2 2] 29)).alloc (.cells #[.int .i64 0, .int .i64 0] 45)).alloc (.cells #[.int .i64 1000, .int .i64 0, .int .i64 0, .int .i64 1000] 45)).alloc (.cells #[.int .i64 0, .int .i64 0, .slice (some ⟨w.heap.size + 1 + 1, 0, none⟩) 1 1, .int .i64 0, .int .i64 0, .slice (some ⟨w.heap.size + 1 + 1 + 1, 0, none⟩) 2 2] 89)).alloc (.cells #[.int .i64 7, .int .i64 0, .int .i64 10] 92)).alloc (.cells #[.int .i64 1, .int .i64 0, .int .i64 0, .int .i64 2, .int .i64 100000, .int .i64 200000] 96)) := by
  go_enter Try.func31, Try.ntmps31
  go_wp2_with (first | ((first | with_reducible refine wp_region_ext2 (by kernel_rfl) (by kernel_rfl) ?_ | with_reducible refine wp_region_ext (by kernel_rfl) (by kernel_rfl) ?_); (repeat (first | go_big_quiet_step ((first | fail)) | quiet_step ((first | fail)))); refine wpQuiet_nil ?_; rintro _ ⟨yr, rfl⟩; have syr := Ext.size yr; (repeat (first | rw [World.size_alloc] at syr | rw [World.size_setCell] at syr | rw [World.size_drew] at syr))))
  go_returns
  exact ⟨rfl, rfl⟩
theorem shown_any (w : World) : Calls Try.prog 31 #[] w fun e w' => ∃ (bp t1 t2 sp cp : Option Addr), e = .returned (showS bp t1 t2 sp cp).val ∧ Below w.heap.size w w' ∧ (showS bp t1 t2 sp cp).At w' := by
  refine (shown_raw w).mono ?_
  rintro e w' ⟨rfl, hW⟩
  have hB : Below w.heap.size w w' := by rw [hW]; repeat' (first | (with_reducible exact Below.refl _ _) | (with_reducible assumption) | (with_reducible refine Ext.below _ ?_ ?_) | (with_reducible refine Below.on ?_ (by with_reducible assumption) ?_) | (with_reducible refine Below.alloc ?_ ?_ _) | (with_reducible refine Below.drew ?_) | (with_reducible refine Below.setCell ?_ ?_ _) | (with_reducible exact Nat.le_refl _) | omega | (simp; done) | (simp [go_sem]; done) | (simp at *; omega))
  refine ⟨some ⟨w.heap.size + 1 + 1 + 1 + 1, 0, none⟩, some ⟨w.heap.size + 1 + 1, 0, none⟩, some ⟨w.heap.size + 1 + 1 + 1, 0, none⟩, some ⟨w.heap.size + 1 + 1 + 1 + 1 + 1, 0, none⟩, some ⟨w.heap.size + 1 + 1 + 1 + 1 + 1 + 1, 0, none⟩, rfl, hB, ?_⟩
  have hs : w'.heap.size = w.heap.size + 7 := by rw [hW]; simp only [World.size_alloc]
  refine ⟨?_, ?_, ?_⟩
  · intro j hj
    rcases (show j = 0 ∨ j = 1 by simp only [showS, List.length_cons, List.length_nil] at hj; omega) with rfl | rfl
    · refine ⟨?_, _, _, rfl, by omega, by rw [hW]; simp [go_sem, showS], by rw [hW]; simp [go_sem, showS], by rw [hW]; simp [go_sem, showS]⟩
      intro k hk
      obtain rfl : k = 0 := by simp [showS] at hk; omega
      exact ⟨_, _, rfl, by omega, by rw [hW]; simp [go_sem, showS], by rw [hW]; simp [go_sem, showS]⟩
    · refine ⟨?_, _, _, rfl, by omega, by rw [hW]; simp [go_sem, showS], by rw [hW]; simp [go_sem, showS], by rw [hW]; simp [go_sem, showS]⟩
      intro k hk
      rcases (show k = 0 ∨ k = 1 by simp [showS] at hk; omega) with rfl | rfl
      · exact ⟨_, _, rfl, by omega, by rw [hW]; simp [go_sem, showS], by rw [hW]; simp [go_sem, showS]⟩
      · exact ⟨_, _, rfl, by omega, by rw [hW]; simp [go_sem, showS], by rw [hW]; simp [go_sem, showS]⟩
  · intro j hj
    obtain rfl : j = 0 := by simp [showS] at hj; omega
    exact ⟨_, _, rfl, by omega, by rw [hW]; simp [go_sem, showS], by rw [hW]; simp [go_sem, showS], by rw [hW]; simp [go_sem, showS]⟩
  · intro j hj
    rcases (show j = 0 ∨ j = 1 by simp only [showS, List.length_cons, List.length_nil] at hj; omega) with rfl | rfl
    · exact ⟨_, _, rfl, by omega, by rw [hW]; simp [go_sem, showS], by rw [hW]; simp [go_sem, showS], by rw [hW]; simp [go_sem, showS]⟩
    · exact ⟨_, _, rfl, by omega, by rw [hW]; simp [go_sem, showS], by rw [hW]; simp [go_sem, showS], by rw [hW]; simp [go_sem, showS]⟩
theorem angle_any (c : Int) (w : World) : Calls Try.prog 33 #[.int .i64 c] w (Gives (SightR.val ⟨1, 7, c, 0, ⟨0, 1⟩, 100000, 0, 0⟩) w) := by
  unfold SightR.val
  go_enter Try.func33, Try.ntmps33
  go_wp2_with (first | ((first | with_reducible refine wp_region_ext2 (by kernel_rfl) (by kernel_rfl) ?_ | with_reducible refine wp_region_ext (by kernel_rfl) (by kernel_rfl) ?_); (repeat (first | go_big_quiet_step ((first | fail)) | quiet_step ((first | fail)))); refine wpQuiet_nil ?_; rintro _ ⟨yr, rfl⟩; have syr := Ext.size yr; (repeat (first | rw [World.size_alloc] at syr | rw [World.size_setCell] at syr | rw [World.size_drew] at syr))))
  go_returns
  refine ⟨rfl, ?_⟩
  repeat' (first | (with_reducible exact Below.refl _ _) | (with_reducible assumption) | (with_reducible refine Ext.below _ ?_ ?_) | (with_reducible refine Below.on ?_ (by with_reducible assumption) ?_) | (with_reducible refine Below.alloc ?_ ?_ _) | (with_reducible refine Below.drew ?_) | (with_reducible refine Below.setCell ?_ ?_ _) | (with_reducible exact Nat.le_refl _) | omega | (simp; done) | (simp [go_sem]; done) | (simp at *; omega))
/-- What the examples say. -/
theorem show_where (bp t1 t2 sp cp : Option Addr) : whereV (showS bp t1 t2 sp cp) 7 2 = (⟨1000, 10⟩, true) := by kernel_rfl
theorem show_agrees (bp t1 t2 sp cp : Option Addr) : agreesV (showS bp t1 t2 sp cp) ⟨1, 7, 1, 0, ⟨0, 1⟩, 100000, 0, 0⟩ ⟨1010, 110⟩ = true := by kernel_rfl
theorem show_not (bp t1 t2 sp cp : Option Addr) : agreesV (showS bp t1 t2 sp cp) ⟨1, 7, 1, 0, ⟨0, 1⟩, 100000, 0, 0⟩ ⟨1011, 110⟩ = false := by kernel_rfl
end Go.Proofs.Ytgoilmiiegpnoaa

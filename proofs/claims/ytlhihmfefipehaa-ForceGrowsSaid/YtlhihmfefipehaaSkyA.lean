/- Contracts of package sky's small tests, and of bodies. Conditions: the cells that are read. -/
import Derived.Test.YtlhihmfefipehaaSkyMG
namespace Go.Proofs.Ytlhihmfefipehaa
open Go.RowKit Go.Shelf
attribute [local go_sem] Ext.cell Ext.frozen Ext.lt Ext.le Ext.lt_add Ext.le_add Ext.ne Ext.ne' lt2 lt3 lt4 lt5 le2 le3 le4
theorem isWithin_any (n m : Int) (w : World) (hm : 0 ≤ m ∧ m < 9223372036854775808) : Calls Try.prog 109 #[.int .i64 n, .int .i64 m] w (Gives (.bool (winB n m)) w) := by
  obtain ⟨m0, m1⟩ := hm
  by_cases h1 : -m ≤ n <;> by_cases h2 : n ≤ m
  all_goals
    go_enter Try.func109, Try.ntmps109
    go_wp2_with (first | ((first | with_reducible refine wrx2 ?_ | with_reducible refine wrx ?_); (repeat (first | go_big_quiet_step ((first | fail)) | quiet_step ((first | fail)))); refine wpQuiet_nil ?_; rintro _ ⟨yr, rfl⟩; have syr := Ext.size yr; (repeat (first | rw [World.size_alloc] at syr | rw [World.size_setCell] at syr | rw [World.size_drew] at syr))))
    go_returns
    exact ⟨by simp [h1, h2, winB], Below.refl _ _⟩
theorem areWithin_any (x y m : Int) (w : World) (hm : 0 ≤ m ∧ m < 9223372036854775808) : Calls Try.prog 88 #[.agg #[.int .i64 x, .int .i64 y], .int .i64 m] w (Gives (.bool (vwinB ⟨x, y⟩ m)) w) := by
  have hm := Go.Lib.hid hm
  cases h1 : winB x m <;> cases h2 : winB y m
  all_goals
    have c1 := fun W => isWithin_any x m W hm.out
    have c2 := fun W => isWithin_any y m W hm.out
    rw [h1] at c1
    rw [h2] at c2
    go_enter Try.func88, Try.ntmps88
    go_wp2_with (first | ((first | with_reducible refine wrx2 ?_ | with_reducible refine wrx ?_); (repeat (first | go_big_quiet_step ((first | (go_at_call 109; with_reducible exact Calls.ext (c1 _)) | (go_at_call 109; with_reducible exact Calls.ext (c2 _)))) | quiet_step ((first | (go_at_call 109; with_reducible exact Calls.ext (c1 _)) | (go_at_call 109; with_reducible exact Calls.ext (c2 _)))))); refine wpQuiet_nil ?_; rintro _ ⟨yr, rfl⟩; have syr := Ext.size yr; (repeat (first | rw [World.size_alloc] at syr | rw [World.size_setCell] at syr | rw [World.size_drew] at syr))) | (go_at_call 109; (first | with_reducible refine (Calls.giv2 (c1 _)).mono ?_ | with_reducible refine (Calls.giv (c1 _)).mono ?_); rintro _ _ ⟨y1, rfl, rfl⟩; have sy1 := Ext.size y1; (repeat (first | rw [World.size_alloc] at sy1 | rw [World.size_setCell] at sy1 | rw [World.size_drew] at sy1))) | (go_at_call 109; (first | with_reducible refine (Calls.giv2 (c2 _)).mono ?_ | with_reducible refine (Calls.giv (c2 _)).mono ?_); rintro _ _ ⟨y2, rfl, rfl⟩; have sy2 := Ext.size y2; (repeat (first | rw [World.size_alloc] at sy2 | rw [World.size_setCell] at sy2 | rw [World.size_drew] at sy2))))
    go_returns
    refine ⟨by simp [h1, h2, vwinB], ?_⟩
    repeat' (first | (with_reducible exact Below.refl _ _) | (with_reducible assumption) | (with_reducible refine Ext.below _ ?_ ?_) | (with_reducible refine Below.on ?_ (by with_reducible assumption) ?_) | (with_reducible refine Below.alloc ?_ ?_ _) | (with_reducible refine Below.drew ?_) | (with_reducible refine Below.setCell ?_ ?_ _) | (with_reducible exact Nat.le_refl _) | omega | (simp; done) | (simp [go_sem]; done) | (simp at *; omega))
theorem isTick_any (t : Int) (w : World) : Calls Try.prog 92 #[.int .i64 t] w (Gives (.bool (tickB t)) w) := by
  by_cases h1 : 0 ≤ t <;> by_cases h2 : t ≤ 1073741824
  all_goals
    go_enter Try.func92, Try.ntmps92
    go_wp2_with (first | ((first | with_reducible refine wrx2 ?_ | with_reducible refine wrx ?_); (repeat (first | go_big_quiet_step ((first | fail)) | quiet_step ((first | fail)))); refine wpQuiet_nil ?_; rintro _ ⟨yr, rfl⟩; have syr := Ext.size yr; (repeat (first | rw [World.size_alloc] at syr | rw [World.size_setCell] at syr | rw [World.size_drew] at syr))))
    go_returns
    exact ⟨by simp [h1, h2, tickB], Below.refl _ _⟩
theorem checkCount_any (n lo hi : Int) (w : World) : Calls Try.prog 66 #[.int .i64 n, .int .i64 lo, .int .i64 hi] w (Gives (.int .i64 (cntE n lo hi)) w) := by
  by_cases h1 : n < lo
  · have e : cntE n lo hi = 6 := by unfold cntE; rw [if_pos h1]
    rw [e]; clear e
    go_enter Try.func66, Try.ntmps66
    go_wp2_with (first | ((first | with_reducible refine wrx2 ?_ | with_reducible refine wrx ?_); (repeat (first | go_big_quiet_step ((first | fail)) | quiet_step ((first | fail)))); refine wpQuiet_nil ?_; rintro _ ⟨yr, rfl⟩; have syr := Ext.size yr; (repeat (first | rw [World.size_alloc] at syr | rw [World.size_setCell] at syr | rw [World.size_drew] at syr))))
    go_returns
    exact ⟨rfl, Below.refl _ _⟩
  by_cases h2 : hi < n
  · have e : cntE n lo hi = 8 := by unfold cntE; rw [if_neg h1, if_pos h2]
    rw [e]; clear e
    go_enter Try.func66, Try.ntmps66
    go_wp2_with (first | ((first | with_reducible refine wrx2 ?_ | with_reducible refine wrx ?_); (repeat (first | go_big_quiet_step ((first | fail)) | quiet_step ((first | fail)))); refine wpQuiet_nil ?_; rintro _ ⟨yr, rfl⟩; have syr := Ext.size yr; (repeat (first | rw [World.size_alloc] at syr | rw [World.size_setCell] at syr | rw [World.size_drew] at syr))))
    go_returns
    exact ⟨rfl, Below.refl _ _⟩
  have e : cntE n lo hi = 0 := by unfold cntE; rw [if_neg h1, if_neg h2]
  rw [e]; clear e
  go_enter Try.func66, Try.ntmps66
  go_wp2_with (first | ((first | with_reducible refine wrx2 ?_ | with_reducible refine wrx ?_); (repeat (first | go_big_quiet_step ((first | fail)) | quiet_step ((first | fail)))); refine wpQuiet_nil ?_; rintro _ ⟨yr, rfl⟩; have syr := Ext.size yr; (repeat (first | rw [World.size_alloc] at syr | rw [World.size_setCell] at syr | rw [World.size_drew] at syr))))
  go_returns
  exact ⟨rfl, Below.refl _ _⟩
theorem hasBody_any (p : Option Addr) (n c : Nat) (h b : Int) (w : World) : Calls Try.prog 68 #[wval p n c h, .int .i64 b] w (Gives (.bool (decide (0 ≤ b ∧ b < n))) w) := by
  unfold wval
  by_cases h1 : 0 ≤ b <;> by_cases h2 : b < n
  all_goals
    go_enter Try.func68, Try.ntmps68
    go_wp2_with (first | ((first | with_reducible refine wrx2 ?_ | with_reducible refine wrx ?_); (repeat (first | go_big_quiet_step ((first | fail)) | quiet_step ((first | fail)))); refine wpQuiet_nil ?_; rintro _ ⟨yr, rfl⟩; have syr := Ext.size yr; (repeat (first | rw [World.size_alloc] at syr | rw [World.size_setCell] at syr | rw [World.size_drew] at syr))))
    go_returns
    refine ⟨by simp [h1, h2], ?_⟩
    repeat' (first | (with_reducible exact Below.refl _ _) | (with_reducible assumption) | (with_reducible refine Ext.below _ ?_ ?_) | (with_reducible refine Below.on ?_ (by with_reducible assumption) ?_) | (with_reducible refine Below.alloc ?_ ?_ _) | (with_reducible refine Below.drew ?_) | (with_reducible refine Below.setCell ?_ ?_ _) | (with_reducible exact Nat.le_refl _) | omega | (simp; done) | (simp [go_sem]; done) | (simp at *; omega))
end Go.Proofs.Ytlhihmfefipehaa

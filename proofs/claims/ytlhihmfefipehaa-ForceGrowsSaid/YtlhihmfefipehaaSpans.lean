/- Contracts of package span's plain functions: what is in a span, hulls, what two have in common, halves. No condition. -/
import Derived.Test.YtlhihmfefipehaaArea
import Derived.RegionTactic
import Derived.BigRegion
namespace Go.Proofs.Ytlhihmfefipehaa
open Go.RowKit Go.Shelf
attribute [local go_sem] Ext.cell Ext.frozen Ext.lt Ext.le Ext.lt_add Ext.le_add Ext.ne Ext.ne' lt2 lt3 lt4 lt5 le2 le3 le4
def inB (a b n : Int) : Bool := chk a b == 0 && decide (a ≤ n) && decide (n ≤ b)
theorem In_any (a b n : Int) (w : World) : Calls Try.prog 99 #[.agg #[.int .i64 a, .int .i64 b], .int .i64 n] w (Gives (.bool (inB a b n)) w) := by
  unfold inB
  cases h : (chk a b == 0)
  · simp only [Bool.false_and]
    go_enter Try.func99, Try.ntmps99
    go_wp2_with (first | ((first | with_reducible refine wrx2 ?_ | with_reducible refine wrx ?_); (repeat (first | go_big_quiet_step ((first | (go_at_call 85; with_reducible exact Calls.ext (Check_any _ _ _)))) | quiet_step ((first | (go_at_call 85; with_reducible exact Calls.ext (Check_any _ _ _)))))); refine wpQuiet_nil ?_; rintro _ ⟨yr, rfl⟩; have syr := Ext.size yr; (repeat (first | rw [World.size_alloc] at syr | rw [World.size_setCell] at syr | rw [World.size_drew] at syr))) | (go_at_call 85; (first | with_reducible refine (Calls.giv2 (Check_any _ _ _)).mono ?_ | with_reducible refine (Calls.giv (Check_any _ _ _)).mono ?_); rintro _ _ ⟨y1, rfl, rfl⟩; have sy1 := Ext.size y1; (repeat (first | rw [World.size_alloc] at sy1 | rw [World.size_setCell] at sy1 | rw [World.size_drew] at sy1))))
    go_returns
    refine ⟨rfl, ?_⟩
    repeat' (first | (with_reducible exact Below.refl _ _) | (with_reducible assumption) | (with_reducible refine Ext.below _ ?_ ?_) | (with_reducible refine Below.on ?_ (by with_reducible assumption) ?_) | (with_reducible refine Below.alloc ?_ ?_ _) | (with_reducible refine Below.drew ?_) | (with_reducible refine Below.setCell ?_ ?_ _) | (with_reducible exact Nat.le_refl _) | omega | (simp; done) | (simp [go_sem]; done) | (simp at *; omega))
  · cases h2 : decide (a ≤ n)
    all_goals
      simp only [Bool.true_and, Bool.and_false, Bool.false_and, Bool.and_self]
      go_enter Try.func99, Try.ntmps99
      go_wp2_with (first | ((first | with_reducible refine wrx2 ?_ | with_reducible refine wrx ?_); (repeat (first | go_big_quiet_step ((first | (go_at_call 85; with_reducible exact Calls.ext (Check_any _ _ _)))) | quiet_step ((first | (go_at_call 85; with_reducible exact Calls.ext (Check_any _ _ _)))))); refine wpQuiet_nil ?_; rintro _ ⟨yr, rfl⟩; have syr := Ext.size yr; (repeat (first | rw [World.size_alloc] at syr | rw [World.size_setCell] at syr | rw [World.size_drew] at syr))) | (go_at_call 85; (first | with_reducible refine (Calls.giv2 (Check_any _ _ _)).mono ?_ | with_reducible refine (Calls.giv (Check_any _ _ _)).mono ?_); rintro _ _ ⟨y1, rfl, rfl⟩; have sy1 := Ext.size y1; (repeat (first | rw [World.size_alloc] at sy1 | rw [World.size_setCell] at sy1 | rw [World.size_drew] at sy1))))
      go_returns
      refine ⟨rfl, ?_⟩
      repeat' (first | (with_reducible exact Below.refl _ _) | (with_reducible assumption) | (with_reducible refine Ext.below _ ?_ ?_) | (with_reducible refine Below.on ?_ (by with_reducible assumption) ?_) | (with_reducible refine Below.alloc ?_ ?_ _) | (with_reducible refine Below.drew ?_) | (with_reducible refine Below.setCell ?_ ?_ _) | (with_reducible exact Nat.le_refl _) | omega | (simp; done) | (simp [go_sem]; done) | (simp at *; omega))
def insideB (a b c d : Int) : Bool := chkB a b c d == 0 && decide (c ≤ a) && decide (b ≤ d)
theorem Inside_any (a b c d : Int) (w : World) : Calls Try.prog 70 #[.agg #[.int .i64 a, .int .i64 b], .agg #[.int .i64 c, .int .i64 d]] w (Gives (.bool (insideB a b c d)) w) := by
  unfold insideB
  cases h : (chkB a b c d == 0)
  · simp only [Bool.false_and]
    go_enter Try.func70, Try.ntmps70
    go_wp2_with (first | ((first | with_reducible refine wrx2 ?_ | with_reducible refine wrx ?_); (repeat (first | go_big_quiet_step ((first | (go_at_call 89; with_reducible exact Calls.ext (checkBoth_any _ _ _ _ _)))) | quiet_step ((first | (go_at_call 89; with_reducible exact Calls.ext (checkBoth_any _ _ _ _ _)))))); refine wpQuiet_nil ?_; rintro _ ⟨yr, rfl⟩; have syr := Ext.size yr; (repeat (first | rw [World.size_alloc] at syr | rw [World.size_setCell] at syr | rw [World.size_drew] at syr))) | (go_at_call 89; (first | with_reducible refine (Calls.giv2 (checkBoth_any _ _ _ _ _)).mono ?_ | with_reducible refine (Calls.giv (checkBoth_any _ _ _ _ _)).mono ?_); rintro _ _ ⟨y1, rfl, rfl⟩; have sy1 := Ext.size y1; (repeat (first | rw [World.size_alloc] at sy1 | rw [World.size_setCell] at sy1 | rw [World.size_drew] at sy1))))
    go_returns
    refine ⟨rfl, ?_⟩
    repeat' (first | (with_reducible exact Below.refl _ _) | (with_reducible assumption) | (with_reducible refine Ext.below _ ?_ ?_) | (with_reducible refine Below.on ?_ (by with_reducible assumption) ?_) | (with_reducible refine Below.alloc ?_ ?_ _) | (with_reducible refine Below.drew ?_) | (with_reducible refine Below.setCell ?_ ?_ _) | (with_reducible exact Nat.le_refl _) | omega | (simp; done) | (simp [go_sem]; done) | (simp at *; omega))
  · cases h2 : decide (c ≤ a)
    all_goals
      simp only [Bool.true_and, Bool.and_false, Bool.false_and, Bool.and_self]
      go_enter Try.func70, Try.ntmps70
      go_wp2_with (first | ((first | with_reducible refine wrx2 ?_ | with_reducible refine wrx ?_); (repeat (first | go_big_quiet_step ((first | (go_at_call 89; with_reducible exact Calls.ext (checkBoth_any _ _ _ _ _)))) | quiet_step ((first | (go_at_call 89; with_reducible exact Calls.ext (checkBoth_any _ _ _ _ _)))))); refine wpQuiet_nil ?_; rintro _ ⟨yr, rfl⟩; have syr := Ext.size yr; (repeat (first | rw [World.size_alloc] at syr | rw [World.size_setCell] at syr | rw [World.size_drew] at syr))) | (go_at_call 89; (first | with_reducible refine (Calls.giv2 (checkBoth_any _ _ _ _ _)).mono ?_ | with_reducible refine (Calls.giv (checkBoth_any _ _ _ _ _)).mono ?_); rintro _ _ ⟨y1, rfl, rfl⟩; have sy1 := Ext.size y1; (repeat (first | rw [World.size_alloc] at sy1 | rw [World.size_setCell] at sy1 | rw [World.size_drew] at sy1))))
      go_returns
      refine ⟨rfl, ?_⟩
      repeat' (first | (with_reducible exact Below.refl _ _) | (with_reducible assumption) | (with_reducible refine Ext.below _ ?_ ?_) | (with_reducible refine Below.on ?_ (by with_reducible assumption) ?_) | (with_reducible refine Below.alloc ?_ ?_ _) | (with_reducible refine Below.drew ?_) | (with_reducible refine Below.setCell ?_ ?_ _) | (with_reducible exact Nat.le_refl _) | omega | (simp; done) | (simp [go_sem]; done) | (simp at *; omega))
def hullL (a b c d : Int) : Int := if chkB a b c d = 0 then min a c else 0
def hullH (a b c d : Int) : Int := if chkB a b c d = 0 then max b d else 0
theorem Hull_any (a b c d : Int) (w : World) : Calls Try.prog 97 #[.agg #[.int .i64 a, .int .i64 b], .agg #[.int .i64 c, .int .i64 d]] w (Gives (.agg #[.int .i64 (hullL a b c d), .int .i64 (hullH a b c d)]) w) := by
  unfold hullL hullH
  by_cases h : chkB a b c d = 0
  · rw [if_pos h, if_pos h]
    go_enter Try.func97, Try.ntmps97
    go_wp2_with (first | ((first | with_reducible refine wrx2 ?_ | with_reducible refine wrx ?_); (repeat (first | go_big_quiet_step ((first | (go_at_call 89; with_reducible exact Calls.ext (checkBoth_any _ _ _ _ _)))) | quiet_step ((first | (go_at_call 89; with_reducible exact Calls.ext (checkBoth_any _ _ _ _ _)))))); refine wpQuiet_nil ?_; rintro _ ⟨yr, rfl⟩; have syr := Ext.size yr; (repeat (first | rw [World.size_alloc] at syr | rw [World.size_setCell] at syr | rw [World.size_drew] at syr)); have : w.heap.size < yr.now.heap.size := (by omega); have : w.heap.size ≤ yr.now.heap.size := (by omega); have : w.heap.size < yr.now.heap.size + 1 + 1 := (by omega); have : w.heap.size + 1 < yr.now.heap.size := (by omega); have : w.heap.size + 1 ≤ yr.now.heap.size := (by omega); have : w.heap.size + 1 < yr.now.heap.size + 1 + 1 := (by omega); have : w.heap.size + 1 + 1 < yr.now.heap.size := (by omega); have : w.heap.size + 1 + 1 ≤ yr.now.heap.size := (by omega); have : w.heap.size + 1 + 1 < yr.now.heap.size + 1 + 1 := (by omega)) | (go_at_call 89; (first | with_reducible refine (Calls.giv2 (checkBoth_any _ _ _ _ _)).mono ?_ | with_reducible refine (Calls.giv (checkBoth_any _ _ _ _ _)).mono ?_); rintro _ _ ⟨y1, rfl, rfl⟩; have sy1 := Ext.size y1; (repeat (first | rw [World.size_alloc] at sy1 | rw [World.size_setCell] at sy1 | rw [World.size_drew] at sy1)); have : w.heap.size < y1.now.heap.size := (by omega); have : w.heap.size ≤ y1.now.heap.size := (by omega); have : w.heap.size < y1.now.heap.size + 1 + 1 := (by omega); have : w.heap.size + 1 < y1.now.heap.size := (by omega); have : w.heap.size + 1 ≤ y1.now.heap.size := (by omega); have : w.heap.size + 1 < y1.now.heap.size + 1 + 1 := (by omega); have : w.heap.size + 1 + 1 < y1.now.heap.size := (by omega); have : w.heap.size + 1 + 1 ≤ y1.now.heap.size := (by omega); have : w.heap.size + 1 + 1 < y1.now.heap.size + 1 + 1 := (by omega)))
    go_returns
    refine ⟨rfl, ?_⟩
    repeat' (first | (with_reducible exact Below.refl _ _) | (with_reducible assumption) | (with_reducible refine Ext.below _ ?_ ?_) | (with_reducible refine Below.on ?_ (by with_reducible assumption) ?_) | (with_reducible refine Below.alloc ?_ ?_ _) | (with_reducible refine Below.drew ?_) | (with_reducible refine Below.setCell ?_ ?_ _) | (with_reducible exact Nat.le_refl _) | omega | (simp; done) | (simp [go_sem]; done) | (simp at *; omega))
  · rw [if_neg h, if_neg h]
    have h' : (chkB a b c d != 0) = true := by simpa using h
    go_enter Try.func97, Try.ntmps97
    go_wp2_with (first | ((first | with_reducible refine wrx2 ?_ | with_reducible refine wrx ?_); (repeat (first | go_big_quiet_step ((first | (go_at_call 89; with_reducible exact Calls.ext (checkBoth_any _ _ _ _ _)))) | quiet_step ((first | (go_at_call 89; with_reducible exact Calls.ext (checkBoth_any _ _ _ _ _)))))); refine wpQuiet_nil ?_; rintro _ ⟨yr, rfl⟩; have syr := Ext.size yr; (repeat (first | rw [World.size_alloc] at syr | rw [World.size_setCell] at syr | rw [World.size_drew] at syr)); have : w.heap.size < yr.now.heap.size := (by omega); have : w.heap.size ≤ yr.now.heap.size := (by omega); have : w.heap.size < yr.now.heap.size + 1 + 1 := (by omega); have : w.heap.size + 1 < yr.now.heap.size := (by omega); have : w.heap.size + 1 ≤ yr.now.heap.size := (by omega); have : w.heap.size + 1 < yr.now.heap.size + 1 + 1 := (by omega); have : w.heap.size + 1 + 1 < yr.now.heap.size := (by omega); have : w.heap.size + 1 + 1 ≤ yr.now.heap.size := (by omega); have : w.heap.size + 1 + 1 < yr.now.heap.size + 1 + 1 := (by omega)) | (go_at_call 89; (first | with_reducible refine (Calls.giv2 (checkBoth_any _ _ _ _ _)).mono ?_ | with_reducible refine (Calls.giv (checkBoth_any _ _ _ _ _)).mono ?_); rintro _ _ ⟨y1, rfl, rfl⟩; have sy1 := Ext.size y1; (repeat (first | rw [World.size_alloc] at sy1 | rw [World.size_setCell] at sy1 | rw [World.size_drew] at sy1)); have : w.heap.size < y1.now.heap.size := (by omega); have : w.heap.size ≤ y1.now.heap.size := (by omega); have : w.heap.size < y1.now.heap.size + 1 + 1 := (by omega); have : w.heap.size + 1 < y1.now.heap.size := (by omega); have : w.heap.size + 1 ≤ y1.now.heap.size := (by omega); have : w.heap.size + 1 < y1.now.heap.size + 1 + 1 := (by omega); have : w.heap.size + 1 + 1 < y1.now.heap.size := (by omega); have : w.heap.size + 1 + 1 ≤ y1.now.heap.size := (by omega); have : w.heap.size + 1 + 1 < y1.now.heap.size + 1 + 1 := (by omega)))
    go_returns
    refine ⟨rfl, ?_⟩
    repeat' (first | (with_reducible exact Below.refl _ _) | (with_reducible assumption) | (with_reducible refine Ext.below _ ?_ ?_) | (with_reducible refine Below.on ?_ (by with_reducible assumption) ?_) | (with_reducible refine Below.alloc ?_ ?_ _) | (with_reducible refine Below.drew ?_) | (with_reducible refine Below.setCell ?_ ?_ _) | (with_reducible exact Nat.le_refl _) | omega | (simp; done) | (simp [go_sem]; done) | (simp at *; omega))
/-- Two spans have a number in common. -/
def meetB (a b c d : Int) : Bool := chkB a b c d == 0 && decide (max a c ≤ min b d)
def meetL (a b c d : Int) : Int := if meetB a b c d = true then max a c else 0
def meetH (a b c d : Int) : Int := if meetB a b c d = true then min b d else 0
/-- A span has two halves. -/
def splitB (a b : Int) : Bool := chk a b == 0 && decide (a ≠ b)
end Go.Proofs.Ytlhihmfefipehaa

/- Contracts of package span's areas: their errors, their corners. No condition. -/
import Derived.Test.YtlmhbggigbmeaaaDoorKitG
import Derived.LoopN
namespace Go.Proofs.YtlmhbggigbmeaaaDoor
open Go.RowKit Go.Shelf
attribute [local go_sem] Ext.cell Ext.frozen Ext.lt Ext.le Ext.lt_add Ext.le_add Ext.ne Ext.ne' lt2 lt3 lt4 lt5 le2 le3 le4
/-- The error of two spans. -/
def chkB (a b c d : Int) : Int := if chk a b = 0 then chk c d else chk a b
theorem checkBoth_any (a b c d : Int) (w : World) : Calls Tryd.prog 70 #[.agg #[.int .i64 a, .int .i64 b], .agg #[.int .i64 c, .int .i64 d]] w (Gives (.int .i64 (chkB a b c d)) w) := by
  unfold chkB
  by_cases h : chk a b = 0
  · rw [if_pos h]
    go_enter Tryd.func70, Tryd.ntmps70
    go_wp2_with (first | ((first | with_reducible refine wrx2 ?_ | with_reducible refine wrx ?_); (repeat (first | go_big_quiet_step ((first | (go_at_call 87; with_reducible exact Calls.ext (Check_any _ _ _)))) | quiet_step ((first | (go_at_call 87; with_reducible exact Calls.ext (Check_any _ _ _)))))); refine wpQuiet_nil ?_; rintro _ ⟨yr, rfl⟩; have syr := Ext.size yr; (repeat (first | rw [World.size_alloc] at syr | rw [World.size_setCell] at syr | rw [World.size_drew] at syr))) | (go_at_call 87; (first | with_reducible refine (Calls.giv2 (Check_any _ _ _)).mono ?_ | with_reducible refine (Calls.giv (Check_any _ _ _)).mono ?_); rintro _ _ ⟨y1, rfl, rfl⟩; have sy1 := Ext.size y1; (repeat (first | rw [World.size_alloc] at sy1 | rw [World.size_setCell] at sy1 | rw [World.size_drew] at sy1))))
    go_returns
    refine ⟨rfl, ?_⟩
    repeat' (first | (with_reducible exact Below.refl _ _) | (with_reducible assumption) | (with_reducible refine Ext.below _ ?_ ?_) | (with_reducible refine Below.on ?_ (by with_reducible assumption) ?_) | (with_reducible refine Below.alloc ?_ ?_ _) | (with_reducible refine Below.drew ?_) | (with_reducible refine Below.setCell ?_ ?_ _) | (with_reducible exact Nat.le_refl _) | omega | (simp; done) | (simp [go_sem]; done) | (simp at *; omega))
  · rw [if_neg h]
    have h' : (chk a b != 0) = true := by simpa using h
    go_enter Tryd.func70, Tryd.ntmps70
    go_wp2_with (first | ((first | with_reducible refine wrx2 ?_ | with_reducible refine wrx ?_); (repeat (first | go_big_quiet_step ((first | (go_at_call 87; with_reducible exact Calls.ext (Check_any _ _ _)))) | quiet_step ((first | (go_at_call 87; with_reducible exact Calls.ext (Check_any _ _ _)))))); refine wpQuiet_nil ?_; rintro _ ⟨yr, rfl⟩; have syr := Ext.size yr; (repeat (first | rw [World.size_alloc] at syr | rw [World.size_setCell] at syr | rw [World.size_drew] at syr))) | (go_at_call 87; (first | with_reducible refine (Calls.giv2 (Check_any _ _ _)).mono ?_ | with_reducible refine (Calls.giv (Check_any _ _ _)).mono ?_); rintro _ _ ⟨y1, rfl, rfl⟩; have sy1 := Ext.size y1; (repeat (first | rw [World.size_alloc] at sy1 | rw [World.size_setCell] at sy1 | rw [World.size_drew] at sy1))))
    go_returns
    refine ⟨rfl, ?_⟩
    repeat' (first | (with_reducible exact Below.refl _ _) | (with_reducible assumption) | (with_reducible refine Ext.below _ ?_ ?_) | (with_reducible refine Below.on ?_ (by with_reducible assumption) ?_) | (with_reducible refine Below.alloc ?_ ?_ _) | (with_reducible refine Below.drew ?_) | (with_reducible refine Below.setCell ?_ ?_ _) | (with_reducible exact Nat.le_refl _) | omega | (simp; done) | (simp [go_sem]; done) | (simp at *; omega))

/-- The error of an area. -/
def chkA (a b c d : Int) : Int := if chkB a b c d = 0 then (if farB a c && farB b c && farB b d && farB a d then 0 else 2) else chkB a b c d
/-- What Hits and Clear can answer. -/
def canB (a b c d e f g h r : Int) : Bool := chkA a b c d == 0 && chkA e f g h == 0 && radB r
end Go.Proofs.YtlmhbggigbmeaaaDoor

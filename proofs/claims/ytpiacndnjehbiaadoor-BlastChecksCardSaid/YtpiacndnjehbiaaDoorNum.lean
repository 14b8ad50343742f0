/- Contracts of package span's numbers. No condition. -/
import Derived.Test.YtpiacndnjehbiaaDoorBase
namespace Go.Proofs.YtpiacndnjehbiaaDoor
open Go.RowKit Go.Shelf
attribute [local go_sem] Ext.cell Ext.frozen Ext.lt Ext.le Ext.lt_add Ext.le_add Ext.ne Ext.ne' lt2 lt3 lt4 lt5 le2 le3 le4
/-- The error of a span. -/
def chk (lo hi : Int) : Int := if numB lo && numB hi then (if lo ≤ hi then 0 else 11) else 2
theorem chk_ok (lo hi : Int) : chk lo hi = 0 ↔ -1152921504606846976 ≤ lo ∧ hi ≤ 1152921504606846976 ∧ lo ≤ hi := by
  unfold chk numB
  repeat' split
  all_goals (simp at *; omega)
theorem Check_any (lo hi : Int) (w : World) : Calls Tryd.prog 65 #[.agg #[.int .i64 lo, .int .i64 hi]] w (Gives (.int .i64 (chk lo hi)) w) := by
  unfold chk
  cases h1 : numB lo <;> cases h2 : numB hi <;> by_cases h5 : lo ≤ hi
  all_goals
    simp only [h5, Bool.and_self, Bool.and_true, Bool.and_false, if_true, if_false, Bool.false_eq_true]
    go_enter Tryd.func65, Tryd.ntmps65
    go_wp2_with (first | ((first | with_reducible refine wp_region_ext2 (by kernel_rfl) (by kernel_rfl) ?_ | with_reducible refine wp_region_ext (by kernel_rfl) (by kernel_rfl) ?_); (repeat (first | go_big_quiet_step ((first | (go_at_call 74; with_reducible exact Calls.ext (inNumbers_any _ _)))) | quiet_step ((first | (go_at_call 74; with_reducible exact Calls.ext (inNumbers_any _ _)))))); refine wpQuiet_nil ?_; rintro _ ⟨yr, rfl⟩; have syr := Ext.size yr; (repeat (first | rw [World.size_alloc] at syr | rw [World.size_setCell] at syr | rw [World.size_drew] at syr))) | (go_at_call 74; (first | with_reducible refine (Calls.giv2 (inNumbers_any _ _)).mono ?_ | with_reducible refine (Calls.giv (inNumbers_any _ _)).mono ?_); rintro _ _ ⟨y1, rfl, rfl⟩; have sy1 := Ext.size y1; (repeat (first | rw [World.size_alloc] at sy1 | rw [World.size_setCell] at sy1 | rw [World.size_drew] at sy1))))
    go_returns
    refine ⟨rfl, ?_⟩
    repeat' (first | (with_reducible exact Below.refl _ _) | (with_reducible assumption) | (with_reducible refine Ext.below _ ?_ ?_) | (with_reducible refine Below.on ?_ (by with_reducible assumption) ?_) | (with_reducible refine Below.alloc ?_ ?_ _) | (with_reducible refine Below.drew ?_) | (with_reducible refine Below.setCell ?_ ?_ _) | (with_reducible exact Nat.le_refl _) | omega | (simp; done) | (simp [go_sem]; done) | (simp at *; omega))

/-- Both numbers of a place are from -MaxFar to MaxFar; a radius is from 0 to MaxFar. -/
def farB (x y : Int) : Bool := decide (-268435456 ≤ x ∧ x ≤ 268435456 ∧ -268435456 ≤ y ∧ y ≤ 268435456)
def radB (r : Int) : Bool := decide (0 ≤ r ∧ r ≤ 268435456)
def sgn (n : Int) : Int := if n < 0 then -1 else if 0 < n then 1 else 0
theorem cmpw_sgn (m n : Int) : cmpw (whi m) (wlo m) (whi n) (wlo n) = sgn (m - n) := by
  unfold whi wlo; rw [cmpw_at]; unfold sgn
  repeat' split
  all_goals first | rfl | omega
theorem neg_I64 {a b : Int} (ha : I64 a) (hb : I64 b) : I64 (whi (-(a * b))) := by
  have := prod_bounds ha hb
  unfold I64 whi; omega
end Go.Proofs.YtpiacndnjehbiaaDoor

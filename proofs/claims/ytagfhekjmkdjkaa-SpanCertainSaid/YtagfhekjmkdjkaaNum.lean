/- Contracts of package span's numbers. No condition. -/
import Derived.Test.YtagfhekjmkdjkaaBase
namespace Go.Proofs.Ytagfhekjmkdjkaa
open Go.RowKit Go.Shelf
attribute [local go_sem] Ext.cell Ext.frozen Ext.lt Ext.le Ext.lt_add Ext.le_add Ext.ne Ext.ne' lt2 lt3 lt4 lt5 le2 le3 le4
theorem number_any (n : Int) (w : World) : Calls Try.prog 61 #[.agg #[.int .i64 (whi n), .int .u64 (wlo n)]] w fun e w' => ∃ q, Gives (.tuple #[.int .i64 q, .bool (numB n)]) w e w' ∧ (numB n = true → q = n) := by
  by_cases hn : I64 n
  · have e : wrap64 (wlo n) = n := by unfold wlo I64 at *; go_arith
    go_enter Try.func61, Try.ntmps61
    go_wp2_with (first | ((first | with_reducible refine wp_region_ext2 (by kernel_rfl) (by kernel_rfl) ?_ | with_reducible refine wp_region_ext (by kernel_rfl) (by kernel_rfl) ?_); (repeat (first | go_big_quiet_step ((first | (go_at_call 63; with_reducible exact Calls.ext (widen_any _ _ hn)) | (go_at_call 32; with_reducible exact Calls.ext (inNumbers_any _ _)))) | quiet_step ((first | (go_at_call 63; with_reducible exact Calls.ext (widen_any _ _ hn)) | (go_at_call 32; with_reducible exact Calls.ext (inNumbers_any _ _)))))); refine wpQuiet_nil ?_; rintro _ ⟨yr, rfl⟩; have syr := Ext.size yr; (repeat (first | rw [World.size_alloc] at syr | rw [World.size_setCell] at syr | rw [World.size_drew] at syr))) | (go_at_call 63; (first | with_reducible refine (Calls.giv2 (widen_any _ _ hn)).mono ?_ | with_reducible refine (Calls.giv (widen_any _ _ hn)).mono ?_); rintro _ _ ⟨y1, rfl, rfl⟩; have sy1 := Ext.size y1; (repeat (first | rw [World.size_alloc] at sy1 | rw [World.size_setCell] at sy1 | rw [World.size_drew] at sy1))) | (go_at_call 32; (first | with_reducible refine (Calls.giv2 (inNumbers_any _ _)).mono ?_ | with_reducible refine (Calls.giv (inNumbers_any _ _)).mono ?_); rintro _ _ ⟨y2, rfl, rfl⟩; have sy2 := Ext.size y2; (repeat (first | rw [World.size_alloc] at sy2 | rw [World.size_setCell] at sy2 | rw [World.size_drew] at sy2))))
    go_returns
    refine ⟨n, ⟨by simp [e], ?_⟩, fun _ => rfl⟩
    repeat' (first | (with_reducible exact Below.refl _ _) | (with_reducible assumption) | (with_reducible refine Ext.below _ ?_ ?_) | (with_reducible refine Below.on ?_ (by with_reducible assumption) ?_) | (with_reducible refine Below.alloc ?_ ?_ _) | (with_reducible refine Below.drew ?_) | (with_reducible refine Below.setCell ?_ ?_ _) | (with_reducible exact Nat.le_refl _) | omega | (simp; done) | (simp [go_sem]; done) | (simp at *; omega))
  · have hq : (whi (wrap64 (wlo n)) == whi n) = false := by unfold whi wlo I64 at *; rw [beq_eq_false_iff_ne]; go_arith
    have hq2 : I64 (wrap64 (wlo n)) := by unfold wlo I64 at *; go_arith
    have hd : numB n = false := by unfold I64 at hn; rw [numB_false]; omega
    rw [hd]
    clear hn hd
    obtain ⟨q, e⟩ : ∃ q, wrap64 (wlo n) = q := ⟨_, rfl⟩
    rw [e] at hq hq2
    go_enter Try.func61, Try.ntmps61
    go_wp2_with (first | ((first | with_reducible refine wp_region_ext2 (by kernel_rfl) (by kernel_rfl) ?_ | with_reducible refine wp_region_ext (by kernel_rfl) (by kernel_rfl) ?_); (repeat (first | go_big_quiet_step ((first | (go_at_call 63; with_reducible exact Calls.ext (widen_any _ _ hq2)) | (go_at_call 32; with_reducible exact Calls.ext (inNumbers_any _ _)))) | quiet_step ((first | (go_at_call 63; with_reducible exact Calls.ext (widen_any _ _ hq2)) | (go_at_call 32; with_reducible exact Calls.ext (inNumbers_any _ _)))))); refine wpQuiet_nil ?_; rintro _ ⟨yr, rfl⟩; have syr := Ext.size yr; (repeat (first | rw [World.size_alloc] at syr | rw [World.size_setCell] at syr | rw [World.size_drew] at syr))) | (go_at_call 63; (first | with_reducible refine (Calls.giv2 (widen_any _ _ hq2)).mono ?_ | with_reducible refine (Calls.giv (widen_any _ _ hq2)).mono ?_); rintro _ _ ⟨y1, rfl, rfl⟩; have sy1 := Ext.size y1; (repeat (first | rw [World.size_alloc] at sy1 | rw [World.size_setCell] at sy1 | rw [World.size_drew] at sy1))) | (go_at_call 32; (first | with_reducible refine (Calls.giv2 (inNumbers_any _ _)).mono ?_ | with_reducible refine (Calls.giv (inNumbers_any _ _)).mono ?_); rintro _ _ ⟨y2, rfl, rfl⟩; have sy2 := Ext.size y2; (repeat (first | rw [World.size_alloc] at sy2 | rw [World.size_setCell] at sy2 | rw [World.size_drew] at sy2))))
    go_returns
    refine ⟨q, ⟨by simp [e], ?_⟩, fun h => by cases h⟩
    repeat' (first | (with_reducible exact Below.refl _ _) | (with_reducible assumption) | (with_reducible refine Ext.below _ ?_ ?_) | (with_reducible refine Below.on ?_ (by with_reducible assumption) ?_) | (with_reducible refine Below.alloc ?_ ?_ _) | (with_reducible refine Below.drew ?_) | (with_reducible refine Below.setCell ?_ ?_ _) | (with_reducible exact Nat.le_refl _) | omega | (simp; done) | (simp [go_sem]; done) | (simp at *; omega))

/-- The error of a span. -/
def chk (lo hi : Int) : Int := if numB lo && numB hi then (if lo ≤ hi then 0 else 11) else 2
theorem chk_ok (lo hi : Int) : chk lo hi = 0 ↔ -1152921504606846976 ≤ lo ∧ hi ≤ 1152921504606846976 ∧ lo ≤ hi := by
  unfold chk numB
  repeat' split
  all_goals (simp at *; omega)
theorem Check_any (lo hi : Int) (w : World) : Calls Try.prog 6 #[.agg #[.int .i64 lo, .int .i64 hi]] w (Gives (.int .i64 (chk lo hi)) w) := by
  unfold chk
  cases h1 : numB lo <;> cases h2 : numB hi <;> by_cases h5 : lo ≤ hi
  all_goals
    simp only [h5, Bool.and_self, Bool.and_true, Bool.and_false, if_true, if_false, Bool.false_eq_true]
    go_enter Try.func6, Try.ntmps6
    go_wp2_with (first | ((first | with_reducible refine wp_region_ext2 (by kernel_rfl) (by kernel_rfl) ?_ | with_reducible refine wp_region_ext (by kernel_rfl) (by kernel_rfl) ?_); (repeat (first | go_big_quiet_step ((first | (go_at_call 32; with_reducible exact Calls.ext (inNumbers_any _ _)))) | quiet_step ((first | (go_at_call 32; with_reducible exact Calls.ext (inNumbers_any _ _)))))); refine wpQuiet_nil ?_; rintro _ ⟨yr, rfl⟩; have syr := Ext.size yr; (repeat (first | rw [World.size_alloc] at syr | rw [World.size_setCell] at syr | rw [World.size_drew] at syr))) | (go_at_call 32; (first | with_reducible refine (Calls.giv2 (inNumbers_any _ _)).mono ?_ | with_reducible refine (Calls.giv (inNumbers_any _ _)).mono ?_); rintro _ _ ⟨y1, rfl, rfl⟩; have sy1 := Ext.size y1; (repeat (first | rw [World.size_alloc] at sy1 | rw [World.size_setCell] at sy1 | rw [World.size_drew] at sy1))))
    go_returns
    refine ⟨rfl, ?_⟩
    repeat' (first | (with_reducible exact Below.refl _ _) | (with_reducible assumption) | (with_reducible refine Ext.below _ ?_ ?_) | (with_reducible refine Below.on ?_ (by with_reducible assumption) ?_) | (with_reducible refine Below.alloc ?_ ?_ _) | (with_reducible refine Below.drew ?_) | (with_reducible refine Below.setCell ?_ ?_ _) | (with_reducible exact Nat.le_refl _) | omega | (simp; done) | (simp [go_sem]; done) | (simp at *; omega))

/-- Both numbers of a place are from -MaxFar to MaxFar; a radius is from 0 to MaxFar. -/
def farB (x y : Int) : Bool := decide (-268435456 ≤ x ∧ x ≤ 268435456 ∧ -268435456 ≤ y ∧ y ≤ 268435456)
def radB (r : Int) : Bool := decide (0 ≤ r ∧ r ≤ 268435456)
theorem inFar_any (x y : Int) (w : World) : Calls Try.prog 47 #[.agg #[.int .i64 x, .int .i64 y]] w (Gives (.bool (farB x y)) w) := by
  go_enter Try.func47, Try.ntmps47
  go_wp2_with (first | ((first | with_reducible refine wp_region_ext2 (by kernel_rfl) (by kernel_rfl) ?_ | with_reducible refine wp_region_ext (by kernel_rfl) (by kernel_rfl) ?_); (repeat (first | go_big_quiet_step ((first | fail)) | quiet_step ((first | fail)))); refine wpQuiet_nil ?_; rintro _ ⟨yr, rfl⟩; have syr := Ext.size yr; (repeat (first | rw [World.size_alloc] at syr | rw [World.size_setCell] at syr | rw [World.size_drew] at syr))))
  all_goals
    go_returns
    refine ⟨ret_bool ?_, ?_⟩
    · unfold farB; rw [Bool.eq_iff_iff]; simp; omega
    · repeat' (first | (with_reducible exact Below.refl _ _) | (with_reducible assumption) | (with_reducible refine Ext.below _ ?_ ?_) | (with_reducible refine Below.on ?_ (by with_reducible assumption) ?_) | (with_reducible refine Below.alloc ?_ ?_ _) | (with_reducible refine Below.drew ?_) | (with_reducible refine Below.setCell ?_ ?_ _) | (with_reducible exact Nat.le_refl _) | omega | (simp; done) | (simp [go_sem]; done) | (simp at *; omega))
theorem inReach_any (r : Int) (w : World) : Calls Try.prog 46 #[.int .i64 r] w (Gives (.bool (radB r)) w) := by
  by_cases h1 : 0 ≤ r <;> by_cases h2 : r ≤ 268435456
  all_goals
    go_enter Try.func46, Try.ntmps46
    go_wp2_with (first | ((first | with_reducible refine wp_region_ext2 (by kernel_rfl) (by kernel_rfl) ?_ | with_reducible refine wp_region_ext (by kernel_rfl) (by kernel_rfl) ?_); (repeat (first | go_big_quiet_step ((first | fail)) | quiet_step ((first | fail)))); refine wpQuiet_nil ?_; rintro _ ⟨yr, rfl⟩; have syr := Ext.size yr; (repeat (first | rw [World.size_alloc] at syr | rw [World.size_setCell] at syr | rw [World.size_drew] at syr))))
    go_returns
    exact ⟨by simp [h1, h2, radB], Below.refl _ _⟩
def sgn (n : Int) : Int := if n < 0 then -1 else if 0 < n then 1 else 0
theorem cmpw_sgn (m n : Int) : cmpw (whi m) (wlo m) (whi n) (wlo n) = sgn (m - n) := by
  unfold whi wlo; rw [cmpw_at]; unfold sgn
  repeat' split
  all_goals first | rfl | omega
theorem Cross_any (a b c d : Int) (w : World) (ha : I64 a) (hb : I64 b) (hc : I64 c) (hd : I64 d) : Calls Try.prog 20 #[.agg #[.int .i64 a, .int .i64 b], .agg #[.int .i64 c, .int .i64 d]] w (Gives (.int .i64 (sgn (a * d - b * c))) w) := by
  rw [← cmpw_sgn]
  go_enter Try.func20, Try.ntmps20
  go_wp2_with (first | ((first | with_reducible refine wp_region_ext2 (by kernel_rfl) (by kernel_rfl) ?_ | with_reducible refine wp_region_ext (by kernel_rfl) (by kernel_rfl) ?_); (repeat (first | go_big_quiet_step ((first | (go_at_call 41; with_reducible exact Calls.ext (product_any _ _ _ (by assumption) (by assumption))) | (go_at_call 44; with_reducible exact Calls.ext (compare_any _ _ _ _ _)))) | quiet_step ((first | (go_at_call 41; with_reducible exact Calls.ext (product_any _ _ _ (by assumption) (by assumption))) | (go_at_call 44; with_reducible exact Calls.ext (compare_any _ _ _ _ _)))))); refine wpQuiet_nil ?_; rintro _ ⟨yr, rfl⟩; have syr := Ext.size yr; (repeat (first | rw [World.size_alloc] at syr | rw [World.size_setCell] at syr | rw [World.size_drew] at syr))) | (go_at_call 41; (first | with_reducible refine (Calls.giv2 (product_any _ _ _ (by assumption) (by assumption))).mono ?_ | with_reducible refine (Calls.giv (product_any _ _ _ (by assumption) (by assumption))).mono ?_); rintro _ _ ⟨y1, rfl, rfl⟩; have sy1 := Ext.size y1; (repeat (first | rw [World.size_alloc] at sy1 | rw [World.size_setCell] at sy1 | rw [World.size_drew] at sy1))) | (go_at_call 44; (first | with_reducible refine (Calls.giv2 (compare_any _ _ _ _ _)).mono ?_ | with_reducible refine (Calls.giv (compare_any _ _ _ _ _)).mono ?_); rintro _ _ ⟨y2, rfl, rfl⟩; have sy2 := Ext.size y2; (repeat (first | rw [World.size_alloc] at sy2 | rw [World.size_setCell] at sy2 | rw [World.size_drew] at sy2))))
  go_returns
  refine ⟨rfl, ?_⟩
  repeat' (first | (with_reducible exact Below.refl _ _) | (with_reducible assumption) | (with_reducible refine Ext.below _ ?_ ?_) | (with_reducible refine Below.on ?_ (by with_reducible assumption) ?_) | (with_reducible refine Below.alloc ?_ ?_ _) | (with_reducible refine Below.drew ?_) | (with_reducible refine Below.setCell ?_ ?_ _) | (with_reducible exact Nat.le_refl _) | omega | (simp; done) | (simp [go_sem]; done) | (simp at *; omega))
theorem neg_I64 {a b : Int} (ha : I64 a) (hb : I64 b) : I64 (whi (-(a * b))) := by
  have := prod_bounds ha hb
  unfold I64 whi; omega
theorem Dot_any (a b c d : Int) (w : World) (ha : I64 a) (hb : I64 b) (hc : I64 c) (hd : I64 d) : Calls Try.prog 21 #[.agg #[.int .i64 a, .int .i64 b], .agg #[.int .i64 c, .int .i64 d]] w (Gives (.int .i64 (sgn (a * c + b * d))) w) := by
  have hn := neg_I64 hb hd
  rw [show a * c + b * d = a * c - -(b * d) by omega, ← cmpw_sgn]
  go_enter Try.func21, Try.ntmps21
  go_wp2_with (first | ((first | with_reducible refine wp_region_ext2 (by kernel_rfl) (by kernel_rfl) ?_ | with_reducible refine wp_region_ext (by kernel_rfl) (by kernel_rfl) ?_); (repeat (first | go_big_quiet_step ((first | (go_at_call 41; with_reducible exact Calls.ext (product_any _ _ _ (by assumption) (by assumption))) | (go_at_call 45; with_reducible exact Calls.ext (negative_any _ _ hn)) | (go_at_call 44; with_reducible exact Calls.ext (compare_any _ _ _ _ _)))) | quiet_step ((first | (go_at_call 41; with_reducible exact Calls.ext (product_any _ _ _ (by assumption) (by assumption))) | (go_at_call 45; with_reducible exact Calls.ext (negative_any _ _ hn)) | (go_at_call 44; with_reducible exact Calls.ext (compare_any _ _ _ _ _)))))); refine wpQuiet_nil ?_; rintro _ ⟨yr, rfl⟩; have syr := Ext.size yr; (repeat (first | rw [World.size_alloc] at syr | rw [World.size_setCell] at syr | rw [World.size_drew] at syr))) | (go_at_call 41; (first | with_reducible refine (Calls.giv2 (product_any _ _ _ (by assumption) (by assumption))).mono ?_ | with_reducible refine (Calls.giv (product_any _ _ _ (by assumption) (by assumption))).mono ?_); rintro _ _ ⟨y1, rfl, rfl⟩; have sy1 := Ext.size y1; (repeat (first | rw [World.size_alloc] at sy1 | rw [World.size_setCell] at sy1 | rw [World.size_drew] at sy1))) | (go_at_call 45; (first | with_reducible refine (Calls.giv2 (negative_any _ _ hn)).mono ?_ | with_reducible refine (Calls.giv (negative_any _ _ hn)).mono ?_); rintro _ _ ⟨y2, rfl, rfl⟩; have sy2 := Ext.size y2; (repeat (first | rw [World.size_alloc] at sy2 | rw [World.size_setCell] at sy2 | rw [World.size_drew] at sy2))) | (go_at_call 44; (first | with_reducible refine (Calls.giv2 (compare_any _ _ _ _ _)).mono ?_ | with_reducible refine (Calls.giv (compare_any _ _ _ _ _)).mono ?_); rintro _ _ ⟨y3, rfl, rfl⟩; have sy3 := Ext.size y3; (repeat (first | rw [World.size_alloc] at sy3 | rw [World.size_setCell] at sy3 | rw [World.size_drew] at sy3))))
  go_returns
  refine ⟨rfl, ?_⟩
  repeat' (first | (with_reducible exact Below.refl _ _) | (with_reducible assumption) | (with_reducible refine Ext.below _ ?_ ?_) | (with_reducible refine Below.on ?_ (by with_reducible assumption) ?_) | (with_reducible refine Below.alloc ?_ ?_ _) | (with_reducible refine Below.drew ?_) | (with_reducible refine Below.setCell ?_ ?_ _) | (with_reducible exact Nat.le_refl _) | omega | (simp; done) | (simp [go_sem]; done) | (simp at *; omega))
end Go.Proofs.Ytagfhekjmkdjkaa

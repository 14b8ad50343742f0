/- The reference's sums and differences of spans. No condition. -/
import Derived.Test.YtnhdepdbggcnpabRefSpans
import Derived.Test.YtnhdepdbggcnpabSums
namespace Go.Proofs.Ytnhdepdbggcnpab
open Go.RowKit Go.Shelf
attribute [local go_sem] Ext.cell Ext.frozen Ext.lt Ext.le Ext.lt_add Ext.le_add Ext.ne Ext.ne' lt2 lt3 lt4 lt5 le2 le3 le4
/-- A span out of two numbers, if they are not too great. -/
def rsE (lo hi : Int) : Int := if (numB lo && numB hi) = true then 0 else 14
def rsL (lo hi : Int) : Int := if (numB lo && numB hi) = true then lo else 0
def rsH (lo hi : Int) : Int := if (numB lo && numB hi) = true then hi else 0
set_option maxHeartbeats 1000000 in
theorem result_any (lo hi : Int) (w : World) : Calls Try.prog 82 #[.int .i64 lo, .int .i64 hi] w (Gives (.tuple #[.agg #[.int .i64 (rsL lo hi), .int .i64 (rsH lo hi)], .int .i64 (rsE lo hi)]) w) := by
  unfold rsL rsH rsE
  cases h1 : numB lo <;> cases h2 : numB hi
  all_goals
    simp only [Bool.and_self, Bool.and_true, Bool.and_false, Bool.false_eq_true, if_true, if_false]
    go_enter Try.func82, Try.ntmps82
    go_wp2_with (first | ((first | with_reducible refine wp_region_ext2 (by kernel_rfl) (by kernel_rfl) ?_ | with_reducible refine wp_region_ext (by kernel_rfl) (by kernel_rfl) ?_); (repeat (first | go_big_quiet_step ((first | (go_at_call 76; with_reducible exact Calls.ext (fits_any _ _)))) | quiet_step ((first | (go_at_call 76; with_reducible exact Calls.ext (fits_any _ _)))))); refine wpQuiet_nil ?_; rintro _ ⟨yr, rfl⟩; have syr := Ext.size yr; (repeat (first | rw [World.size_alloc] at syr | rw [World.size_setCell] at syr | rw [World.size_drew] at syr)); have : w.heap.size < yr.now.heap.size := (by omega); have : w.heap.size ≤ yr.now.heap.size := (by omega); have : w.heap.size < yr.now.heap.size + 1 + 1 := (by omega)) | (go_at_call 76; (first | with_reducible refine (Calls.giv2 (fits_any _ _)).mono ?_ | with_reducible refine (Calls.giv (fits_any _ _)).mono ?_); rintro _ _ ⟨y1, rfl, rfl⟩; have sy1 := Ext.size y1; (repeat (first | rw [World.size_alloc] at sy1 | rw [World.size_setCell] at sy1 | rw [World.size_drew] at sy1)); have : w.heap.size < y1.now.heap.size := (by omega); have : w.heap.size ≤ y1.now.heap.size := (by omega); have : w.heap.size < y1.now.heap.size + 1 + 1 := (by omega)))
    go_returns
    refine ⟨rfl, ?_⟩
    repeat' (first | (with_reducible exact Below.refl _ _) | (with_reducible assumption) | (with_reducible refine Ext.below _ ?_ ?_) | (with_reducible refine Below.on ?_ (by with_reducible assumption) ?_) | (with_reducible refine Below.alloc ?_ ?_ _) | (with_reducible refine Below.drew ?_) | (with_reducible refine Below.setCell ?_ ?_ _) | (with_reducible exact Nat.le_refl _) | omega | (simp; done) | (simp [go_sem]; done) | (simp at *; omega))
theorem add_min {al ah bl bh : Int} (h1 : al ≤ ah) (h2 : bl ≤ bh) : dmin (· + ·) al ah bl bh 4 = al + bl ∧ dmax (· + ·) al ah bl bh 4 = ah + bh := by
  simp only [dmin, dmax]
  simp [corX, corY]
  constructor <;> (repeat' split) <;> omega
theorem sub_min {al ah bl bh : Int} (h1 : al ≤ ah) (h2 : bl ≤ bh) : dmin (· - ·) al ah bl bh 4 = al - bh ∧ dmax (· - ·) al ah bl bh 4 = ah - bl := by
  simp only [dmin, dmax]
  simp [corX, corY]
  constructor <;> (repeat' split) <;> omega
theorem chkB_ok {a b c d : Int} (h : chkB a b c d = 0) : (-1152921504606846976 ≤ a ∧ b ≤ 1152921504606846976 ∧ a ≤ b) ∧ -1152921504606846976 ≤ c ∧ d ≤ 1152921504606846976 ∧ c ≤ d := by
  unfold chkB at h
  split at h
  · rename_i h0; exact ⟨(chk_ok a b).1 h0, (chk_ok c d).1 h⟩
  · contradiction
theorem refAdd_any (a b c d : Int) (w : World) : Calls Try.prog 40 #[.agg #[.int .i64 a, .int .i64 b], .agg #[.int .i64 c, .int .i64 d]] w
    (Gives (.tuple #[.agg #[.int .i64 (addL a b c d), .int .i64 (addH a b c d)], .int .i64 (addE a b c d)]) w) := by
  by_cases h : chkB a b c d = 0
  · obtain ⟨⟨k1, k2, k3⟩, k4, k5, k6⟩ := chkB_ok h
    obtain ⟨m1, m2⟩ := add_min k3 k6
    have e : addE a b c d = rsE (a + c) (b + d) := by unfold addE cmbE rsE; rw [if_pos h, m1, m2]
    have e1 : addL a b c d = rsL (a + c) (b + d) := by unfold addL cmbL; rw [m1]; unfold cmbE rsL; rw [if_pos h, m1, m2]; split <;> simp_all
    have e2 : addH a b c d = rsH (a + c) (b + d) := by unfold addH cmbH; rw [m2]; unfold cmbE rsH; rw [if_pos h, m1, m2]; split <;> simp_all
    rw [e, e1, e2]
    have s1 : wrap64 (a + c) = a + c := IntWalk.wrap64_in _ (by omega)
    have s2 : wrap64 (b + d) = b + d := IntWalk.wrap64_in _ (by omega)
    clear e e1 e2 m1 m2
    go_enter Try.func40, Try.ntmps40
    go_wp2_with (first | ((first | with_reducible refine wp_region_ext2 (by kernel_rfl) (by kernel_rfl) ?_ | with_reducible refine wp_region_ext (by kernel_rfl) (by kernel_rfl) ?_); (repeat (first | go_big_quiet_step ((first | (go_at_call 74; with_reducible exact Calls.ext (both_any _ _ _ _ _)) | (go_at_call 82; with_reducible exact Calls.ext (result_any _ _ _)))) | quiet_step ((first | (go_at_call 74; with_reducible exact Calls.ext (both_any _ _ _ _ _)) | (go_at_call 82; with_reducible exact Calls.ext (result_any _ _ _)))))); refine wpQuiet_nil ?_; rintro _ ⟨yr, rfl⟩; have syr := Ext.size yr; (repeat (first | rw [World.size_alloc] at syr | rw [World.size_setCell] at syr | rw [World.size_drew] at syr)); have : w.heap.size < yr.now.heap.size := (by omega); have : w.heap.size ≤ yr.now.heap.size := (by omega); have : w.heap.size < yr.now.heap.size + 1 + 1 := (by omega); have : w.heap.size + 1 < yr.now.heap.size := (by omega); have : w.heap.size + 1 ≤ yr.now.heap.size := (by omega); have : w.heap.size + 1 < yr.now.heap.size + 1 + 1 := (by omega); have : w.heap.size + 1 + 1 < yr.now.heap.size := (by omega); have : w.heap.size + 1 + 1 ≤ yr.now.heap.size := (by omega); have : w.heap.size + 1 + 1 < yr.now.heap.size + 1 + 1 := (by omega)) | (go_at_call 74; (first | with_reducible refine (Calls.giv2 (both_any _ _ _ _ _)).mono ?_ | with_reducible refine (Calls.giv (both_any _ _ _ _ _)).mono ?_); rintro _ _ ⟨y1, rfl, rfl⟩; have sy1 := Ext.size y1; (repeat (first | rw [World.size_alloc] at sy1 | rw [World.size_setCell] at sy1 | rw [World.size_drew] at sy1)); have : w.heap.size < y1.now.heap.size := (by omega); have : w.heap.size ≤ y1.now.heap.size := (by omega); have : w.heap.size < y1.now.heap.size + 1 + 1 := (by omega); have : w.heap.size + 1 < y1.now.heap.size := (by omega); have : w.heap.size + 1 ≤ y1.now.heap.size := (by omega); have : w.heap.size + 1 < y1.now.heap.size + 1 + 1 := (by omega); have : w.heap.size + 1 + 1 < y1.now.heap.size := (by omega); have : w.heap.size + 1 + 1 ≤ y1.now.heap.size := (by omega); have : w.heap.size + 1 + 1 < y1.now.heap.size + 1 + 1 := (by omega)) | (go_at_call 82; (first | with_reducible refine (Calls.giv2 (result_any _ _ _)).mono ?_ | with_reducible refine (Calls.giv (result_any _ _ _)).mono ?_); rintro _ _ ⟨y2, rfl, rfl⟩; have sy2 := Ext.size y2; (repeat (first | rw [World.size_alloc] at sy2 | rw [World.size_setCell] at sy2 | rw [World.size_drew] at sy2)); have : w.heap.size < y2.now.heap.size := (by omega); have : w.heap.size ≤ y2.now.heap.size := (by omega); have : w.heap.size < y2.now.heap.size + 1 + 1 := (by omega); have : w.heap.size + 1 < y2.now.heap.size := (by omega); have : w.heap.size + 1 ≤ y2.now.heap.size := (by omega); have : w.heap.size + 1 < y2.now.heap.size + 1 + 1 := (by omega); have : w.heap.size + 1 + 1 < y2.now.heap.size := (by omega); have : w.heap.size + 1 + 1 ≤ y2.now.heap.size := (by omega); have : w.heap.size + 1 + 1 < y2.now.heap.size + 1 + 1 := (by omega)))
    go_returns
    refine ⟨rfl, ?_⟩
    repeat' (first | (with_reducible exact Below.refl _ _) | (with_reducible assumption) | (with_reducible refine Ext.below _ ?_ ?_) | (with_reducible refine Below.on ?_ (by with_reducible assumption) ?_) | (with_reducible refine Below.alloc ?_ ?_ _) | (with_reducible refine Below.drew ?_) | (with_reducible refine Below.setCell ?_ ?_ _) | (with_reducible exact Nat.le_refl _) | omega | (simp; done) | (simp [go_sem]; done) | (simp at *; omega))
  · have e : addE a b c d = chkB a b c d := by unfold addE cmbE; rw [if_neg h]
    have e1 : addL a b c d = 0 := by unfold addL cmbL cmbE; rw [if_neg h, if_neg h]
    have e2 : addH a b c d = 0 := by unfold addH cmbH cmbE; rw [if_neg h, if_neg h]
    rw [e, e1, e2]
    have h' : (chkB a b c d != 0) = true := by simpa using h
    clear e e1 e2
    go_enter Try.func40, Try.ntmps40
    go_wp2_with (first | ((first | with_reducible refine wp_region_ext2 (by kernel_rfl) (by kernel_rfl) ?_ | with_reducible refine wp_region_ext (by kernel_rfl) (by kernel_rfl) ?_); (repeat (first | go_big_quiet_step ((first | (go_at_call 74; with_reducible exact Calls.ext (both_any _ _ _ _ _)))) | quiet_step ((first | (go_at_call 74; with_reducible exact Calls.ext (both_any _ _ _ _ _)))))); refine wpQuiet_nil ?_; rintro _ ⟨yr, rfl⟩; have syr := Ext.size yr; (repeat (first | rw [World.size_alloc] at syr | rw [World.size_setCell] at syr | rw [World.size_drew] at syr)); have : w.heap.size < yr.now.heap.size := (by omega); have : w.heap.size ≤ yr.now.heap.size := (by omega); have : w.heap.size < yr.now.heap.size + 1 + 1 := (by omega); have : w.heap.size + 1 < yr.now.heap.size := (by omega); have : w.heap.size + 1 ≤ yr.now.heap.size := (by omega); have : w.heap.size + 1 < yr.now.heap.size + 1 + 1 := (by omega); have : w.heap.size + 1 + 1 < yr.now.heap.size := (by omega); have : w.heap.size + 1 + 1 ≤ yr.now.heap.size := (by omega); have : w.heap.size + 1 + 1 < yr.now.heap.size + 1 + 1 := (by omega)) | (go_at_call 74; (first | with_reducible refine (Calls.giv2 (both_any _ _ _ _ _)).mono ?_ | with_reducible refine (Calls.giv (both_any _ _ _ _ _)).mono ?_); rintro _ _ ⟨y1, rfl, rfl⟩; have sy1 := Ext.size y1; (repeat (first | rw [World.size_alloc] at sy1 | rw [World.size_setCell] at sy1 | rw [World.size_drew] at sy1)); have : w.heap.size < y1.now.heap.size := (by omega); have : w.heap.size ≤ y1.now.heap.size := (by omega); have : w.heap.size < y1.now.heap.size + 1 + 1 := (by omega); have : w.heap.size + 1 < y1.now.heap.size := (by omega); have : w.heap.size + 1 ≤ y1.now.heap.size := (by omega); have : w.heap.size + 1 < y1.now.heap.size + 1 + 1 := (by omega); have : w.heap.size + 1 + 1 < y1.now.heap.size := (by omega); have : w.heap.size + 1 + 1 ≤ y1.now.heap.size := (by omega); have : w.heap.size + 1 + 1 < y1.now.heap.size + 1 + 1 := (by omega)))
    go_returns
    refine ⟨rfl, ?_⟩
    repeat' (first | (with_reducible exact Below.refl _ _) | (with_reducible assumption) | (with_reducible refine Ext.below _ ?_ ?_) | (with_reducible refine Below.on ?_ (by with_reducible assumption) ?_) | (with_reducible refine Below.alloc ?_ ?_ _) | (with_reducible refine Below.drew ?_) | (with_reducible refine Below.setCell ?_ ?_ _) | (with_reducible exact Nat.le_refl _) | omega | (simp; done) | (simp [go_sem]; done) | (simp at *; omega))
theorem refSub_any (a b c d : Int) (w : World) : Calls Try.prog 42 #[.agg #[.int .i64 a, .int .i64 b], .agg #[.int .i64 c, .int .i64 d]] w
    (Gives (.tuple #[.agg #[.int .i64 (subL a b c d), .int .i64 (subH a b c d)], .int .i64 (subE a b c d)]) w) := by
  by_cases h : chkB a b c d = 0
  · obtain ⟨⟨k1, k2, k3⟩, k4, k5, k6⟩ := chkB_ok h
    obtain ⟨m1, m2⟩ := sub_min k3 k6
    have e : subE a b c d = rsE (a - d) (b - c) := by unfold subE cmbE rsE; rw [if_pos h, m1, m2]
    have e1 : subL a b c d = rsL (a - d) (b - c) := by unfold subL cmbL; rw [m1]; unfold cmbE rsL; rw [if_pos h, m1, m2]; split <;> simp_all
    have e2 : subH a b c d = rsH (a - d) (b - c) := by unfold subH cmbH; rw [m2]; unfold cmbE rsH; rw [if_pos h, m1, m2]; split <;> simp_all
    rw [e, e1, e2]
    have s1 : wrap64 (a - d) = a - d := IntWalk.wrap64_in _ (by omega)
    have s2 : wrap64 (b - c) = b - c := IntWalk.wrap64_in _ (by omega)
    clear e e1 e2 m1 m2
    go_enter Try.func42, Try.ntmps42
    go_wp2_with (first | ((first | with_reducible refine wp_region_ext2 (by kernel_rfl) (by kernel_rfl) ?_ | with_reducible refine wp_region_ext (by kernel_rfl) (by kernel_rfl) ?_); (repeat (first | go_big_quiet_step ((first | (go_at_call 74; with_reducible exact Calls.ext (both_any _ _ _ _ _)) | (go_at_call 82; with_reducible exact Calls.ext (result_any _ _ _)))) | quiet_step ((first | (go_at_call 74; with_reducible exact Calls.ext (both_any _ _ _ _ _)) | (go_at_call 82; with_reducible exact Calls.ext (result_any _ _ _)))))); refine wpQuiet_nil ?_; rintro _ ⟨yr, rfl⟩; have syr := Ext.size yr; (repeat (first | rw [World.size_alloc] at syr | rw [World.size_setCell] at syr | rw [World.size_drew] at syr)); have : w.heap.size < yr.now.heap.size := (by omega); have : w.heap.size ≤ yr.now.heap.size := (by omega); have : w.heap.size < yr.now.heap.size + 1 + 1 := (by omega); have : w.heap.size + 1 < yr.now.heap.size := (by omega); have : w.heap.size + 1 ≤ yr.now.heap.size := (by omega); have : w.heap.size + 1 < yr.now.heap.size + 1 + 1 := (by omega); have : w.heap.size + 1 + 1 < yr.now.heap.size := (by omega); have : w.heap.size + 1 + 1 ≤ yr.now.heap.size := (by omega); have : w.heap.size + 1 + 1 < yr.now.heap.size + 1 + 1 := (by omega)) | (go_at_call 74; (first | with_reducible refine (Calls.giv2 (both_any _ _ _ _ _)).mono ?_ | with_reducible refine (Calls.giv (both_any _ _ _ _ _)).mono ?_); rintro _ _ ⟨y1, rfl, rfl⟩; have sy1 := Ext.size y1; (repeat (first | rw [World.size_alloc] at sy1 | rw [World.size_setCell] at sy1 | rw [World.size_drew] at sy1)); have : w.heap.size < y1.now.heap.size := (by omega); have : w.heap.size ≤ y1.now.heap.size := (by omega); have : w.heap.size < y1.now.heap.size + 1 + 1 := (by omega); have : w.heap.size + 1 < y1.now.heap.size := (by omega); have : w.heap.size + 1 ≤ y1.now.heap.size := (by omega); have : w.heap.size + 1 < y1.now.heap.size + 1 + 1 := (by omega); have : w.heap.size + 1 + 1 < y1.now.heap.size := (by omega); have : w.heap.size + 1 + 1 ≤ y1.now.heap.size := (by omega); have : w.heap.size + 1 + 1 < y1.now.heap.size + 1 + 1 := (by omega)) | (go_at_call 82; (first | with_reducible refine (Calls.giv2 (result_any _ _ _)).mono ?_ | with_reducible refine (Calls.giv (result_any _ _ _)).mono ?_); rintro _ _ ⟨y2, rfl, rfl⟩; have sy2 := Ext.size y2; (repeat (first | rw [World.size_alloc] at sy2 | rw [World.size_setCell] at sy2 | rw [World.size_drew] at sy2)); have : w.heap.size < y2.now.heap.size := (by omega); have : w.heap.size ≤ y2.now.heap.size := (by omega); have : w.heap.size < y2.now.heap.size + 1 + 1 := (by omega); have : w.heap.size + 1 < y2.now.heap.size := (by omega); have : w.heap.size + 1 ≤ y2.now.heap.size := (by omega); have : w.heap.size + 1 < y2.now.heap.size + 1 + 1 := (by omega); have : w.heap.size + 1 + 1 < y2.now.heap.size := (by omega); have : w.heap.size + 1 + 1 ≤ y2.now.heap.size := (by omega); have : w.heap.size + 1 + 1 < y2.now.heap.size + 1 + 1 := (by omega)))
    go_returns
    refine ⟨rfl, ?_⟩
    repeat' (first | (with_reducible exact Below.refl _ _) | (with_reducible assumption) | (with_reducible refine Ext.below _ ?_ ?_) | (with_reducible refine Below.on ?_ (by with_reducible assumption) ?_) | (with_reducible refine Below.alloc ?_ ?_ _) | (with_reducible refine Below.drew ?_) | (with_reducible refine Below.setCell ?_ ?_ _) | (with_reducible exact Nat.le_refl _) | omega | (simp; done) | (simp [go_sem]; done) | (simp at *; omega))
  · have e : subE a b c d = chkB a b c d := by unfold subE cmbE; rw [if_neg h]
    have e1 : subL a b c d = 0 := by unfold subL cmbL cmbE; rw [if_neg h, if_neg h]
    have e2 : subH a b c d = 0 := by unfold subH cmbH cmbE; rw [if_neg h, if_neg h]
    rw [e, e1, e2]
    have h' : (chkB a b c d != 0) = true := by simpa using h
    clear e e1 e2
    go_enter Try.func42, Try.ntmps42
    go_wp2_with (first | ((first | with_reducible refine wp_region_ext2 (by kernel_rfl) (by kernel_rfl) ?_ | with_reducible refine wp_region_ext (by kernel_rfl) (by kernel_rfl) ?_); (repeat (first | go_big_quiet_step ((first | (go_at_call 74; with_reducible exact Calls.ext (both_any _ _ _ _ _)))) | quiet_step ((first | (go_at_call 74; with_reducible exact Calls.ext (both_any _ _ _ _ _)))))); refine wpQuiet_nil ?_; rintro _ ⟨yr, rfl⟩; have syr := Ext.size yr; (repeat (first | rw [World.size_alloc] at syr | rw [World.size_setCell] at syr | rw [World.size_drew] at syr)); have : w.heap.size < yr.now.heap.size := (by omega); have : w.heap.size ≤ yr.now.heap.size := (by omega); have : w.heap.size < yr.now.heap.size + 1 + 1 := (by omega); have : w.heap.size + 1 < yr.now.heap.size := (by omega); have : w.heap.size + 1 ≤ yr.now.heap.size := (by omega); have : w.heap.size + 1 < yr.now.heap.size + 1 + 1 := (by omega); have : w.heap.size + 1 + 1 < yr.now.heap.size := (by omega); have : w.heap.size + 1 + 1 ≤ yr.now.heap.size := (by omega); have : w.heap.size + 1 + 1 < yr.now.heap.size + 1 + 1 := (by omega)) | (go_at_call 74; (first | with_reducible refine (Calls.giv2 (both_any _ _ _ _ _)).mono ?_ | with_reducible refine (Calls.giv (both_any _ _ _ _ _)).mono ?_); rintro _ _ ⟨y1, rfl, rfl⟩; have sy1 := Ext.size y1; (repeat (first | rw [World.size_alloc] at sy1 | rw [World.size_setCell] at sy1 | rw [World.size_drew] at sy1)); have : w.heap.size < y1.now.heap.size := (by omega); have : w.heap.size ≤ y1.now.heap.size := (by omega); have : w.heap.size < y1.now.heap.size + 1 + 1 := (by omega); have : w.heap.size + 1 < y1.now.heap.size := (by omega); have : w.heap.size + 1 ≤ y1.now.heap.size := (by omega); have : w.heap.size + 1 < y1.now.heap.size + 1 + 1 := (by omega); have : w.heap.size + 1 + 1 < y1.now.heap.size := (by omega); have : w.heap.size + 1 + 1 ≤ y1.now.heap.size := (by omega); have : w.heap.size + 1 + 1 < y1.now.heap.size + 1 + 1 := (by omega)))
    go_returns
    refine ⟨rfl, ?_⟩
    repeat' (first | (with_reducible exact Below.refl _ _) | (with_reducible assumption) | (with_reducible refine Ext.below _ ?_ ?_) | (with_reducible refine Below.on ?_ (by with_reducible assumption) ?_) | (with_reducible refine Below.alloc ?_ ?_ _) | (with_reducible refine Below.drew ?_) | (with_reducible refine Below.setCell ?_ ?_ _) | (with_reducible exact Nat.le_refl _) | omega | (simp; done) | (simp [go_sem]; done) | (simp at *; omega))
end Go.Proofs.Ytnhdepdbggcnpab

/- The reference's products and squares of spans. No condition. -/
import Derived.Test.YtnhdepdbggcnpabCornersT
import Derived.Test.YtnhdepdbggcnpabRefQuot
import Derived.Test.YtnhdepdbggcnpabRefAdds
namespace Go.Proofs.Ytnhdepdbggcnpab
open Go.RowKit Go.Shelf
attribute [local go_sem] Ext.cell Ext.frozen Ext.lt Ext.le Ext.lt_add Ext.le_add Ext.ne Ext.ne' lt2 lt3 lt4 lt5 le2 le3 le4
theorem min_all (d : Int → Int → Int) (al ah bl bh : Int) : (numB (dmin d al ah bl bh 4) && numB (dmax d al ah bl bh 4)) = (numB (d al bl) && numB (d al bh) && numB (d ah bl) && numB (d ah bh)) := by
  rw [Bool.eq_iff_iff]
  simp only [Bool.and_eq_true, numB_true, dmin, dmax]
  simp [corX, corY]
  omega
theorem mul_eq {a b c d : Int} (h : chkB a b c d = 0) : mulE a b c d = tE a b c d ∧ mulL a b c d = tL a b c d ∧ mulH a b c d = tH a b c d := by
  have e : mulE a b c d = tE a b c d := by
    show cmbE mu mu a b c d = _
    unfold cmbE tE mu4
    rw [if_pos h, min_all]
  have e1 : mulL a b c d = if mulE a b c d = 0 then dmin mu a b c d 4 else 0 := rfl
  have e2 : mulH a b c d = if mulE a b c d = 0 then dmax mu a b c d 4 else 0 := rfl
  rw [e1, e2, e]
  refine ⟨rfl, ?_⟩
  unfold tE tL tH
  rw [rmn_eq, rmx_eq]
  cases mu4 a b c d <;> simp
theorem refMul_any (a b c d : Int) (w : World) : Calls Try.prog 44 #[.agg #[.int .i64 a, .int .i64 b], .agg #[.int .i64 c, .int .i64 d]] w
    (Gives (.tuple #[.agg #[.int .i64 (mulL a b c d), .int .i64 (mulH a b c d)], .int .i64 (mulE a b c d)]) w) := by
  by_cases h : chkB a b c d = 0
  · obtain ⟨⟨k1, k2, k3⟩, k4, k5, k6⟩ := chkB_ok h
    obtain ⟨m1, m2, m3⟩ := mul_eq h
    rw [m1, m2, m3]
    have CO := Go.Lib.hid (fun W => corners_mu a b c d W (fun x y hx hy => ⟨by unfold Num; rcases hx with rfl | rfl <;> omega, by unfold Num; rcases hy with rfl | rfl <;> omega⟩))
    clear m1 m2 m3 k1 k2 k3 k4 k5 k6
    go_enter Try.func44, Try.ntmps44
    go_wp2_with (first | ((first | with_reducible refine wp_region_ext2 (by kernel_rfl) (by kernel_rfl) ?_ | with_reducible refine wp_region_ext (by kernel_rfl) (by kernel_rfl) ?_); (repeat (first | go_big_quiet_step ((first | (go_at_call 74; with_reducible exact Calls.ext (both_any _ _ _ _ _)) | (go_at_call 84; with_reducible exact Calls.ext (CO.out _)))) | quiet_step ((first | (go_at_call 74; with_reducible exact Calls.ext (both_any _ _ _ _ _)) | (go_at_call 84; with_reducible exact Calls.ext (CO.out _)))))); refine wpQuiet_nil ?_; rintro _ ⟨yr, rfl⟩; have syr := Ext.size yr; (repeat (first | rw [World.size_alloc] at syr | rw [World.size_setCell] at syr | rw [World.size_drew] at syr)); have : w.heap.size < yr.now.heap.size := (by omega); have : w.heap.size ≤ yr.now.heap.size := (by omega); have : w.heap.size < yr.now.heap.size + 1 + 1 := (by omega); have : w.heap.size + 1 < yr.now.heap.size := (by omega); have : w.heap.size + 1 ≤ yr.now.heap.size := (by omega); have : w.heap.size + 1 < yr.now.heap.size + 1 + 1 := (by omega); have : w.heap.size + 1 + 1 < yr.now.heap.size := (by omega); have : w.heap.size + 1 + 1 ≤ yr.now.heap.size := (by omega); have : w.heap.size + 1 + 1 < yr.now.heap.size + 1 + 1 := (by omega)) | (go_at_call 74; (first | with_reducible refine (Calls.giv2 (both_any _ _ _ _ _)).mono ?_ | with_reducible refine (Calls.giv (both_any _ _ _ _ _)).mono ?_); rintro _ _ ⟨y1, rfl, rfl⟩; have sy1 := Ext.size y1; (repeat (first | rw [World.size_alloc] at sy1 | rw [World.size_setCell] at sy1 | rw [World.size_drew] at sy1)); have : w.heap.size < y1.now.heap.size := (by omega); have : w.heap.size ≤ y1.now.heap.size := (by omega); have : w.heap.size < y1.now.heap.size + 1 + 1 := (by omega); have : w.heap.size + 1 < y1.now.heap.size := (by omega); have : w.heap.size + 1 ≤ y1.now.heap.size := (by omega); have : w.heap.size + 1 < y1.now.heap.size + 1 + 1 := (by omega); have : w.heap.size + 1 + 1 < y1.now.heap.size := (by omega); have : w.heap.size + 1 + 1 ≤ y1.now.heap.size := (by omega); have : w.heap.size + 1 + 1 < y1.now.heap.size + 1 + 1 := (by omega)) | (go_at_call 84; (first | with_reducible refine (Calls.giv2 (CO.out _)).mono ?_ | with_reducible refine (Calls.giv (CO.out _)).mono ?_); rintro _ _ ⟨y2, rfl, rfl⟩; have sy2 := Ext.size y2; (repeat (first | rw [World.size_alloc] at sy2 | rw [World.size_setCell] at sy2 | rw [World.size_drew] at sy2)); have : w.heap.size < y2.now.heap.size := (by omega); have : w.heap.size ≤ y2.now.heap.size := (by omega); have : w.heap.size < y2.now.heap.size + 1 + 1 := (by omega); have : w.heap.size + 1 < y2.now.heap.size := (by omega); have : w.heap.size + 1 ≤ y2.now.heap.size := (by omega); have : w.heap.size + 1 < y2.now.heap.size + 1 + 1 := (by omega); have : w.heap.size + 1 + 1 < y2.now.heap.size := (by omega); have : w.heap.size + 1 + 1 ≤ y2.now.heap.size := (by omega); have : w.heap.size + 1 + 1 < y2.now.heap.size + 1 + 1 := (by omega)))
    go_returns
    refine ⟨rfl, ?_⟩
    repeat' (first | (with_reducible exact Below.refl _ _) | (with_reducible assumption) | (with_reducible refine Ext.below _ ?_ ?_) | (with_reducible refine Below.on ?_ (by with_reducible assumption) ?_) | (with_reducible refine Below.alloc ?_ ?_ _) | (with_reducible refine Below.drew ?_) | (with_reducible refine Below.setCell ?_ ?_ _) | (with_reducible exact Nat.le_refl _) | omega | (simp; done) | (simp [go_sem]; done) | (simp at *; omega))
  · have e : mulE a b c d = chkB a b c d := by unfold mulE cmbE; rw [if_neg h]
    have e1 : mulL a b c d = 0 := by unfold mulL cmbL cmbE; rw [if_neg h, if_neg h]
    have e2 : mulH a b c d = 0 := by unfold mulH cmbH cmbE; rw [if_neg h, if_neg h]
    rw [e, e1, e2]
    have h' : (chkB a b c d != 0) = true := by simpa using h
    clear e e1 e2
    go_enter Try.func44, Try.ntmps44
    go_wp2_with (first | ((first | with_reducible refine wp_region_ext2 (by kernel_rfl) (by kernel_rfl) ?_ | with_reducible refine wp_region_ext (by kernel_rfl) (by kernel_rfl) ?_); (repeat (first | go_big_quiet_step ((first | (go_at_call 74; with_reducible exact Calls.ext (both_any _ _ _ _ _)))) | quiet_step ((first | (go_at_call 74; with_reducible exact Calls.ext (both_any _ _ _ _ _)))))); refine wpQuiet_nil ?_; rintro _ ⟨yr, rfl⟩; have syr := Ext.size yr; (repeat (first | rw [World.size_alloc] at syr | rw [World.size_setCell] at syr | rw [World.size_drew] at syr)); have : w.heap.size < yr.now.heap.size := (by omega); have : w.heap.size ≤ yr.now.heap.size := (by omega); have : w.heap.size < yr.now.heap.size + 1 + 1 := (by omega); have : w.heap.size + 1 < yr.now.heap.size := (by omega); have : w.heap.size + 1 ≤ yr.now.heap.size := (by omega); have : w.heap.size + 1 < yr.now.heap.size + 1 + 1 := (by omega); have : w.heap.size + 1 + 1 < yr.now.heap.size := (by omega); have : w.heap.size + 1 + 1 ≤ yr.now.heap.size := (by omega); have : w.heap.size + 1 + 1 < yr.now.heap.size + 1 + 1 := (by omega)) | (go_at_call 74; (first | with_reducible refine (Calls.giv2 (both_any _ _ _ _ _)).mono ?_ | with_reducible refine (Calls.giv (both_any _ _ _ _ _)).mono ?_); rintro _ _ ⟨y1, rfl, rfl⟩; have sy1 := Ext.size y1; (repeat (first | rw [World.size_alloc] at sy1 | rw [World.size_setCell] at sy1 | rw [World.size_drew] at sy1)); have : w.heap.size < y1.now.heap.size := (by omega); have : w.heap.size ≤ y1.now.heap.size := (by omega); have : w.heap.size < y1.now.heap.size + 1 + 1 := (by omega); have : w.heap.size + 1 < y1.now.heap.size := (by omega); have : w.heap.size + 1 ≤ y1.now.heap.size := (by omega); have : w.heap.size + 1 < y1.now.heap.size + 1 + 1 := (by omega); have : w.heap.size + 1 + 1 < y1.now.heap.size := (by omega); have : w.heap.size + 1 + 1 ≤ y1.now.heap.size := (by omega); have : w.heap.size + 1 + 1 < y1.now.heap.size + 1 + 1 := (by omega)))
    go_returns
    refine ⟨rfl, ?_⟩
    repeat' (first | (with_reducible exact Below.refl _ _) | (with_reducible assumption) | (with_reducible refine Ext.below _ ?_ ?_) | (with_reducible refine Below.on ?_ (by with_reducible assumption) ?_) | (with_reducible refine Below.alloc ?_ ?_ _) | (with_reducible refine Below.drew ?_) | (with_reducible refine Below.setCell ?_ ?_ _) | (with_reducible exact Nat.le_refl _) | omega | (simp; done) | (simp [go_sem]; done) | (simp at *; omega))
theorem max3 (ats : Array TypeId) (ty : TypeId) (a b c : Int) (W : World) : Sem.run Try.prog (Builtin.max_ ats ty #[.int .i64 a, .int .i64 b, .int .i64 c]) W = .ok (.int .i64 (max a (max b c))) W := by
  have e : max a (max b c) = if c > (if b > a then b else a) then c else (if b > a then b else a) := by split <;> split at * <;> omega
  rw [e]
  rfl
attribute [local go_sem] max3
theorem refSquare_any (a b : Int) (w : World) : Calls Try.prog 46 #[.agg #[.int .i64 a, .int .i64 b]] w (Gives (.tuple #[.agg #[.int .i64 (sqL a b), .int .i64 (sqH a b)], .int .i64 (sqE a b)]) w) := by
  unfold sqL sqH sqE
  by_cases h : chk a b = 0
  · simp only [h, if_true]
    obtain ⟨c1, c2, c3⟩ := (chk_ok a b).1 h
    have x0 : absL a b = max a (max (-b) 0) := by unfold absL; split <;> (try split) <;> omega
    have y0 : absH a b = max b (-a) := by unfold absH; split <;> (try split) <;> omega
    have hx : 0 ≤ absL a b ∧ absL a b ≤ absH a b ∧ absH a b ≤ 1152921504606846976 := by rw [x0, y0]; omega
    have k : chkB (absL a b) (absH a b) (absL a b) (absH a b) = 0 := by
      have k0 : chk (absL a b) (absH a b) = 0 := (chk_ok _ _).2 ⟨by omega, by omega, by omega⟩
      unfold chkB
      rw [if_pos k0, k0]
    obtain ⟨m1, m2, m3⟩ := mul_eq k
    rw [m1, m2, m3]
    have CO0 := (fun W => corners_mu (absL a b) (absH a b) (absL a b) (absH a b) W (fun x y hx hy => ⟨by unfold Num; rcases hx with rfl | rfl <;> omega, by unfold Num; rcases hy with rfl | rfl <;> omega⟩))
    rw [x0, y0] at CO0
    rw [x0, y0]
    have CO := Go.Lib.hid CO0
    clear m1 m2 m3 k hx CO0 x0 y0
    have s1 : wrap64 (-b) = -b := IntWalk.wrap64_in _ (by omega)
    have s2 : wrap64 (-a) = -a := IntWalk.wrap64_in _ (by omega)
    go_enter Try.func46, Try.ntmps46
    go_wp2_with (first | ((first | with_reducible refine wp_region_ext2 (by kernel_rfl) (by kernel_rfl) ?_ | with_reducible refine wp_region_ext (by kernel_rfl) (by kernel_rfl) ?_); (repeat (first | go_big_quiet_step ((first | (go_at_call 30; with_reducible exact Calls.ext (refCheck_any _ _ _)) | (go_at_call 84; with_reducible exact Calls.ext (CO.out _)))) | quiet_step ((first | (go_at_call 30; with_reducible exact Calls.ext (refCheck_any _ _ _)) | (go_at_call 84; with_reducible exact Calls.ext (CO.out _)))))); refine wpQuiet_nil ?_; rintro _ ⟨yr, rfl⟩; have syr := Ext.size yr; (repeat (first | rw [World.size_alloc] at syr | rw [World.size_setCell] at syr | rw [World.size_drew] at syr)); have : w.heap.size < yr.now.heap.size := (by omega); have : w.heap.size ≤ yr.now.heap.size := (by omega); have : w.heap.size < yr.now.heap.size + 1 + 1 := (by omega); have : w.heap.size + 1 < yr.now.heap.size := (by omega); have : w.heap.size + 1 ≤ yr.now.heap.size := (by omega); have : w.heap.size + 1 < yr.now.heap.size + 1 + 1 := (by omega)) | (go_at_call 30; (first | with_reducible refine (Calls.giv2 (refCheck_any _ _ _)).mono ?_ | with_reducible refine (Calls.giv (refCheck_any _ _ _)).mono ?_); rintro _ _ ⟨y1, rfl, rfl⟩; have sy1 := Ext.size y1; (repeat (first | rw [World.size_alloc] at sy1 | rw [World.size_setCell] at sy1 | rw [World.size_drew] at sy1)); have : w.heap.size < y1.now.heap.size := (by omega); have : w.heap.size ≤ y1.now.heap.size := (by omega); have : w.heap.size < y1.now.heap.size + 1 + 1 := (by omega); have : w.heap.size + 1 < y1.now.heap.size := (by omega); have : w.heap.size + 1 ≤ y1.now.heap.size := (by omega); have : w.heap.size + 1 < y1.now.heap.size + 1 + 1 := (by omega)) | (go_at_call 84; (first | with_reducible refine (Calls.giv2 (CO.out _)).mono ?_ | with_reducible refine (Calls.giv (CO.out _)).mono ?_); rintro _ _ ⟨y2, rfl, rfl⟩; have sy2 := Ext.size y2; (repeat (first | rw [World.size_alloc] at sy2 | rw [World.size_setCell] at sy2 | rw [World.size_drew] at sy2)); have : w.heap.size < y2.now.heap.size := (by omega); have : w.heap.size ≤ y2.now.heap.size := (by omega); have : w.heap.size < y2.now.heap.size + 1 + 1 := (by omega); have : w.heap.size + 1 < y2.now.heap.size := (by omega); have : w.heap.size + 1 ≤ y2.now.heap.size := (by omega); have : w.heap.size + 1 < y2.now.heap.size + 1 + 1 := (by omega)))
    go_returns
    refine ⟨rfl, ?_⟩
    repeat' (first | (with_reducible exact Below.refl _ _) | (with_reducible assumption) | (with_reducible refine Ext.below _ ?_ ?_) | (with_reducible refine Below.on ?_ (by with_reducible assumption) ?_) | (with_reducible refine Below.alloc ?_ ?_ _) | (with_reducible refine Below.drew ?_) | (with_reducible refine Below.setCell ?_ ?_ _) | (with_reducible exact Nat.le_refl _) | omega | (simp; done) | (simp [go_sem]; done) | (simp at *; omega))
  · simp only [h, if_false]
    have h' : (chk a b != 0) = true := by simpa using h
    go_enter Try.func46, Try.ntmps46
    go_wp2_with (first | ((first | with_reducible refine wp_region_ext2 (by kernel_rfl) (by kernel_rfl) ?_ | with_reducible refine wp_region_ext (by kernel_rfl) (by kernel_rfl) ?_); (repeat (first | go_big_quiet_step ((first | (go_at_call 30; with_reducible exact Calls.ext (refCheck_any _ _ _)))) | quiet_step ((first | (go_at_call 30; with_reducible exact Calls.ext (refCheck_any _ _ _)))))); refine wpQuiet_nil ?_; rintro _ ⟨yr, rfl⟩; have syr := Ext.size yr; (repeat (first | rw [World.size_alloc] at syr | rw [World.size_setCell] at syr | rw [World.size_drew] at syr)); have : w.heap.size < yr.now.heap.size := (by omega); have : w.heap.size ≤ yr.now.heap.size := (by omega); have : w.heap.size < yr.now.heap.size + 1 + 1 := (by omega); have : w.heap.size + 1 < yr.now.heap.size := (by omega); have : w.heap.size + 1 ≤ yr.now.heap.size := (by omega); have : w.heap.size + 1 < yr.now.heap.size + 1 + 1 := (by omega)) | (go_at_call 30; (first | with_reducible refine (Calls.giv2 (refCheck_any _ _ _)).mono ?_ | with_reducible refine (Calls.giv (refCheck_any _ _ _)).mono ?_); rintro _ _ ⟨y1, rfl, rfl⟩; have sy1 := Ext.size y1; (repeat (first | rw [World.size_alloc] at sy1 | rw [World.size_setCell] at sy1 | rw [World.size_drew] at sy1)); have : w.heap.size < y1.now.heap.size := (by omega); have : w.heap.size ≤ y1.now.heap.size := (by omega); have : w.heap.size < y1.now.heap.size + 1 + 1 := (by omega); have : w.heap.size + 1 < y1.now.heap.size := (by omega); have : w.heap.size + 1 ≤ y1.now.heap.size := (by omega); have : w.heap.size + 1 < y1.now.heap.size + 1 + 1 := (by omega)))
    go_returns
    refine ⟨rfl, ?_⟩
    repeat' (first | (with_reducible exact Below.refl _ _) | (with_reducible assumption) | (with_reducible refine Ext.below _ ?_ ?_) | (with_reducible refine Below.on ?_ (by with_reducible assumption) ?_) | (with_reducible refine Below.alloc ?_ ?_ _) | (with_reducible refine Below.drew ?_) | (with_reducible refine Below.setCell ?_ ?_ _) | (with_reducible exact Nat.le_refl _) | omega | (simp; done) | (simp [go_sem]; done) | (simp at *; omega))
end Go.Proofs.Ytnhdepdbggcnpab

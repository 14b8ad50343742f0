/- Contract of package span's quotient of two spans. No condition. -/
import Derived.Test.YtlhihmfefipehaaMulB
import Derived.Test.YtlhihmfefipehaaSpans
import Derived.Test.YtlhihmfefipehaaOver
namespace Go.Proofs.Ytlhihmfefipehaa
open Go.RowKit Go.Shelf
attribute [local go_sem] Ext.cell Ext.frozen Ext.lt Ext.le Ext.lt_add Ext.le_add Ext.ne Ext.ne' lt2 lt3 lt4 lt5 le2 le3 le4
theorem ov_I64 {n c : Int} (h : c ≠ 0) : I64 (ovD n c) ∧ I64 (ovU n c) := by
  have c0 : 0 < ovC c := by unfold ovC; split <;> omega
  unfold ovD ovU I64
  split
  · rename_i hm
    have := upP_bounds hm c0
    omega
  · rename_i hm
    have := upP_bounds (n := -ovN n c) (by omega) c0
    omega
theorem quotient_any (p q : Int) (w : World) (hp : I64 p) (hq : I64 q) (hq0 : q ≠ 0) (hq1 : -9223372036854775808 < q) :
    Calls Try.prog 100 #[.int .i64 p, .int .i64 q] w (Gives (.tuple #[.agg #[.int .i64 (whi (ovD p q)), .int .u64 (wlo (ovD p q))], .agg #[.int .i64 (whi (ovU p q)), .int .u64 (wlo (ovU p q))]]) w) := by
  obtain ⟨i1, i2⟩ := ov_I64 (n := p) hq0
  have OV := Go.Lib.hid (fun W => over_any p q W (by unfold I64 at hp; omega) (by unfold I64 at hp; omega) hq0 hq1 (by unfold I64 at hq; omega))
  generalize ovD p q = d at *
  generalize ovU p q = u at *
  generalize ovB p q = k at *
  clear hq0 hq1
  go_enter Try.func100, Try.ntmps100
  go_wp2_with (first | ((first | with_reducible refine wrx2 ?_ | with_reducible refine wrx ?_); (repeat (first | go_big_quiet_step ((first | (go_at_call 104; with_reducible exact Calls.ext (widen_any _ _ (by assumption))) | (go_at_call 112; with_reducible exact Calls.ext (OV.out _)))) | quiet_step ((first | (go_at_call 104; with_reducible exact Calls.ext (widen_any _ _ (by assumption))) | (go_at_call 112; with_reducible exact Calls.ext (OV.out _)))))); refine wpQuiet_nil ?_; rintro _ ⟨yr, rfl⟩; have syr := Ext.size yr; (repeat (first | rw [World.size_alloc] at syr | rw [World.size_setCell] at syr | rw [World.size_drew] at syr)); have : w.heap.size < yr.now.heap.size := (by omega); have : w.heap.size ≤ yr.now.heap.size := (by omega); have : w.heap.size < yr.now.heap.size + 1 + 1 := (by omega); have : w.heap.size + 1 < yr.now.heap.size := (by omega); have : w.heap.size + 1 ≤ yr.now.heap.size := (by omega); have : w.heap.size + 1 < yr.now.heap.size + 1 + 1 := (by omega)) | (go_at_call 104; (first | with_reducible refine (Calls.giv2 (widen_any _ _ (by assumption))).mono ?_ | with_reducible refine (Calls.giv (widen_any _ _ (by assumption))).mono ?_); rintro _ _ ⟨y1, rfl, rfl⟩; have sy1 := Ext.size y1; (repeat (first | rw [World.size_alloc] at sy1 | rw [World.size_setCell] at sy1 | rw [World.size_drew] at sy1)); have : w.heap.size < y1.now.heap.size := (by omega); have : w.heap.size ≤ y1.now.heap.size := (by omega); have : w.heap.size < y1.now.heap.size + 1 + 1 := (by omega); have : w.heap.size + 1 < y1.now.heap.size := (by omega); have : w.heap.size + 1 ≤ y1.now.heap.size := (by omega); have : w.heap.size + 1 < y1.now.heap.size + 1 + 1 := (by omega)) | (go_at_call 112; (first | with_reducible refine (Calls.giv2 (OV.out _)).mono ?_ | with_reducible refine (Calls.giv (OV.out _)).mono ?_); rintro _ _ ⟨y2, rfl, rfl⟩; have sy2 := Ext.size y2; (repeat (first | rw [World.size_alloc] at sy2 | rw [World.size_setCell] at sy2 | rw [World.size_drew] at sy2)); have : w.heap.size < y2.now.heap.size := (by omega); have : w.heap.size ≤ y2.now.heap.size := (by omega); have : w.heap.size < y2.now.heap.size + 1 + 1 := (by omega); have : w.heap.size + 1 < y2.now.heap.size := (by omega); have : w.heap.size + 1 ≤ y2.now.heap.size := (by omega); have : w.heap.size + 1 < y2.now.heap.size + 1 + 1 := (by omega)))
  go_returns
  refine ⟨rfl, ?_⟩
  repeat' (first | (with_reducible exact Below.refl _ _) | (with_reducible assumption) | (with_reducible refine Ext.below _ ?_ ?_) | (with_reducible refine Below.on ?_ (by with_reducible assumption) ?_) | (with_reducible refine Below.alloc ?_ ?_ _) | (with_reducible refine Below.drew ?_) | (with_reducible refine Below.setCell ?_ ?_ _) | (with_reducible exact Nat.le_refl _) | omega | (simp; done) | (simp [go_sem]; done) | (simp at *; omega))
def quoE (a b c d : Int) : Int := if chkB a b c d = 0 then (if inB c d 0 = true then 2 else cmbE ovD ovU a b c d) else chkB a b c d
def quoL (a b c d : Int) : Int := if quoE a b c d = 0 then cmbL ovD ovU a b c d else 0
def quoH (a b c d : Int) : Int := if quoE a b c d = 0 then cmbH ovD ovU a b c d else 0
theorem combine_quo (a b c d : Int) (w : World) (h0 : chkB a b c d = 0) (h2 : inB c d 0 = false) :
    Calls Try.prog 80 #[.agg #[.int .i64 a, .int .i64 b], .agg #[.int .i64 c, .int .i64 d], .func (.func 100) #[] #[]] w
      (Gives (.tuple #[.agg #[.int .i64 (cmbL ovD ovU a b c d), .int .i64 (cmbH ovD ovU a b c d)], .int .i64 (cmbE ovD ovU a b c d)]) w) := by
  have h1 : chk a b = 0 ∧ chk c d = 0 := by
    unfold chkB at h0
    split at h0
    · rename_i h; exact ⟨h, h0⟩
    · contradiction
  have k1 := (chk_ok a b).1 h1.1
  have k2 := (chk_ok c d).1 h1.2
  have k3 : ¬ (c ≤ 0 ∧ 0 ≤ d) := by
    unfold inB at h2
    rw [h1.2] at h2
    simpa using h2
  refine combine_any 100 #[] ovD ovU a b c d w (fun args W => by simp [go_sem]) ?_
  intro W p q hB hp hq he
  exact quotient_any p q W (by unfold I64; rcases hp with rfl | rfl <;> omega) (by unfold I64; rcases hq with rfl | rfl <;> omega) (by rcases hq with rfl | rfl <;> omega) (by rcases hq with rfl | rfl <;> omega)
theorem Quot_any (a b c d : Int) (w : World) : Calls Try.prog 79 #[.agg #[.int .i64 a, .int .i64 b], .agg #[.int .i64 c, .int .i64 d]] w (Gives (.tuple #[.agg #[.int .i64 (quoL a b c d), .int .i64 (quoH a b c d)], .int .i64 (quoE a b c d)]) w) := by
  unfold quoL quoH
  by_cases h : chkB a b c d = 0
  · cases h2 : inB c d 0
    · have e : quoE a b c d = cmbE ovD ovU a b c d := by unfold quoE; rw [if_pos h, h2]; rfl
      have e1 : (if quoE a b c d = 0 then cmbL ovD ovU a b c d else 0) = cmbL ovD ovU a b c d := by
        rw [e]; split
        · rfl
        · rename_i hh; unfold cmbL; rw [if_neg hh]
      have e2 : (if quoE a b c d = 0 then cmbH ovD ovU a b c d else 0) = cmbH ovD ovU a b c d := by
        rw [e]; split
        · rfl
        · rename_i hh; unfold cmbH; rw [if_neg hh]
      rw [e1, e2, e]
      have CQ := Go.Lib.hid (fun W => combine_quo a b c d W h h2)
      clear e e1 e2
      generalize cmbL ovD ovU a b c d = x at *
      generalize cmbH ovD ovU a b c d = y at *
      generalize cmbE ovD ovU a b c d = z at *
      go_enter Try.func79, Try.ntmps79
      go_wp2_with (first | ((first | with_reducible refine wrx2 ?_ | with_reducible refine wrx ?_); (repeat (first | go_big_quiet_step ((first | (go_at_call 89; with_reducible exact Calls.ext (checkBoth_any _ _ _ _ _)) | (go_at_call 99; with_reducible exact Calls.ext (In_any _ _ _ _)) | (go_at_call 80; with_reducible exact Calls.ext (CQ.out _)))) | quiet_step ((first | (go_at_call 89; with_reducible exact Calls.ext (checkBoth_any _ _ _ _ _)) | (go_at_call 99; with_reducible exact Calls.ext (In_any _ _ _ _)) | (go_at_call 80; with_reducible exact Calls.ext (CQ.out _)))))); refine wpQuiet_nil ?_; rintro _ ⟨yr, rfl⟩; have syr := Ext.size yr; (repeat (first | rw [World.size_alloc] at syr | rw [World.size_setCell] at syr | rw [World.size_drew] at syr)); have : w.heap.size < yr.now.heap.size := (by omega); have : w.heap.size ≤ yr.now.heap.size := (by omega); have : w.heap.size < yr.now.heap.size + 1 + 1 := (by omega); have : w.heap.size + 1 < yr.now.heap.size := (by omega); have : w.heap.size + 1 ≤ yr.now.heap.size := (by omega); have : w.heap.size + 1 < yr.now.heap.size + 1 + 1 := (by omega); have : w.heap.size + 1 + 1 < yr.now.heap.size := (by omega); have : w.heap.size + 1 + 1 ≤ yr.now.heap.size := (by omega); have : w.heap.size + 1 + 1 < yr.now.heap.size + 1 + 1 := (by omega)) | (go_at_call 89; (first | with_reducible refine (Calls.giv2 (checkBoth_any _ _ _ _ _)).mono ?_ | with_reducible refine (Calls.giv (checkBoth_any _ _ _ _ _)).mono ?_); rintro _ _ ⟨y1, rfl, rfl⟩; have sy1 := Ext.size y1; (repeat (first | rw [World.size_alloc] at sy1 | rw [World.size_setCell] at sy1 | rw [World.size_drew] at sy1)); have : w.heap.size < y1.now.heap.size := (by omega); have : w.heap.size ≤ y1.now.heap.size := (by omega); have : w.heap.size < y1.now.heap.size + 1 + 1 := (by omega); have : w.heap.size + 1 < y1.now.heap.size := (by omega); have : w.heap.size + 1 ≤ y1.now.heap.size := (by omega); have : w.heap.size + 1 < y1.now.heap.size + 1 + 1 := (by omega); have : w.heap.size + 1 + 1 < y1.now.heap.size := (by omega); have : w.heap.size + 1 + 1 ≤ y1.now.heap.size := (by omega); have : w.heap.size + 1 + 1 < y1.now.heap.size + 1 + 1 := (by omega)) | (go_at_call 99; (first | with_reducible refine (Calls.giv2 (In_any _ _ _ _)).mono ?_ | with_reducible refine (Calls.giv (In_any _ _ _ _)).mono ?_); rintro _ _ ⟨y2, rfl, rfl⟩; have sy2 := Ext.size y2; (repeat (first | rw [World.size_alloc] at sy2 | rw [World.size_setCell] at sy2 | rw [World.size_drew] at sy2)); have : w.heap.size < y2.now.heap.size := (by omega); have : w.heap.size ≤ y2.now.heap.size := (by omega); have : w.heap.size < y2.now.heap.size + 1 + 1 := (by omega); have : w.heap.size + 1 < y2.now.heap.size := (by omega); have : w.heap.size + 1 ≤ y2.now.heap.size := (by omega); have : w.heap.size + 1 < y2.now.heap.size + 1 + 1 := (by omega); have : w.heap.size + 1 + 1 < y2.now.heap.size := (by omega); have : w.heap.size + 1 + 1 ≤ y2.now.heap.size := (by omega); have : w.heap.size + 1 + 1 < y2.now.heap.size + 1 + 1 := (by omega)) | (go_at_call 80; (first | with_reducible refine (Calls.giv2 (CQ.out _)).mono ?_ | with_reducible refine (Calls.giv (CQ.out _)).mono ?_); rintro _ _ ⟨y3, rfl, rfl⟩; have sy3 := Ext.size y3; (repeat (first | rw [World.size_alloc] at sy3 | rw [World.size_setCell] at sy3 | rw [World.size_drew] at sy3)); have : w.heap.size < y3.now.heap.size := (by omega); have : w.heap.size ≤ y3.now.heap.size := (by omega); have : w.heap.size < y3.now.heap.size + 1 + 1 := (by omega); have : w.heap.size + 1 < y3.now.heap.size := (by omega); have : w.heap.size + 1 ≤ y3.now.heap.size := (by omega); have : w.heap.size + 1 < y3.now.heap.size + 1 + 1 := (by omega); have : w.heap.size + 1 + 1 < y3.now.heap.size := (by omega); have : w.heap.size + 1 + 1 ≤ y3.now.heap.size := (by omega); have : w.heap.size + 1 + 1 < y3.now.heap.size + 1 + 1 := (by omega)))
      go_returns
      refine ⟨rfl, ?_⟩
      repeat' (first | (with_reducible exact Below.refl _ _) | (with_reducible assumption) | (with_reducible refine Ext.below _ ?_ ?_) | (with_reducible refine Below.on ?_ (by with_reducible assumption) ?_) | (with_reducible refine Below.alloc ?_ ?_ _) | (with_reducible refine Below.drew ?_) | (with_reducible refine Below.setCell ?_ ?_ _) | (with_reducible exact Nat.le_refl _) | omega | (simp; done) | (simp [go_sem]; done) | (simp at *; omega))
    · have e : quoE a b c d = 2 := by unfold quoE; rw [if_pos h, h2]; rfl
      rw [e]
      simp only [show ((2 : Int) = 0) = False by decide, if_false]
      clear e
      go_enter Try.func79, Try.ntmps79
      go_wp2_with (first | ((first | with_reducible refine wrx2 ?_ | with_reducible refine wrx ?_); (repeat (first | go_big_quiet_step ((first | (go_at_call 89; with_reducible exact Calls.ext (checkBoth_any _ _ _ _ _)) | (go_at_call 99; with_reducible exact Calls.ext (In_any _ _ _ _)))) | quiet_step ((first | (go_at_call 89; with_reducible exact Calls.ext (checkBoth_any _ _ _ _ _)) | (go_at_call 99; with_reducible exact Calls.ext (In_any _ _ _ _)))))); refine wpQuiet_nil ?_; rintro _ ⟨yr, rfl⟩; have syr := Ext.size yr; (repeat (first | rw [World.size_alloc] at syr | rw [World.size_setCell] at syr | rw [World.size_drew] at syr)); have : w.heap.size < yr.now.heap.size := (by omega); have : w.heap.size ≤ yr.now.heap.size := (by omega); have : w.heap.size < yr.now.heap.size + 1 + 1 := (by omega); have : w.heap.size + 1 < yr.now.heap.size := (by omega); have : w.heap.size + 1 ≤ yr.now.heap.size := (by omega); have : w.heap.size + 1 < yr.now.heap.size + 1 + 1 := (by omega); have : w.heap.size + 1 + 1 < yr.now.heap.size := (by omega); have : w.heap.size + 1 + 1 ≤ yr.now.heap.size := (by omega); have : w.heap.size + 1 + 1 < yr.now.heap.size + 1 + 1 := (by omega)) | (go_at_call 89; (first | with_reducible refine (Calls.giv2 (checkBoth_any _ _ _ _ _)).mono ?_ | with_reducible refine (Calls.giv (checkBoth_any _ _ _ _ _)).mono ?_); rintro _ _ ⟨y1, rfl, rfl⟩; have sy1 := Ext.size y1; (repeat (first | rw [World.size_alloc] at sy1 | rw [World.size_setCell] at sy1 | rw [World.size_drew] at sy1)); have : w.heap.size < y1.now.heap.size := (by omega); have : w.heap.size ≤ y1.now.heap.size := (by omega); have : w.heap.size < y1.now.heap.size + 1 + 1 := (by omega); have : w.heap.size + 1 < y1.now.heap.size := (by omega); have : w.heap.size + 1 ≤ y1.now.heap.size := (by omega); have : w.heap.size + 1 < y1.now.heap.size + 1 + 1 := (by omega); have : w.heap.size + 1 + 1 < y1.now.heap.size := (by omega); have : w.heap.size + 1 + 1 ≤ y1.now.heap.size := (by omega); have : w.heap.size + 1 + 1 < y1.now.heap.size + 1 + 1 := (by omega)) | (go_at_call 99; (first | with_reducible refine (Calls.giv2 (In_any _ _ _ _)).mono ?_ | with_reducible refine (Calls.giv (In_any _ _ _ _)).mono ?_); rintro _ _ ⟨y2, rfl, rfl⟩; have sy2 := Ext.size y2; (repeat (first | rw [World.size_alloc] at sy2 | rw [World.size_setCell] at sy2 | rw [World.size_drew] at sy2)); have : w.heap.size < y2.now.heap.size := (by omega); have : w.heap.size ≤ y2.now.heap.size := (by omega); have : w.heap.size < y2.now.heap.size + 1 + 1 := (by omega); have : w.heap.size + 1 < y2.now.heap.size := (by omega); have : w.heap.size + 1 ≤ y2.now.heap.size := (by omega); have : w.heap.size + 1 < y2.now.heap.size + 1 + 1 := (by omega); have : w.heap.size + 1 + 1 < y2.now.heap.size := (by omega); have : w.heap.size + 1 + 1 ≤ y2.now.heap.size := (by omega); have : w.heap.size + 1 + 1 < y2.now.heap.size + 1 + 1 := (by omega)))
      go_returns
      refine ⟨rfl, ?_⟩
      repeat' (first | (with_reducible exact Below.refl _ _) | (with_reducible assumption) | (with_reducible refine Ext.below _ ?_ ?_) | (with_reducible refine Below.on ?_ (by with_reducible assumption) ?_) | (with_reducible refine Below.alloc ?_ ?_ _) | (with_reducible refine Below.drew ?_) | (with_reducible refine Below.setCell ?_ ?_ _) | (with_reducible exact Nat.le_refl _) | omega | (simp; done) | (simp [go_sem]; done) | (simp at *; omega))
  · have e : quoE a b c d = chkB a b c d := by unfold quoE; rw [if_neg h]
    rw [e, if_neg h, if_neg h]
    have h' : (chkB a b c d != 0) = true := by simpa using h
    clear e
    go_enter Try.func79, Try.ntmps79
    go_wp2_with (first | ((first | with_reducible refine wrx2 ?_ | with_reducible refine wrx ?_); (repeat (first | go_big_quiet_step ((first | (go_at_call 89; with_reducible exact Calls.ext (checkBoth_any _ _ _ _ _)))) | quiet_step ((first | (go_at_call 89; with_reducible exact Calls.ext (checkBoth_any _ _ _ _ _)))))); refine wpQuiet_nil ?_; rintro _ ⟨yr, rfl⟩; have syr := Ext.size yr; (repeat (first | rw [World.size_alloc] at syr | rw [World.size_setCell] at syr | rw [World.size_drew] at syr)); have : w.heap.size < yr.now.heap.size := (by omega); have : w.heap.size ≤ yr.now.heap.size := (by omega); have : w.heap.size < yr.now.heap.size + 1 + 1 := (by omega); have : w.heap.size + 1 < yr.now.heap.size := (by omega); have : w.heap.size + 1 ≤ yr.now.heap.size := (by omega); have : w.heap.size + 1 < yr.now.heap.size + 1 + 1 := (by omega); have : w.heap.size + 1 + 1 < yr.now.heap.size := (by omega); have : w.heap.size + 1 + 1 ≤ yr.now.heap.size := (by omega); have : w.heap.size + 1 + 1 < yr.now.heap.size + 1 + 1 := (by omega)) | (go_at_call 89; (first | with_reducible refine (Calls.giv2 (checkBoth_any _ _ _ _ _)).mono ?_ | with_reducible refine (Calls.giv (checkBoth_any _ _ _ _ _)).mono ?_); rintro _ _ ⟨y1, rfl, rfl⟩; have sy1 := Ext.size y1; (repeat (first | rw [World.size_alloc] at sy1 | rw [World.size_setCell] at sy1 | rw [World.size_drew] at sy1)); have : w.heap.size < y1.now.heap.size := (by omega); have : w.heap.size ≤ y1.now.heap.size := (by omega); have : w.heap.size < y1.now.heap.size + 1 + 1 := (by omega); have : w.heap.size + 1 < y1.now.heap.size := (by omega); have : w.heap.size + 1 ≤ y1.now.heap.size := (by omega); have : w.heap.size + 1 < y1.now.heap.size + 1 + 1 := (by omega); have : w.heap.size + 1 + 1 < y1.now.heap.size := (by omega); have : w.heap.size + 1 + 1 ≤ y1.now.heap.size := (by omega); have : w.heap.size + 1 + 1 < y1.now.heap.size + 1 + 1 := (by omega)))
    go_returns
    refine ⟨rfl, ?_⟩
    repeat' (first | (with_reducible exact Below.refl _ _) | (with_reducible assumption) | (with_reducible refine Ext.below _ ?_ ?_) | (with_reducible refine Below.on ?_ (by with_reducible assumption) ?_) | (with_reducible refine Below.alloc ?_ ?_ _) | (with_reducible refine Below.drew ?_) | (with_reducible refine Below.setCell ?_ ?_ _) | (with_reducible exact Nat.le_refl _) | omega | (simp; done) | (simp [go_sem]; done) | (simp at *; omega))
end Go.Proofs.Ytlhihmfefipehaa

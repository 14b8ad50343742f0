/- The reference's quotient of two spans. No condition. -/
import Derived.Test.YtnhdepdbggcnpabCorners
import Derived.Test.YtnhdepdbggcnpabQuot
import Derived.Test.YtnhdepdbggcnpabRefSpans
namespace Go.Proofs.Ytnhdepdbggcnpab
open Go.RowKit Go.Shelf
attribute [local go_sem] Ext.cell Ext.frozen Ext.lt Ext.le Ext.lt_add Ext.le_add Ext.ne Ext.ne' lt2 lt3 lt4 lt5 le2 le3 le4
theorem quo_small {n c : Int} (hn : 0 ≤ n) (hc : 0 < c) (hb : n ≤ 1152921504606846976) : okP n c = true ∧ (0 ≤ downP n c ∧ downP n c ≤ 1152921504606846976) ∧ 0 ≤ upP n c ∧ upP n c ≤ 1152921504606846976 := by
  have h := cei_eq (n := n) hc
  have h1 := Int.emod_add_mul_ediv n c
  have h2 := Int.emod_nonneg n (b := c) (by omega)
  have hq : 0 ≤ n / c := Int.ediv_nonneg hn (by omega)
  have h3 : n / c ≤ c * (n / c) := by
    have := Int.mul_le_mul_of_nonneg_right (show 1 ≤ c by omega) hq
    omega
  have ok : okP n c = true := by
    unfold okP
    simp only [decide_eq_true_eq]
    split at h <;> omega
  unfold downP upP
  rw [ok]
  simp only [if_true]
  refine ⟨trivial, ⟨by omega, by omega⟩, ?_, ?_⟩ <;> split at h <;> omega
theorem ov_small {n c : Int} (hc : c ≠ 0) (h1 : -1152921504606846976 ≤ n) (h2 : n ≤ 1152921504606846976) : ovB n c = true ∧ numB (ovD n c) = true ∧ numB (ovU n c) = true := by
  have c0 : 0 < ovC c := by unfold ovC; split <;> omega
  have b1 : -1152921504606846976 ≤ ovN n c ∧ ovN n c ≤ 1152921504606846976 := by unfold ovN; split <;> omega
  rw [numB_true, numB_true]
  unfold ovB ovD ovU
  generalize ovN n c = m at *
  generalize ovC c = k at *
  split
  · rename_i hm
    obtain ⟨ok, a, b⟩ := quo_small hm c0 b1.2
    exact ⟨ok, by omega, by omega⟩
  · rename_i hm
    obtain ⟨ok, a, b⟩ := quo_small (n := -m) (by omega) c0 (by omega)
    exact ⟨ok, by omega, by omega⟩
theorem rmn_eq (d : Int → Int → Int) (al ah bl bh : Int) : rmn d al ah bl bh 4 = dmin d al ah bl bh 4 := by
  simp only [rmn, dmin]
  simp [pk, corX, corY]
  omega
theorem rmx_eq (d : Int → Int → Int) (al ah bl bh : Int) : rmx d al ah bl bh 4 = dmax d al ah bl bh 4 := by
  simp only [rmx, dmax]
  simp [pk, corX, corY]
  omega
theorem min_num {d : Int → Int → Int} {al ah bl bh : Int} (h : ∀ x y, (x = al ∨ x = ah) → (y = bl ∨ y = bh) → numB (d x y) = true) : numB (dmin d al ah bl bh 4) = true ∧ numB (dmax d al ah bl bh 4) = true := by
  have h1 := numB_true.1 (h al bl (.inl rfl) (.inl rfl))
  have h2 := numB_true.1 (h al bh (.inl rfl) (.inr rfl))
  have h3 := numB_true.1 (h ah bl (.inr rfl) (.inl rfl))
  have h4 := numB_true.1 (h ah bh (.inr rfl) (.inr rfl))
  rw [numB_true, numB_true]
  simp only [dmin, dmax]
  simp only [corX, corY]
  simp
  omega
set_option maxHeartbeats 1000000 in
theorem refQuot_any (a b c d : Int) (w : World) : Calls Try.prog 48 #[.agg #[.int .i64 a, .int .i64 b], .agg #[.int .i64 c, .int .i64 d]] w (Gives (.tuple #[.agg #[.int .i64 (quoL a b c d), .int .i64 (quoH a b c d)], .int .i64 (quoE a b c d)]) w) := by
  by_cases h : chkB a b c d = 0
  · have h1 : chk a b = 0 ∧ chk c d = 0 := by
      have h0 := h
      unfold chkB at h0
      split at h0
      · rename_i h; exact ⟨h, h0⟩
      · contradiction
    have k1 := (chk_ok a b).1 h1.1
    have k2 := (chk_ok c d).1 h1.2
    by_cases h3 : c ≤ 0 ∧ 0 ≤ d
    · have hi : inB c d 0 = true := by unfold inB; rw [h1.2]; simpa using h3
      have e : quoE a b c d = 2 := by unfold quoE; rw [if_pos h, if_pos hi]
      unfold quoL quoH
      rw [e]
      simp only [show ((2 : Int) = 0) = False by decide, if_false]
      obtain ⟨g1, g2⟩ := h3
      clear e hi k1 k2 h1
      go_enter Try.func48, Try.ntmps48
      go_wp2_with (first | ((first | with_reducible refine wp_region_ext2 (by kernel_rfl) (by kernel_rfl) ?_ | with_reducible refine wp_region_ext (by kernel_rfl) (by kernel_rfl) ?_); (repeat (first | go_big_quiet_step ((first | (go_at_call 74; with_reducible exact Calls.ext (both_any _ _ _ _ _)))) | quiet_step ((first | (go_at_call 74; with_reducible exact Calls.ext (both_any _ _ _ _ _)))))); refine wpQuiet_nil ?_; rintro _ ⟨yr, rfl⟩; have syr := Ext.size yr; (repeat (first | rw [World.size_alloc] at syr | rw [World.size_setCell] at syr | rw [World.size_drew] at syr)); have : w.heap.size < yr.now.heap.size := (by omega); have : w.heap.size ≤ yr.now.heap.size := (by omega); have : w.heap.size < yr.now.heap.size + 1 + 1 := (by omega); have : w.heap.size + 1 < yr.now.heap.size := (by omega); have : w.heap.size + 1 ≤ yr.now.heap.size := (by omega); have : w.heap.size + 1 < yr.now.heap.size + 1 + 1 := (by omega); have : w.heap.size + 1 + 1 < yr.now.heap.size := (by omega); have : w.heap.size + 1 + 1 ≤ yr.now.heap.size := (by omega); have : w.heap.size + 1 + 1 < yr.now.heap.size + 1 + 1 := (by omega)) | (go_at_call 74; (first | with_reducible refine (Calls.giv2 (both_any _ _ _ _ _)).mono ?_ | with_reducible refine (Calls.giv (both_any _ _ _ _ _)).mono ?_); rintro _ _ ⟨y1, rfl, rfl⟩; have sy1 := Ext.size y1; (repeat (first | rw [World.size_alloc] at sy1 | rw [World.size_setCell] at sy1 | rw [World.size_drew] at sy1)); have : w.heap.size < y1.now.heap.size := (by omega); have : w.heap.size ≤ y1.now.heap.size := (by omega); have : w.heap.size < y1.now.heap.size + 1 + 1 := (by omega); have : w.heap.size + 1 < y1.now.heap.size := (by omega); have : w.heap.size + 1 ≤ y1.now.heap.size := (by omega); have : w.heap.size + 1 < y1.now.heap.size + 1 + 1 := (by omega); have : w.heap.size + 1 + 1 < y1.now.heap.size := (by omega); have : w.heap.size + 1 + 1 ≤ y1.now.heap.size := (by omega); have : w.heap.size + 1 + 1 < y1.now.heap.size + 1 + 1 := (by omega)))
      go_returns
      refine ⟨rfl, ?_⟩
      repeat' (first | (with_reducible exact Below.refl _ _) | (with_reducible assumption) | (with_reducible refine Ext.below _ ?_ ?_) | (with_reducible refine Below.on ?_ (by with_reducible assumption) ?_) | (with_reducible refine Below.alloc ?_ ?_ _) | (with_reducible refine Below.drew ?_) | (with_reducible refine Below.setCell ?_ ?_ _) | (with_reducible exact Nat.le_refl _) | omega | (simp; done) | (simp [go_sem]; done) | (simp at *; omega))
    · have hi : inB c d 0 = false := by unfold inB; rw [h1.2]; simpa using h3
      have cc : ∀ x y, (x = a ∨ x = b) → (y = c ∨ y = d) → Num x ∧ Num y ∧ y ≠ 0 ∧ ovB x y = true := by
        intro x y hx hy
        have n1 : Num x := by unfold Num; rcases hx with rfl | rfl <;> omega
        have n2 : Num y := by unfold Num; rcases hy with rfl | rfl <;> omega
        have n3 : y ≠ 0 := by rcases hy with rfl | rfl <;> omega
        exact ⟨n1, n2, n3, (ov_small n3 n1.1 n1.2).1⟩
      have m1 := (min_num (d := ovD) (fun x y hx hy => (ov_small (cc x y hx hy).2.2.1 (cc x y hx hy).1.1 (cc x y hx hy).1.2).2.1)).1
      have m2 := (min_num (d := ovU) (fun x y hx hy => (ov_small (cc x y hx hy).2.2.1 (cc x y hx hy).1.1 (cc x y hx hy).1.2).2.2)).2
      have e0 : cmbE ovD ovU a b c d = 0 := by unfold cmbE; rw [if_pos h, m1, m2]; rfl
      have e : quoE a b c d = 0 := by unfold quoE; rw [if_pos h, hi]; simpa using e0
      have e1 : quoL a b c d = rmn ovD a b c d 4 := by unfold quoL; rw [if_pos e]; unfold cmbL; rw [if_pos e0, rmn_eq]
      have e2 : quoH a b c d = rmx ovU a b c d 4 := by unfold quoH; rw [if_pos e]; unfold cmbH; rw [if_pos e0, rmx_eq]
      rw [e, e1, e2]
      have CO := Go.Lib.hid (fun W => corners_over a b c d W cc)
      have g : c ≤ 0 → d < 0 := by intro; omega
      clear e e0 e1 e2 m1 m2 cc hi k1 k2 h1 h3
      by_cases g1 : c ≤ 0
      · have g2 := g g1
        have g3 : (0 ≤ d) = False := by simp; omega
        clear g
        go_enter Try.func48, Try.ntmps48
        go_wp2_with (first | ((first | with_reducible refine wp_region_ext2 (by kernel_rfl) (by kernel_rfl) ?_ | with_reducible refine wp_region_ext (by kernel_rfl) (by kernel_rfl) ?_); (repeat (first | go_big_quiet_step ((first | (go_at_call 74; with_reducible exact Calls.ext (both_any _ _ _ _ _)) | (go_at_call 84; with_reducible exact Calls.ext (CO.out _)))) | quiet_step ((first | (go_at_call 74; with_reducible exact Calls.ext (both_any _ _ _ _ _)) | (go_at_call 84; with_reducible exact Calls.ext (CO.out _)))))); refine wpQuiet_nil ?_; rintro _ ⟨yr, rfl⟩; have syr := Ext.size yr; (repeat (first | rw [World.size_alloc] at syr | rw [World.size_setCell] at syr | rw [World.size_drew] at syr)); have : w.heap.size < yr.now.heap.size := (by omega); have : w.heap.size ≤ yr.now.heap.size := (by omega); have : w.heap.size < yr.now.heap.size + 1 + 1 := (by omega); have : w.heap.size + 1 < yr.now.heap.size := (by omega); have : w.heap.size + 1 ≤ yr.now.heap.size := (by omega); have : w.heap.size + 1 < yr.now.heap.size + 1 + 1 := (by omega); have : w.heap.size + 1 + 1 < yr.now.heap.size := (by omega); have : w.heap.size + 1 + 1 ≤ yr.now.heap.size := (by omega); have : w.heap.size + 1 + 1 < yr.now.heap.size + 1 + 1 := (by omega)) | (go_at_call 74; (first | with_reducible refine (Calls.giv2 (both_any _ _ _ _ _)).mono ?_ | with_reducible refine (Calls.giv (both_any _ _ _ _ _)).mono ?_); rintro _ _ ⟨y1, rfl, rfl⟩; have sy1 := Ext.size y1; (repeat (first | rw [World.size_alloc] at sy1 | rw [World.size_setCell] at sy1 | rw [World.size_drew] at sy1)); have : w.heap.size < y1.now.heap.size := (by omega); have : w.heap.size ≤ y1.now.heap.size := (by omega); have : w.heap.size < y1.now.heap.size + 1 + 1 := (by omega); have : w.heap.size + 1 < y1.now.heap.size := (by omega); have : w.heap.size + 1 ≤ y1.now.heap.size := (by omega); have : w.heap.size + 1 < y1.now.heap.size + 1 + 1 := (by omega); have : w.heap.size + 1 + 1 < y1.now.heap.size := (by omega); have : w.heap.size + 1 + 1 ≤ y1.now.heap.size := (by omega); have : w.heap.size + 1 + 1 < y1.now.heap.size + 1 + 1 := (by omega)) | (go_at_call 84; (first | with_reducible refine (Calls.giv2 (CO.out _)).mono ?_ | with_reducible refine (Calls.giv (CO.out _)).mono ?_); rintro _ _ ⟨y2, rfl, rfl⟩; have sy2 := Ext.size y2; (repeat (first | rw [World.size_alloc] at sy2 | rw [World.size_setCell] at sy2 | rw [World.size_drew] at sy2)); have : w.heap.size < y2.now.heap.size := (by omega); have : w.heap.size ≤ y2.now.heap.size := (by omega); have : w.heap.size < y2.now.heap.size + 1 + 1 := (by omega); have : w.heap.size + 1 < y2.now.heap.size := (by omega); have : w.heap.size + 1 ≤ y2.now.heap.size := (by omega); have : w.heap.size + 1 < y2.now.heap.size + 1 + 1 := (by omega); have : w.heap.size + 1 + 1 < y2.now.heap.size := (by omega); have : w.heap.size + 1 + 1 ≤ y2.now.heap.size := (by omega); have : w.heap.size + 1 + 1 < y2.now.heap.size + 1 + 1 := (by omega)))
        go_returns
        refine ⟨rfl, ?_⟩
        repeat' (first | (with_reducible exact Below.refl _ _) | (with_reducible assumption) | (with_reducible refine Ext.below _ ?_ ?_) | (with_reducible refine Below.on ?_ (by with_reducible assumption) ?_) | (with_reducible refine Below.alloc ?_ ?_ _) | (with_reducible refine Below.drew ?_) | (with_reducible refine Below.setCell ?_ ?_ _) | (with_reducible exact Nat.le_refl _) | omega | (simp; done) | (simp [go_sem]; done) | (simp at *; omega))
      · clear g
        have g2 : 0 < c := by omega
        go_enter Try.func48, Try.ntmps48
        go_wp2_with (first | ((first | with_reducible refine wp_region_ext2 (by kernel_rfl) (by kernel_rfl) ?_ | with_reducible refine wp_region_ext (by kernel_rfl) (by kernel_rfl) ?_); (repeat (first | go_big_quiet_step ((first | (go_at_call 74; with_reducible exact Calls.ext (both_any _ _ _ _ _)) | (go_at_call 84; with_reducible exact Calls.ext (CO.out _)))) | quiet_step ((first | (go_at_call 74; with_reducible exact Calls.ext (both_any _ _ _ _ _)) | (go_at_call 84; with_reducible exact Calls.ext (CO.out _)))))); refine wpQuiet_nil ?_; rintro _ ⟨yr, rfl⟩; have syr := Ext.size yr; (repeat (first | rw [World.size_alloc] at syr | rw [World.size_setCell] at syr | rw [World.size_drew] at syr)); have : w.heap.size < yr.now.heap.size := (by omega); have : w.heap.size ≤ yr.now.heap.size := (by omega); have : w.heap.size < yr.now.heap.size + 1 + 1 := (by omega); have : w.heap.size + 1 < yr.now.heap.size := (by omega); have : w.heap.size + 1 ≤ yr.now.heap.size := (by omega); have : w.heap.size + 1 < yr.now.heap.size + 1 + 1 := (by omega); have : w.heap.size + 1 + 1 < yr.now.heap.size := (by omega); have : w.heap.size + 1 + 1 ≤ yr.now.heap.size := (by omega); have : w.heap.size + 1 + 1 < yr.now.heap.size + 1 + 1 := (by omega)) | (go_at_call 74; (first | with_reducible refine (Calls.giv2 (both_any _ _ _ _ _)).mono ?_ | with_reducible refine (Calls.giv (both_any _ _ _ _ _)).mono ?_); rintro _ _ ⟨y1, rfl, rfl⟩; have sy1 := Ext.size y1; (repeat (first | rw [World.size_alloc] at sy1 | rw [World.size_setCell] at sy1 | rw [World.size_drew] at sy1)); have : w.heap.size < y1.now.heap.size := (by omega); have : w.heap.size ≤ y1.now.heap.size := (by omega); have : w.heap.size < y1.now.heap.size + 1 + 1 := (by omega); have : w.heap.size + 1 < y1.now.heap.size := (by omega); have : w.heap.size + 1 ≤ y1.now.heap.size := (by omega); have : w.heap.size + 1 < y1.now.heap.size + 1 + 1 := (by omega); have : w.heap.size + 1 + 1 < y1.now.heap.size := (by omega); have : w.heap.size + 1 + 1 ≤ y1.now.heap.size := (by omega); have : w.heap.size + 1 + 1 < y1.now.heap.size + 1 + 1 := (by omega)) | (go_at_call 84; (first | with_reducible refine (Calls.giv2 (CO.out _)).mono ?_ | with_reducible refine (Calls.giv (CO.out _)).mono ?_); rintro _ _ ⟨y2, rfl, rfl⟩; have sy2 := Ext.size y2; (repeat (first | rw [World.size_alloc] at sy2 | rw [World.size_setCell] at sy2 | rw [World.size_drew] at sy2)); have : w.heap.size < y2.now.heap.size := (by omega); have : w.heap.size ≤ y2.now.heap.size := (by omega); have : w.heap.size < y2.now.heap.size + 1 + 1 := (by omega); have : w.heap.size + 1 < y2.now.heap.size := (by omega); have : w.heap.size + 1 ≤ y2.now.heap.size := (by omega); have : w.heap.size + 1 < y2.now.heap.size + 1 + 1 := (by omega); have : w.heap.size + 1 + 1 < y2.now.heap.size := (by omega); have : w.heap.size + 1 + 1 ≤ y2.now.heap.size := (by omega); have : w.heap.size + 1 + 1 < y2.now.heap.size + 1 + 1 := (by omega)))
        go_returns
        refine ⟨rfl, ?_⟩
        repeat' (first | (with_reducible exact Below.refl _ _) | (with_reducible assumption) | (with_reducible refine Ext.below _ ?_ ?_) | (with_reducible refine Below.on ?_ (by with_reducible assumption) ?_) | (with_reducible refine Below.alloc ?_ ?_ _) | (with_reducible refine Below.drew ?_) | (with_reducible refine Below.setCell ?_ ?_ _) | (with_reducible exact Nat.le_refl _) | omega | (simp; done) | (simp [go_sem]; done) | (simp at *; omega))
  · have e : quoE a b c d = chkB a b c d := by unfold quoE; rw [if_neg h]
    unfold quoL quoH
    rw [e]
    simp only [h, if_false]
    have h' : (chkB a b c d != 0) = true := by simpa using h
    clear e
    go_enter Try.func48, Try.ntmps48
    go_wp2_with (first | ((first | with_reducible refine wp_region_ext2 (by kernel_rfl) (by kernel_rfl) ?_ | with_reducible refine wp_region_ext (by kernel_rfl) (by kernel_rfl) ?_); (repeat (first | go_big_quiet_step ((first | (go_at_call 74; with_reducible exact Calls.ext (both_any _ _ _ _ _)))) | quiet_step ((first | (go_at_call 74; with_reducible exact Calls.ext (both_any _ _ _ _ _)))))); refine wpQuiet_nil ?_; rintro _ ⟨yr, rfl⟩; have syr := Ext.size yr; (repeat (first | rw [World.size_alloc] at syr | rw [World.size_setCell] at syr | rw [World.size_drew] at syr)); have : w.heap.size < yr.now.heap.size := (by omega); have : w.heap.size ≤ yr.now.heap.size := (by omega); have : w.heap.size < yr.now.heap.size + 1 + 1 := (by omega); have : w.heap.size + 1 < yr.now.heap.size := (by omega); have : w.heap.size + 1 ≤ yr.now.heap.size := (by omega); have : w.heap.size + 1 < yr.now.heap.size + 1 + 1 := (by omega); have : w.heap.size + 1 + 1 < yr.now.heap.size := (by omega); have : w.heap.size + 1 + 1 ≤ yr.now.heap.size := (by omega); have : w.heap.size + 1 + 1 < yr.now.heap.size + 1 + 1 := (by omega)) | (go_at_call 74; (first | with_reducible refine (Calls.giv2 (both_any _ _ _ _ _)).mono ?_ | with_reducible refine (Calls.giv (both_any _ _ _ _ _)).mono ?_); rintro _ _ ⟨y1, rfl, rfl⟩; have sy1 := Ext.size y1; (repeat (first | rw [World.size_alloc] at sy1 | rw [World.size_setCell] at sy1 | rw [World.size_drew] at sy1)); have : w.heap.size < y1.now.heap.size := (by omega); have : w.heap.size ≤ y1.now.heap.size := (by omega); have : w.heap.size < y1.now.heap.size + 1 + 1 := (by omega); have : w.heap.size + 1 < y1.now.heap.size := (by omega); have : w.heap.size + 1 ≤ y1.now.heap.size := (by omega); have : w.heap.size + 1 < y1.now.heap.size + 1 + 1 := (by omega); have : w.heap.size + 1 + 1 < y1.now.heap.size := (by omega); have : w.heap.size + 1 + 1 ≤ y1.now.heap.size := (by omega); have : w.heap.size + 1 + 1 < y1.now.heap.size + 1 + 1 := (by omega)))
    go_returns
    refine ⟨rfl, ?_⟩
    repeat' (first | (with_reducible exact Below.refl _ _) | (with_reducible assumption) | (with_reducible refine Ext.below _ ?_ ?_) | (with_reducible refine Below.on ?_ (by with_reducible assumption) ?_) | (with_reducible refine Below.alloc ?_ ?_ _) | (with_reducible refine Below.drew ?_) | (with_reducible refine Below.setCell ?_ ?_ _) | (with_reducible exact Nat.le_refl _) | omega | (simp; done) | (simp [go_sem]; done) | (simp at *; omega))
end Go.Proofs.Ytnhdepdbggcnpab

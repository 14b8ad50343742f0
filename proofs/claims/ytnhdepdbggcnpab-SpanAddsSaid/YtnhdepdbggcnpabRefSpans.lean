/- Contracts of the reference's plain functions on spans and areas. No condition. -/
import Derived.Test.YtnhdepdbggcnpabRefPlane
import Derived.Test.YtnhdepdbggcnpabSpans
import Derived.Test.YtnhdepdbggcnpabRoots
namespace Go.Proofs.Ytnhdepdbggcnpab
open Go.RowKit Go.Shelf
attribute [local go_sem] Ext.cell Ext.frozen Ext.lt Ext.le Ext.lt_add Ext.le_add Ext.ne Ext.ne' lt2 lt3 lt4 lt5 le2 le3 le4
theorem btwB_num (n : Int) : btwB n (-1152921504606846976) 1152921504606846976 = numB n := by unfold btwB numB; rw [Bool.eq_iff_iff]; simp
theorem fits_any (n : Int) (w : World) : Calls Try.prog 76 #[.int .i64 n] w (Gives (.bool (numB n)) w) := by
  rw [← btwB_num]
  go_enter Try.func76, Try.ntmps76
  go_wp2_with (first | ((first | with_reducible refine wp_region_ext2 (by kernel_rfl) (by kernel_rfl) ?_ | with_reducible refine wp_region_ext (by kernel_rfl) (by kernel_rfl) ?_); (repeat (first | go_big_quiet_step ((first | (go_at_call 67; with_reducible exact Calls.ext (between_any _ _ _ _)))) | quiet_step ((first | (go_at_call 67; with_reducible exact Calls.ext (between_any _ _ _ _)))))); refine wpQuiet_nil ?_; rintro _ ⟨yr, rfl⟩; have syr := Ext.size yr; (repeat (first | rw [World.size_alloc] at syr | rw [World.size_setCell] at syr | rw [World.size_drew] at syr))) | (go_at_call 67; (first | with_reducible refine (Calls.giv2 (between_any _ _ _ _)).mono ?_ | with_reducible refine (Calls.giv (between_any _ _ _ _)).mono ?_); rintro _ _ ⟨y1, rfl, rfl⟩; have sy1 := Ext.size y1; (repeat (first | rw [World.size_alloc] at sy1 | rw [World.size_setCell] at sy1 | rw [World.size_drew] at sy1))))
  go_returns
  refine ⟨rfl, ?_⟩
  repeat' (first | (with_reducible exact Below.refl _ _) | (with_reducible assumption) | (with_reducible refine Ext.below _ ?_ ?_) | (with_reducible refine Below.on ?_ (by with_reducible assumption) ?_) | (with_reducible refine Below.alloc ?_ ?_ _) | (with_reducible refine Below.drew ?_) | (with_reducible refine Below.setCell ?_ ?_ _) | (with_reducible exact Nat.le_refl _) | omega | (simp; done) | (simp [go_sem]; done) | (simp at *; omega))
theorem refCheck_any (lo hi : Int) (w : World) : Calls Try.prog 30 #[.agg #[.int .i64 lo, .int .i64 hi]] w (Gives (.int .i64 (chk lo hi)) w) := by
  unfold chk
  cases h1 : numB lo <;> cases h2 : numB hi <;> by_cases h5 : lo ≤ hi
  all_goals
    simp only [h5, Bool.and_self, Bool.and_true, Bool.and_false, if_true, if_false, Bool.false_eq_true]
    go_enter Try.func30, Try.ntmps30
    go_wp2_with (first | ((first | with_reducible refine wp_region_ext2 (by kernel_rfl) (by kernel_rfl) ?_ | with_reducible refine wp_region_ext (by kernel_rfl) (by kernel_rfl) ?_); (repeat (first | go_big_quiet_step ((first | (go_at_call 76; with_reducible exact Calls.ext (fits_any _ _)))) | quiet_step ((first | (go_at_call 76; with_reducible exact Calls.ext (fits_any _ _)))))); refine wpQuiet_nil ?_; rintro _ ⟨yr, rfl⟩; have syr := Ext.size yr; (repeat (first | rw [World.size_alloc] at syr | rw [World.size_setCell] at syr | rw [World.size_drew] at syr))) | (go_at_call 76; (first | with_reducible refine (Calls.giv2 (fits_any _ _)).mono ?_ | with_reducible refine (Calls.giv (fits_any _ _)).mono ?_); rintro _ _ ⟨y1, rfl, rfl⟩; have sy1 := Ext.size y1; (repeat (first | rw [World.size_alloc] at sy1 | rw [World.size_setCell] at sy1 | rw [World.size_drew] at sy1))))
    go_returns
    refine ⟨rfl, ?_⟩
    repeat' (first | (with_reducible exact Below.refl _ _) | (with_reducible assumption) | (with_reducible refine Ext.below _ ?_ ?_) | (with_reducible refine Below.on ?_ (by with_reducible assumption) ?_) | (with_reducible refine Below.alloc ?_ ?_ _) | (with_reducible refine Below.drew ?_) | (with_reducible refine Below.setCell ?_ ?_ _) | (with_reducible exact Nat.le_refl _) | omega | (simp; done) | (simp [go_sem]; done) | (simp at *; omega))
theorem both_any (a b c d : Int) (w : World) : Calls Try.prog 74 #[.agg #[.int .i64 a, .int .i64 b], .agg #[.int .i64 c, .int .i64 d]] w (Gives (.int .i64 (chkB a b c d)) w) := by
  unfold chkB
  by_cases h : chk a b = 0
  · rw [if_pos h]
    go_enter Try.func74, Try.ntmps74
    go_wp2_with (first | ((first | with_reducible refine wp_region_ext2 (by kernel_rfl) (by kernel_rfl) ?_ | with_reducible refine wp_region_ext (by kernel_rfl) (by kernel_rfl) ?_); (repeat (first | go_big_quiet_step ((first | (go_at_call 30; with_reducible exact Calls.ext (refCheck_any _ _ _)))) | quiet_step ((first | (go_at_call 30; with_reducible exact Calls.ext (refCheck_any _ _ _)))))); refine wpQuiet_nil ?_; rintro _ ⟨yr, rfl⟩; have syr := Ext.size yr; (repeat (first | rw [World.size_alloc] at syr | rw [World.size_setCell] at syr | rw [World.size_drew] at syr))) | (go_at_call 30; (first | with_reducible refine (Calls.giv2 (refCheck_any _ _ _)).mono ?_ | with_reducible refine (Calls.giv (refCheck_any _ _ _)).mono ?_); rintro _ _ ⟨y1, rfl, rfl⟩; have sy1 := Ext.size y1; (repeat (first | rw [World.size_alloc] at sy1 | rw [World.size_setCell] at sy1 | rw [World.size_drew] at sy1))))
    go_returns
    refine ⟨rfl, ?_⟩
    repeat' (first | (with_reducible exact Below.refl _ _) | (with_reducible assumption) | (with_reducible refine Ext.below _ ?_ ?_) | (with_reducible refine Below.on ?_ (by with_reducible assumption) ?_) | (with_reducible refine Below.alloc ?_ ?_ _) | (with_reducible refine Below.drew ?_) | (with_reducible refine Below.setCell ?_ ?_ _) | (with_reducible exact Nat.le_refl _) | omega | (simp; done) | (simp [go_sem]; done) | (simp at *; omega))
  · rw [if_neg h]
    have h' : (chk a b != 0) = true := by simpa using h
    go_enter Try.func74, Try.ntmps74
    go_wp2_with (first | ((first | with_reducible refine wp_region_ext2 (by kernel_rfl) (by kernel_rfl) ?_ | with_reducible refine wp_region_ext (by kernel_rfl) (by kernel_rfl) ?_); (repeat (first | go_big_quiet_step ((first | (go_at_call 30; with_reducible exact Calls.ext (refCheck_any _ _ _)))) | quiet_step ((first | (go_at_call 30; with_reducible exact Calls.ext (refCheck_any _ _ _)))))); refine wpQuiet_nil ?_; rintro _ ⟨yr, rfl⟩; have syr := Ext.size yr; (repeat (first | rw [World.size_alloc] at syr | rw [World.size_setCell] at syr | rw [World.size_drew] at syr))) | (go_at_call 30; (first | with_reducible refine (Calls.giv2 (refCheck_any _ _ _)).mono ?_ | with_reducible refine (Calls.giv (refCheck_any _ _ _)).mono ?_); rintro _ _ ⟨y1, rfl, rfl⟩; have sy1 := Ext.size y1; (repeat (first | rw [World.size_alloc] at sy1 | rw [World.size_setCell] at sy1 | rw [World.size_drew] at sy1))))
    go_returns
    refine ⟨rfl, ?_⟩
    repeat' (first | (with_reducible exact Below.refl _ _) | (with_reducible assumption) | (with_reducible refine Ext.below _ ?_ ?_) | (with_reducible refine Below.on ?_ (by with_reducible assumption) ?_) | (with_reducible refine Below.alloc ?_ ?_ _) | (with_reducible refine Below.drew ?_) | (with_reducible refine Below.setCell ?_ ?_ _) | (with_reducible exact Nat.le_refl _) | omega | (simp; done) | (simp [go_sem]; done) | (simp at *; omega))
set_option maxHeartbeats 1000000 in
theorem refRoot_pos (n : Int) (w : World) (hn0 : 0 ≤ n) (hn : n < 9223372036854775808) : Calls Try.prog 18 #[.int .i64 n] w (Gives (.int .i64 (rootI n)) w) := by
  have e : rootI n = rt n 32 0 := by unfold rootI; rw [if_neg (by omega)]
  rw [e]
  clear e
  go_enter Try.func18, Try.ntmps18
  go_wp2_with fail
  go_loop [3, 4] (fun s t => ∃ (k : Nat) (r : Int), s = .int .i64 r ∧ t = .int .i64 (rv k) ∧ k ≤ 32 ∧ 0 ≤ r ∧ r ≤ 3037000499 ∧ rt n k r = rt n 32 0) (fun _ t => (intOf t).toNat)
  case atStart => exact ⟨32, 0, rfl, rfl, by decide, by decide, by decide, rfl⟩
  case round =>
    obtain ⟨k, r, rfl, rfl, hk, h0, h1, hm⟩ := hrel
    have HM := Go.Lib.hid hm
    clear hm
    cases k with
    | zero =>
      simp only [rv]
      go_wp2_with fail
      go_returns
      refine ⟨ret_int ?_, ?_⟩
      · rw [← HM.out]; rfl
      · repeat' (first | (with_reducible exact Below.refl _ _) | (with_reducible assumption) | (with_reducible refine Ext.below _ ?_ ?_) | (with_reducible refine Below.on ?_ (by with_reducible assumption) ?_) | (with_reducible refine Below.alloc ?_ ?_ _) | (with_reducible refine Below.drew ?_) | (with_reducible refine Below.setCell ?_ ?_ _) | (with_reducible exact Nat.le_refl _) | omega | (simp; done) | (simp [go_sem]; done) | (simp at *; omega))
    | succ k =>
      have hpos : (0 : Int) < 2 ^ k := Int.pow_pos (by decide)
      have hlim : (2 : Int) ^ k ≤ 2147483648 := by
        have := Nat.pow_le_pow_right (n := 2) (by decide) (show k ≤ 31 by omega)
        have h2 : ((2 ^ k : Nat) : Int) ≤ ((2 ^ 31 : Nat) : Int) := Int.ofNat_le.2 this
        simpa using h2
      have hh := rv_half k
      have hmk : rt n (k + 1) r = if (r + 2 ^ k) * (r + 2 ^ k) ≤ n then rt n k (r + 2 ^ k) else rt n k r := rfl
      simp only [rv]
      generalize hB2 : (2 : Int) ^ k = B at *
      have HH := Go.Lib.hid hh; have HB2 := Go.Lib.hid hB2; have HMK := Go.Lib.hid hmk
      clear hh hB2 hmk
      have sq := sq_bounds (x := r + B) (B := 5184484147) (by omega) (by omega)
      by_cases hc : r + B ≤ 3037000499
      · have sq := sq_bounds (x := r + B) (B := 3037000499) (by omega) hc
        simp only [Int.reduceMul] at sq
        obtain ⟨s1, s2⟩ := sq
        by_cases ht : (r + B) * (r + B) ≤ n
        · have HT := Go.Lib.hid ht
          go_wp2_with fail
          refine ⟨⟨k, r + B, rfl, by rw [HH.out]; cases k <;> rfl, by omega, by omega, hc, ?_⟩, by simp only [intOf]; omega⟩
          rw [← HM.out, HMK.out, if_pos HT.out]
        · have HT := Go.Lib.hid ht
          have ht' : n < (r + B) * (r + B) := by omega
          clear ht
          go_wp2_with fail
          refine ⟨⟨k, r, rfl, by rw [HH.out]; cases k <;> rfl, by omega, h0, h1, ?_⟩, by simp only [intOf]; omega⟩
          rw [← HM.out, HMK.out, if_neg HT.out]
      · have ht : ¬ (r + B) * (r + B) ≤ n := by
          have := Int.mul_le_mul (show (3037000500 : Int) ≤ r + B by omega) (show (3037000500 : Int) ≤ r + B by omega) (by decide) (by omega)
          omega
        have HT := Go.Lib.hid ht
        have hc' : 3037000499 < r + B := by omega
        clear ht hc
        go_wp2_with fail
        refine ⟨⟨k, r, rfl, by rw [HH.out]; cases k <;> rfl, by omega, h0, h1, ?_⟩, by simp only [intOf]; omega⟩
        rw [← HM.out, HMK.out, if_neg HT.out]
theorem refRoot_any (n : Int) (w : World) (h : I64 n) : Calls Try.prog 18 #[.int .i64 n] w (Gives (.int .i64 (rootI n)) w) := by
  unfold I64 at h
  rcases Int.lt_or_le n 0 with h0 | h0
  · have e : rootI n = -1 := by unfold rootI; rw [if_pos h0]
    rw [e]
    clear e
    go_enter Try.func18, Try.ntmps18
    go_wp2_with (first | ((first | with_reducible refine wp_region_ext2 (by kernel_rfl) (by kernel_rfl) ?_ | with_reducible refine wp_region_ext (by kernel_rfl) (by kernel_rfl) ?_); (repeat (first | go_big_quiet_step ((first | fail)) | quiet_step ((first | fail)))); refine wpQuiet_nil ?_; rintro _ ⟨yr, rfl⟩; have syr := Ext.size yr; (repeat (first | rw [World.size_alloc] at syr | rw [World.size_setCell] at syr | rw [World.size_drew] at syr))))
    go_returns
    refine ⟨rfl, ?_⟩
    repeat' (first | (with_reducible exact Below.refl _ _) | (with_reducible assumption) | (with_reducible refine Ext.below _ ?_ ?_) | (with_reducible refine Below.on ?_ (by with_reducible assumption) ?_) | (with_reducible refine Below.alloc ?_ ?_ _) | (with_reducible refine Below.drew ?_) | (with_reducible refine Below.setCell ?_ ?_ _) | (with_reducible exact Nat.le_refl _) | omega | (simp; done) | (simp [go_sem]; done) | (simp at *; omega))
  · exact refRoot_pos n w h0 h.2
theorem refRoots_any (a b : Int) (w : World) : Calls Try.prog 16 #[.agg #[.int .i64 a, .int .i64 b]] w (Gives (.tuple #[.agg #[.int .i64 (rootsL a b), .int .i64 (rootsH a b)], .int .i64 (rootsE a b)]) w) := by
  unfold rootsL rootsH rootsE
  by_cases h : chk a b = 0
  · simp only [h, if_true]
    obtain ⟨c1, c2, c3⟩ := (chk_ok a b).1 h
    by_cases h2 : a < 0
    · simp only [h2, if_true]
      simp only [show ((2 : Int) = 0) = False by decide, if_false]
      go_enter Try.func16, Try.ntmps16
      go_wp2_with (first | ((first | with_reducible refine wp_region_ext2 (by kernel_rfl) (by kernel_rfl) ?_ | with_reducible refine wp_region_ext (by kernel_rfl) (by kernel_rfl) ?_); (repeat (first | go_big_quiet_step ((first | (go_at_call 30; with_reducible exact Calls.ext (refCheck_any _ _ _)))) | quiet_step ((first | (go_at_call 30; with_reducible exact Calls.ext (refCheck_any _ _ _)))))); refine wpQuiet_nil ?_; rintro _ ⟨yr, rfl⟩; have syr := Ext.size yr; (repeat (first | rw [World.size_alloc] at syr | rw [World.size_setCell] at syr | rw [World.size_drew] at syr)); have : w.heap.size < yr.now.heap.size := (by omega); have : w.heap.size ≤ yr.now.heap.size := (by omega); have : w.heap.size < yr.now.heap.size + 1 + 1 := (by omega); have : w.heap.size + 1 < yr.now.heap.size := (by omega); have : w.heap.size + 1 ≤ yr.now.heap.size := (by omega); have : w.heap.size + 1 < yr.now.heap.size + 1 + 1 := (by omega)) | (go_at_call 30; (first | with_reducible refine (Calls.giv2 (refCheck_any _ _ _)).mono ?_ | with_reducible refine (Calls.giv (refCheck_any _ _ _)).mono ?_); rintro _ _ ⟨y1, rfl, rfl⟩; have sy1 := Ext.size y1; (repeat (first | rw [World.size_alloc] at sy1 | rw [World.size_setCell] at sy1 | rw [World.size_drew] at sy1)); have : w.heap.size < y1.now.heap.size := (by omega); have : w.heap.size ≤ y1.now.heap.size := (by omega); have : w.heap.size < y1.now.heap.size + 1 + 1 := (by omega); have : w.heap.size + 1 < y1.now.heap.size := (by omega); have : w.heap.size + 1 ≤ y1.now.heap.size := (by omega); have : w.heap.size + 1 < y1.now.heap.size + 1 + 1 := (by omega)))
      go_returns
      refine ⟨rfl, ?_⟩
      repeat' (first | (with_reducible exact Below.refl _ _) | (with_reducible assumption) | (with_reducible refine Ext.below _ ?_ ?_) | (with_reducible refine Below.on ?_ (by with_reducible assumption) ?_) | (with_reducible refine Below.alloc ?_ ?_ _) | (with_reducible refine Below.drew ?_) | (with_reducible refine Below.setCell ?_ ?_ _) | (with_reducible exact Nat.le_refl _) | omega | (simp; done) | (simp [go_sem]; done) | (simp at *; omega))
    · simp only [h2, if_false, if_true]
      have i1 : I64 a := by unfold I64; omega
      have i2 : I64 b := by unfold I64; omega
      obtain ⟨s1, s2⟩ := rootI_small (n := b) (by omega) (by omega)
      have sq := sq_bounds (x := rootI b) (B := 1073741824) (by omega) s2
      simp only [Int.reduceMul] at sq
      obtain ⟨q1, q2⟩ := sq
      have ra := Go.Lib.hid (fun W => refRoot_any a W i1)
      have rb := Go.Lib.hid (fun W => refRoot_any b W i2)
      unfold rootU
      generalize rootI a = x at *
      generalize rootI b = y at *
      by_cases h3 : y * y < b
      · rw [if_pos h3]
        go_enter Try.func16, Try.ntmps16
        go_wp2_with (first | ((first | with_reducible refine wp_region_ext2 (by kernel_rfl) (by kernel_rfl) ?_ | with_reducible refine wp_region_ext (by kernel_rfl) (by kernel_rfl) ?_); (repeat (first | go_big_quiet_step ((first | (go_at_call 30; with_reducible exact Calls.ext (refCheck_any _ _ _)) | (go_at_call 18; with_reducible exact Calls.ext (ra.out _)) | (go_at_call 18; with_reducible exact Calls.ext (rb.out _)))) | quiet_step ((first | (go_at_call 30; with_reducible exact Calls.ext (refCheck_any _ _ _)) | (go_at_call 18; with_reducible exact Calls.ext (ra.out _)) | (go_at_call 18; with_reducible exact Calls.ext (rb.out _)))))); refine wpQuiet_nil ?_; rintro _ ⟨yr, rfl⟩; have syr := Ext.size yr; (repeat (first | rw [World.size_alloc] at syr | rw [World.size_setCell] at syr | rw [World.size_drew] at syr)); have : w.heap.size < yr.now.heap.size := (by omega); have : w.heap.size ≤ yr.now.heap.size := (by omega); have : w.heap.size < yr.now.heap.size + 1 + 1 := (by omega); have : w.heap.size + 1 < yr.now.heap.size := (by omega); have : w.heap.size + 1 ≤ yr.now.heap.size := (by omega); have : w.heap.size + 1 < yr.now.heap.size + 1 + 1 := (by omega)) | (go_at_call 30; (first | with_reducible refine (Calls.giv2 (refCheck_any _ _ _)).mono ?_ | with_reducible refine (Calls.giv (refCheck_any _ _ _)).mono ?_); rintro _ _ ⟨y1, rfl, rfl⟩; have sy1 := Ext.size y1; (repeat (first | rw [World.size_alloc] at sy1 | rw [World.size_setCell] at sy1 | rw [World.size_drew] at sy1)); have : w.heap.size < y1.now.heap.size := (by omega); have : w.heap.size ≤ y1.now.heap.size := (by omega); have : w.heap.size < y1.now.heap.size + 1 + 1 := (by omega); have : w.heap.size + 1 < y1.now.heap.size := (by omega); have : w.heap.size + 1 ≤ y1.now.heap.size := (by omega); have : w.heap.size + 1 < y1.now.heap.size + 1 + 1 := (by omega)) | (go_at_call 18; (first | with_reducible refine (Calls.giv2 (ra.out _)).mono ?_ | with_reducible refine (Calls.giv (ra.out _)).mono ?_); rintro _ _ ⟨y2, rfl, rfl⟩; have sy2 := Ext.size y2; (repeat (first | rw [World.size_alloc] at sy2 | rw [World.size_setCell] at sy2 | rw [World.size_drew] at sy2)); have : w.heap.size < y2.now.heap.size := (by omega); have : w.heap.size ≤ y2.now.heap.size := (by omega); have : w.heap.size < y2.now.heap.size + 1 + 1 := (by omega); have : w.heap.size + 1 < y2.now.heap.size := (by omega); have : w.heap.size + 1 ≤ y2.now.heap.size := (by omega); have : w.heap.size + 1 < y2.now.heap.size + 1 + 1 := (by omega)) | (go_at_call 18; (first | with_reducible refine (Calls.giv2 (rb.out _)).mono ?_ | with_reducible refine (Calls.giv (rb.out _)).mono ?_); rintro _ _ ⟨y3, rfl, rfl⟩; have sy3 := Ext.size y3; (repeat (first | rw [World.size_alloc] at sy3 | rw [World.size_setCell] at sy3 | rw [World.size_drew] at sy3)); have : w.heap.size < y3.now.heap.size := (by omega); have : w.heap.size ≤ y3.now.heap.size := (by omega); have : w.heap.size < y3.now.heap.size + 1 + 1 := (by omega); have : w.heap.size + 1 < y3.now.heap.size := (by omega); have : w.heap.size + 1 ≤ y3.now.heap.size := (by omega); have : w.heap.size + 1 < y3.now.heap.size + 1 + 1 := (by omega)))
        go_returns
        refine ⟨rfl, ?_⟩
        repeat' (first | (with_reducible exact Below.refl _ _) | (with_reducible assumption) | (with_reducible refine Ext.below _ ?_ ?_) | (with_reducible refine Below.on ?_ (by with_reducible assumption) ?_) | (with_reducible refine Below.alloc ?_ ?_ _) | (with_reducible refine Below.drew ?_) | (with_reducible refine Below.setCell ?_ ?_ _) | (with_reducible exact Nat.le_refl _) | omega | (simp; done) | (simp [go_sem]; done) | (simp at *; omega))
      · rw [if_neg h3]
        go_enter Try.func16, Try.ntmps16
        go_wp2_with (first | ((first | with_reducible refine wp_region_ext2 (by kernel_rfl) (by kernel_rfl) ?_ | with_reducible refine wp_region_ext (by kernel_rfl) (by kernel_rfl) ?_); (repeat (first | go_big_quiet_step ((first | (go_at_call 30; with_reducible exact Calls.ext (refCheck_any _ _ _)) | (go_at_call 18; with_reducible exact Calls.ext (ra.out _)) | (go_at_call 18; with_reducible exact Calls.ext (rb.out _)))) | quiet_step ((first | (go_at_call 30; with_reducible exact Calls.ext (refCheck_any _ _ _)) | (go_at_call 18; with_reducible exact Calls.ext (ra.out _)) | (go_at_call 18; with_reducible exact Calls.ext (rb.out _)))))); refine wpQuiet_nil ?_; rintro _ ⟨yr, rfl⟩; have syr := Ext.size yr; (repeat (first | rw [World.size_alloc] at syr | rw [World.size_setCell] at syr | rw [World.size_drew] at syr)); have : w.heap.size < yr.now.heap.size := (by omega); have : w.heap.size ≤ yr.now.heap.size := (by omega); have : w.heap.size < yr.now.heap.size + 1 + 1 := (by omega); have : w.heap.size + 1 < yr.now.heap.size := (by omega); have : w.heap.size + 1 ≤ yr.now.heap.size := (by omega); have : w.heap.size + 1 < yr.now.heap.size + 1 + 1 := (by omega)) | (go_at_call 30; (first | with_reducible refine (Calls.giv2 (refCheck_any _ _ _)).mono ?_ | with_reducible refine (Calls.giv (refCheck_any _ _ _)).mono ?_); rintro _ _ ⟨y1, rfl, rfl⟩; have sy1 := Ext.size y1; (repeat (first | rw [World.size_alloc] at sy1 | rw [World.size_setCell] at sy1 | rw [World.size_drew] at sy1)); have : w.heap.size < y1.now.heap.size := (by omega); have : w.heap.size ≤ y1.now.heap.size := (by omega); have : w.heap.size < y1.now.heap.size + 1 + 1 := (by omega); have : w.heap.size + 1 < y1.now.heap.size := (by omega); have : w.heap.size + 1 ≤ y1.now.heap.size := (by omega); have : w.heap.size + 1 < y1.now.heap.size + 1 + 1 := (by omega)) | (go_at_call 18; (first | with_reducible refine (Calls.giv2 (ra.out _)).mono ?_ | with_reducible refine (Calls.giv (ra.out _)).mono ?_); rintro _ _ ⟨y2, rfl, rfl⟩; have sy2 := Ext.size y2; (repeat (first | rw [World.size_alloc] at sy2 | rw [World.size_setCell] at sy2 | rw [World.size_drew] at sy2)); have : w.heap.size < y2.now.heap.size := (by omega); have : w.heap.size ≤ y2.now.heap.size := (by omega); have : w.heap.size < y2.now.heap.size + 1 + 1 := (by omega); have : w.heap.size + 1 < y2.now.heap.size := (by omega); have : w.heap.size + 1 ≤ y2.now.heap.size := (by omega); have : w.heap.size + 1 < y2.now.heap.size + 1 + 1 := (by omega)) | (go_at_call 18; (first | with_reducible refine (Calls.giv2 (rb.out _)).mono ?_ | with_reducible refine (Calls.giv (rb.out _)).mono ?_); rintro _ _ ⟨y3, rfl, rfl⟩; have sy3 := Ext.size y3; (repeat (first | rw [World.size_alloc] at sy3 | rw [World.size_setCell] at sy3 | rw [World.size_drew] at sy3)); have : w.heap.size < y3.now.heap.size := (by omega); have : w.heap.size ≤ y3.now.heap.size := (by omega); have : w.heap.size < y3.now.heap.size + 1 + 1 := (by omega); have : w.heap.size + 1 < y3.now.heap.size := (by omega); have : w.heap.size + 1 ≤ y3.now.heap.size := (by omega); have : w.heap.size + 1 < y3.now.heap.size + 1 + 1 := (by omega)))
        go_returns
        refine ⟨rfl, ?_⟩
        repeat' (first | (with_reducible exact Below.refl _ _) | (with_reducible assumption) | (with_reducible refine Ext.below _ ?_ ?_) | (with_reducible refine Below.on ?_ (by with_reducible assumption) ?_) | (with_reducible refine Below.alloc ?_ ?_ _) | (with_reducible refine Below.drew ?_) | (with_reducible refine Below.setCell ?_ ?_ _) | (with_reducible exact Nat.le_refl _) | omega | (simp; done) | (simp [go_sem]; done) | (simp at *; omega))
  · simp only [h, if_false]
    have h' : (chk a b != 0) = true := by simpa using h
    go_enter Try.func16, Try.ntmps16
    go_wp2_with (first | ((first | with_reducible refine wp_region_ext2 (by kernel_rfl) (by kernel_rfl) ?_ | with_reducible refine wp_region_ext (by kernel_rfl) (by kernel_rfl) ?_); (repeat (first | go_big_quiet_step ((first | (go_at_call 30; with_reducible exact Calls.ext (refCheck_any _ _ _)))) | quiet_step ((first | (go_at_call 30; with_reducible exact Calls.ext (refCheck_any _ _ _)))))); refine wpQuiet_nil ?_; rintro _ ⟨yr, rfl⟩; have syr := Ext.size yr; (repeat (first | rw [World.size_alloc] at syr | rw [World.size_setCell] at syr | rw [World.size_drew] at syr)); have : w.heap.size < yr.now.heap.size := (by omega); have : w.heap.size ≤ yr.now.heap.size := (by omega); have : w.heap.size < yr.now.heap.size + 1 + 1 := (by omega); have : w.heap.size + 1 < yr.now.heap.size := (by omega); have : w.heap.size + 1 ≤ yr.now.heap.size := (by omega); have : w.heap.size + 1 < yr.now.heap.size + 1 + 1 := (by omega)) | (go_at_call 30; (first | with_reducible refine (Calls.giv2 (refCheck_any _ _ _)).mono ?_ | with_reducible refine (Calls.giv (refCheck_any _ _ _)).mono ?_); rintro _ _ ⟨y1, rfl, rfl⟩; have sy1 := Ext.size y1; (repeat (first | rw [World.size_alloc] at sy1 | rw [World.size_setCell] at sy1 | rw [World.size_drew] at sy1)); have : w.heap.size < y1.now.heap.size := (by omega); have : w.heap.size ≤ y1.now.heap.size := (by omega); have : w.heap.size < y1.now.heap.size + 1 + 1 := (by omega); have : w.heap.size + 1 < y1.now.heap.size := (by omega); have : w.heap.size + 1 ≤ y1.now.heap.size := (by omega); have : w.heap.size + 1 < y1.now.heap.size + 1 + 1 := (by omega)))
    go_returns
    refine ⟨rfl, ?_⟩
    repeat' (first | (with_reducible exact Below.refl _ _) | (with_reducible assumption) | (with_reducible refine Ext.below _ ?_ ?_) | (with_reducible refine Below.on ?_ (by with_reducible assumption) ?_) | (with_reducible refine Below.alloc ?_ ?_ _) | (with_reducible refine Below.drew ?_) | (with_reducible refine Below.setCell ?_ ?_ _) | (with_reducible exact Nat.le_refl _) | omega | (simp; done) | (simp [go_sem]; done) | (simp at *; omega))
end Go.Proofs.Ytnhdepdbggcnpab

/- Contracts of the reference's distances of segments. Condition: the places' numbers lie within their limits, where a function asks for it. Contracts of the reference's checks of spans and areas. No condition. Contract of package span's Roots. No condition but that the numbers are of 64 bits. Contracts of the reference's plain functions on spans and areas. No condition. -/
import Derived.Test.YtfjieblihbnmjaaDoorMathG
import Derived.LoopTactic
import Derived.Test.YtfjieblihbnmjaaDoorAreaG
import Derived.Test.YtfjieblihbnmjaaDoorRoot
import Derived.Test.YtfjieblihbnmjaaDoorSpans
namespace Go.Proofs.YtfjieblihbnmjaaDoor
open Go.RowKit Go.Shelf
attribute [local go_sem] Ext.cell Ext.frozen Ext.lt Ext.le Ext.lt_add Ext.le_add Ext.ne Ext.ne' lt2 lt3 lt4 lt5 le2 le3 le4
def btwB (n lo hi : Int) : Bool := decide (lo ≤ n) && decide (n ≤ hi)
theorem between_any (n lo hi : Int) (w : World) : Calls Tryd.prog 108 #[.int .i64 n, .int .i64 lo, .int .i64 hi] w (Gives (.bool (btwB n lo hi)) w) := by
  unfold btwB
  by_cases h1 : lo ≤ n
  · simp only [h1, decide_true, Bool.true_and]
    go_enter Tryd.func108, Tryd.ntmps108
    go_wp2_with (first | ((first | with_reducible refine wp_region_ext2 (by kernel_rfl) (by kernel_rfl) ?_ | with_reducible refine wp_region_ext (by kernel_rfl) (by kernel_rfl) ?_); (repeat (first | go_big_quiet_step ((first | fail)) | quiet_step ((first | fail)))); refine wpQuiet_nil ?_; rintro _ ⟨yr, rfl⟩; have syr := Ext.size yr; (repeat (first | rw [World.size_alloc] at syr | rw [World.size_setCell] at syr | rw [World.size_drew] at syr))))
    go_returns
    refine ⟨rfl, ?_⟩
    repeat' (first | (with_reducible exact Below.refl _ _) | (with_reducible assumption) | (with_reducible refine Ext.below _ ?_ ?_) | (with_reducible refine Below.on ?_ (by with_reducible assumption) ?_) | (with_reducible refine Below.alloc ?_ ?_ _) | (with_reducible refine Below.drew ?_) | (with_reducible refine Below.setCell ?_ ?_ _) | (with_reducible exact Nat.le_refl _) | omega | (simp; done) | (simp [go_sem]; done) | (simp at *; omega))
  · simp only [h1, decide_false, Bool.false_and]
    go_enter Tryd.func108, Tryd.ntmps108
    go_wp2_with (first | ((first | with_reducible refine wp_region_ext2 (by kernel_rfl) (by kernel_rfl) ?_ | with_reducible refine wp_region_ext (by kernel_rfl) (by kernel_rfl) ?_); (repeat (first | go_big_quiet_step ((first | fail)) | quiet_step ((first | fail)))); refine wpQuiet_nil ?_; rintro _ ⟨yr, rfl⟩; have syr := Ext.size yr; (repeat (first | rw [World.size_alloc] at syr | rw [World.size_setCell] at syr | rw [World.size_drew] at syr))))
    go_returns
    refine ⟨rfl, ?_⟩
    repeat' (first | (with_reducible exact Below.refl _ _) | (with_reducible assumption) | (with_reducible refine Ext.below _ ?_ ?_) | (with_reducible refine Below.on ?_ (by with_reducible assumption) ?_) | (with_reducible refine Below.alloc ?_ ?_ _) | (with_reducible refine Below.drew ?_) | (with_reducible refine Below.setCell ?_ ?_ _) | (with_reducible exact Nat.le_refl _) | omega | (simp; done) | (simp [go_sem]; done) | (simp at *; omega))
def far1 (n : Int) : Bool := btwB n (-268435456) 268435456
theorem far1_farB (x y : Int) : (far1 x && far1 y) = farB x y := by unfold far1 btwB farB; rw [Bool.eq_iff_iff]; simp; omega
theorem btwB_rad (r : Int) : btwB r 0 268435456 = radB r := by unfold btwB radB; rw [Bool.eq_iff_iff]; simp
end Go.Proofs.YtfjieblihbnmjaaDoor
namespace Go.Proofs.YtfjieblihbnmjaaDoor
open Go.RowKit Go.Shelf
attribute [local go_sem] Ext.cell Ext.frozen Ext.lt Ext.le Ext.lt_add Ext.le_add Ext.ne Ext.ne' lt2 lt3 lt4 lt5 le2 le3 le4
theorem btwB_num (n : Int) : btwB n (-1152921504606846976) 1152921504606846976 = numB n := by unfold btwB numB; rw [Bool.eq_iff_iff]; simp
theorem fits_any (n : Int) (w : World) : Calls Tryd.prog 101 #[.int .i64 n] w (Gives (.bool (numB n)) w) := by
  rw [← btwB_num]
  go_enter Tryd.func101, Tryd.ntmps101
  go_wp2_with (first | ((first | with_reducible refine wp_region_ext2 (by kernel_rfl) (by kernel_rfl) ?_ | with_reducible refine wp_region_ext (by kernel_rfl) (by kernel_rfl) ?_); (repeat (first | go_big_quiet_step ((first | (go_at_call 108; with_reducible exact Calls.ext (between_any _ _ _ _)))) | quiet_step ((first | (go_at_call 108; with_reducible exact Calls.ext (between_any _ _ _ _)))))); refine wpQuiet_nil ?_; rintro _ ⟨yr, rfl⟩; have syr := Ext.size yr; (repeat (first | rw [World.size_alloc] at syr | rw [World.size_setCell] at syr | rw [World.size_drew] at syr))) | (go_at_call 108; (first | with_reducible refine (Calls.giv2 (between_any _ _ _ _)).mono ?_ | with_reducible refine (Calls.giv (between_any _ _ _ _)).mono ?_); rintro _ _ ⟨y1, rfl, rfl⟩; have sy1 := Ext.size y1; (repeat (first | rw [World.size_alloc] at sy1 | rw [World.size_setCell] at sy1 | rw [World.size_drew] at sy1))))
  go_returns
  refine ⟨rfl, ?_⟩
  repeat' (first | (with_reducible exact Below.refl _ _) | (with_reducible assumption) | (with_reducible refine Ext.below _ ?_ ?_) | (with_reducible refine Below.on ?_ (by with_reducible assumption) ?_) | (with_reducible refine Below.alloc ?_ ?_ _) | (with_reducible refine Below.drew ?_) | (with_reducible refine Below.setCell ?_ ?_ _) | (with_reducible exact Nat.le_refl _) | omega | (simp; done) | (simp [go_sem]; done) | (simp at *; omega))
end Go.Proofs.YtfjieblihbnmjaaDoor
namespace Go.Proofs.YtfjieblihbnmjaaDoor
open Go.RowKit Go.Shelf
attribute [local go_sem] Ext.cell Ext.frozen Ext.lt Ext.le Ext.lt_add Ext.le_add Ext.ne Ext.ne' lt2 lt3 lt4 lt5 le2 le3 le4
def rootsE (a b : Int) : Int := if chk a b = 0 then (if a < 0 then 2 else 0) else chk a b
/-- The root, rounded up. -/
def rootU (n : Int) : Int := if rootI n * rootI n < n then rootI n + 1 else rootI n
def rootsL (a b : Int) : Int := if rootsE a b = 0 then rootI a else 0
def rootsH (a b : Int) : Int := if rootsE a b = 0 then rootU b else 0
theorem rootI_small {n : Int} (h0 : 0 ≤ n) (h1 : n ≤ 1152921504606846976) : 0 ≤ rootI n ∧ rootI n ≤ 1073741824 := by
  obtain ⟨a, b, _⟩ := rootI_spec h0 (by omega)
  refine ⟨a, ?_⟩
  rcases Int.lt_or_le 1073741824 (rootI n) with h | h
  · have := Int.mul_le_mul (show (1073741825 : Int) ≤ rootI n by omega) (show (1073741825 : Int) ≤ rootI n by omega) (by decide) a
    omega
  · exact h
end Go.Proofs.YtfjieblihbnmjaaDoor
namespace Go.Proofs.YtfjieblihbnmjaaDoor
open Go.RowKit Go.Shelf
attribute [local go_sem] Ext.cell Ext.frozen Ext.lt Ext.le Ext.lt_add Ext.le_add Ext.ne Ext.ne' lt2 lt3 lt4 lt5 le2 le3 le4
set_option maxHeartbeats 1000000 in
theorem refRoot_pos (n : Int) (w : World) (hn0 : 0 ≤ n) (hn : n < 9223372036854775808) : Calls Tryd.prog 69 #[.int .i64 n] w (Gives (.int .i64 (rootI n)) w) := by
  have e : rootI n = rt n 32 0 := by unfold rootI; rw [if_neg (by omega)]
  rw [e]
  clear e
  go_enter Tryd.func69, Tryd.ntmps69
  go_wp2_with fail
  go_loop [3, 4] (fun s t => ∃ (k : Nat) (r : Int), s = .int .i64 r ∧ t = .int .i64 (rv k) ∧ k ≤ 32 ∧ 0 ≤ r ∧ r ≤ 3037000499 ∧ rt n k r = rt n 32 0) (fun _ t => (intOf t).toNat)
  case atStart => exact ⟨32, 0, rfl, rfl, by decide, by decide, by decide, rfl⟩
  case round =>
    obtain ⟨k, r, rfl, rfl, hk, h0, h1, hm⟩ := hrel
    have HM := Go.Lib.hid hm
    clear hm
    cases k with
    | zero =>
      simp only [rv]
      go_wp2_with fail
      go_returns
      refine ⟨ret_int ?_, ?_⟩
      · rw [← HM.out]; rfl
      · repeat' (first | (with_reducible exact Below.refl _ _) | (with_reducible assumption) | (with_reducible refine Ext.below _ ?_ ?_) | (with_reducible refine Below.on ?_ (by with_reducible assumption) ?_) | (with_reducible refine Below.alloc ?_ ?_ _) | (with_reducible refine Below.drew ?_) | (with_reducible refine Below.setCell ?_ ?_ _) | (with_reducible exact Nat.le_refl _) | omega | (simp; done) | (simp [go_sem]; done) | (simp at *; omega))
    | succ k =>
      have hpos : (0 : Int) < 2 ^ k := Int.pow_pos (by decide)
      have hlim : (2 : Int) ^ k ≤ 2147483648 := by
        have := Nat.pow_le_pow_right (n := 2) (by decide) (show k ≤ 31 by omega)
        have h2 : ((2 ^ k : Nat) : Int) ≤ ((2 ^ 31 : Nat) : Int) := Int.ofNat_le.2 this
        simpa using h2
      have hh := rv_half k
      have hmk : rt n (k + 1) r = if (r + 2 ^ k) * (r + 2 ^ k) ≤ n then rt n k (r + 2 ^ k) else rt n k r := rfl
      simp only [rv]
      generalize hB2 : (2 : Int) ^ k = B at *
      have HH := Go.Lib.hid hh; have HB2 := Go.Lib.hid hB2; have HMK := Go.Lib.hid hmk
      clear hh hB2 hmk
      have sq := sq_bounds (x := r + B) (B := 5184484147) (by omega) (by omega)
      by_cases hc : r + B ≤ 3037000499
      · have sq := sq_bounds (x := r + B) (B := 3037000499) (by omega) hc
        simp only [Int.reduceMul] at sq
        obtain ⟨s1, s2⟩ := sq
        by_cases ht : (r + B) * (r + B) ≤ n
        · have HT := Go.Lib.hid ht
          go_wp2_with fail
          refine ⟨⟨k, r + B, rfl, by rw [HH.out]; cases k <;> rfl, by omega, by omega, hc, ?_⟩, by simp only [intOf]; omega⟩
          rw [← HM.out, HMK.out, if_pos HT.out]
        · have HT := Go.Lib.hid ht
          have ht' : n < (r + B) * (r + B) := by omega
          clear ht
          go_wp2_with fail
          refine ⟨⟨k, r, rfl, by rw [HH.out]; cases k <;> rfl, by omega, h0, h1, ?_⟩, by simp only [intOf]; omega⟩
          rw [← HM.out, HMK.out, if_neg HT.out]
      · have ht : ¬ (r + B) * (r + B) ≤ n := by
          have := Int.mul_le_mul (show (3037000500 : Int) ≤ r + B by omega) (show (3037000500 : Int) ≤ r + B by omega) (by decide) (by omega)
          omega
        have HT := Go.Lib.hid ht
        have hc' : 3037000499 < r + B := by omega
        clear ht hc
        go_wp2_with fail
        refine ⟨⟨k, r, rfl, by rw [HH.out]; cases k <;> rfl, by omega, h0, h1, ?_⟩, by simp only [intOf]; omega⟩
        rw [← HM.out, HMK.out, if_neg HT.out]
theorem refRoot_any (n : Int) (w : World) (h : I64 n) : Calls Tryd.prog 69 #[.int .i64 n] w (Gives (.int .i64 (rootI n)) w) := by
  unfold I64 at h
  rcases Int.lt_or_le n 0 with h0 | h0
  · have e : rootI n = -1 := by unfold rootI; rw [if_pos h0]
    rw [e]
    clear e
    go_enter Tryd.func69, Tryd.ntmps69
    go_wp2_with (first | ((first | with_reducible refine wp_region_ext2 (by kernel_rfl) (by kernel_rfl) ?_ | with_reducible refine wp_region_ext (by kernel_rfl) (by kernel_rfl) ?_); (repeat (first | go_big_quiet_step ((first | fail)) | quiet_step ((first | fail)))); refine wpQuiet_nil ?_; rintro _ ⟨yr, rfl⟩; have syr := Ext.size yr; (repeat (first | rw [World.size_alloc] at syr | rw [World.size_setCell] at syr | rw [World.size_drew] at syr))))
    go_returns
    refine ⟨rfl, ?_⟩
    repeat' (first | (with_reducible exact Below.refl _ _) | (with_reducible assumption) | (with_reducible refine Ext.below _ ?_ ?_) | (with_reducible refine Below.on ?_ (by with_reducible assumption) ?_) | (with_reducible refine Below.alloc ?_ ?_ _) | (with_reducible refine Below.drew ?_) | (with_reducible refine Below.setCell ?_ ?_ _) | (with_reducible exact Nat.le_refl _) | omega | (simp; done) | (simp [go_sem]; done) | (simp at *; omega))
  · exact refRoot_pos n w h0 h.2
end Go.Proofs.YtfjieblihbnmjaaDoor

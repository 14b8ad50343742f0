/- Plain mathematics of segments: within a radius, in either order; the search by halves. Contracts of the reference's distances of segments. Condition: the places' numbers lie within their limits, where a function asks for it. Contracts of the reference's checks of spans and areas. No condition. Contract of package span's Roots. No condition but that the numbers are of 64 bits. Contracts of the reference's plain functions on spans and areas. No condition. Contracts of what package span computes with the ends of two spans. No condition but the operation's own contract. Contract of package span's product of two spans. No condition. Contract of package span's quotient of two spans. No condition. -/
import Derived.Test.YtfjieblihbnmjaaDoorKitG
import Derived.Test.YtfjieblihbnmjaaDoorRefWideG
import Derived.LoopTactic
import Derived.Test.YtfjieblihbnmjaaDoorAreaG
import Derived.Test.YtfjieblihbnmjaaDoorRootG
import Derived.Test.YtfjieblihbnmjaaDoorSpans
import Derived.Test.YtfjieblihbnmjaaDoorOver
namespace Go.Proofs.YtfjieblihbnmjaaDoor
open Go.RowKit
theorem sq0 (a : Int) : 0 ≤ a * a := by
  rcases Int.le_total 0 a with h | h
  · exact Int.mul_nonneg h h
  · exact Int.mul_nonneg_of_nonpos_of_nonpos h h
theorem sq_mono {a b : Int} (h0 : 0 ≤ a) (h : a ≤ b) : a * a ≤ b * b := Int.mul_le_mul h h h0 (by omega)
theorem near_mono {x y r s : Int} (h0 : 0 ≤ r) (h : r ≤ s) (hn : nearB x y r = true) : nearB x y s = true := by
  have := sq_mono h0 h
  simp only [nearB, decide_eq_true_eq] at *; omega
theorem within_mono {px py qx qy r s : Int} (h0 : 0 ≤ r) (h : r ≤ s) (hn : withinB px py qx qy r = true) : withinB px py qx qy s = true := by
  unfold withinB at *
  split
  · rw [if_pos (by assumption)] at hn; exact near_mono h0 h hn
  · rw [if_neg (by assumption)] at hn
    split
    · rw [if_pos (by assumption)] at hn; exact near_mono h0 h hn
    · rw [if_neg (by assumption)] at hn
      have a := sq_mono h0 h
      have b := sq0 (qx - px); have c := sq0 (qy - py)
      have d := Int.mul_le_mul_of_nonneg_right a (show 0 ≤ (qx - px) * (qx - px) + (qy - py) * (qy - py) by omega)
      simp only [decide_eq_true_eq] at *; omega
theorem sum_sq_zero {a b : Int} (h : a * a + b * b ≤ 0) : a = 0 ∧ b = 0 := by
  have := sq0 a; have := sq0 b
  have h1 : a * a = 0 := by omega
  have h2 : b * b = 0 := by omega
  exact ⟨by rcases Int.mul_eq_zero.1 h1 with h | h <;> exact h, by rcases Int.mul_eq_zero.1 h2 with h | h <;> exact h⟩
theorem within_swap (px py qx qy r : Int) : withinB px py qx qy r = withinB qx qy px py r := by
  unfold withinB
  have e1 : qx * (px - qx) + qy * (py - qy) = -(qx * (qx - px) + qy * (qy - py)) := by grind
  have e2 : px * (px - qx) + py * (py - qy) = -(px * (qx - px) + py * (qy - py)) := by grind
  have e3 : (qx * py - qy * px) * (qx * py - qy * px) = (px * qy - py * qx) * (px * qy - py * qx) := by grind
  have e4 : (px - qx) * (px - qx) + (py - qy) * (py - qy) = (qx - px) * (qx - px) + (qy - py) * (qy - py) := by grind
  have e5 : (qx - px) * (qx - px) + (qy - py) * (qy - py) = (qx * (qx - px) + qy * (qy - py)) - (px * (qx - px) + py * (qy - py)) := by grind
  rw [e1, e2, e3, e4]
  by_cases h1 : 0 ≤ px * (qx - px) + py * (qy - py) <;> by_cases h2 : qx * (qx - px) + qy * (qy - py) ≤ 0
  · have := sum_sq_zero (a := qx - px) (b := qy - py) (by omega)
    have a : qx = px := by omega
    have b : qy = py := by omega
    subst a b; simp
  · rw [if_pos h1, if_neg (by omega), if_pos (by omega)]
  · rw [if_neg h1, if_pos h2, if_pos (by omega)]
  · rw [if_neg h1, if_neg h2, if_neg (by omega), if_neg (by omega)]
theorem within_left {px py qx qy r : Int} (h : nearB px py r = true) : withinB px py qx qy r = true := by
  unfold withinB
  split
  · exact h
  · rename_i h1
    split
    · rename_i h2
      have e : qx * qx + qy * qy + ((qx - px) * (qx - px) + (qy - py) * (qy - py)) = px * px + py * py + 2 * (qx * (qx - px) + qy * (qy - py)) := by grind
      have := sq0 (qx - px); have := sq0 (qy - py)
      simp only [nearB, decide_eq_true_eq] at *; omega
    · rename_i h2
      have e : (px * px + py * py) * ((qx - px) * (qx - px) + (qy - py) * (qy - py)) = (px * qy - py * qx) * (px * qy - py * qx) + (px * (qx - px) + py * (qy - py)) * (px * (qx - px) + py * (qy - py)) := by grind
      have := sq0 (px * (qx - px) + py * (qy - py))
      have a := sq0 (qx - px); have b := sq0 (qy - py)
      simp only [nearB, decide_eq_true_eq] at *
      have := Int.mul_le_mul_of_nonneg_right h (show 0 ≤ (qx - px) * (qx - px) + (qy - py) * (qy - py) by omega)
      omega
theorem within_right {px py qx qy r : Int} (h : nearB qx qy r = true) : withinB px py qx qy r = true := by
  rw [within_swap]; exact within_left h
/-- The search ends where the test turns. -/
theorem bs_spec (p : Int → Bool) : ∀ (f : Nat) (i j : Int), i ≤ j → j - i < 2 ^ f → i ≤ bs p f i j ∧ bs p f i j ≤ j ∧ (bs p f i j < j → p (bs p f i j) = true) ∧ (i < bs p f i j → p (bs p f i j - 1) = false)
  | 0, i, j, h1, h2 => by
    simp at h2
    exact ⟨Int.le_refl _, h1, fun h => by simp only [bs] at h; omega, fun h => by simp only [bs] at h; omega⟩
  | f + 1, i, j, h1, h2 => by
    rw [Int.pow_succ] at h2
    by_cases h : i < j
    · cases hp : p ((i + j) / 2)
      · rw [bs_no p f i j h hp]
        obtain ⟨a, b, c, d⟩ := bs_spec p f ((i + j) / 2 + 1) j (by omega) (by omega)
        refine ⟨by omega, b, c, fun _ => ?_⟩
        by_cases e : (i + j) / 2 + 1 < bs p f ((i + j) / 2 + 1) j
        · exact d e
        · rw [show bs p f ((i + j) / 2 + 1) j - 1 = (i + j) / 2 by omega]; exact hp
      · rw [bs_yes p f i j h hp]
        obtain ⟨a, b, c, d⟩ := bs_spec p f i ((i + j) / 2) (by omega) (by omega)
        refine ⟨a, by omega, fun _ => ?_, d⟩
        by_cases e : bs p f i ((i + j) / 2) < (i + j) / 2
        · exact c e
        · rw [show bs p f i ((i + j) / 2) = (i + j) / 2 by omega]; exact hp
    · rw [bs_end p (f + 1) i j h]
      exact ⟨Int.le_refl _, h1, fun h' => absurd h' h, fun h' => absurd h' (by omega)⟩
/-- What a segment misses by. -/
theorem miss_spec {px py qx qy : Int} (h1 : -2000 ≤ px ∧ px ≤ 2000) (h2 : -2000 ≤ py ∧ py ≤ 2000) (h3 : -2000 ≤ qx ∧ qx ≤ 2000) (h4 : -2000 ≤ qy ∧ qy ≤ 2000) :
    0 ≤ missI px py qx qy ∧ missI px py qx qy ≤ 4000 ∧ withinB px py qx qy (missI px py qx qy) = true ∧ (missI px py qx qy ≠ 0 → withinB px py qx qy (missI px py qx qy - 1) = false) := by
  have f1 : farB px py = true := by unfold farB; simp; omega
  have f2 : farB qx qy = true := by unfold farB; simp; omega
  have e : missI px py qx qy = bs (withinB px py qx qy) 30 0 536870912 := by simp [missI, f1, f2]
  obtain ⟨a, b, c, d⟩ := bs_spec (withinB px py qx qy) 30 0 536870912 (by decide) (by decide)
  rw [← e] at a b c d
  have hw : withinB px py qx qy 4000 = true := by
    apply within_left
    have a := sq_bounds (x := px) (B := 2000) h1.1 h1.2; have b := sq_bounds (x := py) (B := 2000) h2.1 h2.2
    simp only [nearB, decide_eq_true_eq]; omega
  have hle : missI px py qx qy ≤ 4000 := by
    rcases Int.lt_or_le 4000 (missI px py qx qy) with h | h
    · have := d (by omega)
      rw [within_mono (by decide) (show 4000 ≤ missI px py qx qy - 1 by omega) hw] at this
      cases this
    · exact h
  exact ⟨a, hle, c (by omega), fun h => d (by omega)⟩
/-- The least radius, found bit by bit. -/
def msl (p : Int → Bool) : Nat → Int → Int
  | 0, r => r
  | k + 1, r => msl p k (if p (r + 2 ^ k) then r else r + 2 ^ k)
theorem msl_spec (p : Int → Bool) : ∀ (k : Nat) (r : Int), -1 ≤ r → p (r + 2 ^ k) = true → (r = -1 ∨ p r = false) → -1 ≤ msl p k r ∧ msl p k r < r + 2 ^ k ∧ p (msl p k r + 1) = true ∧ (msl p k r = -1 ∨ p (msl p k r) = false)
  | 0, r, h0, h1, h2 => by
    simp at h1
    exact ⟨h0, by simp only [msl]; omega, h1, h2⟩
  | k + 1, r, h0, h1, h2 => by
    have hp : (0 : Int) < 2 ^ k := Int.pow_pos (by decide)
    have e : (2 : Int) ^ (k + 1) = 2 ^ k + 2 ^ k := by rw [Int.pow_succ]; omega
    unfold msl
    cases h : p (r + 2 ^ k)
    · simp only [Bool.false_eq_true, if_false]
      have := msl_spec p k (r + 2 ^ k) (by omega) (by rw [e] at h1; rw [show r + 2 ^ k + 2 ^ k = r + (2 ^ k + 2 ^ k) by omega]; exact h1) (.inr h)
      exact ⟨this.1, by omega, this.2.2⟩
    · simp only [if_true]
      have := msl_spec p k r h0 h h2
      exact ⟨this.1, by omega, this.2.2⟩
theorem miss_msl {px py qx qy : Int} (h1 : Far px) (h2 : Far py) : bs (withinB px py qx qy) 30 0 536870912 = msl (withinB px py qx qy) 30 (-1) + 1 := by
  unfold Far at h1 h2
  obtain ⟨a, b, c, d⟩ := bs_spec (withinB px py qx qy) 30 0 536870912 (by decide) (by decide)
  have hw : withinB px py qx qy 536870911 = true := by
    apply within_left
    have a := sq_bounds (x := px) (B := 268435456) h1.1 h1.2; have b := sq_bounds (x := py) (B := 268435456) h2.1 h2.2
    simp only [nearB, decide_eq_true_eq]; omega
  obtain ⟨e, f, g, k⟩ := msl_spec (withinB px py qx qy) 30 (-1) (by decide) (within_mono (by decide) (by decide) hw) (.inl rfl)
  have hlt : bs (withinB px py qx qy) 30 0 536870912 < 536870912 := by
    rcases Int.lt_or_le (bs (withinB px py qx qy) 30 0 536870912) 536870912 with h | h
    · exact h
    · have := d (by omega)
      rw [within_mono (by decide) (by omega) hw] at this
      cases this
  have c' := c hlt
  rcases Int.lt_trichotomy (bs (withinB px py qx qy) 30 0 536870912) (msl (withinB px py qx qy) 30 (-1) + 1) with h | h | h
  · rcases k with k | k
    · omega
    · rw [within_mono a (by omega) c'] at k
      cases k
  · exact h
  · have := d (by omega)
    rw [within_mono (by omega) (by omega) g] at this
    cases this
end Go.Proofs.YtfjieblihbnmjaaDoor
namespace Go.Proofs.YtfjieblihbnmjaaDoor
open Go.RowKit Go.Shelf
attribute [local go_sem] Ext.cell Ext.frozen Ext.lt Ext.le Ext.lt_add Ext.le_add Ext.ne Ext.ne' lt2 lt3 lt4 lt5 le2 le3 le4
def btwB (n lo hi : Int) : Bool := decide (lo ≤ n) && decide (n ≤ hi)
theorem between_any (n lo hi : Int) (w : World) : Calls Tryd.prog 108 #[.int .i64 n, .int .i64 lo, .int .i64 hi] w (Gives (.bool (btwB n lo hi)) w) := by
  unfold btwB
  by_cases h1 : lo ≤ n
  · simp only [h1, decide_true, Bool.true_and]
    go_enter Tryd.func108, Tryd.ntmps108
    go_wp2_with (first | ((first | with_reducible refine wp_region_ext2 (by kernel_rfl) (by kernel_rfl) ?_ | with_reducible refine wp_region_ext (by kernel_rfl) (by kernel_rfl) ?_); (repeat (first | go_big_quiet_step ((first | fail)) | quiet_step ((first | fail)))); refine wpQuiet_nil ?_; rintro _ ⟨yr, rfl⟩; have syr := Ext.size yr; (repeat (first | rw [World.size_alloc] at syr | rw [World.size_setCell] at syr | rw [World.size_drew] at syr))))
    go_returns
    refine ⟨rfl, ?_⟩
    repeat' (first | (with_reducible exact Below.refl _ _) | (with_reducible assumption) | (with_reducible refine Ext.below _ ?_ ?_) | (with_reducible refine Below.on ?_ (by with_reducible assumption) ?_) | (with_reducible refine Below.alloc ?_ ?_ _) | (with_reducible refine Below.drew ?_) | (with_reducible refine Below.setCell ?_ ?_ _) | (with_reducible exact Nat.le_refl _) | omega | (simp; done) | (simp [go_sem]; done) | (simp at *; omega))
  · simp only [h1, decide_false, Bool.false_and]
    go_enter Tryd.func108, Tryd.ntmps108
    go_wp2_with (first | ((first | with_reducible refine wp_region_ext2 (by kernel_rfl) (by kernel_rfl) ?_ | with_reducible refine wp_region_ext (by kernel_rfl) (by kernel_rfl) ?_); (repeat (first | go_big_quiet_step ((first | fail)) | quiet_step ((first | fail)))); refine wpQuiet_nil ?_; rintro _ ⟨yr, rfl⟩; have syr := Ext.size yr; (repeat (first | rw [World.size_alloc] at syr | rw [World.size_setCell] at syr | rw [World.size_drew] at syr))))
    go_returns
    refine ⟨rfl, ?_⟩
    repeat' (first | (with_reducible exact Below.refl _ _) | (with_reducible assumption) | (with_reducible refine Ext.below _ ?_ ?_) | (with_reducible refine Below.on ?_ (by with_reducible assumption) ?_) | (with_reducible refine Below.alloc ?_ ?_ _) | (with_reducible refine Below.drew ?_) | (with_reducible refine Below.setCell ?_ ?_ _) | (with_reducible exact Nat.le_refl _) | omega | (simp; done) | (simp [go_sem]; done) | (simp at *; omega))
def far1 (n : Int) : Bool := btwB n (-268435456) 268435456
theorem far1_farB (x y : Int) : (far1 x && far1 y) = farB x y := by unfold far1 btwB farB; rw [Bool.eq_iff_iff]; simp; omega
theorem btwB_rad (r : Int) : btwB r 0 268435456 = radB r := by unfold btwB radB; rw [Bool.eq_iff_iff]; simp
end Go.Proofs.YtfjieblihbnmjaaDoor
namespace Go.Proofs.YtfjieblihbnmjaaDoor
open Go.RowKit Go.Shelf
attribute [local go_sem] Ext.cell Ext.frozen Ext.lt Ext.le Ext.lt_add Ext.le_add Ext.ne Ext.ne' lt2 lt3 lt4 lt5 le2 le3 le4
theorem btwB_num (n : Int) : btwB n (-1152921504606846976) 1152921504606846976 = numB n := by unfold btwB numB; rw [Bool.eq_iff_iff]; simp
theorem fits_any (n : Int) (w : World) : Calls Tryd.prog 101 #[.int .i64 n] w (Gives (.bool (numB n)) w) := by
  rw [← btwB_num]
  go_enter Tryd.func101, Tryd.ntmps101
  go_wp2_with (first | ((first | with_reducible refine wp_region_ext2 (by kernel_rfl) (by kernel_rfl) ?_ | with_reducible refine wp_region_ext (by kernel_rfl) (by kernel_rfl) ?_); (repeat (first | go_big_quiet_step ((first | (go_at_call 108; with_reducible exact Calls.ext (between_any _ _ _ _)))) | quiet_step ((first | (go_at_call 108; with_reducible exact Calls.ext (between_any _ _ _ _)))))); refine wpQuiet_nil ?_; rintro _ ⟨yr, rfl⟩; have syr := Ext.size yr; (repeat (first | rw [World.size_alloc] at syr | rw [World.size_setCell] at syr | rw [World.size_drew] at syr))) | (go_at_call 108; (first | with_reducible refine (Calls.giv2 (between_any _ _ _ _)).mono ?_ | with_reducible refine (Calls.giv (between_any _ _ _ _)).mono ?_); rintro _ _ ⟨y1, rfl, rfl⟩; have sy1 := Ext.size y1; (repeat (first | rw [World.size_alloc] at sy1 | rw [World.size_setCell] at sy1 | rw [World.size_drew] at sy1))))
  go_returns
  refine ⟨rfl, ?_⟩
  repeat' (first | (with_reducible exact Below.refl _ _) | (with_reducible assumption) | (with_reducible refine Ext.below _ ?_ ?_) | (with_reducible refine Below.on ?_ (by with_reducible assumption) ?_) | (with_reducible refine Below.alloc ?_ ?_ _) | (with_reducible refine Below.drew ?_) | (with_reducible refine Below.setCell ?_ ?_ _) | (with_reducible exact Nat.le_refl _) | omega | (simp; done) | (simp [go_sem]; done) | (simp at *; omega))
end Go.Proofs.YtfjieblihbnmjaaDoor
namespace Go.Proofs.YtfjieblihbnmjaaDoor
open Go.RowKit Go.Shelf
attribute [local go_sem] Ext.cell Ext.frozen Ext.lt Ext.le Ext.lt_add Ext.le_add Ext.ne Ext.ne' lt2 lt3 lt4 lt5 le2 le3 le4
def rootsE (a b : Int) : Int := if chk a b = 0 then (if a < 0 then 2 else 0) else chk a b
/-- The root, rounded up. -/
def rootU (n : Int) : Int := if rootI n * rootI n < n then rootI n + 1 else rootI n
def rootsL (a b : Int) : Int := if rootsE a b = 0 then rootI a else 0
def rootsH (a b : Int) : Int := if rootsE a b = 0 then rootU b else 0
theorem rootI_small {n : Int} (h0 : 0 ≤ n) (h1 : n ≤ 1152921504606846976) : 0 ≤ rootI n ∧ rootI n ≤ 1073741824 := by
  obtain ⟨a, b, _⟩ := rootI_spec h0 (by omega)
  refine ⟨a, ?_⟩
  rcases Int.lt_or_le 1073741824 (rootI n) with h | h
  · have := Int.mul_le_mul (show (1073741825 : Int) ≤ rootI n by omega) (show (1073741825 : Int) ≤ rootI n by omega) (by decide) a
    omega
  · exact h
end Go.Proofs.YtfjieblihbnmjaaDoor
namespace Go.Proofs.YtfjieblihbnmjaaDoor
open Go.RowKit Go.Shelf
attribute [local go_sem] Ext.cell Ext.frozen Ext.lt Ext.le Ext.lt_add Ext.le_add Ext.ne Ext.ne' lt2 lt3 lt4 lt5 le2 le3 le4
set_option maxHeartbeats 1000000 in
theorem refRoot_pos (n : Int) (w : World) (hn0 : 0 ≤ n) (hn : n < 9223372036854775808) : Calls Tryd.prog 69 #[.int .i64 n] w (Gives (.int .i64 (rootI n)) w) := by
  have e : rootI n = rt n 32 0 := by unfold rootI; rw [if_neg (by omega)]
  rw [e]
  clear e
  go_enter Tryd.func69, Tryd.ntmps69
  go_wp2_with fail
  go_loop [3, 4] (fun s t => ∃ (k : Nat) (r : Int), s = .int .i64 r ∧ t = .int .i64 (rv k) ∧ k ≤ 32 ∧ 0 ≤ r ∧ r ≤ 3037000499 ∧ rt n k r = rt n 32 0) (fun _ t => (intOf t).toNat)
  case atStart => exact ⟨32, 0, rfl, rfl, by decide, by decide, by decide, rfl⟩
  case round =>
    obtain ⟨k, r, rfl, rfl, hk, h0, h1, hm⟩ := hrel
    have HM := Go.Lib.hid hm
    clear hm
    cases k with
    | zero =>
      simp only [rv]
      go_wp2_with fail
      go_returns
      refine ⟨ret_int ?_, ?_⟩
      · rw [← HM.out]; rfl
      · repeat' (first | (with_reducible exact Below.refl _ _) | (with_reducible assumption) | (with_reducible refine Ext.below _ ?_ ?_) | (with_reducible refine Below.on ?_ (by with_reducible assumption) ?_) | (with_reducible refine Below.alloc ?_ ?_ _) | (with_reducible refine Below.drew ?_) | (with_reducible refine Below.setCell ?_ ?_ _) | (with_reducible exact Nat.le_refl _) | omega | (simp; done) | (simp [go_sem]; done) | (simp at *; omega))
    | succ k =>
      have hpos : (0 : Int) < 2 ^ k := Int.pow_pos (by decide)
      have hlim : (2 : Int) ^ k ≤ 2147483648 := by
        have := Nat.pow_le_pow_right (n := 2) (by decide) (show k ≤ 31 by omega)
        have h2 : ((2 ^ k : Nat) : Int) ≤ ((2 ^ 31 : Nat) : Int) := Int.ofNat_le.2 this
        simpa using h2
      have hh := rv_half k
      have hmk : rt n (k + 1) r = if (r + 2 ^ k) * (r + 2 ^ k) ≤ n then rt n k (r + 2 ^ k) else rt n k r := rfl
      simp only [rv]
      generalize hB2 : (2 : Int) ^ k = B at *
      have HH := Go.Lib.hid hh; have HB2 := Go.Lib.hid hB2; have HMK := Go.Lib.hid hmk
      clear hh hB2 hmk
      have sq := sq_bounds (x := r + B) (B := 5184484147) (by omega) (by omega)
      by_cases hc : r + B ≤ 3037000499
      · have sq := sq_bounds (x := r + B) (B := 3037000499) (by omega) hc
        simp only [Int.reduceMul] at sq
        obtain ⟨s1, s2⟩ := sq
        by_cases ht : (r + B) * (r + B) ≤ n
        · have HT := Go.Lib.hid ht
          go_wp2_with fail
          refine ⟨⟨k, r + B, rfl, by rw [HH.out]; cases k <;> rfl, by omega, by omega, hc, ?_⟩, by simp only [intOf]; omega⟩
          rw [← HM.out, HMK.out, if_pos HT.out]
        · have HT := Go.Lib.hid ht
          have ht' : n < (r + B) * (r + B) := by omega
          clear ht
          go_wp2_with fail
          refine ⟨⟨k, r, rfl, by rw [HH.out]; cases k <;> rfl, by omega, h0, h1, ?_⟩, by simp only [intOf]; omega⟩
          rw [← HM.out, HMK.out, if_neg HT.out]
      · have ht : ¬ (r + B) * (r + B) ≤ n := by
          have := Int.mul_le_mul (show (3037000500 : Int) ≤ r + B by omega) (show (3037000500 : Int) ≤ r + B by omega) (by decide) (by omega)
          omega
        have HT := Go.Lib.hid ht
        have hc' : 3037000499 < r + B := by omega
        clear ht hc
        go_wp2_with fail
        refine ⟨⟨k, r, rfl, by rw [HH.out]; cases k <;> rfl, by omega, h0, h1, ?_⟩, by simp only [intOf]; omega⟩
        rw [← HM.out, HMK.out, if_neg HT.out]
theorem refRoot_any (n : Int) (w : World) (h : I64 n) : Calls Tryd.prog 69 #[.int .i64 n] w (Gives (.int .i64 (rootI n)) w) := by
  unfold I64 at h
  rcases Int.lt_or_le n 0 with h0 | h0
  · have e : rootI n = -1 := by unfold rootI; rw [if_pos h0]
    rw [e]
    clear e
    go_enter Tryd.func69, Tryd.ntmps69
    go_wp2_with (first | ((first | with_reducible refine wp_region_ext2 (by kernel_rfl) (by kernel_rfl) ?_ | with_reducible refine wp_region_ext (by kernel_rfl) (by kernel_rfl) ?_); (repeat (first | go_big_quiet_step ((first | fail)) | quiet_step ((first | fail)))); refine wpQuiet_nil ?_; rintro _ ⟨yr, rfl⟩; have syr := Ext.size yr; (repeat (first | rw [World.size_alloc] at syr | rw [World.size_setCell] at syr | rw [World.size_drew] at syr))))
    go_returns
    refine ⟨rfl, ?_⟩
    repeat' (first | (with_reducible exact Below.refl _ _) | (with_reducible assumption) | (with_reducible refine Ext.below _ ?_ ?_) | (with_reducible refine Below.on ?_ (by with_reducible assumption) ?_) | (with_reducible refine Below.alloc ?_ ?_ _) | (with_reducible refine Below.drew ?_) | (with_reducible refine Below.setCell ?_ ?_ _) | (with_reducible exact Nat.le_refl _) | omega | (simp; done) | (simp [go_sem]; done) | (simp at *; omega))
  · exact refRoot_pos n w h0 h.2
end Go.Proofs.YtfjieblihbnmjaaDoor
namespace Go.Proofs.YtfjieblihbnmjaaDoor
open Go.RowKit Go.Shelf
attribute [local go_sem] Ext.cell Ext.frozen Ext.lt Ext.le Ext.lt_add Ext.le_add Ext.ne Ext.ne' lt2 lt3 lt4 lt5 le2 le3 le4
/-- The corners of two spans, in their order; the least and the greatest of what comes of the first of them. -/
def corX (al ah : Int) (k : Nat) : Int := if k = 0 ∨ k = 3 then al else ah
def corY (bl bh : Int) (k : Nat) : Int := if k = 0 ∨ k = 1 then bl else bh
def dmin (d : Int → Int → Int) (al ah bl bh : Int) : Nat → Int
  | 0 => d al bl
  | k + 1 => if d (corX al ah k) (corY bl bh k) < dmin d al ah bl bh k then d (corX al ah k) (corY bl bh k) else dmin d al ah bl bh k
def dmax (d : Int → Int → Int) (al ah bl bh : Int) : Nat → Int
  | 0 => d al bl
  | k + 1 => if dmax d al ah bl bh k < d (corX al ah k) (corY bl bh k) then d (corX al ah k) (corY bl bh k) else dmax d al ah bl bh k
theorem dmin_lt {d : Int → Int → Int} {al ah bl bh : Int} {k : Nat} (h : d (corX al ah k) (corY bl bh k) < dmin d al ah bl bh k) : dmin d al ah bl bh (k + 1) = d (corX al ah k) (corY bl bh k) := by rw [dmin, if_pos h]
theorem dmin_ge {d : Int → Int → Int} {al ah bl bh : Int} {k : Nat} (h : ¬ d (corX al ah k) (corY bl bh k) < dmin d al ah bl bh k) : dmin d al ah bl bh (k + 1) = dmin d al ah bl bh k := by rw [dmin, if_neg h]
theorem dmax_lt {d : Int → Int → Int} {al ah bl bh : Int} {k : Nat} (h : dmax d al ah bl bh k < d (corX al ah k) (corY bl bh k)) : dmax d al ah bl bh (k + 1) = d (corX al ah k) (corY bl bh k) := by rw [dmax, if_pos h]
theorem dmax_ge {d : Int → Int → Int} {al ah bl bh : Int} {k : Nat} (h : ¬ dmax d al ah bl bh k < d (corX al ah k) (corY bl bh k)) : dmax d al ah bl bh (k + 1) = dmax d al ah bl bh k := by rw [dmax, if_neg h]
theorem corX_or (al ah : Int) (k : Nat) : corX al ah k = al ∨ corX al ah k = ah := by unfold corX; split <;> simp
theorem corY_or (bl bh : Int) (k : Nat) : corY bl bh k = bl ∨ corY bl bh k = bh := by unfold corY; split <;> simp
theorem cmp_neg (m n : Int) : cmpw (whi m) (wlo m) (whi n) (wlo n) < 0 ↔ m < n := by rw [cmpw_sgn]; unfold sgn; split <;> (try split) <;> omega
theorem cmp_pos (m n : Int) : 0 < cmpw (whi m) (wlo m) (whi n) (wlo n) ↔ n < m := by rw [cmpw_sgn]; unfold sgn; split <;> (try split) <;> omega
/-- The result of combine: its error; its ends. -/
def cmbE (d u : Int → Int → Int) (al ah bl bh : Int) : Int :=
  if chkB al ah bl bh = 0 then (if numB (dmin d al ah bl bh 4) && numB (dmax u al ah bl bh 4) then 0 else 14) else chkB al ah bl bh
def cmbL (d u : Int → Int → Int) (al ah bl bh : Int) : Int := if cmbE d u al ah bl bh = 0 then dmin d al ah bl bh 4 else 0
def cmbH (d u : Int → Int → Int) (al ah bl bh : Int) : Int := if cmbE d u al ah bl bh = 0 then dmax u al ah bl bh 4 else 0
end Go.Proofs.YtfjieblihbnmjaaDoor
namespace Go.Proofs.YtfjieblihbnmjaaDoor
open Go.RowKit Go.Shelf
attribute [local go_sem] Ext.cell Ext.frozen Ext.lt Ext.le Ext.lt_add Ext.le_add Ext.ne Ext.ne' lt2 lt3 lt4 lt5 le2 le3 le4
/-- The ends of a product, and its error. -/
def mulL (al ah bl bh : Int) : Int := cmbL (· * ·) (· * ·) al ah bl bh
def mulH (al ah bl bh : Int) : Int := cmbH (· * ·) (· * ·) al ah bl bh
def mulE (al ah bl bh : Int) : Int := cmbE (· * ·) (· * ·) al ah bl bh
end Go.Proofs.YtfjieblihbnmjaaDoor
namespace Go.Proofs.YtfjieblihbnmjaaDoor
open Go.RowKit Go.Shelf
attribute [local go_sem] Ext.cell Ext.frozen Ext.lt Ext.le Ext.lt_add Ext.le_add Ext.ne Ext.ne' lt2 lt3 lt4 lt5 le2 le3 le4
theorem ov_I64 {n c : Int} (h : c ≠ 0) : I64 (ovD n c) ∧ I64 (ovU n c) := by
  have c0 : 0 < ovC c := by unfold ovC; split <;> omega
  unfold ovD ovU I64
  split
  · rename_i hm
    have := upP_bounds hm c0
    omega
  · rename_i hm
    have := upP_bounds (n := -ovN n c) (by omega) c0
    omega
def quoE (a b c d : Int) : Int := if chkB a b c d = 0 then (if inB c d 0 = true then 2 else cmbE ovD ovU a b c d) else chkB a b c d
def quoL (a b c d : Int) : Int := if quoE a b c d = 0 then cmbL ovD ovU a b c d else 0
def quoH (a b c d : Int) : Int := if quoE a b c d = 0 then cmbH ovD ovU a b c d else 0
end Go.Proofs.YtfjieblihbnmjaaDoor

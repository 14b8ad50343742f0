/- For the reference's slowed: the way through a layer, rounded up, and what the factors of its loss are within. Condition: none; a valid stone and a valid layer. Contracts of the reference's products: their signs and their absolute values. Condition: the factors are numbers of 64 bits. -/
import Derived.Test.YtfjieblihbnmjaaDoorBlEnds
import Derived.Test.YtfjieblihbnmjaaDoorKitG
namespace Go.Proofs.YtfjieblihbnmjaaDoor
open Go.RowKit Go.Shelf
theorem cei_way {n c : Int} (hc : 0 < c) : (n + c - 1) / c = cei n c := by
  rw [cei_eq hc]
  have h1 := Int.emod_add_mul_ediv n c
  have h2 := Int.emod_nonneg n (b := c) (by omega)
  have h3 := Int.emod_lt_of_pos n hc
  generalize n / c = q at *
  generalize n % c = r at *
  have e1 : (q + 1) * c = c * q + c := by rw [Int.add_mul, Int.mul_comm q c, Int.one_mul]
  have e2 : (q + 1 + 1) * c = c * q + c + c := by rw [Int.add_mul, e1, Int.one_mul]
  have e3 : q * c = c * q := Int.mul_comm _ _
  generalize c * q = P at *
  split
  · exact Int.le_antisymm (Int.le_of_lt_add_one (Int.ediv_lt_of_lt_mul hc (by omega))) (Int.le_ediv_of_mul_le hc (by omega))
  · rw [Int.add_zero]
    exact Int.le_antisymm (Int.le_of_lt_add_one (Int.ediv_lt_of_lt_mul hc (by omega))) (Int.le_ediv_of_mul_le hc (by omega))
/-- What the reference multiplies and divides by in a layer. -/
theorem slow_parts {s : StoneR} {v : V2} {wv : Int} (hs : s.Ok) (hx : 1 ≤ v.x ∧ v.x ≤ 1000) (hy : 0 ≤ v.y ∧ v.y ≤ 1000) (hw : 0 ≤ wv ∧ wv ≤ 64000000) :
    (v.x * 1000 + s.slope - 1) / s.slope = cei (v.x * 1000) s.slope ∧ kOf s v = v.y * cei (v.x * 1000) s.slope * s.shape ∧ (0 ≤ v.y * cei (v.x * 1000) s.slope ∧ v.y * cei (v.x * 1000) s.slope ≤ 1000000000) ∧ (0 ≤ kOf s v ∧ kOf s v ≤ 2000000000000) ∧ cei (wv * kOf s v) (dOf s) ≤ 1152921504606846976 ∧ 0 ≤ wv * kOf s v / dOf s := by
  obtain ⟨-, e3, e4⟩ := lost_bounds hs hx hy hw
  obtain ⟨e5, e6⟩ := way_bounds hs hx
  obtain ⟨e7, e8, e9⟩ := k_bounds hs hx hy
  obtain ⟨-, d3, d4⟩ := d_bounds hs
  have sl := hs.slope
  rw [e3] at e4
  have kk : kOf s v ≤ 2000000000000 := by
    have h2 := Int.mul_le_mul hy.2 e8 e7 (by omega)
    have h3 : kOf s v = v.y * (cei (v.x * 1000) s.slope * s.shape) := rfl
    omega
  have b2 := Int.mul_le_mul hy.2 e6 e5 (by omega)
  exact ⟨cei_way (by omega), by unfold kOf; rw [Int.mul_assoc], ⟨Int.mul_nonneg hy.1 e5, by omega⟩, ⟨e9, kk⟩, e4, Int.ediv_nonneg (Int.mul_nonneg hw.1 e9) (by omega)⟩
end Go.Proofs.YtfjieblihbnmjaaDoor
namespace Go.Proofs.YtfjieblihbnmjaaDoor
open Go.RowKit Go.Shelf
attribute [local go_sem] Ext.cell Ext.frozen Ext.lt Ext.le Ext.lt_add Ext.le_add Ext.ne Ext.ne' lt2 lt3 lt4 lt5 le2 le3 le4
def absI (a : Int) : Int := if a < 0 then -a else a
theorem absI_neg {a : Int} (h : a < 0) : absI a = -a := by unfold absI; rw [if_pos h]
theorem absI_pos {a : Int} (h : 0 ≤ a) : absI a = a := by unfold absI; rw [if_neg (by omega)]
theorem absI_nonneg (a : Int) : 0 ≤ absI a := by unfold absI; split <;> omega
theorem absI_mul (a b : Int) : absI a * absI b = absI (a * b) := by
  rcases Int.lt_or_le a 0 with ha | ha <;> rcases Int.lt_or_le b 0 with hb | hb
  · rw [absI_neg ha, absI_neg hb, absI_pos (Int.le_of_lt (Int.mul_pos_of_neg_of_neg ha hb))]; grind
  · have : a * b ≤ 0 := Int.mul_nonpos_of_nonpos_of_nonneg (Int.le_of_lt ha) hb
    rw [absI_neg ha, absI_pos hb]
    rcases Int.lt_or_le (a * b) 0 with h | h
    · rw [absI_neg h, Int.neg_mul]
    · rw [absI_pos h, Int.neg_mul]; omega
  · have : a * b ≤ 0 := Int.mul_nonpos_of_nonneg_of_nonpos ha (Int.le_of_lt hb)
    rw [absI_pos ha, absI_neg hb]
    rcases Int.lt_or_le (a * b) 0 with h | h
    · rw [absI_neg h, Int.mul_neg]
    · rw [absI_pos h, Int.mul_neg]; omega
  · rw [absI_pos ha, absI_pos hb, absI_pos (Int.mul_nonneg ha hb)]
theorem size_any (a : Int) (w : World) (ha : I64 a) : Calls Tryd.prog 110 #[.int .i64 a] w (Gives (.int .u64 (absI a)) w) := by
  unfold I64 at ha
  obtain ⟨h1, h2⟩ := ha
  by_cases h : a < 0
  · have e1 : IntKind.u64.wrap (-(IntKind.u64.wrap a)) = -a := by go_arith
    have e2 : IntKind.u64.wrap (-a) = -a := by go_arith
    rw [absI_neg h]
    go_enter Tryd.func110, Tryd.ntmps110
    go_wp2_with (first | ((first | with_reducible refine wp_region_ext2 (by kernel_rfl) (by kernel_rfl) ?_ | with_reducible refine wp_region_ext (by kernel_rfl) (by kernel_rfl) ?_); (repeat (first | go_big_quiet_step ((first | fail)) | quiet_step ((first | fail)))); refine wpQuiet_nil ?_; rintro _ ⟨yr, rfl⟩; have syr := Ext.size yr; (repeat (first | rw [World.size_alloc] at syr | rw [World.size_setCell] at syr | rw [World.size_drew] at syr))))
    go_returns
    refine ⟨by first | rfl | simp [e1] | simp [e2], ?_⟩
    repeat' (first | (with_reducible exact Below.refl _ _) | (with_reducible assumption) | (with_reducible refine Ext.below _ ?_ ?_) | (with_reducible refine Below.on ?_ (by with_reducible assumption) ?_) | (with_reducible refine Below.alloc ?_ ?_ _) | (with_reducible refine Below.drew ?_) | (with_reducible refine Below.setCell ?_ ?_ _) | (with_reducible exact Nat.le_refl _) | omega | (simp; done) | (simp [go_sem]; done) | (simp at *; omega))
  · have e1 : IntKind.u64.wrap a = a := by go_arith
    rw [absI_pos (by omega)]
    go_enter Tryd.func110, Tryd.ntmps110
    go_wp2_with (first | ((first | with_reducible refine wp_region_ext2 (by kernel_rfl) (by kernel_rfl) ?_ | with_reducible refine wp_region_ext (by kernel_rfl) (by kernel_rfl) ?_); (repeat (first | go_big_quiet_step ((first | fail)) | quiet_step ((first | fail)))); refine wpQuiet_nil ?_; rintro _ ⟨yr, rfl⟩; have syr := Ext.size yr; (repeat (first | rw [World.size_alloc] at syr | rw [World.size_setCell] at syr | rw [World.size_drew] at syr))))
    go_returns
    refine ⟨by first | rfl | simp [e1], ?_⟩
    repeat' (first | (with_reducible exact Below.refl _ _) | (with_reducible assumption) | (with_reducible refine Ext.below _ ?_ ?_) | (with_reducible refine Below.on ?_ (by with_reducible assumption) ?_) | (with_reducible refine Below.alloc ?_ ?_ _) | (with_reducible refine Below.drew ?_) | (with_reducible refine Below.setCell ?_ ?_ _) | (with_reducible exact Nat.le_refl _) | omega | (simp; done) | (simp [go_sem]; done) | (simp at *; omega))
/-- A product, as the reference has it. -/
def refw (n : Int) : Value := .agg #[.bool (decide (n < 0)), .int .u64 (absI n / 18446744073709551616), .int .u64 (absI n % 18446744073709551616)]
theorem neg_iff (a b : Int) : ((decide (a < 0) != decide (b < 0)) && (decide (0 < absI (a * b) / 18446744073709551616) || decide (0 < absI (a * b) % 18446744073709551616))) = decide (a * b < 0) := by
  rw [Bool.eq_iff_iff]
  have h0 := absI_nonneg (a * b)
  have key : (0 < absI (a * b) / 18446744073709551616 ∨ 0 < absI (a * b) % 18446744073709551616) ↔ a * b ≠ 0 := by
    unfold absI at *; split at h0 <;> split <;> omega
  simp only [Bool.and_eq_true, Bool.or_eq_true, decide_eq_true_eq, bne_iff_ne, ne_eq, decide_eq_decide, key]
  rcases Int.lt_trichotomy a 0 with ha | ha | ha <;> rcases Int.lt_trichotomy b 0 with hb | hb | hb
  · have := Int.mul_pos_of_neg_of_neg ha hb; omega
  · subst hb; simp
  · have := Int.mul_neg_of_neg_of_pos ha hb; omega
  · subst ha; simp
  · subst ha; simp
  · subst ha; simp
  · have := Int.mul_neg_of_pos_of_neg ha hb; omega
  · subst hb; simp
  · have := Int.mul_pos ha hb; omega
set_option maxHeartbeats 1000000 in
theorem wideOf_any (a b : Int) (w : World) (ha : I64 a) (hb : I64 b) : Calls Tryd.prog 102 #[.int .i64 a, .int .i64 b] w (Gives (refw (a * b)) w) := by
  have hm := fun W => mul64 (absI a) (absI b) (absI_nonneg a) (by unfold absI I64 at *; split <;> omega) (absI_nonneg b) (by unfold absI I64 at *; split <;> omega) W
  rw [absI_mul] at hm
  have H := Go.Lib.hid (neg_iff a b)
  have HM := Go.Lib.hid hm
  clear hm
  have b1 : 0 ≤ absI (a * b) / 18446744073709551616 := by have := absI_nonneg (a * b); omega
  have b2 : 0 ≤ absI (a * b) % 18446744073709551616 := by omega
  unfold refw
  rw [← H.out]
  generalize absI (a * b) / 18446744073709551616 = hi at *
  generalize absI (a * b) % 18446744073709551616 = lo at *
  clear H
  cases ha0 : decide (a < 0) <;> cases hb0 : decide (b < 0) <;> cases h2 : decide (0 < hi)
  all_goals
    simp only [bne_self_eq_false, Bool.true_bne, Bool.false_bne, Bool.not_false, Bool.false_and, Bool.true_and, Bool.false_or, Bool.true_or]
    go_enter Tryd.func102, Tryd.ntmps102
    go_wp2_with (first | ((first | with_reducible refine wp_region_ext2 (by kernel_rfl) (by kernel_rfl) ?_ | with_reducible refine wp_region_ext (by kernel_rfl) (by kernel_rfl) ?_); (repeat (first | go_big_quiet_step ((first | (go_at_call 110; with_reducible exact Calls.ext (size_any _ _ (by assumption))))) | quiet_step ((first | (go_at_call 110; with_reducible exact Calls.ext (size_any _ _ (by assumption))))))); refine wpQuiet_nil ?_; rintro _ ⟨yr, rfl⟩; have syr := Ext.size yr; (repeat (first | rw [World.size_alloc] at syr | rw [World.size_setCell] at syr | rw [World.size_drew] at syr))) | (go_at_call 110; (first | with_reducible refine (Calls.giv2 (size_any _ _ (by assumption))).mono ?_ | with_reducible refine (Calls.giv (size_any _ _ (by assumption))).mono ?_); rintro _ _ ⟨y1, rfl, rfl⟩; have sy1 := Ext.size y1; (repeat (first | rw [World.size_alloc] at sy1 | rw [World.size_setCell] at sy1 | rw [World.size_drew] at sy1))) | (go_at_call 109; refine (HM.out _).mono ?_; rintro e w' ⟨rfl, rfl⟩))
    have l0 : y1.now.cell? ⟨w.heap.size, 0, none⟩ = some (.bool false) := (y1.cell (by simp)).trans (by simp [go_sem])
    have l1 : y1.now.cell? ⟨w.heap.size, 1, none⟩ = some (.int .u64 0) := (y1.cell (by simp)).trans (by simp [go_sem])
    have l2 : y1.now.cell? ⟨w.heap.size, 2, none⟩ = some (.int .u64 0) := (y1.cell (by simp)).trans (by simp [go_sem])
    refine bodyPost_ret (by simp [results, Tryd.results102, go_sem, l0, l1, l2]; rfl) rfl ?_
    refine ⟨rfl, ?_⟩
    repeat' (first | (with_reducible exact Below.refl _ _) | (with_reducible assumption) | (with_reducible refine Ext.below _ ?_ ?_) | (with_reducible refine Below.on ?_ (by with_reducible assumption) ?_) | (with_reducible refine Below.alloc ?_ ?_ _) | (with_reducible refine Below.drew ?_) | (with_reducible refine Below.setCell ?_ ?_ _) | (with_reducible exact Nat.le_refl _) | omega | (simp; done) | (simp [go_sem]; done) | (simp at *; omega))
theorem cmp_abs (m n : Int) (_hm : 0 ≤ m) (_hn : 0 ≤ n) : cmpw (m / 18446744073709551616) (m % 18446744073709551616) (n / 18446744073709551616) (n % 18446744073709551616) = sgn (m - n) := by
  rw [cmpw_at]; unfold sgn
  repeat' split
  all_goals first | rfl | omega
end Go.Proofs.YtfjieblihbnmjaaDoor

/- Contracts of the reference's products: their signs and their absolute values. Condition: the factors are numbers of 64 bits. Plain mathematics of segments: within a radius, in either order; the search by halves. Contracts of the reference's distances of segments. Condition: the places' numbers lie within their limits, where a function asks for it. Contracts of the reference's checks of spans and areas. No condition. Contract of package span's Roots. No condition but that the numbers are of 64 bits. Contracts of the reference's plain functions on spans and areas. No condition. -/
import Derived.Test.YtlmhbggigbmeaaaDoorKitG
import Derived.LoopTactic
import Derived.Test.YtlmhbggigbmeaaaDoorArea
import Derived.Test.YtlmhbggigbmeaaaDoorRootG
import Derived.Test.YtlmhbggigbmeaaaDoorSpansG
namespace Go.Proofs.YtlmhbggigbmeaaaDoor
open Go.RowKit Go.Shelf
attribute [local go_sem] Ext.cell Ext.frozen Ext.lt Ext.le Ext.lt_add Ext.le_add Ext.ne Ext.ne' lt2 lt3 lt4 lt5 le2 le3 le4
def absI (a : Int) : Int := if a < 0 then -a else a
theorem absI_neg {a : Int} (h : a < 0) : absI a = -a := by unfold absI; rw [if_pos h]
theorem absI_pos {a : Int} (h : 0 ≤ a) : absI a = a := by unfold absI; rw [if_neg (by omega)]
theorem absI_nonneg (a : Int) : 0 ≤ absI a := by unfold absI; split <;> omega
theorem absI_mul (a b : Int) : absI a * absI b = absI (a * b) := by
  rcases Int.lt_or_le a 0 with ha | ha <;> rcases Int.lt_or_le b 0 with hb | hb
  · rw [absI_neg ha, absI_neg hb, absI_pos (Int.le_of_lt (Int.mul_pos_of_neg_of_neg ha hb))]; grind
  · have : a * b ≤ 0 := Int.mul_nonpos_of_nonpos_of_nonneg (Int.le_of_lt ha) hb
    rw [absI_neg ha, absI_pos hb]
    rcases Int.lt_or_le (a * b) 0 with h | h
    · rw [absI_neg h, Int.neg_mul]
    · rw [absI_pos h, Int.neg_mul]; omega
  · have : a * b ≤ 0 := Int.mul_nonpos_of_nonneg_of_nonpos ha (Int.le_of_lt hb)
    rw [absI_pos ha, absI_neg hb]
    rcases Int.lt_or_le (a * b) 0 with h | h
    · rw [absI_neg h, Int.mul_neg]
    · rw [absI_pos h, Int.mul_neg]; omega
  · rw [absI_pos ha, absI_pos hb, absI_pos (Int.mul_nonneg ha hb)]
theorem size_any (a : Int) (w : World) (ha : I64 a) : Calls Tryd.prog 114 #[.int .i64 a] w (Gives (.int .u64 (absI a)) w) := by
  unfold I64 at ha
  obtain ⟨h1, h2⟩ := ha
  by_cases h : a < 0
  · have e1 : IntKind.u64.wrap (-(IntKind.u64.wrap a)) = -a := by go_arith
    have e2 : IntKind.u64.wrap (-a) = -a := by go_arith
    rw [absI_neg h]
    go_enter Tryd.func114, Tryd.ntmps114
    go_wp2_with (first | ((first | with_reducible refine wrx2 ?_ | with_reducible refine wrx ?_); (repeat (first | go_big_quiet_step ((first | fail)) | quiet_step ((first | fail)))); refine wpQuiet_nil ?_; rintro _ ⟨yr, rfl⟩; have syr := Ext.size yr; (repeat (first | rw [World.size_alloc] at syr | rw [World.size_setCell] at syr | rw [World.size_drew] at syr))))
    go_returns
    refine ⟨by first | rfl | simp [e1] | simp [e2], ?_⟩
    repeat' (first | (with_reducible exact Below.refl _ _) | (with_reducible assumption) | (with_reducible refine Ext.below _ ?_ ?_) | (with_reducible refine Below.on ?_ (by with_reducible assumption) ?_) | (with_reducible refine Below.alloc ?_ ?_ _) | (with_reducible refine Below.drew ?_) | (with_reducible refine Below.setCell ?_ ?_ _) | (with_reducible exact Nat.le_refl _) | omega | (simp; done) | (simp [go_sem]; done) | (simp at *; omega))
  · have e1 : IntKind.u64.wrap a = a := by go_arith
    rw [absI_pos (by omega)]
    go_enter Tryd.func114, Tryd.ntmps114
    go_wp2_with (first | ((first | with_reducible refine wrx2 ?_ | with_reducible refine wrx ?_); (repeat (first | go_big_quiet_step ((first | fail)) | quiet_step ((first | fail)))); refine wpQuiet_nil ?_; rintro _ ⟨yr, rfl⟩; have syr := Ext.size yr; (repeat (first | rw [World.size_alloc] at syr | rw [World.size_setCell] at syr | rw [World.size_drew] at syr))))
    go_returns
    refine ⟨by first | rfl | simp [e1], ?_⟩
    repeat' (first | (with_reducible exact Below.refl _ _) | (with_reducible assumption) | (with_reducible refine Ext.below _ ?_ ?_) | (with_reducible refine Below.on ?_ (by with_reducible assumption) ?_) | (with_reducible refine Below.alloc ?_ ?_ _) | (with_reducible refine Below.drew ?_) | (with_reducible refine Below.setCell ?_ ?_ _) | (with_reducible exact Nat.le_refl _) | omega | (simp; done) | (simp [go_sem]; done) | (simp at *; omega))
/-- A product, as the reference has it. -/
def refw (n : Int) : Value := .agg #[.bool (decide (n < 0)), .int .u64 (absI n / 18446744073709551616), .int .u64 (absI n % 18446744073709551616)]
theorem neg_iff (a b : Int) : ((decide (a < 0) != decide (b < 0)) && (decide (0 < absI (a * b) / 18446744073709551616) || decide (0 < absI (a * b) % 18446744073709551616))) = decide (a * b < 0) := by
  rw [Bool.eq_iff_iff]
  have h0 := absI_nonneg (a * b)
  have key : (0 < absI (a * b) / 18446744073709551616 ∨ 0 < absI (a * b) % 18446744073709551616) ↔ a * b ≠ 0 := by
    unfold absI at *; split at h0 <;> split <;> omega
  simp only [Bool.and_eq_true, Bool.or_eq_true, decide_eq_true_eq, bne_iff_ne, ne_eq, decide_eq_decide, key]
  rcases Int.lt_trichotomy a 0 with ha | ha | ha <;> rcases Int.lt_trichotomy b 0 with hb | hb | hb
  · have := Int.mul_pos_of_neg_of_neg ha hb; omega
  · subst hb; simp
  · have := Int.mul_neg_of_neg_of_pos ha hb; omega
  · subst ha; simp
  · subst ha; simp
  · subst ha; simp
  · have := Int.mul_neg_of_pos_of_neg ha hb; omega
  · subst hb; simp
  · have := Int.mul_pos ha hb; omega
set_option maxHeartbeats 1000000 in
theorem wideOf_any (a b : Int) (w : World) (ha : I64 a) (hb : I64 b) : Calls Tryd.prog 108 #[.int .i64 a, .int .i64 b] w (Gives (refw (a * b)) w) := by
  have hm := fun W => mul64 (absI a) (absI b) (absI_nonneg a) (by unfold absI I64 at *; split <;> omega) (absI_nonneg b) (by unfold absI I64 at *; split <;> omega) W
  rw [absI_mul] at hm
  have H := Go.Lib.hid (neg_iff a b)
  have HM := Go.Lib.hid hm
  clear hm
  have b1 : 0 ≤ absI (a * b) / 18446744073709551616 := by have := absI_nonneg (a * b); omega
  have b2 : 0 ≤ absI (a * b) % 18446744073709551616 := by omega
  unfold refw
  rw [← H.out]
  generalize absI (a * b) / 18446744073709551616 = hi at *
  generalize absI (a * b) % 18446744073709551616 = lo at *
  clear H
  cases ha0 : decide (a < 0) <;> cases hb0 : decide (b < 0) <;> cases h2 : decide (0 < hi)
  all_goals
    simp only [bne_self_eq_false, Bool.true_bne, Bool.false_bne, Bool.not_false, Bool.false_and, Bool.true_and, Bool.false_or, Bool.true_or]
    go_enter Tryd.func108, Tryd.ntmps108
    go_wp2_with (first | ((first | with_reducible refine wrx2 ?_ | with_reducible refine wrx ?_); (repeat (first | go_big_quiet_step ((first | (go_at_call 114; with_reducible exact Calls.ext (size_any _ _ (by assumption))))) | quiet_step ((first | (go_at_call 114; with_reducible exact Calls.ext (size_any _ _ (by assumption))))))); refine wpQuiet_nil ?_; rintro _ ⟨yr, rfl⟩; have syr := Ext.size yr; (repeat (first | rw [World.size_alloc] at syr | rw [World.size_setCell] at syr | rw [World.size_drew] at syr))) | (go_at_call 114; (first | with_reducible refine (Calls.giv2 (size_any _ _ (by assumption))).mono ?_ | with_reducible refine (Calls.giv (size_any _ _ (by assumption))).mono ?_); rintro _ _ ⟨y1, rfl, rfl⟩; have sy1 := Ext.size y1; (repeat (first | rw [World.size_alloc] at sy1 | rw [World.size_setCell] at sy1 | rw [World.size_drew] at sy1))) | (go_at_call 113; refine (HM.out _).mono ?_; rintro e w' ⟨rfl, rfl⟩))
    have l0 : y1.now.cell? ⟨w.heap.size, 0, none⟩ = some (.bool false) := (y1.cell (by simp)).trans (by simp [go_sem])
    have l1 : y1.now.cell? ⟨w.heap.size, 1, none⟩ = some (.int .u64 0) := (y1.cell (by simp)).trans (by simp [go_sem])
    have l2 : y1.now.cell? ⟨w.heap.size, 2, none⟩ = some (.int .u64 0) := (y1.cell (by simp)).trans (by simp [go_sem])
    refine bodyPost_ret (by simp [results, Tryd.results108, go_sem, l0, l1, l2]; rfl) rfl ?_
    refine ⟨rfl, ?_⟩
    repeat' (first | (with_reducible exact Below.refl _ _) | (with_reducible assumption) | (with_reducible refine Ext.below _ ?_ ?_) | (with_reducible refine Below.on ?_ (by with_reducible assumption) ?_) | (with_reducible refine Below.alloc ?_ ?_ _) | (with_reducible refine Below.drew ?_) | (with_reducible refine Below.setCell ?_ ?_ _) | (with_reducible exact Nat.le_refl _) | omega | (simp; done) | (simp [go_sem]; done) | (simp at *; omega))
theorem cmp_abs (m n : Int) (_hm : 0 ≤ m) (_hn : 0 ≤ n) : cmpw (m / 18446744073709551616) (m % 18446744073709551616) (n / 18446744073709551616) (n % 18446744073709551616) = sgn (m - n) := by
  rw [cmpw_at]; unfold sgn
  repeat' split
  all_goals first | rfl | omega
end Go.Proofs.YtlmhbggigbmeaaaDoor
namespace Go.Proofs.YtlmhbggigbmeaaaDoor
open Go.RowKit
theorem sq0 (a : Int) : 0 ≤ a * a := by
  rcases Int.le_total 0 a with h | h
  · exact Int.mul_nonneg h h
  · exact Int.mul_nonneg_of_nonpos_of_nonpos h h
theorem sq_mono {a b : Int} (h0 : 0 ≤ a) (h : a ≤ b) : a * a ≤ b * b := Int.mul_le_mul h h h0 (by omega)
theorem near_mono {x y r s : Int} (h0 : 0 ≤ r) (h : r ≤ s) (hn : nearB x y r = true) : nearB x y s = true := by
  have := sq_mono h0 h
  simp only [nearB, decide_eq_true_eq] at *; omega
theorem within_mono {px py qx qy r s : Int} (h0 : 0 ≤ r) (h : r ≤ s) (hn : withinB px py qx qy r = true) : withinB px py qx qy s = true := by
  unfold withinB at *
  split
  · rw [if_pos (by assumption)] at hn; exact near_mono h0 h hn
  · rw [if_neg (by assumption)] at hn
    split
    · rw [if_pos (by assumption)] at hn; exact near_mono h0 h hn
    · rw [if_neg (by assumption)] at hn
      have a := sq_mono h0 h
      have b := sq0 (qx - px); have c := sq0 (qy - py)
      have d := Int.mul_le_mul_of_nonneg_right a (show 0 ≤ (qx - px) * (qx - px) + (qy - py) * (qy - py) by omega)
      simp only [decide_eq_true_eq] at *; omega
theorem sum_sq_zero {a b : Int} (h : a * a + b * b ≤ 0) : a = 0 ∧ b = 0 := by
  have := sq0 a; have := sq0 b
  have h1 : a * a = 0 := by omega
  have h2 : b * b = 0 := by omega
  exact ⟨by rcases Int.mul_eq_zero.1 h1 with h | h <;> exact h, by rcases Int.mul_eq_zero.1 h2 with h | h <;> exact h⟩
theorem within_swap (px py qx qy r : Int) : withinB px py qx qy r = withinB qx qy px py r := by
  unfold withinB
  have e1 : qx * (px - qx) + qy * (py - qy) = -(qx * (qx - px) + qy * (qy - py)) := by grind
  have e2 : px * (px - qx) + py * (py - qy) = -(px * (qx - px) + py * (qy - py)) := by grind
  have e3 : (qx * py - qy * px) * (qx * py - qy * px) = (px * qy - py * qx) * (px * qy - py * qx) := by grind
  have e4 : (px - qx) * (px - qx) + (py - qy) * (py - qy) = (qx - px) * (qx - px) + (qy - py) * (qy - py) := by grind
  have e5 : (qx - px) * (qx - px) + (qy - py) * (qy - py) = (qx * (qx - px) + qy * (qy - py)) - (px * (qx - px) + py * (qy - py)) := by grind
  rw [e1, e2, e3, e4]
  by_cases h1 : 0 ≤ px * (qx - px) + py * (qy - py) <;> by_cases h2 : qx * (qx - px) + qy * (qy - py) ≤ 0
  · have := sum_sq_zero (a := qx - px) (b := qy - py) (by omega)
    have a : qx = px := by omega
    have b : qy = py := by omega
    subst a b; simp
  · rw [if_pos h1, if_neg (by omega), if_pos (by omega)]
  · rw [if_neg h1, if_pos h2, if_pos (by omega)]
  · rw [if_neg h1, if_neg h2, if_neg (by omega), if_neg (by omega)]
theorem within_left {px py qx qy r : Int} (h : nearB px py r = true) : withinB px py qx qy r = true := by
  unfold withinB
  split
  · exact h
  · rename_i h1
    split
    · rename_i h2
      have e : qx * qx + qy * qy + ((qx - px) * (qx - px) + (qy - py) * (qy - py)) = px * px + py * py + 2 * (qx * (qx - px) + qy * (qy - py)) := by grind
      have := sq0 (qx - px); have := sq0 (qy - py)
      simp only [nearB, decide_eq_true_eq] at *; omega
    · rename_i h2
      have e : (px * px + py * py) * ((qx - px) * (qx - px) + (qy - py) * (qy - py)) = (px * qy - py * qx) * (px * qy - py * qx) + (px * (qx - px) + py * (qy - py)) * (px * (qx - px) + py * (qy - py)) := by grind
      have := sq0 (px * (qx - px) + py * (qy - py))
      have a := sq0 (qx - px); have b := sq0 (qy - py)
      simp only [nearB, decide_eq_true_eq] at *
      have := Int.mul_le_mul_of_nonneg_right h (show 0 ≤ (qx - px) * (qx - px) + (qy - py) * (qy - py) by omega)
      omega
theorem within_right {px py qx qy r : Int} (h : nearB qx qy r = true) : withinB px py qx qy r = true := by
  rw [within_swap]; exact within_left h
/-- The search ends where the test turns. -/
theorem bs_spec (p : Int → Bool) : ∀ (f : Nat) (i j : Int), i ≤ j → j - i < 2 ^ f → i ≤ bs p f i j ∧ bs p f i j ≤ j ∧ (bs p f i j < j → p (bs p f i j) = true) ∧ (i < bs p f i j → p (bs p f i j - 1) = false)
  | 0, i, j, h1, h2 => by
    simp at h2
    exact ⟨Int.le_refl _, h1, fun h => by simp only [bs] at h; omega, fun h => by simp only [bs] at h; omega⟩
  | f + 1, i, j, h1, h2 => by
    rw [Int.pow_succ] at h2
    by_cases h : i < j
    · cases hp : p ((i + j) / 2)
      · rw [bs_no p f i j h hp]
        obtain ⟨a, b, c, d⟩ := bs_spec p f ((i + j) / 2 + 1) j (by omega) (by omega)
        refine ⟨by omega, b, c, fun _ => ?_⟩
        by_cases e : (i + j) / 2 + 1 < bs p f ((i + j) / 2 + 1) j
        · exact d e
        · rw [show bs p f ((i + j) / 2 + 1) j - 1 = (i + j) / 2 by omega]; exact hp
      · rw [bs_yes p f i j h hp]
        obtain ⟨a, b, c, d⟩ := bs_spec p f i ((i + j) / 2) (by omega) (by omega)
        refine ⟨a, by omega, fun _ => ?_, d⟩
        by_cases e : bs p f i ((i + j) / 2) < (i + j) / 2
        · exact c e
        · rw [show bs p f i ((i + j) / 2) = (i + j) / 2 by omega]; exact hp
    · rw [bs_end p (f + 1) i j h]
      exact ⟨Int.le_refl _, h1, fun h' => absurd h' h, fun h' => absurd h' (by omega)⟩
/-- What a segment misses by. -/
theorem miss_spec {px py qx qy : Int} (h1 : -2000 ≤ px ∧ px ≤ 2000) (h2 : -2000 ≤ py ∧ py ≤ 2000) (h3 : -2000 ≤ qx ∧ qx ≤ 2000) (h4 : -2000 ≤ qy ∧ qy ≤ 2000) :
    0 ≤ missI px py qx qy ∧ missI px py qx qy ≤ 4000 ∧ withinB px py qx qy (missI px py qx qy) = true ∧ (missI px py qx qy ≠ 0 → withinB px py qx qy (missI px py qx qy - 1) = false) := by
  have f1 : farB px py = true := by unfold farB; simp; omega
  have f2 : farB qx qy = true := by unfold farB; simp; omega
  have e : missI px py qx qy = bs (withinB px py qx qy) 30 0 536870912 := by simp [missI, f1, f2]
  obtain ⟨a, b, c, d⟩ := bs_spec (withinB px py qx qy) 30 0 536870912 (by decide) (by decide)
  rw [← e] at a b c d
  have hw : withinB px py qx qy 4000 = true := by
    apply within_left
    have a := sq_bounds (x := px) (B := 2000) h1.1 h1.2; have b := sq_bounds (x := py) (B := 2000) h2.1 h2.2
    simp only [nearB, decide_eq_true_eq]; omega
  have hle : missI px py qx qy ≤ 4000 := by
    rcases Int.lt_or_le 4000 (missI px py qx qy) with h | h
    · have := d (by omega)
      rw [within_mono (by decide) (show 4000 ≤ missI px py qx qy - 1 by omega) hw] at this
      cases this
    · exact h
  exact ⟨a, hle, c (by omega), fun h => d (by omega)⟩
/-- The least radius, found bit by bit. -/
def msl (p : Int → Bool) : Nat → Int → Int
  | 0, r => r
  | k + 1, r => msl p k (if p (r + 2 ^ k) then r else r + 2 ^ k)
theorem msl_spec (p : Int → Bool) : ∀ (k : Nat) (r : Int), -1 ≤ r → p (r + 2 ^ k) = true → (r = -1 ∨ p r = false) → -1 ≤ msl p k r ∧ msl p k r < r + 2 ^ k ∧ p (msl p k r + 1) = true ∧ (msl p k r = -1 ∨ p (msl p k r) = false)
  | 0, r, h0, h1, h2 => by
    simp at h1
    exact ⟨h0, by simp only [msl]; omega, h1, h2⟩
  | k + 1, r, h0, h1, h2 => by
    have hp : (0 : Int) < 2 ^ k := Int.pow_pos (by decide)
    have e : (2 : Int) ^ (k + 1) = 2 ^ k + 2 ^ k := by rw [Int.pow_succ]; omega
    unfold msl
    cases h : p (r + 2 ^ k)
    · simp only [Bool.false_eq_true, if_false]
      have := msl_spec p k (r + 2 ^ k) (by omega) (by rw [e] at h1; rw [show r + 2 ^ k + 2 ^ k = r + (2 ^ k + 2 ^ k) by omega]; exact h1) (.inr h)
      exact ⟨this.1, by omega, this.2.2⟩
    · simp only [if_true]
      have := msl_spec p k r h0 h h2
      exact ⟨this.1, by omega, this.2.2⟩
theorem miss_msl {px py qx qy : Int} (h1 : Far px) (h2 : Far py) : bs (withinB px py qx qy) 30 0 536870912 = msl (withinB px py qx qy) 30 (-1) + 1 := by
  unfold Far at h1 h2
  obtain ⟨a, b, c, d⟩ := bs_spec (withinB px py qx qy) 30 0 536870912 (by decide) (by decide)
  have hw : withinB px py qx qy 536870911 = true := by
    apply within_left
    have a := sq_bounds (x := px) (B := 268435456) h1.1 h1.2; have b := sq_bounds (x := py) (B := 268435456) h2.1 h2.2
    simp only [nearB, decide_eq_true_eq]; omega
  obtain ⟨e, f, g, k⟩ := msl_spec (withinB px py qx qy) 30 (-1) (by decide) (within_mono (by decide) (by decide) hw) (.inl rfl)
  have hlt : bs (withinB px py qx qy) 30 0 536870912 < 536870912 := by
    rcases Int.lt_or_le (bs (withinB px py qx qy) 30 0 536870912) 536870912 with h | h
    · exact h
    · have := d (by omega)
      rw [within_mono (by decide) (by omega) hw] at this
      cases this
  have c' := c hlt
  rcases Int.lt_trichotomy (bs (withinB px py qx qy) 30 0 536870912) (msl (withinB px py qx qy) 30 (-1) + 1) with h | h | h
  · rcases k with k | k
    · omega
    · rw [within_mono a (by omega) c'] at k
      cases k
  · exact h
  · have := d (by omega)
    rw [within_mono (by omega) (by omega) g] at this
    cases this
end Go.Proofs.YtlmhbggigbmeaaaDoor
namespace Go.Proofs.YtlmhbggigbmeaaaDoor
open Go.RowKit Go.Shelf
attribute [local go_sem] Ext.cell Ext.frozen Ext.lt Ext.le Ext.lt_add Ext.le_add Ext.ne Ext.ne' lt2 lt3 lt4 lt5 le2 le3 le4
def btwB (n lo hi : Int) : Bool := decide (lo ≤ n) && decide (n ≤ hi)
theorem between_any (n lo hi : Int) (w : World) : Calls Tryd.prog 112 #[.int .i64 n, .int .i64 lo, .int .i64 hi] w (Gives (.bool (btwB n lo hi)) w) := by
  unfold btwB
  by_cases h1 : lo ≤ n
  · simp only [h1, decide_true, Bool.true_and]
    go_enter Tryd.func112, Tryd.ntmps112
    go_wp2_with (first | ((first | with_reducible refine wrx2 ?_ | with_reducible refine wrx ?_); (repeat (first | go_big_quiet_step ((first | fail)) | quiet_step ((first | fail)))); refine wpQuiet_nil ?_; rintro _ ⟨yr, rfl⟩; have syr := Ext.size yr; (repeat (first | rw [World.size_alloc] at syr | rw [World.size_setCell] at syr | rw [World.size_drew] at syr))))
    go_returns
    refine ⟨rfl, ?_⟩
    repeat' (first | (with_reducible exact Below.refl _ _) | (with_reducible assumption) | (with_reducible refine Ext.below _ ?_ ?_) | (with_reducible refine Below.on ?_ (by with_reducible assumption) ?_) | (with_reducible refine Below.alloc ?_ ?_ _) | (with_reducible refine Below.drew ?_) | (with_reducible refine Below.setCell ?_ ?_ _) | (with_reducible exact Nat.le_refl _) | omega | (simp; done) | (simp [go_sem]; done) | (simp at *; omega))
  · simp only [h1, decide_false, Bool.false_and]
    go_enter Tryd.func112, Tryd.ntmps112
    go_wp2_with (first | ((first | with_reducible refine wrx2 ?_ | with_reducible refine wrx ?_); (repeat (first | go_big_quiet_step ((first | fail)) | quiet_step ((first | fail)))); refine wpQuiet_nil ?_; rintro _ ⟨yr, rfl⟩; have syr := Ext.size yr; (repeat (first | rw [World.size_alloc] at syr | rw [World.size_setCell] at syr | rw [World.size_drew] at syr))))
    go_returns
    refine ⟨rfl, ?_⟩
    repeat' (first | (with_reducible exact Below.refl _ _) | (with_reducible assumption) | (with_reducible refine Ext.below _ ?_ ?_) | (with_reducible refine Below.on ?_ (by with_reducible assumption) ?_) | (with_reducible refine Below.alloc ?_ ?_ _) | (with_reducible refine Below.drew ?_) | (with_reducible refine Below.setCell ?_ ?_ _) | (with_reducible exact Nat.le_refl _) | omega | (simp; done) | (simp [go_sem]; done) | (simp at *; omega))
def far1 (n : Int) : Bool := btwB n (-268435456) 268435456
theorem far1_farB (x y : Int) : (far1 x && far1 y) = farB x y := by unfold far1 btwB farB; rw [Bool.eq_iff_iff]; simp; omega
theorem btwB_rad (r : Int) : btwB r 0 268435456 = radB r := by unfold btwB radB; rw [Bool.eq_iff_iff]; simp
end Go.Proofs.YtlmhbggigbmeaaaDoor
namespace Go.Proofs.YtlmhbggigbmeaaaDoor
open Go.RowKit Go.Shelf
attribute [local go_sem] Ext.cell Ext.frozen Ext.lt Ext.le Ext.lt_add Ext.le_add Ext.ne Ext.ne' lt2 lt3 lt4 lt5 le2 le3 le4
theorem btwB_num (n : Int) : btwB n (-1152921504606846976) 1152921504606846976 = numB n := by unfold btwB numB; rw [Bool.eq_iff_iff]; simp
theorem fits_any (n : Int) (w : World) : Calls Tryd.prog 107 #[.int .i64 n] w (Gives (.bool (numB n)) w) := by
  rw [← btwB_num]
  go_enter Tryd.func107, Tryd.ntmps107
  go_wp2_with (first | ((first | with_reducible refine wrx2 ?_ | with_reducible refine wrx ?_); (repeat (first | go_big_quiet_step ((first | (go_at_call 112; with_reducible exact Calls.ext (between_any _ _ _ _)))) | quiet_step ((first | (go_at_call 112; with_reducible exact Calls.ext (between_any _ _ _ _)))))); refine wpQuiet_nil ?_; rintro _ ⟨yr, rfl⟩; have syr := Ext.size yr; (repeat (first | rw [World.size_alloc] at syr | rw [World.size_setCell] at syr | rw [World.size_drew] at syr))) | (go_at_call 112; (first | with_reducible refine (Calls.giv2 (between_any _ _ _ _)).mono ?_ | with_reducible refine (Calls.giv (between_any _ _ _ _)).mono ?_); rintro _ _ ⟨y1, rfl, rfl⟩; have sy1 := Ext.size y1; (repeat (first | rw [World.size_alloc] at sy1 | rw [World.size_setCell] at sy1 | rw [World.size_drew] at sy1))))
  go_returns
  refine ⟨rfl, ?_⟩
  repeat' (first | (with_reducible exact Below.refl _ _) | (with_reducible assumption) | (with_reducible refine Ext.below _ ?_ ?_) | (with_reducible refine Below.on ?_ (by with_reducible assumption) ?_) | (with_reducible refine Below.alloc ?_ ?_ _) | (with_reducible refine Below.drew ?_) | (with_reducible refine Below.setCell ?_ ?_ _) | (with_reducible exact Nat.le_refl _) | omega | (simp; done) | (simp [go_sem]; done) | (simp at *; omega))
end Go.Proofs.YtlmhbggigbmeaaaDoor
namespace Go.Proofs.YtlmhbggigbmeaaaDoor
open Go.RowKit Go.Shelf
attribute [local go_sem] Ext.cell Ext.frozen Ext.lt Ext.le Ext.lt_add Ext.le_add Ext.ne Ext.ne' lt2 lt3 lt4 lt5 le2 le3 le4
def rootsE (a b : Int) : Int := if chk a b = 0 then (if a < 0 then 2 else 0) else chk a b
/-- The root, rounded up. -/
def rootU (n : Int) : Int := if rootI n * rootI n < n then rootI n + 1 else rootI n
def rootsL (a b : Int) : Int := if rootsE a b = 0 then rootI a else 0
def rootsH (a b : Int) : Int := if rootsE a b = 0 then rootU b else 0
theorem rootI_small {n : Int} (h0 : 0 ≤ n) (h1 : n ≤ 1152921504606846976) : 0 ≤ rootI n ∧ rootI n ≤ 1073741824 := by
  obtain ⟨a, b, _⟩ := rootI_spec h0 (by omega)
  refine ⟨a, ?_⟩
  rcases Int.lt_or_le 1073741824 (rootI n) with h | h
  · have := Int.mul_le_mul (show (1073741825 : Int) ≤ rootI n by omega) (show (1073741825 : Int) ≤ rootI n by omega) (by decide) a
    omega
  · exact h
end Go.Proofs.YtlmhbggigbmeaaaDoor
namespace Go.Proofs.YtlmhbggigbmeaaaDoor
open Go.RowKit Go.Shelf
attribute [local go_sem] Ext.cell Ext.frozen Ext.lt Ext.le Ext.lt_add Ext.le_add Ext.ne Ext.ne' lt2 lt3 lt4 lt5 le2 le3 le4
end Go.Proofs.YtlmhbggigbmeaaaDoor

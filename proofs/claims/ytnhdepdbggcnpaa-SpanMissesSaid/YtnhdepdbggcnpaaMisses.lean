/- SpanMisses: a segment comes within a radius in either order, within each greater one, if one of its ends does, and just within what it misses by. No condition. -/
import Derived.Test.YtnhdepdbggcnpaaLaw
import Derived.Test.YtnhdepdbggcnpaaAwake
import Derived.Test.YtnhdepdbggcnpaaKit
namespace Go.Proofs.Ytnhdepdbggcnpaa
open Go.ChangeShapes Go.WideShapes Go.ChangeAt Go.RowKit Go.Joins
attribute [local go_sem] Ext.cell Ext.frozen Ext.lt Ext.le Ext.lt_add Ext.le_add Ext.ne Ext.ne' lt2 lt3 lt4 lt5 le2 le3 le4
theorem sq0 (a : Int) : 0 ≤ a * a := by
  rcases Int.le_total 0 a with h | h
  · exact Int.mul_nonneg h h
  · exact Int.mul_nonneg_of_nonpos_of_nonpos h h
theorem sq_mono {a b : Int} (h0 : 0 ≤ a) (h : a ≤ b) : a * a ≤ b * b := Int.mul_le_mul h h h0 (by omega)
theorem near_mono {x y r s : Int} (h0 : 0 ≤ r) (h : r ≤ s) (hn : nearB x y r = true) : nearB x y s = true := by
  have := sq_mono h0 h
  simp only [nearB, decide_eq_true_eq] at *; omega
theorem within_mono {px py qx qy r s : Int} (h0 : 0 ≤ r) (h : r ≤ s) (hn : withinB px py qx qy r = true) : withinB px py qx qy s = true := by
  unfold withinB at *
  split
  · rw [if_pos (by assumption)] at hn; exact near_mono h0 h hn
  · rw [if_neg (by assumption)] at hn
    split
    · rw [if_pos (by assumption)] at hn; exact near_mono h0 h hn
    · rw [if_neg (by assumption)] at hn
      have a := sq_mono h0 h
      have b := sq0 (qx - px); have c := sq0 (qy - py)
      have d := Int.mul_le_mul_of_nonneg_right a (show 0 ≤ (qx - px) * (qx - px) + (qy - py) * (qy - py) by omega)
      simp only [decide_eq_true_eq] at *; omega
theorem sum_sq_zero {a b : Int} (h : a * a + b * b ≤ 0) : a = 0 ∧ b = 0 := by
  have := sq0 a; have := sq0 b
  have h1 : a * a = 0 := by omega
  have h2 : b * b = 0 := by omega
  exact ⟨by rcases Int.mul_eq_zero.1 h1 with h | h <;> exact h, by rcases Int.mul_eq_zero.1 h2 with h | h <;> exact h⟩
theorem within_swap (px py qx qy r : Int) : withinB px py qx qy r = withinB qx qy px py r := by
  unfold withinB
  have e1 : qx * (px - qx) + qy * (py - qy) = -(qx * (qx - px) + qy * (qy - py)) := by grind
  have e2 : px * (px - qx) + py * (py - qy) = -(px * (qx - px) + py * (qy - py)) := by grind
  have e3 : (qx * py - qy * px) * (qx * py - qy * px) = (px * qy - py * qx) * (px * qy - py * qx) := by grind
  have e4 : (px - qx) * (px - qx) + (py - qy) * (py - qy) = (qx - px) * (qx - px) + (qy - py) * (qy - py) := by grind
  have e5 : (qx - px) * (qx - px) + (qy - py) * (qy - py) = (qx * (qx - px) + qy * (qy - py)) - (px * (qx - px) + py * (qy - py)) := by grind
  rw [e1, e2, e3, e4]
  by_cases h1 : 0 ≤ px * (qx - px) + py * (qy - py) <;> by_cases h2 : qx * (qx - px) + qy * (qy - py) ≤ 0
  · have := sum_sq_zero (a := qx - px) (b := qy - py) (by omega)
    have a : qx = px := by omega
    have b : qy = py := by omega
    subst a b; simp
  · rw [if_pos h1, if_neg (by omega), if_pos (by omega)]
  · rw [if_neg h1, if_pos h2, if_pos (by omega)]
  · rw [if_neg h1, if_neg h2, if_neg (by omega), if_neg (by omega)]
theorem within_left {px py qx qy r : Int} (h : nearB px py r = true) : withinB px py qx qy r = true := by
  unfold withinB
  split
  · exact h
  · rename_i h1
    split
    · rename_i h2
      have e : qx * qx + qy * qy + ((qx - px) * (qx - px) + (qy - py) * (qy - py)) = px * px + py * py + 2 * (qx * (qx - px) + qy * (qy - py)) := by grind
      have := sq0 (qx - px); have := sq0 (qy - py)
      simp only [nearB, decide_eq_true_eq] at *; omega
    · rename_i h2
      have e : (px * px + py * py) * ((qx - px) * (qx - px) + (qy - py) * (qy - py)) = (px * qy - py * qx) * (px * qy - py * qx) + (px * (qx - px) + py * (qy - py)) * (px * (qx - px) + py * (qy - py)) := by grind
      have := sq0 (px * (qx - px) + py * (qy - py))
      have a := sq0 (qx - px); have b := sq0 (qy - py)
      simp only [nearB, decide_eq_true_eq] at *
      have := Int.mul_le_mul_of_nonneg_right h (show 0 ≤ (qx - px) * (qx - px) + (qy - py) * (qy - py) by omega)
      omega
theorem within_right {px py qx qy r : Int} (h : nearB qx qy r = true) : withinB px py qx qy r = true := by
  rw [within_swap]; exact within_left h
/-- The search ends where the test turns. -/
theorem bs_spec (p : Int → Bool) : ∀ (f : Nat) (i j : Int), i ≤ j → j - i < 2 ^ f → i ≤ bs p f i j ∧ bs p f i j ≤ j ∧ (bs p f i j < j → p (bs p f i j) = true) ∧ (i < bs p f i j → p (bs p f i j - 1) = false)
  | 0, i, j, h1, h2 => by
    simp at h2
    exact ⟨Int.le_refl _, h1, fun h => by simp only [bs] at h; omega, fun h => by simp only [bs] at h; omega⟩
  | f + 1, i, j, h1, h2 => by
    rw [Int.pow_succ] at h2
    by_cases h : i < j
    · cases hp : p ((i + j) / 2)
      · rw [bs_no p f i j h hp]
        obtain ⟨a, b, c, d⟩ := bs_spec p f ((i + j) / 2 + 1) j (by omega) (by omega)
        refine ⟨by omega, b, c, fun _ => ?_⟩
        by_cases e : (i + j) / 2 + 1 < bs p f ((i + j) / 2 + 1) j
        · exact d e
        · rw [show bs p f ((i + j) / 2 + 1) j - 1 = (i + j) / 2 by omega]; exact hp
      · rw [bs_yes p f i j h hp]
        obtain ⟨a, b, c, d⟩ := bs_spec p f i ((i + j) / 2) (by omega) (by omega)
        refine ⟨a, by omega, fun _ => ?_, d⟩
        by_cases e : bs p f i ((i + j) / 2) < (i + j) / 2
        · exact c e
        · rw [show bs p f i ((i + j) / 2) = (i + j) / 2 by omega]; exact hp
    · rw [bs_end p (f + 1) i j h]
      exact ⟨Int.le_refl _, h1, fun h' => absurd h' h, fun h' => absurd h' (by omega)⟩
/-- What a segment misses by. -/
theorem miss_spec {px py qx qy : Int} (h1 : -2000 ≤ px ∧ px ≤ 2000) (h2 : -2000 ≤ py ∧ py ≤ 2000) (h3 : -2000 ≤ qx ∧ qx ≤ 2000) (h4 : -2000 ≤ qy ∧ qy ≤ 2000) :
    0 ≤ missI px py qx qy ∧ missI px py qx qy ≤ 4000 ∧ withinB px py qx qy (missI px py qx qy) = true ∧ (missI px py qx qy ≠ 0 → withinB px py qx qy (missI px py qx qy - 1) = false) := by
  have f1 : farB px py = true := by unfold farB; simp; omega
  have f2 : farB qx qy = true := by unfold farB; simp; omega
  have e : missI px py qx qy = bs (withinB px py qx qy) 30 0 536870912 := by simp [missI, f1, f2]
  obtain ⟨a, b, c, d⟩ := bs_spec (withinB px py qx qy) 30 0 536870912 (by decide) (by decide)
  rw [← e] at a b c d
  have hw : withinB px py qx qy 4000 = true := by
    apply within_left
    have a := sq_bounds (x := px) (B := 2000) h1.1 h1.2; have b := sq_bounds (x := py) (B := 2000) h2.1 h2.2
    simp only [nearB, decide_eq_true_eq]; omega
  have hle : missI px py qx qy ≤ 4000 := by
    rcases Int.lt_or_le 4000 (missI px py qx qy) with h | h
    · have := d (by omega)
      rw [within_mono (by decide) (show 4000 ≤ missI px py qx qy - 1 by omega) hw] at this
      cases this
    · exact h
  exact ⟨a, hle, c (by omega), fun h => d (by omega)⟩
set_option maxHeartbeats 2000000 in
theorem SpanMisses_walk (p0x p0y q0x q0y r0 more0 px py qx qy r more m : Int) (i n1 n2 : Bool) (w : World)
    (S1 : Hid (∀ W, Calls Try.prog 14 #[.agg #[.int .i64 p0x, .int .i64 p0y]] W (Gives (.agg #[.int .i64 px, .int .i64 py]) W)))
    (S2 : Hid (∀ W, Calls Try.prog 14 #[.agg #[.int .i64 q0x, .int .i64 q0y]] W (Gives (.agg #[.int .i64 qx, .int .i64 qy]) W)))
    (R1 : Hid (∀ W, Calls Try.prog 15 #[.int .i64 r0, .int .i64 3000] W (Gives (.int .i64 r) W)))
    (R2 : Hid (∀ W, Calls Try.prog 15 #[.int .i64 more0, .int .i64 100] W (Gives (.int .i64 more) W)))
    (WI : Hid (∀ W, Calls Try.prog 16 #[.agg #[.int .i64 px, .int .i64 py], .agg #[.int .i64 qx, .int .i64 qy], .int .i64 r] W (Gives (.bool i) W)))
    (WS : Hid (∀ W, Calls Try.prog 16 #[.agg #[.int .i64 qx, .int .i64 qy], .agg #[.int .i64 px, .int .i64 py], .int .i64 r] W (Gives (.bool i) W)))
    (WM : Hid (i = true → ∀ W, Calls Try.prog 16 #[.agg #[.int .i64 px, .int .i64 py], .agg #[.int .i64 qx, .int .i64 qy], .int .i64 (r + more)] W (Gives (.bool true) W)))
    (N1 : Hid (∀ W, Calls Try.prog 17 #[.agg #[.int .i64 px, .int .i64 py], .int .i64 r] W (Gives (.bool n1) W)))
    (N2 : Hid (∀ W, Calls Try.prog 17 #[.agg #[.int .i64 qx, .int .i64 qy], .int .i64 r] W (Gives (.bool n2) W)))
    (MI : Hid (∀ W, Calls Try.prog 18 #[.agg #[.int .i64 px, .int .i64 py], .agg #[.int .i64 qx, .int .i64 qy]] W (Gives (.int .i64 m) W)))
    (MS : Hid (∀ W, Calls Try.prog 18 #[.agg #[.int .i64 qx, .int .i64 qy], .agg #[.int .i64 px, .int .i64 py]] W (Gives (.int .i64 m) W)))
    (WA : Hid (∀ W, Calls Try.prog 16 #[.agg #[.int .i64 px, .int .i64 py], .agg #[.int .i64 qx, .int .i64 qy], .int .i64 m] W (Gives (.bool true) W)))
    (WB : Hid (m ≠ 0 → ∀ W, Calls Try.prog 16 #[.agg #[.int .i64 px, .int .i64 py], .agg #[.int .i64 qx, .int .i64 qy], .int .i64 (m - 1)] W (Gives (.bool false) W)))
    (hc : i = decide (m ≤ r)) (hn1 : n1 = true → i = true) (hn2 : n2 = true → i = true) (b1 : 0 ≤ r) (b2 : r < 3000) (b3 : 0 ≤ more) (b4 : more < 100) (b5 : 0 ≤ m) (b6 : m ≤ 4000) :
    Calls Try.prog 4 #[.agg #[.int .i64 p0x, .int .i64 p0y], .agg #[.int .i64 q0x, .int .i64 q0y], .int .i64 r0, .int .i64 more0] w (Gives (.bool true) w) := by
  cases i
  · obtain rfl : n1 = false := by cases n1 <;> simp at hn1 ⊢
    obtain rfl : n2 = false := by cases n2 <;> simp at hn2 ⊢
    have hm : r < m := by simpa using hc
    have hm0 : m ≠ 0 := by omega
    have hm1 : (m == 0) = false := by simpa using hm0
    have WB' := Go.Lib.hid (WB.out hm0)
    have hd : decide (m ≤ r) = false := by simp; omega
    clear hc hn1 hn2 hm0 WM WB
    go_enter Try.func4, Try.ntmps4
    go_wp2_with (first | ((first | with_reducible refine wp_region_ext2 (by kernel_rfl) (by kernel_rfl) ?_ | with_reducible refine wp_region_ext (by kernel_rfl) (by kernel_rfl) ?_); (repeat (first | go_big_quiet_step ((first | fail)) | quiet_step ((first | fail)))); refine wpQuiet_nil ?_; rintro _ ⟨yr, rfl⟩; have syr := Ext.size yr; (repeat (first | rw [World.size_alloc] at syr | rw [World.size_setCell] at syr | rw [World.size_drew] at syr))))
    (first | with_reducible refine wp_region_ext2_heads 4 (by kernel_rfl) (by kernel_rfl) ?_ | with_reducible refine wp_region_ext_heads 4 (by kernel_rfl) (by kernel_rfl) ?_); simp only [List.take_succ_cons, List.take_zero, List.length_cons, List.length_nil, Nat.reduceAdd, Nat.reduceSub]; (repeat (first | go_big_quiet_step ((first | (go_at_call 14; with_reducible exact Calls.ext (S1.out _)) | (go_at_call 14; with_reducible exact Calls.ext (S2.out _)))) | quiet_step ((first | (go_at_call 14; with_reducible exact Calls.ext (S1.out _)) | (go_at_call 14; with_reducible exact Calls.ext (S2.out _)))))); refine wpQuiet_nil ?_; rintro _ ⟨yr, rfl⟩; have syr := Ext.size yr; (repeat (first | rw [World.size_alloc] at syr | rw [World.size_setCell] at syr | rw [World.size_drew] at syr)); (refine wpAny_ready (rs := [4]) (by kernel_rfl) (by simp) ?_; refine AllReady.cons rfl (fun K hK => ?_) AllReady.nil; go_simp; refine hK _ _ ?_; clear hK K); (refine wpAny_ready (rs := [5]) (by kernel_rfl) (by simp) ?_; refine AllReady.cons rfl (fun K hK => ?_) AllReady.nil; go_simp; refine hK _ _ ?_; clear hK K); refine wpAny_done (by kernel_rfl) ?_ _
    all_goals
      go_wp2_with (first | ((first | with_reducible refine wp_region_ext2 (by kernel_rfl) (by kernel_rfl) ?_ | with_reducible refine wp_region_ext (by kernel_rfl) (by kernel_rfl) ?_); (repeat (first | go_big_quiet_step ((first | (go_at_call 15; with_reducible exact Calls.ext (R1.out _)) | (go_at_call 15; with_reducible exact Calls.ext (R2.out _)) | (go_at_call 16; with_reducible exact Calls.ext (WI.out _)) | (go_at_call 16; with_reducible exact Calls.ext (WS.out _)) | (go_at_call 17; with_reducible exact Calls.ext (N1.out _)) | (go_at_call 17; with_reducible exact Calls.ext (N2.out _)) | (go_at_call 18; with_reducible exact Calls.ext (MI.out _)) | (go_at_call 18; with_reducible exact Calls.ext (MS.out _)) | (go_at_call 16; with_reducible exact Calls.ext (WA.out _)) | (go_at_call 16; with_reducible exact Calls.ext (WB'.out _)) | (go_at_call 11; with_reducible exact Calls.ext (awake_any _)))) | quiet_step ((first | (go_at_call 15; with_reducible exact Calls.ext (R1.out _)) | (go_at_call 15; with_reducible exact Calls.ext (R2.out _)) | (go_at_call 16; with_reducible exact Calls.ext (WI.out _)) | (go_at_call 16; with_reducible exact Calls.ext (WS.out _)) | (go_at_call 17; with_reducible exact Calls.ext (N1.out _)) | (go_at_call 17; with_reducible exact Calls.ext (N2.out _)) | (go_at_call 18; with_reducible exact Calls.ext (MI.out _)) | (go_at_call 18; with_reducible exact Calls.ext (MS.out _)) | (go_at_call 16; with_reducible exact Calls.ext (WA.out _)) | (go_at_call 16; with_reducible exact Calls.ext (WB'.out _)) | (go_at_call 11; with_reducible exact Calls.ext (awake_any _)))))); refine wpQuiet_nil ?_; rintro _ ⟨yr, rfl⟩; have syr := Ext.size yr; (repeat (first | rw [World.size_alloc] at syr | rw [World.size_setCell] at syr | rw [World.size_drew] at syr))) | (go_at_call 15; (first | with_reducible refine (Calls.giv2 (R1.out _)).mono ?_ | with_reducible refine (Calls.giv (R1.out _)).mono ?_); rintro _ _ ⟨y1, rfl, rfl⟩; have sy1 := Ext.size y1; (repeat (first | rw [World.size_alloc] at sy1 | rw [World.size_setCell] at sy1 | rw [World.size_drew] at sy1))) | (go_at_call 15; (first | with_reducible refine (Calls.giv2 (R2.out _)).mono ?_ | with_reducible refine (Calls.giv (R2.out _)).mono ?_); rintro _ _ ⟨y2, rfl, rfl⟩; have sy2 := Ext.size y2; (repeat (first | rw [World.size_alloc] at sy2 | rw [World.size_setCell] at sy2 | rw [World.size_drew] at sy2))) | (go_at_call 16; (first | with_reducible refine (Calls.giv2 (WI.out _)).mono ?_ | with_reducible refine (Calls.giv (WI.out _)).mono ?_); rintro _ _ ⟨y3, rfl, rfl⟩; have sy3 := Ext.size y3; (repeat (first | rw [World.size_alloc] at sy3 | rw [World.size_setCell] at sy3 | rw [World.size_drew] at sy3))) | (go_at_call 16; (first | with_reducible refine (Calls.giv2 (WS.out _)).mono ?_ | with_reducible refine (Calls.giv (WS.out _)).mono ?_); rintro _ _ ⟨y4, rfl, rfl⟩; have sy4 := Ext.size y4; (repeat (first | rw [World.size_alloc] at sy4 | rw [World.size_setCell] at sy4 | rw [World.size_drew] at sy4))) | (go_at_call 17; (first | with_reducible refine (Calls.giv2 (N1.out _)).mono ?_ | with_reducible refine (Calls.giv (N1.out _)).mono ?_); rintro _ _ ⟨y5, rfl, rfl⟩; have sy5 := Ext.size y5; (repeat (first | rw [World.size_alloc] at sy5 | rw [World.size_setCell] at sy5 | rw [World.size_drew] at sy5))) | (go_at_call 17; (first | with_reducible refine (Calls.giv2 (N2.out _)).mono ?_ | with_reducible refine (Calls.giv (N2.out _)).mono ?_); rintro _ _ ⟨y6, rfl, rfl⟩; have sy6 := Ext.size y6; (repeat (first | rw [World.size_alloc] at sy6 | rw [World.size_setCell] at sy6 | rw [World.size_drew] at sy6))) | (go_at_call 18; (first | with_reducible refine (Calls.giv2 (MI.out _)).mono ?_ | with_reducible refine (Calls.giv (MI.out _)).mono ?_); rintro _ _ ⟨y7, rfl, rfl⟩; have sy7 := Ext.size y7; (repeat (first | rw [World.size_alloc] at sy7 | rw [World.size_setCell] at sy7 | rw [World.size_drew] at sy7))) | (go_at_call 18; (first | with_reducible refine (Calls.giv2 (MS.out _)).mono ?_ | with_reducible refine (Calls.giv (MS.out _)).mono ?_); rintro _ _ ⟨y8, rfl, rfl⟩; have sy8 := Ext.size y8; (repeat (first | rw [World.size_alloc] at sy8 | rw [World.size_setCell] at sy8 | rw [World.size_drew] at sy8))) | (go_at_call 16; (first | with_reducible refine (Calls.giv2 (WA.out _)).mono ?_ | with_reducible refine (Calls.giv (WA.out _)).mono ?_); rintro _ _ ⟨y9, rfl, rfl⟩; have sy9 := Ext.size y9; (repeat (first | rw [World.size_alloc] at sy9 | rw [World.size_setCell] at sy9 | rw [World.size_drew] at sy9))) | (go_at_call 16; (first | with_reducible refine (Calls.giv2 (WB'.out _)).mono ?_ | with_reducible refine (Calls.giv (WB'.out _)).mono ?_); rintro _ _ ⟨y10, rfl, rfl⟩; have sy10 := Ext.size y10; (repeat (first | rw [World.size_alloc] at sy10 | rw [World.size_setCell] at sy10 | rw [World.size_drew] at sy10))) | (go_at_call 11; (first | with_reducible refine (Calls.giv2 (awake_any _)).mono ?_ | with_reducible refine (Calls.giv (awake_any _)).mono ?_); rintro _ _ ⟨y11, rfl, rfl⟩; have sy11 := Ext.size y11; (repeat (first | rw [World.size_alloc] at sy11 | rw [World.size_setCell] at sy11 | rw [World.size_drew] at sy11))))
      go_returns
      refine ⟨rfl, ?_⟩
      repeat' (first | (with_reducible exact Below.refl _ _) | (with_reducible assumption) | (with_reducible refine Ext.below _ ?_ ?_) | (with_reducible refine Below.on ?_ (by with_reducible assumption) ?_) | (with_reducible refine Below.alloc ?_ ?_ _) | (with_reducible refine Below.drew ?_) | (with_reducible refine Below.setCell ?_ ?_ _) | (with_reducible exact Nat.le_refl _) | omega | (simp; done) | (simp [go_sem]; done) | (simp at *; omega))
  · have hm : m ≤ r := by simpa using hc.symm
    have WM' := Go.Lib.hid (WM.out rfl)
    have hd : decide (m ≤ r) = true := by simpa using hm
    clear hc hn1 hn2 WM
    by_cases hm0 : m = 0
    · subst hm0
      clear WB
      cases n1 <;> cases n2
      all_goals
        go_enter Try.func4, Try.ntmps4
        go_wp2_with (first | ((first | with_reducible refine wp_region_ext2 (by kernel_rfl) (by kernel_rfl) ?_ | with_reducible refine wp_region_ext (by kernel_rfl) (by kernel_rfl) ?_); (repeat (first | go_big_quiet_step ((first | fail)) | quiet_step ((first | fail)))); refine wpQuiet_nil ?_; rintro _ ⟨yr, rfl⟩; have syr := Ext.size yr; (repeat (first | rw [World.size_alloc] at syr | rw [World.size_setCell] at syr | rw [World.size_drew] at syr))))
        (first | with_reducible refine wp_region_ext2_heads 4 (by kernel_rfl) (by kernel_rfl) ?_ | with_reducible refine wp_region_ext_heads 4 (by kernel_rfl) (by kernel_rfl) ?_); simp only [List.take_succ_cons, List.take_zero, List.length_cons, List.length_nil, Nat.reduceAdd, Nat.reduceSub]; (repeat (first | go_big_quiet_step ((first | (go_at_call 14; with_reducible exact Calls.ext (S1.out _)) | (go_at_call 14; with_reducible exact Calls.ext (S2.out _)))) | quiet_step ((first | (go_at_call 14; with_reducible exact Calls.ext (S1.out _)) | (go_at_call 14; with_reducible exact Calls.ext (S2.out _)))))); refine wpQuiet_nil ?_; rintro _ ⟨yr, rfl⟩; have syr := Ext.size yr; (repeat (first | rw [World.size_alloc] at syr | rw [World.size_setCell] at syr | rw [World.size_drew] at syr)); (refine wpAny_ready (rs := [4]) (by kernel_rfl) (by simp) ?_; refine AllReady.cons rfl (fun K hK => ?_) AllReady.nil; go_simp; refine hK _ _ ?_; clear hK K); (refine wpAny_ready (rs := [5]) (by kernel_rfl) (by simp) ?_; refine AllReady.cons rfl (fun K hK => ?_) AllReady.nil; go_simp; refine hK _ _ ?_; clear hK K); refine wpAny_done (by kernel_rfl) ?_ _
        all_goals
          go_wp2_with (first | ((first | with_reducible refine wp_region_ext2 (by kernel_rfl) (by kernel_rfl) ?_ | with_reducible refine wp_region_ext (by kernel_rfl) (by kernel_rfl) ?_); (repeat (first | go_big_quiet_step ((first | (go_at_call 15; with_reducible exact Calls.ext (R1.out _)) | (go_at_call 15; with_reducible exact Calls.ext (R2.out _)) | (go_at_call 16; with_reducible exact Calls.ext (WI.out _)) | (go_at_call 16; with_reducible exact Calls.ext (WS.out _)) | (go_at_call 16; with_reducible exact Calls.ext (WM'.out _)) | (go_at_call 17; with_reducible exact Calls.ext (N1.out _)) | (go_at_call 17; with_reducible exact Calls.ext (N2.out _)) | (go_at_call 18; with_reducible exact Calls.ext (MI.out _)) | (go_at_call 18; with_reducible exact Calls.ext (MS.out _)) | (go_at_call 16; with_reducible exact Calls.ext (WA.out _)) | (go_at_call 11; with_reducible exact Calls.ext (awake_any _)))) | quiet_step ((first | (go_at_call 15; with_reducible exact Calls.ext (R1.out _)) | (go_at_call 15; with_reducible exact Calls.ext (R2.out _)) | (go_at_call 16; with_reducible exact Calls.ext (WI.out _)) | (go_at_call 16; with_reducible exact Calls.ext (WS.out _)) | (go_at_call 16; with_reducible exact Calls.ext (WM'.out _)) | (go_at_call 17; with_reducible exact Calls.ext (N1.out _)) | (go_at_call 17; with_reducible exact Calls.ext (N2.out _)) | (go_at_call 18; with_reducible exact Calls.ext (MI.out _)) | (go_at_call 18; with_reducible exact Calls.ext (MS.out _)) | (go_at_call 16; with_reducible exact Calls.ext (WA.out _)) | (go_at_call 11; with_reducible exact Calls.ext (awake_any _)))))); refine wpQuiet_nil ?_; rintro _ ⟨yr, rfl⟩; have syr := Ext.size yr; (repeat (first | rw [World.size_alloc] at syr | rw [World.size_setCell] at syr | rw [World.size_drew] at syr))) | (go_at_call 15; (first | with_reducible refine (Calls.giv2 (R1.out _)).mono ?_ | with_reducible refine (Calls.giv (R1.out _)).mono ?_); rintro _ _ ⟨y1, rfl, rfl⟩; have sy1 := Ext.size y1; (repeat (first | rw [World.size_alloc] at sy1 | rw [World.size_setCell] at sy1 | rw [World.size_drew] at sy1))) | (go_at_call 15; (first | with_reducible refine (Calls.giv2 (R2.out _)).mono ?_ | with_reducible refine (Calls.giv (R2.out _)).mono ?_); rintro _ _ ⟨y2, rfl, rfl⟩; have sy2 := Ext.size y2; (repeat (first | rw [World.size_alloc] at sy2 | rw [World.size_setCell] at sy2 | rw [World.size_drew] at sy2))) | (go_at_call 16; (first | with_reducible refine (Calls.giv2 (WI.out _)).mono ?_ | with_reducible refine (Calls.giv (WI.out _)).mono ?_); rintro _ _ ⟨y3, rfl, rfl⟩; have sy3 := Ext.size y3; (repeat (first | rw [World.size_alloc] at sy3 | rw [World.size_setCell] at sy3 | rw [World.size_drew] at sy3))) | (go_at_call 16; (first | with_reducible refine (Calls.giv2 (WS.out _)).mono ?_ | with_reducible refine (Calls.giv (WS.out _)).mono ?_); rintro _ _ ⟨y4, rfl, rfl⟩; have sy4 := Ext.size y4; (repeat (first | rw [World.size_alloc] at sy4 | rw [World.size_setCell] at sy4 | rw [World.size_drew] at sy4))) | (go_at_call 16; (first | with_reducible refine (Calls.giv2 (WM'.out _)).mono ?_ | with_reducible refine (Calls.giv (WM'.out _)).mono ?_); rintro _ _ ⟨y5, rfl, rfl⟩; have sy5 := Ext.size y5; (repeat (first | rw [World.size_alloc] at sy5 | rw [World.size_setCell] at sy5 | rw [World.size_drew] at sy5))) | (go_at_call 17; (first | with_reducible refine (Calls.giv2 (N1.out _)).mono ?_ | with_reducible refine (Calls.giv (N1.out _)).mono ?_); rintro _ _ ⟨y6, rfl, rfl⟩; have sy6 := Ext.size y6; (repeat (first | rw [World.size_alloc] at sy6 | rw [World.size_setCell] at sy6 | rw [World.size_drew] at sy6))) | (go_at_call 17; (first | with_reducible refine (Calls.giv2 (N2.out _)).mono ?_ | with_reducible refine (Calls.giv (N2.out _)).mono ?_); rintro _ _ ⟨y7, rfl, rfl⟩; have sy7 := Ext.size y7; (repeat (first | rw [World.size_alloc] at sy7 | rw [World.size_setCell] at sy7 | rw [World.size_drew] at sy7))) | (go_at_call 18; (first | with_reducible refine (Calls.giv2 (MI.out _)).mono ?_ | with_reducible refine (Calls.giv (MI.out _)).mono ?_); rintro _ _ ⟨y8, rfl, rfl⟩; have sy8 := Ext.size y8; (repeat (first | rw [World.size_alloc] at sy8 | rw [World.size_setCell] at sy8 | rw [World.size_drew] at sy8))) | (go_at_call 18; (first | with_reducible refine (Calls.giv2 (MS.out _)).mono ?_ | with_reducible refine (Calls.giv (MS.out _)).mono ?_); rintro _ _ ⟨y9, rfl, rfl⟩; have sy9 := Ext.size y9; (repeat (first | rw [World.size_alloc] at sy9 | rw [World.size_setCell] at sy9 | rw [World.size_drew] at sy9))) | (go_at_call 16; (first | with_reducible refine (Calls.giv2 (WA.out _)).mono ?_ | with_reducible refine (Calls.giv (WA.out _)).mono ?_); rintro _ _ ⟨y10, rfl, rfl⟩; have sy10 := Ext.size y10; (repeat (first | rw [World.size_alloc] at sy10 | rw [World.size_setCell] at sy10 | rw [World.size_drew] at sy10))) | (go_at_call 11; (first | with_reducible refine (Calls.giv2 (awake_any _)).mono ?_ | with_reducible refine (Calls.giv (awake_any _)).mono ?_); rintro _ _ ⟨y11, rfl, rfl⟩; have sy11 := Ext.size y11; (repeat (first | rw [World.size_alloc] at sy11 | rw [World.size_setCell] at sy11 | rw [World.size_drew] at sy11))))
          go_returns
          refine ⟨rfl, ?_⟩
          repeat' (first | (with_reducible exact Below.refl _ _) | (with_reducible assumption) | (with_reducible refine Ext.below _ ?_ ?_) | (with_reducible refine Below.on ?_ (by with_reducible assumption) ?_) | (with_reducible refine Below.alloc ?_ ?_ _) | (with_reducible refine Below.drew ?_) | (with_reducible refine Below.setCell ?_ ?_ _) | (with_reducible exact Nat.le_refl _) | omega | (simp; done) | (simp [go_sem]; done) | (simp at *; omega))
    · have hm1 : (m == 0) = false := by simpa using hm0
      have WB' := Go.Lib.hid (WB.out hm0)
      clear WB hm0
      cases n1 <;> cases n2
      all_goals
        go_enter Try.func4, Try.ntmps4
        go_wp2_with (first | ((first | with_reducible refine wp_region_ext2 (by kernel_rfl) (by kernel_rfl) ?_ | with_reducible refine wp_region_ext (by kernel_rfl) (by kernel_rfl) ?_); (repeat (first | go_big_quiet_step ((first | fail)) | quiet_step ((first | fail)))); refine wpQuiet_nil ?_; rintro _ ⟨yr, rfl⟩; have syr := Ext.size yr; (repeat (first | rw [World.size_alloc] at syr | rw [World.size_setCell] at syr | rw [World.size_drew] at syr))))
        (first | with_reducible refine wp_region_ext2_heads 4 (by kernel_rfl) (by kernel_rfl) ?_ | with_reducible refine wp_region_ext_heads 4 (by kernel_rfl) (by kernel_rfl) ?_); simp only [List.take_succ_cons, List.take_zero, List.length_cons, List.length_nil, Nat.reduceAdd, Nat.reduceSub]; (repeat (first | go_big_quiet_step ((first | (go_at_call 14; with_reducible exact Calls.ext (S1.out _)) | (go_at_call 14; with_reducible exact Calls.ext (S2.out _)))) | quiet_step ((first | (go_at_call 14; with_reducible exact Calls.ext (S1.out _)) | (go_at_call 14; with_reducible exact Calls.ext (S2.out _)))))); refine wpQuiet_nil ?_; rintro _ ⟨yr, rfl⟩; have syr := Ext.size yr; (repeat (first | rw [World.size_alloc] at syr | rw [World.size_setCell] at syr | rw [World.size_drew] at syr)); (refine wpAny_ready (rs := [4]) (by kernel_rfl) (by simp) ?_; refine AllReady.cons rfl (fun K hK => ?_) AllReady.nil; go_simp; refine hK _ _ ?_; clear hK K); (refine wpAny_ready (rs := [5]) (by kernel_rfl) (by simp) ?_; refine AllReady.cons rfl (fun K hK => ?_) AllReady.nil; go_simp; refine hK _ _ ?_; clear hK K); refine wpAny_done (by kernel_rfl) ?_ _
        all_goals
          go_wp2_with (first | ((first | with_reducible refine wp_region_ext2 (by kernel_rfl) (by kernel_rfl) ?_ | with_reducible refine wp_region_ext (by kernel_rfl) (by kernel_rfl) ?_); (repeat (first | go_big_quiet_step ((first | (go_at_call 15; with_reducible exact Calls.ext (R1.out _)) | (go_at_call 15; with_reducible exact Calls.ext (R2.out _)) | (go_at_call 16; with_reducible exact Calls.ext (WI.out _)) | (go_at_call 16; with_reducible exact Calls.ext (WS.out _)) | (go_at_call 16; with_reducible exact Calls.ext (WM'.out _)) | (go_at_call 17; with_reducible exact Calls.ext (N1.out _)) | (go_at_call 17; with_reducible exact Calls.ext (N2.out _)) | (go_at_call 18; with_reducible exact Calls.ext (MI.out _)) | (go_at_call 18; with_reducible exact Calls.ext (MS.out _)) | (go_at_call 16; with_reducible exact Calls.ext (WA.out _)) | (go_at_call 16; with_reducible exact Calls.ext (WB'.out _)) | (go_at_call 11; with_reducible exact Calls.ext (awake_any _)))) | quiet_step ((first | (go_at_call 15; with_reducible exact Calls.ext (R1.out _)) | (go_at_call 15; with_reducible exact Calls.ext (R2.out _)) | (go_at_call 16; with_reducible exact Calls.ext (WI.out _)) | (go_at_call 16; with_reducible exact Calls.ext (WS.out _)) | (go_at_call 16; with_reducible exact Calls.ext (WM'.out _)) | (go_at_call 17; with_reducible exact Calls.ext (N1.out _)) | (go_at_call 17; with_reducible exact Calls.ext (N2.out _)) | (go_at_call 18; with_reducible exact Calls.ext (MI.out _)) | (go_at_call 18; with_reducible exact Calls.ext (MS.out _)) | (go_at_call 16; with_reducible exact Calls.ext (WA.out _)) | (go_at_call 16; with_reducible exact Calls.ext (WB'.out _)) | (go_at_call 11; with_reducible exact Calls.ext (awake_any _)))))); refine wpQuiet_nil ?_; rintro _ ⟨yr, rfl⟩; have syr := Ext.size yr; (repeat (first | rw [World.size_alloc] at syr | rw [World.size_setCell] at syr | rw [World.size_drew] at syr))) | (go_at_call 15; (first | with_reducible refine (Calls.giv2 (R1.out _)).mono ?_ | with_reducible refine (Calls.giv (R1.out _)).mono ?_); rintro _ _ ⟨y1, rfl, rfl⟩; have sy1 := Ext.size y1; (repeat (first | rw [World.size_alloc] at sy1 | rw [World.size_setCell] at sy1 | rw [World.size_drew] at sy1))) | (go_at_call 15; (first | with_reducible refine (Calls.giv2 (R2.out _)).mono ?_ | with_reducible refine (Calls.giv (R2.out _)).mono ?_); rintro _ _ ⟨y2, rfl, rfl⟩; have sy2 := Ext.size y2; (repeat (first | rw [World.size_alloc] at sy2 | rw [World.size_setCell] at sy2 | rw [World.size_drew] at sy2))) | (go_at_call 16; (first | with_reducible refine (Calls.giv2 (WI.out _)).mono ?_ | with_reducible refine (Calls.giv (WI.out _)).mono ?_); rintro _ _ ⟨y3, rfl, rfl⟩; have sy3 := Ext.size y3; (repeat (first | rw [World.size_alloc] at sy3 | rw [World.size_setCell] at sy3 | rw [World.size_drew] at sy3))) | (go_at_call 16; (first | with_reducible refine (Calls.giv2 (WS.out _)).mono ?_ | with_reducible refine (Calls.giv (WS.out _)).mono ?_); rintro _ _ ⟨y4, rfl, rfl⟩; have sy4 := Ext.size y4; (repeat (first | rw [World.size_alloc] at sy4 | rw [World.size_setCell] at sy4 | rw [World.size_drew] at sy4))) | (go_at_call 16; (first | with_reducible refine (Calls.giv2 (WM'.out _)).mono ?_ | with_reducible refine (Calls.giv (WM'.out _)).mono ?_); rintro _ _ ⟨y5, rfl, rfl⟩; have sy5 := Ext.size y5; (repeat (first | rw [World.size_alloc] at sy5 | rw [World.size_setCell] at sy5 | rw [World.size_drew] at sy5))) | (go_at_call 17; (first | with_reducible refine (Calls.giv2 (N1.out _)).mono ?_ | with_reducible refine (Calls.giv (N1.out _)).mono ?_); rintro _ _ ⟨y6, rfl, rfl⟩; have sy6 := Ext.size y6; (repeat (first | rw [World.size_alloc] at sy6 | rw [World.size_setCell] at sy6 | rw [World.size_drew] at sy6))) | (go_at_call 17; (first | with_reducible refine (Calls.giv2 (N2.out _)).mono ?_ | with_reducible refine (Calls.giv (N2.out _)).mono ?_); rintro _ _ ⟨y7, rfl, rfl⟩; have sy7 := Ext.size y7; (repeat (first | rw [World.size_alloc] at sy7 | rw [World.size_setCell] at sy7 | rw [World.size_drew] at sy7))) | (go_at_call 18; (first | with_reducible refine (Calls.giv2 (MI.out _)).mono ?_ | with_reducible refine (Calls.giv (MI.out _)).mono ?_); rintro _ _ ⟨y8, rfl, rfl⟩; have sy8 := Ext.size y8; (repeat (first | rw [World.size_alloc] at sy8 | rw [World.size_setCell] at sy8 | rw [World.size_drew] at sy8))) | (go_at_call 18; (first | with_reducible refine (Calls.giv2 (MS.out _)).mono ?_ | with_reducible refine (Calls.giv (MS.out _)).mono ?_); rintro _ _ ⟨y9, rfl, rfl⟩; have sy9 := Ext.size y9; (repeat (first | rw [World.size_alloc] at sy9 | rw [World.size_setCell] at sy9 | rw [World.size_drew] at sy9))) | (go_at_call 16; (first | with_reducible refine (Calls.giv2 (WA.out _)).mono ?_ | with_reducible refine (Calls.giv (WA.out _)).mono ?_); rintro _ _ ⟨y10, rfl, rfl⟩; have sy10 := Ext.size y10; (repeat (first | rw [World.size_alloc] at sy10 | rw [World.size_setCell] at sy10 | rw [World.size_drew] at sy10))) | (go_at_call 16; (first | with_reducible refine (Calls.giv2 (WB'.out _)).mono ?_ | with_reducible refine (Calls.giv (WB'.out _)).mono ?_); rintro _ _ ⟨y11, rfl, rfl⟩; have sy11 := Ext.size y11; (repeat (first | rw [World.size_alloc] at sy11 | rw [World.size_setCell] at sy11 | rw [World.size_drew] at sy11))) | (go_at_call 11; (first | with_reducible refine (Calls.giv2 (awake_any _)).mono ?_ | with_reducible refine (Calls.giv (awake_any _)).mono ?_); rintro _ _ ⟨y12, rfl, rfl⟩; have sy12 := Ext.size y12; (repeat (first | rw [World.size_alloc] at sy12 | rw [World.size_setCell] at sy12 | rw [World.size_drew] at sy12))))
          go_returns
          refine ⟨rfl, ?_⟩
          repeat' (first | (with_reducible exact Below.refl _ _) | (with_reducible assumption) | (with_reducible refine Ext.below _ ?_ ?_) | (with_reducible refine Below.on ?_ (by with_reducible assumption) ?_) | (with_reducible refine Below.alloc ?_ ?_ _) | (with_reducible refine Below.drew ?_) | (with_reducible refine Below.setCell ?_ ?_ _) | (with_reducible exact Nat.le_refl _) | omega | (simp; done) | (simp [go_sem]; done) | (simp at *; omega))
theorem SpanMisses_any (a b c d r0 more0 : Int) (w : World) (ha : I64 a) (hb : I64 b) (hc : I64 c) (hd : I64 d) (hr : I64 r0) (hm : I64 more0) :
    Calls Try.prog 4 #[.agg #[.int .i64 a, .int .i64 b], .agg #[.int .i64 c, .int .i64 d], .int .i64 r0, .int .i64 more0] w (Gives (.bool true) w) := by
  have k1 := sm_bounds a; have k2 := sm_bounds b; have k3 := sm_bounds c; have k4 := sm_bounds d
  have r1 := Int.emod_nonneg r0 (b := 3000) (by decide); have r2 := Int.emod_lt_of_pos r0 (b := 3000) (by decide)
  have r3 := Int.emod_nonneg more0 (b := 100) (by decide); have r4 := Int.emod_lt_of_pos more0 (b := 100) (by decide)
  have f1 : farB (sm a) (sm b) = true := by unfold farB; simp; omega
  have f2 : farB (sm c) (sm d) = true := by unfold farB; simp; omega
  have rad : ∀ x : Int, 0 ≤ x → x ≤ 268435456 → radB x = true := fun x h1 h2 => by unfold radB; simp; omega
  obtain ⟨m1, m2, m3, m4⟩ := miss_spec k1 k2 k3 k4
  obtain ⟨s1, s2, s3, s4⟩ := miss_spec k3 k4 k1 k2
  have hsw : ∀ r, withinB (sm c) (sm d) (sm a) (sm b) r = withinB (sm a) (sm b) (sm c) (sm d) r := fun r => within_swap _ _ _ _ r
  have heq : missI (sm c) (sm d) (sm a) (sm b) = missI (sm a) (sm b) (sm c) (sm d) := by
    rw [hsw] at s3 s4
    rcases Int.lt_trichotomy (missI (sm c) (sm d) (sm a) (sm b)) (missI (sm a) (sm b) (sm c) (sm d)) with h | h | h
    · have := m4 (by omega)
      rw [within_mono s1 (by omega) s3] at this
      cases this
    · exact h
    · have := s4 (by omega)
      rw [within_mono m1 (by omega) m3] at this
      cases this
  refine SpanMisses_walk a b c d r0 more0 (sm a) (sm b) (sm c) (sm d) (r0 % 3000) (more0 % 100) (missI (sm a) (sm b) (sm c) (sm d)) (withinB (sm a) (sm b) (sm c) (sm d) (r0 % 3000)) (nearB (sm a) (sm b) (r0 % 3000)) (nearB (sm c) (sm d) (r0 % 3000)) w
    (fun W => small_any _ _ _ ha hb) (fun W => small_any _ _ _ hc hd) (fun W => Mod64_any _ _ _ hr (by decide) (by decide)) (fun W => Mod64_any _ _ _ hm (by decide) (by decide))
    (fun W => ?_) (fun W => ?_) (fun hi W => ?_) (fun W => ?_) (fun W => ?_) (fun W => Miss_any _ _ _ _ _) (fun W => ?_) (fun W => ?_) (fun h0 W => ?_) ?_ (fun h => within_left h) (fun h => within_right h) r1 r2 r3 r4 m1 m2
  · have h := Within_any (sm a) (sm b) (sm c) (sm d) (r0 % 3000) W
    rw [f1, f2, rad _ (by omega) (by omega)] at h
    exact h
  · have h := Within_any (sm c) (sm d) (sm a) (sm b) (r0 % 3000) W
    rw [f1, f2, rad _ (by omega) (by omega), hsw] at h
    exact h
  · have h := Within_any (sm a) (sm b) (sm c) (sm d) (r0 % 3000 + more0 % 100) W
    rw [f1, f2, rad _ (by omega) (by omega), within_mono r1 (by omega) hi] at h
    exact h
  · have h := Near_any (sm a) (sm b) (r0 % 3000) W
    rw [f1, rad _ (by omega) (by omega)] at h
    exact h
  · have h := Near_any (sm c) (sm d) (r0 % 3000) W
    rw [f2, rad _ (by omega) (by omega)] at h
    exact h
  · rw [← heq]
    exact Miss_any _ _ _ _ _
  · have h := Within_any (sm a) (sm b) (sm c) (sm d) (missI (sm a) (sm b) (sm c) (sm d)) W
    rw [f1, f2, rad _ (by omega) (by omega), m3] at h
    exact h
  · have h := Within_any (sm a) (sm b) (sm c) (sm d) (missI (sm a) (sm b) (sm c) (sm d) - 1) W
    rw [f1, f2, rad _ (by omega) (by omega), m4 h0] at h
    exact h
  · by_cases h : missI (sm a) (sm b) (sm c) (sm d) ≤ r0 % 3000
    · rw [within_mono m1 h m3]; simpa using h
    · have h2 : withinB (sm a) (sm b) (sm c) (sm d) (r0 % 3000) = false := by
        cases h3 : withinB (sm a) (sm b) (sm c) (sm d) (r0 % 3000)
        · rfl
        · have := m4 (by omega)
          rw [within_mono r1 (by omega) h3] at this
          cases this
      rw [h2]; simp; omega
set_option maxRecDepth 100000 in
theorem SpanMisses_lifted (os : Os) (started : os.Started) (H : Type) (enc : TypeId × Value → H) :
    ReturnsInHanded {} Try.checked os 4 .any (Rows.spanMissesSpec.pre6 enc Try.prog Try.f4 Rows.spanMissesRow.domain false) (Rows.spanMissesSpec.post enc Try.prog Try.f4 false true false false) := by
  refine returnsInHanded_of_change (C := Try.checked) own started (by kernel_rfl) Try.func4
    (ChangeSpec.witness6 (enc := enc) (C := Try.checked) false ⟨#[], #[.agg #[.int .i64 0, .int .i64 0], .agg #[.int .i64 0, .int .i64 0], .int .i64 0, .int .i64 0], []⟩ 8 (by kernel_rfl) (by kernel_rfl) (by kernel_rfl) (by kernel_rfl)) ?_
  intro W base args ds gs before hval0 hW _ _
  have hval : ∀ (j : Nat) t v, Try.f4.params[j]? = some t → args[j]? = some v → Value.okWide Try.prog W .any base t v := hval0
  have hW' := hW
  obtain ⟨p, q, hA0, hV, _, _, _⟩ := hW
  have hA : DataW.TrodAll enc Try.prog W 0 (fun _ => true) true Try.f4.params.toList args.toList ds p := hA0
  rw [Try.params4] at hA hval
  obtain ⟨v0, vs0, d0, ds0, p0, q0, hargs0, rfl, _, h0, r0⟩ := trodAll_cons hA
  obtain ⟨v1, vs1, d1, ds1, p1, q1, hargs1, rfl, _, h1, r1⟩ := trodAll_cons r0
  obtain ⟨v2, vs2, d2, ds2, p2, q2, hargs2, rfl, _, h2, r2⟩ := trodAll_cons r1
  obtain ⟨v3, vs3, d3, ds3, p3, q3, hargs3, rfl, _, h3, r3⟩ := trodAll_cons r2
  obtain ⟨hlast, rfl, _⟩ := trodAll_nil r3
  subst hlast
  subst hargs3
  subst hargs2
  subst hargs1
  obtain rfl : args = #[v0, v1, v2, v3] := by cases args; simp_all
  obtain ⟨rfl, rfl⟩ := trodVars_none hV
  obtain ⟨l0, rfl, hn0, hi0⟩ := open_nums (P := Try.prog) Try.underlying23 (ts := List.replicate 2 2) (by kernel_rfl) (by kernel_rfl) (hval 0 23 v0 rfl rfl)
  rw [Try.cells23] at hn0
  obtain ⟨x0_0, x0_1, rfl⟩ := list2 hn0
  simp only [List.mem_cons, List.not_mem_nil, or_false, forall_eq_or_imp, forall_eq] at hi0
  obtain ⟨l1, rfl, hn1, hi1⟩ := open_nums (P := Try.prog) Try.underlying23 (ts := List.replicate 2 2) (by kernel_rfl) (by kernel_rfl) (hval 1 23 v1 rfl rfl)
  rw [Try.cells23] at hn1
  obtain ⟨x1_0, x1_1, rfl⟩ := list2 hn1
  simp only [List.mem_cons, List.not_mem_nil, or_false, forall_eq_or_imp, forall_eq] at hi1
  obtain ⟨x2, rfl, hi2⟩ := open_num (P := Try.prog) Try.underlying2 (hval 2 2 v2 rfl rfl)
  obtain ⟨x3, rfl, hi3⟩ := open_num (P := Try.prog) Try.underlying2 (hval 3 2 v3 rfl rfl)
  exact (SpanMisses_any x0_0 x0_1 x1_0 x1_1 x2 x3 W hi0.1 hi0.2 hi1.1 hi1.2 hi2 hi3).mono fun e W' h => law_post laid_out (by rw [Try.params4]; intro t ht; simp only [List.mem_cons, List.not_mem_nil, or_false] at ht; rcases ht with rfl | rfl | rfl | rfl | rfl | rfl; all_goals exact ⟨by kernel_rfl, by decide +kernel⟩) rfl rfl Try.underlying4 hW' rfl h
/-- The statement. -/
theorem SpanMisses_holds : Rows.SpanMissesSaid :=
  OpenClaim.holds_of_wide 4 Try.f4 rfl rfl rfl rfl rfl rfl rfl ⟨rfl, rfl, rfl, rfl, rfl⟩ rfl rfl rfl rfl rfl (by kernel_rfl) Try.func4 (by kernel_rfl)
    (of_decide_eq_true (by kernel_rfl)) (by unfold Func.isWrapper; first | (rw [if_pos (by decide +kernel)]; kernel_rfl) | (rw [if_neg (by decide +kernel)]; exact ⟨rfl, rfl⟩))
    (fun os started H enc _ => SpanMisses_lifted os started H enc)
end Go.Proofs.Ytnhdepdbggcnpaa

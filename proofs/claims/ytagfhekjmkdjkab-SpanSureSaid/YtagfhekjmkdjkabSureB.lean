/- Contract of the reference's all: whether all corners of an area are near. Condition: its numbers are as small as those of a blend. -/
import Derived.Test.YtagfhekjmkdjkabSureA
import Derived.LoopTactic
namespace Go.Proofs.Ytagfhekjmkdjkab
open Go.RowKit Go.Shelf
attribute [local go_sem] Ext.cell Ext.frozen Ext.lt Ext.le Ext.lt_add Ext.le_add Ext.ne Ext.ne' lt2 lt3 lt4 lt5 le2 le3 le4
/-- Pairs of numbers in a row of cells. -/
def PairsAt (W : World) (B n : Nat) (X Y : Nat → Int) : Prop := ∀ j, j < n → W.cell? ⟨B, j * 2, none⟩ = some (.int .i64 (X j)) ∧ W.cell? ⟨B, j * 2 + 1, none⟩ = some (.int .i64 (Y j))
theorem PairsAt.ext {W : World} {B n : Nat} {X Y : Nat → Int} (h : PairsAt W B n X Y) (hB : B < W.heap.size) (x : Ext W) : PairsAt x.now B n X Y := fun j hj => ⟨(x.cell hB).trans (h j hj).1, (x.cell hB).trans (h j hj).2⟩
def p4 (a b c d : Int) : Nat → Int
  | 0 => a
  | 1 => b
  | 2 => c
  | _ => d
theorem points_p (a b c d : Int) (w : World) : Calls Try.prog 18 #[.agg #[.int .i64 a, .int .i64 b, .int .i64 c, .int .i64 d]] w fun e w' => ∃ (x : Ext w) (B : Nat), e = .returned (.slice (some ⟨B, 0, none⟩) 4 4) ∧ w' = x.now ∧ w.heap.size ≤ B ∧ B < x.now.heap.size ∧ PairsAt x.now B 4 (p4 a a b b) (p4 c d c d) := by
  refine (points_any a b c d w).mono ?_
  rintro e w' ⟨rfl, rfl⟩
  refine ⟨⟨_, ((Below.refl _ w).alloc (Nat.le_refl _) _).alloc (by simp) _⟩, w.heap.size + 1, rfl, rfl, by omega, by simp, ?_⟩
  intro j hj
  rcases (show j = 0 ∨ j = 1 ∨ j = 2 ∨ j = 3 by omega) with rfl | rfl | rfl | rfl <;> exact ⟨by simp [go_sem, p4], by simp [go_sem, p4]⟩
/-- Too far along an axis. -/
theorem far_axis {x y R : Int} (h0 : 0 ≤ R) (h : R < max x (-x)) : nearB x y R = false := by
  have h1 := sq0 y
  have h2 : R * R < x * x := by
    rcases Int.le_total 0 x with hx | hx
    · have a := Int.mul_le_mul_of_nonneg_left (show R ≤ x by omega) h0
      have b := Int.mul_lt_mul_of_pos_right (show R < x by omega) (show 0 < x by omega)
      omega
    · have a := Int.mul_le_mul_of_nonneg_left (show R ≤ -x by omega) h0
      have b := Int.mul_lt_mul_of_pos_right (show R < -x by omega) (show 0 < -x by omega)
      rw [Int.neg_mul_neg] at b; omega
  simp only [nearB, decide_eq_false_iff_not]; omega
theorem near_turn (x y R : Int) : nearB x y R = nearB y x R := by unfold nearB; rw [Int.add_comm]
set_option maxHeartbeats 4000000 in
theorem all_any (a b c d r : Int) (w : World) (ha : -2147483648 ≤ a ∧ a ≤ 2147483648) (hb : -2147483648 ≤ b ∧ b ≤ 2147483648) (hc : -2147483648 ≤ c ∧ c ≤ 2147483648) (hd : -2147483648 ≤ d ∧ d ≤ 2147483648) (hr : 0 ≤ r ∧ r ≤ 268435456) :
    Calls Try.prog 16 #[.agg #[.int .i64 a, .int .i64 b, .int .i64 c, .int .i64 d], .int .i64 r] w (Gives (.bool (nearB a c (8 * r) && nearB a d (8 * r) && nearB b c (8 * r) && nearB b d (8 * r))) w) := by
  have hX : ∀ j, -2147483648 ≤ p4 a a b b j ∧ p4 a a b b j ≤ 2147483648 := fun j => by unfold p4; split <;> assumption
  have hY : ∀ j, -2147483648 ≤ p4 c d c d j ∧ p4 c d c d j ≤ 2147483648 := fun j => by unfold p4; split <;> assumption
  have he : (nearB a c (8 * r) && nearB a d (8 * r) && nearB b c (8 * r) && nearB b d (8 * r)) = ((List.range 4).all fun j => nearB (p4 a a b b j) (p4 c d c d j) (8 * r)) := by
    simp [show List.range 4 = [0, 1, 2, 3] from rfl, p4, Bool.and_assoc]
  rw [he]
  clear he
  obtain ⟨r0, r1⟩ := hr
  obtain ⟨V, hV⟩ : ∃ V, ((List.range 4).all fun j => nearB (p4 a a b b j) (p4 c d c d j) (8 * r)) = V := ⟨_, rfl⟩
  rw [hV]
  go_enter Try.func16, Try.ntmps16
  go_wp2_with (first | ((first | with_reducible refine wp_region_ext2 (by kernel_rfl) (by kernel_rfl) ?_ | with_reducible refine wp_region_ext (by kernel_rfl) (by kernel_rfl) ?_); (repeat (first | go_big_quiet_step ((first | fail)) | quiet_step ((first | fail)))); refine wpQuiet_nil ?_; rintro _ ⟨yr, rfl⟩; have syr := Ext.size yr; (repeat (first | rw [World.size_alloc] at syr | rw [World.size_setCell] at syr | rw [World.size_drew] at syr))) | (go_at_call 18; refine (points_p _ _ _ _ _).mono ?_; rintro _ _ ⟨yp, B, rfl, rfl, hB1, hB2, hP⟩))
  have hBw : Below w.heap.size w yp.now := by repeat' (first | (with_reducible exact Below.refl _ _) | (with_reducible assumption) | (with_reducible refine Ext.below _ ?_ ?_) | (with_reducible refine Below.on ?_ (by with_reducible assumption) ?_) | (with_reducible refine Below.alloc ?_ ?_ _) | (with_reducible refine Below.drew ?_) | (with_reducible refine Below.setCell ?_ ?_ _) | (with_reducible exact Nat.le_refl _) | omega | (simp; done) | (simp [go_sem]; done) | (simp at *; omega))
  have hB3 : w.heap.size < B := by simp only [World.size_alloc] at hB1; omega
  generalize yp.now = W0 at *
  generalize p4 a a b b = X at *
  generalize p4 c d c d = Y at *
  clear ha hb hc hd hB1
  go_loopw [6] (fun s W => ∃ (i : Nat) (x : Ext W0), s = .int .i64 i ∧ W = x.now ∧ Hid (i ≤ 4 ∧ ∀ j, j < i → nearB (X j) (Y j) (8 * r) = true)) (fun s _ => 4 - (intOf s).toNat)
  case atStart => exact ⟨0, ⟨W0, Below.refl _ _⟩, rfl, rfl, Go.Lib.hid ⟨by decide, fun j hj => by omega⟩⟩
  case round =>
    obtain ⟨i, x, rfl, rfl, hi⟩ := hrel
    have xs := x.size
    have hB4 : B < x.now.heap.size := by omega
    have hbx := x.below hBw (by omega)
    by_cases hlt : i < 4
    · obtain ⟨q1, q2⟩ := hP i hlt
      have x1 := hX i; have y1 := hY i
      have key : Hid (i ≤ 4 ∧ (∀ j, j < i → nearB (X j) (Y j) (8 * r) = true) ∧ i < 4) := Go.Lib.hid ⟨hi.out.1, hi.out.2, hlt⟩
      clear hi hX hY hP
      have b1 := sq_bounds x1.1 x1.2; have b2 := sq_bounds y1.1 y1.2
      have b3 := mul_bounds (x := 64 * r) (y := r) (B := 17179869184) (by omega) (by omega) (by omega) (by omega)
      have b4 : 0 ≤ 64 * r * r ∧ 64 * r * r ≤ 4611686018427387904 := by
        have h1 := Int.mul_nonneg (show 0 ≤ 64 * r by omega) r0
        have h2 := sq_bounds (x := r) (B := 268435456) (by omega) (by omega)
        have h3 : 64 * r * r = 64 * (r * r) := by grind
        omega
      have e8 : 8 * r * (8 * r) = 64 * r * r := by grind
      cases hn : nearB (X i) (Y i) (8 * r)
      · have hall : ((List.range 4).all fun j => nearB (X j) (Y j) (8 * r)) = false := by
          rw [Bool.eq_false_iff]; intro h
          rw [List.all_eq_true] at h
          rw [h i (List.mem_range.2 key.out.2.2)] at hn; cases hn
        have eV : V = false := by rw [← hV]; exact hall
        clear hall hV
        subst eV
        have hn2 : 64 * r * r < X i * X i + Y i * Y i := by
          simp only [nearB, decide_eq_false_iff_not] at hn; omega
        clear hn e8
        generalize X i = u at *
        generalize Y i = v at *
        by_cases t1 : 8 * r < max u (-u)
        · go_wp2_with (first | ((first | with_reducible refine wp_region_ext2 (by kernel_rfl) (by kernel_rfl) ?_ | with_reducible refine wp_region_ext (by kernel_rfl) (by kernel_rfl) ?_); (repeat (first | go_big_quiet_step ((first | fail)) | quiet_step ((first | fail)))); refine wpQuiet_nil ?_; rintro _ ⟨yr, rfl⟩; have syr := Ext.size yr; (repeat (first | rw [World.size_alloc] at syr | rw [World.size_setCell] at syr | rw [World.size_drew] at syr))))
          all_goals go_returns
          all_goals refine ⟨rfl, ?_⟩
          all_goals (repeat' (first | (with_reducible exact Below.refl _ _) | (with_reducible assumption) | (with_reducible refine Ext.below _ ?_ ?_) | (with_reducible refine Below.on ?_ (by with_reducible assumption) ?_) | (with_reducible refine Below.alloc ?_ ?_ _) | (with_reducible refine Below.drew ?_) | (with_reducible refine Below.setCell ?_ ?_ _) | (with_reducible exact Nat.le_refl _) | omega | (simp; done) | (simp [go_sem]; done) | (simp at *; omega)))
        · by_cases t2 : 8 * r < max v (-v)
          · go_wp2_with (first | ((first | with_reducible refine wp_region_ext2 (by kernel_rfl) (by kernel_rfl) ?_ | with_reducible refine wp_region_ext (by kernel_rfl) (by kernel_rfl) ?_); (repeat (first | go_big_quiet_step ((first | fail)) | quiet_step ((first | fail)))); refine wpQuiet_nil ?_; rintro _ ⟨yr, rfl⟩; have syr := Ext.size yr; (repeat (first | rw [World.size_alloc] at syr | rw [World.size_setCell] at syr | rw [World.size_drew] at syr))))
            all_goals go_returns
            all_goals refine ⟨rfl, ?_⟩
            all_goals (repeat' (first | (with_reducible exact Below.refl _ _) | (with_reducible assumption) | (with_reducible refine Ext.below _ ?_ ?_) | (with_reducible refine Below.on ?_ (by with_reducible assumption) ?_) | (with_reducible refine Below.alloc ?_ ?_ _) | (with_reducible refine Below.drew ?_) | (with_reducible refine Below.setCell ?_ ?_ _) | (with_reducible exact Nat.le_refl _) | omega | (simp; done) | (simp [go_sem]; done) | (simp at *; omega)))
          · go_wp2_with (first | ((first | with_reducible refine wp_region_ext2 (by kernel_rfl) (by kernel_rfl) ?_ | with_reducible refine wp_region_ext (by kernel_rfl) (by kernel_rfl) ?_); (repeat (first | go_big_quiet_step ((first | fail)) | quiet_step ((first | fail)))); refine wpQuiet_nil ?_; rintro _ ⟨yr, rfl⟩; have syr := Ext.size yr; (repeat (first | rw [World.size_alloc] at syr | rw [World.size_setCell] at syr | rw [World.size_drew] at syr))))
            all_goals go_returns
            all_goals refine ⟨rfl, ?_⟩
            all_goals (repeat' (first | (with_reducible exact Below.refl _ _) | (with_reducible assumption) | (with_reducible refine Ext.below _ ?_ ?_) | (with_reducible refine Below.on ?_ (by with_reducible assumption) ?_) | (with_reducible refine Below.alloc ?_ ?_ _) | (with_reducible refine Below.drew ?_) | (with_reducible refine Below.setCell ?_ ?_ _) | (with_reducible exact Nat.le_refl _) | omega | (simp; done) | (simp [go_sem]; done) | (simp at *; omega)))
      · have t1 : ¬ 8 * r < max (X i) (-X i) := fun h => by rw [far_axis (by omega) h] at hn; cases hn
        have t2 : ¬ 8 * r < max (Y i) (-Y i) := fun h => by rw [near_turn, far_axis (by omega) h] at hn; cases hn
        have hn2 : ¬ 64 * r * r < X i * X i + Y i * Y i := by
          simp only [nearB, decide_eq_true_eq] at hn; omega
        have key2 : Hid (i + 1 ≤ 4 ∧ ∀ j, j < i + 1 → nearB (X j) (Y j) (8 * r) = true) := Go.Lib.hid ⟨hlt, fun j hj => by
          rcases Nat.lt_or_ge j i with h | h
          · exact key.out.2.1 j h
          · rw [show j = i by omega]; exact hn⟩
        clear hn e8 key hV
        generalize X i = u at *
        generalize Y i = v at *
        go_wp2_with (first | ((first | with_reducible refine wp_region_ext2 (by kernel_rfl) (by kernel_rfl) ?_ | with_reducible refine wp_region_ext (by kernel_rfl) (by kernel_rfl) ?_); (repeat (first | go_big_quiet_step ((first | fail)) | quiet_step ((first | fail)))); refine wpQuiet_nil ?_; rintro _ ⟨yr, rfl⟩; have syr := Ext.size yr; (repeat (first | rw [World.size_alloc] at syr | rw [World.size_setCell] at syr | rw [World.size_drew] at syr))))
        all_goals exact ⟨⟨i + 1, _, by simp, rfl, key2⟩, by simp [intOf]; omega⟩
    · have hge : ¬ (i : Int) < 4 := by omega
      have hall : ((List.range 4).all fun j => nearB (X j) (Y j) (8 * r)) = true := by
        rw [List.all_eq_true]; intro j hj
        exact hi.out.2 j (by have := List.mem_range.1 hj; omega)
      have eV : V = true := by rw [← hV]; exact hall
      clear hall hV hi hX hY hP
      subst eV
      go_wp2_with (first | ((first | with_reducible refine wp_region_ext2 (by kernel_rfl) (by kernel_rfl) ?_ | with_reducible refine wp_region_ext (by kernel_rfl) (by kernel_rfl) ?_); (repeat (first | go_big_quiet_step ((first | fail)) | quiet_step ((first | fail)))); refine wpQuiet_nil ?_; rintro _ ⟨yr, rfl⟩; have syr := Ext.size yr; (repeat (first | rw [World.size_alloc] at syr | rw [World.size_setCell] at syr | rw [World.size_drew] at syr))))
      go_returns
      refine ⟨rfl, ?_⟩
      repeat' (first | (with_reducible exact Below.refl _ _) | (with_reducible assumption) | (with_reducible refine Ext.below _ ?_ ?_) | (with_reducible refine Below.on ?_ (by with_reducible assumption) ?_) | (with_reducible refine Below.alloc ?_ ?_ _) | (with_reducible refine Below.drew ?_) | (with_reducible refine Below.setCell ?_ ?_ _) | (with_reducible exact Nat.le_refl _) | omega | (simp; done) | (simp [go_sem]; done) | (simp at *; omega))
end Go.Proofs.Ytagfhekjmkdjkab

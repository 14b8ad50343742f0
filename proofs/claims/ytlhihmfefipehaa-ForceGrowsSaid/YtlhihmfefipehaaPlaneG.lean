/- Contracts of package span's numbers. No condition. Contracts of package span's plane: near, within, and the least radius. Conditions: the places' numbers lie within their limits. -/
import Derived.Test.YtlhihmfefipehaaBase
import Derived.LoopTactic
namespace Go.Proofs.Ytlhihmfefipehaa
open Go.RowKit Go.Shelf
attribute [local go_sem] Ext.cell Ext.frozen Ext.lt Ext.le Ext.lt_add Ext.le_add Ext.ne Ext.ne' lt2 lt3 lt4 lt5 le2 le3 le4
theorem number_any (n : Int) (w : World) : Calls Try.prog 102 #[.agg #[.int .i64 (whi n), .int .u64 (wlo n)]] w fun e w' => ∃ q, Gives (.tuple #[.int .i64 q, .bool (numB n)]) w e w' ∧ (numB n = true → q = n) := by
  by_cases hn : I64 n
  · have e : wrap64 (wlo n) = n := by unfold wlo I64 at *; go_arith
    go_enter Try.func102, Try.ntmps102
    go_wp2_with (first | ((first | with_reducible refine wrx2 ?_ | with_reducible refine wrx ?_); (repeat (first | go_big_quiet_step ((first | (go_at_call 104; with_reducible exact Calls.ext (widen_any _ _ hn)) | (go_at_call 107; with_reducible exact Calls.ext (inNumbers_any _ _)))) | quiet_step ((first | (go_at_call 104; with_reducible exact Calls.ext (widen_any _ _ hn)) | (go_at_call 107; with_reducible exact Calls.ext (inNumbers_any _ _)))))); refine wpQuiet_nil ?_; rintro _ ⟨yr, rfl⟩; have syr := Ext.size yr; (repeat (first | rw [World.size_alloc] at syr | rw [World.size_setCell] at syr | rw [World.size_drew] at syr))) | (go_at_call 104; (first | with_reducible refine (Calls.giv2 (widen_any _ _ hn)).mono ?_ | with_reducible refine (Calls.giv (widen_any _ _ hn)).mono ?_); rintro _ _ ⟨y1, rfl, rfl⟩; have sy1 := Ext.size y1; (repeat (first | rw [World.size_alloc] at sy1 | rw [World.size_setCell] at sy1 | rw [World.size_drew] at sy1))) | (go_at_call 107; (first | with_reducible refine (Calls.giv2 (inNumbers_any _ _)).mono ?_ | with_reducible refine (Calls.giv (inNumbers_any _ _)).mono ?_); rintro _ _ ⟨y2, rfl, rfl⟩; have sy2 := Ext.size y2; (repeat (first | rw [World.size_alloc] at sy2 | rw [World.size_setCell] at sy2 | rw [World.size_drew] at sy2))))
    go_returns
    refine ⟨n, ⟨by simp [e], ?_⟩, fun _ => rfl⟩
    repeat' (first | (with_reducible exact Below.refl _ _) | (with_reducible assumption) | (with_reducible refine Ext.below _ ?_ ?_) | (with_reducible refine Below.on ?_ (by with_reducible assumption) ?_) | (with_reducible refine Below.alloc ?_ ?_ _) | (with_reducible refine Below.drew ?_) | (with_reducible refine Below.setCell ?_ ?_ _) | (with_reducible exact Nat.le_refl _) | omega | (simp; done) | (simp [go_sem]; done) | (simp at *; omega))
  · have hq : (whi (wrap64 (wlo n)) == whi n) = false := by unfold whi wlo I64 at *; rw [beq_eq_false_iff_ne]; go_arith
    have hq2 : I64 (wrap64 (wlo n)) := by unfold wlo I64 at *; go_arith
    have hd : numB n = false := by unfold I64 at hn; rw [numB_false]; omega
    rw [hd]
    clear hn hd
    obtain ⟨q, e⟩ : ∃ q, wrap64 (wlo n) = q := ⟨_, rfl⟩
    rw [e] at hq hq2
    go_enter Try.func102, Try.ntmps102
    go_wp2_with (first | ((first | with_reducible refine wrx2 ?_ | with_reducible refine wrx ?_); (repeat (first | go_big_quiet_step ((first | (go_at_call 104; with_reducible exact Calls.ext (widen_any _ _ hq2)) | (go_at_call 107; with_reducible exact Calls.ext (inNumbers_any _ _)))) | quiet_step ((first | (go_at_call 104; with_reducible exact Calls.ext (widen_any _ _ hq2)) | (go_at_call 107; with_reducible exact Calls.ext (inNumbers_any _ _)))))); refine wpQuiet_nil ?_; rintro _ ⟨yr, rfl⟩; have syr := Ext.size yr; (repeat (first | rw [World.size_alloc] at syr | rw [World.size_setCell] at syr | rw [World.size_drew] at syr))) | (go_at_call 104; (first | with_reducible refine (Calls.giv2 (widen_any _ _ hq2)).mono ?_ | with_reducible refine (Calls.giv (widen_any _ _ hq2)).mono ?_); rintro _ _ ⟨y1, rfl, rfl⟩; have sy1 := Ext.size y1; (repeat (first | rw [World.size_alloc] at sy1 | rw [World.size_setCell] at sy1 | rw [World.size_drew] at sy1))) | (go_at_call 107; (first | with_reducible refine (Calls.giv2 (inNumbers_any _ _)).mono ?_ | with_reducible refine (Calls.giv (inNumbers_any _ _)).mono ?_); rintro _ _ ⟨y2, rfl, rfl⟩; have sy2 := Ext.size y2; (repeat (first | rw [World.size_alloc] at sy2 | rw [World.size_setCell] at sy2 | rw [World.size_drew] at sy2))))
    go_returns
    refine ⟨q, ⟨by simp [e], ?_⟩, fun h => by cases h⟩
    repeat' (first | (with_reducible exact Below.refl _ _) | (with_reducible assumption) | (with_reducible refine Ext.below _ ?_ ?_) | (with_reducible refine Below.on ?_ (by with_reducible assumption) ?_) | (with_reducible refine Below.alloc ?_ ?_ _) | (with_reducible refine Below.drew ?_) | (with_reducible refine Below.setCell ?_ ?_ _) | (with_reducible exact Nat.le_refl _) | omega | (simp; done) | (simp [go_sem]; done) | (simp at *; omega))

/-- The error of a span. -/
def chk (lo hi : Int) : Int := if numB lo && numB hi then (if lo ≤ hi then 0 else 11) else 2
theorem chk_ok (lo hi : Int) : chk lo hi = 0 ↔ -1152921504606846976 ≤ lo ∧ hi ≤ 1152921504606846976 ∧ lo ≤ hi := by
  unfold chk numB
  repeat' split
  all_goals (simp at *; omega)
theorem Check_any (lo hi : Int) (w : World) : Calls Try.prog 85 #[.agg #[.int .i64 lo, .int .i64 hi]] w (Gives (.int .i64 (chk lo hi)) w) := by
  unfold chk
  cases h1 : numB lo <;> cases h2 : numB hi <;> by_cases h5 : lo ≤ hi
  all_goals
    simp only [h5, Bool.and_self, Bool.and_true, Bool.and_false, if_true, if_false, Bool.false_eq_true]
    go_enter Try.func85, Try.ntmps85
    go_wp2_with (first | ((first | with_reducible refine wrx2 ?_ | with_reducible refine wrx ?_); (repeat (first | go_big_quiet_step ((first | (go_at_call 107; with_reducible exact Calls.ext (inNumbers_any _ _)))) | quiet_step ((first | (go_at_call 107; with_reducible exact Calls.ext (inNumbers_any _ _)))))); refine wpQuiet_nil ?_; rintro _ ⟨yr, rfl⟩; have syr := Ext.size yr; (repeat (first | rw [World.size_alloc] at syr | rw [World.size_setCell] at syr | rw [World.size_drew] at syr))) | (go_at_call 107; (first | with_reducible refine (Calls.giv2 (inNumbers_any _ _)).mono ?_ | with_reducible refine (Calls.giv (inNumbers_any _ _)).mono ?_); rintro _ _ ⟨y1, rfl, rfl⟩; have sy1 := Ext.size y1; (repeat (first | rw [World.size_alloc] at sy1 | rw [World.size_setCell] at sy1 | rw [World.size_drew] at sy1))))
    go_returns
    refine ⟨rfl, ?_⟩
    repeat' (first | (with_reducible exact Below.refl _ _) | (with_reducible assumption) | (with_reducible refine Ext.below _ ?_ ?_) | (with_reducible refine Below.on ?_ (by with_reducible assumption) ?_) | (with_reducible refine Below.alloc ?_ ?_ _) | (with_reducible refine Below.drew ?_) | (with_reducible refine Below.setCell ?_ ?_ _) | (with_reducible exact Nat.le_refl _) | omega | (simp; done) | (simp [go_sem]; done) | (simp at *; omega))

/-- Both numbers of a place are from -MaxFar to MaxFar; a radius is from 0 to MaxFar. -/
def farB (x y : Int) : Bool := decide (-268435456 ≤ x ∧ x ≤ 268435456 ∧ -268435456 ≤ y ∧ y ≤ 268435456)
def radB (r : Int) : Bool := decide (0 ≤ r ∧ r ≤ 268435456)
theorem inFar_any (x y : Int) (w : World) : Calls Try.prog 91 #[.agg #[.int .i64 x, .int .i64 y]] w (Gives (.bool (farB x y)) w) := by
  go_enter Try.func91, Try.ntmps91
  go_wp2_with (first | ((first | with_reducible refine wrx2 ?_ | with_reducible refine wrx ?_); (repeat (first | go_big_quiet_step ((first | fail)) | quiet_step ((first | fail)))); refine wpQuiet_nil ?_; rintro _ ⟨yr, rfl⟩; have syr := Ext.size yr; (repeat (first | rw [World.size_alloc] at syr | rw [World.size_setCell] at syr | rw [World.size_drew] at syr))))
  all_goals
    go_returns
    refine ⟨ret_bool ?_, ?_⟩
    · unfold farB; rw [Bool.eq_iff_iff]; simp; omega
    · repeat' (first | (with_reducible exact Below.refl _ _) | (with_reducible assumption) | (with_reducible refine Ext.below _ ?_ ?_) | (with_reducible refine Below.on ?_ (by with_reducible assumption) ?_) | (with_reducible refine Below.alloc ?_ ?_ _) | (with_reducible refine Below.drew ?_) | (with_reducible refine Below.setCell ?_ ?_ _) | (with_reducible exact Nat.le_refl _) | omega | (simp; done) | (simp [go_sem]; done) | (simp at *; omega))
def sgn (n : Int) : Int := if n < 0 then -1 else if 0 < n then 1 else 0
theorem cmpw_sgn (m n : Int) : cmpw (whi m) (wlo m) (whi n) (wlo n) = sgn (m - n) := by
  unfold whi wlo; rw [cmpw_at]; unfold sgn
  repeat' split
  all_goals first | rfl | omega
theorem neg_I64 {a b : Int} (ha : I64 a) (hb : I64 b) : I64 (whi (-(a * b))) := by
  have := prod_bounds ha hb
  unfold I64 whi; omega
end Go.Proofs.Ytlhihmfefipehaa
namespace Go.Proofs.Ytlhihmfefipehaa
open Go.RowKit Go.Shelf
attribute [local go_sem] Ext.cell Ext.frozen Ext.lt Ext.le Ext.lt_add Ext.le_add Ext.ne Ext.ne' lt2 lt3 lt4 lt5 le2 le3 le4
/-- Numbers with which no square overflows. -/
def S40 (n : Int) : Prop := -1099511627776 ≤ n ∧ n ≤ 1099511627776
theorem S40.i64 {n : Int} (h : S40 n) : I64 n := by unfold S40 I64 at *; omega
theorem sq_bounds {x : Int} {B : Int} (h1 : -B ≤ x) (h2 : x ≤ B) : 0 ≤ x * x ∧ x * x ≤ B * B := by
  constructor
  · rcases Int.le_total 0 x with h | h
    · exact Int.mul_nonneg h h
    · exact Int.mul_nonneg_of_nonpos_of_nonpos h h
  · have a := Int.mul_nonneg (show 0 ≤ B - x by omega) (show 0 ≤ B + x by omega)
    simp only [Int.sub_mul, Int.mul_add] at a
    have c : x * B = B * x := Int.mul_comm _ _
    omega
theorem mul_bounds {x y : Int} {B : Int} (h1 : -B ≤ x) (h2 : x ≤ B) (h3 : -B ≤ y) (h4 : y ≤ B) : -(B * B) ≤ x * y ∧ x * y ≤ B * B := by
  have a := Int.mul_nonneg (show 0 ≤ B - x by omega) (show 0 ≤ B + y by omega)
  have b := Int.mul_nonneg (show 0 ≤ B + x by omega) (show 0 ≤ B - y by omega)
  have c := Int.mul_nonneg (show 0 ≤ B - x by omega) (show 0 ≤ B - y by omega)
  have d := Int.mul_nonneg (show 0 ≤ B + x by omega) (show 0 ≤ B + y by omega)
  simp only [Int.sub_mul, Int.mul_sub, Int.add_mul, Int.mul_add] at a b c d
  have e : x * B = B * x := Int.mul_comm _ _
  constructor <;> omega
/-- A place is within r of the origin. -/
def nearB (x y r : Int) : Bool := decide (x * x + y * y ≤ r * r)
theorem sgn_nonneg (n : Int) : 0 ≤ sgn n ↔ 0 ≤ n := by unfold sgn; split <;> (try split) <;> omega
theorem sgn_nonpos (n : Int) : sgn n ≤ 0 ↔ n ≤ 0 := by unfold sgn; split <;> (try split) <;> omega
/-- A segment comes within r of the origin. -/
def withinB (px py qx qy r : Int) : Bool :=
  if 0 ≤ px * (qx - px) + py * (qy - py) then nearB px py r
  else if qx * (qx - px) + qy * (qy - py) ≤ 0 then nearB qx qy r
  else decide ((px * qy - py * qx) * (px * qy - py * qx) ≤ r * r * ((qx - px) * (qx - px) + (qy - py) * (qy - py)))
def Far (n : Int) : Prop := -268435456 ≤ n ∧ n ≤ 268435456
theorem S40.of_far {x y : Int} (h : farB x y = true) : S40 x ∧ S40 y := by unfold farB at h; unfold S40; simp at h; omega
theorem Far.of_far {x y : Int} (h : farB x y = true) : Far x ∧ Far y := by unfold farB at h; unfold Far; simp at h; omega
theorem S40.of_rad {x : Int} (h : radB x = true) : S40 x := by unfold radB at h; unfold S40; simp at h; omega
/-- The search by halves. -/
def bs (p : Int → Bool) : Nat → Int → Int → Int
  | 0, i, _ => i
  | f + 1, i, j => if i < j then (if p ((i + j) / 2) then bs p f i ((i + j) / 2) else bs p f ((i + j) / 2 + 1) j) else i
theorem bs_end (p : Int → Bool) (f : Nat) (i j : Int) (h : ¬ i < j) : bs p f i j = i := by cases f <;> simp [bs, h]
theorem bs_yes (p : Int → Bool) (f : Nat) (i j : Int) (h : i < j) (h2 : p ((i + j) / 2) = true) : bs p (f + 1) i j = bs p f i ((i + j) / 2) := by simp [bs, h, h2]
theorem bs_no (p : Int → Bool) (f : Nat) (i j : Int) (h : i < j) (h2 : p ((i + j) / 2) = false) : bs p (f + 1) i j = bs p f ((i + j) / 2 + 1) j := by simp [bs, h, h2]
/-- How near a segment comes. -/
def missI (px py qx qy : Int) : Int := if farB px py && farB qx qy then bs (withinB px py qx qy) 30 0 536870912 else -1
end Go.Proofs.Ytlhihmfefipehaa

/- Contracts of package span's division: a wide number by a number, a product by a number. Condition: the divisor is not 0, the numbers lie within their limits. -/
import Derived.Test.YtlhihmfefipehaaDiv
import Derived.Test.YtlhihmfefipehaaArea
namespace Go.Proofs.Ytlhihmfefipehaa
open Go.RowKit Go.Shelf
attribute [local go_sem] Ext.cell Ext.frozen Ext.lt Ext.le Ext.lt_add Ext.le_add Ext.ne Ext.ne' lt2 lt3 lt4 lt5 le2 le3 le4
/-- The quotient rounded up, for a divisor above 0. -/
def cei (n c : Int) : Int := -(-n / c)
theorem cei_eq {n c : Int} (hc : 0 < c) : cei n c = n / c + if 0 < n % c then 1 else 0 := by
  unfold cei
  have h1 := Int.emod_add_mul_ediv n c
  have h2 := Int.emod_add_mul_ediv (-n) c
  have h3 := Int.emod_nonneg n (b := c) (by omega)
  have h4 := Int.emod_lt_of_pos n hc
  have h5 := Int.emod_nonneg (-n) (b := c) (by omega)
  have h6 := Int.emod_lt_of_pos (-n) hc
  split
  · rename_i h
    have : -n / c = -(n / c) - 1 := by
      apply Int.le_antisymm
      · apply Int.le_of_lt_add_one
        rw [Int.ediv_lt_iff_lt_mul hc]
        have : (-(n / c) - 1 + 1) * c = -(c * (n / c)) := by grind
        omega
      · rw [Int.le_ediv_iff_mul_le hc]
        have : (-(n / c) - 1) * c = -(c * (n / c)) - c := by grind
        omega
    omega
  · rename_i h
    have h0 : n % c = 0 := by omega
    have : -n / c = -(n / c) := by
      apply Int.le_antisymm
      · apply Int.le_of_lt_add_one
        rw [Int.ediv_lt_iff_lt_mul hc]
        have : (-(n / c) + 1) * c = -(c * (n / c)) + c := by grind
        omega
      · rw [Int.le_ediv_iff_mul_le hc]
        have : (-(n / c)) * c = -(c * (n / c)) := by grind
        omega
    omega
/-- Both quotients lie within the limits (numbers from 0 on). -/
def okP (n c : Int) : Bool := decide (cei n c ≤ 1152921504606846976)
def downP (n c : Int) : Int := if okP n c = true then n / c else 0
def upP (n c : Int) : Int := if okP n c = true then cei n c else 0
set_option maxHeartbeats 1000000 in
theorem over_pos (n c : Int) (w : World) (hn : 0 ≤ n) (hn' : n < 85070591730234615865843651857942052864) (hc : 0 < c) (hc' : c < 9223372036854775808) :
    Calls Try.prog 112 #[.agg #[.int .i64 (whi n), .int .u64 (wlo n)], .int .i64 c] w (Gives (.tuple #[.int .i64 (downP n c), .int .i64 (upP n c), .bool (okP n c)]) w) := by
  have hce := cei_eq (n := n) hc
  have hm0 := Int.emod_nonneg n (b := c) (by omega)
  have hm1 := Int.emod_lt_of_pos n hc
  have hd := Int.emod_add_mul_ediv n c
  have hq0 : 0 ≤ n / c := Int.ediv_nonneg hn (by omega)
  have hH : 0 ≤ whi n ∧ whi n < 9223372036854775808 := by unfold whi; omega
  have hL : 0 ≤ wlo n ∧ wlo n < 18446744073709551616 := by unfold wlo; omega
  have hHL : whi n * 18446744073709551616 + wlo n = n := by unfold whi wlo; omega
  obtain ⟨hH0, hH1⟩ := hH; obtain ⟨hL0, hL1⟩ := hL
  have w1 : IntKind.u64.wrap (whi n) = whi n := by go_arith
  have w2 : IntKind.u64.wrap c = c := by go_arith
  by_cases h1 : c ≤ whi n
  · have hok : okP n c = false := by
      unfold okP
      have : 18446744073709551616 ≤ n / c := by
        rw [Int.le_ediv_iff_mul_le hc]; omega
      simp only [decide_eq_false_iff_not]; split at hce <;> omega
    unfold downP upP
    rw [hok]
    simp only [Bool.false_eq_true, if_false]
    generalize whi n = H at *
    generalize wlo n = l at *
    clear hok hce hd
    go_enter Try.func112, Try.ntmps112
    go_wp2_with (first | ((first | with_reducible refine wrx2 ?_ | with_reducible refine wrx ?_); (repeat (first | go_big_quiet_step ((first | fail)) | quiet_step ((first | fail)))); refine wpQuiet_nil ?_; rintro _ ⟨yr, rfl⟩; have syr := Ext.size yr; (repeat (first | rw [World.size_alloc] at syr | rw [World.size_setCell] at syr | rw [World.size_drew] at syr))))
    go_returns
    refine ⟨rfl, ?_⟩
    repeat' (first | (with_reducible exact Below.refl _ _) | (with_reducible assumption) | (with_reducible refine Ext.below _ ?_ ?_) | (with_reducible refine Below.on ?_ (by with_reducible assumption) ?_) | (with_reducible refine Below.alloc ?_ ?_ _) | (with_reducible refine Below.drew ?_) | (with_reducible refine Below.setCell ?_ ?_ _) | (with_reducible exact Nat.le_refl _) | omega | (simp; done) | (simp [go_sem]; done) | (simp at *; omega))
  · have D := fun W => Div64_any (whi n) (wlo n) c W hH0 (by omega) hL0 hL1 (by omega)
    rw [hHL] at D
    have HD := Go.Lib.hid D
    clear D
    have hlt : whi n < c := by omega
    generalize hgH : whi n = H at *
    generalize hgL : wlo n = l at *
    obtain ⟨q, hq⟩ : ∃ q, n / c = q := ⟨_, rfl⟩
    obtain ⟨r, hr⟩ : ∃ r, n % c = r := ⟨_, rfl⟩
    have HOK : okP n c = decide (q + (if 0 < r then 1 else 0) ≤ 1152921504606846976) := by unfold okP; rw [hce, hq, hr]
    have hdn : downP n c = if okP n c = true then q else 0 := by unfold downP; rw [hq]
    have hup : upP n c = if okP n c = true then q + (if 0 < r then 1 else 0) else 0 := by unfold upP; rw [hce, hq, hr]
    rw [hdn, hup, HOK]
    rw [hq, hr] at HD
    rw [hq] at hq0 hd
    rw [hr] at hm0 hm1 hd
    have hq9 : q < 18446744073709551616 := by
      rw [← hq, Int.ediv_lt_iff_lt_mul hc]; omega
    clear hce hgH hgL HOK hdn hup hq hr hHL hd h1
    by_cases c1 : 1152921504606846976 < q
    · have e : decide (q + (if 0 < r then 1 else 0) ≤ 1152921504606846976) = false := by simp only [decide_eq_false_iff_not]; split <;> omega
      rw [e]
      simp only [Bool.false_eq_true, if_false]
      clear e
      go_enter Try.func112, Try.ntmps112
      go_wp2_with (first | ((first | with_reducible refine wrx2 ?_ | with_reducible refine wrx ?_); (repeat (first | go_big_quiet_step ((first | (go_at_call 117; with_reducible exact Calls.ext (HD.out _)))) | quiet_step ((first | (go_at_call 117; with_reducible exact Calls.ext (HD.out _)))))); refine wpQuiet_nil ?_; rintro _ ⟨yr, rfl⟩; have syr := Ext.size yr; (repeat (first | rw [World.size_alloc] at syr | rw [World.size_setCell] at syr | rw [World.size_drew] at syr)); have : w.heap.size < yr.now.heap.size := (by omega); have : w.heap.size ≤ yr.now.heap.size := (by omega); have : w.heap.size < yr.now.heap.size + 1 + 1 := (by omega)) | (go_at_call 117; (first | with_reducible refine (Calls.giv2 (HD.out _)).mono ?_ | with_reducible refine (Calls.giv (HD.out _)).mono ?_); rintro _ _ ⟨y1, rfl, rfl⟩; have sy1 := Ext.size y1; (repeat (first | rw [World.size_alloc] at sy1 | rw [World.size_setCell] at sy1 | rw [World.size_drew] at sy1)); have : w.heap.size < y1.now.heap.size := (by omega); have : w.heap.size ≤ y1.now.heap.size := (by omega); have : w.heap.size < y1.now.heap.size + 1 + 1 := (by omega)))
      go_returns
      refine ⟨rfl, ?_⟩
      repeat' (first | (with_reducible exact Below.refl _ _) | (with_reducible assumption) | (with_reducible refine Ext.below _ ?_ ?_) | (with_reducible refine Below.on ?_ (by with_reducible assumption) ?_) | (with_reducible refine Below.alloc ?_ ?_ _) | (with_reducible refine Below.drew ?_) | (with_reducible refine Below.setCell ?_ ?_ _) | (with_reducible exact Nat.le_refl _) | omega | (simp; done) | (simp [go_sem]; done) | (simp at *; omega))
    · by_cases c2 : 0 < r
      · by_cases c3 : q = 1152921504606846976
        · subst c3
          have e : decide ((1152921504606846976 : Int) + (if 0 < r then 1 else 0) ≤ 1152921504606846976) = false := by simp [c2]
          rw [e]
          simp only [Bool.false_eq_true, if_false]
          clear e
          go_enter Try.func112, Try.ntmps112
          go_wp2_with (first | ((first | with_reducible refine wrx2 ?_ | with_reducible refine wrx ?_); (repeat (first | go_big_quiet_step ((first | (go_at_call 117; with_reducible exact Calls.ext (HD.out _)))) | quiet_step ((first | (go_at_call 117; with_reducible exact Calls.ext (HD.out _)))))); refine wpQuiet_nil ?_; rintro _ ⟨yr, rfl⟩; have syr := Ext.size yr; (repeat (first | rw [World.size_alloc] at syr | rw [World.size_setCell] at syr | rw [World.size_drew] at syr)); have : w.heap.size < yr.now.heap.size := (by omega); have : w.heap.size ≤ yr.now.heap.size := (by omega); have : w.heap.size < yr.now.heap.size + 1 + 1 := (by omega)) | (go_at_call 117; (first | with_reducible refine (Calls.giv2 (HD.out _)).mono ?_ | with_reducible refine (Calls.giv (HD.out _)).mono ?_); rintro _ _ ⟨y1, rfl, rfl⟩; have sy1 := Ext.size y1; (repeat (first | rw [World.size_alloc] at sy1 | rw [World.size_setCell] at sy1 | rw [World.size_drew] at sy1)); have : w.heap.size < y1.now.heap.size := (by omega); have : w.heap.size ≤ y1.now.heap.size := (by omega); have : w.heap.size < y1.now.heap.size + 1 + 1 := (by omega)))
          go_returns
          refine ⟨rfl, ?_⟩
          repeat' (first | (with_reducible exact Below.refl _ _) | (with_reducible assumption) | (with_reducible refine Ext.below _ ?_ ?_) | (with_reducible refine Below.on ?_ (by with_reducible assumption) ?_) | (with_reducible refine Below.alloc ?_ ?_ _) | (with_reducible refine Below.drew ?_) | (with_reducible refine Below.setCell ?_ ?_ _) | (with_reducible exact Nat.le_refl _) | omega | (simp; done) | (simp [go_sem]; done) | (simp at *; omega))
        · have e : decide (q + (if 0 < r then 1 else 0) ≤ 1152921504606846976) = true := by simp only [c2, if_true, decide_eq_true_eq]; omega
          have e3 : (q == 1152921504606846976) = false := by simpa using c3
          rw [e]
          simp only [if_true, c2]
          have c4 : q < 1152921504606846976 := by omega
          have e5 : wrap64 q = q := IntWalk.wrap64_in _ (by omega)
          clear e c1 c3
          go_enter Try.func112, Try.ntmps112
          go_wp2_with (first | ((first | with_reducible refine wrx2 ?_ | with_reducible refine wrx ?_); (repeat (first | go_big_quiet_step ((first | (go_at_call 117; with_reducible exact Calls.ext (HD.out _)))) | quiet_step ((first | (go_at_call 117; with_reducible exact Calls.ext (HD.out _)))))); refine wpQuiet_nil ?_; rintro _ ⟨yr, rfl⟩; have syr := Ext.size yr; (repeat (first | rw [World.size_alloc] at syr | rw [World.size_setCell] at syr | rw [World.size_drew] at syr)); have : w.heap.size < yr.now.heap.size := (by omega); have : w.heap.size ≤ yr.now.heap.size := (by omega); have : w.heap.size < yr.now.heap.size + 1 + 1 := (by omega)) | (go_at_call 117; (first | with_reducible refine (Calls.giv2 (HD.out _)).mono ?_ | with_reducible refine (Calls.giv (HD.out _)).mono ?_); rintro _ _ ⟨y1, rfl, rfl⟩; have sy1 := Ext.size y1; (repeat (first | rw [World.size_alloc] at sy1 | rw [World.size_setCell] at sy1 | rw [World.size_drew] at sy1)); have : w.heap.size < y1.now.heap.size := (by omega); have : w.heap.size ≤ y1.now.heap.size := (by omega); have : w.heap.size < y1.now.heap.size + 1 + 1 := (by omega)))
          go_returns
          refine ⟨rfl, ?_⟩
          repeat' (first | (with_reducible exact Below.refl _ _) | (with_reducible assumption) | (with_reducible refine Ext.below _ ?_ ?_) | (with_reducible refine Below.on ?_ (by with_reducible assumption) ?_) | (with_reducible refine Below.alloc ?_ ?_ _) | (with_reducible refine Below.drew ?_) | (with_reducible refine Below.setCell ?_ ?_ _) | (with_reducible exact Nat.le_refl _) | omega | (simp; done) | (simp [go_sem]; done) | (simp at *; omega))
      · obtain rfl : r = 0 := by omega
        have e : decide (q + (if (0 : Int) < 0 then 1 else 0) ≤ 1152921504606846976) = true := by simp; omega
        rw [e]
        simp only [if_true, show ((0 : Int) < 0) = False by simp, if_false, Int.add_zero]
        have c4 : q ≤ 1152921504606846976 := by omega
        have e5 : wrap64 q = q := IntWalk.wrap64_in _ (by omega)
        clear e c1 c2
        by_cases c3 : q = 1152921504606846976
        · subst c3
          go_enter Try.func112, Try.ntmps112
          go_wp2_with (first | ((first | with_reducible refine wrx2 ?_ | with_reducible refine wrx ?_); (repeat (first | go_big_quiet_step ((first | (go_at_call 117; with_reducible exact Calls.ext (HD.out _)))) | quiet_step ((first | (go_at_call 117; with_reducible exact Calls.ext (HD.out _)))))); refine wpQuiet_nil ?_; rintro _ ⟨yr, rfl⟩; have syr := Ext.size yr; (repeat (first | rw [World.size_alloc] at syr | rw [World.size_setCell] at syr | rw [World.size_drew] at syr)); have : w.heap.size < yr.now.heap.size := (by omega); have : w.heap.size ≤ yr.now.heap.size := (by omega); have : w.heap.size < yr.now.heap.size + 1 + 1 := (by omega)) | (go_at_call 117; (first | with_reducible refine (Calls.giv2 (HD.out _)).mono ?_ | with_reducible refine (Calls.giv (HD.out _)).mono ?_); rintro _ _ ⟨y1, rfl, rfl⟩; have sy1 := Ext.size y1; (repeat (first | rw [World.size_alloc] at sy1 | rw [World.size_setCell] at sy1 | rw [World.size_drew] at sy1)); have : w.heap.size < y1.now.heap.size := (by omega); have : w.heap.size ≤ y1.now.heap.size := (by omega); have : w.heap.size < y1.now.heap.size + 1 + 1 := (by omega)))
          go_returns
          refine ⟨rfl, ?_⟩
          repeat' (first | (with_reducible exact Below.refl _ _) | (with_reducible assumption) | (with_reducible refine Ext.below _ ?_ ?_) | (with_reducible refine Below.on ?_ (by with_reducible assumption) ?_) | (with_reducible refine Below.alloc ?_ ?_ _) | (with_reducible refine Below.drew ?_) | (with_reducible refine Below.setCell ?_ ?_ _) | (with_reducible exact Nat.le_refl _) | omega | (simp; done) | (simp [go_sem]; done) | (simp at *; omega))
        · have e3 : (q == 1152921504606846976) = false := by simpa using c3
          clear c3
          go_enter Try.func112, Try.ntmps112
          go_wp2_with (first | ((first | with_reducible refine wrx2 ?_ | with_reducible refine wrx ?_); (repeat (first | go_big_quiet_step ((first | (go_at_call 117; with_reducible exact Calls.ext (HD.out _)))) | quiet_step ((first | (go_at_call 117; with_reducible exact Calls.ext (HD.out _)))))); refine wpQuiet_nil ?_; rintro _ ⟨yr, rfl⟩; have syr := Ext.size yr; (repeat (first | rw [World.size_alloc] at syr | rw [World.size_setCell] at syr | rw [World.size_drew] at syr)); have : w.heap.size < yr.now.heap.size := (by omega); have : w.heap.size ≤ yr.now.heap.size := (by omega); have : w.heap.size < yr.now.heap.size + 1 + 1 := (by omega)) | (go_at_call 117; (first | with_reducible refine (Calls.giv2 (HD.out _)).mono ?_ | with_reducible refine (Calls.giv (HD.out _)).mono ?_); rintro _ _ ⟨y1, rfl, rfl⟩; have sy1 := Ext.size y1; (repeat (first | rw [World.size_alloc] at sy1 | rw [World.size_setCell] at sy1 | rw [World.size_drew] at sy1)); have : w.heap.size < y1.now.heap.size := (by omega); have : w.heap.size ≤ y1.now.heap.size := (by omega); have : w.heap.size < y1.now.heap.size + 1 + 1 := (by omega)))
          go_returns
          refine ⟨rfl, ?_⟩
          repeat' (first | (with_reducible exact Below.refl _ _) | (with_reducible assumption) | (with_reducible refine Ext.below _ ?_ ?_) | (with_reducible refine Below.on ?_ (by with_reducible assumption) ?_) | (with_reducible refine Below.alloc ?_ ?_ _) | (with_reducible refine Below.drew ?_) | (with_reducible refine Below.setCell ?_ ?_ _) | (with_reducible exact Nat.le_refl _) | omega | (simp; done) | (simp [go_sem]; done) | (simp at *; omega))
set_option maxHeartbeats 1000000 in
theorem over_posB (n c : Int) (w : World) (hn : 0 ≤ n) (hn' : n < 85070591730234615865843651857942052864) (hc : 0 < c) (hc' : c < 9223372036854775808) :
    Calls Try.prog 112 #[.agg #[.int .i64 (whi (-n)), .int .u64 (wlo (-n))], .int .i64 (-c)] w (Gives (.tuple #[.int .i64 (downP n c), .int .i64 (upP n c), .bool (okP n c)]) w) := by
  have NG := fun W => negative_any (-n) W (by unfold I64 whi; omega)
  rw [show - -n = n by omega] at NG
  have hcn : -c < 0 := by omega
  have hce := cei_eq (n := n) hc
  have hm0 := Int.emod_nonneg n (b := c) (by omega)
  have hm1 := Int.emod_lt_of_pos n hc
  have hd := Int.emod_add_mul_ediv n c
  have hq0 : 0 ≤ n / c := Int.ediv_nonneg hn (by omega)
  have hH : 0 ≤ whi n ∧ whi n < 9223372036854775808 := by unfold whi; omega
  have hL : 0 ≤ wlo n ∧ wlo n < 18446744073709551616 := by unfold wlo; omega
  have hHL : whi n * 18446744073709551616 + wlo n = n := by unfold whi wlo; omega
  obtain ⟨hH0, hH1⟩ := hH; obtain ⟨hL0, hL1⟩ := hL
  have w1 : IntKind.u64.wrap (whi n) = whi n := by go_arith
  have w2 : IntKind.u64.wrap c = c := by go_arith
  by_cases h1 : c ≤ whi n
  · have hok : okP n c = false := by
      unfold okP
      have : 18446744073709551616 ≤ n / c := by
        rw [Int.le_ediv_iff_mul_le hc]; omega
      simp only [decide_eq_false_iff_not]; split at hce <;> omega
    unfold downP upP
    rw [hok]
    simp only [Bool.false_eq_true, if_false]
    generalize whi n = H at *
    generalize wlo n = l at *
    generalize whi (-n) = H' at *
    generalize wlo (-n) = l' at *
    have HN := Go.Lib.hid NG
    clear hok hce hd NG
    go_enter Try.func112, Try.ntmps112
    go_wp2_with (first | ((first | with_reducible refine wrx2 ?_ | with_reducible refine wrx ?_); (repeat (first | go_big_quiet_step ((first | (go_at_call 106; with_reducible exact Calls.ext (HN.out _)))) | quiet_step ((first | (go_at_call 106; with_reducible exact Calls.ext (HN.out _)))))); refine wpQuiet_nil ?_; rintro _ ⟨yr, rfl⟩; have syr := Ext.size yr; (repeat (first | rw [World.size_alloc] at syr | rw [World.size_setCell] at syr | rw [World.size_drew] at syr)); have : w.heap.size < yr.now.heap.size := (by omega); have : w.heap.size ≤ yr.now.heap.size := (by omega); have : w.heap.size < yr.now.heap.size + 1 + 1 := (by omega)) | (go_at_call 106; (first | with_reducible refine (Calls.giv2 (HN.out _)).mono ?_ | with_reducible refine (Calls.giv (HN.out _)).mono ?_); rintro _ _ ⟨y1, rfl, rfl⟩; have sy1 := Ext.size y1; (repeat (first | rw [World.size_alloc] at sy1 | rw [World.size_setCell] at sy1 | rw [World.size_drew] at sy1)); have : w.heap.size < y1.now.heap.size := (by omega); have : w.heap.size ≤ y1.now.heap.size := (by omega); have : w.heap.size < y1.now.heap.size + 1 + 1 := (by omega)))
    go_returns
    refine ⟨rfl, ?_⟩
    repeat' (first | (with_reducible exact Below.refl _ _) | (with_reducible assumption) | (with_reducible refine Ext.below _ ?_ ?_) | (with_reducible refine Below.on ?_ (by with_reducible assumption) ?_) | (with_reducible refine Below.alloc ?_ ?_ _) | (with_reducible refine Below.drew ?_) | (with_reducible refine Below.setCell ?_ ?_ _) | (with_reducible exact Nat.le_refl _) | omega | (simp; done) | (simp [go_sem]; done) | (simp at *; omega))
  · have D := fun W => Div64_any (whi n) (wlo n) c W hH0 (by omega) hL0 hL1 (by omega)
    rw [hHL] at D
    have HD := Go.Lib.hid D
    clear D
    have hlt : whi n < c := by omega
    generalize hgH : whi n = H at *
    generalize hgL : wlo n = l at *
    generalize whi (-n) = H' at *
    generalize wlo (-n) = l' at *
    have HN := Go.Lib.hid NG
    clear NG
    obtain ⟨q, hq⟩ : ∃ q, n / c = q := ⟨_, rfl⟩
    obtain ⟨r, hr⟩ : ∃ r, n % c = r := ⟨_, rfl⟩
    have HOK : okP n c = decide (q + (if 0 < r then 1 else 0) ≤ 1152921504606846976) := by unfold okP; rw [hce, hq, hr]
    have hdn : downP n c = if okP n c = true then q else 0 := by unfold downP; rw [hq]
    have hup : upP n c = if okP n c = true then q + (if 0 < r then 1 else 0) else 0 := by unfold upP; rw [hce, hq, hr]
    rw [hdn, hup, HOK]
    rw [hq, hr] at HD
    rw [hq] at hq0 hd
    rw [hr] at hm0 hm1 hd
    have hq9 : q < 18446744073709551616 := by
      rw [← hq, Int.ediv_lt_iff_lt_mul hc]; omega
    clear hce hgH hgL HOK hdn hup hq hr hHL hd h1
    by_cases c1 : 1152921504606846976 < q
    · have e : decide (q + (if 0 < r then 1 else 0) ≤ 1152921504606846976) = false := by simp only [decide_eq_false_iff_not]; split <;> omega
      rw [e]
      simp only [Bool.false_eq_true, if_false]
      clear e
      go_enter Try.func112, Try.ntmps112
      go_wp2_with (first | ((first | with_reducible refine wrx2 ?_ | with_reducible refine wrx ?_); (repeat (first | go_big_quiet_step ((first | (go_at_call 106; with_reducible exact Calls.ext (HN.out _)) | (go_at_call 117; with_reducible exact Calls.ext (HD.out _)))) | quiet_step ((first | (go_at_call 106; with_reducible exact Calls.ext (HN.out _)) | (go_at_call 117; with_reducible exact Calls.ext (HD.out _)))))); refine wpQuiet_nil ?_; rintro _ ⟨yr, rfl⟩; have syr := Ext.size yr; (repeat (first | rw [World.size_alloc] at syr | rw [World.size_setCell] at syr | rw [World.size_drew] at syr)); have : w.heap.size < yr.now.heap.size := (by omega); have : w.heap.size ≤ yr.now.heap.size := (by omega); have : w.heap.size < yr.now.heap.size + 1 + 1 := (by omega)) | (go_at_call 106; (first | with_reducible refine (Calls.giv2 (HN.out _)).mono ?_ | with_reducible refine (Calls.giv (HN.out _)).mono ?_); rintro _ _ ⟨y1, rfl, rfl⟩; have sy1 := Ext.size y1; (repeat (first | rw [World.size_alloc] at sy1 | rw [World.size_setCell] at sy1 | rw [World.size_drew] at sy1)); have : w.heap.size < y1.now.heap.size := (by omega); have : w.heap.size ≤ y1.now.heap.size := (by omega); have : w.heap.size < y1.now.heap.size + 1 + 1 := (by omega)) | (go_at_call 117; (first | with_reducible refine (Calls.giv2 (HD.out _)).mono ?_ | with_reducible refine (Calls.giv (HD.out _)).mono ?_); rintro _ _ ⟨y2, rfl, rfl⟩; have sy2 := Ext.size y2; (repeat (first | rw [World.size_alloc] at sy2 | rw [World.size_setCell] at sy2 | rw [World.size_drew] at sy2)); have : w.heap.size < y2.now.heap.size := (by omega); have : w.heap.size ≤ y2.now.heap.size := (by omega); have : w.heap.size < y2.now.heap.size + 1 + 1 := (by omega)))
      go_returns
      refine ⟨rfl, ?_⟩
      repeat' (first | (with_reducible exact Below.refl _ _) | (with_reducible assumption) | (with_reducible refine Ext.below _ ?_ ?_) | (with_reducible refine Below.on ?_ (by with_reducible assumption) ?_) | (with_reducible refine Below.alloc ?_ ?_ _) | (with_reducible refine Below.drew ?_) | (with_reducible refine Below.setCell ?_ ?_ _) | (with_reducible exact Nat.le_refl _) | omega | (simp; done) | (simp [go_sem]; done) | (simp at *; omega))
    · by_cases c2 : 0 < r
      · by_cases c3 : q = 1152921504606846976
        · subst c3
          have e : decide ((1152921504606846976 : Int) + (if 0 < r then 1 else 0) ≤ 1152921504606846976) = false := by simp [c2]
          rw [e]
          simp only [Bool.false_eq_true, if_false]
          clear e
          go_enter Try.func112, Try.ntmps112
          go_wp2_with (first | ((first | with_reducible refine wrx2 ?_ | with_reducible refine wrx ?_); (repeat (first | go_big_quiet_step ((first | (go_at_call 106; with_reducible exact Calls.ext (HN.out _)) | (go_at_call 117; with_reducible exact Calls.ext (HD.out _)))) | quiet_step ((first | (go_at_call 106; with_reducible exact Calls.ext (HN.out _)) | (go_at_call 117; with_reducible exact Calls.ext (HD.out _)))))); refine wpQuiet_nil ?_; rintro _ ⟨yr, rfl⟩; have syr := Ext.size yr; (repeat (first | rw [World.size_alloc] at syr | rw [World.size_setCell] at syr | rw [World.size_drew] at syr)); have : w.heap.size < yr.now.heap.size := (by omega); have : w.heap.size ≤ yr.now.heap.size := (by omega); have : w.heap.size < yr.now.heap.size + 1 + 1 := (by omega)) | (go_at_call 106; (first | with_reducible refine (Calls.giv2 (HN.out _)).mono ?_ | with_reducible refine (Calls.giv (HN.out _)).mono ?_); rintro _ _ ⟨y1, rfl, rfl⟩; have sy1 := Ext.size y1; (repeat (first | rw [World.size_alloc] at sy1 | rw [World.size_setCell] at sy1 | rw [World.size_drew] at sy1)); have : w.heap.size < y1.now.heap.size := (by omega); have : w.heap.size ≤ y1.now.heap.size := (by omega); have : w.heap.size < y1.now.heap.size + 1 + 1 := (by omega)) | (go_at_call 117; (first | with_reducible refine (Calls.giv2 (HD.out _)).mono ?_ | with_reducible refine (Calls.giv (HD.out _)).mono ?_); rintro _ _ ⟨y2, rfl, rfl⟩; have sy2 := Ext.size y2; (repeat (first | rw [World.size_alloc] at sy2 | rw [World.size_setCell] at sy2 | rw [World.size_drew] at sy2)); have : w.heap.size < y2.now.heap.size := (by omega); have : w.heap.size ≤ y2.now.heap.size := (by omega); have : w.heap.size < y2.now.heap.size + 1 + 1 := (by omega)))
          go_returns
          refine ⟨rfl, ?_⟩
          repeat' (first | (with_reducible exact Below.refl _ _) | (with_reducible assumption) | (with_reducible refine Ext.below _ ?_ ?_) | (with_reducible refine Below.on ?_ (by with_reducible assumption) ?_) | (with_reducible refine Below.alloc ?_ ?_ _) | (with_reducible refine Below.drew ?_) | (with_reducible refine Below.setCell ?_ ?_ _) | (with_reducible exact Nat.le_refl _) | omega | (simp; done) | (simp [go_sem]; done) | (simp at *; omega))
        · have e : decide (q + (if 0 < r then 1 else 0) ≤ 1152921504606846976) = true := by simp only [c2, if_true, decide_eq_true_eq]; omega
          have e3 : (q == 1152921504606846976) = false := by simpa using c3
          rw [e]
          simp only [if_true, c2]
          have c4 : q < 1152921504606846976 := by omega
          have e5 : wrap64 q = q := IntWalk.wrap64_in _ (by omega)
          clear e c1 c3
          go_enter Try.func112, Try.ntmps112
          go_wp2_with (first | ((first | with_reducible refine wrx2 ?_ | with_reducible refine wrx ?_); (repeat (first | go_big_quiet_step ((first | (go_at_call 106; with_reducible exact Calls.ext (HN.out _)) | (go_at_call 117; with_reducible exact Calls.ext (HD.out _)))) | quiet_step ((first | (go_at_call 106; with_reducible exact Calls.ext (HN.out _)) | (go_at_call 117; with_reducible exact Calls.ext (HD.out _)))))); refine wpQuiet_nil ?_; rintro _ ⟨yr, rfl⟩; have syr := Ext.size yr; (repeat (first | rw [World.size_alloc] at syr | rw [World.size_setCell] at syr | rw [World.size_drew] at syr)); have : w.heap.size < yr.now.heap.size := (by omega); have : w.heap.size ≤ yr.now.heap.size := (by omega); have : w.heap.size < yr.now.heap.size + 1 + 1 := (by omega)) | (go_at_call 106; (first | with_reducible refine (Calls.giv2 (HN.out _)).mono ?_ | with_reducible refine (Calls.giv (HN.out _)).mono ?_); rintro _ _ ⟨y1, rfl, rfl⟩; have sy1 := Ext.size y1; (repeat (first | rw [World.size_alloc] at sy1 | rw [World.size_setCell] at sy1 | rw [World.size_drew] at sy1)); have : w.heap.size < y1.now.heap.size := (by omega); have : w.heap.size ≤ y1.now.heap.size := (by omega); have : w.heap.size < y1.now.heap.size + 1 + 1 := (by omega)) | (go_at_call 117; (first | with_reducible refine (Calls.giv2 (HD.out _)).mono ?_ | with_reducible refine (Calls.giv (HD.out _)).mono ?_); rintro _ _ ⟨y2, rfl, rfl⟩; have sy2 := Ext.size y2; (repeat (first | rw [World.size_alloc] at sy2 | rw [World.size_setCell] at sy2 | rw [World.size_drew] at sy2)); have : w.heap.size < y2.now.heap.size := (by omega); have : w.heap.size ≤ y2.now.heap.size := (by omega); have : w.heap.size < y2.now.heap.size + 1 + 1 := (by omega)))
          go_returns
          refine ⟨rfl, ?_⟩
          repeat' (first | (with_reducible exact Below.refl _ _) | (with_reducible assumption) | (with_reducible refine Ext.below _ ?_ ?_) | (with_reducible refine Below.on ?_ (by with_reducible assumption) ?_) | (with_reducible refine Below.alloc ?_ ?_ _) | (with_reducible refine Below.drew ?_) | (with_reducible refine Below.setCell ?_ ?_ _) | (with_reducible exact Nat.le_refl _) | omega | (simp; done) | (simp [go_sem]; done) | (simp at *; omega))
      · obtain rfl : r = 0 := by omega
        have e : decide (q + (if (0 : Int) < 0 then 1 else 0) ≤ 1152921504606846976) = true := by simp; omega
        rw [e]
        simp only [if_true, show ((0 : Int) < 0) = False by simp, if_false, Int.add_zero]
        have c4 : q ≤ 1152921504606846976 := by omega
        have e5 : wrap64 q = q := IntWalk.wrap64_in _ (by omega)
        clear e c1 c2
        by_cases c3 : q = 1152921504606846976
        · subst c3
          go_enter Try.func112, Try.ntmps112
          go_wp2_with (first | ((first | with_reducible refine wrx2 ?_ | with_reducible refine wrx ?_); (repeat (first | go_big_quiet_step ((first | (go_at_call 106; with_reducible exact Calls.ext (HN.out _)) | (go_at_call 117; with_reducible exact Calls.ext (HD.out _)))) | quiet_step ((first | (go_at_call 106; with_reducible exact Calls.ext (HN.out _)) | (go_at_call 117; with_reducible exact Calls.ext (HD.out _)))))); refine wpQuiet_nil ?_; rintro _ ⟨yr, rfl⟩; have syr := Ext.size yr; (repeat (first | rw [World.size_alloc] at syr | rw [World.size_setCell] at syr | rw [World.size_drew] at syr)); have : w.heap.size < yr.now.heap.size := (by omega); have : w.heap.size ≤ yr.now.heap.size := (by omega); have : w.heap.size < yr.now.heap.size + 1 + 1 := (by omega)) | (go_at_call 106; (first | with_reducible refine (Calls.giv2 (HN.out _)).mono ?_ | with_reducible refine (Calls.giv (HN.out _)).mono ?_); rintro _ _ ⟨y1, rfl, rfl⟩; have sy1 := Ext.size y1; (repeat (first | rw [World.size_alloc] at sy1 | rw [World.size_setCell] at sy1 | rw [World.size_drew] at sy1)); have : w.heap.size < y1.now.heap.size := (by omega); have : w.heap.size ≤ y1.now.heap.size := (by omega); have : w.heap.size < y1.now.heap.size + 1 + 1 := (by omega)) | (go_at_call 117; (first | with_reducible refine (Calls.giv2 (HD.out _)).mono ?_ | with_reducible refine (Calls.giv (HD.out _)).mono ?_); rintro _ _ ⟨y2, rfl, rfl⟩; have sy2 := Ext.size y2; (repeat (first | rw [World.size_alloc] at sy2 | rw [World.size_setCell] at sy2 | rw [World.size_drew] at sy2)); have : w.heap.size < y2.now.heap.size := (by omega); have : w.heap.size ≤ y2.now.heap.size := (by omega); have : w.heap.size < y2.now.heap.size + 1 + 1 := (by omega)))
          go_returns
          refine ⟨rfl, ?_⟩
          repeat' (first | (with_reducible exact Below.refl _ _) | (with_reducible assumption) | (with_reducible refine Ext.below _ ?_ ?_) | (with_reducible refine Below.on ?_ (by with_reducible assumption) ?_) | (with_reducible refine Below.alloc ?_ ?_ _) | (with_reducible refine Below.drew ?_) | (with_reducible refine Below.setCell ?_ ?_ _) | (with_reducible exact Nat.le_refl _) | omega | (simp; done) | (simp [go_sem]; done) | (simp at *; omega))
        · have e3 : (q == 1152921504606846976) = false := by simpa using c3
          clear c3
          go_enter Try.func112, Try.ntmps112
          go_wp2_with (first | ((first | with_reducible refine wrx2 ?_ | with_reducible refine wrx ?_); (repeat (first | go_big_quiet_step ((first | (go_at_call 106; with_reducible exact Calls.ext (HN.out _)) | (go_at_call 117; with_reducible exact Calls.ext (HD.out _)))) | quiet_step ((first | (go_at_call 106; with_reducible exact Calls.ext (HN.out _)) | (go_at_call 117; with_reducible exact Calls.ext (HD.out _)))))); refine wpQuiet_nil ?_; rintro _ ⟨yr, rfl⟩; have syr := Ext.size yr; (repeat (first | rw [World.size_alloc] at syr | rw [World.size_setCell] at syr | rw [World.size_drew] at syr)); have : w.heap.size < yr.now.heap.size := (by omega); have : w.heap.size ≤ yr.now.heap.size := (by omega); have : w.heap.size < yr.now.heap.size + 1 + 1 := (by omega)) | (go_at_call 106; (first | with_reducible refine (Calls.giv2 (HN.out _)).mono ?_ | with_reducible refine (Calls.giv (HN.out _)).mono ?_); rintro _ _ ⟨y1, rfl, rfl⟩; have sy1 := Ext.size y1; (repeat (first | rw [World.size_alloc] at sy1 | rw [World.size_setCell] at sy1 | rw [World.size_drew] at sy1)); have : w.heap.size < y1.now.heap.size := (by omega); have : w.heap.size ≤ y1.now.heap.size := (by omega); have : w.heap.size < y1.now.heap.size + 1 + 1 := (by omega)) | (go_at_call 117; (first | with_reducible refine (Calls.giv2 (HD.out _)).mono ?_ | with_reducible refine (Calls.giv (HD.out _)).mono ?_); rintro _ _ ⟨y2, rfl, rfl⟩; have sy2 := Ext.size y2; (repeat (first | rw [World.size_alloc] at sy2 | rw [World.size_setCell] at sy2 | rw [World.size_drew] at sy2)); have : w.heap.size < y2.now.heap.size := (by omega); have : w.heap.size ≤ y2.now.heap.size := (by omega); have : w.heap.size < y2.now.heap.size + 1 + 1 := (by omega)))
          go_returns
          refine ⟨rfl, ?_⟩
          repeat' (first | (with_reducible exact Below.refl _ _) | (with_reducible assumption) | (with_reducible refine Ext.below _ ?_ ?_) | (with_reducible refine Below.on ?_ (by with_reducible assumption) ?_) | (with_reducible refine Below.alloc ?_ ?_ _) | (with_reducible refine Below.drew ?_) | (with_reducible refine Below.setCell ?_ ?_ _) | (with_reducible exact Nat.le_refl _) | omega | (simp; done) | (simp [go_sem]; done) | (simp at *; omega))
theorem upP_bounds {n c : Int} (hn : 0 ≤ n) (hc : 0 < c) : (0 ≤ downP n c ∧ downP n c ≤ 1152921504606846976) ∧ 0 ≤ upP n c ∧ upP n c ≤ 1152921504606846976 := by
  have h := cei_eq (n := n) hc
  have hq0 : 0 ≤ n / c := Int.ediv_nonneg hn (by omega)
  unfold downP upP
  cases hk : okP n c
  · simp
  · unfold okP at hk
    simp only [decide_eq_true_eq] at hk
    simp only [if_true]
    split at h <;> omega
theorem over_negA (n c : Int) (w : World) (hn : 0 < n) (hn' : n < 85070591730234615865843651857942052864) (hc : 0 < c) (hc' : c < 9223372036854775808) :
    Calls Try.prog 112 #[.agg #[.int .i64 (whi (-n)), .int .u64 (wlo (-n))], .int .i64 c] w (Gives (.tuple #[.int .i64 (-upP n c), .int .i64 (-downP n c), .bool (okP n c)]) w) := by
  have NG := fun W => negative_any (-n) W (by unfold I64 whi; omega)
  rw [show - -n = n by omega] at NG
  have OP := Go.Lib.hid (fun W => over_pos n c W (by omega) hn' hc hc')
  have hH : whi (-n) < 0 := by unfold whi; omega
  obtain ⟨⟨b1, b2⟩, b3, b4⟩ := upP_bounds (n := n) (c := c) (by omega) hc
  generalize whi (-n) = H at *
  generalize wlo (-n) = l at *
  generalize whi n = H2 at *
  generalize wlo n = l2 at *
  generalize upP n c = u at *
  generalize downP n c = d at *
  have HN := Go.Lib.hid NG
  clear NG
  go_enter Try.func112, Try.ntmps112
  go_wp2_with (first | ((first | with_reducible refine wrx2 ?_ | with_reducible refine wrx ?_); (repeat (first | go_big_quiet_step ((first | (go_at_call 106; with_reducible exact Calls.ext (HN.out _)) | (go_at_call 112; with_reducible exact Calls.ext (OP.out _)))) | quiet_step ((first | (go_at_call 106; with_reducible exact Calls.ext (HN.out _)) | (go_at_call 112; with_reducible exact Calls.ext (OP.out _)))))); refine wpQuiet_nil ?_; rintro _ ⟨yr, rfl⟩; have syr := Ext.size yr; (repeat (first | rw [World.size_alloc] at syr | rw [World.size_setCell] at syr | rw [World.size_drew] at syr)); have : w.heap.size < yr.now.heap.size := (by omega); have : w.heap.size ≤ yr.now.heap.size := (by omega); have : w.heap.size < yr.now.heap.size + 1 + 1 := (by omega)) | (go_at_call 106; (first | with_reducible refine (Calls.giv2 (HN.out _)).mono ?_ | with_reducible refine (Calls.giv (HN.out _)).mono ?_); rintro _ _ ⟨y1, rfl, rfl⟩; have sy1 := Ext.size y1; (repeat (first | rw [World.size_alloc] at sy1 | rw [World.size_setCell] at sy1 | rw [World.size_drew] at sy1)); have : w.heap.size < y1.now.heap.size := (by omega); have : w.heap.size ≤ y1.now.heap.size := (by omega); have : w.heap.size < y1.now.heap.size + 1 + 1 := (by omega)) | (go_at_call 112; (first | with_reducible refine (Calls.giv2 (OP.out _)).mono ?_ | with_reducible refine (Calls.giv (OP.out _)).mono ?_); rintro _ _ ⟨y2, rfl, rfl⟩; have sy2 := Ext.size y2; (repeat (first | rw [World.size_alloc] at sy2 | rw [World.size_setCell] at sy2 | rw [World.size_drew] at sy2)); have : w.heap.size < y2.now.heap.size := (by omega); have : w.heap.size ≤ y2.now.heap.size := (by omega); have : w.heap.size < y2.now.heap.size + 1 + 1 := (by omega)))
  go_returns
  refine ⟨rfl, ?_⟩
  repeat' (first | (with_reducible exact Below.refl _ _) | (with_reducible assumption) | (with_reducible refine Ext.below _ ?_ ?_) | (with_reducible refine Below.on ?_ (by with_reducible assumption) ?_) | (with_reducible refine Below.alloc ?_ ?_ _) | (with_reducible refine Below.drew ?_) | (with_reducible refine Below.setCell ?_ ?_ _) | (with_reducible exact Nat.le_refl _) | omega | (simp; done) | (simp [go_sem]; done) | (simp at *; omega))
theorem over_negB (n c : Int) (w : World) (hn : 0 < n) (hn' : n < 85070591730234615865843651857942052864) (hc : 0 < c) (hc' : c < 9223372036854775808) :
    Calls Try.prog 112 #[.agg #[.int .i64 (whi n), .int .u64 (wlo n)], .int .i64 (-c)] w (Gives (.tuple #[.int .i64 (-upP n c), .int .i64 (-downP n c), .bool (okP n c)]) w) := by
  have NG := fun W => negative_any n W (by unfold I64 whi; omega)
  have NH := fun W => negative_any (-n) W (by unfold I64 whi; omega)
  rw [show - -n = n by omega] at NH
  have OP := Go.Lib.hid (fun W => over_pos n c W (by omega) hn' hc hc')
  have hH : whi (-n) < 0 := by unfold whi; omega
  have hcn : -c < 0 := by omega
  obtain ⟨⟨b1, b2⟩, b3, b4⟩ := upP_bounds (n := n) (c := c) (by omega) hc
  generalize whi (-n) = H at *
  generalize wlo (-n) = l at *
  generalize whi n = H2 at *
  generalize wlo n = l2 at *
  generalize upP n c = u at *
  generalize downP n c = d at *
  have HN := Go.Lib.hid NG; have HO := Go.Lib.hid NH
  clear NG NH
  go_enter Try.func112, Try.ntmps112
  go_wp2_with (first | ((first | with_reducible refine wrx2 ?_ | with_reducible refine wrx ?_); (repeat (first | go_big_quiet_step ((first | (go_at_call 106; with_reducible exact Calls.ext (HN.out _)) | (go_at_call 106; with_reducible exact Calls.ext (HO.out _)) | (go_at_call 112; with_reducible exact Calls.ext (OP.out _)))) | quiet_step ((first | (go_at_call 106; with_reducible exact Calls.ext (HN.out _)) | (go_at_call 106; with_reducible exact Calls.ext (HO.out _)) | (go_at_call 112; with_reducible exact Calls.ext (OP.out _)))))); refine wpQuiet_nil ?_; rintro _ ⟨yr, rfl⟩; have syr := Ext.size yr; (repeat (first | rw [World.size_alloc] at syr | rw [World.size_setCell] at syr | rw [World.size_drew] at syr)); have : w.heap.size < yr.now.heap.size := (by omega); have : w.heap.size ≤ yr.now.heap.size := (by omega); have : w.heap.size < yr.now.heap.size + 1 + 1 := (by omega)) | (go_at_call 106; (first | with_reducible refine (Calls.giv2 (HN.out _)).mono ?_ | with_reducible refine (Calls.giv (HN.out _)).mono ?_); rintro _ _ ⟨y1, rfl, rfl⟩; have sy1 := Ext.size y1; (repeat (first | rw [World.size_alloc] at sy1 | rw [World.size_setCell] at sy1 | rw [World.size_drew] at sy1)); have : w.heap.size < y1.now.heap.size := (by omega); have : w.heap.size ≤ y1.now.heap.size := (by omega); have : w.heap.size < y1.now.heap.size + 1 + 1 := (by omega)) | (go_at_call 106; (first | with_reducible refine (Calls.giv2 (HO.out _)).mono ?_ | with_reducible refine (Calls.giv (HO.out _)).mono ?_); rintro _ _ ⟨y2, rfl, rfl⟩; have sy2 := Ext.size y2; (repeat (first | rw [World.size_alloc] at sy2 | rw [World.size_setCell] at sy2 | rw [World.size_drew] at sy2)); have : w.heap.size < y2.now.heap.size := (by omega); have : w.heap.size ≤ y2.now.heap.size := (by omega); have : w.heap.size < y2.now.heap.size + 1 + 1 := (by omega)) | (go_at_call 112; (first | with_reducible refine (Calls.giv2 (OP.out _)).mono ?_ | with_reducible refine (Calls.giv (OP.out _)).mono ?_); rintro _ _ ⟨y3, rfl, rfl⟩; have sy3 := Ext.size y3; (repeat (first | rw [World.size_alloc] at sy3 | rw [World.size_setCell] at sy3 | rw [World.size_drew] at sy3)); have : w.heap.size < y3.now.heap.size := (by omega); have : w.heap.size ≤ y3.now.heap.size := (by omega); have : w.heap.size < y3.now.heap.size + 1 + 1 := (by omega)))
  go_returns
  refine ⟨rfl, ?_⟩
  repeat' (first | (with_reducible exact Below.refl _ _) | (with_reducible assumption) | (with_reducible refine Ext.below _ ?_ ?_) | (with_reducible refine Below.on ?_ (by with_reducible assumption) ?_) | (with_reducible refine Below.alloc ?_ ?_ _) | (with_reducible refine Below.drew ?_) | (with_reducible refine Below.setCell ?_ ?_ _) | (with_reducible exact Nat.le_refl _) | omega | (simp; done) | (simp [go_sem]; done) | (simp at *; omega))
/-- A quotient, rounded down and up, and whether both lie within the limits, whatever the signs. -/
def ovN (n c : Int) : Int := if c < 0 then -n else n
def ovC (c : Int) : Int := if c < 0 then -c else c
def ovD (n c : Int) : Int := if 0 ≤ ovN n c then downP (ovN n c) (ovC c) else -upP (-ovN n c) (ovC c)
def ovU (n c : Int) : Int := if 0 ≤ ovN n c then upP (ovN n c) (ovC c) else -downP (-ovN n c) (ovC c)
def ovB (n c : Int) : Bool := if 0 ≤ ovN n c then okP (ovN n c) (ovC c) else okP (-ovN n c) (ovC c)
theorem over_any (n c : Int) (w : World) (h1 : -85070591730234615865843651857942052864 < n) (h2 : n < 85070591730234615865843651857942052864) (hc : c ≠ 0) (hc1 : -9223372036854775808 < c) (hc2 : c < 9223372036854775808) :
    Calls Try.prog 112 #[.agg #[.int .i64 (whi n), .int .u64 (wlo n)], .int .i64 c] w (Gives (.tuple #[.int .i64 (ovD n c), .int .i64 (ovU n c), .bool (ovB n c)]) w) := by
  unfold ovD ovU ovB
  by_cases c0 : c < 0
  · have e1 : ovN n c = -n := by unfold ovN; rw [if_pos c0]
    have e2 : ovC c = -c := by unfold ovC; rw [if_pos c0]
    rw [e1, e2]
    by_cases n0 : 0 ≤ -n
    · rw [if_pos n0, if_pos n0, if_pos n0]
      have h := over_posB (-n) (-c) w n0 (by omega) (by omega) (by omega)
      rw [show - -n = n by omega, show - -c = c by omega] at h
      exact h
    · rw [if_neg n0, if_neg n0, if_neg n0, show - -n = n by omega]
      have h := over_negB n (-c) w (by omega) h2 (by omega) (by omega)
      rw [show - -c = c by omega] at h
      exact h
  · have e1 : ovN n c = n := by unfold ovN; rw [if_neg c0]
    have e2 : ovC c = c := by unfold ovC; rw [if_neg c0]
    rw [e1, e2]
    by_cases n0 : 0 ≤ n
    · rw [if_pos n0, if_pos n0, if_pos n0]
      exact over_pos n c w n0 h2 (by omega) hc2
    · rw [if_neg n0, if_neg n0, if_neg n0]
      have h := over_negA (-n) c w (by omega) (by omega) (by omega) hc2
      rw [show - -n = n by omega] at h
      exact h
end Go.Proofs.Ytlhihmfefipehaa

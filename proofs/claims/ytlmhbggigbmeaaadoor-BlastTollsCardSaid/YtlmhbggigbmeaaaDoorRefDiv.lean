/- Contracts of the reference's quotients: a product by a number, two spans. Condition: the divisor is not 0. -/
import Derived.Test.YtlmhbggigbmeaaaDoorRefSpansG
import Derived.Test.YtlmhbggigbmeaaaDoorQuotG
import Derived.Test.YtlmhbggigbmeaaaDoorLawListG
namespace Go.Proofs.YtlmhbggigbmeaaaDoor
open Go.RowKit Go.Shelf
attribute [local go_sem] Ext.cell Ext.frozen Ext.lt Ext.le Ext.lt_add Ext.le_add Ext.ne Ext.ne' lt2 lt3 lt4 lt5 le2 le3 le4
theorem absI_ovC (c : Int) : absI c = ovC c := rfl
theorem absI_ovN (n c : Int) : absI n = if 0 ≤ ovN n c then ovN n c else -ovN n c := by
  unfold absI ovN; split <;> split <;> split <;> omega
/-- The quotients of the absolute values, with their sign. -/
theorem ov_abs (n c : Int) (_hc : c ≠ 0) : ovB n c = okP (absI n) (ovC c) ∧
    ((if ovB n c = true then ovD n c else 0) = if okP (absI n) (ovC c) = true then (if (decide (n < 0) != decide (c < 0)) = true then -cei (absI n) (ovC c) else absI n / ovC c) else 0) ∧
    ((if ovB n c = true then ovU n c else 0) = if okP (absI n) (ovC c) = true then (if (decide (n < 0) != decide (c < 0)) = true then -(absI n / ovC c) else cei (absI n) (ovC c)) else 0) := by
  have hb : ovB n c = okP (absI n) (ovC c) := by
    rw [absI_ovN n c]; unfold ovB; split <;> rfl
  refine ⟨hb, ?_, ?_⟩
  all_goals
    rw [hb]
    split
    · rename_i hk
      by_cases h0 : n = 0
      · subst h0
        have e : absI 0 = 0 := rfl
        have e2 : cei 0 (ovC c) = 0 := by unfold cei; simp
        have e3 : ovN 0 c = 0 := by unfold ovN; split <;> rfl
        rw [e] at hk ⊢
        (first | unfold ovD | unfold ovU)
        rw [e3]
        try rw [e2]
        simp [downP, upP, hk, e2]
      · have sg : ((decide (n < 0) != decide (c < 0)) = true) ↔ ¬ 0 ≤ ovN n c := by
          unfold ovN
          by_cases h1 : n < 0 <;> by_cases h2 : c < 0 <;> simp [h1, h2] <;> omega
        rw [absI_ovN n c] at hk ⊢
        (first | unfold ovD | unfold ovU)
        by_cases hs : 0 ≤ ovN n c
        · rw [if_neg (fun h => (sg.1 h) hs)]
          simp only [hs, if_true] at hk ⊢
          simp [downP, upP, hk]
        · rw [if_pos (sg.2 hs)]
          simp only [hs, if_false] at hk ⊢
          simp [downP, upP, hk]
    · rfl
set_option maxHeartbeats 4000000 in
theorem refquot_any (n c : Int) (w : World) (h1 : -85070591730234615865843651857942052864 < n) (h2 : n < 85070591730234615865843651857942052864) (hc : c ≠ 0) (hc1 : -9223372036854775808 < c) (hc2 : c < 9223372036854775808) :
    Calls Tryd.prog 109 #[refw n, .int .i64 c] w (Gives (.tuple #[.int .i64 (if ovB n c = true then ovD n c else 0), .int .i64 (if ovB n c = true then ovU n c else 0), .bool (ovB n c)]) w) := by
  obtain ⟨v1, v2, v3⟩ := ov_abs n c hc
  rw [v2, v3, v1]
  clear v1 v2 v3
  have c0 : 0 < ovC c := by unfold ovC; split <;> omega
  have c1 : ovC c < 9223372036854775808 := by unfold ovC; split <;> omega
  have n0 := absI_nonneg n
  have n1 : absI n < 85070591730234615865843651857942052864 := by unfold absI; split <;> omega
  have SZ := fun W => size_any c W (by unfold I64; omega)
  rw [absI_ovC] at SZ
  have HZ := Go.Lib.hid SZ
  clear SZ
  unfold refw
  generalize absI n = m at *
  generalize ovC c = k at *
  have hce := cei_eq (n := m) c0
  have hm0 := Int.emod_nonneg m (b := k) (by omega)
  have hm1 := Int.emod_lt_of_pos m c0
  have hq0 : 0 ≤ m / k := Int.ediv_nonneg n0 (by omega)
  have hd := Int.emod_add_mul_ediv m k
  have hH0 : 0 ≤ m / 18446744073709551616 := by omega
  have hL0 : 0 ≤ m % 18446744073709551616 := by omega
  have hL1 : m % 18446744073709551616 < 18446744073709551616 := by omega
  have hHL : m / 18446744073709551616 * 18446744073709551616 + m % 18446744073709551616 = m := by omega
  have D := fun W (hlt : m / 18446744073709551616 < k) => Div64_any (m / 18446744073709551616) (m % 18446744073709551616) k W hH0 hlt hL0 hL1 (by omega)
  rw [hHL] at D
  have hbig : k ≤ m / 18446744073709551616 → 18446744073709551616 ≤ m / k := fun h => by rw [Int.le_ediv_iff_mul_le c0]; omega
  have hsmall : m / 18446744073709551616 < k → m / k < 18446744073709551616 := fun h => by rw [Int.ediv_lt_iff_lt_mul c0]; omega
  have HOK : okP m k = decide (m / k + (if 0 < m % k then 1 else 0) ≤ 1152921504606846976) := by unfold okP; rw [hce]
  rw [HOK, hce]
  generalize m / 18446744073709551616 = H at *
  generalize m % 18446744073709551616 = L at *
  generalize m / k = q at *
  generalize m % k = r at *
  clear HOK hce hd hHL n0 n1 h1 h2 hc hc1 hc2
  by_cases g1 : k ≤ H
  · have hb := hbig g1
    have e : decide (q + (if 0 < r then 1 else 0) ≤ 1152921504606846976) = false := by simp only [decide_eq_false_iff_not]; split <;> omega
    rw [e]
    simp only [Bool.false_eq_true, if_false]
    clear e hbig hsmall D
    go_enter Tryd.func109, Tryd.ntmps109
    go_wp2_with (first | ((first | with_reducible refine wrx2 ?_ | with_reducible refine wrx ?_); (repeat (first | go_big_quiet_step ((first | (go_at_call 114; with_reducible exact Calls.ext (HZ.out _)))) | quiet_step ((first | (go_at_call 114; with_reducible exact Calls.ext (HZ.out _)))))); refine wpQuiet_nil ?_; rintro _ ⟨yr, rfl⟩; have syr := Ext.size yr; (repeat (first | rw [World.size_alloc] at syr | rw [World.size_setCell] at syr | rw [World.size_drew] at syr)); have : w.heap.size < yr.now.heap.size := (by omega); have : w.heap.size ≤ yr.now.heap.size := (by omega); have : w.heap.size < yr.now.heap.size + 1 + 1 := (by omega)) | (go_at_call 114; (first | with_reducible refine (Calls.giv2 (HZ.out _)).mono ?_ | with_reducible refine (Calls.giv (HZ.out _)).mono ?_); rintro _ _ ⟨y1, rfl, rfl⟩; have sy1 := Ext.size y1; (repeat (first | rw [World.size_alloc] at sy1 | rw [World.size_setCell] at sy1 | rw [World.size_drew] at sy1)); have : w.heap.size < y1.now.heap.size := (by omega); have : w.heap.size ≤ y1.now.heap.size := (by omega); have : w.heap.size < y1.now.heap.size + 1 + 1 := (by omega)))
    go_returns
    refine ⟨rfl, ?_⟩
    repeat' (first | (with_reducible exact Below.refl _ _) | (with_reducible assumption) | (with_reducible refine Ext.below _ ?_ ?_) | (with_reducible refine Below.on ?_ (by with_reducible assumption) ?_) | (with_reducible refine Below.alloc ?_ ?_ _) | (with_reducible refine Below.drew ?_) | (with_reducible refine Below.setCell ?_ ?_ _) | (with_reducible exact Nat.le_refl _) | omega | (simp; done) | (simp [go_sem]; done) | (simp at *; omega))
  · have hlt : H < k := by omega
    have hs := hsmall hlt
    have HD := Go.Lib.hid (fun W => D W hlt)
    clear hbig hsmall D g1
    by_cases c1 : 1152921504606846976 < q
    · have e : decide (q + (if 0 < r then 1 else 0) ≤ 1152921504606846976) = false := by simp only [decide_eq_false_iff_not]; split <;> omega
      rw [e]
      simp only [Bool.false_eq_true, if_false]
      clear e
      go_enter Tryd.func109, Tryd.ntmps109
      go_wp2_with (first | ((first | with_reducible refine wrx2 ?_ | with_reducible refine wrx ?_); (repeat (first | go_big_quiet_step ((first | (go_at_call 114; with_reducible exact Calls.ext (HZ.out _)) | (go_at_call 115; with_reducible exact Calls.ext (HD.out _)))) | quiet_step ((first | (go_at_call 114; with_reducible exact Calls.ext (HZ.out _)) | (go_at_call 115; with_reducible exact Calls.ext (HD.out _)))))); refine wpQuiet_nil ?_; rintro _ ⟨yr, rfl⟩; have syr := Ext.size yr; (repeat (first | rw [World.size_alloc] at syr | rw [World.size_setCell] at syr | rw [World.size_drew] at syr)); have : w.heap.size < yr.now.heap.size := (by omega); have : w.heap.size ≤ yr.now.heap.size := (by omega); have : w.heap.size < yr.now.heap.size + 1 + 1 := (by omega)) | (go_at_call 114; (first | with_reducible refine (Calls.giv2 (HZ.out _)).mono ?_ | with_reducible refine (Calls.giv (HZ.out _)).mono ?_); rintro _ _ ⟨y1, rfl, rfl⟩; have sy1 := Ext.size y1; (repeat (first | rw [World.size_alloc] at sy1 | rw [World.size_setCell] at sy1 | rw [World.size_drew] at sy1)); have : w.heap.size < y1.now.heap.size := (by omega); have : w.heap.size ≤ y1.now.heap.size := (by omega); have : w.heap.size < y1.now.heap.size + 1 + 1 := (by omega)) | (go_at_call 115; (first | with_reducible refine (Calls.giv2 (HD.out _)).mono ?_ | with_reducible refine (Calls.giv (HD.out _)).mono ?_); rintro _ _ ⟨y2, rfl, rfl⟩; have sy2 := Ext.size y2; (repeat (first | rw [World.size_alloc] at sy2 | rw [World.size_setCell] at sy2 | rw [World.size_drew] at sy2)); have : w.heap.size < y2.now.heap.size := (by omega); have : w.heap.size ≤ y2.now.heap.size := (by omega); have : w.heap.size < y2.now.heap.size + 1 + 1 := (by omega)))
      go_returns
      refine ⟨rfl, ?_⟩
      repeat' (first | (with_reducible exact Below.refl _ _) | (with_reducible assumption) | (with_reducible refine Ext.below _ ?_ ?_) | (with_reducible refine Below.on ?_ (by with_reducible assumption) ?_) | (with_reducible refine Below.alloc ?_ ?_ _) | (with_reducible refine Below.drew ?_) | (with_reducible refine Below.setCell ?_ ?_ _) | (with_reducible exact Nat.le_refl _) | omega | (simp; done) | (simp [go_sem]; done) | (simp at *; omega))
    · by_cases c2 : 0 < r
      · by_cases c3 : q = 1152921504606846976
        · subst c3
          have e : decide ((1152921504606846976 : Int) + (if 0 < r then 1 else 0) ≤ 1152921504606846976) = false := by simp [c2]
          rw [e]
          simp only [Bool.false_eq_true, if_false]
          clear e
          go_enter Tryd.func109, Tryd.ntmps109
          go_wp2_with (first | ((first | with_reducible refine wrx2 ?_ | with_reducible refine wrx ?_); (repeat (first | go_big_quiet_step ((first | (go_at_call 114; with_reducible exact Calls.ext (HZ.out _)) | (go_at_call 115; with_reducible exact Calls.ext (HD.out _)))) | quiet_step ((first | (go_at_call 114; with_reducible exact Calls.ext (HZ.out _)) | (go_at_call 115; with_reducible exact Calls.ext (HD.out _)))))); refine wpQuiet_nil ?_; rintro _ ⟨yr, rfl⟩; have syr := Ext.size yr; (repeat (first | rw [World.size_alloc] at syr | rw [World.size_setCell] at syr | rw [World.size_drew] at syr)); have : w.heap.size < yr.now.heap.size := (by omega); have : w.heap.size ≤ yr.now.heap.size := (by omega); have : w.heap.size < yr.now.heap.size + 1 + 1 := (by omega)) | (go_at_call 114; (first | with_reducible refine (Calls.giv2 (HZ.out _)).mono ?_ | with_reducible refine (Calls.giv (HZ.out _)).mono ?_); rintro _ _ ⟨y1, rfl, rfl⟩; have sy1 := Ext.size y1; (repeat (first | rw [World.size_alloc] at sy1 | rw [World.size_setCell] at sy1 | rw [World.size_drew] at sy1)); have : w.heap.size < y1.now.heap.size := (by omega); have : w.heap.size ≤ y1.now.heap.size := (by omega); have : w.heap.size < y1.now.heap.size + 1 + 1 := (by omega)) | (go_at_call 115; (first | with_reducible refine (Calls.giv2 (HD.out _)).mono ?_ | with_reducible refine (Calls.giv (HD.out _)).mono ?_); rintro _ _ ⟨y2, rfl, rfl⟩; have sy2 := Ext.size y2; (repeat (first | rw [World.size_alloc] at sy2 | rw [World.size_setCell] at sy2 | rw [World.size_drew] at sy2)); have : w.heap.size < y2.now.heap.size := (by omega); have : w.heap.size ≤ y2.now.heap.size := (by omega); have : w.heap.size < y2.now.heap.size + 1 + 1 := (by omega)))
          go_returns
          refine ⟨rfl, ?_⟩
          repeat' (first | (with_reducible exact Below.refl _ _) | (with_reducible assumption) | (with_reducible refine Ext.below _ ?_ ?_) | (with_reducible refine Below.on ?_ (by with_reducible assumption) ?_) | (with_reducible refine Below.alloc ?_ ?_ _) | (with_reducible refine Below.drew ?_) | (with_reducible refine Below.setCell ?_ ?_ _) | (with_reducible exact Nat.le_refl _) | omega | (simp; done) | (simp [go_sem]; done) | (simp at *; omega))
        · have e : decide (q + (if 0 < r then 1 else 0) ≤ 1152921504606846976) = true := by simp only [c2, if_true, decide_eq_true_eq]; omega
          have e3 : (q == 1152921504606846976) = false := by simpa using c3
          rw [e]
          simp only [if_true, c2]
          have c4 : q < 1152921504606846976 := by omega
          have e5 : wrap64 q = q := IntWalk.wrap64_in _ (by omega)
          clear e c1 c3
          cases f1 : decide (n < 0) <;> cases f2 : decide (c < 0)
          all_goals
            simp only [bne_self_eq_false, Bool.true_bne, Bool.false_bne, Bool.not_false, Bool.false_eq_true, if_false, if_true]
            clear f1
            go_enter Tryd.func109, Tryd.ntmps109
            go_wp2_with (first | ((first | with_reducible refine wrx2 ?_ | with_reducible refine wrx ?_); (repeat (first | go_big_quiet_step ((first | (go_at_call 114; with_reducible exact Calls.ext (HZ.out _)) | (go_at_call 115; with_reducible exact Calls.ext (HD.out _)))) | quiet_step ((first | (go_at_call 114; with_reducible exact Calls.ext (HZ.out _)) | (go_at_call 115; with_reducible exact Calls.ext (HD.out _)))))); refine wpQuiet_nil ?_; rintro _ ⟨yr, rfl⟩; have syr := Ext.size yr; (repeat (first | rw [World.size_alloc] at syr | rw [World.size_setCell] at syr | rw [World.size_drew] at syr)); have : w.heap.size < yr.now.heap.size := (by omega); have : w.heap.size ≤ yr.now.heap.size := (by omega); have : w.heap.size < yr.now.heap.size + 1 + 1 := (by omega)) | (go_at_call 114; (first | with_reducible refine (Calls.giv2 (HZ.out _)).mono ?_ | with_reducible refine (Calls.giv (HZ.out _)).mono ?_); rintro _ _ ⟨y1, rfl, rfl⟩; have sy1 := Ext.size y1; (repeat (first | rw [World.size_alloc] at sy1 | rw [World.size_setCell] at sy1 | rw [World.size_drew] at sy1)); have : w.heap.size < y1.now.heap.size := (by omega); have : w.heap.size ≤ y1.now.heap.size := (by omega); have : w.heap.size < y1.now.heap.size + 1 + 1 := (by omega)) | (go_at_call 115; (first | with_reducible refine (Calls.giv2 (HD.out _)).mono ?_ | with_reducible refine (Calls.giv (HD.out _)).mono ?_); rintro _ _ ⟨y2, rfl, rfl⟩; have sy2 := Ext.size y2; (repeat (first | rw [World.size_alloc] at sy2 | rw [World.size_setCell] at sy2 | rw [World.size_drew] at sy2)); have : w.heap.size < y2.now.heap.size := (by omega); have : w.heap.size ≤ y2.now.heap.size := (by omega); have : w.heap.size < y2.now.heap.size + 1 + 1 := (by omega)))
            go_returns
            refine ⟨rfl, ?_⟩
            repeat' (first | (with_reducible exact Below.refl _ _) | (with_reducible assumption) | (with_reducible refine Ext.below _ ?_ ?_) | (with_reducible refine Below.on ?_ (by with_reducible assumption) ?_) | (with_reducible refine Below.alloc ?_ ?_ _) | (with_reducible refine Below.drew ?_) | (with_reducible refine Below.setCell ?_ ?_ _) | (with_reducible exact Nat.le_refl _) | omega | (simp; done) | (simp [go_sem]; done) | (simp at *; omega))
      · obtain rfl : r = 0 := by omega
        have e : decide (q + (if (0 : Int) < 0 then 1 else 0) ≤ 1152921504606846976) = true := by simp; omega
        rw [e]
        simp only [if_true, show ((0 : Int) < 0) = False by simp, if_false, Int.add_zero]
        have c4 : q ≤ 1152921504606846976 := by omega
        have e5 : wrap64 q = q := IntWalk.wrap64_in _ (by omega)
        clear e c1 c2
        by_cases c3 : q = 1152921504606846976
        · subst c3
          cases f1 : decide (n < 0) <;> cases f2 : decide (c < 0)
          all_goals
            simp only [bne_self_eq_false, Bool.true_bne, Bool.false_bne, Bool.not_false, Bool.false_eq_true, if_false, if_true]
            clear f1
            go_enter Tryd.func109, Tryd.ntmps109
            go_wp2_with (first | ((first | with_reducible refine wrx2 ?_ | with_reducible refine wrx ?_); (repeat (first | go_big_quiet_step ((first | (go_at_call 114; with_reducible exact Calls.ext (HZ.out _)) | (go_at_call 115; with_reducible exact Calls.ext (HD.out _)))) | quiet_step ((first | (go_at_call 114; with_reducible exact Calls.ext (HZ.out _)) | (go_at_call 115; with_reducible exact Calls.ext (HD.out _)))))); refine wpQuiet_nil ?_; rintro _ ⟨yr, rfl⟩; have syr := Ext.size yr; (repeat (first | rw [World.size_alloc] at syr | rw [World.size_setCell] at syr | rw [World.size_drew] at syr)); have : w.heap.size < yr.now.heap.size := (by omega); have : w.heap.size ≤ yr.now.heap.size := (by omega); have : w.heap.size < yr.now.heap.size + 1 + 1 := (by omega)) | (go_at_call 114; (first | with_reducible refine (Calls.giv2 (HZ.out _)).mono ?_ | with_reducible refine (Calls.giv (HZ.out _)).mono ?_); rintro _ _ ⟨y1, rfl, rfl⟩; have sy1 := Ext.size y1; (repeat (first | rw [World.size_alloc] at sy1 | rw [World.size_setCell] at sy1 | rw [World.size_drew] at sy1)); have : w.heap.size < y1.now.heap.size := (by omega); have : w.heap.size ≤ y1.now.heap.size := (by omega); have : w.heap.size < y1.now.heap.size + 1 + 1 := (by omega)) | (go_at_call 115; (first | with_reducible refine (Calls.giv2 (HD.out _)).mono ?_ | with_reducible refine (Calls.giv (HD.out _)).mono ?_); rintro _ _ ⟨y2, rfl, rfl⟩; have sy2 := Ext.size y2; (repeat (first | rw [World.size_alloc] at sy2 | rw [World.size_setCell] at sy2 | rw [World.size_drew] at sy2)); have : w.heap.size < y2.now.heap.size := (by omega); have : w.heap.size ≤ y2.now.heap.size := (by omega); have : w.heap.size < y2.now.heap.size + 1 + 1 := (by omega)))
            go_returns
            refine ⟨rfl, ?_⟩
            repeat' (first | (with_reducible exact Below.refl _ _) | (with_reducible assumption) | (with_reducible refine Ext.below _ ?_ ?_) | (with_reducible refine Below.on ?_ (by with_reducible assumption) ?_) | (with_reducible refine Below.alloc ?_ ?_ _) | (with_reducible refine Below.drew ?_) | (with_reducible refine Below.setCell ?_ ?_ _) | (with_reducible exact Nat.le_refl _) | omega | (simp; done) | (simp [go_sem]; done) | (simp at *; omega))
        · have e3 : (q == 1152921504606846976) = false := by simpa using c3
          clear c3
          cases f1 : decide (n < 0) <;> cases f2 : decide (c < 0)
          all_goals
            simp only [bne_self_eq_false, Bool.true_bne, Bool.false_bne, Bool.not_false, Bool.false_eq_true, if_false, if_true]
            clear f1
            go_enter Tryd.func109, Tryd.ntmps109
            go_wp2_with (first | ((first | with_reducible refine wrx2 ?_ | with_reducible refine wrx ?_); (repeat (first | go_big_quiet_step ((first | (go_at_call 114; with_reducible exact Calls.ext (HZ.out _)) | (go_at_call 115; with_reducible exact Calls.ext (HD.out _)))) | quiet_step ((first | (go_at_call 114; with_reducible exact Calls.ext (HZ.out _)) | (go_at_call 115; with_reducible exact Calls.ext (HD.out _)))))); refine wpQuiet_nil ?_; rintro _ ⟨yr, rfl⟩; have syr := Ext.size yr; (repeat (first | rw [World.size_alloc] at syr | rw [World.size_setCell] at syr | rw [World.size_drew] at syr)); have : w.heap.size < yr.now.heap.size := (by omega); have : w.heap.size ≤ yr.now.heap.size := (by omega); have : w.heap.size < yr.now.heap.size + 1 + 1 := (by omega)) | (go_at_call 114; (first | with_reducible refine (Calls.giv2 (HZ.out _)).mono ?_ | with_reducible refine (Calls.giv (HZ.out _)).mono ?_); rintro _ _ ⟨y1, rfl, rfl⟩; have sy1 := Ext.size y1; (repeat (first | rw [World.size_alloc] at sy1 | rw [World.size_setCell] at sy1 | rw [World.size_drew] at sy1)); have : w.heap.size < y1.now.heap.size := (by omega); have : w.heap.size ≤ y1.now.heap.size := (by omega); have : w.heap.size < y1.now.heap.size + 1 + 1 := (by omega)) | (go_at_call 115; (first | with_reducible refine (Calls.giv2 (HD.out _)).mono ?_ | with_reducible refine (Calls.giv (HD.out _)).mono ?_); rintro _ _ ⟨y2, rfl, rfl⟩; have sy2 := Ext.size y2; (repeat (first | rw [World.size_alloc] at sy2 | rw [World.size_setCell] at sy2 | rw [World.size_drew] at sy2)); have : w.heap.size < y2.now.heap.size := (by omega); have : w.heap.size ≤ y2.now.heap.size := (by omega); have : w.heap.size < y2.now.heap.size + 1 + 1 := (by omega)))
            go_returns
            refine ⟨rfl, ?_⟩
            repeat' (first | (with_reducible exact Below.refl _ _) | (with_reducible assumption) | (with_reducible refine Ext.below _ ?_ ?_) | (with_reducible refine Below.on ?_ (by with_reducible assumption) ?_) | (with_reducible refine Below.alloc ?_ ?_ _) | (with_reducible refine Below.drew ?_) | (with_reducible refine Below.setCell ?_ ?_ _) | (with_reducible exact Nat.le_refl _) | omega | (simp; done) | (simp [go_sem]; done) | (simp at *; omega))
end Go.Proofs.YtlmhbggigbmeaaaDoor

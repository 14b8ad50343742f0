/- SpanTurns: the cross product changes its sign with the order of two vectors, the dot product doesn't, and turning both by a quarter changes neither. No condition. -/
import Derived.Test.YtnhdepdbggcnpaaLaw
import Derived.Test.YtnhdepdbggcnpaaAwake
import Derived.RegionTactic
import Derived.BigRegion
namespace Go.Proofs.Ytnhdepdbggcnpaa
open Go.ChangeShapes Go.WideShapes Go.ChangeAt Go.RowKit Go.Joins
attribute [local go_sem] Ext.cell Ext.frozen Ext.lt Ext.le Ext.lt_add Ext.le_add Ext.ne Ext.ne' lt2 lt3 lt4 lt5 le2 le3 le4
theorem sgn_neg (n : Int) : sgn (-n) = -sgn n := by unfold sgn; split <;> split <;> (try split) <;> (try split) <;> omega
theorem sgn_bounds (n : Int) : -1 ≤ sgn n ∧ sgn n ≤ 1 := by unfold sgn; split <;> (try split) <;> omega
theorem turned (a b c d : Int) (ha : I64 a) (hb : I64 b) (hc : I64 c) (hd : I64 d) (n1 : I64 (-b)) (n2 : I64 (-d)) : ∃ s t : Int, (-1 ≤ s ∧ s ≤ 1) ∧ (-1 ≤ t ∧ t ≤ 1) ∧
    (∀ W, Calls Try.prog 12 #[.agg #[.int .i64 a, .int .i64 b], .agg #[.int .i64 c, .int .i64 d]] W (Gives (.int .i64 s) W)) ∧
    (∀ W, Calls Try.prog 12 #[.agg #[.int .i64 c, .int .i64 d], .agg #[.int .i64 a, .int .i64 b]] W (Gives (.int .i64 (-s)) W)) ∧
    (∀ W, Calls Try.prog 13 #[.agg #[.int .i64 a, .int .i64 b], .agg #[.int .i64 c, .int .i64 d]] W (Gives (.int .i64 t) W)) ∧
    (∀ W, Calls Try.prog 13 #[.agg #[.int .i64 c, .int .i64 d], .agg #[.int .i64 a, .int .i64 b]] W (Gives (.int .i64 t) W)) ∧
    (∀ W, Calls Try.prog 12 #[.agg #[.int .i64 (-b), .int .i64 a], .agg #[.int .i64 (-d), .int .i64 c]] W (Gives (.int .i64 s) W)) ∧
    (∀ W, Calls Try.prog 13 #[.agg #[.int .i64 (-b), .int .i64 a], .agg #[.int .i64 (-d), .int .i64 c]] W (Gives (.int .i64 t) W)) ∧
    (∀ W, Calls Try.prog 13 #[.agg #[.int .i64 (-b), .int .i64 a], .agg #[.int .i64 c, .int .i64 d]] W (Gives (.int .i64 s) W)) ∧
    (∀ W, Calls Try.prog 12 #[.agg #[.int .i64 a, .int .i64 b], .agg #[.int .i64 a, .int .i64 b]] W (Gives (.int .i64 0) W)) := by
  refine ⟨sgn (a * d - b * c), sgn (a * c + b * d), sgn_bounds _, sgn_bounds _, fun W => Cross_any a b c d W ha hb hc hd, fun W => ?_, fun W => Dot_any a b c d W ha hb hc hd, fun W => ?_, fun W => ?_, fun W => ?_, fun W => ?_, fun W => ?_⟩
  · rw [← sgn_neg, show -(a * d - b * c) = c * b - d * a by grind]
    exact Cross_any c d a b W hc hd ha hb
  · rw [show a * c + b * d = c * a + d * b by grind]
    exact Dot_any c d a b W hc hd ha hb
  · rw [show a * d - b * c = -b * c - a * -d by grind]
    exact Cross_any (-b) a (-d) c W n1 ha n2 hc
  · rw [show a * c + b * d = -b * -d + a * c by grind]
    exact Dot_any (-b) a (-d) c W n1 ha n2 hc
  · rw [show a * d - b * c = -b * c + a * d by grind]
    exact Dot_any (-b) a c d W n1 ha hc hd
  · have h := Cross_any a b a b W ha hb ha hb
    rw [show a * b - b * a = 0 by grind] at h
    exact h
set_option maxHeartbeats 1000000 in
theorem SpanTurns_any (a b c d : Int) (w : World) (ha : I64 a) (hb : I64 b) (hc : I64 c) (hd : I64 d) : Calls Try.prog 3 #[.agg #[.int .i64 a, .int .i64 b], .agg #[.int .i64 c, .int .i64 d]] w (Gives (.bool true) w) := by
  by_cases h1 : a = -9223372036854775808
  · subst h1
    go_enter Try.func3, Try.ntmps3
    go_wp2_with (first | ((first | with_reducible refine wp_region_ext2 (by kernel_rfl) (by kernel_rfl) ?_ | with_reducible refine wp_region_ext (by kernel_rfl) (by kernel_rfl) ?_); (repeat (first | go_big_quiet_step ((first | (go_at_call 11; with_reducible exact Calls.ext (awake_any _)))) | quiet_step ((first | (go_at_call 11; with_reducible exact Calls.ext (awake_any _)))))); refine wpQuiet_nil ?_; rintro _ ⟨yr, rfl⟩; have syr := Ext.size yr; (repeat (first | rw [World.size_alloc] at syr | rw [World.size_setCell] at syr | rw [World.size_drew] at syr))) | (go_at_call 11; (first | with_reducible refine (Calls.giv2 (awake_any _)).mono ?_ | with_reducible refine (Calls.giv (awake_any _)).mono ?_); rintro _ _ ⟨y1, rfl, rfl⟩; have sy1 := Ext.size y1; (repeat (first | rw [World.size_alloc] at sy1 | rw [World.size_setCell] at sy1 | rw [World.size_drew] at sy1))))
    go_returns
    refine ⟨rfl, ?_⟩
    repeat' (first | (with_reducible exact Below.refl _ _) | (with_reducible assumption) | (with_reducible refine Ext.below _ ?_ ?_) | (with_reducible refine Below.on ?_ (by with_reducible assumption) ?_) | (with_reducible refine Below.alloc ?_ ?_ _) | (with_reducible refine Below.drew ?_) | (with_reducible refine Below.setCell ?_ ?_ _) | (with_reducible exact Nat.le_refl _) | omega | (simp; done) | (simp [go_sem]; done) | (simp at *; omega))
  by_cases h2 : b = -9223372036854775808
  · subst h2
    have e1 : (a == -9223372036854775808) = false := by simpa using h1
    go_enter Try.func3, Try.ntmps3
    go_wp2_with (first | ((first | with_reducible refine wp_region_ext2 (by kernel_rfl) (by kernel_rfl) ?_ | with_reducible refine wp_region_ext (by kernel_rfl) (by kernel_rfl) ?_); (repeat (first | go_big_quiet_step ((first | (go_at_call 11; with_reducible exact Calls.ext (awake_any _)))) | quiet_step ((first | (go_at_call 11; with_reducible exact Calls.ext (awake_any _)))))); refine wpQuiet_nil ?_; rintro _ ⟨yr, rfl⟩; have syr := Ext.size yr; (repeat (first | rw [World.size_alloc] at syr | rw [World.size_setCell] at syr | rw [World.size_drew] at syr))) | (go_at_call 11; (first | with_reducible refine (Calls.giv2 (awake_any _)).mono ?_ | with_reducible refine (Calls.giv (awake_any _)).mono ?_); rintro _ _ ⟨y1, rfl, rfl⟩; have sy1 := Ext.size y1; (repeat (first | rw [World.size_alloc] at sy1 | rw [World.size_setCell] at sy1 | rw [World.size_drew] at sy1))))
    go_returns
    refine ⟨rfl, ?_⟩
    repeat' (first | (with_reducible exact Below.refl _ _) | (with_reducible assumption) | (with_reducible refine Ext.below _ ?_ ?_) | (with_reducible refine Below.on ?_ (by with_reducible assumption) ?_) | (with_reducible refine Below.alloc ?_ ?_ _) | (with_reducible refine Below.drew ?_) | (with_reducible refine Below.setCell ?_ ?_ _) | (with_reducible exact Nat.le_refl _) | omega | (simp; done) | (simp [go_sem]; done) | (simp at *; omega))
  by_cases h3 : c = -9223372036854775808
  · subst h3
    have e1 : (a == -9223372036854775808) = false := by simpa using h1
    have e2 : (b == -9223372036854775808) = false := by simpa using h2
    go_enter Try.func3, Try.ntmps3
    go_wp2_with (first | ((first | with_reducible refine wp_region_ext2 (by kernel_rfl) (by kernel_rfl) ?_ | with_reducible refine wp_region_ext (by kernel_rfl) (by kernel_rfl) ?_); (repeat (first | go_big_quiet_step ((first | (go_at_call 11; with_reducible exact Calls.ext (awake_any _)))) | quiet_step ((first | (go_at_call 11; with_reducible exact Calls.ext (awake_any _)))))); refine wpQuiet_nil ?_; rintro _ ⟨yr, rfl⟩; have syr := Ext.size yr; (repeat (first | rw [World.size_alloc] at syr | rw [World.size_setCell] at syr | rw [World.size_drew] at syr))) | (go_at_call 11; (first | with_reducible refine (Calls.giv2 (awake_any _)).mono ?_ | with_reducible refine (Calls.giv (awake_any _)).mono ?_); rintro _ _ ⟨y1, rfl, rfl⟩; have sy1 := Ext.size y1; (repeat (first | rw [World.size_alloc] at sy1 | rw [World.size_setCell] at sy1 | rw [World.size_drew] at sy1))))
    go_returns
    refine ⟨rfl, ?_⟩
    repeat' (first | (with_reducible exact Below.refl _ _) | (with_reducible assumption) | (with_reducible refine Ext.below _ ?_ ?_) | (with_reducible refine Below.on ?_ (by with_reducible assumption) ?_) | (with_reducible refine Below.alloc ?_ ?_ _) | (with_reducible refine Below.drew ?_) | (with_reducible refine Below.setCell ?_ ?_ _) | (with_reducible exact Nat.le_refl _) | omega | (simp; done) | (simp [go_sem]; done) | (simp at *; omega))
  by_cases h4 : d = -9223372036854775808
  · subst h4
    have e1 : (a == -9223372036854775808) = false := by simpa using h1
    have e2 : (b == -9223372036854775808) = false := by simpa using h2
    have e3 : (c == -9223372036854775808) = false := by simpa using h3
    go_enter Try.func3, Try.ntmps3
    go_wp2_with (first | ((first | with_reducible refine wp_region_ext2 (by kernel_rfl) (by kernel_rfl) ?_ | with_reducible refine wp_region_ext (by kernel_rfl) (by kernel_rfl) ?_); (repeat (first | go_big_quiet_step ((first | (go_at_call 11; with_reducible exact Calls.ext (awake_any _)))) | quiet_step ((first | (go_at_call 11; with_reducible exact Calls.ext (awake_any _)))))); refine wpQuiet_nil ?_; rintro _ ⟨yr, rfl⟩; have syr := Ext.size yr; (repeat (first | rw [World.size_alloc] at syr | rw [World.size_setCell] at syr | rw [World.size_drew] at syr))) | (go_at_call 11; (first | with_reducible refine (Calls.giv2 (awake_any _)).mono ?_ | with_reducible refine (Calls.giv (awake_any _)).mono ?_); rintro _ _ ⟨y1, rfl, rfl⟩; have sy1 := Ext.size y1; (repeat (first | rw [World.size_alloc] at sy1 | rw [World.size_setCell] at sy1 | rw [World.size_drew] at sy1))))
    go_returns
    refine ⟨rfl, ?_⟩
    repeat' (first | (with_reducible exact Below.refl _ _) | (with_reducible assumption) | (with_reducible refine Ext.below _ ?_ ?_) | (with_reducible refine Below.on ?_ (by with_reducible assumption) ?_) | (with_reducible refine Below.alloc ?_ ?_ _) | (with_reducible refine Below.drew ?_) | (with_reducible refine Below.setCell ?_ ?_ _) | (with_reducible exact Nat.le_refl _) | omega | (simp; done) | (simp [go_sem]; done) | (simp at *; omega))
  have e1 : (a == -9223372036854775808) = false := by simpa using h1
  have e2 : (b == -9223372036854775808) = false := by simpa using h2
  have e3 : (c == -9223372036854775808) = false := by simpa using h3
  have e4 : (d == -9223372036854775808) = false := by simpa using h4
  have n1 : I64 (-b) := by unfold I64 at *; omega
  have n2 : I64 (-d) := by unfold I64 at *; omega
  have q1 : wrap64 (-b) = -b := by unfold I64 at *; go_arith
  have q2 : wrap64 (-d) = -d := by unfold I64 at *; go_arith
  clear h1 h2 h3 h4
  obtain ⟨s, t, ⟨s1, s2⟩, ⟨t1, t2⟩, x1, x2, x3, x4, x5, x6, x7, x8⟩ := turned a b c d ha hb hc hd n1 n2
  have X1 := Go.Lib.hid x1; have X2 := Go.Lib.hid x2; have X3 := Go.Lib.hid x3; have X4 := Go.Lib.hid x4; have X5 := Go.Lib.hid x5; have X6 := Go.Lib.hid x6; have X7 := Go.Lib.hid x7; have X8 := Go.Lib.hid x8
  clear x1 x2 x3 x4 x5 x6 x7 x8
  go_enter Try.func3, Try.ntmps3
  go_wp2_with (first | ((first | with_reducible refine wp_region_ext2 (by kernel_rfl) (by kernel_rfl) ?_ | with_reducible refine wp_region_ext (by kernel_rfl) (by kernel_rfl) ?_); (repeat (first | go_big_quiet_step ((first | (go_at_call 11; with_reducible exact Calls.ext (awake_any _)))) | quiet_step ((first | (go_at_call 11; with_reducible exact Calls.ext (awake_any _)))))); refine wpQuiet_nil ?_; rintro _ ⟨yr, rfl⟩; have syr := Ext.size yr; (repeat (first | rw [World.size_alloc] at syr | rw [World.size_setCell] at syr | rw [World.size_drew] at syr))) | (go_at_call 11; (first | with_reducible refine (Calls.giv2 (awake_any _)).mono ?_ | with_reducible refine (Calls.giv (awake_any _)).mono ?_); rintro _ _ ⟨y1, rfl, rfl⟩; have sy1 := Ext.size y1; (repeat (first | rw [World.size_alloc] at sy1 | rw [World.size_setCell] at sy1 | rw [World.size_drew] at sy1))))
  go_region
  all_goals
    go_wp2_with (first | ((first | with_reducible refine wp_region_ext2 (by kernel_rfl) (by kernel_rfl) ?_ | with_reducible refine wp_region_ext (by kernel_rfl) (by kernel_rfl) ?_); (repeat (first | go_big_quiet_step ((first | (go_at_call 12; with_reducible exact Calls.ext (X1.out _)) | (go_at_call 12; with_reducible exact Calls.ext (X2.out _)) | (go_at_call 13; with_reducible exact Calls.ext (X3.out _)) | (go_at_call 13; with_reducible exact Calls.ext (X4.out _)) | (go_at_call 12; with_reducible exact Calls.ext (X5.out _)) | (go_at_call 13; with_reducible exact Calls.ext (X6.out _)) | (go_at_call 13; with_reducible exact Calls.ext (X7.out _)) | (go_at_call 12; with_reducible exact Calls.ext (X8.out _)) | (go_at_call 11; with_reducible exact Calls.ext (awake_any _)))) | quiet_step ((first | (go_at_call 12; with_reducible exact Calls.ext (X1.out _)) | (go_at_call 12; with_reducible exact Calls.ext (X2.out _)) | (go_at_call 13; with_reducible exact Calls.ext (X3.out _)) | (go_at_call 13; with_reducible exact Calls.ext (X4.out _)) | (go_at_call 12; with_reducible exact Calls.ext (X5.out _)) | (go_at_call 13; with_reducible exact Calls.ext (X6.out _)) | (go_at_call 13; with_reducible exact Calls.ext (X7.out _)) | (go_at_call 12; with_reducible exact Calls.ext (X8.out _)) | (go_at_call 11; with_reducible exact Calls.ext (awake_any _)))))); refine wpQuiet_nil ?_; rintro _ ⟨yr, rfl⟩; have syr := Ext.size yr; (repeat (first | rw [World.size_alloc] at syr | rw [World.size_setCell] at syr | rw [World.size_drew] at syr))) | (go_at_call 12; (first | with_reducible refine (Calls.giv2 (X1.out _)).mono ?_ | with_reducible refine (Calls.giv (X1.out _)).mono ?_); rintro _ _ ⟨y1, rfl, rfl⟩; have sy1 := Ext.size y1; (repeat (first | rw [World.size_alloc] at sy1 | rw [World.size_setCell] at sy1 | rw [World.size_drew] at sy1))) | (go_at_call 12; (first | with_reducible refine (Calls.giv2 (X2.out _)).mono ?_ | with_reducible refine (Calls.giv (X2.out _)).mono ?_); rintro _ _ ⟨y2, rfl, rfl⟩; have sy2 := Ext.size y2; (repeat (first | rw [World.size_alloc] at sy2 | rw [World.size_setCell] at sy2 | rw [World.size_drew] at sy2))) | (go_at_call 13; (first | with_reducible refine (Calls.giv2 (X3.out _)).mono ?_ | with_reducible refine (Calls.giv (X3.out _)).mono ?_); rintro _ _ ⟨y3, rfl, rfl⟩; have sy3 := Ext.size y3; (repeat (first | rw [World.size_alloc] at sy3 | rw [World.size_setCell] at sy3 | rw [World.size_drew] at sy3))) | (go_at_call 13; (first | with_reducible refine (Calls.giv2 (X4.out _)).mono ?_ | with_reducible refine (Calls.giv (X4.out _)).mono ?_); rintro _ _ ⟨y4, rfl, rfl⟩; have sy4 := Ext.size y4; (repeat (first | rw [World.size_alloc] at sy4 | rw [World.size_setCell] at sy4 | rw [World.size_drew] at sy4))) | (go_at_call 12; (first | with_reducible refine (Calls.giv2 (X5.out _)).mono ?_ | with_reducible refine (Calls.giv (X5.out _)).mono ?_); rintro _ _ ⟨y5, rfl, rfl⟩; have sy5 := Ext.size y5; (repeat (first | rw [World.size_alloc] at sy5 | rw [World.size_setCell] at sy5 | rw [World.size_drew] at sy5))) | (go_at_call 13; (first | with_reducible refine (Calls.giv2 (X6.out _)).mono ?_ | with_reducible refine (Calls.giv (X6.out _)).mono ?_); rintro _ _ ⟨y6, rfl, rfl⟩; have sy6 := Ext.size y6; (repeat (first | rw [World.size_alloc] at sy6 | rw [World.size_setCell] at sy6 | rw [World.size_drew] at sy6))) | (go_at_call 13; (first | with_reducible refine (Calls.giv2 (X7.out _)).mono ?_ | with_reducible refine (Calls.giv (X7.out _)).mono ?_); rintro _ _ ⟨y7, rfl, rfl⟩; have sy7 := Ext.size y7; (repeat (first | rw [World.size_alloc] at sy7 | rw [World.size_setCell] at sy7 | rw [World.size_drew] at sy7))) | (go_at_call 12; (first | with_reducible refine (Calls.giv2 (X8.out _)).mono ?_ | with_reducible refine (Calls.giv (X8.out _)).mono ?_); rintro _ _ ⟨y8, rfl, rfl⟩; have sy8 := Ext.size y8; (repeat (first | rw [World.size_alloc] at sy8 | rw [World.size_setCell] at sy8 | rw [World.size_drew] at sy8))) | (go_at_call 11; (first | with_reducible refine (Calls.giv2 (awake_any _)).mono ?_ | with_reducible refine (Calls.giv (awake_any _)).mono ?_); rintro _ _ ⟨y9, rfl, rfl⟩; have sy9 := Ext.size y9; (repeat (first | rw [World.size_alloc] at sy9 | rw [World.size_setCell] at sy9 | rw [World.size_drew] at sy9))))
    go_returns
    refine ⟨rfl, ?_⟩
    repeat' (first | (with_reducible exact Below.refl _ _) | (with_reducible assumption) | (with_reducible refine Ext.below _ ?_ ?_) | (with_reducible refine Below.on ?_ (by with_reducible assumption) ?_) | (with_reducible refine Below.alloc ?_ ?_ _) | (with_reducible refine Below.drew ?_) | (with_reducible refine Below.setCell ?_ ?_ _) | (with_reducible exact Nat.le_refl _) | omega | (simp; done) | (simp [go_sem]; done) | (simp at *; omega))
set_option maxRecDepth 100000 in
theorem SpanTurns_lifted (os : Os) (started : os.Started) (H : Type) (enc : TypeId × Value → H) :
    ReturnsInHanded {} Try.checked os 3 .any (Rows.spanTurnsSpec.pre6 enc Try.prog Try.f3 Rows.spanTurnsRow.domain false) (Rows.spanTurnsSpec.post enc Try.prog Try.f3 false true false false) := by
  refine returnsInHanded_of_change (C := Try.checked) own started (by kernel_rfl) Try.func3
    (ChangeSpec.witness6 (enc := enc) (C := Try.checked) false ⟨#[], #[.agg #[.int .i64 0, .int .i64 0], .agg #[.int .i64 0, .int .i64 0]], []⟩ 8 (by kernel_rfl) (by kernel_rfl) (by kernel_rfl) (by kernel_rfl)) ?_
  intro W base args ds gs before hval0 hW _ _
  have hval : ∀ (j : Nat) t v, Try.f3.params[j]? = some t → args[j]? = some v → Value.okWide Try.prog W .any base t v := hval0
  have hW' := hW
  obtain ⟨p, q, hA0, hV, _, _, _⟩ := hW
  have hA : DataW.TrodAll enc Try.prog W 0 (fun _ => true) true Try.f3.params.toList args.toList ds p := hA0
  rw [Try.params3] at hA hval
  obtain ⟨v0, vs0, d0, ds0, p0, q0, hargs0, rfl, _, h0, r0⟩ := trodAll_cons hA
  obtain ⟨v1, vs1, d1, ds1, p1, q1, hargs1, rfl, _, h1, r1⟩ := trodAll_cons r0
  obtain ⟨hlast, rfl, _⟩ := trodAll_nil r1
  subst hlast
  subst hargs1
  obtain rfl : args = #[v0, v1] := by cases args; simp_all
  obtain ⟨rfl, rfl⟩ := trodVars_none hV
  obtain ⟨l0, rfl, hn0, hi0⟩ := open_nums (P := Try.prog) Try.underlying23 (ts := List.replicate 2 2) (by kernel_rfl) (by kernel_rfl) (hval 0 23 v0 rfl rfl)
  rw [Try.cells23] at hn0
  obtain ⟨x0_0, x0_1, rfl⟩ := list2 hn0
  simp only [List.mem_cons, List.not_mem_nil, or_false, forall_eq_or_imp, forall_eq] at hi0
  obtain ⟨l1, rfl, hn1, hi1⟩ := open_nums (P := Try.prog) Try.underlying23 (ts := List.replicate 2 2) (by kernel_rfl) (by kernel_rfl) (hval 1 23 v1 rfl rfl)
  rw [Try.cells23] at hn1
  obtain ⟨x1_0, x1_1, rfl⟩ := list2 hn1
  simp only [List.mem_cons, List.not_mem_nil, or_false, forall_eq_or_imp, forall_eq] at hi1
  exact (SpanTurns_any x0_0 x0_1 x1_0 x1_1 W hi0.1 hi0.2 hi1.1 hi1.2).mono fun e W' h => law_post laid_out (by rw [Try.params3]; intro t ht; simp only [List.mem_cons, List.not_mem_nil, or_false] at ht; rcases ht with rfl | rfl | rfl | rfl | rfl | rfl; all_goals exact ⟨by kernel_rfl, by decide +kernel⟩) rfl rfl Try.underlying4 hW' rfl h
/-- The statement. -/
theorem SpanTurns_holds : Rows.SpanTurnsSaid :=
  OpenClaim.holds_of_wide 3 Try.f3 rfl rfl rfl rfl rfl rfl rfl ⟨rfl, rfl, rfl, rfl, rfl⟩ rfl rfl rfl rfl rfl (by kernel_rfl) Try.func3 (by kernel_rfl)
    (of_decide_eq_true (by kernel_rfl)) (by unfold Func.isWrapper; first | (rw [if_pos (by decide +kernel)]; kernel_rfl) | (rw [if_neg (by decide +kernel)]; exact ⟨rfl, rfl⟩))
    (fun os started H enc _ => SpanTurns_lifted os started H enc)
end Go.Proofs.Ytnhdepdbggcnpaa

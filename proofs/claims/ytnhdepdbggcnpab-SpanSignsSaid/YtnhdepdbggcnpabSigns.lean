/- SpanSigns: the signs of the cross and the dot product are those that the reference gives. No condition. -/
import Derived.Test.YtnhdepdbggcnpabLaw
import Derived.Test.YtnhdepdbggcnpabAwake
import Derived.Test.YtnhdepdbggcnpabRefWide
namespace Go.Proofs.Ytnhdepdbggcnpab
open Go.ChangeShapes Go.WideShapes Go.ChangeAt Go.RowKit Go.Joins
attribute [local go_sem] Ext.cell Ext.frozen Ext.lt Ext.le Ext.lt_add Ext.le_add Ext.ne Ext.ne' lt2 lt3 lt4 lt5 le2 le3 le4
theorem refCross_any (a b c d : Int) (w : World) (ha : I64 a) (hb : I64 b) (hc : I64 c) (hd : I64 d) : Calls Try.prog 11 #[.agg #[.int .i64 a, .int .i64 b], .agg #[.int .i64 c, .int .i64 d]] w (Gives (.int .i64 (sgn (a * d - b * c))) w) := by
  go_enter Try.func11, Try.ntmps11
  go_wp2_with (first | ((first | with_reducible refine wp_region_ext2 (by kernel_rfl) (by kernel_rfl) ?_ | with_reducible refine wp_region_ext (by kernel_rfl) (by kernel_rfl) ?_); (repeat (first | go_big_quiet_step ((first | (go_at_call 57; with_reducible exact Calls.ext (wideOf_any _ _ _ (by assumption) (by assumption))) | (go_at_call 58; with_reducible exact Calls.ext (refCompare_any _ _ _)))) | quiet_step ((first | (go_at_call 57; with_reducible exact Calls.ext (wideOf_any _ _ _ (by assumption) (by assumption))) | (go_at_call 58; with_reducible exact Calls.ext (refCompare_any _ _ _)))))); refine wpQuiet_nil ?_; rintro _ ⟨yr, rfl⟩; have syr := Ext.size yr; (repeat (first | rw [World.size_alloc] at syr | rw [World.size_setCell] at syr | rw [World.size_drew] at syr))) | (go_at_call 57; (first | with_reducible refine (Calls.giv2 (wideOf_any _ _ _ (by assumption) (by assumption))).mono ?_ | with_reducible refine (Calls.giv (wideOf_any _ _ _ (by assumption) (by assumption))).mono ?_); rintro _ _ ⟨y1, rfl, rfl⟩; have sy1 := Ext.size y1; (repeat (first | rw [World.size_alloc] at sy1 | rw [World.size_setCell] at sy1 | rw [World.size_drew] at sy1))) | (go_at_call 58; (first | with_reducible refine (Calls.giv2 (refCompare_any _ _ _)).mono ?_ | with_reducible refine (Calls.giv (refCompare_any _ _ _)).mono ?_); rintro _ _ ⟨y2, rfl, rfl⟩; have sy2 := Ext.size y2; (repeat (first | rw [World.size_alloc] at sy2 | rw [World.size_setCell] at sy2 | rw [World.size_drew] at sy2))))
  go_returns
  refine ⟨rfl, ?_⟩
  repeat' (first | (with_reducible exact Below.refl _ _) | (with_reducible assumption) | (with_reducible refine Ext.below _ ?_ ?_) | (with_reducible refine Below.on ?_ (by with_reducible assumption) ?_) | (with_reducible refine Below.alloc ?_ ?_ _) | (with_reducible refine Below.drew ?_) | (with_reducible refine Below.setCell ?_ ?_ _) | (with_reducible exact Nat.le_refl _) | omega | (simp; done) | (simp [go_sem]; done) | (simp at *; omega))
theorem refw_neg (n : Int) : refw (-n) = .agg #[.bool (!decide (n < 0) && (decide (0 < absI n / 18446744073709551616) || decide (0 < absI n % 18446744073709551616))), .int .u64 (absI n / 18446744073709551616), .int .u64 (absI n % 18446744073709551616)] := by
  have h0 := absI_nonneg n
  have e : absI (-n) = absI n := by unfold absI; split <;> split <;> omega
  unfold refw
  rw [e]
  congr 3
  congr 1
  rw [Bool.eq_iff_iff]
  simp only [Bool.and_eq_true, Bool.or_eq_true, decide_eq_true_eq, Bool.not_eq_true', decide_eq_false_iff_not]
  unfold absI at *; split at h0 <;> split <;> omega
set_option maxHeartbeats 1000000 in
theorem refDot_any (a b c d : Int) (w : World) (ha : I64 a) (hb : I64 b) (hc : I64 c) (hd : I64 d) : Calls Try.prog 13 #[.agg #[.int .i64 a, .int .i64 b], .agg #[.int .i64 c, .int .i64 d]] w (Gives (.int .i64 (sgn (a * c + b * d))) w) := by
  have hw := fun W => wideOf_any b d W hb hd
  have hx := fun W => wideOf_any a c W ha hc
  have hq := fun W => refCompare_any (a * c) (-(b * d)) W
  rw [show a * c - -(b * d) = a * c + b * d by omega, refw_neg] at hq
  unfold refw at hw
  have HW := Go.Lib.hid hw; have HX := Go.Lib.hid hx; have HQ := Go.Lib.hid hq
  clear hw hx hq
  generalize sgn (a * c + b * d) = res at *
  generalize absI (b * d) / 18446744073709551616 = hi at *
  generalize absI (b * d) % 18446744073709551616 = lo at *
  cases h1 : decide (b * d < 0) <;> cases h2 : decide (0 < hi)
  all_goals
    rw [h1, h2] at HQ
    rw [h1] at HW
    simp only [Bool.not_true, Bool.not_false, Bool.false_and, Bool.true_and, Bool.false_or, Bool.true_or] at HQ
    clear h1
    go_enter Try.func13, Try.ntmps13
    go_wp2_with (first | ((first | with_reducible refine wp_region_ext2 (by kernel_rfl) (by kernel_rfl) ?_ | with_reducible refine wp_region_ext (by kernel_rfl) (by kernel_rfl) ?_); (repeat (first | go_big_quiet_step ((first | (go_at_call 57; with_reducible exact Calls.ext (HW.out _)) | (go_at_call 57; with_reducible exact Calls.ext (HX.out _)) | (go_at_call 58; with_reducible exact Calls.ext (HQ.out _)))) | quiet_step ((first | (go_at_call 57; with_reducible exact Calls.ext (HW.out _)) | (go_at_call 57; with_reducible exact Calls.ext (HX.out _)) | (go_at_call 58; with_reducible exact Calls.ext (HQ.out _)))))); refine wpQuiet_nil ?_; rintro _ ⟨yr, rfl⟩; have syr := Ext.size yr; (repeat (first | rw [World.size_alloc] at syr | rw [World.size_setCell] at syr | rw [World.size_drew] at syr)); have : w.heap.size < yr.now.heap.size := (by omega); have : w.heap.size ≤ yr.now.heap.size := (by omega); have : w.heap.size < yr.now.heap.size + 1 + 1 := (by omega); have : w.heap.size + 1 < yr.now.heap.size := (by omega); have : w.heap.size + 1 ≤ yr.now.heap.size := (by omega); have : w.heap.size + 1 < yr.now.heap.size + 1 + 1 := (by omega)) | (go_at_call 57; (first | with_reducible refine (Calls.giv2 (HW.out _)).mono ?_ | with_reducible refine (Calls.giv (HW.out _)).mono ?_); rintro _ _ ⟨y1, rfl, rfl⟩; have sy1 := Ext.size y1; (repeat (first | rw [World.size_alloc] at sy1 | rw [World.size_setCell] at sy1 | rw [World.size_drew] at sy1)); have : w.heap.size < y1.now.heap.size := (by omega); have : w.heap.size ≤ y1.now.heap.size := (by omega); have : w.heap.size < y1.now.heap.size + 1 + 1 := (by omega); have : w.heap.size + 1 < y1.now.heap.size := (by omega); have : w.heap.size + 1 ≤ y1.now.heap.size := (by omega); have : w.heap.size + 1 < y1.now.heap.size + 1 + 1 := (by omega)) | (go_at_call 57; (first | with_reducible refine (Calls.giv2 (HX.out _)).mono ?_ | with_reducible refine (Calls.giv (HX.out _)).mono ?_); rintro _ _ ⟨y2, rfl, rfl⟩; have sy2 := Ext.size y2; (repeat (first | rw [World.size_alloc] at sy2 | rw [World.size_setCell] at sy2 | rw [World.size_drew] at sy2)); have : w.heap.size < y2.now.heap.size := (by omega); have : w.heap.size ≤ y2.now.heap.size := (by omega); have : w.heap.size < y2.now.heap.size + 1 + 1 := (by omega); have : w.heap.size + 1 < y2.now.heap.size := (by omega); have : w.heap.size + 1 ≤ y2.now.heap.size := (by omega); have : w.heap.size + 1 < y2.now.heap.size + 1 + 1 := (by omega)) | (go_at_call 58; (first | with_reducible refine (Calls.giv2 (HQ.out _)).mono ?_ | with_reducible refine (Calls.giv (HQ.out _)).mono ?_); rintro _ _ ⟨y3, rfl, rfl⟩; have sy3 := Ext.size y3; (repeat (first | rw [World.size_alloc] at sy3 | rw [World.size_setCell] at sy3 | rw [World.size_drew] at sy3)); have : w.heap.size < y3.now.heap.size := (by omega); have : w.heap.size ≤ y3.now.heap.size := (by omega); have : w.heap.size < y3.now.heap.size + 1 + 1 := (by omega); have : w.heap.size + 1 < y3.now.heap.size := (by omega); have : w.heap.size + 1 ≤ y3.now.heap.size := (by omega); have : w.heap.size + 1 < y3.now.heap.size + 1 + 1 := (by omega)))
    go_returns
    refine ⟨rfl, ?_⟩
    repeat' (first | (with_reducible exact Below.refl _ _) | (with_reducible assumption) | (with_reducible refine Ext.below _ ?_ ?_) | (with_reducible refine Below.on ?_ (by with_reducible assumption) ?_) | (with_reducible refine Below.alloc ?_ ?_ _) | (with_reducible refine Below.drew ?_) | (with_reducible refine Below.setCell ?_ ?_ _) | (with_reducible exact Nat.le_refl _) | omega | (simp; done) | (simp [go_sem]; done) | (simp at *; omega))
theorem SpanSigns_any (a b c d : Int) (w : World) (ha : I64 a) (hb : I64 b) (hc : I64 c) (hd : I64 d) : Calls Try.prog 3 #[.agg #[.int .i64 a, .int .i64 b], .agg #[.int .i64 c, .int .i64 d]] w (Gives (.bool true) w) := by
  go_enter Try.func3, Try.ntmps3
  go_wp2_with (first | ((first | with_reducible refine wp_region_ext2 (by kernel_rfl) (by kernel_rfl) ?_ | with_reducible refine wp_region_ext (by kernel_rfl) (by kernel_rfl) ?_); (repeat (first | go_big_quiet_step ((first | (go_at_call 10; with_reducible exact Calls.ext (Cross_any _ _ _ _ _ ha hb hc hd)) | (go_at_call 11; with_reducible exact Calls.ext (refCross_any _ _ _ _ _ ha hb hc hd)) | (go_at_call 12; with_reducible exact Calls.ext (Dot_any _ _ _ _ _ ha hb hc hd)) | (go_at_call 13; with_reducible exact Calls.ext (refDot_any _ _ _ _ _ ha hb hc hd)) | (go_at_call 14; with_reducible exact Calls.ext (awake_any _)))) | quiet_step ((first | (go_at_call 10; with_reducible exact Calls.ext (Cross_any _ _ _ _ _ ha hb hc hd)) | (go_at_call 11; with_reducible exact Calls.ext (refCross_any _ _ _ _ _ ha hb hc hd)) | (go_at_call 12; with_reducible exact Calls.ext (Dot_any _ _ _ _ _ ha hb hc hd)) | (go_at_call 13; with_reducible exact Calls.ext (refDot_any _ _ _ _ _ ha hb hc hd)) | (go_at_call 14; with_reducible exact Calls.ext (awake_any _)))))); refine wpQuiet_nil ?_; rintro _ ⟨yr, rfl⟩; have syr := Ext.size yr; (repeat (first | rw [World.size_alloc] at syr | rw [World.size_setCell] at syr | rw [World.size_drew] at syr))) | (go_at_call 10; (first | with_reducible refine (Calls.giv2 (Cross_any _ _ _ _ _ ha hb hc hd)).mono ?_ | with_reducible refine (Calls.giv (Cross_any _ _ _ _ _ ha hb hc hd)).mono ?_); rintro _ _ ⟨y1, rfl, rfl⟩; have sy1 := Ext.size y1; (repeat (first | rw [World.size_alloc] at sy1 | rw [World.size_setCell] at sy1 | rw [World.size_drew] at sy1))) | (go_at_call 11; (first | with_reducible refine (Calls.giv2 (refCross_any _ _ _ _ _ ha hb hc hd)).mono ?_ | with_reducible refine (Calls.giv (refCross_any _ _ _ _ _ ha hb hc hd)).mono ?_); rintro _ _ ⟨y2, rfl, rfl⟩; have sy2 := Ext.size y2; (repeat (first | rw [World.size_alloc] at sy2 | rw [World.size_setCell] at sy2 | rw [World.size_drew] at sy2))) | (go_at_call 12; (first | with_reducible refine (Calls.giv2 (Dot_any _ _ _ _ _ ha hb hc hd)).mono ?_ | with_reducible refine (Calls.giv (Dot_any _ _ _ _ _ ha hb hc hd)).mono ?_); rintro _ _ ⟨y3, rfl, rfl⟩; have sy3 := Ext.size y3; (repeat (first | rw [World.size_alloc] at sy3 | rw [World.size_setCell] at sy3 | rw [World.size_drew] at sy3))) | (go_at_call 13; (first | with_reducible refine (Calls.giv2 (refDot_any _ _ _ _ _ ha hb hc hd)).mono ?_ | with_reducible refine (Calls.giv (refDot_any _ _ _ _ _ ha hb hc hd)).mono ?_); rintro _ _ ⟨y4, rfl, rfl⟩; have sy4 := Ext.size y4; (repeat (first | rw [World.size_alloc] at sy4 | rw [World.size_setCell] at sy4 | rw [World.size_drew] at sy4))) | (go_at_call 14; (first | with_reducible refine (Calls.giv2 (awake_any _)).mono ?_ | with_reducible refine (Calls.giv (awake_any _)).mono ?_); rintro _ _ ⟨y5, rfl, rfl⟩; have sy5 := Ext.size y5; (repeat (first | rw [World.size_alloc] at sy5 | rw [World.size_setCell] at sy5 | rw [World.size_drew] at sy5))))
  go_returns
  refine ⟨rfl, ?_⟩
  repeat' (first | (with_reducible exact Below.refl _ _) | (with_reducible assumption) | (with_reducible refine Ext.below _ ?_ ?_) | (with_reducible refine Below.on ?_ (by with_reducible assumption) ?_) | (with_reducible refine Below.alloc ?_ ?_ _) | (with_reducible refine Below.drew ?_) | (with_reducible refine Below.setCell ?_ ?_ _) | (with_reducible exact Nat.le_refl _) | omega | (simp; done) | (simp [go_sem]; done) | (simp at *; omega))
set_option maxRecDepth 100000 in
theorem SpanSigns_lifted (os : Os) (started : os.Started) (H : Type) (enc : TypeId × Value → H) :
    ReturnsInHanded {} Try.checked os 3 .any (Rows.spanSignsSpec.pre6 enc Try.prog Try.f3 Rows.spanSignsRow.domain false) (Rows.spanSignsSpec.post enc Try.prog Try.f3 false true false false) := by
  refine returnsInHanded_of_change (C := Try.checked) own started (by kernel_rfl) Try.func3
    (ChangeSpec.witness6 (enc := enc) (C := Try.checked) false ⟨#[], #[.agg #[.int .i64 0, .int .i64 0], .agg #[.int .i64 0, .int .i64 0]], []⟩ 8 (by kernel_rfl) (by kernel_rfl) (by kernel_rfl) (by kernel_rfl)) ?_
  intro W base args ds gs before hval0 hW _ _
  have hval : ∀ (j : Nat) t v, Try.f3.params[j]? = some t → args[j]? = some v → Value.okWide Try.prog W .any base t v := hval0
  have hW' := hW
  obtain ⟨p, q, hA0, hV, _, _, _⟩ := hW
  have hA : DataW.TrodAll enc Try.prog W 0 (fun _ => true) true Try.f3.params.toList args.toList ds p := hA0
  rw [Try.params3] at hA hval
  obtain ⟨v0, vs0, d0, ds0, p0, q0, hargs0, rfl, _, h0, r0⟩ := trodAll_cons hA
  obtain ⟨v1, vs1, d1, ds1, p1, q1, hargs1, rfl, _, h1, r1⟩ := trodAll_cons r0
  obtain ⟨hlast, rfl, _⟩ := trodAll_nil r1
  subst hlast
  subst hargs1
  obtain rfl : args = #[v0, v1] := by cases args; simp_all
  obtain ⟨rfl, rfl⟩ := trodVars_none hV
  obtain ⟨l0, rfl, hn0, hi0⟩ := open_nums (P := Try.prog) Try.underlying23 (ts := List.replicate 2 2) (by kernel_rfl) (by kernel_rfl) (hval 0 23 v0 rfl rfl)
  rw [Try.cells23] at hn0
  obtain ⟨x0_0, x0_1, rfl⟩ := list2 hn0
  simp only [List.mem_cons, List.not_mem_nil, or_false, forall_eq_or_imp, forall_eq] at hi0
  obtain ⟨l1, rfl, hn1, hi1⟩ := open_nums (P := Try.prog) Try.underlying23 (ts := List.replicate 2 2) (by kernel_rfl) (by kernel_rfl) (hval 1 23 v1 rfl rfl)
  rw [Try.cells23] at hn1
  obtain ⟨x1_0, x1_1, rfl⟩ := list2 hn1
  simp only [List.mem_cons, List.not_mem_nil, or_false, forall_eq_or_imp, forall_eq] at hi1
  exact (SpanSigns_any x0_0 x0_1 x1_0 x1_1 W hi0.1 hi0.2 hi1.1 hi1.2).mono fun e W' h => law_post laid_out (by rw [Try.params3]; intro t ht; simp only [List.mem_cons, List.not_mem_nil, or_false] at ht; rcases ht with rfl | rfl | rfl | rfl | rfl | rfl; all_goals exact ⟨by kernel_rfl, by decide +kernel⟩) rfl rfl Try.underlying4 hW' rfl h
/-- The statement. -/
theorem SpanSigns_holds : Rows.SpanSignsSaid :=
  OpenClaim.holds_of_wide 3 Try.f3 rfl rfl rfl rfl rfl rfl rfl ⟨rfl, rfl, rfl, rfl, rfl⟩ rfl rfl rfl rfl rfl (by kernel_rfl) Try.func3 (by kernel_rfl)
    (of_decide_eq_true (by kernel_rfl)) (by unfold Func.isWrapper; first | (rw [if_pos (by decide +kernel)]; kernel_rfl) | (rw [if_neg (by decide +kernel)]; exact ⟨rfl, rfl⟩))
    (fun os started H enc _ => SpanSigns_lifted os started H enc)
end Go.Proofs.Ytnhdepdbggcnpab

/- SpanSure: the program and the reference agree on whether all segments between two areas surely come within a radius, and on whether none does, for any numbers. No condition. -/
import Derived.Test.YtagfhekjmkdjkabSureG
import Derived.Test.YtagfhekjmkdjkabLaw
import Derived.Test.YtagfhekjmkdjkabAwake
namespace Go.Proofs.Ytagfhekjmkdjkab
open Go.ChangeShapes Go.WideShapes Go.ChangeAt Go.RowKit Go.Joins
attribute [local go_sem] Ext.cell Ext.frozen Ext.lt Ext.le Ext.lt_add Ext.le_add Ext.ne Ext.ne' lt2 lt3 lt4 lt5 le2 le3 le4
theorem SpanSure_any (a b c d e f g h r : Int) (w : World) (_ha : I64 a) (_hb : I64 b) (_hc : I64 c) (_hd : I64 d) (_he : I64 e) (_hf : I64 f) (_hg : I64 g) (_hh : I64 h) (_hr : I64 r) :
    Calls Try.prog 3 #[.agg #[.int .i64 a, .int .i64 b, .int .i64 c, .int .i64 d], .agg #[.int .i64 e, .int .i64 f, .int .i64 g, .int .i64 h], .int .i64 r] w (Gives (.bool true) w) := by
  have HI := Go.Lib.hid (fun W => Hits_any a b c d e f g h r W)
  have RH := Go.Lib.hid (fun W => refHits_any a b c d e f g h r W)
  have CL := Go.Lib.hid (fun W => Clear_any a b c d e f g h r W)
  have RC := Go.Lib.hid (fun W => refClear_any a b c d e f g h r W)
  generalize hitsB a b c d e f g h r = x at *
  generalize clearI a b c d e f g h r = y at *
  go_enter Try.func3, Try.ntmps3
  go_wp2_with (first | ((first | with_reducible refine wp_region_ext2 (by kernel_rfl) (by kernel_rfl) ?_ | with_reducible refine wp_region_ext (by kernel_rfl) (by kernel_rfl) ?_); (repeat (first | go_big_quiet_step ((first | (go_at_call 4; with_reducible exact Calls.ext (HI.out _)) | (go_at_call 5; with_reducible exact Calls.ext (RH.out _)) | (go_at_call 6; with_reducible exact Calls.ext (CL.out _)) | (go_at_call 7; with_reducible exact Calls.ext (RC.out _)) | (go_at_call 8; with_reducible exact Calls.ext (awake_any _)))) | quiet_step ((first | (go_at_call 4; with_reducible exact Calls.ext (HI.out _)) | (go_at_call 5; with_reducible exact Calls.ext (RH.out _)) | (go_at_call 6; with_reducible exact Calls.ext (CL.out _)) | (go_at_call 7; with_reducible exact Calls.ext (RC.out _)) | (go_at_call 8; with_reducible exact Calls.ext (awake_any _)))))); refine wpQuiet_nil ?_; rintro _ ⟨yr, rfl⟩; have syr := Ext.size yr; (repeat (first | rw [World.size_alloc] at syr | rw [World.size_setCell] at syr | rw [World.size_drew] at syr)); have : w.heap.size < yr.now.heap.size := (by omega); have : w.heap.size ≤ yr.now.heap.size := (by omega); have : w.heap.size < yr.now.heap.size + 1 + 1 := (by omega); have : w.heap.size + 1 < yr.now.heap.size := (by omega); have : w.heap.size + 1 ≤ yr.now.heap.size := (by omega); have : w.heap.size + 1 < yr.now.heap.size + 1 + 1 := (by omega)) | (go_at_call 4; (first | with_reducible refine (Calls.giv2 (HI.out _)).mono ?_ | with_reducible refine (Calls.giv (HI.out _)).mono ?_); rintro _ _ ⟨y1, rfl, rfl⟩; have sy1 := Ext.size y1; (repeat (first | rw [World.size_alloc] at sy1 | rw [World.size_setCell] at sy1 | rw [World.size_drew] at sy1)); have : w.heap.size < y1.now.heap.size := (by omega); have : w.heap.size ≤ y1.now.heap.size := (by omega); have : w.heap.size < y1.now.heap.size + 1 + 1 := (by omega); have : w.heap.size + 1 < y1.now.heap.size := (by omega); have : w.heap.size + 1 ≤ y1.now.heap.size := (by omega); have : w.heap.size + 1 < y1.now.heap.size + 1 + 1 := (by omega)) | (go_at_call 5; (first | with_reducible refine (Calls.giv2 (RH.out _)).mono ?_ | with_reducible refine (Calls.giv (RH.out _)).mono ?_); rintro _ _ ⟨y2, rfl, rfl⟩; have sy2 := Ext.size y2; (repeat (first | rw [World.size_alloc] at sy2 | rw [World.size_setCell] at sy2 | rw [World.size_drew] at sy2)); have : w.heap.size < y2.now.heap.size := (by omega); have : w.heap.size ≤ y2.now.heap.size := (by omega); have : w.heap.size < y2.now.heap.size + 1 + 1 := (by omega); have : w.heap.size + 1 < y2.now.heap.size := (by omega); have : w.heap.size + 1 ≤ y2.now.heap.size := (by omega); have : w.heap.size + 1 < y2.now.heap.size + 1 + 1 := (by omega)) | (go_at_call 6; (first | with_reducible refine (Calls.giv2 (CL.out _)).mono ?_ | with_reducible refine (Calls.giv (CL.out _)).mono ?_); rintro _ _ ⟨y3, rfl, rfl⟩; have sy3 := Ext.size y3; (repeat (first | rw [World.size_alloc] at sy3 | rw [World.size_setCell] at sy3 | rw [World.size_drew] at sy3)); have : w.heap.size < y3.now.heap.size := (by omega); have : w.heap.size ≤ y3.now.heap.size := (by omega); have : w.heap.size < y3.now.heap.size + 1 + 1 := (by omega); have : w.heap.size + 1 < y3.now.heap.size := (by omega); have : w.heap.size + 1 ≤ y3.now.heap.size := (by omega); have : w.heap.size + 1 < y3.now.heap.size + 1 + 1 := (by omega)) | (go_at_call 7; (first | with_reducible refine (Calls.giv2 (RC.out _)).mono ?_ | with_reducible refine (Calls.giv (RC.out _)).mono ?_); rintro _ _ ⟨y4, rfl, rfl⟩; have sy4 := Ext.size y4; (repeat (first | rw [World.size_alloc] at sy4 | rw [World.size_setCell] at sy4 | rw [World.size_drew] at sy4)); have : w.heap.size < y4.now.heap.size := (by omega); have : w.heap.size ≤ y4.now.heap.size := (by omega); have : w.heap.size < y4.now.heap.size + 1 + 1 := (by omega); have : w.heap.size + 1 < y4.now.heap.size := (by omega); have : w.heap.size + 1 ≤ y4.now.heap.size := (by omega); have : w.heap.size + 1 < y4.now.heap.size + 1 + 1 := (by omega)) | (go_at_call 8; (first | with_reducible refine (Calls.giv2 (awake_any _)).mono ?_ | with_reducible refine (Calls.giv (awake_any _)).mono ?_); rintro _ _ ⟨y5, rfl, rfl⟩; have sy5 := Ext.size y5; (repeat (first | rw [World.size_alloc] at sy5 | rw [World.size_setCell] at sy5 | rw [World.size_drew] at sy5)); have : w.heap.size < y5.now.heap.size := (by omega); have : w.heap.size ≤ y5.now.heap.size := (by omega); have : w.heap.size < y5.now.heap.size + 1 + 1 := (by omega); have : w.heap.size + 1 < y5.now.heap.size := (by omega); have : w.heap.size + 1 ≤ y5.now.heap.size := (by omega); have : w.heap.size + 1 < y5.now.heap.size + 1 + 1 := (by omega)))
  go_returns
  refine ⟨rfl, ?_⟩
  repeat' (first | (with_reducible exact Below.refl _ _) | (with_reducible assumption) | (with_reducible refine Ext.below _ ?_ ?_) | (with_reducible refine Below.on ?_ (by with_reducible assumption) ?_) | (with_reducible refine Below.alloc ?_ ?_ _) | (with_reducible refine Below.drew ?_) | (with_reducible refine Below.setCell ?_ ?_ _) | (with_reducible exact Nat.le_refl _) | omega | (simp; done) | (simp [go_sem]; done) | (simp at *; omega))
set_option maxRecDepth 100000 in
theorem SpanSure_lifted (os : Os) (started : os.Started) (H : Type) (enc : TypeId × Value → H) :
    ReturnsInHanded {} Try.checked os 3 .any (Rows.spanSureSpec.pre6 enc Try.prog Try.f3 Rows.spanSureRow.domain false) (Rows.spanSureSpec.post enc Try.prog Try.f3 false true false false) := by
  refine returnsInHanded_of_change (C := Try.checked) own started (by kernel_rfl) Try.func3
    (ChangeSpec.witness6 (enc := enc) (C := Try.checked) false ⟨#[], #[.agg #[.int .i64 0, .int .i64 0, .int .i64 0, .int .i64 0], .agg #[.int .i64 0, .int .i64 0, .int .i64 0, .int .i64 0], .int .i64 0], []⟩ 8 (by kernel_rfl) (by kernel_rfl) (by kernel_rfl) (by kernel_rfl)) ?_
  intro W base args ds gs before hval0 hW _ _
  have hval : ∀ (j : Nat) t v, Try.f3.params[j]? = some t → args[j]? = some v → Value.okWide Try.prog W .any base t v := hval0
  have hW' := hW
  obtain ⟨p, q, hA0, hV, _, _, _⟩ := hW
  have hA : DataW.TrodAll enc Try.prog W 0 (fun _ => true) true Try.f3.params.toList args.toList ds p := hA0
  rw [Try.params3] at hA hval
  obtain ⟨v0, vs0, d0, ds0, p0, q0, hargs0, rfl, _, h0, r0⟩ := trodAll_cons hA
  obtain ⟨v1, vs1, d1, ds1, p1, q1, hargs1, rfl, _, h1, r1⟩ := trodAll_cons r0
  obtain ⟨v2, vs2, d2, ds2, p2, q2, hargs2, rfl, _, h2, r2⟩ := trodAll_cons r1
  obtain ⟨hlast, rfl, _⟩ := trodAll_nil r2
  subst hlast
  subst hargs2
  subst hargs1
  obtain rfl : args = #[v0, v1, v2] := by cases args; simp_all
  obtain ⟨rfl, rfl⟩ := trodVars_none hV
  obtain ⟨l0, rfl, hn0, hi0⟩ := open_nums (P := Try.prog) Try.underlying25 (ts := List.replicate 4 2) (by kernel_rfl) (by kernel_rfl) (hval 0 25 v0 rfl rfl)
  rw [Try.cells25] at hn0
  obtain ⟨x0_0, x0_1, x0_2, x0_3, rfl⟩ := list4 hn0
  simp only [List.mem_cons, List.not_mem_nil, or_false, forall_eq_or_imp, forall_eq] at hi0
  obtain ⟨l1, rfl, hn1, hi1⟩ := open_nums (P := Try.prog) Try.underlying25 (ts := List.replicate 4 2) (by kernel_rfl) (by kernel_rfl) (hval 1 25 v1 rfl rfl)
  rw [Try.cells25] at hn1
  obtain ⟨x1_0, x1_1, x1_2, x1_3, rfl⟩ := list4 hn1
  simp only [List.mem_cons, List.not_mem_nil, or_false, forall_eq_or_imp, forall_eq] at hi1
  obtain ⟨x2, rfl, hi2⟩ := open_num (P := Try.prog) Try.underlying2 (hval 2 2 v2 rfl rfl)
  exact (SpanSure_any x0_0 x0_1 x0_2 x0_3 x1_0 x1_1 x1_2 x1_3 x2 W hi0.1 hi0.2.1 hi0.2.2.1 hi0.2.2.2 hi1.1 hi1.2.1 hi1.2.2.1 hi1.2.2.2 hi2).mono fun e W' h => law_post laid_out (by rw [Try.params3]; intro t ht; simp only [List.mem_cons, List.not_mem_nil, or_false] at ht; rcases ht with rfl | rfl | rfl | rfl | rfl | rfl; all_goals exact ⟨by kernel_rfl, by decide +kernel⟩) rfl rfl Try.underlying4 hW' rfl h
/-- The statement. -/
theorem SpanSure_holds : Rows.SpanSureSaid :=
  OpenClaim.holds_of_wide 3 Try.f3 rfl rfl rfl rfl rfl rfl rfl ⟨rfl, rfl, rfl, rfl, rfl⟩ rfl rfl rfl rfl rfl (by kernel_rfl) Try.func3 (by kernel_rfl)
    (of_decide_eq_true (by kernel_rfl)) (by unfold Func.isWrapper; first | (rw [if_pos (by decide +kernel)]; kernel_rfl) | (rw [if_neg (by decide +kernel)]; exact ⟨rfl, rfl⟩))
    (fun os started H enc _ => SpanSure_lifted os started H enc)
end Go.Proofs.Ytagfhekjmkdjkab

/- SpanRoots: the roots of a number and of a span are those that the reference gives. No condition. -/
import Derived.Test.YtnhdepdbggcnpabLaw
import Derived.Test.YtnhdepdbggcnpabAwake
import Derived.Test.YtnhdepdbggcnpabRefSpans
namespace Go.Proofs.Ytnhdepdbggcnpab
open Go.ChangeShapes Go.WideShapes Go.ChangeAt Go.RowKit Go.Joins
attribute [local go_sem] Ext.cell Ext.frozen Ext.lt Ext.le Ext.lt_add Ext.le_add Ext.ne Ext.ne' lt2 lt3 lt4 lt5 le2 le3 le4
theorem SpanRoots_any (n a b : Int) (w : World) (hn : I64 n) (_ha : I64 a) (_hb : I64 b) :
    Calls Try.prog 4 #[.int .i64 n, .agg #[.int .i64 a, .int .i64 b]] w (Gives (.bool true) w) := by
  go_enter Try.func4, Try.ntmps4
  go_wp2_with (first | ((first | with_reducible refine wp_region_ext2 (by kernel_rfl) (by kernel_rfl) ?_ | with_reducible refine wp_region_ext (by kernel_rfl) (by kernel_rfl) ?_); (repeat (first | go_big_quiet_step ((first | (go_at_call 15; with_reducible exact Calls.ext (Roots_any _ _ _)) | (go_at_call 16; with_reducible exact Calls.ext (refRoots_any _ _ _)) | (go_at_call 17; with_reducible exact Calls.ext (Root_any _ _ hn)) | (go_at_call 18; with_reducible exact Calls.ext (refRoot_any _ _ hn)) | (go_at_call 14; with_reducible exact Calls.ext (awake_any _)))) | quiet_step ((first | (go_at_call 15; with_reducible exact Calls.ext (Roots_any _ _ _)) | (go_at_call 16; with_reducible exact Calls.ext (refRoots_any _ _ _)) | (go_at_call 17; with_reducible exact Calls.ext (Root_any _ _ hn)) | (go_at_call 18; with_reducible exact Calls.ext (refRoot_any _ _ hn)) | (go_at_call 14; with_reducible exact Calls.ext (awake_any _)))))); refine wpQuiet_nil ?_; rintro _ ⟨yr, rfl⟩; have syr := Ext.size yr; (repeat (first | rw [World.size_alloc] at syr | rw [World.size_setCell] at syr | rw [World.size_drew] at syr)); have : w.heap.size < yr.now.heap.size := (by omega); have : w.heap.size ≤ yr.now.heap.size := (by omega); have : w.heap.size < yr.now.heap.size + 1 + 1 := (by omega)) | (go_at_call 15; (first | with_reducible refine (Calls.giv2 (Roots_any _ _ _)).mono ?_ | with_reducible refine (Calls.giv (Roots_any _ _ _)).mono ?_); rintro _ _ ⟨y1, rfl, rfl⟩; have sy1 := Ext.size y1; (repeat (first | rw [World.size_alloc] at sy1 | rw [World.size_setCell] at sy1 | rw [World.size_drew] at sy1)); have : w.heap.size < y1.now.heap.size := (by omega); have : w.heap.size ≤ y1.now.heap.size := (by omega); have : w.heap.size < y1.now.heap.size + 1 + 1 := (by omega)) | (go_at_call 16; (first | with_reducible refine (Calls.giv2 (refRoots_any _ _ _)).mono ?_ | with_reducible refine (Calls.giv (refRoots_any _ _ _)).mono ?_); rintro _ _ ⟨y2, rfl, rfl⟩; have sy2 := Ext.size y2; (repeat (first | rw [World.size_alloc] at sy2 | rw [World.size_setCell] at sy2 | rw [World.size_drew] at sy2)); have : w.heap.size < y2.now.heap.size := (by omega); have : w.heap.size ≤ y2.now.heap.size := (by omega); have : w.heap.size < y2.now.heap.size + 1 + 1 := (by omega)) | (go_at_call 17; (first | with_reducible refine (Calls.giv2 (Root_any _ _ hn)).mono ?_ | with_reducible refine (Calls.giv (Root_any _ _ hn)).mono ?_); rintro _ _ ⟨y3, rfl, rfl⟩; have sy3 := Ext.size y3; (repeat (first | rw [World.size_alloc] at sy3 | rw [World.size_setCell] at sy3 | rw [World.size_drew] at sy3)); have : w.heap.size < y3.now.heap.size := (by omega); have : w.heap.size ≤ y3.now.heap.size := (by omega); have : w.heap.size < y3.now.heap.size + 1 + 1 := (by omega)) | (go_at_call 18; (first | with_reducible refine (Calls.giv2 (refRoot_any _ _ hn)).mono ?_ | with_reducible refine (Calls.giv (refRoot_any _ _ hn)).mono ?_); rintro _ _ ⟨y4, rfl, rfl⟩; have sy4 := Ext.size y4; (repeat (first | rw [World.size_alloc] at sy4 | rw [World.size_setCell] at sy4 | rw [World.size_drew] at sy4)); have : w.heap.size < y4.now.heap.size := (by omega); have : w.heap.size ≤ y4.now.heap.size := (by omega); have : w.heap.size < y4.now.heap.size + 1 + 1 := (by omega)) | (go_at_call 14; (first | with_reducible refine (Calls.giv2 (awake_any _)).mono ?_ | with_reducible refine (Calls.giv (awake_any _)).mono ?_); rintro _ _ ⟨y5, rfl, rfl⟩; have sy5 := Ext.size y5; (repeat (first | rw [World.size_alloc] at sy5 | rw [World.size_setCell] at sy5 | rw [World.size_drew] at sy5)); have : w.heap.size < y5.now.heap.size := (by omega); have : w.heap.size ≤ y5.now.heap.size := (by omega); have : w.heap.size < y5.now.heap.size + 1 + 1 := (by omega)))
  go_returns
  refine ⟨rfl, ?_⟩
  repeat' (first | (with_reducible exact Below.refl _ _) | (with_reducible assumption) | (with_reducible refine Ext.below _ ?_ ?_) | (with_reducible refine Below.on ?_ (by with_reducible assumption) ?_) | (with_reducible refine Below.alloc ?_ ?_ _) | (with_reducible refine Below.drew ?_) | (with_reducible refine Below.setCell ?_ ?_ _) | (with_reducible exact Nat.le_refl _) | omega | (simp; done) | (simp [go_sem]; done) | (simp at *; omega))
set_option maxRecDepth 100000 in
theorem SpanRoots_lifted (os : Os) (started : os.Started) (H : Type) (enc : TypeId × Value → H) :
    ReturnsInHanded {} Try.checked os 4 .any (Rows.spanRootsSpec.pre6 enc Try.prog Try.f4 Rows.spanRootsRow.domain false) (Rows.spanRootsSpec.post enc Try.prog Try.f4 false true false false) := by
  refine returnsInHanded_of_change (C := Try.checked) own started (by kernel_rfl) Try.func4
    (ChangeSpec.witness6 (enc := enc) (C := Try.checked) false ⟨#[], #[.int .i64 0, .agg #[.int .i64 0, .int .i64 0]], []⟩ 8 (by kernel_rfl) (by kernel_rfl) (by kernel_rfl) (by kernel_rfl)) ?_
  intro W base args ds gs before hval0 hW _ _
  have hval : ∀ (j : Nat) t v, Try.f4.params[j]? = some t → args[j]? = some v → Value.okWide Try.prog W .any base t v := hval0
  have hW' := hW
  obtain ⟨p, q, hA0, hV, _, _, _⟩ := hW
  have hA : DataW.TrodAll enc Try.prog W 0 (fun _ => true) true Try.f4.params.toList args.toList ds p := hA0
  rw [Try.params4] at hA hval
  obtain ⟨v0, vs0, d0, ds0, p0, q0, hargs0, rfl, _, h0, r0⟩ := trodAll_cons hA
  obtain ⟨v1, vs1, d1, ds1, p1, q1, hargs1, rfl, _, h1, r1⟩ := trodAll_cons r0
  obtain ⟨hlast, rfl, _⟩ := trodAll_nil r1
  subst hlast
  subst hargs1
  obtain rfl : args = #[v0, v1] := by cases args; simp_all
  obtain ⟨rfl, rfl⟩ := trodVars_none hV
  obtain ⟨x0, rfl, hi0⟩ := open_num (P := Try.prog) Try.underlying2 (hval 0 2 v0 rfl rfl)
  obtain ⟨l1, rfl, hn1, hi1⟩ := open_nums (P := Try.prog) Try.underlying28 (ts := List.replicate 2 2) (by kernel_rfl) (by kernel_rfl) (hval 1 28 v1 rfl rfl)
  rw [Try.cells28] at hn1
  obtain ⟨x1_0, x1_1, rfl⟩ := list2 hn1
  simp only [List.mem_cons, List.not_mem_nil, or_false, forall_eq_or_imp, forall_eq] at hi1
  exact (SpanRoots_any x0 x1_0 x1_1 W hi0 hi1.1 hi1.2).mono fun e W' h => law_post laid_out (by rw [Try.params4]; intro t ht; simp only [List.mem_cons, List.not_mem_nil, or_false] at ht; rcases ht with rfl | rfl | rfl | rfl | rfl | rfl; all_goals exact ⟨by kernel_rfl, by decide +kernel⟩) rfl rfl Try.underlying4 hW' rfl h
/-- The statement. -/
theorem SpanRoots_holds : Rows.SpanRootsSaid :=
  OpenClaim.holds_of_wide 4 Try.f4 rfl rfl rfl rfl rfl rfl rfl ⟨rfl, rfl, rfl, rfl, rfl⟩ rfl rfl rfl rfl rfl (by kernel_rfl) Try.func4 (by kernel_rfl)
    (of_decide_eq_true (by kernel_rfl)) (by unfold Func.isWrapper; first | (rw [if_pos (by decide +kernel)]; kernel_rfl) | (rw [if_neg (by decide +kernel)]; exact ⟨rfl, rfl⟩))
    (fun os started H enc _ => SpanRoots_lifted os started H enc)
end Go.Proofs.Ytnhdepdbggcnpab

/- SpanNear: whether places and segments come within a radius, and how near a segment comes, is what the reference says. No condition. -/
import Derived.Test.YtnhdepdbggcnpabLaw
import Derived.Test.YtnhdepdbggcnpabAwake
import Derived.Test.YtnhdepdbggcnpabRefPlane
namespace Go.Proofs.Ytnhdepdbggcnpab
open Go.ChangeShapes Go.WideShapes Go.ChangeAt Go.RowKit Go.Joins
attribute [local go_sem] Ext.cell Ext.frozen Ext.lt Ext.le Ext.lt_add Ext.le_add Ext.ne Ext.ne' lt2 lt3 lt4 lt5 le2 le3 le4
/-- The bit that is tried when so many are left. -/
def bv : Nat → Int
  | 0 => 0
  | k + 1 => 2 ^ k
theorem bv_half (k : Nat) : (2 : Int) ^ k / 2 = bv k := by
  cases k with
  | zero => decide
  | succ k => simp only [bv]; rw [Int.pow_succ]; omega
theorem refMiss_yes (px py qx qy : Int) (w : World) (h2 : farB px py = true) (h3 : farB qx qy = true) :
    Calls Try.prog 24 #[.agg #[.int .i64 px, .int .i64 py], .agg #[.int .i64 qx, .int .i64 qy]] w (Gives (.int .i64 (msl (withinB px py qx qy) 30 (-1) + 1)) w) := by
  have a1 := (Far.of_far h2).1
  have a2 := (Far.of_far h2).2
  have a3 := (Far.of_far h3).1
  have a4 := (Far.of_far h3).2
  have WI := fun (r : Int) (h0 : 0 ≤ r) (h1 : r ≤ 1073741824) (W : World) => refwithin_any px py qx qy r W a1 a2 a3 a4 h0 h1
  have HW := Go.Lib.hid WI
  clear WI
  generalize withinB px py qx qy = p at *
  go_enter Try.func24, Try.ntmps24
  go_wp2_with (first | ((first | with_reducible refine wp_region_ext2 (by kernel_rfl) (by kernel_rfl) ?_ | with_reducible refine wp_region_ext (by kernel_rfl) (by kernel_rfl) ?_); (repeat (first | go_big_quiet_step ((first | (go_at_call 66; with_reducible exact Calls.ext (place_any _ _ _)))) | quiet_step ((first | (go_at_call 66; with_reducible exact Calls.ext (place_any _ _ _)))))); refine wpQuiet_nil ?_; rintro _ ⟨yr, rfl⟩; have syr := Ext.size yr; (repeat (first | rw [World.size_alloc] at syr | rw [World.size_setCell] at syr | rw [World.size_drew] at syr))) | (go_at_call 66; (first | with_reducible refine (Calls.giv2 (place_any _ _ _)).mono ?_ | with_reducible refine (Calls.giv (place_any _ _ _)).mono ?_); rintro _ _ ⟨y1, rfl, rfl⟩; have sy1 := Ext.size y1; (repeat (first | rw [World.size_alloc] at sy1 | rw [World.size_setCell] at sy1 | rw [World.size_drew] at sy1))))
  have m0 : y1.now.cell? ⟨w.heap.size, 0, none⟩ = some (.int .i64 px) := (y1.cell (by simp <;> omega)).trans (by simp [go_sem])
  have m1 : y1.now.cell? ⟨w.heap.size, 1, none⟩ = some (.int .i64 py) := (y1.cell (by simp <;> omega)).trans (by simp [go_sem])
  have m2 : y1.now.cell? ⟨w.heap.size + 1, 0, none⟩ = some (.int .i64 qx) := (y1.cell (by simp <;> omega)).trans (by simp [go_sem])
  have m3 : y1.now.cell? ⟨w.heap.size + 1, 1, none⟩ = some (.int .i64 qy) := (y1.cell (by simp <;> omega)).trans (by simp [go_sem])
  have hB : Below w.heap.size w y1.now := by repeat' (first | (with_reducible exact Below.refl _ _) | (with_reducible assumption) | (with_reducible refine Ext.below _ ?_ ?_) | (with_reducible refine Below.on ?_ (by with_reducible assumption) ?_) | (with_reducible refine Below.alloc ?_ ?_ _) | (with_reducible refine Below.drew ?_) | (with_reducible refine Below.setCell ?_ ?_ _) | (with_reducible exact Nat.le_refl _) | omega | (simp; done) | (simp [go_sem]; done) | (simp at *; omega))
  generalize y1.now = W0 at *
  clear y1
  go_loopw [5, 6] (fun s t wr => ∃ (k : Nat) (r : Int) (x : Ext W0), s = .int .i64 r ∧ t = .int .i64 (bv k) ∧ wr = x.now ∧ k ≤ 30 ∧ -1 ≤ r ∧ r + 2 ^ k ≤ 1073741823 ∧ msl p k r = msl p 30 (-1)) (fun _ t _ => (intOf t).toNat)
  case atStart => exact ⟨30, -1, ⟨W0, Below.refl _ _⟩, rfl, rfl, rfl, by decide, by decide, by decide, rfl⟩
  case round =>
    obtain ⟨k, r, x, rfl, rfl, rfl, hk, hr0, hr1, hm⟩ := hrel
    have sx := x.size
    have c0 := (x.cell (b := w.heap.size) (o := 0) (by omega)).trans m0
    have c1 := (x.cell (b := w.heap.size) (o := 1) (by omega)).trans m1
    have c2 := (x.cell (b := w.heap.size + 1) (o := 0) (by omega)).trans m2
    have c3 := (x.cell (b := w.heap.size + 1) (o := 1) (by omega)).trans m3
    have HM := Go.Lib.hid hm
    clear hm m0 m1 m2 m3
    cases k with
    | zero =>
      simp only [bv]
      simp at hr1
      go_wp2_with (first | ((first | with_reducible refine wp_region_ext2 (by kernel_rfl) (by kernel_rfl) ?_ | with_reducible refine wp_region_ext (by kernel_rfl) (by kernel_rfl) ?_); (repeat (first | go_big_quiet_step ((first | fail)) | quiet_step ((first | fail)))); refine wpQuiet_nil ?_; rintro _ ⟨yr, rfl⟩; have syr := Ext.size yr; (repeat (first | rw [World.size_alloc] at syr | rw [World.size_setCell] at syr | rw [World.size_drew] at syr))))
      go_returns
      refine ⟨ret_int ?_, ?_⟩
      · rw [← HM.out]; rfl
      · exact hB.trans (x.grew.mono (by omega))
    | succ k =>
      have hpos : (0 : Int) < 2 ^ k := Int.pow_pos (by decide)
      have e2 : (2 : Int) ^ (k + 1) = 2 ^ k + 2 ^ k := by rw [Int.pow_succ]; omega
      have hh := bv_half k
      have hmk : msl p (k + 1) r = msl p k (if p (r + 2 ^ k) then r else r + 2 ^ k) := rfl
      simp only [bv]
      rw [e2] at hr1
      have hlim : (2 : Int) ^ k ≤ 1073741824 := by omega
      generalize hB2 : (2 : Int) ^ k = B at *
      have HH := Go.Lib.hid hh; have HB2 := Go.Lib.hid hB2; have HMK := Go.Lib.hid hmk
      clear hh hB2 hmk e2
      have b1 : 0 ≤ r + B := by omega
      have b2 : r + B ≤ 1073741824 := by omega
      have w1 := fun W => HW.out (r + B) b1 b2 W
      cases hp : p (r + B)
      · rw [hp] at w1
        have W1 := Go.Lib.hid w1; have HP := Go.Lib.hid hp
        clear w1 hp
        go_wp2_with (first | ((first | with_reducible refine wp_region_ext2 (by kernel_rfl) (by kernel_rfl) ?_ | with_reducible refine wp_region_ext (by kernel_rfl) (by kernel_rfl) ?_); (repeat (first | go_big_quiet_step ((first | (go_at_call 70; with_reducible exact Calls.ext (W1.out _)))) | quiet_step ((first | (go_at_call 70; with_reducible exact Calls.ext (W1.out _)))))); refine wpQuiet_nil ?_; rintro _ ⟨yr, rfl⟩; have syr := Ext.size yr; (repeat (first | rw [World.size_alloc] at syr | rw [World.size_setCell] at syr | rw [World.size_drew] at syr))) | (go_at_call 70; (first | with_reducible refine (Calls.giv2 (W1.out _)).mono ?_ | with_reducible refine (Calls.giv (W1.out _)).mono ?_); rintro _ _ ⟨y1, rfl, rfl⟩; have sy1 := Ext.size y1; (repeat (first | rw [World.size_alloc] at sy1 | rw [World.size_setCell] at sy1 | rw [World.size_drew] at sy1))))
        go_roundw
        case rel => exact ⟨k, r + B, y1, rfl, by rw [HH.out]; cases k <;> rfl, rfl, by omega, by omega, by rw [HB2.out]; omega, by rw [← HM.out, HMK.out, HP.out]; rfl⟩
        case measure => simp [intOf]; omega
      · rw [hp] at w1
        have W1 := Go.Lib.hid w1; have HP := Go.Lib.hid hp
        clear w1 hp
        go_wp2_with (first | ((first | with_reducible refine wp_region_ext2 (by kernel_rfl) (by kernel_rfl) ?_ | with_reducible refine wp_region_ext (by kernel_rfl) (by kernel_rfl) ?_); (repeat (first | go_big_quiet_step ((first | (go_at_call 70; with_reducible exact Calls.ext (W1.out _)))) | quiet_step ((first | (go_at_call 70; with_reducible exact Calls.ext (W1.out _)))))); refine wpQuiet_nil ?_; rintro _ ⟨yr, rfl⟩; have syr := Ext.size yr; (repeat (first | rw [World.size_alloc] at syr | rw [World.size_setCell] at syr | rw [World.size_drew] at syr))) | (go_at_call 70; (first | with_reducible refine (Calls.giv2 (W1.out _)).mono ?_ | with_reducible refine (Calls.giv (W1.out _)).mono ?_); rintro _ _ ⟨y1, rfl, rfl⟩; have sy1 := Ext.size y1; (repeat (first | rw [World.size_alloc] at sy1 | rw [World.size_setCell] at sy1 | rw [World.size_drew] at sy1))))
        go_roundw
        case rel => exact ⟨k, r, y1, rfl, by rw [HH.out]; cases k <;> rfl, rfl, by omega, by omega, by rw [HB2.out]; omega, by rw [← HM.out, HMK.out, HP.out]; rfl⟩
        case measure => simp [intOf]; omega
theorem refMiss_any (px py qx qy : Int) (w : World) :
    Calls Try.prog 24 #[.agg #[.int .i64 px, .int .i64 py], .agg #[.int .i64 qx, .int .i64 qy]] w (Gives (.int .i64 (missI px py qx qy)) w) := by
  cases h2 : farB px py <;> cases h3 : farB qx qy
  case true.true =>
    have hv : missI px py qx qy = msl (withinB px py qx qy) 30 (-1) + 1 := by
      rw [← miss_msl (Far.of_far h2).1 (Far.of_far h2).2]; simp [missI, h2, h3]
    rw [hv]
    exact refMiss_yes px py qx qy w h2 h3
  all_goals
    have hv : missI px py qx qy = -1 := by simp [missI, h2, h3]
    rw [hv]
    clear hv
    go_enter Try.func24, Try.ntmps24
    go_wp2_with (first | ((first | with_reducible refine wp_region_ext2 (by kernel_rfl) (by kernel_rfl) ?_ | with_reducible refine wp_region_ext (by kernel_rfl) (by kernel_rfl) ?_); (repeat (first | go_big_quiet_step ((first | (go_at_call 66; with_reducible exact Calls.ext (place_any _ _ _)))) | quiet_step ((first | (go_at_call 66; with_reducible exact Calls.ext (place_any _ _ _)))))); refine wpQuiet_nil ?_; rintro _ ⟨yr, rfl⟩; have syr := Ext.size yr; (repeat (first | rw [World.size_alloc] at syr | rw [World.size_setCell] at syr | rw [World.size_drew] at syr))) | (go_at_call 66; (first | with_reducible refine (Calls.giv2 (place_any _ _ _)).mono ?_ | with_reducible refine (Calls.giv (place_any _ _ _)).mono ?_); rintro _ _ ⟨y1, rfl, rfl⟩; have sy1 := Ext.size y1; (repeat (first | rw [World.size_alloc] at sy1 | rw [World.size_setCell] at sy1 | rw [World.size_drew] at sy1))))
    go_returns
    refine ⟨rfl, ?_⟩
    repeat' (first | (with_reducible exact Below.refl _ _) | (with_reducible assumption) | (with_reducible refine Ext.below _ ?_ ?_) | (with_reducible refine Below.on ?_ (by with_reducible assumption) ?_) | (with_reducible refine Below.alloc ?_ ?_ _) | (with_reducible refine Below.drew ?_) | (with_reducible refine Below.setCell ?_ ?_ _) | (with_reducible exact Nat.le_refl _) | omega | (simp; done) | (simp [go_sem]; done) | (simp at *; omega))
theorem SpanNear_any (a b c d r : Int) (w : World) (_ha : I64 a) (_hb : I64 b) (_hc : I64 c) (_hd : I64 d) (_hr : I64 r) :
    Calls Try.prog 5 #[.agg #[.int .i64 a, .int .i64 b], .agg #[.int .i64 c, .int .i64 d], .int .i64 r] w (Gives (.bool true) w) := by
  go_enter Try.func5, Try.ntmps5
  go_wp2_with (first | ((first | with_reducible refine wp_region_ext2 (by kernel_rfl) (by kernel_rfl) ?_ | with_reducible refine wp_region_ext (by kernel_rfl) (by kernel_rfl) ?_); (repeat (first | go_big_quiet_step ((first | (go_at_call 19; with_reducible exact Calls.ext (Near_any _ _ _ _)) | (go_at_call 20; with_reducible exact Calls.ext (refNear_any _ _ _ _)) | (go_at_call 21; with_reducible exact Calls.ext (Within_any _ _ _ _ _ _)) | (go_at_call 22; with_reducible exact Calls.ext (refWithin_any _ _ _ _ _ _)) | (go_at_call 23; with_reducible exact Calls.ext (Miss_any _ _ _ _ _)) | (go_at_call 24; with_reducible exact Calls.ext (refMiss_any _ _ _ _ _)) | (go_at_call 14; with_reducible exact Calls.ext (awake_any _)))) | quiet_step ((first | (go_at_call 19; with_reducible exact Calls.ext (Near_any _ _ _ _)) | (go_at_call 20; with_reducible exact Calls.ext (refNear_any _ _ _ _)) | (go_at_call 21; with_reducible exact Calls.ext (Within_any _ _ _ _ _ _)) | (go_at_call 22; with_reducible exact Calls.ext (refWithin_any _ _ _ _ _ _)) | (go_at_call 23; with_reducible exact Calls.ext (Miss_any _ _ _ _ _)) | (go_at_call 24; with_reducible exact Calls.ext (refMiss_any _ _ _ _ _)) | (go_at_call 14; with_reducible exact Calls.ext (awake_any _)))))); refine wpQuiet_nil ?_; rintro _ ⟨yr, rfl⟩; have syr := Ext.size yr; (repeat (first | rw [World.size_alloc] at syr | rw [World.size_setCell] at syr | rw [World.size_drew] at syr))) | (go_at_call 19; (first | with_reducible refine (Calls.giv2 (Near_any _ _ _ _)).mono ?_ | with_reducible refine (Calls.giv (Near_any _ _ _ _)).mono ?_); rintro _ _ ⟨y1, rfl, rfl⟩; have sy1 := Ext.size y1; (repeat (first | rw [World.size_alloc] at sy1 | rw [World.size_setCell] at sy1 | rw [World.size_drew] at sy1))) | (go_at_call 20; (first | with_reducible refine (Calls.giv2 (refNear_any _ _ _ _)).mono ?_ | with_reducible refine (Calls.giv (refNear_any _ _ _ _)).mono ?_); rintro _ _ ⟨y2, rfl, rfl⟩; have sy2 := Ext.size y2; (repeat (first | rw [World.size_alloc] at sy2 | rw [World.size_setCell] at sy2 | rw [World.size_drew] at sy2))) | (go_at_call 21; (first | with_reducible refine (Calls.giv2 (Within_any _ _ _ _ _ _)).mono ?_ | with_reducible refine (Calls.giv (Within_any _ _ _ _ _ _)).mono ?_); rintro _ _ ⟨y3, rfl, rfl⟩; have sy3 := Ext.size y3; (repeat (first | rw [World.size_alloc] at sy3 | rw [World.size_setCell] at sy3 | rw [World.size_drew] at sy3))) | (go_at_call 22; (first | with_reducible refine (Calls.giv2 (refWithin_any _ _ _ _ _ _)).mono ?_ | with_reducible refine (Calls.giv (refWithin_any _ _ _ _ _ _)).mono ?_); rintro _ _ ⟨y4, rfl, rfl⟩; have sy4 := Ext.size y4; (repeat (first | rw [World.size_alloc] at sy4 | rw [World.size_setCell] at sy4 | rw [World.size_drew] at sy4))) | (go_at_call 23; (first | with_reducible refine (Calls.giv2 (Miss_any _ _ _ _ _)).mono ?_ | with_reducible refine (Calls.giv (Miss_any _ _ _ _ _)).mono ?_); rintro _ _ ⟨y5, rfl, rfl⟩; have sy5 := Ext.size y5; (repeat (first | rw [World.size_alloc] at sy5 | rw [World.size_setCell] at sy5 | rw [World.size_drew] at sy5))) | (go_at_call 24; (first | with_reducible refine (Calls.giv2 (refMiss_any _ _ _ _ _)).mono ?_ | with_reducible refine (Calls.giv (refMiss_any _ _ _ _ _)).mono ?_); rintro _ _ ⟨y6, rfl, rfl⟩; have sy6 := Ext.size y6; (repeat (first | rw [World.size_alloc] at sy6 | rw [World.size_setCell] at sy6 | rw [World.size_drew] at sy6))) | (go_at_call 14; (first | with_reducible refine (Calls.giv2 (awake_any _)).mono ?_ | with_reducible refine (Calls.giv (awake_any _)).mono ?_); rintro _ _ ⟨y7, rfl, rfl⟩; have sy7 := Ext.size y7; (repeat (first | rw [World.size_alloc] at sy7 | rw [World.size_setCell] at sy7 | rw [World.size_drew] at sy7))))
  go_returns
  refine ⟨rfl, ?_⟩
  repeat' (first | (with_reducible exact Below.refl _ _) | (with_reducible assumption) | (with_reducible refine Ext.below _ ?_ ?_) | (with_reducible refine Below.on ?_ (by with_reducible assumption) ?_) | (with_reducible refine Below.alloc ?_ ?_ _) | (with_reducible refine Below.drew ?_) | (with_reducible refine Below.setCell ?_ ?_ _) | (with_reducible exact Nat.le_refl _) | omega | (simp; done) | (simp [go_sem]; done) | (simp at *; omega))
set_option maxRecDepth 100000 in
theorem SpanNear_lifted (os : Os) (started : os.Started) (H : Type) (enc : TypeId × Value → H) :
    ReturnsInHanded {} Try.checked os 5 .any (Rows.spanNearSpec.pre6 enc Try.prog Try.f5 Rows.spanNearRow.domain false) (Rows.spanNearSpec.post enc Try.prog Try.f5 false true false false) := by
  refine returnsInHanded_of_change (C := Try.checked) own started (by kernel_rfl) Try.func5
    (ChangeSpec.witness6 (enc := enc) (C := Try.checked) false ⟨#[], #[.agg #[.int .i64 0, .int .i64 0], .agg #[.int .i64 0, .int .i64 0], .int .i64 0], []⟩ 8 (by kernel_rfl) (by kernel_rfl) (by kernel_rfl) (by kernel_rfl)) ?_
  intro W base args ds gs before hval0 hW _ _
  have hval : ∀ (j : Nat) t v, Try.f5.params[j]? = some t → args[j]? = some v → Value.okWide Try.prog W .any base t v := hval0
  have hW' := hW
  obtain ⟨p, q, hA0, hV, _, _, _⟩ := hW
  have hA : DataW.TrodAll enc Try.prog W 0 (fun _ => true) true Try.f5.params.toList args.toList ds p := hA0
  rw [Try.params5] at hA hval
  obtain ⟨v0, vs0, d0, ds0, p0, q0, hargs0, rfl, _, h0, r0⟩ := trodAll_cons hA
  obtain ⟨v1, vs1, d1, ds1, p1, q1, hargs1, rfl, _, h1, r1⟩ := trodAll_cons r0
  obtain ⟨v2, vs2, d2, ds2, p2, q2, hargs2, rfl, _, h2, r2⟩ := trodAll_cons r1
  obtain ⟨hlast, rfl, _⟩ := trodAll_nil r2
  subst hlast
  subst hargs2
  subst hargs1
  obtain rfl : args = #[v0, v1, v2] := by cases args; simp_all
  obtain ⟨rfl, rfl⟩ := trodVars_none hV
  obtain ⟨l0, rfl, hn0, hi0⟩ := open_nums (P := Try.prog) Try.underlying23 (ts := List.replicate 2 2) (by kernel_rfl) (by kernel_rfl) (hval 0 23 v0 rfl rfl)
  rw [Try.cells23] at hn0
  obtain ⟨x0_0, x0_1, rfl⟩ := list2 hn0
  simp only [List.mem_cons, List.not_mem_nil, or_false, forall_eq_or_imp, forall_eq] at hi0
  obtain ⟨l1, rfl, hn1, hi1⟩ := open_nums (P := Try.prog) Try.underlying23 (ts := List.replicate 2 2) (by kernel_rfl) (by kernel_rfl) (hval 1 23 v1 rfl rfl)
  rw [Try.cells23] at hn1
  obtain ⟨x1_0, x1_1, rfl⟩ := list2 hn1
  simp only [List.mem_cons, List.not_mem_nil, or_false, forall_eq_or_imp, forall_eq] at hi1
  obtain ⟨x2, rfl, hi2⟩ := open_num (P := Try.prog) Try.underlying2 (hval 2 2 v2 rfl rfl)
  exact (SpanNear_any x0_0 x0_1 x1_0 x1_1 x2 W hi0.1 hi0.2 hi1.1 hi1.2 hi2).mono fun e W' h => law_post laid_out (by rw [Try.params5]; intro t ht; simp only [List.mem_cons, List.not_mem_nil, or_false] at ht; rcases ht with rfl | rfl | rfl | rfl | rfl | rfl; all_goals exact ⟨by kernel_rfl, by decide +kernel⟩) rfl rfl Try.underlying4 hW' rfl h
/-- The statement. -/
theorem SpanNear_holds : Rows.SpanNearSaid :=
  OpenClaim.holds_of_wide 5 Try.f5 rfl rfl rfl rfl rfl rfl rfl ⟨rfl, rfl, rfl, rfl, rfl⟩ rfl rfl rfl rfl rfl (by kernel_rfl) Try.func5 (by kernel_rfl)
    (of_decide_eq_true (by kernel_rfl)) (by unfold Func.isWrapper; first | (rw [if_pos (by decide +kernel)]; kernel_rfl) | (rw [if_neg (by decide +kernel)]; exact ⟨rfl, rfl⟩))
    (fun os started H enc _ => SpanNear_lifted os started H enc)
end Go.Proofs.Ytnhdepdbggcnpab

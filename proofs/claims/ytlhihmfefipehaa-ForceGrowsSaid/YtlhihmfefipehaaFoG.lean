/- Light, heat, gas and the pull of a body as plain functions; share, opposite, light, heat, gas, One, Light, Heat of package force. Condition: the cells that are read, a slice within its capacity. -/
import Derived.Test.YtlhihmfefipehaaFoF
import Derived.Test.YtlhihmfefipehaaFoEG
namespace Go.Proofs.Ytlhihmfefipehaa
open Go.RowKit Go.Shelf
attribute [local go_sem] Option.isSome_some Ext.cell Ext.frozen Ext.lt Ext.le Ext.lt_add Ext.le_add Ext.ne Ext.ne' lt2 lt3 lt4 lt5 le2 le3 le4
set_option maxRecDepth 100000
set_option maxHeartbeats 4000000
/-- The least and the greatest product of numbers of two spans. -/
def prL (a b l h : Int) : Int := min (min (a * l) (b * l)) (min (b * h) (a * h))
def prH (a b l h : Int) : Int := max (max (a * l) (b * l)) (max (b * h) (a * h))
/-- The products, divided by 1000, rounded outwards. -/
def shL (a b l h : Int) : Int := prL a b l h / 1000
def shH (a b l h : Int) : Int := cei (prH a b l h) 1000
theorem prod_in {a l A B : Int} (h1 : -A ≤ a) (h2 : a ≤ A) (h3 : -B ≤ l) (h4 : l ≤ B) : -(A * B) ≤ a * l ∧ a * l ≤ A * B := by
  have p1 := Int.mul_nonneg (show 0 ≤ A - a by omega) (show 0 ≤ B - l by omega)
  have p2 := Int.mul_nonneg (show 0 ≤ A - a by omega) (show 0 ≤ B + l by omega)
  have p3 := Int.mul_nonneg (show 0 ≤ A + a by omega) (show 0 ≤ B - l by omega)
  have p4 := Int.mul_nonneg (show 0 ≤ A + a by omega) (show 0 ≤ B + l by omega)
  have e1 : (A - a) * (B - l) = A * B - A * l - a * B + a * l := by grind
  have e2 : (A - a) * (B + l) = A * B + A * l - a * B - a * l := by grind
  have e3 : (A + a) * (B - l) = A * B - A * l + a * B - a * l := by grind
  have e4 : (A + a) * (B + l) = A * B + A * l + a * B + a * l := by grind
  omega
theorem pr_bounds {a b l h : Int} (h1 : -1000 ≤ a) (h2 : a ≤ b) (h3 : b ≤ 1000) (h4 : -1048576 ≤ l) (h5 : l ≤ h) (h6 : h ≤ 1048576) : -1048576000 ≤ prL a b l h ∧ prL a b l h ≤ prH a b l h ∧ prH a b l h ≤ 1048576000 := by
  have p1 := prod_in (a := a) (l := l) (A := 1000) (B := 1048576) (by omega) (by omega) (by omega) (by omega)
  have p2 := prod_in (a := b) (l := l) (A := 1000) (B := 1048576) (by omega) (by omega) (by omega) (by omega)
  have p3 := prod_in (a := b) (l := h) (A := 1000) (B := 1048576) (by omega) (by omega) (by omega) (by omega)
  have p4 := prod_in (a := a) (l := h) (A := 1000) (B := 1048576) (by omega) (by omega) (by omega) (by omega)
  unfold prL prH
  omega
theorem mul_clean {a b l h : Int} (h1 : -1000 ≤ a) (h2 : a ≤ b) (h3 : b ≤ 1000) (h4 : -1048576 ≤ l) (h5 : l ≤ h) (h6 : h ≤ 1048576) : mulL a b l h = prL a b l h ∧ mulH a b l h = prH a b l h := by
  obtain ⟨b1, b2, b3⟩ := pr_bounds h1 h2 h3 h4 h5 h6
  have hk : chkB a b l h = 0 := chkB_num (by omega) (by omega) h2 (by omega) (by omega) h5
  have m1 : dmin (· * ·) a b l h 4 = prL a b l h := by rw [dmin4]; rfl
  have m2 : dmax (· * ·) a b l h 4 = prH a b l h := by rw [dmax4]; rfl
  obtain ⟨e0, e1, e2⟩ := cmb_of hk (numB_true.2 (by rw [m1]; omega)) (numB_true.2 (by rw [m2]; omega))
  unfold mulL mulH
  exact ⟨e1.trans m1, e2.trans m2⟩
theorem sh_bounds {a b l h : Int} (h1 : -1000 ≤ a) (h2 : a ≤ b) (h3 : b ≤ 1000) (h4 : -1048576 ≤ l) (h5 : l ≤ h) (h6 : h ≤ 1048576) : -1048576 ≤ shL a b l h ∧ shL a b l h ≤ shH a b l h ∧ shH a b l h ≤ 1048576 := by
  obtain ⟨b1, b2, b3⟩ := pr_bounds h1 h2 h3 h4 h5 h6
  have c1 := cei_two (prH a b l h) 1000 (by omega)
  unfold shL shH
  unfold cei at *
  omega
theorem share_any (a b l h : Int) (w : World) (h1 : -1000 ≤ a) (h2 : a ≤ b) (h3 : b ≤ 1000) (h4 : -1048576 ≤ l) (h5 : l ≤ h) (h6 : h ≤ 1048576) :
    Calls Try.prog 78 #[.agg #[.int .i64 a, .int .i64 b], .agg #[.int .i64 l, .int .i64 h]] w (Gives (.agg #[.int .i64 (shL a b l h), .int .i64 (shH a b l h)]) w) := by
  have cm := fun W => Mul_any a b l h W
  obtain ⟨e1, e2⟩ := mul_clean h1 h2 h3 h4 h5 h6
  rw [e1, e2] at cm
  obtain ⟨b1, b2, b3⟩ := pr_bounds h1 h2 h3 h4 h5 h6
  have hq := quo_clean (a := prL a b l h) (b := prH a b l h) (c := 1000) (d := 1000) (by omega) (by omega) b2 (by omega) (by omega) (by omega)
  rw [Int.min_self, Int.max_self] at hq
  have cq := fun W => Quot_any (prL a b l h) (prH a b l h) 1000 1000 W
  rw [hq.1, hq.2] at cq
  change ∀ W, Calls _ _ _ _ (Gives (.tuple #[.agg #[.int .i64 (shL a b l h), .int .i64 (shH a b l h)], _]) W) at cq
  clear e1 e2 b1 b2 b3 hq h1 h2 h3 h4 h5 h6
  generalize shL a b l h = s1 at *
  generalize shH a b l h = s2 at *
  generalize prL a b l h = p1 at *
  generalize prH a b l h = p2 at *
  generalize mulE a b l h = f1 at *
  generalize quoE p1 p2 1000 1000 = f2 at *
  have ck := fun x y e W => known_any x y e W
  have co := fun n W => only_any n W
  go_enter Try.func78, Try.ntmps78
  go_wp2_with (first | ((first | with_reducible refine wrx2 ?_ | with_reducible refine wrx ?_); (repeat (first | go_big_quiet_step ((first | (go_at_call 87; with_reducible exact Calls.ext (cm _)) | (go_at_call 53; with_reducible exact Calls.ext (ck _ _ _ _)) | (go_at_call 51; with_reducible exact Calls.ext (co _ _)) | (go_at_call 79; with_reducible exact Calls.ext (cq _)))) | quiet_step ((first | (go_at_call 87; with_reducible exact Calls.ext (cm _)) | (go_at_call 53; with_reducible exact Calls.ext (ck _ _ _ _)) | (go_at_call 51; with_reducible exact Calls.ext (co _ _)) | (go_at_call 79; with_reducible exact Calls.ext (cq _)))))); refine wpQuiet_nil ?_; rintro _ ⟨yr, rfl⟩; have syr := Ext.size yr; (repeat (first | rw [World.size_alloc] at syr | rw [World.size_setCell] at syr | rw [World.size_drew] at syr)); have : w.heap.size < yr.now.heap.size := (by omega); have : w.heap.size ≤ yr.now.heap.size := (by omega); have : w.heap.size < yr.now.heap.size + 1 + 1 := (by omega); have : w.heap.size + 1 < yr.now.heap.size := (by omega); have : w.heap.size + 1 ≤ yr.now.heap.size := (by omega); have : w.heap.size + 1 < yr.now.heap.size + 1 + 1 := (by omega); have : w.heap.size + 1 + 1 < yr.now.heap.size := (by omega); have : w.heap.size + 1 + 1 ≤ yr.now.heap.size := (by omega); have : w.heap.size + 1 + 1 < yr.now.heap.size + 1 + 1 := (by omega)) | (go_at_call 87; (first | with_reducible refine (Calls.giv2 (cm _)).mono ?_ | with_reducible refine (Calls.giv (cm _)).mono ?_); rintro _ _ ⟨y1, rfl, rfl⟩; have sy1 := Ext.size y1; (repeat (first | rw [World.size_alloc] at sy1 | rw [World.size_setCell] at sy1 | rw [World.size_drew] at sy1)); have : w.heap.size < y1.now.heap.size := (by omega); have : w.heap.size ≤ y1.now.heap.size := (by omega); have : w.heap.size < y1.now.heap.size + 1 + 1 := (by omega); have : w.heap.size + 1 < y1.now.heap.size := (by omega); have : w.heap.size + 1 ≤ y1.now.heap.size := (by omega); have : w.heap.size + 1 < y1.now.heap.size + 1 + 1 := (by omega); have : w.heap.size + 1 + 1 < y1.now.heap.size := (by omega); have : w.heap.size + 1 + 1 ≤ y1.now.heap.size := (by omega); have : w.heap.size + 1 + 1 < y1.now.heap.size + 1 + 1 := (by omega)) | (go_at_call 53; (first | with_reducible refine (Calls.giv2 (ck _ _ _ _)).mono ?_ | with_reducible refine (Calls.giv (ck _ _ _ _)).mono ?_); rintro _ _ ⟨y2, rfl, rfl⟩; have sy2 := Ext.size y2; (repeat (first | rw [World.size_alloc] at sy2 | rw [World.size_setCell] at sy2 | rw [World.size_drew] at sy2)); have : w.heap.size < y2.now.heap.size := (by omega); have : w.heap.size ≤ y2.now.heap.size := (by omega); have : w.heap.size < y2.now.heap.size + 1 + 1 := (by omega); have : w.heap.size + 1 < y2.now.heap.size := (by omega); have : w.heap.size + 1 ≤ y2.now.heap.size := (by omega); have : w.heap.size + 1 < y2.now.heap.size + 1 + 1 := (by omega); have : w.heap.size + 1 + 1 < y2.now.heap.size := (by omega); have : w.heap.size + 1 + 1 ≤ y2.now.heap.size := (by omega); have : w.heap.size + 1 + 1 < y2.now.heap.size + 1 + 1 := (by omega)) | (go_at_call 51; (first | with_reducible refine (Calls.giv2 (co _ _)).mono ?_ | with_reducible refine (Calls.giv (co _ _)).mono ?_); rintro _ _ ⟨y3, rfl, rfl⟩; have sy3 := Ext.size y3; (repeat (first | rw [World.size_alloc] at sy3 | rw [World.size_setCell] at sy3 | rw [World.size_drew] at sy3)); have : w.heap.size < y3.now.heap.size := (by omega); have : w.heap.size ≤ y3.now.heap.size := (by omega); have : w.heap.size < y3.now.heap.size + 1 + 1 := (by omega); have : w.heap.size + 1 < y3.now.heap.size := (by omega); have : w.heap.size + 1 ≤ y3.now.heap.size := (by omega); have : w.heap.size + 1 < y3.now.heap.size + 1 + 1 := (by omega); have : w.heap.size + 1 + 1 < y3.now.heap.size := (by omega); have : w.heap.size + 1 + 1 ≤ y3.now.heap.size := (by omega); have : w.heap.size + 1 + 1 < y3.now.heap.size + 1 + 1 := (by omega)) | (go_at_call 79; (first | with_reducible refine (Calls.giv2 (cq _)).mono ?_ | with_reducible refine (Calls.giv (cq _)).mono ?_); rintro _ _ ⟨y4, rfl, rfl⟩; have sy4 := Ext.size y4; (repeat (first | rw [World.size_alloc] at sy4 | rw [World.size_setCell] at sy4 | rw [World.size_drew] at sy4)); have : w.heap.size < y4.now.heap.size := (by omega); have : w.heap.size ≤ y4.now.heap.size := (by omega); have : w.heap.size < y4.now.heap.size + 1 + 1 := (by omega); have : w.heap.size + 1 < y4.now.heap.size := (by omega); have : w.heap.size + 1 ≤ y4.now.heap.size := (by omega); have : w.heap.size + 1 < y4.now.heap.size + 1 + 1 := (by omega); have : w.heap.size + 1 + 1 < y4.now.heap.size := (by omega); have : w.heap.size + 1 + 1 ≤ y4.now.heap.size := (by omega); have : w.heap.size + 1 + 1 < y4.now.heap.size + 1 + 1 := (by omega)))
  refine bodyPost_ret (v := .agg #[.int .i64 s1, .int .i64 s2]) (by simp (maxDischargeDepth := 9) [results, Try.results78, go_sem, *]) rfl ?_
  refine ⟨rfl, ?_⟩
  repeat' (first | (with_reducible exact Below.refl _ _) | (with_reducible assumption) | (with_reducible refine Ext.below _ ?_ ?_) | (with_reducible refine Below.on ?_ (by with_reducible assumption) ?_) | (with_reducible refine Below.alloc ?_ ?_ _) | (with_reducible refine Below.drew ?_) | (with_reducible refine Below.setCell ?_ ?_ _) | (with_reducible exact Nat.le_refl _) | omega | (simp; done) | (simp [go_sem]; done) | (simp at *; omega))
theorem opposite_any (l h : Int) (w : World) (h1 : -1073741824 ≤ l) (h2 : l ≤ h) (h3 : h ≤ 1073741824) : Calls Try.prog 77 #[.agg #[.int .i64 l, .int .i64 h]] w (Gives (.agg #[.int .i64 (-h), .int .i64 (-l)]) w) := by
  have cs := fun W => Sub_any 0 0 l h W
  have e := sub_clean (a := 0) (b := 0) (c := l) (d := h) (by omega) (by omega) (by omega) (by omega) (by omega) h2
  rw [e.1, e.2, Int.zero_sub, Int.zero_sub] at cs
  clear e
  generalize subE 0 0 l h = f at *
  have ck := fun x y e W => known_any x y e W
  have co := fun n W => only_any n W
  go_enter Try.func77, Try.ntmps77
  go_upto_region 1 with (first | ((first | with_reducible refine wrx2 ?_ | with_reducible refine wrx ?_); (repeat (first | go_big_quiet_step ((first | fail)) | quiet_step ((first | fail)))); refine wpQuiet_nil ?_; rintro _ ⟨yr, rfl⟩; have syr := Ext.size yr; (repeat (first | rw [World.size_alloc] at syr | rw [World.size_setCell] at syr | rw [World.size_drew] at syr))))
  (first | with_reducible refine wp_region_ext2_heads 6 (by kernel_rfl) (by kernel_rfl) ?_ | with_reducible refine wp_region_ext_heads 6 (by kernel_rfl) (by kernel_rfl) ?_); simp only [List.take_succ_cons, List.take_zero, List.length_cons, List.length_nil, Nat.reduceAdd, Nat.reduceSub]; (repeat (first | go_big_quiet_step ((first | (go_at_call 51; with_reducible exact Calls.ext (co _ _)) | (go_at_call 54; with_reducible exact Calls.ext (cs _)) | (go_at_call 53; with_reducible exact Calls.ext (ck _ _ _ _)))) | quiet_step ((first | (go_at_call 51; with_reducible exact Calls.ext (co _ _)) | (go_at_call 54; with_reducible exact Calls.ext (cs _)) | (go_at_call 53; with_reducible exact Calls.ext (ck _ _ _ _)))))); refine wpQuiet_nil ?_; rintro _ ⟨yr, rfl⟩; have syr := Ext.size yr; (repeat (first | rw [World.size_alloc] at syr | rw [World.size_setCell] at syr | rw [World.size_drew] at syr)); (refine wpAny_ready (rs := [6]) (by kernel_rfl) (by simp) ?_; refine AllReady.cons rfl (fun K hK => ?_) AllReady.nil; go_simp; refine hK _ _ ?_; clear hK K); refine wpAny_done (by kernel_rfl) ?_ _
  go_wp2_with (first | ((first | with_reducible refine wrx2 ?_ | with_reducible refine wrx ?_); (repeat (first | go_big_quiet_step ((first | fail)) | quiet_step ((first | fail)))); refine wpQuiet_nil ?_; rintro _ ⟨yr, rfl⟩; have syr := Ext.size yr; (repeat (first | rw [World.size_alloc] at syr | rw [World.size_setCell] at syr | rw [World.size_drew] at syr))))
  refine bodyPost_ret (v := .agg #[.int .i64 (-h), .int .i64 (-l)]) (by simp (maxDischargeDepth := 9) [results, Try.results77, go_sem]) rfl ?_
  refine ⟨rfl, ?_⟩
  repeat' (first | (with_reducible exact Below.refl _ _) | (with_reducible assumption) | (with_reducible refine Ext.below _ ?_ ?_) | (with_reducible refine Below.on ?_ (by with_reducible assumption) ?_) | (with_reducible refine Below.alloc ?_ ?_ _) | (with_reducible refine Below.drew ?_) | (with_reducible refine Below.setCell ?_ ?_ _) | (with_reducible exact Nat.le_refl _) | omega | (simp; done) | (simp [go_sem]; done) | (simp at *; omega))
/-- Spans of pulls, in order. -/
structure A4.Ok (r : A4) : Prop where
  x0 : -1048576 ≤ r.xl
  x1 : r.xl ≤ r.xh
  x2 : r.xh ≤ 1048576
  y0 : -1048576 ≤ r.yl
  y1 : r.yl ≤ r.yh
  y2 : r.yh ≤ 1048576
def lightA (a b : Int) (p : A4) : A4 := ⟨-shH a b p.xl p.xh, -shL a b p.xl p.xh, -shH a b p.yl p.yh, -shL a b p.yl p.yh⟩
def heatA (a b : Int) (p : A4) : A4 := ⟨-shH a b p.yl p.yh, -shL a b p.yl p.yh, shL a b p.xl p.xh, shH a b p.xl p.xh⟩
theorem lightA_ok {a b : Int} {p : A4} (h1 : -1000 ≤ a) (h2 : a ≤ b) (h3 : b ≤ 1000) (hp : p.Ok) : (lightA a b p).Ok := by
  have b1 := sh_bounds h1 h2 h3 hp.x0 hp.x1 hp.x2
  have b2 := sh_bounds h1 h2 h3 hp.y0 hp.y1 hp.y2
  exact ⟨by unfold lightA; simp only; omega, by unfold lightA; simp only; omega, by unfold lightA; simp only; omega, by unfold lightA; simp only; omega, by unfold lightA; simp only; omega, by unfold lightA; simp only; omega⟩
theorem heatA_ok {a b : Int} {p : A4} (h1 : -1000 ≤ a) (h2 : a ≤ b) (h3 : b ≤ 1000) (hp : p.Ok) : (heatA a b p).Ok := by
  have b1 := sh_bounds h1 h2 h3 hp.x0 hp.x1 hp.x2
  have b2 := sh_bounds h1 h2 h3 hp.y0 hp.y1 hp.y2
  exact ⟨by unfold heatA; simp only; omega, by unfold heatA; simp only; omega, by unfold heatA; simp only; omega, by unfold heatA; simp only; omega, by unfold heatA; simp only; omega, by unfold heatA; simp only; omega⟩
theorem light_any (a b : Int) (p : A4) (w : World) (h1 : -1000 ≤ a) (h2 : a ≤ b) (h3 : b ≤ 1000) (hp : p.Ok) : Calls Try.prog 48 #[.agg #[.int .i64 a, .int .i64 b], .agg #[.int .i64 p.xl, .int .i64 p.xh, .int .i64 p.yl, .int .i64 p.yh]] w (Gives (lightA a b p).val w) := by
  have b1 := sh_bounds h1 h2 h3 hp.x0 hp.x1 hp.x2
  have b2 := sh_bounds h1 h2 h3 hp.y0 hp.y1 hp.y2
  have c1 := fun W => share_any a b p.xl p.xh W h1 h2 h3 hp.x0 hp.x1 hp.x2
  have c2 := fun W => share_any a b p.yl p.yh W h1 h2 h3 hp.y0 hp.y1 hp.y2
  unfold A4.val lightA
  simp only
  generalize shL a b p.xl p.xh = u1 at *
  generalize shH a b p.xl p.xh = u2 at *
  generalize shL a b p.yl p.yh = v1 at *
  generalize shH a b p.yl p.yh = v2 at *
  have d1 := fun W => opposite_any u1 u2 W (by omega) b1.2.1 (by omega)
  have d2 := fun W => opposite_any v1 v2 W (by omega) b2.2.1 (by omega)
  clear b1 b2 h1 h2 h3 hp
  obtain ⟨xl, xh, yl, yh⟩ := p
  simp only at *
  go_enter Try.func48, Try.ntmps48
  go_upto_region 1 with (first | ((first | with_reducible refine wrx2 ?_ | with_reducible refine wrx ?_); (repeat (first | go_big_quiet_step ((first | fail)) | quiet_step ((first | fail)))); refine wpQuiet_nil ?_; rintro _ ⟨yr, rfl⟩; have syr := Ext.size yr; (repeat (first | rw [World.size_alloc] at syr | rw [World.size_setCell] at syr | rw [World.size_drew] at syr))))
  (first | with_reducible refine wp_region_ext2_heads 11 (by kernel_rfl) (by kernel_rfl) ?_ | with_reducible refine wp_region_ext_heads 11 (by kernel_rfl) (by kernel_rfl) ?_); simp only [List.take_succ_cons, List.take_zero, List.length_cons, List.length_nil, Nat.reduceAdd, Nat.reduceSub]; (repeat (first | go_big_quiet_step ((first | (go_at_call 78; with_reducible exact Calls.ext (c1 _)) | (go_at_call 78; with_reducible exact Calls.ext (c2 _)) | (go_at_call 77; with_reducible exact Calls.ext (d1 _)) | (go_at_call 77; with_reducible exact Calls.ext (d2 _)))) | quiet_step ((first | (go_at_call 78; with_reducible exact Calls.ext (c1 _)) | (go_at_call 78; with_reducible exact Calls.ext (c2 _)) | (go_at_call 77; with_reducible exact Calls.ext (d1 _)) | (go_at_call 77; with_reducible exact Calls.ext (d2 _)))))); refine wpQuiet_nil ?_; rintro _ ⟨yr, rfl⟩; have syr := Ext.size yr; (repeat (first | rw [World.size_alloc] at syr | rw [World.size_setCell] at syr | rw [World.size_drew] at syr)); (refine wpAny_ready (rs := [11]) (by kernel_rfl) (by simp) ?_; refine AllReady.cons rfl (fun K hK => ?_) AllReady.nil; go_simp; refine hK _ _ ?_; clear hK K); refine wpAny_done (by kernel_rfl) ?_ _
  go_wp2_with (first | ((first | with_reducible refine wrx2 ?_ | with_reducible refine wrx ?_); (repeat (first | go_big_quiet_step ((first | fail)) | quiet_step ((first | fail)))); refine wpQuiet_nil ?_; rintro _ ⟨yr, rfl⟩; have syr := Ext.size yr; (repeat (first | rw [World.size_alloc] at syr | rw [World.size_setCell] at syr | rw [World.size_drew] at syr))))
  refine bodyPost_ret (v := .agg #[.int .i64 (-u2), .int .i64 (-u1), .int .i64 (-v2), .int .i64 (-v1)]) (by simp (maxDischargeDepth := 9) [results, Try.results48, go_sem]) rfl ?_
  refine ⟨rfl, ?_⟩
  repeat' (first | (with_reducible exact Below.refl _ _) | (with_reducible assumption) | (with_reducible refine Ext.below _ ?_ ?_) | (with_reducible refine Below.on ?_ (by with_reducible assumption) ?_) | (with_reducible refine Below.alloc ?_ ?_ _) | (with_reducible refine Below.drew ?_) | (with_reducible refine Below.setCell ?_ ?_ _) | (with_reducible exact Nat.le_refl _) | omega | (simp; done) | (simp [go_sem]; done) | (simp at *; omega))
theorem heat_any (a b : Int) (p : A4) (w : World) (h1 : -1000 ≤ a) (h2 : a ≤ b) (h3 : b ≤ 1000) (hp : p.Ok) : Calls Try.prog 49 #[.agg #[.int .i64 a, .int .i64 b], .agg #[.int .i64 p.xl, .int .i64 p.xh, .int .i64 p.yl, .int .i64 p.yh]] w (Gives (heatA a b p).val w) := by
  have b1 := sh_bounds h1 h2 h3 hp.x0 hp.x1 hp.x2
  have b2 := sh_bounds h1 h2 h3 hp.y0 hp.y1 hp.y2
  have c1 := fun W => share_any a b p.xl p.xh W h1 h2 h3 hp.x0 hp.x1 hp.x2
  have c2 := fun W => share_any a b p.yl p.yh W h1 h2 h3 hp.y0 hp.y1 hp.y2
  unfold A4.val heatA
  simp only
  generalize shL a b p.xl p.xh = u1 at *
  generalize shH a b p.xl p.xh = u2 at *
  generalize shL a b p.yl p.yh = v1 at *
  generalize shH a b p.yl p.yh = v2 at *
  have d2 := fun W => opposite_any v1 v2 W (by omega) b2.2.1 (by omega)
  clear b1 b2 h1 h2 h3 hp
  obtain ⟨xl, xh, yl, yh⟩ := p
  simp only at *
  go_enter Try.func49, Try.ntmps49
  go_upto_region 1 with (first | ((first | with_reducible refine wrx2 ?_ | with_reducible refine wrx ?_); (repeat (first | go_big_quiet_step ((first | fail)) | quiet_step ((first | fail)))); refine wpQuiet_nil ?_; rintro _ ⟨yr, rfl⟩; have syr := Ext.size yr; (repeat (first | rw [World.size_alloc] at syr | rw [World.size_setCell] at syr | rw [World.size_drew] at syr))))
  (first | with_reducible refine wp_region_ext2_heads 10 (by kernel_rfl) (by kernel_rfl) ?_ | with_reducible refine wp_region_ext_heads 10 (by kernel_rfl) (by kernel_rfl) ?_); simp only [List.take_succ_cons, List.take_zero, List.length_cons, List.length_nil, Nat.reduceAdd, Nat.reduceSub]; (repeat (first | go_big_quiet_step ((first | (go_at_call 78; with_reducible exact Calls.ext (c1 _)) | (go_at_call 78; with_reducible exact Calls.ext (c2 _)) | (go_at_call 77; with_reducible exact Calls.ext (d2 _)))) | quiet_step ((first | (go_at_call 78; with_reducible exact Calls.ext (c1 _)) | (go_at_call 78; with_reducible exact Calls.ext (c2 _)) | (go_at_call 77; with_reducible exact Calls.ext (d2 _)))))); refine wpQuiet_nil ?_; rintro _ ⟨yr, rfl⟩; have syr := Ext.size yr; (repeat (first | rw [World.size_alloc] at syr | rw [World.size_setCell] at syr | rw [World.size_drew] at syr)); (refine wpAny_ready (rs := [10]) (by kernel_rfl) (by simp) ?_; refine AllReady.cons rfl (fun K hK => ?_) AllReady.nil; go_simp; refine hK _ _ ?_; clear hK K); refine wpAny_done (by kernel_rfl) ?_ _
  go_wp2_with (first | ((first | with_reducible refine wrx2 ?_ | with_reducible refine wrx ?_); (repeat (first | go_big_quiet_step ((first | fail)) | quiet_step ((first | fail)))); refine wpQuiet_nil ?_; rintro _ ⟨yr, rfl⟩; have syr := Ext.size yr; (repeat (first | rw [World.size_alloc] at syr | rw [World.size_setCell] at syr | rw [World.size_drew] at syr))))
  refine bodyPost_ret (v := .agg #[.int .i64 (-v2), .int .i64 (-v1), .int .i64 u1, .int .i64 u2]) (by simp (maxDischargeDepth := 9) [results, Try.results49, go_sem]) rfl ?_
  refine ⟨rfl, ?_⟩
  repeat' (first | (with_reducible exact Below.refl _ _) | (with_reducible assumption) | (with_reducible refine Ext.below _ ?_ ?_) | (with_reducible refine Below.on ?_ (by with_reducible assumption) ?_) | (with_reducible refine Below.alloc ?_ ?_ _) | (with_reducible refine Below.drew ?_) | (with_reducible refine Below.setCell ?_ ?_ _) | (with_reducible exact Nat.le_refl _) | omega | (simp; done) | (simp [go_sem]; done) | (simp at *; omega))
theorem gas_any (g : Int) (w : World) (h0 : 0 ≤ g) (h1 : g ≤ 1000) : Calls Try.prog 45 #[.int .i64 g] w (Gives (.agg #[.int .i64 (-g), .int .i64 g, .int .i64 (-g), .int .i64 g]) w) := by
  have e : wrap64 (-g) = -g := IntWalk.wrap64_in _ (by omega)
  go_enter Try.func45, Try.ntmps45
  go_wp2_with (first | ((first | with_reducible refine wrx2 ?_ | with_reducible refine wrx ?_); (repeat (first | go_big_quiet_step ((first | fail)) | quiet_step ((first | fail)))); refine wpQuiet_nil ?_; rintro _ ⟨yr, rfl⟩; have syr := Ext.size yr; (repeat (first | rw [World.size_alloc] at syr | rw [World.size_setCell] at syr | rw [World.size_drew] at syr))))
  refine bodyPost_ret (v := .agg #[.int .i64 (-g), .int .i64 g, .int .i64 (-g), .int .i64 g]) (by simp (maxDischargeDepth := 9) [results, Try.results45, go_sem]) rfl ?_
  refine ⟨rfl, ?_⟩
  repeat' (first | (with_reducible exact Below.refl _ _) | (with_reducible assumption) | (with_reducible refine Ext.below _ ?_ ?_) | (with_reducible refine Below.on ?_ (by with_reducible assumption) ?_) | (with_reducible refine Below.alloc ?_ ?_ _) | (with_reducible refine Below.drew ?_) | (with_reducible refine Below.setCell ?_ ?_ _) | (with_reducible exact Nat.le_refl _) | omega | (simp; done) | (simp [go_sem]; done) | (simp at *; omega))
end Go.Proofs.Ytlhihmfefipehaa

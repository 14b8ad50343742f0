/- The distances of a body of package force: edge, way, square, squaredDistance. Condition: a valid radius. -/
import Derived.Test.YtlhihmfefipehaaFoM
import Derived.Test.YtlhihmfefipehaaTail
import Derived.Deep.CutRange
namespace Go.Proofs.Ytlhihmfefipehaa
open Go.RowKit Go.Shelf
attribute [local go_sem] Option.isSome_some Ext.cell Ext.frozen Ext.lt Ext.le Ext.lt_add Ext.le_add Ext.ne Ext.ne' lt2 lt3 lt4 lt5 le2 le3 le4
set_option maxRecDepth 100000
set_option maxHeartbeats 4000000
theorem edge_any (mu rad : Int) (tp : Option Addr) (tn tc : Nat) (w : World) (h : 0 ≤ rad ∧ rad ≤ 1048576) : Calls Try.prog 94 #[.agg #[.int .i64 mu, .int .i64 rad, .slice tp tn tc]] w (Gives (.int .i64 (edgeI rad)) w) := by
  have h0 := mul_le4 h.1 h.2 h.1 h.2
  have h1 := Int.mul_nonneg h.1 h.1
  have e1 : wrap64 (rad * rad) = rad * rad := IntWalk.wrap64_in _ (by omega)
  obtain ⟨M, hM⟩ : ∃ M, max 1 (rad * rad) = M := ⟨_, rfl⟩
  unfold edgeI
  rw [hM]
  go_enter Try.func94, Try.ntmps94
  go_wp2_with (first | ((first | with_reducible refine wrx2 ?_ | with_reducible refine wrx ?_); (repeat (first | go_big_quiet_step ((first | fail)) | quiet_step ((first | fail)))); refine wpQuiet_nil ?_; rintro _ ⟨yr, rfl⟩; have syr := Ext.size yr; (repeat (first | rw [World.size_alloc] at syr | rw [World.size_setCell] at syr | rw [World.size_drew] at syr))))
  go_returns
  refine ⟨rfl, ?_⟩
  repeat' (first | (with_reducible exact Below.refl _ _) | (with_reducible assumption) | (with_reducible refine Ext.below _ ?_ ?_) | (with_reducible refine Below.on ?_ (by with_reducible assumption) ?_) | (with_reducible refine Below.alloc ?_ ?_ _) | (with_reducible refine Below.drew ?_) | (with_reducible refine Below.setCell ?_ ?_ _) | (with_reducible exact Nat.le_refl _) | omega | (simp; done) | (simp [go_sem]; done) | (simp at *; omega))
theorem placeAlone_any (x y : Int) (w : World) : Calls Try.prog 50 #[.agg #[.int .i64 x, .int .i64 y]] w (Gives (.agg #[.int .i64 x, .int .i64 x, .int .i64 y, .int .i64 y]) w) := by
  have co := fun n W => only_any n W
  go_enter Try.func50, Try.ntmps50
  go_upto_region 1 with (first | ((first | with_reducible refine wrx2 ?_ | with_reducible refine wrx ?_); (repeat (first | go_big_quiet_step ((first | fail)) | quiet_step ((first | fail)))); refine wpQuiet_nil ?_; rintro _ ⟨yr, rfl⟩; have syr := Ext.size yr; (repeat (first | rw [World.size_alloc] at syr | rw [World.size_setCell] at syr | rw [World.size_drew] at syr))))
  (first | with_reducible refine wp_region_ext2_heads 7 (by kernel_rfl) (by kernel_rfl) ?_ | with_reducible refine wp_region_ext_heads 7 (by kernel_rfl) (by kernel_rfl) ?_); simp only [List.take_succ_cons, List.take_zero, List.length_cons, List.length_nil, Nat.reduceAdd, Nat.reduceSub]; (repeat (first | go_big_quiet_step ((first | (go_at_call 51; with_reducible exact Calls.ext (co _ _)))) | quiet_step ((first | (go_at_call 51; with_reducible exact Calls.ext (co _ _)))))); refine wpQuiet_nil ?_; rintro _ ⟨yr, rfl⟩; have syr := Ext.size yr; (repeat (first | rw [World.size_alloc] at syr | rw [World.size_setCell] at syr | rw [World.size_drew] at syr)); (refine wpAny_ready (rs := [7]) (by kernel_rfl) (by simp) ?_; refine AllReady.cons rfl (fun K hK => ?_) AllReady.nil; go_simp; refine hK _ _ ?_; clear hK K); refine wpAny_done (by kernel_rfl) ?_ _
  go_wp2_with (first | ((first | with_reducible refine wrx2 ?_ | with_reducible refine wrx ?_); (repeat (first | go_big_quiet_step ((first | fail)) | quiet_step ((first | fail)))); refine wpQuiet_nil ?_; rintro _ ⟨yr, rfl⟩; have syr := Ext.size yr; (repeat (first | rw [World.size_alloc] at syr | rw [World.size_setCell] at syr | rw [World.size_drew] at syr))))
  refine bodyPost_ret (v := .agg #[.int .i64 x, .int .i64 x, .int .i64 y, .int .i64 y]) (by simp (maxDischargeDepth := 9) [results, Try.results50, go_sem]) rfl ?_
  refine ⟨rfl, ?_⟩
  repeat' (first | (with_reducible exact Below.refl _ _) | (with_reducible assumption) | (with_reducible refine Ext.below _ ?_ ?_) | (with_reducible refine Below.on ?_ (by with_reducible assumption) ?_) | (with_reducible refine Below.alloc ?_ ?_ _) | (with_reducible refine Below.drew ?_) | (with_reducible refine Below.setCell ?_ ?_ _) | (with_reducible exact Nat.le_refl _) | omega | (simp; done) | (simp [go_sem]; done) | (simp at *; omega))
theorem way_any (mu rad : Int) (tp : Option Addr) (tn tc : Nat) (px py a b c d : Int) (w : World) : Calls Try.prog 72 #[.agg #[.int .i64 mu, .int .i64 rad, .slice tp tn tc, .int .i64 px, .int .i64 py], .agg #[.int .i64 a, .int .i64 b, .int .i64 c, .int .i64 d]] w
    (Gives (.agg #[.int .i64 (subL px px a b), .int .i64 (subH px px a b), .int .i64 (subL py py c d), .int .i64 (subH py py c d)]) w) := by
  have co := fun n W => only_any n W
  have cs1 := fun W => Sub_any px px a b W
  have cs2 := fun W => Sub_any py py c d W
  have ck := fun x y e W => known_any x y e W
  go_enter Try.func72, Try.ntmps72
  go_upto_region 1 with (first | ((first | with_reducible refine wrx2 ?_ | with_reducible refine wrx ?_); (repeat (first | go_big_quiet_step ((first | fail)) | quiet_step ((first | fail)))); refine wpQuiet_nil ?_; rintro _ ⟨yr, rfl⟩; have syr := Ext.size yr; (repeat (first | rw [World.size_alloc] at syr | rw [World.size_setCell] at syr | rw [World.size_drew] at syr))))
  (first | with_reducible refine wp_region_ext2_heads 21 (by kernel_rfl) (by kernel_rfl) ?_ | with_reducible refine wp_region_ext_heads 21 (by kernel_rfl) (by kernel_rfl) ?_); simp only [List.take_succ_cons, List.take_zero, List.length_cons, List.length_nil, Nat.reduceAdd, Nat.reduceSub]; (repeat (first | go_big_quiet_step ((first | (go_at_call 51; with_reducible exact Calls.ext (co _ _)) | (go_at_call 54; with_reducible exact Calls.ext (cs1 _)) | (go_at_call 54; with_reducible exact Calls.ext (cs2 _)) | (go_at_call 53; with_reducible exact Calls.ext (ck _ _ _ _)))) | quiet_step ((first | (go_at_call 51; with_reducible exact Calls.ext (co _ _)) | (go_at_call 54; with_reducible exact Calls.ext (cs1 _)) | (go_at_call 54; with_reducible exact Calls.ext (cs2 _)) | (go_at_call 53; with_reducible exact Calls.ext (ck _ _ _ _)))))); refine wpQuiet_nil ?_; rintro _ ⟨yr, rfl⟩; have syr := Ext.size yr; (repeat (first | rw [World.size_alloc] at syr | rw [World.size_setCell] at syr | rw [World.size_drew] at syr)); (refine wpAny_ready (rs := [21]) (by kernel_rfl) (by simp) ?_; refine AllReady.cons rfl (fun K hK => ?_) AllReady.nil; go_simp; refine hK _ _ ?_; clear hK K); refine wpAny_done (by kernel_rfl) ?_ _
  go_wp2_with (first | ((first | with_reducible refine wrx2 ?_ | with_reducible refine wrx ?_); (repeat (first | go_big_quiet_step ((first | fail)) | quiet_step ((first | fail)))); refine wpQuiet_nil ?_; rintro _ ⟨yr, rfl⟩; have syr := Ext.size yr; (repeat (first | rw [World.size_alloc] at syr | rw [World.size_setCell] at syr | rw [World.size_drew] at syr))))
  refine bodyPost_ret (v := .agg #[.int .i64 (subL px px a b), .int .i64 (subH px px a b), .int .i64 (subL py py c d), .int .i64 (subH py py c d)]) (by simp (maxDischargeDepth := 9) [results, Try.results72, go_sem]) rfl ?_
  refine ⟨rfl, ?_⟩
  repeat' (first | (with_reducible exact Below.refl _ _) | (with_reducible assumption) | (with_reducible refine Ext.below _ ?_ ?_) | (with_reducible refine Below.on ?_ (by with_reducible assumption) ?_) | (with_reducible refine Below.alloc ?_ ?_ _) | (with_reducible refine Below.drew ?_) | (with_reducible refine Below.setCell ?_ ?_ _) | (with_reducible exact Nat.le_refl _) | omega | (simp; done) | (simp [go_sem]; done) | (simp at *; omega))
theorem square_any (a b c d : Int) (w : World) : Calls Try.prog 56 #[.agg #[.int .i64 a, .int .i64 b, .int .i64 c, .int .i64 d]] w
    (Gives (.agg #[.int .i64 (addL (sqL a b) (sqH a b) (sqL c d) (sqH c d)), .int .i64 (addH (sqL a b) (sqH a b) (sqL c d) (sqH c d))]) w) := by
  have cs1 := fun W => Square_any a b W
  have cs2 := fun W => Square_any c d W
  have ca := fun W => Add_any (sqL a b) (sqH a b) (sqL c d) (sqH c d) W
  have ck := fun x y e W => known_any x y e W
  generalize sqL a b = p1 at *
  generalize sqH a b = p2 at *
  generalize sqL c d = p3 at *
  generalize sqH c d = p4 at *
  go_enter Try.func56, Try.ntmps56
  go_upto_region 1 with (first | ((first | with_reducible refine wrx2 ?_ | with_reducible refine wrx ?_); (repeat (first | go_big_quiet_step ((first | fail)) | quiet_step ((first | fail)))); refine wpQuiet_nil ?_; rintro _ ⟨yr, rfl⟩; have syr := Ext.size yr; (repeat (first | rw [World.size_alloc] at syr | rw [World.size_setCell] at syr | rw [World.size_drew] at syr))))
  (first | with_reducible refine wp_region_ext2_heads 16 (by kernel_rfl) (by kernel_rfl) ?_ | with_reducible refine wp_region_ext_heads 16 (by kernel_rfl) (by kernel_rfl) ?_); simp only [List.take_succ_cons, List.take_zero, List.length_cons, List.length_nil, Nat.reduceAdd, Nat.reduceSub]; (repeat (first | go_big_quiet_step ((first | (go_at_call 65; with_reducible exact Calls.ext (cs1 _)) | (go_at_call 65; with_reducible exact Calls.ext (cs2 _)) | (go_at_call 55; with_reducible exact Calls.ext (ca _)) | (go_at_call 53; with_reducible exact Calls.ext (ck _ _ _ _)))) | quiet_step ((first | (go_at_call 65; with_reducible exact Calls.ext (cs1 _)) | (go_at_call 65; with_reducible exact Calls.ext (cs2 _)) | (go_at_call 55; with_reducible exact Calls.ext (ca _)) | (go_at_call 53; with_reducible exact Calls.ext (ck _ _ _ _)))))); refine wpQuiet_nil ?_; rintro _ ⟨yr, rfl⟩; have syr := Ext.size yr; (repeat (first | rw [World.size_alloc] at syr | rw [World.size_setCell] at syr | rw [World.size_drew] at syr)); (refine wpAny_ready (rs := [16]) (by kernel_rfl) (by simp) ?_; refine AllReady.cons rfl (fun K hK => ?_) AllReady.nil; go_simp; refine hK _ _ ?_; clear hK K); refine wpAny_done (by kernel_rfl) ?_ _
  go_wp2_with (first | ((first | with_reducible refine wrx2 ?_ | with_reducible refine wrx ?_); (repeat (first | go_big_quiet_step ((first | fail)) | quiet_step ((first | fail)))); refine wpQuiet_nil ?_; rintro _ ⟨yr, rfl⟩; have syr := Ext.size yr; (repeat (first | rw [World.size_alloc] at syr | rw [World.size_setCell] at syr | rw [World.size_drew] at syr))))
  refine bodyPost_ret (v := .agg #[.int .i64 (addL p1 p2 p3 p4), .int .i64 (addH p1 p2 p3 p4)]) (by simp (maxDischargeDepth := 9) [results, Try.results56, go_sem]) rfl ?_
  refine ⟨rfl, ?_⟩
  repeat' (first | (with_reducible exact Below.refl _ _) | (with_reducible assumption) | (with_reducible refine Ext.below _ ?_ ?_) | (with_reducible refine Below.on ?_ (by with_reducible assumption) ?_) | (with_reducible refine Below.alloc ?_ ?_ _) | (with_reducible refine Below.drew ?_) | (with_reducible refine Below.setCell ?_ ?_ _) | (with_reducible exact Nat.le_refl _) | omega | (simp; done) | (simp [go_sem]; done) | (simp at *; omega))
theorem squaredDistance_any (mu rad : Int) (tp : Option Addr) (tn tc : Nat) (px py a b c d q1 q2 : Int) (w : World) (h : 0 ≤ rad ∧ rad ≤ 1048576) (hq1 : addL (sqL a b) (sqH a b) (sqL c d) (sqH c d) = q1) (hq2 : addH (sqL a b) (sqH a b) (sqL c d) (sqH c d) = q2) :
    Calls Try.prog 73 #[.agg #[.int .i64 mu, .int .i64 rad, .slice tp tn tc, .int .i64 px, .int .i64 py], .agg #[.int .i64 a, .int .i64 b, .int .i64 c, .int .i64 d]] w
    (Gives (.agg #[.int .i64 (max q1 (edgeI rad)), .int .i64 (max q2 (edgeI rad))]) w) := by
  have cs := fun W => square_any a b c d W
  rw [hq1, hq2] at cs
  have ce := fun W => edge_any mu rad tp tn tc W h
  generalize edgeI rad = E at *
  clear hq1 hq2 h
  obtain ⟨M1, hM1⟩ : ∃ M, max q1 E = M := ⟨_, rfl⟩
  obtain ⟨M2, hM2⟩ : ∃ M, max q2 E = M := ⟨_, rfl⟩
  rw [hM1, hM2]
  go_enter Try.func73, Try.ntmps73
  go_upto_region 2 with (first | ((first | with_reducible refine wrx2 ?_ | with_reducible refine wrx ?_); (repeat (first | go_big_quiet_step ((first | (go_at_call 56; with_reducible exact Calls.ext (cs _)))) | quiet_step ((first | (go_at_call 56; with_reducible exact Calls.ext (cs _)))))); refine wpQuiet_nil ?_; rintro _ ⟨yr, rfl⟩; have syr := Ext.size yr; (repeat (first | rw [World.size_alloc] at syr | rw [World.size_setCell] at syr | rw [World.size_drew] at syr))) | (go_at_call 56; (first | with_reducible refine (Calls.giv2 (cs _)).mono ?_ | with_reducible refine (Calls.giv (cs _)).mono ?_); rintro _ _ ⟨y1, rfl, rfl⟩; have sy1 := Ext.size y1; (repeat (first | rw [World.size_alloc] at sy1 | rw [World.size_setCell] at sy1 | rw [World.size_drew] at sy1))))
  (first | with_reducible refine wp_region_ext2_heads 13 (by kernel_rfl) (by kernel_rfl) ?_ | with_reducible refine wp_region_ext_heads 13 (by kernel_rfl) (by kernel_rfl) ?_); simp only [List.take_succ_cons, List.take_zero, List.length_cons, List.length_nil, Nat.reduceAdd, Nat.reduceSub]; (repeat (first | go_big_quiet_step ((first | (go_at_call 94; with_reducible exact Calls.ext (ce _)))) | quiet_step ((first | (go_at_call 94; with_reducible exact Calls.ext (ce _)))))); refine wpQuiet_nil ?_; rintro _ ⟨yr, rfl⟩; have syr := Ext.size yr; (repeat (first | rw [World.size_alloc] at syr | rw [World.size_setCell] at syr | rw [World.size_drew] at syr)); (refine wpAny_ready (rs := [13]) (by kernel_rfl) (by simp) ?_; refine AllReady.cons rfl (fun K hK => ?_) AllReady.nil; go_simp; refine hK _ _ ?_; clear hK K); refine wpAny_done (by kernel_rfl) ?_ _
  go_wp2_with (first | ((first | with_reducible refine wrx2 ?_ | with_reducible refine wrx ?_); (repeat (first | go_big_quiet_step ((first | fail)) | quiet_step ((first | fail)))); refine wpQuiet_nil ?_; rintro _ ⟨yr, rfl⟩; have syr := Ext.size yr; (repeat (first | rw [World.size_alloc] at syr | rw [World.size_setCell] at syr | rw [World.size_drew] at syr))))
  refine bodyPost_ret (v := .agg #[.int .i64 M1, .int .i64 M2]) (by simp (maxDischargeDepth := 9) [results, Try.results73, go_sem, *]) rfl ?_
  refine ⟨rfl, ?_⟩
  repeat' (first | (with_reducible exact Below.refl _ _) | (with_reducible assumption) | (with_reducible refine Ext.below _ ?_ ?_) | (with_reducible refine Below.on ?_ (by with_reducible assumption) ?_) | (with_reducible refine Below.alloc ?_ ?_ _) | (with_reducible refine Below.drew ?_) | (with_reducible refine Below.setCell ?_ ?_ _) | (with_reducible exact Nat.le_refl _) | omega | (simp; done) | (simp [go_sem]; done) | (simp at *; omega))
end Go.Proofs.Ytlhihmfefipehaa

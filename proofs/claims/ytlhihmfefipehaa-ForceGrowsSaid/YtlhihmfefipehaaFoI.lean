/- Light and Heat of package force for any arguments. Written by gen_fo.py. Condition: the cells that are read, a slice within its capacity. -/
import Derived.Test.YtlhihmfefipehaaFoH
namespace Go.Proofs.Ytlhihmfefipehaa
open Go.RowKit Go.Shelf
attribute [local go_sem] Option.isSome_some Ext.cell Ext.frozen Ext.lt Ext.le Ext.lt_add Ext.le_add Ext.ne Ext.ne' lt2 lt3 lt4 lt5 le2 le3 le4
set_option maxRecDepth 100000
set_option maxHeartbeats 4000000
theorem part_ok {lo hi least : Int} (h : partE lo hi least = 0) : least ≤ lo ∧ lo ≤ hi ∧ hi ≤ 1000 := by
  unfold partE at h
  split at h
  · cases h
  · split at h
    · cases h
    · omega
theorem drift_ok {f : DriftR} (h : driftE f = 0) : (0 ≤ f.ll ∧ f.ll ≤ f.lh ∧ f.lh ≤ 1000) ∧ (-1000 ≤ f.hl ∧ f.hl ≤ f.hh ∧ f.hh ≤ 1000) ∧ 0 ≤ f.gas ∧ f.gas ≤ 1000 := by
  unfold driftE at h
  split at h
  · rename_i h1
    split at h
    · rename_i h2
      split at h
      · cases h
      · exact ⟨part_ok h1, part_ok h2, by omega⟩
    · rename_i h2; exact absurd h h2
  · rename_i h1; exact absurd h h1
theorem nc0 : ((0 : Nat) : Int) = 0 := rfl
theorem ask_len {l : List BodyR} {h t a b c d : Int} (k : AskOk l h t a b c d) : 0 < l.length := by
  have := (worldE_zero k.world).2.1; omega
def lightR (l : List BodyR) (h : Int) (f : DriftR) (t a b c d : Int) : A4 := if askE l h (driftE f) t a b c d = 0 then lightA f.ll f.lh (bodyPull (nthB l 0) t a b c d) else ⟨0, 0, 0, 0⟩
theorem Light_any (p : Option Addr) (cp : Nat) (l : List BodyR) (h : Int) (f : DriftR) (t a b c d : Int) (w : World) (hP : BodiesAt w p l) (hc : l.length ≤ cp) :
    Calls Try.prog 17 #[.agg #[.slice p l.length cp, .int .i64 h], .agg #[.int .i64 f.ll, .int .i64 f.lh, .int .i64 f.hl, .int .i64 f.hh, .int .i64 f.gas], .int .i64 t, .agg #[.int .i64 a, .int .i64 b, .int .i64 c, .int .i64 d]] w
      (Gives (.tuple #[(lightR l h f t a b c d).val, .int .i64 (askE l h (driftE f) t a b c d)]) w) := by
  have cc := fun (W : World) (y : Below w.heap.size w W) => check_any p cp l h f t a b c d W (hP.on y)
  by_cases hE : askE l h (driftE f) t a b c d = 0
  · obtain ⟨ok, hd⟩ := ask_ok hE
    obtain ⟨h1, h2, h3⟩ := drift_ok hd
    have e2 : lightR l h f t a b c d = lightA f.ll f.lh (bodyPull (nthB l 0) t a b c d) := by unfold lightR; rw [if_pos hE]
    rw [e2, hE]
    rw [hE] at cc
    have hn := ask_len ok
    have c1 := fun (W : World) (y : Below w.heap.size w W) => pullerOf_any p cp l h 0 t W (hP.on y) hc ok.world hn ok.tick
    have hp := ok.pull 0 hn
    have hpo := pullA_ok hp
    rw [nthB_get hn] at hp hpo ⊢
    have c2 := fun (W : World) => pull_any l[0].mu l[0].rad l[0].tp l[0].track.length l[0].tc (trackAt l[0].track t).x (trackAt l[0].track t).y a b c d W hp
    change ∀ W, Calls _ _ _ _ (Gives (bodyPull l[0] t a b c d).val W) at c2
    change (bodyPull l[0] t a b c d).Ok at hpo
    have c3 := fun (W : World) => light_any f.ll f.lh (bodyPull l[0] t a b c d) W (by omega) (by omega) (by omega) hpo
    unfold A4.val at *
    generalize lightA f.ll f.lh (bodyPull l[0] t a b c d) = q at *
    generalize bodyPull l[0] t a b c d = r at *
    obtain ⟨r1, r2, r3, r4⟩ := r
    obtain ⟨q1, q2, q3, q4⟩ := q
    obtain ⟨ll, lh, hl, hh, g⟩ := f
    simp only at *
    clear hp hpo ok e2 hE hP hc hd h1 h2 h3
    simp only [nc0] at c1
    generalize (trackAt l[0].track t).x = ax at *
    generalize (trackAt l[0].track t).y = ay at *
    generalize l[0].mu = mu at *
    generalize l[0].rad = rad at *
    generalize l[0].tp = tp at *
    generalize l[0].track.length = tn at *
    generalize l[0].tc = tc at *
    clear hn
    generalize l.length = m at *
    go_enter Try.func17, Try.ntmps17
    go_upto_region 4 with (first | ((first | with_reducible refine wrx2 ?_ | with_reducible refine wrx ?_); (repeat (first | go_big_quiet_step ((first | (go_at_call 42; with_reducible exact Calls.ext (cc _ bcl)))) | quiet_step ((first | (go_at_call 42; with_reducible exact Calls.ext (cc _ bcl)))))); refine wpQuiet_nil ?_; rintro _ ⟨yr, rfl⟩; have syr := Ext.size yr; (repeat (first | rw [World.size_alloc] at syr | rw [World.size_setCell] at syr | rw [World.size_drew] at syr))) | (go_at_call 42; (first | with_reducible refine (Calls.giv2 (cc _ bcl)).mono ?_ | with_reducible refine (Calls.giv (cc _ bcl)).mono ?_); rintro _ _ ⟨y1, rfl, rfl⟩; have sy1 := Ext.size y1; (repeat (first | rw [World.size_alloc] at sy1 | rw [World.size_setCell] at sy1 | rw [World.size_drew] at sy1))))
    (first | with_reducible refine wp_region_ext2_heads 8 (by kernel_rfl) (by kernel_rfl) ?_ | with_reducible refine wp_region_ext_heads 8 (by kernel_rfl) (by kernel_rfl) ?_); simp only [List.take_succ_cons, List.take_zero, List.length_cons, List.length_nil, Nat.reduceAdd, Nat.reduceSub]; (repeat (first | go_big_quiet_step ((first | (go_at_call 43; with_reducible exact Calls.ext (c1 _ bcl)) | (go_at_call 44; with_reducible exact Calls.ext (c2 _)) | (go_at_call 48; with_reducible exact Calls.ext (c3 _)))) | quiet_step ((first | (go_at_call 43; with_reducible exact Calls.ext (c1 _ bcl)) | (go_at_call 44; with_reducible exact Calls.ext (c2 _)) | (go_at_call 48; with_reducible exact Calls.ext (c3 _)))))); refine wpQuiet_nil ?_; rintro _ ⟨yr, rfl⟩; have syr := Ext.size yr; (repeat (first | rw [World.size_alloc] at syr | rw [World.size_setCell] at syr | rw [World.size_drew] at syr)); (refine wpAny_ready (rs := [8]) (by kernel_rfl) (by simp) ?_; refine AllReady.cons rfl (fun K hK => ?_) AllReady.nil; go_simp; refine hK _ _ ?_; clear hK K); (refine wpAny_ready (rs := [9]) (by kernel_rfl) (by simp) ?_; refine AllReady.cons rfl (fun K hK => ?_) AllReady.nil; go_simp; refine hK _ _ ?_; clear hK K); refine wpAny_done (by kernel_rfl) ?_ _
    go_wp2_with (first | ((first | with_reducible refine wrx2 ?_ | with_reducible refine wrx ?_); (repeat (first | go_big_quiet_step ((first | fail)) | quiet_step ((first | fail)))); refine wpQuiet_nil ?_; rintro _ ⟨yr, rfl⟩; have syr := Ext.size yr; (repeat (first | rw [World.size_alloc] at syr | rw [World.size_setCell] at syr | rw [World.size_drew] at syr))))
    refine bodyPost_ret (v := .tuple #[.agg #[.int .i64 q1, .int .i64 q2, .int .i64 q3, .int .i64 q4], .int .i64 0]) (by simp (maxDischargeDepth := 9) [results, Try.results17, go_sem, *]) rfl ?_
    refine ⟨rfl, ?_⟩
    repeat' (first | (with_reducible exact Below.refl _ _) | (with_reducible assumption) | (with_reducible refine Ext.below _ ?_ ?_) | (with_reducible refine Below.on ?_ (by with_reducible assumption) ?_) | (with_reducible refine Below.alloc ?_ ?_ _) | (with_reducible refine Below.drew ?_) | (with_reducible refine Below.setCell ?_ ?_ _) | (with_reducible exact Nat.le_refl _) | omega | (simp; done) | (simp [go_sem]; done) | (simp at *; omega))
  · have e2 : lightR l h f t a b c d = ⟨0, 0, 0, 0⟩ := by unfold lightR; rw [if_neg hE]
    rw [e2]
    unfold A4.val
    obtain ⟨ll, lh, hl, hh, g⟩ := f
    simp only at *
    have hne : (askE l h (driftE ⟨ll, lh, hl, hh, g⟩) t a b c d != 0) = true := by simpa using hE
    clear e2 hE hP hc
    generalize askE l h (driftE ⟨ll, lh, hl, hh, g⟩) t a b c d = e at *
    generalize l.length = m at *
    go_enter Try.func17, Try.ntmps17
    go_wp2_with (first | ((first | with_reducible refine wrx2 ?_ | with_reducible refine wrx ?_); (repeat (first | go_big_quiet_step ((first | (go_at_call 42; with_reducible exact Calls.ext (cc _ bcl)))) | quiet_step ((first | (go_at_call 42; with_reducible exact Calls.ext (cc _ bcl)))))); refine wpQuiet_nil ?_; rintro _ ⟨yr, rfl⟩; have syr := Ext.size yr; (repeat (first | rw [World.size_alloc] at syr | rw [World.size_setCell] at syr | rw [World.size_drew] at syr))) | (go_at_call 42; (first | with_reducible refine (Calls.giv2 (cc _ bcl)).mono ?_ | with_reducible refine (Calls.giv (cc _ bcl)).mono ?_); rintro _ _ ⟨y1, rfl, rfl⟩; have sy1 := Ext.size y1; (repeat (first | rw [World.size_alloc] at sy1 | rw [World.size_setCell] at sy1 | rw [World.size_drew] at sy1))))
    refine bodyPost_ret (v := .tuple #[.agg #[.int .i64 0, .int .i64 0, .int .i64 0, .int .i64 0], .int .i64 e]) (by simp (maxDischargeDepth := 9) [results, Try.results17, go_sem, *]) rfl ?_
    refine ⟨rfl, ?_⟩
    repeat' (first | (with_reducible exact Below.refl _ _) | (with_reducible assumption) | (with_reducible refine Ext.below _ ?_ ?_) | (with_reducible refine Below.on ?_ (by with_reducible assumption) ?_) | (with_reducible refine Below.alloc ?_ ?_ _) | (with_reducible refine Below.drew ?_) | (with_reducible refine Below.setCell ?_ ?_ _) | (with_reducible exact Nat.le_refl _) | omega | (simp; done) | (simp [go_sem]; done) | (simp at *; omega))
def heatR (l : List BodyR) (h : Int) (f : DriftR) (t a b c d : Int) : A4 := if askE l h (driftE f) t a b c d = 0 then heatA f.hl f.hh (bodyPull (nthB l 0) t a b c d) else ⟨0, 0, 0, 0⟩
theorem Heat_any (p : Option Addr) (cp : Nat) (l : List BodyR) (h : Int) (f : DriftR) (t a b c d : Int) (w : World) (hP : BodiesAt w p l) (hc : l.length ≤ cp) :
    Calls Try.prog 18 #[.agg #[.slice p l.length cp, .int .i64 h], .agg #[.int .i64 f.ll, .int .i64 f.lh, .int .i64 f.hl, .int .i64 f.hh, .int .i64 f.gas], .int .i64 t, .agg #[.int .i64 a, .int .i64 b, .int .i64 c, .int .i64 d]] w
      (Gives (.tuple #[(heatR l h f t a b c d).val, .int .i64 (askE l h (driftE f) t a b c d)]) w) := by
  have cc := fun (W : World) (y : Below w.heap.size w W) => check_any p cp l h f t a b c d W (hP.on y)
  by_cases hE : askE l h (driftE f) t a b c d = 0
  · obtain ⟨ok, hd⟩ := ask_ok hE
    obtain ⟨h1, h2, h3⟩ := drift_ok hd
    have e2 : heatR l h f t a b c d = heatA f.hl f.hh (bodyPull (nthB l 0) t a b c d) := by unfold heatR; rw [if_pos hE]
    rw [e2, hE]
    rw [hE] at cc
    have hn := ask_len ok
    have c1 := fun (W : World) (y : Below w.heap.size w W) => pullerOf_any p cp l h 0 t W (hP.on y) hc ok.world hn ok.tick
    have hp := ok.pull 0 hn
    have hpo := pullA_ok hp
    rw [nthB_get hn] at hp hpo ⊢
    have c2 := fun (W : World) => pull_any l[0].mu l[0].rad l[0].tp l[0].track.length l[0].tc (trackAt l[0].track t).x (trackAt l[0].track t).y a b c d W hp
    change ∀ W, Calls _ _ _ _ (Gives (bodyPull l[0] t a b c d).val W) at c2
    change (bodyPull l[0] t a b c d).Ok at hpo
    have c3 := fun (W : World) => heat_any f.hl f.hh (bodyPull l[0] t a b c d) W (by omega) (by omega) (by omega) hpo
    unfold A4.val at *
    generalize heatA f.hl f.hh (bodyPull l[0] t a b c d) = q at *
    generalize bodyPull l[0] t a b c d = r at *
    obtain ⟨r1, r2, r3, r4⟩ := r
    obtain ⟨q1, q2, q3, q4⟩ := q
    obtain ⟨ll, lh, hl, hh, g⟩ := f
    simp only at *
    clear hp hpo ok e2 hE hP hc hd h1 h2 h3
    simp only [nc0] at c1
    generalize (trackAt l[0].track t).x = ax at *
    generalize (trackAt l[0].track t).y = ay at *
    generalize l[0].mu = mu at *
    generalize l[0].rad = rad at *
    generalize l[0].tp = tp at *
    generalize l[0].track.length = tn at *
    generalize l[0].tc = tc at *
    clear hn
    generalize l.length = m at *
    go_enter Try.func18, Try.ntmps18
    go_upto_region 4 with (first | ((first | with_reducible refine wrx2 ?_ | with_reducible refine wrx ?_); (repeat (first | go_big_quiet_step ((first | (go_at_call 42; with_reducible exact Calls.ext (cc _ bcl)))) | quiet_step ((first | (go_at_call 42; with_reducible exact Calls.ext (cc _ bcl)))))); refine wpQuiet_nil ?_; rintro _ ⟨yr, rfl⟩; have syr := Ext.size yr; (repeat (first | rw [World.size_alloc] at syr | rw [World.size_setCell] at syr | rw [World.size_drew] at syr))) | (go_at_call 42; (first | with_reducible refine (Calls.giv2 (cc _ bcl)).mono ?_ | with_reducible refine (Calls.giv (cc _ bcl)).mono ?_); rintro _ _ ⟨y1, rfl, rfl⟩; have sy1 := Ext.size y1; (repeat (first | rw [World.size_alloc] at sy1 | rw [World.size_setCell] at sy1 | rw [World.size_drew] at sy1))))
    (first | with_reducible refine wp_region_ext2_heads 8 (by kernel_rfl) (by kernel_rfl) ?_ | with_reducible refine wp_region_ext_heads 8 (by kernel_rfl) (by kernel_rfl) ?_); simp only [List.take_succ_cons, List.take_zero, List.length_cons, List.length_nil, Nat.reduceAdd, Nat.reduceSub]; (repeat (first | go_big_quiet_step ((first | (go_at_call 43; with_reducible exact Calls.ext (c1 _ bcl)) | (go_at_call 44; with_reducible exact Calls.ext (c2 _)) | (go_at_call 49; with_reducible exact Calls.ext (c3 _)))) | quiet_step ((first | (go_at_call 43; with_reducible exact Calls.ext (c1 _ bcl)) | (go_at_call 44; with_reducible exact Calls.ext (c2 _)) | (go_at_call 49; with_reducible exact Calls.ext (c3 _)))))); refine wpQuiet_nil ?_; rintro _ ⟨yr, rfl⟩; have syr := Ext.size yr; (repeat (first | rw [World.size_alloc] at syr | rw [World.size_setCell] at syr | rw [World.size_drew] at syr)); (refine wpAny_ready (rs := [8]) (by kernel_rfl) (by simp) ?_; refine AllReady.cons rfl (fun K hK => ?_) AllReady.nil; go_simp; refine hK _ _ ?_; clear hK K); (refine wpAny_ready (rs := [9]) (by kernel_rfl) (by simp) ?_; refine AllReady.cons rfl (fun K hK => ?_) AllReady.nil; go_simp; refine hK _ _ ?_; clear hK K); refine wpAny_done (by kernel_rfl) ?_ _
    go_wp2_with (first | ((first | with_reducible refine wrx2 ?_ | with_reducible refine wrx ?_); (repeat (first | go_big_quiet_step ((first | fail)) | quiet_step ((first | fail)))); refine wpQuiet_nil ?_; rintro _ ⟨yr, rfl⟩; have syr := Ext.size yr; (repeat (first | rw [World.size_alloc] at syr | rw [World.size_setCell] at syr | rw [World.size_drew] at syr))))
    refine bodyPost_ret (v := .tuple #[.agg #[.int .i64 q1, .int .i64 q2, .int .i64 q3, .int .i64 q4], .int .i64 0]) (by simp (maxDischargeDepth := 9) [results, Try.results18, go_sem, *]) rfl ?_
    refine ⟨rfl, ?_⟩
    repeat' (first | (with_reducible exact Below.refl _ _) | (with_reducible assumption) | (with_reducible refine Ext.below _ ?_ ?_) | (with_reducible refine Below.on ?_ (by with_reducible assumption) ?_) | (with_reducible refine Below.alloc ?_ ?_ _) | (with_reducible refine Below.drew ?_) | (with_reducible refine Below.setCell ?_ ?_ _) | (with_reducible exact Nat.le_refl _) | omega | (simp; done) | (simp [go_sem]; done) | (simp at *; omega))
  · have e2 : heatR l h f t a b c d = ⟨0, 0, 0, 0⟩ := by unfold heatR; rw [if_neg hE]
    rw [e2]
    unfold A4.val
    obtain ⟨ll, lh, hl, hh, g⟩ := f
    simp only at *
    have hne : (askE l h (driftE ⟨ll, lh, hl, hh, g⟩) t a b c d != 0) = true := by simpa using hE
    clear e2 hE hP hc
    generalize askE l h (driftE ⟨ll, lh, hl, hh, g⟩) t a b c d = e at *
    generalize l.length = m at *
    go_enter Try.func18, Try.ntmps18
    go_wp2_with (first | ((first | with_reducible refine wrx2 ?_ | with_reducible refine wrx ?_); (repeat (first | go_big_quiet_step ((first | (go_at_call 42; with_reducible exact Calls.ext (cc _ bcl)))) | quiet_step ((first | (go_at_call 42; with_reducible exact Calls.ext (cc _ bcl)))))); refine wpQuiet_nil ?_; rintro _ ⟨yr, rfl⟩; have syr := Ext.size yr; (repeat (first | rw [World.size_alloc] at syr | rw [World.size_setCell] at syr | rw [World.size_drew] at syr))) | (go_at_call 42; (first | with_reducible refine (Calls.giv2 (cc _ bcl)).mono ?_ | with_reducible refine (Calls.giv (cc _ bcl)).mono ?_); rintro _ _ ⟨y1, rfl, rfl⟩; have sy1 := Ext.size y1; (repeat (first | rw [World.size_alloc] at sy1 | rw [World.size_setCell] at sy1 | rw [World.size_drew] at sy1))))
    refine bodyPost_ret (v := .tuple #[.agg #[.int .i64 0, .int .i64 0, .int .i64 0, .int .i64 0], .int .i64 e]) (by simp (maxDischargeDepth := 9) [results, Try.results18, go_sem, *]) rfl ?_
    refine ⟨rfl, ?_⟩
    repeat' (first | (with_reducible exact Below.refl _ _) | (with_reducible assumption) | (with_reducible refine Ext.below _ ?_ ?_) | (with_reducible refine Below.on ?_ (by with_reducible assumption) ?_) | (with_reducible refine Below.alloc ?_ ?_ _) | (with_reducible refine Below.drew ?_) | (with_reducible refine Below.setCell ?_ ?_ _) | (with_reducible exact Nat.le_refl _) | omega | (simp; done) | (simp [go_sem]; done) | (simp at *; omega))
end Go.Proofs.Ytlhihmfefipehaa

/- One, Light and Heat of package force for any arguments. Condition: the cells that are read, a slice within its capacity. -/
import Derived.Test.YtlhihmfefipehaaFoG
namespace Go.Proofs.Ytlhihmfefipehaa
open Go.RowKit Go.Shelf
attribute [local go_sem] Option.isSome_some Ext.cell Ext.frozen Ext.lt Ext.le Ext.lt_add Ext.le_add Ext.ne Ext.ne' lt2 lt3 lt4 lt5 le2 le3 le4
set_option maxRecDepth 100000
set_option maxHeartbeats 4000000
theorem str_bounds {mu xl xh ql qh rl rh : Int} (h : StrOk mu xl xh ql qh rl rh) : -1048576 ≤ strL mu xl xh ql qh rl rh ∧ strL mu xl xh ql qh rl rh ≤ strH mu xl xh ql qh rl rh ∧ strH mu xl xh ql qh rl rh ≤ 1048576 := by
  obtain ⟨n0, n1, n2⟩ := nu_bounds h
  have r0 := h.r0
  have r1 := h.r1
  have f1 := floor_mono (show 0 < rl by omega) n1
  have c1 := cei_two (nuH mu xl xh ql qh) rl (by omega)
  unfold strL strH limI
  generalize nuL mu xl xh ql qh = A at *
  generalize nuH mu xl xh ql qh = B at *
  generalize A / rl = q1 at *
  generalize A / rh = q2 at *
  generalize B / rl = q3 at *
  generalize cei B rl = q4 at *
  generalize cei B rh = q5 at *
  omega
theorem pullA_ok {mu rad px py a b c d : Int} (h : PullOk mu rad px py a b c d) : (pullA mu rad px py a b c d).Ok := by
  obtain ⟨m0, m1, r0, r1, x0, x1, y0, y1, a0, a1, a2, c0, c1, c2⟩ := h
  have k1 := str_bounds (str_ok ⟨m0, m1⟩ ⟨r0, r1⟩ (xl := px - b) (xh := px - a) (yl := py - d) (yh := py - c) (by omega) (by omega) (by omega) (by omega) (by omega) (by omega) (zl := px - b) (zh := px - a) (by omega) (by omega) (by omega))
  have k2 := str_bounds (str_ok ⟨m0, m1⟩ ⟨r0, r1⟩ (xl := px - b) (xh := px - a) (yl := py - d) (yh := py - c) (by omega) (by omega) (by omega) (by omega) (by omega) (by omega) (zl := py - d) (zh := py - c) (by omega) (by omega) (by omega))
  exact ⟨k1.1, k1.2.1, k1.2.2, k2.1, k2.2.1, k2.2.2⟩
/-- The body of this number. -/
def nthB (l : List BodyR) (k : Nat) : BodyR := l.getD k ⟨0, 0, none, 0, []⟩
theorem nthB_get {l : List BodyR} {k : Nat} (h : k < l.length) : nthB l k = l[k] := by unfold nthB; simp [h]
/-- The pull of a body, at a tick, on an area. -/
def bodyPull (b : BodyR) (t x0 x1 y0 y1 : Int) : A4 := pullA b.mu b.rad (trackAt b.track t).x (trackAt b.track t).y x0 x1 y0 y1
structure AskOk (l : List BodyR) (h t a b c d : Int) : Prop where
  world : worldE l h = 0
  tick : tickB t = true
  pull : ∀ k, k < l.length → PullOk (nthB l k).mu (nthB l k).rad (trackAt (nthB l k).track t).x (trackAt (nthB l k).track t).y a b c d
theorem chkB_parts {a b c d : Int} (h : chkB a b c d = 0) : (-1152921504606846976 ≤ a ∧ b ≤ 1152921504606846976 ∧ a ≤ b) ∧ -1152921504606846976 ≤ c ∧ d ≤ 1152921504606846976 ∧ c ≤ d := by
  unfold chkB at h
  split at h
  · rename_i h0; exact ⟨(chk_ok a b).1 h0, (chk_ok c d).1 h⟩
  · contradiction
theorem ask_ok {l : List BodyR} {h e t a b c d : Int} (hE : askE l h e t a b c d = 0) : AskOk l h t a b c d ∧ e = 0 := by
  unfold askE at hE
  split at hE
  · rename_i hw
    split at hE
    · rename_i he
      split at hE
      · rename_i ht
        split at hE
        · split at hE
          · rename_i hp
            unfold placeB insideB at hp
            simp only [Bool.and_eq_true, beq_iff_eq, decide_eq_true_eq] at hp
            obtain ⟨⟨⟨p1, p2⟩, p3⟩, ⟨p4, p5⟩, p6⟩ := hp
            obtain ⟨⟨-, -, q1⟩, -⟩ := chkB_parts p1
            obtain ⟨⟨-, -, q2⟩, -⟩ := chkB_parts p4
            refine ⟨⟨hw, ht, fun k hk => ?_⟩, he⟩
            rw [nthB_get hk]
            have hz := bodyE_zero ((worldE_zero hw).1 k hk)
            obtain ⟨z1, z2, z3, z4, z5, -, z7⟩ := hz
            have hv := vwinB_out (trackAt_in (t := t) z5 z7)
            exact ⟨z1, z2, z3, z4, hv.1.1, hv.1.2, hv.2.1, hv.2.2, p2, q1, p3, p5, q2, p6⟩
          · cases hE
        · exact absurd hE (by assumption)
      · cases hE
    · exact absurd hE (by assumption)
  · exact absurd hE (by assumption)
def zeroD : DriftR := ⟨0, 0, 0, 0, 0⟩
theorem zero_drift : driftE zeroD = 0 := by decide
def oneE (l : List BodyR) (h k t a b c d : Int) : Int := if askE l h 0 t a b c d = 0 then (if 0 ≤ k ∧ k < l.length then 0 else 7) else askE l h 0 t a b c d
def oneA (l : List BodyR) (h k t a b c d : Int) : A4 := if oneE l h k t a b c d = 0 then bodyPull (nthB l k.toNat) t a b c d else ⟨0, 0, 0, 0⟩
theorem One_any (p : Option Addr) (cp : Nat) (l : List BodyR) (h k t a b c d : Int) (w : World) (hP : BodiesAt w p l) (hc : l.length ≤ cp) :
    Calls Try.prog 15 #[.agg #[.slice p l.length cp, .int .i64 h], .int .i64 k, .int .i64 t, .agg #[.int .i64 a, .int .i64 b, .int .i64 c, .int .i64 d]] w
      (Gives (.tuple #[(oneA l h k t a b c d).val, .int .i64 (oneE l h k t a b c d)]) w) := by
  have cc := fun (W : World) (y : Below w.heap.size w W) => check_any p cp l h zeroD t a b c d W (hP.on y)
  rw [zero_drift] at cc
  unfold zeroD at cc
  simp only at cc
  by_cases hE : askE l h 0 t a b c d = 0
  · have ok := (ask_ok hE).1
    rw [hE] at cc
    by_cases hk : 0 ≤ k ∧ k < l.length
    · obtain ⟨n, rfl⟩ := Int.eq_ofNat_of_zero_le hk.1
      have hn : n < l.length := by omega
      have e1 : oneE l h n t a b c d = 0 := by unfold oneE; rw [if_pos hE, if_pos hk]
      have e2 : oneA l h n t a b c d = bodyPull l[n] t a b c d := by unfold oneA; rw [if_pos e1, Int.toNat_natCast, nthB_get hn]
      rw [e1, e2]
      have c1 := fun (W : World) (y : Below w.heap.size w W) => pullerOf_any p cp l h n t W (hP.on y) hc ok.world hn ok.tick
      have hp := ok.pull n hn
      rw [nthB_get hn] at hp
      have c2 := fun (W : World) => pull_any l[n].mu l[n].rad l[n].tp l[n].track.length l[n].tc (trackAt l[n].track t).x (trackAt l[n].track t).y a b c d W hp
      change ∀ W, Calls _ _ _ _ (Gives (bodyPull l[n] t a b c d).val W) at c2
      unfold A4.val at *
      generalize bodyPull l[n] t a b c d = r at *
      obtain ⟨r1, r2, r3, r4⟩ := r
      simp only at *
      clear hp ok e1 e2 hE hP hc
      generalize (trackAt l[n].track t).x = ax at *
      generalize (trackAt l[n].track t).y = ay at *
      generalize l[n].mu = mu at *
      generalize l[n].rad = rad at *
      generalize l[n].tp = tp at *
      generalize l[n].track.length = tn at *
      generalize l[n].tc = tc at *
      have hk2 := hk.2
      clear hk
      generalize l.length = m at *
      go_enter Try.func15, Try.ntmps15
      go_upto_region 6 with (first | ((first | with_reducible refine wrx2 ?_ | with_reducible refine wrx ?_); (repeat (first | go_big_quiet_step ((first | (go_at_call 42; with_reducible exact Calls.ext (cc _ bcl)))) | quiet_step ((first | (go_at_call 42; with_reducible exact Calls.ext (cc _ bcl)))))); refine wpQuiet_nil ?_; rintro _ ⟨yr, rfl⟩; have syr := Ext.size yr; (repeat (first | rw [World.size_alloc] at syr | rw [World.size_setCell] at syr | rw [World.size_drew] at syr))) | (go_at_call 42; (first | with_reducible refine (Calls.giv2 (cc _ bcl)).mono ?_ | with_reducible refine (Calls.giv (cc _ bcl)).mono ?_); rintro _ _ ⟨y1, rfl, rfl⟩; have sy1 := Ext.size y1; (repeat (first | rw [World.size_alloc] at sy1 | rw [World.size_setCell] at sy1 | rw [World.size_drew] at sy1))))
      (first | with_reducible refine wp_region_ext2_heads 6 (by kernel_rfl) (by kernel_rfl) ?_ | with_reducible refine wp_region_ext_heads 6 (by kernel_rfl) (by kernel_rfl) ?_); simp only [List.take_succ_cons, List.take_zero, List.length_cons, List.length_nil, Nat.reduceAdd, Nat.reduceSub]; (repeat (first | go_big_quiet_step ((first | (go_at_call 43; with_reducible exact Calls.ext (c1 _ bcl)) | (go_at_call 44; with_reducible exact Calls.ext (c2 _)))) | quiet_step ((first | (go_at_call 43; with_reducible exact Calls.ext (c1 _ bcl)) | (go_at_call 44; with_reducible exact Calls.ext (c2 _)))))); refine wpQuiet_nil ?_; rintro _ ⟨yr, rfl⟩; have syr := Ext.size yr; (repeat (first | rw [World.size_alloc] at syr | rw [World.size_setCell] at syr | rw [World.size_drew] at syr)); (refine wpAny_ready (rs := [6]) (by kernel_rfl) (by simp) ?_; refine AllReady.cons rfl (fun K hK => ?_) AllReady.nil; go_simp; refine hK _ _ ?_; clear hK K); (refine wpAny_ready (rs := [7]) (by kernel_rfl) (by simp) ?_; refine AllReady.cons rfl (fun K hK => ?_) AllReady.nil; go_simp; refine hK _ _ ?_; clear hK K); refine wpAny_done (by kernel_rfl) ?_ _
      go_wp2_with (first | ((first | with_reducible refine wrx2 ?_ | with_reducible refine wrx ?_); (repeat (first | go_big_quiet_step ((first | fail)) | quiet_step ((first | fail)))); refine wpQuiet_nil ?_; rintro _ ⟨yr, rfl⟩; have syr := Ext.size yr; (repeat (first | rw [World.size_alloc] at syr | rw [World.size_setCell] at syr | rw [World.size_drew] at syr))))
      refine bodyPost_ret (v := .tuple #[.agg #[.int .i64 r1, .int .i64 r2, .int .i64 r3, .int .i64 r4], .int .i64 0]) (by simp (maxDischargeDepth := 9) [results, Try.results15, go_sem, *]) rfl ?_
      refine ⟨rfl, ?_⟩
      repeat' (first | (with_reducible exact Below.refl _ _) | (with_reducible assumption) | (with_reducible refine Ext.below _ ?_ ?_) | (with_reducible refine Below.on ?_ (by with_reducible assumption) ?_) | (with_reducible refine Below.alloc ?_ ?_ _) | (with_reducible refine Below.drew ?_) | (with_reducible refine Below.setCell ?_ ?_ _) | (with_reducible exact Nat.le_refl _) | omega | (simp; done) | (simp [go_sem]; done) | (simp at *; omega))
    · have e1 : oneE l h k t a b c d = 7 := by unfold oneE; rw [if_pos hE, if_neg hk]
      have e2 : oneA l h k t a b c d = ⟨0, 0, 0, 0⟩ := by unfold oneA; rw [if_neg (by rw [e1]; decide)]
      rw [e1, e2]
      unfold A4.val
      simp only
      clear ok e1 e2 hE hP hc
      generalize l.length = m at *
      by_cases h0 : k < 0
      · clear hk
        go_enter Try.func15, Try.ntmps15
        go_wp2_with (first | ((first | with_reducible refine wrx2 ?_ | with_reducible refine wrx ?_); (repeat (first | go_big_quiet_step ((first | (go_at_call 42; with_reducible exact Calls.ext (cc _ bcl)))) | quiet_step ((first | (go_at_call 42; with_reducible exact Calls.ext (cc _ bcl)))))); refine wpQuiet_nil ?_; rintro _ ⟨yr, rfl⟩; have syr := Ext.size yr; (repeat (first | rw [World.size_alloc] at syr | rw [World.size_setCell] at syr | rw [World.size_drew] at syr))) | (go_at_call 42; (first | with_reducible refine (Calls.giv2 (cc _ bcl)).mono ?_ | with_reducible refine (Calls.giv (cc _ bcl)).mono ?_); rintro _ _ ⟨y1, rfl, rfl⟩; have sy1 := Ext.size y1; (repeat (first | rw [World.size_alloc] at sy1 | rw [World.size_setCell] at sy1 | rw [World.size_drew] at sy1))))
        refine bodyPost_ret (v := .tuple #[.agg #[.int .i64 0, .int .i64 0, .int .i64 0, .int .i64 0], .int .i64 7]) (by simp (maxDischargeDepth := 9) [results, Try.results15, go_sem, *]) rfl ?_
        refine ⟨rfl, ?_⟩
        repeat' (first | (with_reducible exact Below.refl _ _) | (with_reducible assumption) | (with_reducible refine Ext.below _ ?_ ?_) | (with_reducible refine Below.on ?_ (by with_reducible assumption) ?_) | (with_reducible refine Below.alloc ?_ ?_ _) | (with_reducible refine Below.drew ?_) | (with_reducible refine Below.setCell ?_ ?_ _) | (with_reducible exact Nat.le_refl _) | omega | (simp; done) | (simp [go_sem]; done) | (simp at *; omega))
      · have h1 : (m : Int) ≤ k := by omega
        clear hk
        go_enter Try.func15, Try.ntmps15
        go_wp2_with (first | ((first | with_reducible refine wrx2 ?_ | with_reducible refine wrx ?_); (repeat (first | go_big_quiet_step ((first | (go_at_call 42; with_reducible exact Calls.ext (cc _ bcl)))) | quiet_step ((first | (go_at_call 42; with_reducible exact Calls.ext (cc _ bcl)))))); refine wpQuiet_nil ?_; rintro _ ⟨yr, rfl⟩; have syr := Ext.size yr; (repeat (first | rw [World.size_alloc] at syr | rw [World.size_setCell] at syr | rw [World.size_drew] at syr))) | (go_at_call 42; (first | with_reducible refine (Calls.giv2 (cc _ bcl)).mono ?_ | with_reducible refine (Calls.giv (cc _ bcl)).mono ?_); rintro _ _ ⟨y1, rfl, rfl⟩; have sy1 := Ext.size y1; (repeat (first | rw [World.size_alloc] at sy1 | rw [World.size_setCell] at sy1 | rw [World.size_drew] at sy1))))
        refine bodyPost_ret (v := .tuple #[.agg #[.int .i64 0, .int .i64 0, .int .i64 0, .int .i64 0], .int .i64 7]) (by simp (maxDischargeDepth := 9) [results, Try.results15, go_sem, *]) rfl ?_
        refine ⟨rfl, ?_⟩
        repeat' (first | (with_reducible exact Below.refl _ _) | (with_reducible assumption) | (with_reducible refine Ext.below _ ?_ ?_) | (with_reducible refine Below.on ?_ (by with_reducible assumption) ?_) | (with_reducible refine Below.alloc ?_ ?_ _) | (with_reducible refine Below.drew ?_) | (with_reducible refine Below.setCell ?_ ?_ _) | (with_reducible exact Nat.le_refl _) | omega | (simp; done) | (simp [go_sem]; done) | (simp at *; omega))
  · have e1 : oneE l h k t a b c d = askE l h 0 t a b c d := by unfold oneE; rw [if_neg hE]
    have e2 : oneA l h k t a b c d = ⟨0, 0, 0, 0⟩ := by unfold oneA; rw [if_neg (by rw [e1]; exact hE)]
    rw [e1, e2]
    unfold A4.val
    simp only
    have hne : (askE l h 0 t a b c d != 0) = true := by simpa using hE
    clear e1 e2 hE hP hc
    generalize askE l h 0 t a b c d = e at *
    generalize l.length = m at *
    go_enter Try.func15, Try.ntmps15
    go_wp2_with (first | ((first | with_reducible refine wrx2 ?_ | with_reducible refine wrx ?_); (repeat (first | go_big_quiet_step ((first | (go_at_call 42; with_reducible exact Calls.ext (cc _ bcl)))) | quiet_step ((first | (go_at_call 42; with_reducible exact Calls.ext (cc _ bcl)))))); refine wpQuiet_nil ?_; rintro _ ⟨yr, rfl⟩; have syr := Ext.size yr; (repeat (first | rw [World.size_alloc] at syr | rw [World.size_setCell] at syr | rw [World.size_drew] at syr))) | (go_at_call 42; (first | with_reducible refine (Calls.giv2 (cc _ bcl)).mono ?_ | with_reducible refine (Calls.giv (cc _ bcl)).mono ?_); rintro _ _ ⟨y1, rfl, rfl⟩; have sy1 := Ext.size y1; (repeat (first | rw [World.size_alloc] at sy1 | rw [World.size_setCell] at sy1 | rw [World.size_drew] at sy1))))
    refine bodyPost_ret (v := .tuple #[.agg #[.int .i64 0, .int .i64 0, .int .i64 0, .int .i64 0], .int .i64 e]) (by simp (maxDischargeDepth := 9) [results, Try.results15, go_sem, *]) rfl ?_
    refine ⟨rfl, ?_⟩
    repeat' (first | (with_reducible exact Below.refl _ _) | (with_reducible assumption) | (with_reducible refine Ext.below _ ?_ ?_) | (with_reducible refine Below.on ?_ (by with_reducible assumption) ?_) | (with_reducible refine Below.alloc ?_ ?_ _) | (with_reducible refine Below.drew ?_) | (with_reducible refine Below.setCell ?_ ?_ _) | (with_reducible exact Nat.le_refl _) | omega | (simp; done) | (simp [go_sem]; done) | (simp at *; omega))
end Go.Proofs.Ytlhihmfefipehaa

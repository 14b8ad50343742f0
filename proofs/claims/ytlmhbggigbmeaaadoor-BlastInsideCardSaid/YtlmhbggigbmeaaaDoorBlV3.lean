/- The toll of blows at a cell: contract of the program's scene.toll. Condition: grades, land and blows in memory, valid. -/
import Derived.Test.YtlmhbggigbmeaaaDoorBlAlG
namespace Go.Proofs.YtlmhbggigbmeaaaDoor
open Go.RowKit Go.Shelf
attribute [local go_sem] Option.isSome_some Ext.cell Ext.frozen Ext.lt Ext.le Ext.lt_add Ext.le_add Ext.ne Ext.ne' lt2 lt3 lt4 lt5 le2 le3 le4
/-- The least and the greatest harm of blows at a cell. -/
def SceneR.lowsF (s : SceneR) (a : Int) : Int → List V3 → Int
  | m, [] => m
  | m, b :: r => s.lowsF a (min m (s.lo a b)) r
def SceneR.highsF (s : SceneR) (a : Int) : Int → List V3 → Int
  | m, [] => m
  | m, b :: r => s.highsF a (max m (s.hi a b)) r
def SceneR.lows (s : SceneR) (a : Int) : List V3 → Int
  | [] => 0
  | b :: r => s.lowsF a (s.lo a b) r
def SceneR.highs (s : SceneR) (a : Int) : List V3 → Int
  | [] => 0
  | b :: r => s.highsF a (s.hi a b) r
theorem SceneR.bounds (s : SceneR) {a : Int} {b : V3} (hok : s.Ok) (h0 : 0 ≤ a) (h1 : a < s.x.pl.length) (hb : V3Ok s.n b) : 0 ≤ s.lo a b ∧ s.lo a b ≤ s.hi a b ∧ s.hi a b ≤ 1717986918400 :=
  ⟨(harmsV_bound hok.g hok.x h0 h1).1, harmsV_le hok.g hok.x h0 h1 hb.le, (harmsV_bound hok.g hok.x h0 h1).2⟩
theorem chkB_nums {a b c d : Int} (h1 : 0 ≤ a) (h2 : a ≤ b) (h3 : b ≤ 1717986918400) (h4 : 0 ≤ c) (h5 : c ≤ d) (h6 : d ≤ 1717986918400) : chkB a b c d = 0 := by
  have n1 : numB a = true := numB_true.2 (by omega)
  have n2 : numB b = true := numB_true.2 (by omega)
  have n3 : numB c = true := numB_true.2 (by omega)
  have n4 : numB d = true := numB_true.2 (by omega)
  unfold chkB chk
  rw [n1, n2, n3, n4]
  simp [h2, h5]
set_option maxRecDepth 100000 in
set_option maxHeartbeats 8000000 in
theorem sceneToll_any (s : SceneR) (a : Int) (p : Option Addr) (c : Nat) (b : V3) (r : List V3) (w : World) (hs : s.At w) (hok : s.Ok) (hL : V3At w p (b :: r)) (hb : ∀ u ∈ b :: r, V3Ok s.n u) (hn : r.length ≤ 1000) (hcap : r.length + 1 ≤ c) (h0 : 0 ≤ a) (h1 : a < s.x.pl.length) :
    Calls Tryd.prog 69 #[.agg s.cells, .slice p (r.length + 1) c, .int .i64 a] w (Gives (.agg #[.int .i64 (s.lows a (b :: r)), .int .i64 (s.highs a (b :: r))]) w) := by
  obtain ⟨B, o, rfl, hB, d0, d1, d2⟩ := hL 0 (by simp)
  simp only [List.getElem_cons_zero, Nat.zero_mul, Nat.add_zero] at d0 d1 d2
  have hbb := hb b (by simp)
  have hbd := s.bounds hok h0 h1 hbb
  have cb := fun (SB AB : Nat) (W : World) (y : s.At W) (q1 : W.heap[SB]? = some (.cells s.cells 116 (0, 0))) (q2 : AB < W.heap.size) (q3 : W.cell? ⟨AB, 0, none⟩ = some (.int .i64 a)) => bounds_any s a b SB AB W y hok hbb h0 h1 q1 q2 q3
  rw [SceneR.lows, SceneR.highs]
  obtain ⟨V1, hV1⟩ : ∃ V, s.lowsF a (s.lo a b) r = V := ⟨_, rfl⟩
  obtain ⟨V2', hV2⟩ : ∃ V, s.highsF a (s.hi a b) r = V := ⟨_, rfl⟩
  rw [hV1, hV2]
  replace hV1 := Go.Lib.hid hV1
  replace hV2 := Go.Lib.hid hV2
  replace hL := Go.Lib.hid hL
  replace hb := Go.Lib.hid hb
  replace hs := Go.Lib.hid hs
  replace hok := Go.Lib.hid hok
  generalize s.lo a b = m0 at *
  generalize s.hi a b = x0 at *
  have hcells : s.cells = #[.slice s.lp s.n s.lc, .slice s.gp s.g.length s.gc, .slice s.x.pp s.x.pl.length s.x.pc, .slice s.x.wp s.x.wl.length s.x.wc] := rfl
  rw [hcells]
  have hn1 : (r.length : Int) + 1 ≤ c := by omega
  have hn2 : (r.length : Int) ≤ 1000 := by omega
  go_enter Tryd.func69, Tryd.ntmps69
  go_upto_region 2 with (first | ((first | with_reducible refine wrx2 ?_ | with_reducible refine wrx ?_); (repeat (first | go_big_quiet_step ((first | fail)) | quiet_step ((first | fail)))); refine wpQuiet_nil ?_; rintro _ ⟨yr, rfl⟩; have syr := Ext.size yr; (repeat (first | rw [World.size_alloc] at syr | rw [World.size_setCell] at syr | rw [World.size_drew] at syr))))
  refine wp_named (fun W1 hW => ?_)
  have hB1 : Below w.heap.size w W1 := by rw [← hW]; repeat' (first | (with_reducible exact Below.refl _ _) | (with_reducible assumption) | (with_reducible refine Ext.below _ ?_ ?_) | (with_reducible refine Below.on ?_ (by with_reducible assumption) ?_) | (with_reducible refine Below.alloc ?_ ?_ _) | (with_reducible refine Below.drew ?_) | (with_reducible refine Below.setCell ?_ ?_ _) | (with_reducible exact Nat.le_refl _) | omega | (simp; done) | (simp [go_sem]; done) | (simp at *; omega))
  obtain ⟨rS, rA', rR⟩ := alloc3_rows hW
  rw [← hcells] at rS
  have rA : W1.cell? ⟨w.heap.size + 1, 0, none⟩ = some (.int .i64 a) := (cell_of_row W1 _ 0 _ _ _ rA').trans rfl
  have s1 : W1.heap.size = w.heap.size + 1 + 1 + 1 := by rw [← hW]; simp
  clear hW rA'
  have lS1 : w.heap.size < W1.heap.size := by omega
  have lA1 : w.heap.size + 1 < W1.heap.size := by omega
  have lR1 : w.heap.size + 1 + 1 < W1.heap.size := by omega
  have lB1 : B < W1.heap.size := by omega
  have c0 := cb w.heap.size (w.heap.size + 1) W1 (hs.out.on hB1) rS lA1 rA
  replace d0 := (hB1.cell (p := ⟨B, o, none⟩) hB).trans d0
  replace d1 := (hB1.cell (p := ⟨B, o + 1, none⟩) hB).trans d1
  replace d2 := (hB1.cell (p := ⟨B, o + 2, none⟩) hB).trans d2
  replace rS := Go.Lib.hid rS
  replace rR := Go.Lib.hid rR
  clear s1 cb
  go_upto_region 4 with (first | ((first | with_reducible refine wrx2 ?_ | with_reducible refine wrx ?_); (repeat (first | go_big_quiet_step ((first | (with_reducible exact Calls.ext (c0)))) | quiet_step ((first | (with_reducible exact Calls.ext (c0)))))); refine wpQuiet_nil ?_; rintro _ ⟨yr, rfl⟩; have syr := Ext.size yr; (repeat (first | rw [World.size_alloc] at syr | rw [World.size_setCell] at syr | rw [World.size_drew] at syr)); have : B < yr.now.heap.size := (by omega); have : B ≤ yr.now.heap.size := (by omega); have : B < yr.now.heap.size + 1 + 1 := (by omega)) | ((first | with_reducible refine (Calls.giv2 (c0)).mono ?_ | with_reducible refine (Calls.giv (c0)).mono ?_); rintro _ _ ⟨y1, rfl, rfl⟩; have sy1 := Ext.size y1; (repeat (first | rw [World.size_alloc] at sy1 | rw [World.size_setCell] at sy1 | rw [World.size_drew] at sy1)); have : B < y1.now.heap.size := (by omega); have : B ≤ y1.now.heap.size := (by omega); have : B < y1.now.heap.size + 1 + 1 := (by omega)))
  all_goals
    refine wp_named (fun W0 hW => ?_)
    obtain ⟨TB, hTB⟩ : ∃ n, y1.now.heap.size = n := ⟨_, rfl⟩
    have rT : W0.heap[TB]? = some (.cells #[.int .i64 m0, .int .i64 x0] 29 (0, 0)) := by rw [← hW, ← hTB]; exact heap_alloc_new _ _
    have hB2 : Below W1.heap.size W1 W0 := by rw [← hW]; exact y1.grew.alloc y1.size _
    have lT : TB < W0.heap.size := row_lt rT
    have sT : W1.heap.size ≤ TB := by rw [← hTB]; exact y1.size
    rw [hTB]
    clear hW hTB
    have hB3 : Below w.heap.size w W0 := hB1.trans (hB2.mono hB1.size)
    replace rS := Go.Lib.hid ((hB2.block _ lS1).trans rS.out)
    replace rA := (hB2.cell (p := ⟨w.heap.size + 1, 0, none⟩) lA1).trans rA
    replace rR := Go.Lib.hid ((hB2.block _ lR1).trans rR.out)
    have hwT : w.heap.size ≤ TB := by have := hB1.size; omega
    replace rT := Go.Lib.hid rT
    clear c0 d0 d1 d2
    go_loopw [20] (fun t W => ∃ (i : Nat) (m h : Int) (X : World), t = .int .i64 i ∧ X = W ∧ Hid (BelowX TB W0.heap.size W0 X) ∧ Hid (X.heap[TB]? = some (.cells #[.int .i64 m, .int .i64 h] 29 (0, 0))) ∧ Hid (i ≤ r.length ∧ (0 ≤ m ∧ m ≤ h ∧ h ≤ 1717986918400) ∧ s.lowsF a m (r.drop i) = V1 ∧ s.highsF a h (r.drop i) = V2')) (fun t _ => r.length - (intOf t).toNat)
    case atStart => exact ⟨0, m0, x0, W0, rfl, rfl, Go.Lib.hid (BelowX.refl _ _ _), rT, Go.Lib.hid ⟨Nat.zero_le _, hbd, by simpa using hV1.out, by simpa using hV2.out⟩⟩
    case round =>
      obtain ⟨i, m, h, X, rfl, rfl, hX, hT, hi⟩ := hrel
      obtain ⟨hil, hmh, hE1, hE2⟩ := hi.out
      have sX := hX.out.size
      have t0 : X.cell? ⟨TB, 0, none⟩ = some (.int .i64 m) := (cell_of_row X _ 0 _ _ _ hT.out).trans rfl
      have t1 : X.cell? ⟨TB, 1, none⟩ = some (.int .i64 h) := (cell_of_row X _ 1 _ _ _ hT.out).trans rfl
      have xT : TB < X.heap.size := by omega
      clear hi
      by_cases hlt : i < r.length
      · have hlt2 : (i : Int) < r.length := by omega
        obtain ⟨B', o', e', hB', d0, d1, d2⟩ := hL.out (i + 1) (by simp; omega)
        injection e' with e'
        injection e' with e1 e2
        subst e1 e2
        simp only [List.getElem_cons_succ] at d0 d1 d2
        have hWX : Below B.succ w X := (hB3.mono (by omega)).trans ((hX.out.mono (by omega)).below (by omega))
        replace d0 := (hWX.cell (p := ⟨B, o + (i + 1) * 3, none⟩) (Nat.lt_succ_self B)).trans d0
        replace d1 := (hWX.cell (p := ⟨B, o + (i + 1) * 3 + 1, none⟩) (Nat.lt_succ_self B)).trans d1
        replace d2 := (hWX.cell (p := ⟨B, o + (i + 1) * 3 + 2, none⟩) (Nat.lt_succ_self B)).trans d2
        rw [show o + (i + 1) * 3 = o + 3 + i * 3 by omega] at d0 d1 d2
        have hbi := hb.out r[i] (by simp)
        have hbq := s.bounds hok.out h0 h1 hbi
        have hsX : s.At X := hs.out.on (hB3.trans ((hX.out.mono hB3.size).below hwT))
        have rSX := (hX.out.block w.heap.size (by omega) (by omega)).trans rS.out
        have rAX := (hX.out.cell (c := w.heap.size + 1) (o := 0) (by omega) (by omega)).trans rA
        have lSX : w.heap.size < X.heap.size := by omega
        have lAX : w.heap.size + 1 < X.heap.size := by omega
        have c1 := fun (W : World) (y : Below X.heap.size X W) => bounds_any s a r[i] w.heap.size (w.heap.size + 1) W (hsX.on y) hok.out hbi h0 h1 ((y.block _ lSX).trans rSX) (Nat.lt_of_lt_of_le lAX y.size) ((y.cell (p := ⟨w.heap.size + 1, 0, none⟩) lAX).trans rAX)
        rw [drop_at hlt, SceneR.lowsF] at hE1
        rw [drop_at hlt, SceneR.highsF] at hE2
        have ck := chkB_nums hmh.1 hmh.2.1 hmh.2.2 hbq.1 hbq.2.1 hbq.2.2
        have c2 := fun W => Hull_any m h (s.lo a r[i]) (s.hi a r[i]) W
        unfold hullL hullH at c2
        simp only [ck, if_true] at c2
        have key : Hid (i + 1 ≤ r.length ∧ (0 ≤ min m (s.lo a r[i]) ∧ min m (s.lo a r[i]) ≤ max h (s.hi a r[i]) ∧ max h (s.hi a r[i]) ≤ 1717986918400) ∧ s.lowsF a (min m (s.lo a r[i])) (r.drop (i + 1)) = V1 ∧ s.highsF a (max h (s.hi a r[i])) (r.drop (i + 1)) = V2') := Go.Lib.hid ⟨hlt, by omega, hE1, hE2⟩
        obtain ⟨mn, hmn⟩ : ∃ v, min m (s.lo a r[i]) = v := ⟨_, rfl⟩
        obtain ⟨mx, hmx⟩ : ∃ v, max h (s.hi a r[i]) = v := ⟨_, rfl⟩
        rw [hmn, hmx] at key
        simp only [hmn, hmx] at c2
        have z0 : X.frozen? ⟨TB, 0, none⟩ = false := frozen_row hT.out
        have z1 : X.frozen? ⟨TB, 1, none⟩ = false := frozen_row hT.out
        clear hE1 hE2 hbq hbi hmn hmx ck hsX rSX rAX
        generalize s.lo a r[i] = lo at *
        generalize s.hi a r[i] = hh at *
        generalize r[i] = u at *
        have xB : B < X.heap.size := by omega
        go_upto_region 6 with (first | ((first | with_reducible refine wrx2 ?_ | with_reducible refine wrx ?_); (repeat (first | go_big_quiet_step ((first | fail)) | quiet_step ((first | fail)))); refine wpQuiet_nil ?_; rintro _ ⟨yr, rfl⟩; have syr := Ext.size yr; (repeat (first | rw [World.size_alloc] at syr | rw [World.size_setCell] at syr | rw [World.size_drew] at syr)); have : TB < yr.now.heap.size := (by omega); have : TB ≤ yr.now.heap.size := (by omega); have : TB < yr.now.heap.size + 1 + 1 := (by omega); have : w.heap.size < yr.now.heap.size := (by omega); have : w.heap.size ≤ yr.now.heap.size := (by omega); have : w.heap.size < yr.now.heap.size + 1 + 1 := (by omega); have : w.heap.size + 1 < yr.now.heap.size := (by omega); have : w.heap.size + 1 ≤ yr.now.heap.size := (by omega); have : w.heap.size + 1 < yr.now.heap.size + 1 + 1 := (by omega)))
        all_goals
          refine wp_named (fun Y hY => ?_)
          have hXY : Below X.heap.size X Y := by rw [← hY]; repeat' (first | (with_reducible exact Below.refl _ _) | (with_reducible assumption) | (with_reducible refine Ext.below _ ?_ ?_) | (with_reducible refine Below.on ?_ (by with_reducible assumption) ?_) | (with_reducible refine Below.alloc ?_ ?_ _) | (with_reducible refine Below.drew ?_) | (with_reducible refine Below.setCell ?_ ?_ _) | (with_reducible exact Nat.le_refl _) | omega | (simp; done) | (simp [go_sem]; done) | (simp at *; omega))
          have e0 : Y.cell? ⟨X.heap.size, 0, none⟩ = some (.int .i64 u.a) := by rw [← hY]; simp [go_sem]
          have e1 : Y.cell? ⟨X.heap.size, 1, none⟩ = some (.int .i64 u.b) := by rw [← hY]; simp [go_sem]
          have e2 : Y.cell? ⟨X.heap.size, 2, none⟩ = some (.int .i64 u.c) := by rw [← hY]; simp [go_sem]
          have lY : X.heap.size < Y.heap.size := by rw [← hY]; simp
          clear hY
          have lTY : TB < Y.heap.size := by omega
          replace t0 := (hXY.cell (p := ⟨TB, 0, none⟩) xT).trans t0
          replace t1 := (hXY.cell (p := ⟨TB, 1, none⟩) xT).trans t1
          replace z0 := (hXY.frozen (p := ⟨TB, 0, none⟩) xT).trans z0
          replace z1 := (hXY.frozen (p := ⟨TB, 1, none⟩) xT).trans z1
          (first | with_reducible refine wp_region_ext2_heads 5 (by kernel_rfl) (by kernel_rfl) ?_ | with_reducible refine wp_region_ext_heads 5 (by kernel_rfl) (by kernel_rfl) ?_); simp only [List.take_succ_cons, List.take_zero, List.length_cons, List.length_nil, Nat.reduceAdd, Nat.reduceSub]; (repeat (first | go_big_quiet_step ((first | (with_reducible exact Calls.ext (c1 _ bcl)) | (go_at_call 45; with_reducible exact Calls.ext (c2 _)))) | quiet_step ((first | (with_reducible exact Calls.ext (c1 _ bcl)) | (go_at_call 45; with_reducible exact Calls.ext (c2 _)))))); refine wpQuiet_nil ?_; rintro _ ⟨yr, rfl⟩; have syr := Ext.size yr; (repeat (first | rw [World.size_alloc] at syr | rw [World.size_setCell] at syr | rw [World.size_drew] at syr)); (refine wpAny_ready (rs := [5]) (by kernel_rfl) (by simp) ?_; refine AllReady.cons rfl (fun K hK => ?_) AllReady.nil; go_simp; refine hK _ _ ?_; clear hK K); refine wpAny_done (by kernel_rfl) ?_ _
          have hYX : Below X.heap.size X yr.now := hXY.trans (yr.grew.mono hXY.size)
          have hX2 : BelowX TB W0.heap.size W0 yr.now := hX.out.trans (.of (hYX.mono sX))
          have hX3 := belowX_put hX2 (.int .i64 mn) (.int .i64 mx)
          have hR3 := boxp_put ((hYX.block TB xT).trans hT.out) (.int .i64 mn) (.int .i64 mx)
          generalize (yr.now.setCell ⟨TB, 0, none⟩ (.int .i64 mn)).setCell ⟨TB, 1, none⟩ (.int .i64 mx) = W5 at *
          go_wp2_with (first | ((first | with_reducible refine wrx2 ?_ | with_reducible refine wrx ?_); (repeat (first | go_big_quiet_step ((first | fail)) | quiet_step ((first | fail)))); refine wpQuiet_nil ?_; rintro _ ⟨yr, rfl⟩; have syr := Ext.size yr; (repeat (first | rw [World.size_alloc] at syr | rw [World.size_setCell] at syr | rw [World.size_drew] at syr))))
          exact ⟨⟨i + 1, mn, mx, W5, by simp, rfl, Go.Lib.hid hX3, Go.Lib.hid hR3, key⟩, by simp [intOf]; omega⟩
      · have hge : ¬ (i : Int) < r.length := by omega
        rw [List.drop_of_length_le (by omega), SceneR.lowsF] at hE1
        rw [List.drop_of_length_le (by omega), SceneR.highsF] at hE2
        subst hE1 hE2
        have q0 : X.cell? ⟨w.heap.size + 1 + 1, 0, none⟩ = some (.int .i64 0) := (cell_of_row X _ 0 _ _ _ ((hX.out.block _ (by omega) (by omega)).trans rR.out)).trans rfl
        have q1 : X.cell? ⟨w.heap.size + 1 + 1, 1, none⟩ = some (.int .i64 0) := (cell_of_row X _ 1 _ _ _ ((hX.out.block _ (by omega) (by omega)).trans rR.out)).trans rfl
        have q2 : X.frozen? ⟨w.heap.size + 1 + 1, 0, none⟩ = false := frozen_row ((hX.out.block _ (by omega) (by omega)).trans rR.out)
        have q3 : X.frozen? ⟨w.heap.size + 1 + 1, 1, none⟩ = false := frozen_row ((hX.out.block _ (by omega) (by omega)).trans rR.out)
        have lR : w.heap.size + 1 + 1 < X.heap.size := by omega
        go_wp2_with (first | ((first | with_reducible refine wrx2 ?_ | with_reducible refine wrx ?_); (repeat (first | go_big_quiet_step ((first | fail)) | quiet_step ((first | fail)))); refine wpQuiet_nil ?_; rintro _ ⟨yr, rfl⟩; have syr := Ext.size yr; (repeat (first | rw [World.size_alloc] at syr | rw [World.size_setCell] at syr | rw [World.size_drew] at syr)); have : TB < yr.now.heap.size := (by omega); have : TB ≤ yr.now.heap.size := (by omega); have : TB < yr.now.heap.size + 1 + 1 := (by omega)))
        refine bodyPost_ret (v := .agg #[.int .i64 m, .int .i64 h]) (by simp (maxDischargeDepth := 9) [results, Tryd.results69, go_sem, q0, q1]) rfl ?_
        refine ⟨rfl, ?_⟩
        have hXB : Below w.heap.size w X := hB3.trans ((hX.out.mono hB3.size).below (by omega))
        repeat' (first | (with_reducible exact Below.refl _ _) | (with_reducible assumption) | (with_reducible refine Ext.below _ ?_ ?_) | (with_reducible refine Below.on ?_ (by with_reducible assumption) ?_) | (with_reducible refine Below.alloc ?_ ?_ _) | (with_reducible refine Below.drew ?_) | (with_reducible refine Below.setCell ?_ ?_ _) | (with_reducible exact Nat.le_refl _) | omega | (simp; done) | (simp [go_sem]; done) | (simp at *; omega))
end Go.Proofs.YtlmhbggigbmeaaaDoor

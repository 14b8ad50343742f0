/- For BlastWorst: at the worst cell the greatest harm is reached, and at no cell before it. Written by gen_out.py. Condition: none beyond the statement's own. -/
import Derived.Test.YtlmhbggigbmeaaaDoorBlX1
import Derived.Test.YtlmhbggigbmeaaaDoorBlAlG
import Derived.Test.YtlmhbggigbmeaaaDoorBlLo
import Derived.Test.YtlmhbggigbmeaaaDoorBlGo
import Derived.Test.YtlmhbggigbmeaaaDoorBlAG
import Derived.Test.YtlmhbggigbmeaaaDoorBlRock
namespace Go.Proofs.YtlmhbggigbmeaaaDoor
open Go.RowKit Go.Shelf
attribute [local go_sem] Option.isSome_some Ext.cell Ext.frozen Ext.lt Ext.le Ext.lt_add Ext.le_add Ext.ne Ext.ne' lt2 lt3 lt4 lt5 le2 le3 le4
attribute [local go_sem] RExt.cell RExt.frozen RExt.lt RExt.le RExt.lt_add RExt.le_add RExt.ne RExt.ne'
set_option maxRecDepth 100000 in
set_option maxHeartbeats 16000000 in
theorem BlastWorst_any (sp : Option Addr) (sl sc : Nat) (sz : Nat → Int) (w : World) (hlim : LimAt w) (hw : ListIn w sp sl sz) : Calls Tryd.prog 7 #[.slice sp sl sc] w (Gives (.bool true) w) := by
  have ca := fun W (y : LimAt W) => blastAwake_any W y
  have hl0 := hlim.lt
  go_enter Tryd.func7, Tryd.ntmps7
  go_upto_region 2 with (first | ((first | with_reducible refine wp_region_ext2 (by kernel_rfl) (by kernel_rfl) ?_ | with_reducible refine wp_region_ext (by kernel_rfl) (by kernel_rfl) ?_); (repeat (first | go_big_quiet_step ((first | fail)) | quiet_step ((first | fail)))); refine wpQuiet_nil ?_; rintro _ ⟨yr, rfl⟩; have syr := Ext.size yr; (repeat (first | rw [World.size_alloc] at syr | rw [World.size_setCell] at syr | rw [World.size_drew] at syr))) | (go_at_call 10; refine (NewRing_r sp sl sc sz _ hw).mono ?_; rintro _ _ ⟨y0, rfl, rfl, hs0, hr0⟩))
  have hR0 : RingM y0.now w.heap.size 0 := ⟨_, _, _, _, _, hr0, Nat.le_refl _⟩
  have hlim1 : LimAt y0.now := hlim.ext y0
  have hb0 : Below w.heap.size w y0.now := y0.grew
  generalize y0.now = W1 at *
  clear hr0 hw hlim
  have hlW1 := hR0.lt
  go_upto_region 3 with (first | ((first | with_reducible refine wp_region_ext2 (by kernel_rfl) (by kernel_rfl) ?_ | with_reducible refine wp_region_ext (by kernel_rfl) (by kernel_rfl) ?_); (repeat (first | go_big_quiet_step ((first | fail)) | quiet_step ((first | fail)))); refine wpQuiet_nil ?_; rintro _ ⟨yr, rfl⟩; have syr := Ext.size yr; (repeat (first | rw [World.size_alloc] at syr | rw [World.size_setCell] at syr | rw [World.size_drew] at syr))) | (go_at_call 11; refine (RockOf_y w.heap.size 0 _ (by omega) hR0).mono ?_; rintro _ _ ⟨y1, k, f, rfl, hok, rfl, hr1⟩; unfold RockR.val FallR.val; have sy1 := y1.size))
  obtain ⟨m0, hm0⟩ : ∃ m0, 0 + 16 = m0 := ⟨_, rfl⟩
  refine wp_named (fun Wr hW => ?_)
  have hRr : RingM Wr w.heap.size m0 := by rw [← hW, ← hm0]; exact (hr1.alloc _).alloc _
  have hBr : BelowX w.heap.size w.heap.size w Wr := by
    rw [← hW]
    have h6 := (BelowX.of hb0).trans (y1.grew.mono (by omega))
    repeat' (first | (with_reducible exact BelowX.refl _ _ _) | (with_reducible assumption) | (with_reducible refine RExt.belowX _ ?_ ?_) | (with_reducible refine Ext.belowX _ ?_ ?_) | (with_reducible refine BelowX.alloc ?_ ?_ _) | (with_reducible refine BelowX.drew ?_) | (with_reducible refine BelowX.setCell ?_ ?_ _) | (with_reducible exact Nat.le_refl _) | omega | (simp; done) | (simp [go_sem]; done) | (simp at *; omega))
  have hlr : LimAt Wr := by
    rw [← hW]
    have hlim : LimAt y1.now := hlim1.rext (by omega) y1
    exact (by repeat (first | exact hlim | (with_reducible refine LimAt.ext ?_ _) | (with_reducible refine LimAt.alloc ?_ _) | (with_reducible refine LimAt.drew ?_) | (with_reducible refine LimAt.rext ?_ (by omega) _) | (with_reducible refine LimAt.set ?_ (by omega) _)))
  obtain ⟨rk, rf⟩ := alloc2_rows hW
  have eK : Wr.heap.size = y1.now.heap.size + 1 + 1 := by rw [← hW]; simp
  have hKw : w.heap.size < y1.now.heap.size := by omega
  clear hW hr1 hR0 hlim1 hb0
  generalize y1.now.heap.size = KB at *
  clear sy1 hs0 hlW1
  clear y1
  have hmm : m0 = 16 := hm0.symm
  clear hm0
  go_upto_region 4 with (first | ((first | with_reducible refine wp_region_ext2 (by kernel_rfl) (by kernel_rfl) ?_ | with_reducible refine wp_region_ext (by kernel_rfl) (by kernel_rfl) ?_); (repeat (first | go_big_quiet_step ((first | fail)) | quiet_step ((first | fail)))); refine wpQuiet_nil ?_; rintro _ ⟨yr, rfl⟩; have syr := Ext.size yr; (repeat (first | rw [World.size_alloc] at syr | rw [World.size_setCell] at syr | rw [World.size_drew] at syr))) | (go_at_call 12; refine (LayersOf_y w.heap.size m0 _ (by omega) hRr).mono ?_; rintro _ _ ⟨y2, lv, ls, rfl, hoA, hnA, hallA, rfl, hr2⟩; have sy2 := y2.size) | (go_at_call 13; refine (GradesOf_y w.heap.size (m0 + 20) _ (by omega) hr2).mono ?_; rintro _ _ ⟨y3, gv, gl, rfl, hoG, tG, rfl, hr3⟩; have sy3 := y3.size) | (go_at_call 14; refine (LandOf_z w.heap.size (m0 + 20 + 15) _ (by omega) hr3).mono ?_; rintro _ _ ⟨y4, x, rfl, hoL, hxok, ⟨hx16, -⟩, rfl, hr4⟩; unfold LandR.val; have sy4 := y4.size))
  obtain ⟨M, hM⟩ : ∃ M, m0 + 20 + 15 + 50 = M := ⟨_, rfl⟩
  refine wp_named (fun W4 hW => ?_)
  obtain ⟨pa, cca, rfl⟩ := owns_form hoA
  obtain ⟨pg, ccg, rfl⟩ := owns_form hoG
  have tA : LaysOk ls := ⟨hnA, hallA⟩
  have hB4 : BelowX w.heap.size Wr.heap.size Wr W4 := by
    rw [← hW]
    have h6 := (y2.grew.trans (y3.grew.mono (by omega))).trans (y4.grew.mono (by omega))
    repeat' (first | (with_reducible exact BelowX.refl _ _ _) | (with_reducible assumption) | (with_reducible refine RExt.belowX _ ?_ ?_) | (with_reducible refine Ext.belowX _ ?_ ?_) | (with_reducible refine BelowX.alloc ?_ ?_ _) | (with_reducible refine BelowX.drew ?_) | (with_reducible refine BelowX.setCell ?_ ?_ _) | (with_reducible exact Nat.le_refl _) | omega | (simp; done) | (simp [go_sem]; done) | (simp at *; omega))
  have k2 : BelowX w.heap.size y2.now.heap.size y2.now W4 := by
    rw [← hW]
    have h6 := y3.grew.trans (y4.grew.mono (by omega))
    repeat' (first | (with_reducible exact BelowX.refl _ _ _) | (with_reducible assumption) | (with_reducible refine RExt.belowX _ ?_ ?_) | (with_reducible refine Ext.belowX _ ?_ ?_) | (with_reducible refine BelowX.alloc ?_ ?_ _) | (with_reducible refine BelowX.drew ?_) | (with_reducible refine BelowX.setCell ?_ ?_ _) | (with_reducible exact Nat.le_refl _) | omega | (simp; done) | (simp [go_sem]; done) | (simp at *; omega))
  have k3 : BelowX w.heap.size y3.now.heap.size y3.now W4 := by
    rw [← hW]
    have h6 := y4.grew
    repeat' (first | (with_reducible exact BelowX.refl _ _ _) | (with_reducible assumption) | (with_reducible refine RExt.belowX _ ?_ ?_) | (with_reducible refine Ext.belowX _ ?_ ?_) | (with_reducible refine BelowX.alloc ?_ ?_ _) | (with_reducible refine BelowX.drew ?_) | (with_reducible refine BelowX.setCell ?_ ?_ _) | (with_reducible exact Nat.le_refl _) | omega | (simp; done) | (simp [go_sem]; done) | (simp at *; omega))
  have k4 : BelowX w.heap.size y4.now.heap.size y4.now W4 := by
    rw [← hW]
    exact (BelowX.refl _ _ _).alloc (Nat.le_refl _) _
  have rX : W4.heap[y4.now.heap.size]? = some (.cells #[.slice x.pp x.pl.length x.pc, .slice x.wp x.wl.length x.wc] 27 (0, 0)) := by rw [← hW]; exact heap_alloc_new _ _
  have hR4 : RingM W4 w.heap.size M := by rw [← hW, ← hM]; exact hr4.alloc _
  replace hoA := owns_base (owns_belowX hoA (by omega) k2) (show KB < Wr.heap.size by omega)
  replace hoG := owns_base (owns_belowX hoG (by omega) k3) (show KB < y2.now.heap.size by omega)
  replace hoL := (hoL.onX (by omega) k4).base (show KB < y3.now.heap.size by omega)
  have hlim4 : LimAt W4 := hlr.rext (by omega) ⟨W4, hB4⟩
  have hBW : BelowX w.heap.size w.heap.size w W4 := hBr.trans (hB4.mono hBr.size)
  replace rk := (hB4.block KB (row_lt rk) (by omega)).trans rk
  replace rf := (hB4.block (KB + 1) (row_lt rf) (by omega)).trans rf
  have nX : w.heap.size ≠ y4.now.heap.size := by omega
  have hMM : M = 101 := by omega
  clear hW hr2 hr3 hr4 hRr hBr hlr k2 k3 k4 hB4
  generalize y4.now.heap.size = XB at *
  clear sy2 sy3 sy4 hM hmm
  clear y4 y3 y2
  have ypos : (0 : Int) < x.pl.length ∧ (x.pl.length : Int) ≤ 16 := by have := hxok.pos; omega
  have a0 : W4.cell? ⟨XB, 0, none⟩ = some (.slice x.pp x.pl.length x.pc) := (cell_of_row W4 _ 0 _ _ _ rX).trans rfl
  have a1 : W4.cell? ⟨XB, 1, none⟩ = some (.slice x.wp x.wl.length x.wc) := (cell_of_row W4 _ 1 _ _ _ rX).trans rfl
  have lX := row_lt rX
  have lK := row_lt rk
  have lf := row_lt rf
  go_upto_region 6 with (first | ((first | with_reducible refine wp_region_ext2 (by kernel_rfl) (by kernel_rfl) ?_ | with_reducible refine wp_region_ext (by kernel_rfl) (by kernel_rfl) ?_); (repeat (first | go_big_quiet_step ((first | fail)) | quiet_step ((first | fail)))); refine wpQuiet_nil ?_; rintro _ ⟨yr, rfl⟩; have syr := Ext.size yr; (repeat (first | rw [World.size_alloc] at syr | rw [World.size_setCell] at syr | rw [World.size_drew] at syr)); have : XB < yr.now.heap.size := (by omega); have : XB ≤ yr.now.heap.size := (by omega); have : XB < yr.now.heap.size + 1 + 1 := (by omega); have : KB < yr.now.heap.size := (by omega); have : KB ≤ yr.now.heap.size := (by omega); have : KB < yr.now.heap.size + 1 + 1 := (by omega); have : KB + 1 < yr.now.heap.size := (by omega); have : KB + 1 ≤ yr.now.heap.size := (by omega); have : KB + 1 < yr.now.heap.size + 1 + 1 := (by omega)) | (go_at_call 15; refine (Next_y x.pl.length w.heap.size (M) _ (by omega) (by omega) (by omega) hR4).mono ?_; rintro _ _ ⟨y5, v1, rfl, hvv1, rfl, hry5⟩; have sy5 := y5.size))
  have k5 : BelowX w.heap.size W4.heap.size W4 y5.now := y5.grew
  replace rX := (k5.block XB (row_lt rX) (by omega)).trans rX
  replace rk := (k5.block KB (row_lt rk) (by omega)).trans rk
  replace rf := (k5.block (KB + 1) (row_lt rf) (by omega)).trans rf
  replace hoA := owns_belowX hoA (by omega) k5
  replace hoG := owns_belowX hoG (by omega) k5
  replace hoL := hoL.onX (by omega) k5
  have hlim5 : LimAt y5.now := hlim4.rext (by omega) ⟨y5.now, k5⟩
  replace hBW := hBW.trans (k5.mono hBW.size)
  generalize y5.now = W5 at *
  clear a0 a1 lX lK lf k5
  have lX := row_lt rX
  have lK := row_lt rk
  have lf := row_lt rf
  go_upto_region 7 with (first | ((first | with_reducible refine wp_region_ext2 (by kernel_rfl) (by kernel_rfl) ?_ | with_reducible refine wp_region_ext (by kernel_rfl) (by kernel_rfl) ?_); (repeat (first | go_big_quiet_step ((first | fail)) | quiet_step ((first | fail)))); refine wpQuiet_nil ?_; rintro _ ⟨yr, rfl⟩; have syr := Ext.size yr; (repeat (first | rw [World.size_alloc] at syr | rw [World.size_setCell] at syr | rw [World.size_drew] at syr)); have : XB < yr.now.heap.size := (by omega); have : XB ≤ yr.now.heap.size := (by omega); have : XB < yr.now.heap.size + 1 + 1 := (by omega); have : KB < yr.now.heap.size := (by omega); have : KB ≤ yr.now.heap.size := (by omega); have : KB < yr.now.heap.size + 1 + 1 := (by omega); have : KB + 1 < yr.now.heap.size := (by omega); have : KB + 1 ≤ yr.now.heap.size := (by omega); have : KB + 1 < yr.now.heap.size + 1 + 1 := (by omega)) | (go_at_call 15; refine (Next_y (x.pl.length - v1) w.heap.size (M + 1) _ (by omega) (by omega) (by omega) hry5).mono ?_; rintro _ _ ⟨y6, v2, rfl, hvv2, rfl, hry6⟩; have sy6 := y6.size))
  have k6 : BelowX w.heap.size W5.heap.size W5 y6.now := y6.grew
  replace rX := (k6.block XB (row_lt rX) (by omega)).trans rX
  replace rk := (k6.block KB (row_lt rk) (by omega)).trans rk
  replace rf := (k6.block (KB + 1) (row_lt rf) (by omega)).trans rf
  replace hoA := owns_belowX hoA (by omega) k6
  replace hoG := owns_belowX hoG (by omega) k6
  replace hoL := hoL.onX (by omega) k6
  have hlim6 : LimAt y6.now := hlim5.rext (by omega) ⟨y6.now, k6⟩
  replace hBW := hBW.trans (k6.mono hBW.size)
  generalize y6.now = W6 at *
  clear lX lK lf k6 hry5 hry6 hR4
  obtain ⟨pa', ca', e2, hvA, -⟩ := vecs_of hoA
  have e21 := (Value.slice.inj e2).1
  clear e2
  subst e21
  obtain ⟨pg', cg', e2, hvG, -⟩ := vecs_of hoG
  have e21 := (Value.slice.inj e2).1
  clear e2
  subst e21
  have hxA : x.At W6 := hoL.at'
  have hB6 : Below w.heap.size w W6 := hBW.below (Nat.le_refl _)
  obtain ⟨T, hT⟩ : ∃ T, v1 + v2 = T := ⟨_, rfl⟩
  rw [hT]
  have hTn : v1 ≤ T ∧ T < x.pl.length := by omega
  have hbE := blowsE_of tA hok
  have hsE := sceneE_of tG hxok
  have htE := tollE_of hbE hsE hvv1.1 hTn.1 hTn.2
  obtain ⟨n0, hw0, hwT, hworst⟩ := worst_cell htE
  obtain ⟨c, q, hbr, hr1000, hbk⟩ := blowsA_ok hbE
  have ct := fun W (y : Below W6.heap.size W6 W) => Toll_any pa cca ls pg ccg gl x k f v1 T W (hlim6.on y) (hvA.on y) (hvG.on y) (hxA.on y)
  have cw := fun W (y : Below W6.heap.size W6 W) => Worst_any pa cca ls pg ccg gl x k f v1 T W (hlim6.on y) (hvA.on y) (hvG.on y) (hxA.on y)
  have cbl := fun W (y : Below W6.heap.size W6 W) => Blows_any pa cca ls k f W (hlim6.on y) (hvA.on y)
  rw [htE] at ct cw
  rw [hw0] at cw
  rw [hbE] at cbl
  have ch : Hid (∀ (i : Nat), v1 + i ≤ T → ∀ u ∈ v3s (blowsA ls k f), ∀ W, Below W6.heap.size W6 W → Calls Tryd.prog 35 #[.slice pa ls.length cca, .slice pg gl.length ccg, x.val, .int .i64 u.a, .int .i64 u.c, .int .i64 (v1 + i)] W (Gives (.tuple #[.int .i64 ((sceneV ls gl x).hi (v1 + i) u), .int .i64 0]) W)) := Go.Lib.hid (fun i hi u hu W y => by
    have hu2 := hbk u (by rw [← hbr]; exact hu)
    have e := harmsE_of (lays_ok tA) hsE hu2.l0 hu2.l1 (show 0 ≤ v1 + i by omega) (by omega)
    have h9 := Harms_any pa cca ls pg ccg gl x u.a u.c (v1 + i) W (hvA.on y) (hvG.on y) (hxA.on y)
    rw [harmsA_of e, e] at h9
    exact h9)
  have hBL0 : (v3s (blowsA ls k f)).length ≤ 1001 := by rw [hbr]; simp; omega
  have hbk2 : ∀ u ∈ v3s (blowsA ls k f), V3Ok ls.length u := by rw [hbr]; exact hbk
  generalize hSV : sceneV ls gl x = SV at *
  generalize minsV (tollsV ls gl x k f v1 T) = E1 at *
  generalize maxsV (tollsV ls gl x k f v1 T) = E2 at *
  replace hworst := Go.Lib.hid hworst
  replace hbk2 := Go.Lib.hid hbk2
  clear hbr hr1000 hbk hw0 htE hoA hoG hoL hvA hvG hxA tA tG hSV hBW hok hnA hallA hbE hsE hxok
  unfold LandR.val RockR.val FallR.val at *
  have a0 : W6.cell? ⟨XB, 0, none⟩ = some (.slice x.pp x.pl.length x.pc) := (cell_of_row W6 _ 0 _ _ _ rX).trans rfl
  have a1 : W6.cell? ⟨XB, 1, none⟩ = some (.slice x.wp x.wl.length x.wc) := (cell_of_row W6 _ 1 _ _ _ rX).trans rfl
  have c0 : W6.cell? ⟨KB, 0, none⟩ = some (.int .i64 k.size.x) := (cell_of_row W6 _ 0 _ _ _ rk).trans rfl
  have c1 : W6.cell? ⟨KB, 1, none⟩ = some (.int .i64 k.size.y) := (cell_of_row W6 _ 1 _ _ _ rk).trans rfl
  have c2 : W6.cell? ⟨KB, 2, none⟩ = some (.int .i64 k.dens.x) := (cell_of_row W6 _ 2 _ _ _ rk).trans rfl
  have c3 : W6.cell? ⟨KB, 3, none⟩ = some (.int .i64 k.dens.y) := (cell_of_row W6 _ 3 _ _ _ rk).trans rfl
  have c4 : W6.cell? ⟨KB, 4, none⟩ = some (.int .i64 k.strong.x) := (cell_of_row W6 _ 4 _ _ _ rk).trans rfl
  have c5 : W6.cell? ⟨KB, 5, none⟩ = some (.int .i64 k.strong.y) := (cell_of_row W6 _ 5 _ _ _ rk).trans rfl
  have c6 : W6.cell? ⟨KB, 6, none⟩ = some (.int .i64 k.spin.x) := (cell_of_row W6 _ 6 _ _ _ rk).trans rfl
  have c7 : W6.cell? ⟨KB, 7, none⟩ = some (.int .i64 k.spin.y) := (cell_of_row W6 _ 7 _ _ _ rk).trans rfl
  have c8 : W6.cell? ⟨KB, 8, none⟩ = some (.int .i64 k.shape.x) := (cell_of_row W6 _ 8 _ _ _ rk).trans rfl
  have c9 : W6.cell? ⟨KB, 9, none⟩ = some (.int .i64 k.shape.y) := (cell_of_row W6 _ 9 _ _ _ rk).trans rfl
  have c10 : W6.cell? ⟨KB, 10, none⟩ = some (.bool k.pile) := (cell_of_row W6 _ 10 _ _ _ rk).trans rfl
  have d0 : W6.cell? ⟨KB + 1, 0, none⟩ = some (.int .i64 f.speed.x) := (cell_of_row W6 _ 0 _ _ _ rf).trans rfl
  have d1 : W6.cell? ⟨KB + 1, 1, none⟩ = some (.int .i64 f.speed.y) := (cell_of_row W6 _ 1 _ _ _ rf).trans rfl
  have d2 : W6.cell? ⟨KB + 1, 2, none⟩ = some (.int .i64 f.slope.x) := (cell_of_row W6 _ 2 _ _ _ rf).trans rfl
  have d3 : W6.cell? ⟨KB + 1, 3, none⟩ = some (.int .i64 f.slope.y) := (cell_of_row W6 _ 3 _ _ _ rf).trans rfl
  have lX := row_lt rX
  have lK := row_lt rk
  have lf := row_lt rf
  go_upto_region 8 with (first | ((first | with_reducible refine wp_region_ext2 (by kernel_rfl) (by kernel_rfl) ?_ | with_reducible refine wp_region_ext (by kernel_rfl) (by kernel_rfl) ?_); (repeat (first | go_big_quiet_step ((first | (go_at_call 16; with_reducible exact Calls.ext (ct _ (by repeat' (first | (with_reducible exact Below.refl _ _) | (with_reducible assumption) | (with_reducible refine Ext.below _ ?_ ?_) | (with_reducible refine Below.on ?_ (by with_reducible assumption) ?_) | (with_reducible refine Below.alloc ?_ ?_ _) | (with_reducible refine Below.drew ?_) | (with_reducible refine Below.setCell ?_ ?_ _) | (with_reducible exact Nat.le_refl _) | omega | (simp; done) | (simp [go_sem]; done) | (simp at *; omega))))))) | quiet_step ((first | (go_at_call 16; with_reducible exact Calls.ext (ct _ (by repeat' (first | (with_reducible exact Below.refl _ _) | (with_reducible assumption) | (with_reducible refine Ext.below _ ?_ ?_) | (with_reducible refine Below.on ?_ (by with_reducible assumption) ?_) | (with_reducible refine Below.alloc ?_ ?_ _) | (with_reducible refine Below.drew ?_) | (with_reducible refine Below.setCell ?_ ?_ _) | (with_reducible exact Nat.le_refl _) | omega | (simp; done) | (simp [go_sem]; done) | (simp at *; omega))))))))); refine wpQuiet_nil ?_; rintro _ ⟨yr, rfl⟩; have syr := Ext.size yr; (repeat (first | rw [World.size_alloc] at syr | rw [World.size_setCell] at syr | rw [World.size_drew] at syr)); have : XB < yr.now.heap.size := (by omega); have : XB ≤ yr.now.heap.size := (by omega); have : XB < yr.now.heap.size + 1 + 1 := (by omega); have : KB < yr.now.heap.size := (by omega); have : KB ≤ yr.now.heap.size := (by omega); have : KB < yr.now.heap.size + 1 + 1 := (by omega); have : KB + 1 < yr.now.heap.size := (by omega); have : KB + 1 ≤ yr.now.heap.size := (by omega); have : KB + 1 < yr.now.heap.size + 1 + 1 := (by omega)) | (go_at_call 16; (first | with_reducible refine (Calls.giv2 (ct _ (by repeat' (first | (with_reducible exact Below.refl _ _) | (with_reducible assumption) | (with_reducible refine Ext.below _ ?_ ?_) | (with_reducible refine Below.on ?_ (by with_reducible assumption) ?_) | (with_reducible refine Below.alloc ?_ ?_ _) | (with_reducible refine Below.drew ?_) | (with_reducible refine Below.setCell ?_ ?_ _) | (with_reducible exact Nat.le_refl _) | omega | (simp; done) | (simp [go_sem]; done) | (simp at *; omega))))).mono ?_ | with_reducible refine (Calls.giv (ct _ (by repeat' (first | (with_reducible exact Below.refl _ _) | (with_reducible assumption) | (with_reducible refine Ext.below _ ?_ ?_) | (with_reducible refine Below.on ?_ (by with_reducible assumption) ?_) | (with_reducible refine Below.alloc ?_ ?_ _) | (with_reducible refine Below.drew ?_) | (with_reducible refine Below.setCell ?_ ?_ _) | (with_reducible exact Nat.le_refl _) | omega | (simp; done) | (simp [go_sem]; done) | (simp at *; omega))))).mono ?_); rintro _ _ ⟨y1, rfl, rfl⟩; have sy1 := Ext.size y1; (repeat (first | rw [World.size_alloc] at sy1 | rw [World.size_setCell] at sy1 | rw [World.size_drew] at sy1)); have : XB < y1.now.heap.size := (by omega); have : XB ≤ y1.now.heap.size := (by omega); have : XB < y1.now.heap.size + 1 + 1 := (by omega); have : KB < y1.now.heap.size := (by omega); have : KB ≤ y1.now.heap.size := (by omega); have : KB < y1.now.heap.size + 1 + 1 := (by omega); have : KB + 1 < y1.now.heap.size := (by omega); have : KB + 1 ≤ y1.now.heap.size := (by omega); have : KB + 1 < y1.now.heap.size + 1 + 1 := (by omega)))
  refine wp_named (fun W7 hW => ?_)
  have rT : W7.heap[y1.now.heap.size]? = some (.cells #[.int .i64 E1, .int .i64 E2] 29 (0, 0)) := by rw [← hW]; exact heap_alloc_new _ _
  have hB7 : Below W6.heap.size W6 W7 := by rw [← hW]; exact y1.grew.alloc y1.size _
  clear hW
  generalize y1.now.heap.size = TB at *
  clear y1
  replace rX := (hB7.block _ (row_lt rX)).trans rX
  replace rk := (hB7.block _ (row_lt rk)).trans rk
  replace rf := (hB7.block _ (row_lt rf)).trans rf
  clear a0 a1 c0 c1 c2 c3 c4 c5 c6 c7 c8 c9 c10 d0 d1 d2 d3 lX lK lf
  have a0 : W7.cell? ⟨XB, 0, none⟩ = some (.slice x.pp x.pl.length x.pc) := (cell_of_row W7 _ 0 _ _ _ rX).trans rfl
  have a1 : W7.cell? ⟨XB, 1, none⟩ = some (.slice x.wp x.wl.length x.wc) := (cell_of_row W7 _ 1 _ _ _ rX).trans rfl
  have c0 : W7.cell? ⟨KB, 0, none⟩ = some (.int .i64 k.size.x) := (cell_of_row W7 _ 0 _ _ _ rk).trans rfl
  have c1 : W7.cell? ⟨KB, 1, none⟩ = some (.int .i64 k.size.y) := (cell_of_row W7 _ 1 _ _ _ rk).trans rfl
  have c2 : W7.cell? ⟨KB, 2, none⟩ = some (.int .i64 k.dens.x) := (cell_of_row W7 _ 2 _ _ _ rk).trans rfl
  have c3 : W7.cell? ⟨KB, 3, none⟩ = some (.int .i64 k.dens.y) := (cell_of_row W7 _ 3 _ _ _ rk).trans rfl
  have c4 : W7.cell? ⟨KB, 4, none⟩ = some (.int .i64 k.strong.x) := (cell_of_row W7 _ 4 _ _ _ rk).trans rfl
  have c5 : W7.cell? ⟨KB, 5, none⟩ = some (.int .i64 k.strong.y) := (cell_of_row W7 _ 5 _ _ _ rk).trans rfl
  have c6 : W7.cell? ⟨KB, 6, none⟩ = some (.int .i64 k.spin.x) := (cell_of_row W7 _ 6 _ _ _ rk).trans rfl
  have c7 : W7.cell? ⟨KB, 7, none⟩ = some (.int .i64 k.spin.y) := (cell_of_row W7 _ 7 _ _ _ rk).trans rfl
  have c8 : W7.cell? ⟨KB, 8, none⟩ = some (.int .i64 k.shape.x) := (cell_of_row W7 _ 8 _ _ _ rk).trans rfl
  have c9 : W7.cell? ⟨KB, 9, none⟩ = some (.int .i64 k.shape.y) := (cell_of_row W7 _ 9 _ _ _ rk).trans rfl
  have c10 : W7.cell? ⟨KB, 10, none⟩ = some (.bool k.pile) := (cell_of_row W7 _ 10 _ _ _ rk).trans rfl
  have d0 : W7.cell? ⟨KB + 1, 0, none⟩ = some (.int .i64 f.speed.x) := (cell_of_row W7 _ 0 _ _ _ rf).trans rfl
  have d1 : W7.cell? ⟨KB + 1, 1, none⟩ = some (.int .i64 f.speed.y) := (cell_of_row W7 _ 1 _ _ _ rf).trans rfl
  have d2 : W7.cell? ⟨KB + 1, 2, none⟩ = some (.int .i64 f.slope.x) := (cell_of_row W7 _ 2 _ _ _ rf).trans rfl
  have d3 : W7.cell? ⟨KB + 1, 3, none⟩ = some (.int .i64 f.slope.y) := (cell_of_row W7 _ 3 _ _ _ rf).trans rfl
  have lX := row_lt rX
  have lK := row_lt rk
  have lf := row_lt rf
  have lT := row_lt rT
  have s7 := hB7.size
  go_upto_region 9 with (first | ((first | with_reducible refine wp_region_ext2 (by kernel_rfl) (by kernel_rfl) ?_ | with_reducible refine wp_region_ext (by kernel_rfl) (by kernel_rfl) ?_); (repeat (first | go_big_quiet_step ((first | (go_at_call 18; with_reducible exact Calls.ext (cw _ (hB7.trans (Below.mono (by repeat' (first | (with_reducible exact Below.refl _ _) | (with_reducible assumption) | (with_reducible refine Ext.below _ ?_ ?_) | (with_reducible refine Below.on ?_ (by with_reducible assumption) ?_) | (with_reducible refine Below.alloc ?_ ?_ _) | (with_reducible refine Below.drew ?_) | (with_reducible refine Below.setCell ?_ ?_ _) | (with_reducible exact Nat.le_refl _) | omega | (simp; done) | (simp [go_sem]; done) | (simp at *; omega))) s7)))))) | quiet_step ((first | (go_at_call 18; with_reducible exact Calls.ext (cw _ (hB7.trans (Below.mono (by repeat' (first | (with_reducible exact Below.refl _ _) | (with_reducible assumption) | (with_reducible refine Ext.below _ ?_ ?_) | (with_reducible refine Below.on ?_ (by with_reducible assumption) ?_) | (with_reducible refine Below.alloc ?_ ?_ _) | (with_reducible refine Below.drew ?_) | (with_reducible refine Below.setCell ?_ ?_ _) | (with_reducible exact Nat.le_refl _) | omega | (simp; done) | (simp [go_sem]; done) | (simp at *; omega))) s7)))))))); refine wpQuiet_nil ?_; rintro _ ⟨yr, rfl⟩; have syr := Ext.size yr; (repeat (first | rw [World.size_alloc] at syr | rw [World.size_setCell] at syr | rw [World.size_drew] at syr)); have : XB < yr.now.heap.size := (by omega); have : XB ≤ yr.now.heap.size := (by omega); have : XB < yr.now.heap.size + 1 + 1 := (by omega); have : KB < yr.now.heap.size := (by omega); have : KB ≤ yr.now.heap.size := (by omega); have : KB < yr.now.heap.size + 1 + 1 := (by omega); have : KB + 1 < yr.now.heap.size := (by omega); have : KB + 1 ≤ yr.now.heap.size := (by omega); have : KB + 1 < yr.now.heap.size + 1 + 1 := (by omega); have : TB < yr.now.heap.size := (by omega); have : TB ≤ yr.now.heap.size := (by omega); have : TB < yr.now.heap.size + 1 + 1 := (by omega)) | (go_at_call 18; (first | with_reducible refine (Calls.giv2 (cw _ (hB7.trans (Below.mono (by repeat' (first | (with_reducible exact Below.refl _ _) | (with_reducible assumption) | (with_reducible refine Ext.below _ ?_ ?_) | (with_reducible refine Below.on ?_ (by with_reducible assumption) ?_) | (with_reducible refine Below.alloc ?_ ?_ _) | (with_reducible refine Below.drew ?_) | (with_reducible refine Below.setCell ?_ ?_ _) | (with_reducible exact Nat.le_refl _) | omega | (simp; done) | (simp [go_sem]; done) | (simp at *; omega))) s7)))).mono ?_ | with_reducible refine (Calls.giv (cw _ (hB7.trans (Below.mono (by repeat' (first | (with_reducible exact Below.refl _ _) | (with_reducible assumption) | (with_reducible refine Ext.below _ ?_ ?_) | (with_reducible refine Below.on ?_ (by with_reducible assumption) ?_) | (with_reducible refine Below.alloc ?_ ?_ _) | (with_reducible refine Below.drew ?_) | (with_reducible refine Below.setCell ?_ ?_ _) | (with_reducible exact Nat.le_refl _) | omega | (simp; done) | (simp [go_sem]; done) | (simp at *; omega))) s7)))).mono ?_); rintro _ _ ⟨y1, rfl, rfl⟩; have sy1 := Ext.size y1; (repeat (first | rw [World.size_alloc] at sy1 | rw [World.size_setCell] at sy1 | rw [World.size_drew] at sy1)); have : XB < y1.now.heap.size := (by omega); have : XB ≤ y1.now.heap.size := (by omega); have : XB < y1.now.heap.size + 1 + 1 := (by omega); have : KB < y1.now.heap.size := (by omega); have : KB ≤ y1.now.heap.size := (by omega); have : KB < y1.now.heap.size + 1 + 1 := (by omega); have : KB + 1 < y1.now.heap.size := (by omega); have : KB + 1 ≤ y1.now.heap.size := (by omega); have : KB + 1 < y1.now.heap.size + 1 + 1 := (by omega); have : TB < y1.now.heap.size := (by omega); have : TB ≤ y1.now.heap.size := (by omega); have : TB < y1.now.heap.size + 1 + 1 := (by omega)))
  have s71 := y1.size
  have hB8 : Below W6.heap.size W6 y1.now := hB7.trans (y1.grew.mono s7)
  go_upto_region 10 with (first | ((first | with_reducible refine wp_region_ext2 (by kernel_rfl) (by kernel_rfl) ?_ | with_reducible refine wp_region_ext (by kernel_rfl) (by kernel_rfl) ?_); (repeat (first | go_big_quiet_step ((first | fail)) | quiet_step ((first | fail)))); refine wpQuiet_nil ?_; rintro _ ⟨yr, rfl⟩; have syr := Ext.size yr; (repeat (first | rw [World.size_alloc] at syr | rw [World.size_setCell] at syr | rw [World.size_drew] at syr))) | (go_at_call 26; refine (cbl _ (hB8.trans (Below.mono (by repeat' (first | (with_reducible exact Below.refl _ _) | (with_reducible assumption) | (with_reducible refine Ext.below _ ?_ ?_) | (with_reducible refine Below.on ?_ (by with_reducible assumption) ?_) | (with_reducible refine Below.alloc ?_ ?_ _) | (with_reducible refine Below.drew ?_) | (with_reducible refine Below.setCell ?_ ?_ _) | (with_reducible exact Nat.le_refl _) | omega | (simp; done) | (simp [go_sem]; done) | (simp at *; omega))) hB8.size))).mono ?_; rintro _ W9 ⟨bv, rfl, hb9, hrows⟩; obtain ⟨q9, cb9, rfl, hv3⟩ := v3_of hrows))
  have hB9 : Below W6.heap.size W6 W9 := hB8.trans (hb9.mono hB8.size)
  have hb7 : Below W7.heap.size W7 W9 := y1.grew.trans (hb9.mono s71)
  have hlim9 : LimAt W9 := hlim6.on hB9
  have hBw9 : Below w.heap.size w W9 := hB6.trans (hB9.mono hB6.size)
  replace rX := (hb7.block _ (row_lt rX)).trans rX
  replace rT := (hb7.block _ (row_lt rT)).trans rT
  clear a0 a1 c0 c1 c2 c3 c4 c5 c6 c7 c8 c9 c10 d0 d1 d2 d3 lX lK lf lT rk rf hb9 hrows ct cw cbl hB7 hB8 hb7
  have a0 : W9.cell? ⟨XB, 0, none⟩ = some (.slice x.pp x.pl.length x.pc) := (cell_of_row W9 _ 0 _ _ _ rX).trans rfl
  have a1 : W9.cell? ⟨XB, 1, none⟩ = some (.slice x.wp x.wl.length x.wc) := (cell_of_row W9 _ 1 _ _ _ rX).trans rfl
  have t0 : W9.cell? ⟨TB, 0, none⟩ = some (.int .i64 E1) := (cell_of_row W9 _ 0 _ _ _ rT).trans rfl
  have t1 : W9.cell? ⟨TB, 1, none⟩ = some (.int .i64 E2) := (cell_of_row W9 _ 1 _ _ _ rT).trans rfl
  have lX := row_lt rX
  have lT := row_lt rT
  generalize v3s (blowsA ls k f) = BL at *
  replace hv3 := Go.Lib.hid hv3
  replace hBw9 := Go.Lib.hid hBw9
  replace hB6 := Go.Lib.hid hB6
  replace hB9 := Go.Lib.hid hB9
  clear rX rT
  have hvn : v1 + n0 ≤ 15 := by omega
  generalize x.pl.length = n2 at *
  generalize x.wl.length = n3 at *
  go_upto_region 13 with (first | ((first | with_reducible refine wp_region_ext2 (by kernel_rfl) (by kernel_rfl) ?_ | with_reducible refine wp_region_ext (by kernel_rfl) (by kernel_rfl) ?_); (repeat (first | go_big_quiet_step ((first | fail)) | quiet_step ((first | fail)))); refine wpQuiet_nil ?_; rintro _ ⟨yr, rfl⟩; have syr := Ext.size yr; (repeat (first | rw [World.size_alloc] at syr | rw [World.size_setCell] at syr | rw [World.size_drew] at syr)); have : XB < yr.now.heap.size := (by omega); have : XB ≤ yr.now.heap.size := (by omega); have : XB < yr.now.heap.size + 1 + 1 := (by omega); have : TB < yr.now.heap.size := (by omega); have : TB ≤ yr.now.heap.size := (by omega); have : TB < yr.now.heap.size + 1 + 1 := (by omega)))
  go_loopw [18] (fun s W => ∃ (i : Nat) (z : Ext W9), s = .int .i64 (v1 + i) ∧ W = z.now ∧ i ≤ n0 + 1) (fun s _ => (v1 + n0 + 1 - intOf s).toNat)
  case atStart => exact ⟨0, ⟨W9, Below.refl _ _⟩, by simp, rfl, by omega⟩
  case round =>
    obtain ⟨i, z, rfl, rfl, hi⟩ := hrel
    have xs := z.size
    by_cases hlt : i ≤ n0
    · have hlt2 : v1 + (i : Int) ≤ v1 + n0 := by omega
      obtain ⟨H, hH⟩ : ∃ H, SV.highsF (v1 + i) (-1) BL = H := ⟨_, rfl⟩
      have hwi := hworst.out i hlt
      rw [hH] at hwi
      replace hH := Go.Lib.hid hH
      go_upto_region 17 with (first | ((first | with_reducible refine wp_region_ext2 (by kernel_rfl) (by kernel_rfl) ?_ | with_reducible refine wp_region_ext (by kernel_rfl) (by kernel_rfl) ?_); (repeat (first | go_big_quiet_step ((first | fail)) | quiet_step ((first | fail)))); refine wpQuiet_nil ?_; rintro _ ⟨yr, rfl⟩; have syr := Ext.size yr; (repeat (first | rw [World.size_alloc] at syr | rw [World.size_setCell] at syr | rw [World.size_drew] at syr)); have : XB < yr.now.heap.size := (by omega); have : XB ≤ yr.now.heap.size := (by omega); have : XB < yr.now.heap.size + 1 + 1 := (by omega); have : TB < yr.now.heap.size := (by omega); have : TB ≤ yr.now.heap.size := (by omega); have : TB < yr.now.heap.size + 1 + 1 := (by omega)))
      go_loopw [19, 20] (fun m t W => ∃ (j : Nat) (mv : Int) (y : Ext W9), m = .int .i64 mv ∧ t = .int .i64 j ∧ W = y.now ∧ Hid (j ≤ BL.length ∧ SV.highsF (v1 + i) mv (BL.drop j) = H)) (fun _ t _ => BL.length - (intOf t).toNat)
      case atStart => exact ⟨0, -1, z, rfl, rfl, rfl, Go.Lib.hid ⟨Nat.zero_le _, hH.out⟩⟩
      case round =>
        obtain ⟨j, mv, y, rfl, rfl, rfl, hy⟩ := hrel
        obtain ⟨g1, g2⟩ := hy.out
        have ys := y.size
        clear hy
        by_cases hj : j < BL.length
        · have hj2 : (j : Int) < BL.length := by omega
          obtain ⟨B, o, rfl, hB, d0, d1, d2⟩ := hv3.out j hj
          have hmem := List.getElem_mem hj
          have ok2 := hbk2.out _ hmem
          have c5 := fun (W : World) (k : Below W9.heap.size W9 W) => ch.out i (by omega) BL[j] hmem W (hB9.out.trans (k.mono hB9.out.size))
          rw [List.drop_eq_getElem_cons hj, SceneR.highsF] at g2
          generalize BL[j] = u at *
          generalize SV.hi (v1 + i) u = hv at *
          obtain ⟨m2, hm2⟩ : ∃ m2, max mv hv = m2 := ⟨_, rfl⟩
          rw [hm2] at g2
          have key : Hid (j + 1 ≤ BL.length ∧ SV.highsF (v1 + i) m2 (BL.drop (j + 1)) = H) := Go.Lib.hid ⟨hj, g2⟩
          clear g2 hmem
          have lBY : B < y.now.heap.size := by omega
          have lXY : XB < y.now.heap.size := by omega
          go_wp2_with (first | ((first | with_reducible refine wp_region_ext2 (by kernel_rfl) (by kernel_rfl) ?_ | with_reducible refine wp_region_ext (by kernel_rfl) (by kernel_rfl) ?_); (repeat (first | go_big_quiet_step ((first | (go_at_call 35; with_reducible exact Calls.ext (c5 _ (by repeat' (first | (with_reducible exact Below.refl _ _) | (with_reducible assumption) | (with_reducible refine Ext.below _ ?_ ?_) | (with_reducible refine Below.on ?_ (by with_reducible assumption) ?_) | (with_reducible refine Below.alloc ?_ ?_ _) | (with_reducible refine Below.drew ?_) | (with_reducible refine Below.setCell ?_ ?_ _) | (with_reducible exact Nat.le_refl _) | omega | (simp; done) | (simp [go_sem]; done) | (simp at *; omega))))))) | quiet_step ((first | (go_at_call 35; with_reducible exact Calls.ext (c5 _ (by repeat' (first | (with_reducible exact Below.refl _ _) | (with_reducible assumption) | (with_reducible refine Ext.below _ ?_ ?_) | (with_reducible refine Below.on ?_ (by with_reducible assumption) ?_) | (with_reducible refine Below.alloc ?_ ?_ _) | (with_reducible refine Below.drew ?_) | (with_reducible refine Below.setCell ?_ ?_ _) | (with_reducible exact Nat.le_refl _) | omega | (simp; done) | (simp [go_sem]; done) | (simp at *; omega))))))))); refine wpQuiet_nil ?_; rintro _ ⟨yr, rfl⟩; have syr := Ext.size yr; (repeat (first | rw [World.size_alloc] at syr | rw [World.size_setCell] at syr | rw [World.size_drew] at syr)); have : XB < yr.now.heap.size := (by omega); have : XB ≤ yr.now.heap.size := (by omega); have : XB < yr.now.heap.size + 1 + 1 := (by omega); have : TB < yr.now.heap.size := (by omega); have : TB ≤ yr.now.heap.size := (by omega); have : TB < yr.now.heap.size + 1 + 1 := (by omega); have : B < yr.now.heap.size := (by omega); have : B ≤ yr.now.heap.size := (by omega); have : B < yr.now.heap.size + 1 + 1 := (by omega)) | (go_at_call 35; (first | with_reducible refine (Calls.giv2 (c5 _ (by repeat' (first | (with_reducible exact Below.refl _ _) | (with_reducible assumption) | (with_reducible refine Ext.below _ ?_ ?_) | (with_reducible refine Below.on ?_ (by with_reducible assumption) ?_) | (with_reducible refine Below.alloc ?_ ?_ _) | (with_reducible refine Below.drew ?_) | (with_reducible refine Below.setCell ?_ ?_ _) | (with_reducible exact Nat.le_refl _) | omega | (simp; done) | (simp [go_sem]; done) | (simp at *; omega))))).mono ?_ | with_reducible refine (Calls.giv (c5 _ (by repeat' (first | (with_reducible exact Below.refl _ _) | (with_reducible assumption) | (with_reducible refine Ext.below _ ?_ ?_) | (with_reducible refine Below.on ?_ (by with_reducible assumption) ?_) | (with_reducible refine Below.alloc ?_ ?_ _) | (with_reducible refine Below.drew ?_) | (with_reducible refine Below.setCell ?_ ?_ _) | (with_reducible exact Nat.le_refl _) | omega | (simp; done) | (simp [go_sem]; done) | (simp at *; omega))))).mono ?_); rintro _ _ ⟨y1, rfl, rfl⟩; have sy1 := Ext.size y1; (repeat (first | rw [World.size_alloc] at sy1 | rw [World.size_setCell] at sy1 | rw [World.size_drew] at sy1)); have : XB < y1.now.heap.size := (by omega); have : XB ≤ y1.now.heap.size := (by omega); have : XB < y1.now.heap.size + 1 + 1 := (by omega); have : TB < y1.now.heap.size := (by omega); have : TB ≤ y1.now.heap.size := (by omega); have : TB < y1.now.heap.size + 1 + 1 := (by omega); have : B < y1.now.heap.size := (by omega); have : B ≤ y1.now.heap.size := (by omega); have : B < y1.now.heap.size + 1 + 1 := (by omega)))
          exact ⟨⟨j + 1, m2, ⟨_, by repeat' (first | (with_reducible exact Below.refl _ _) | (with_reducible assumption) | (with_reducible refine Ext.below _ ?_ ?_) | (with_reducible refine Below.on ?_ (by with_reducible assumption) ?_) | (with_reducible refine Below.alloc ?_ ?_ _) | (with_reducible refine Below.drew ?_) | (with_reducible refine Below.setCell ?_ ?_ _) | (with_reducible exact Nat.le_refl _) | omega | (simp; done) | (simp [go_sem]; done) | (simp at *; omega))⟩, by simp, by simp, rfl, key⟩, by simp [intOf]; omega⟩
        · have hge : ¬ (j : Int) < BL.length := by omega
          rw [List.drop_of_length_le (by omega), SceneR.highsF] at g2
          subst g2
          clear hH
          have lTY : TB < y.now.heap.size := by omega
          by_cases hin : i = n0
          · have hE := hwi.2 hin
            subst hin hE
            go_wp2_with (first | ((first | with_reducible refine wp_region_ext2 (by kernel_rfl) (by kernel_rfl) ?_ | with_reducible refine wp_region_ext (by kernel_rfl) (by kernel_rfl) ?_); (repeat (first | go_big_quiet_step ((first | fail)) | quiet_step ((first | fail)))); refine wpQuiet_nil ?_; rintro _ ⟨yr, rfl⟩; have syr := Ext.size yr; (repeat (first | rw [World.size_alloc] at syr | rw [World.size_setCell] at syr | rw [World.size_drew] at syr)); have : XB < yr.now.heap.size := (by omega); have : XB ≤ yr.now.heap.size := (by omega); have : XB < yr.now.heap.size + 1 + 1 := (by omega); have : TB < yr.now.heap.size := (by omega); have : TB ≤ yr.now.heap.size := (by omega); have : TB < yr.now.heap.size + 1 + 1 := (by omega)))
            exact ⟨⟨i + 1, y, by simp; omega, rfl, by omega⟩, by simp [intOf]; omega⟩
          · have hE : ¬ mv = E2 := fun q => hin (hwi.1 q)
            have hin2 : ¬ v1 + (i : Int) = v1 + n0 := by omega
            have hb1 : (mv == E2) = false := beq_eq_false_iff_ne.2 hE
            have hb2 : (v1 + (i : Int) == v1 + n0) = false := beq_eq_false_iff_ne.2 hin2
            go_wp2_with (first | ((first | with_reducible refine wp_region_ext2 (by kernel_rfl) (by kernel_rfl) ?_ | with_reducible refine wp_region_ext (by kernel_rfl) (by kernel_rfl) ?_); (repeat (first | go_big_quiet_step ((first | fail)) | quiet_step ((first | fail)))); refine wpQuiet_nil ?_; rintro _ ⟨yr, rfl⟩; have syr := Ext.size yr; (repeat (first | rw [World.size_alloc] at syr | rw [World.size_setCell] at syr | rw [World.size_drew] at syr)); have : XB < yr.now.heap.size := (by omega); have : XB ≤ yr.now.heap.size := (by omega); have : XB < yr.now.heap.size + 1 + 1 := (by omega); have : TB < yr.now.heap.size := (by omega); have : TB ≤ yr.now.heap.size := (by omega); have : TB < yr.now.heap.size + 1 + 1 := (by omega)))
            exact ⟨⟨i + 1, y, by simp; omega, rfl, by omega⟩, by simp [intOf]; omega⟩
    · have hge : ¬ v1 + (i : Int) ≤ v1 + n0 := by omega
      have hlim := hlim9
      go_wp2_with (first | ((first | with_reducible refine wp_region_ext2 (by kernel_rfl) (by kernel_rfl) ?_ | with_reducible refine wp_region_ext (by kernel_rfl) (by kernel_rfl) ?_); (repeat (first | go_big_quiet_step ((first | (go_at_call 9; with_reducible exact Calls.ext (ca _ (by repeat (first | exact hlim | (with_reducible refine LimAt.ext ?_ _) | (with_reducible refine LimAt.alloc ?_ _) | (with_reducible refine LimAt.drew ?_) | (with_reducible refine LimAt.rext ?_ (by omega) _) | (with_reducible refine LimAt.set ?_ (by omega) _))))))) | quiet_step ((first | (go_at_call 9; with_reducible exact Calls.ext (ca _ (by repeat (first | exact hlim | (with_reducible refine LimAt.ext ?_ _) | (with_reducible refine LimAt.alloc ?_ _) | (with_reducible refine LimAt.drew ?_) | (with_reducible refine LimAt.rext ?_ (by omega) _) | (with_reducible refine LimAt.set ?_ (by omega) _))))))))); refine wpQuiet_nil ?_; rintro _ ⟨yr, rfl⟩; have syr := Ext.size yr; (repeat (first | rw [World.size_alloc] at syr | rw [World.size_setCell] at syr | rw [World.size_drew] at syr))) | (go_at_call 9; (first | with_reducible refine (Calls.giv2 (ca _ (by repeat (first | exact hlim | (with_reducible refine LimAt.ext ?_ _) | (with_reducible refine LimAt.alloc ?_ _) | (with_reducible refine LimAt.drew ?_) | (with_reducible refine LimAt.rext ?_ (by omega) _) | (with_reducible refine LimAt.set ?_ (by omega) _))))).mono ?_ | with_reducible refine (Calls.giv (ca _ (by repeat (first | exact hlim | (with_reducible refine LimAt.ext ?_ _) | (with_reducible refine LimAt.alloc ?_ _) | (with_reducible refine LimAt.drew ?_) | (with_reducible refine LimAt.rext ?_ (by omega) _) | (with_reducible refine LimAt.set ?_ (by omega) _))))).mono ?_); rintro _ _ ⟨y1, rfl, rfl⟩; have sy1 := Ext.size y1; (repeat (first | rw [World.size_alloc] at sy1 | rw [World.size_setCell] at sy1 | rw [World.size_drew] at sy1))))
      go_returns
      refine ⟨rfl, ?_⟩
      have hBw := hBw9.out
      have sBw := hBw.size
      repeat' (first | (with_reducible exact Below.refl _ _) | (with_reducible assumption) | (with_reducible refine Ext.below _ ?_ ?_) | (with_reducible refine Below.on ?_ (by with_reducible assumption) ?_) | (with_reducible refine Below.alloc ?_ ?_ _) | (with_reducible refine Below.drew ?_) | (with_reducible refine Below.setCell ?_ ?_ _) | (with_reducible exact Nat.le_refl _) | omega | (simp; done) | (simp [go_sem]; done) | (simp at *; omega))
end Go.Proofs.YtlmhbggigbmeaaaDoor

/- For BlastInside: a rock with a fall inside another one has no other blows, each inside one of the other's; its toll lies inside, and that of a shorter stretch, too. Written by gen_out.py. Condition: none beyond the statement's own. -/
import Derived.Test.YtlmhbggigbmeaaaDoorBlX1
import Derived.Test.YtlmhbggigbmeaaaDoorBlAlG
import Derived.Test.YtlmhbggigbmeaaaDoorBlLo
import Derived.Test.YtlmhbggigbmeaaaDoorBlGo
import Derived.Test.YtlmhbggigbmeaaaDoorBlAG
import Derived.Test.YtlmhbggigbmeaaaDoorBlRock
import Derived.Test.YtlmhbggigbmeaaaDoorBlLess
import Derived.Test.YtlmhbggigbmeaaaDoorBlX2
namespace Go.Proofs.YtlmhbggigbmeaaaDoor
open Go.RowKit Go.Shelf
attribute [local go_sem] Option.isSome_some Ext.cell Ext.frozen Ext.lt Ext.le Ext.lt_add Ext.le_add Ext.ne Ext.ne' lt2 lt3 lt4 lt5 le2 le3 le4
attribute [local go_sem] RExt.cell RExt.frozen RExt.lt RExt.le RExt.lt_add RExt.le_add RExt.ne RExt.ne'
def inC (u c : V3) : Bool := decide (u.a = c.a ∧ u.b ≤ u.c ∧ c.b ≤ u.b ∧ u.c ≤ c.c)
theorem v3_inside {l : List V2} {k k' : RockR} {f f' : FallR} (h : blowsE l k f = 0) (h' : blowsE l k' f' = 0) (hin : RockIn k' f' k f) : ∀ c' ∈ v3s (blowsA l k' f'), ∃ c ∈ v3s (blowsA l k f), c.a = c'.a ∧ c.b ≤ c'.b ∧ c'.b ≤ c'.c ∧ c'.c ≤ c.c := fun c' hc' => by
  obtain ⟨b', hb', rfl⟩ := v3_mem.1 hc'
  obtain ⟨b, hb, e1, e2, e3, e4⟩ := blows_inside h h' hin b' hb'
  exact ⟨_, v3_mem.2 ⟨b, hb, rfl⟩, by simp only; omega, e2, e3, e4⟩
set_option maxRecDepth 100000 in
set_option maxHeartbeats 16000000 in
theorem BlastInside_any (sp : Option Addr) (sl sc : Nat) (sz : Nat → Int) (w : World) (hlim : LimAt w) (hw : ListIn w sp sl sz) : Calls Tryd.prog 6 #[.slice sp sl sc] w (Gives (.bool true) w) := by
  have ca := fun W (y : LimAt W) => blastAwake_any W y
  have hl0 := hlim.lt
  go_enter Tryd.func6, Tryd.ntmps6
  go_upto_region 2 with (first | ((first | with_reducible refine wrx2 ?_ | with_reducible refine wrx ?_); (repeat (first | go_big_quiet_step ((first | fail)) | quiet_step ((first | fail)))); refine wpQuiet_nil ?_; rintro _ ⟨yr, rfl⟩; have syr := Ext.size yr; (repeat (first | rw [World.size_alloc] at syr | rw [World.size_setCell] at syr | rw [World.size_drew] at syr))) | (go_at_call 10; refine (NewRing_r sp sl sc sz _ hw).mono ?_; rintro _ _ ⟨y0, rfl, rfl, hs0, hr0⟩))
  have hR0 : RingM y0.now w.heap.size 0 := ⟨_, _, _, _, _, hr0, Nat.le_refl _⟩
  have hlim1 : LimAt y0.now := hlim.ext y0
  have hb0 : Below w.heap.size w y0.now := y0.grew
  generalize y0.now = W1 at *
  clear hr0 hw hlim
  have hlW1 := hR0.lt
  go_upto_region 3 with (first | ((first | with_reducible refine wrx2 ?_ | with_reducible refine wrx ?_); (repeat (first | go_big_quiet_step ((first | fail)) | quiet_step ((first | fail)))); refine wpQuiet_nil ?_; rintro _ ⟨yr, rfl⟩; have syr := Ext.size yr; (repeat (first | rw [World.size_alloc] at syr | rw [World.size_setCell] at syr | rw [World.size_drew] at syr))) | (go_at_call 11; refine (RockOf_y w.heap.size 0 _ (by omega) hR0).mono ?_; rintro _ _ ⟨y1, k, f, rfl, hok, rfl, hr1⟩; unfold RockR.val FallR.val; have sy1 := y1.size))
  obtain ⟨m0, hm0⟩ : ∃ m0, 0 + 16 = m0 := ⟨_, rfl⟩
  refine wp_named (fun Wr hW => ?_)
  have hRr : RingM Wr w.heap.size m0 := by rw [← hW, ← hm0]; exact (hr1.alloc _).alloc _
  have hBr : BelowX w.heap.size w.heap.size w Wr := by
    rw [← hW]
    have h6 := (BelowX.of hb0).trans (y1.grew.mono (by omega))
    repeat' (first | (with_reducible exact BelowX.refl _ _ _) | (with_reducible assumption) | (with_reducible refine RExt.belowX _ ?_ ?_) | (with_reducible refine Ext.belowX _ ?_ ?_) | (with_reducible refine BelowX.alloc ?_ ?_ _) | (with_reducible refine BelowX.drew ?_) | (with_reducible refine BelowX.setCell ?_ ?_ _) | (with_reducible exact Nat.le_refl _) | omega | (simp; done) | (simp [go_sem]; done) | (simp at *; omega))
  have hlr : LimAt Wr := by
    rw [← hW]
    have hlim : LimAt y1.now := hlim1.rext (by omega) y1
    exact (by repeat (first | exact hlim | (with_reducible refine LimAt.ext ?_ _) | (with_reducible refine LimAt.alloc ?_ _) | (with_reducible refine LimAt.drew ?_) | (with_reducible refine LimAt.rext ?_ (by omega) _) | (with_reducible refine LimAt.set ?_ (by omega) _)))
  obtain ⟨rk, rf⟩ := alloc2_rows hW
  have eK : Wr.heap.size = y1.now.heap.size + 1 + 1 := by rw [← hW]; simp
  have hKw : w.heap.size < y1.now.heap.size := by omega
  clear hW hr1 hR0 hlim1 hb0
  generalize y1.now.heap.size = KB at *
  clear sy1 hs0 hlW1
  clear y1
  have hmm : m0 = 16 := hm0.symm
  clear hm0
  go_upto_region 4 with (first | ((first | with_reducible refine wrx2 ?_ | with_reducible refine wrx ?_); (repeat (first | go_big_quiet_step ((first | fail)) | quiet_step ((first | fail)))); refine wpQuiet_nil ?_; rintro _ ⟨yr, rfl⟩; have syr := Ext.size yr; (repeat (first | rw [World.size_alloc] at syr | rw [World.size_setCell] at syr | rw [World.size_drew] at syr))) | (go_at_call 12; refine (LayersOf_y w.heap.size m0 _ (by omega) hRr).mono ?_; rintro _ _ ⟨y2, lv, ls, rfl, hoA, hnA, hallA, rfl, hr2⟩; have sy2 := y2.size) | (go_at_call 13; refine (GradesOf_y w.heap.size (m0 + 20) _ (by omega) hr2).mono ?_; rintro _ _ ⟨y3, gv, gl, rfl, hoG, tG, rfl, hr3⟩; have sy3 := y3.size) | (go_at_call 14; refine (LandOf_z w.heap.size (m0 + 20 + 15) _ (by omega) hr3).mono ?_; rintro _ _ ⟨y4, x, rfl, hoL, hxok, ⟨hx16, -⟩, rfl, hr4⟩; unfold LandR.val; have sy4 := y4.size))
  obtain ⟨M, hM⟩ : ∃ M, m0 + 20 + 15 + 50 = M := ⟨_, rfl⟩
  refine wp_named (fun W4 hW => ?_)
  obtain ⟨pa, cca, rfl⟩ := owns_form hoA
  obtain ⟨pg, ccg, rfl⟩ := owns_form hoG
  have tA : LaysOk ls := ⟨hnA, hallA⟩
  have hB4 : BelowX w.heap.size Wr.heap.size Wr W4 := by
    rw [← hW]
    have h6 := (y2.grew.trans (y3.grew.mono (by omega))).trans (y4.grew.mono (by omega))
    repeat' (first | (with_reducible exact BelowX.refl _ _ _) | (with_reducible assumption) | (with_reducible refine RExt.belowX _ ?_ ?_) | (with_reducible refine Ext.belowX _ ?_ ?_) | (with_reducible refine BelowX.alloc ?_ ?_ _) | (with_reducible refine BelowX.drew ?_) | (with_reducible refine BelowX.setCell ?_ ?_ _) | (with_reducible exact Nat.le_refl _) | omega | (simp; done) | (simp [go_sem]; done) | (simp at *; omega))
  have k2 : BelowX w.heap.size y2.now.heap.size y2.now W4 := by
    rw [← hW]
    have h6 := y3.grew.trans (y4.grew.mono (by omega))
    repeat' (first | (with_reducible exact BelowX.refl _ _ _) | (with_reducible assumption) | (with_reducible refine RExt.belowX _ ?_ ?_) | (with_reducible refine Ext.belowX _ ?_ ?_) | (with_reducible refine BelowX.alloc ?_ ?_ _) | (with_reducible refine BelowX.drew ?_) | (with_reducible refine BelowX.setCell ?_ ?_ _) | (with_reducible exact Nat.le_refl _) | omega | (simp; done) | (simp [go_sem]; done) | (simp at *; omega))
  have k3 : BelowX w.heap.size y3.now.heap.size y3.now W4 := by
    rw [← hW]
    have h6 := y4.grew
    repeat' (first | (with_reducible exact BelowX.refl _ _ _) | (with_reducible assumption) | (with_reducible refine RExt.belowX _ ?_ ?_) | (with_reducible refine Ext.belowX _ ?_ ?_) | (with_reducible refine BelowX.alloc ?_ ?_ _) | (with_reducible refine BelowX.drew ?_) | (with_reducible refine BelowX.setCell ?_ ?_ _) | (with_reducible exact Nat.le_refl _) | omega | (simp; done) | (simp [go_sem]; done) | (simp at *; omega))
  have k4 : BelowX w.heap.size y4.now.heap.size y4.now W4 := by
    rw [← hW]
    exact (BelowX.refl _ _ _).alloc (Nat.le_refl _) _
  have rX : W4.heap[y4.now.heap.size]? = some (.cells #[.slice x.pp x.pl.length x.pc, .slice x.wp x.wl.length x.wc] 27 (0, 0)) := by rw [← hW]; exact heap_alloc_new _ _
  have hR4 : RingM W4 w.heap.size M := by rw [← hW, ← hM]; exact hr4.alloc _
  replace hoA := owns_base (owns_belowX hoA (by omega) k2) (show KB < Wr.heap.size by omega)
  replace hoG := owns_base (owns_belowX hoG (by omega) k3) (show KB < y2.now.heap.size by omega)
  replace hoL := (hoL.onX (by omega) k4).base (show KB < y3.now.heap.size by omega)
  have hlim4 : LimAt W4 := hlr.rext (by omega) ⟨W4, hB4⟩
  have hBW : BelowX w.heap.size w.heap.size w W4 := hBr.trans (hB4.mono hBr.size)
  replace rk := (hB4.block KB (row_lt rk) (by omega)).trans rk
  replace rf := (hB4.block (KB + 1) (row_lt rf) (by omega)).trans rf
  have nX : w.heap.size ≠ y4.now.heap.size := by omega
  have hMM : M = 101 := by omega
  clear hW hr2 hr3 hr4 hRr hBr hlr k2 k3 k4 hB4
  generalize y4.now.heap.size = XB at *
  clear sy2 sy3 sy4 hM hmm
  clear y4 y3 y2
  have ypos : (0 : Int) < x.pl.length ∧ (x.pl.length : Int) ≤ 16 := by have := hxok.pos; omega
  have c0 : W4.cell? ⟨KB, 0, none⟩ = some (.int .i64 k.size.x) := (cell_of_row W4 _ 0 _ _ _ rk).trans rfl
  have c1 : W4.cell? ⟨KB, 1, none⟩ = some (.int .i64 k.size.y) := (cell_of_row W4 _ 1 _ _ _ rk).trans rfl
  have c2 : W4.cell? ⟨KB, 2, none⟩ = some (.int .i64 k.dens.x) := (cell_of_row W4 _ 2 _ _ _ rk).trans rfl
  have c3 : W4.cell? ⟨KB, 3, none⟩ = some (.int .i64 k.dens.y) := (cell_of_row W4 _ 3 _ _ _ rk).trans rfl
  have c4 : W4.cell? ⟨KB, 4, none⟩ = some (.int .i64 k.strong.x) := (cell_of_row W4 _ 4 _ _ _ rk).trans rfl
  have c5 : W4.cell? ⟨KB, 5, none⟩ = some (.int .i64 k.strong.y) := (cell_of_row W4 _ 5 _ _ _ rk).trans rfl
  have c6 : W4.cell? ⟨KB, 6, none⟩ = some (.int .i64 k.spin.x) := (cell_of_row W4 _ 6 _ _ _ rk).trans rfl
  have c7 : W4.cell? ⟨KB, 7, none⟩ = some (.int .i64 k.spin.y) := (cell_of_row W4 _ 7 _ _ _ rk).trans rfl
  have c8 : W4.cell? ⟨KB, 8, none⟩ = some (.int .i64 k.shape.x) := (cell_of_row W4 _ 8 _ _ _ rk).trans rfl
  have c9 : W4.cell? ⟨KB, 9, none⟩ = some (.int .i64 k.shape.y) := (cell_of_row W4 _ 9 _ _ _ rk).trans rfl
  have c10 : W4.cell? ⟨KB, 10, none⟩ = some (.bool k.pile) := (cell_of_row W4 _ 10 _ _ _ rk).trans rfl
  have d0 : W4.cell? ⟨KB + 1, 0, none⟩ = some (.int .i64 f.speed.x) := (cell_of_row W4 _ 0 _ _ _ rf).trans rfl
  have d1 : W4.cell? ⟨KB + 1, 1, none⟩ = some (.int .i64 f.speed.y) := (cell_of_row W4 _ 1 _ _ _ rf).trans rfl
  have d2 : W4.cell? ⟨KB + 1, 2, none⟩ = some (.int .i64 f.slope.x) := (cell_of_row W4 _ 2 _ _ _ rf).trans rfl
  have d3 : W4.cell? ⟨KB + 1, 3, none⟩ = some (.int .i64 f.slope.y) := (cell_of_row W4 _ 3 _ _ _ rf).trans rfl
  have lX := row_lt rX
  have lK := row_lt rk
  have lf := row_lt rf
  go_upto_region 5 with (first | ((first | with_reducible refine wrx2 ?_ | with_reducible refine wrx ?_); (repeat (first | go_big_quiet_step ((first | fail)) | quiet_step ((first | fail)))); refine wpQuiet_nil ?_; rintro _ ⟨yr, rfl⟩; have syr := Ext.size yr; (repeat (first | rw [World.size_alloc] at syr | rw [World.size_setCell] at syr | rw [World.size_drew] at syr)); have : XB < yr.now.heap.size := (by omega); have : XB ≤ yr.now.heap.size := (by omega); have : XB < yr.now.heap.size + 1 + 1 := (by omega); have : KB < yr.now.heap.size := (by omega); have : KB ≤ yr.now.heap.size := (by omega); have : KB < yr.now.heap.size + 1 + 1 := (by omega); have : KB + 1 < yr.now.heap.size := (by omega); have : KB + 1 ≤ yr.now.heap.size := (by omega); have : KB + 1 < yr.now.heap.size + 1 + 1 := (by omega)) | (go_at_call 39; refine (LessRock_y w.heap.size M k f _ (by omega) hok hR4).mono ?_; rintro _ _ ⟨y5, k2, f2, rfl, hin, hok2, rfl, hr5⟩; unfold RockR.val FallR.val; have sy5 := y5.size))
  refine wp_named (fun W5 hW => ?_)
  obtain ⟨rk2, rf2⟩ := alloc2_rows hW
  have hB5 : BelowX w.heap.size W4.heap.size W4 W5 := by
    rw [← hW]
    have h6 := y5.grew
    repeat' (first | (with_reducible exact BelowX.refl _ _ _) | (with_reducible assumption) | (with_reducible refine RExt.belowX _ ?_ ?_) | (with_reducible refine Ext.belowX _ ?_ ?_) | (with_reducible refine BelowX.alloc ?_ ?_ _) | (with_reducible refine BelowX.drew ?_) | (with_reducible refine BelowX.setCell ?_ ?_ _) | (with_reducible exact Nat.le_refl _) | omega | (simp; done) | (simp [go_sem]; done) | (simp at *; omega))
  have hR5 : RingM W5 w.heap.size (M + 28) := by rw [← hW]; exact (hr5.alloc _).alloc _
  have sL : W4.heap.size ≤ y5.now.heap.size := sy5
  have hbL : w.heap.size < y5.now.heap.size := by have := hR4.lt; omega
  clear hW hr5
  generalize y5.now.heap.size = LB at *
  clear c0 c1 c2 c3 c4 c5 c6 c7 c8 c9 c10 d0 d1 d2 d3 lX lK lf
  replace rX := (hB5.block XB (row_lt rX) (by omega)).trans rX
  replace rk := (hB5.block KB (row_lt rk) (by omega)).trans rk
  replace rf := (hB5.block (KB + 1) (row_lt rf) (by omega)).trans rf
  replace hoA := owns_belowX hoA (by omega) hB5
  replace hoG := owns_belowX hoG (by omega) hB5
  replace hoL := hoL.onX (by omega) hB5
  have hlim5 : LimAt W5 := hlim4.rext (by omega) ⟨W5, hB5⟩
  replace hBW := hBW.trans (hB5.mono hBW.size)
  obtain ⟨pa', ca', e2, hvA, -⟩ := vecs_of hoA
  have e21 := (Value.slice.inj e2).1
  clear e2
  subst e21
  have hbE1 := blowsE_of tA hok
  have hbE2 := blowsE_of tA hok2
  have hsE := sceneE_of tG hxok
  have hvin := v3_inside hbE1 hbE2 hin
  have hBw5 : Below w.heap.size w W5 := hBW.below (Nat.le_refl _)
  have cbl2 := fun W (y : Below W5.heap.size W5 W) => Blows_any pa cca ls k2 f2 W (hlim5.on y) (hvA.on y)
  have cbl1 := fun W (y : Below W5.heap.size W5 W) => Blows_any pa cca ls k f W (hlim5.on y) (hvA.on y)
  rw [hbE2] at cbl2
  rw [hbE1] at cbl1
  have hA0 : 0 < (v3s (blowsA ls k2 f2)).length ∧ (v3s (blowsA ls k2 f2)).length ≤ 1001 := by
    obtain ⟨c, q, hbr, h9, -⟩ := blowsA_ok hbE2
    rw [hbr]; simp; omega
  have hB0 : (v3s (blowsA ls k f)).length ≤ 1001 := by
    obtain ⟨c, q, hbr, h9, -⟩ := blowsA_ok hbE1
    rw [hbr]; simp; omega
  have hok3 : ∀ u ∈ v3s (blowsA ls k f), u.b ≤ u.c := fun u hu => by
    obtain ⟨c, q, hbr, -, hk⟩ := blowsA_ok hbE1
    exact (hk u (by rw [← hbr]; exact hu)).le
  have hE1 : Hid (∀ (a b : Int), 0 ≤ a → a ≤ b → b < x.pl.length → tollE ls gl x k f a b = 0) := Go.Lib.hid (fun a b h1 h2 h3 => tollE_of hbE1 hsE h1 h2 h3)
  have hE2 : Hid (∀ (a b : Int), 0 ≤ a → a ≤ b → b < x.pl.length → tollE ls gl x k2 f2 a b = 0) := Go.Lib.hid (fun a b h1 h2 h3 => tollE_of hbE2 hsE h1 h2 h3)
  replace hvin := Go.Lib.hid hvin
  replace hok3 := Go.Lib.hid hok3
  clear hbE1 hbE2 hsE hR4
  have c0 : W5.cell? ⟨KB, 0, none⟩ = some (.int .i64 k.size.x) := (cell_of_row W5 _ 0 _ _ _ rk).trans rfl
  have c1 : W5.cell? ⟨KB, 1, none⟩ = some (.int .i64 k.size.y) := (cell_of_row W5 _ 1 _ _ _ rk).trans rfl
  have c2 : W5.cell? ⟨KB, 2, none⟩ = some (.int .i64 k.dens.x) := (cell_of_row W5 _ 2 _ _ _ rk).trans rfl
  have c3 : W5.cell? ⟨KB, 3, none⟩ = some (.int .i64 k.dens.y) := (cell_of_row W5 _ 3 _ _ _ rk).trans rfl
  have c4 : W5.cell? ⟨KB, 4, none⟩ = some (.int .i64 k.strong.x) := (cell_of_row W5 _ 4 _ _ _ rk).trans rfl
  have c5 : W5.cell? ⟨KB, 5, none⟩ = some (.int .i64 k.strong.y) := (cell_of_row W5 _ 5 _ _ _ rk).trans rfl
  have c6 : W5.cell? ⟨KB, 6, none⟩ = some (.int .i64 k.spin.x) := (cell_of_row W5 _ 6 _ _ _ rk).trans rfl
  have c7 : W5.cell? ⟨KB, 7, none⟩ = some (.int .i64 k.spin.y) := (cell_of_row W5 _ 7 _ _ _ rk).trans rfl
  have c8 : W5.cell? ⟨KB, 8, none⟩ = some (.int .i64 k.shape.x) := (cell_of_row W5 _ 8 _ _ _ rk).trans rfl
  have c9 : W5.cell? ⟨KB, 9, none⟩ = some (.int .i64 k.shape.y) := (cell_of_row W5 _ 9 _ _ _ rk).trans rfl
  have c10 : W5.cell? ⟨KB, 10, none⟩ = some (.bool k.pile) := (cell_of_row W5 _ 10 _ _ _ rk).trans rfl
  have d0 : W5.cell? ⟨KB + 1, 0, none⟩ = some (.int .i64 f.speed.x) := (cell_of_row W5 _ 0 _ _ _ rf).trans rfl
  have d1 : W5.cell? ⟨KB + 1, 1, none⟩ = some (.int .i64 f.speed.y) := (cell_of_row W5 _ 1 _ _ _ rf).trans rfl
  have d2 : W5.cell? ⟨KB + 1, 2, none⟩ = some (.int .i64 f.slope.x) := (cell_of_row W5 _ 2 _ _ _ rf).trans rfl
  have d3 : W5.cell? ⟨KB + 1, 3, none⟩ = some (.int .i64 f.slope.y) := (cell_of_row W5 _ 3 _ _ _ rf).trans rfl
  have p0 : W5.cell? ⟨LB, 0, none⟩ = some (.int .i64 k2.size.x) := (cell_of_row W5 _ 0 _ _ _ rk2).trans rfl
  have p1 : W5.cell? ⟨LB, 1, none⟩ = some (.int .i64 k2.size.y) := (cell_of_row W5 _ 1 _ _ _ rk2).trans rfl
  have p2 : W5.cell? ⟨LB, 2, none⟩ = some (.int .i64 k2.dens.x) := (cell_of_row W5 _ 2 _ _ _ rk2).trans rfl
  have p3 : W5.cell? ⟨LB, 3, none⟩ = some (.int .i64 k2.dens.y) := (cell_of_row W5 _ 3 _ _ _ rk2).trans rfl
  have p4 : W5.cell? ⟨LB, 4, none⟩ = some (.int .i64 k2.strong.x) := (cell_of_row W5 _ 4 _ _ _ rk2).trans rfl
  have p5 : W5.cell? ⟨LB, 5, none⟩ = some (.int .i64 k2.strong.y) := (cell_of_row W5 _ 5 _ _ _ rk2).trans rfl
  have p6 : W5.cell? ⟨LB, 6, none⟩ = some (.int .i64 k2.spin.x) := (cell_of_row W5 _ 6 _ _ _ rk2).trans rfl
  have p7 : W5.cell? ⟨LB, 7, none⟩ = some (.int .i64 k2.spin.y) := (cell_of_row W5 _ 7 _ _ _ rk2).trans rfl
  have p8 : W5.cell? ⟨LB, 8, none⟩ = some (.int .i64 k2.shape.x) := (cell_of_row W5 _ 8 _ _ _ rk2).trans rfl
  have p9 : W5.cell? ⟨LB, 9, none⟩ = some (.int .i64 k2.shape.y) := (cell_of_row W5 _ 9 _ _ _ rk2).trans rfl
  have p10 : W5.cell? ⟨LB, 10, none⟩ = some (.bool k2.pile) := (cell_of_row W5 _ 10 _ _ _ rk2).trans rfl
  have q0 : W5.cell? ⟨LB + 1, 0, none⟩ = some (.int .i64 f2.speed.x) := (cell_of_row W5 _ 0 _ _ _ rf2).trans rfl
  have q1 : W5.cell? ⟨LB + 1, 1, none⟩ = some (.int .i64 f2.speed.y) := (cell_of_row W5 _ 1 _ _ _ rf2).trans rfl
  have q2 : W5.cell? ⟨LB + 1, 2, none⟩ = some (.int .i64 f2.slope.x) := (cell_of_row W5 _ 2 _ _ _ rf2).trans rfl
  have q3 : W5.cell? ⟨LB + 1, 3, none⟩ = some (.int .i64 f2.slope.y) := (cell_of_row W5 _ 3 _ _ _ rf2).trans rfl
  have lX := row_lt rX
  have lK := row_lt rk
  have lf := row_lt rf
  have lk2 := row_lt rk2
  have lf2 := row_lt rf2
  unfold RockR.val FallR.val at *
  go_upto_region 6 with (first | ((first | with_reducible refine wrx2 ?_ | with_reducible refine wrx ?_); (repeat (first | go_big_quiet_step ((first | fail)) | quiet_step ((first | fail)))); refine wpQuiet_nil ?_; rintro _ ⟨yr, rfl⟩; have syr := Ext.size yr; (repeat (first | rw [World.size_alloc] at syr | rw [World.size_setCell] at syr | rw [World.size_drew] at syr)); have : XB < yr.now.heap.size := (by omega); have : XB ≤ yr.now.heap.size := (by omega); have : XB < yr.now.heap.size + 1 + 1 := (by omega); have : KB < yr.now.heap.size := (by omega); have : KB ≤ yr.now.heap.size := (by omega); have : KB < yr.now.heap.size + 1 + 1 := (by omega); have : KB + 1 < yr.now.heap.size := (by omega); have : KB + 1 ≤ yr.now.heap.size := (by omega); have : KB + 1 < yr.now.heap.size + 1 + 1 := (by omega); have : LB < yr.now.heap.size := (by omega); have : LB ≤ yr.now.heap.size := (by omega); have : LB < yr.now.heap.size + 1 + 1 := (by omega); have : LB + 1 < yr.now.heap.size := (by omega); have : LB + 1 ≤ yr.now.heap.size := (by omega); have : LB + 1 < yr.now.heap.size + 1 + 1 := (by omega)) | (go_at_call 26; refine (cbl2 _ bcl).mono ?_; rintro _ W6 ⟨bv, rfl, hb6, hrows⟩; obtain ⟨qa, ca2, rfl, hva⟩ := v3_of hrows))
  have s6 := hb6.size
  replace c0 := (hb6.cell (p := ⟨KB, 0, none⟩) lK).trans c0
  replace c1 := (hb6.cell (p := ⟨KB, 1, none⟩) lK).trans c1
  replace c2 := (hb6.cell (p := ⟨KB, 2, none⟩) lK).trans c2
  replace c3 := (hb6.cell (p := ⟨KB, 3, none⟩) lK).trans c3
  replace c4 := (hb6.cell (p := ⟨KB, 4, none⟩) lK).trans c4
  replace c5 := (hb6.cell (p := ⟨KB, 5, none⟩) lK).trans c5
  replace c6 := (hb6.cell (p := ⟨KB, 6, none⟩) lK).trans c6
  replace c7 := (hb6.cell (p := ⟨KB, 7, none⟩) lK).trans c7
  replace c8 := (hb6.cell (p := ⟨KB, 8, none⟩) lK).trans c8
  replace c9 := (hb6.cell (p := ⟨KB, 9, none⟩) lK).trans c9
  replace c10 := (hb6.cell (p := ⟨KB, 10, none⟩) lK).trans c10
  replace d0 := (hb6.cell (p := ⟨(KB + 1), 0, none⟩) lf).trans d0
  replace d1 := (hb6.cell (p := ⟨(KB + 1), 1, none⟩) lf).trans d1
  replace d2 := (hb6.cell (p := ⟨(KB + 1), 2, none⟩) lf).trans d2
  replace d3 := (hb6.cell (p := ⟨(KB + 1), 3, none⟩) lf).trans d3
  have cbl3 := fun W (y : Below W6.heap.size W6 W) => cbl1 W (hb6.trans (y.mono s6))
  have lK6 : KB < W6.heap.size := by omega
  have lf6 : KB + 1 < W6.heap.size := by omega
  clear cbl1 cbl2 hrows
  go_upto_region 7 with (first | ((first | with_reducible refine wrx2 ?_ | with_reducible refine wrx ?_); (repeat (first | go_big_quiet_step ((first | fail)) | quiet_step ((first | fail)))); refine wpQuiet_nil ?_; rintro _ ⟨yr, rfl⟩; have syr := Ext.size yr; (repeat (first | rw [World.size_alloc] at syr | rw [World.size_setCell] at syr | rw [World.size_drew] at syr)); have : XB < yr.now.heap.size := (by omega); have : XB ≤ yr.now.heap.size := (by omega); have : XB < yr.now.heap.size + 1 + 1 := (by omega); have : KB < yr.now.heap.size := (by omega); have : KB ≤ yr.now.heap.size := (by omega); have : KB < yr.now.heap.size + 1 + 1 := (by omega); have : KB + 1 < yr.now.heap.size := (by omega); have : KB + 1 ≤ yr.now.heap.size := (by omega); have : KB + 1 < yr.now.heap.size + 1 + 1 := (by omega); have : LB < yr.now.heap.size := (by omega); have : LB ≤ yr.now.heap.size := (by omega); have : LB < yr.now.heap.size + 1 + 1 := (by omega); have : LB + 1 < yr.now.heap.size := (by omega); have : LB + 1 ≤ yr.now.heap.size := (by omega); have : LB + 1 < yr.now.heap.size + 1 + 1 := (by omega)) | (go_at_call 26; refine (cbl3 _ bcl).mono ?_; rintro _ W7 ⟨bv, rfl, hb7, hrows⟩; obtain ⟨qb, cb2, rfl, hvb⟩ := v3_of hrows))
  have hB7 : Below W5.heap.size W5 W7 := hb6.trans (hb7.mono s6)
  replace hva := hva.on hb7
  have hlim7 : LimAt W7 := hlim5.on hB7
  have hR7 := hR5.on hB7
  have hBw7 : Below w.heap.size w W7 := hBw5.trans (hB7.mono hBw5.size)
  replace hoA := owns_below hoA hB7
  replace hoG := owns_below hoG hB7
  replace hoL := hoL.below hB7
  replace rX := (hB7.block XB (row_lt rX)).trans rX
  replace rk := (hB7.block KB (row_lt rk)).trans rk
  replace rf := (hB7.block (KB + 1) (row_lt rf)).trans rf
  replace rk2 := (hB7.block LB (row_lt rk2)).trans rk2
  replace rf2 := (hB7.block (LB + 1) (row_lt rf2)).trans rf2
  clear cbl3 hrows lX lK lf lk2 lf2 lK6 lf6 hb6 hb7 hB7 hR5 hBw5 hlim5 hvA s6 c0 c1 c2 c3 c4 c5 c6 c7 c8 c9 c10 d0 d1 d2 d3 p0 p1 p2 p3 p4 p5 p6 p7 p8 p9 p10 q0 q1 q2 q3
  obtain ⟨AL, hAL⟩ : ∃ L, v3s (blowsA ls k2 f2) = L := ⟨_, rfl⟩
  obtain ⟨BL, hBL⟩ : ∃ L, v3s (blowsA ls k f) = L := ⟨_, rfl⟩
  have hvin2 := hvin.out
  rw [hAL, hBL] at hvin2
  rw [hAL] at hva hA0
  rw [hBL] at hvb hB0
  rw [hAL, hBL]
  have hany : Hid (∀ u ∈ AL, BL.any (inC u) = true) := Go.Lib.hid (fun u hu => by
    obtain ⟨c, hc, e1, e2, e3, e4⟩ := hvin2 u hu
    exact List.any_eq_true.2 ⟨c, hc, decide_eq_true ⟨e1.symm, e3, e2, e4⟩⟩)
  clear hvin2
  replace hva := Go.Lib.hid hva
  replace hvb := Go.Lib.hid hvb
  replace hBw7 := Go.Lib.hid hBw7
  go_upto_region 10 with (first | ((first | with_reducible refine wrx2 ?_ | with_reducible refine wrx ?_); (repeat (first | go_big_quiet_step ((first | fail)) | quiet_step ((first | fail)))); refine wpQuiet_nil ?_; rintro _ ⟨yr, rfl⟩; have syr := Ext.size yr; (repeat (first | rw [World.size_alloc] at syr | rw [World.size_setCell] at syr | rw [World.size_drew] at syr))))
  go_loopw [15] (fun s W => ∃ (i : Nat) (y : Ext W7), s = .int .i64 i ∧ W = y.now ∧ i ≤ AL.length) (fun s _ => AL.length - (intOf s).toNat)
  case atStart => exact ⟨0, ⟨W7, Below.refl _ _⟩, rfl, rfl, by omega⟩
  case round =>
    obtain ⟨i, y, rfl, rfl, hi⟩ := hrel
    have ys := y.size
    by_cases hlt : i < AL.length
    · have hlt2 : (i : Int) < AL.length := by omega
      have hmem := hany.out AL[i] (List.getElem_mem hlt)
      obtain ⟨A, oa, rfl, hA, a0, a1, a2⟩ := hva.out i hlt
      generalize AL[i] = u at *
      have lA : A < y.now.heap.size := by omega
      replace hmem := Go.Lib.hid hmem
      go_upto_region 14 with (first | ((first | with_reducible refine wrx2 ?_ | with_reducible refine wrx ?_); (repeat (first | go_big_quiet_step ((first | fail)) | quiet_step ((first | fail)))); refine wpQuiet_nil ?_; rintro _ ⟨yr, rfl⟩; have syr := Ext.size yr; (repeat (first | rw [World.size_alloc] at syr | rw [World.size_setCell] at syr | rw [World.size_drew] at syr)); have : A < yr.now.heap.size := (by omega); have : A ≤ yr.now.heap.size := (by omega); have : A < yr.now.heap.size + 1 + 1 := (by omega)))
      go_loopw [16, 17] (fun fv t W => ∃ (j : Nat) (fb : Bool) (z : Ext W7), fv = .bool fb ∧ t = .int .i64 j ∧ W = z.now ∧ Hid (j ≤ BL.length ∧ (fb || (BL.drop j).any (inC u)) = true)) (fun _ t _ => BL.length - (intOf t).toNat)
      case atStart => exact ⟨0, false, y, rfl, rfl, rfl, Go.Lib.hid ⟨Nat.zero_le _, by simpa using hmem.out⟩⟩
      case round =>
        obtain ⟨j, fb, z, rfl, rfl, rfl, hz⟩ := hrel
        obtain ⟨g1, g2⟩ := hz.out
        have zs := z.size
        clear hz
        have lAz : A < z.now.heap.size := by omega
        by_cases hj : j < BL.length
        · have hj2 : (j : Int) < BL.length := by omega
          obtain ⟨B, o, rfl, hB, d0, d1, d2⟩ := hvb.out j hj
          have lBz : B < z.now.heap.size := by omega
          rw [List.drop_eq_getElem_cons hj, List.any_cons] at g2
          have ci := fun W => insideSpan_any u.b u.c BL[j].b BL[j].c W
          have hk : ∀ fb' : Bool, (fb || inC u BL[j]) = fb' → Hid (j + 1 ≤ BL.length ∧ (fb' || (BL.drop (j + 1)).any (inC u)) = true) := fun fb' e => Go.Lib.hid ⟨hj, by rw [← e, Bool.or_assoc]; exact g2⟩
          unfold inC at hk
          clear g2
          generalize BL[j] = v at *
          cases fb
          · by_cases hn : u.a = v.a
            · by_cases hd : u.b ≤ u.c ∧ v.b ≤ u.b ∧ u.c ≤ v.c
              · rw [decide_eq_true hd] at ci
                have key := hk true (by simp [hn, hd.1, hd.2.1, hd.2.2])
                clear hk
                go_wp2_with (first | ((first | with_reducible refine wrx2 ?_ | with_reducible refine wrx ?_); (repeat (first | go_big_quiet_step ((first | (go_at_call 40; with_reducible exact Calls.ext (ci _)))) | quiet_step ((first | (go_at_call 40; with_reducible exact Calls.ext (ci _)))))); refine wpQuiet_nil ?_; rintro _ ⟨yr, rfl⟩; have syr := Ext.size yr; (repeat (first | rw [World.size_alloc] at syr | rw [World.size_setCell] at syr | rw [World.size_drew] at syr)); have : A < yr.now.heap.size := (by omega); have : A ≤ yr.now.heap.size := (by omega); have : A < yr.now.heap.size + 1 + 1 := (by omega); have : B < yr.now.heap.size := (by omega); have : B ≤ yr.now.heap.size := (by omega); have : B < yr.now.heap.size + 1 + 1 := (by omega)) | (go_at_call 40; (first | with_reducible refine (Calls.giv2 (ci _)).mono ?_ | with_reducible refine (Calls.giv (ci _)).mono ?_); rintro _ _ ⟨y1, rfl, rfl⟩; have sy1 := Ext.size y1; (repeat (first | rw [World.size_alloc] at sy1 | rw [World.size_setCell] at sy1 | rw [World.size_drew] at sy1)); have : A < y1.now.heap.size := (by omega); have : A ≤ y1.now.heap.size := (by omega); have : A < y1.now.heap.size + 1 + 1 := (by omega); have : B < y1.now.heap.size := (by omega); have : B ≤ y1.now.heap.size := (by omega); have : B < y1.now.heap.size + 1 + 1 := (by omega)))
                exact ⟨⟨j + 1, true, ⟨_, by repeat' (first | (with_reducible exact Below.refl _ _) | (with_reducible assumption) | (with_reducible refine Ext.below _ ?_ ?_) | (with_reducible refine Below.on ?_ (by with_reducible assumption) ?_) | (with_reducible refine Below.alloc ?_ ?_ _) | (with_reducible refine Below.drew ?_) | (with_reducible refine Below.setCell ?_ ?_ _) | (with_reducible exact Nat.le_refl _) | omega | (simp; done) | (simp [go_sem]; done) | (simp at *; omega))⟩, by simp, by simp, rfl, key⟩, by simp [intOf]; omega⟩
              · rw [decide_eq_false hd] at ci
                have key := hk false (by simp only [Bool.false_or, decide_eq_false_iff_not]; exact fun q => hd q.2)
                clear hk
                go_wp2_with (first | ((first | with_reducible refine wrx2 ?_ | with_reducible refine wrx ?_); (repeat (first | go_big_quiet_step ((first | (go_at_call 40; with_reducible exact Calls.ext (ci _)))) | quiet_step ((first | (go_at_call 40; with_reducible exact Calls.ext (ci _)))))); refine wpQuiet_nil ?_; rintro _ ⟨yr, rfl⟩; have syr := Ext.size yr; (repeat (first | rw [World.size_alloc] at syr | rw [World.size_setCell] at syr | rw [World.size_drew] at syr)); have : A < yr.now.heap.size := (by omega); have : A ≤ yr.now.heap.size := (by omega); have : A < yr.now.heap.size + 1 + 1 := (by omega); have : B < yr.now.heap.size := (by omega); have : B ≤ yr.now.heap.size := (by omega); have : B < yr.now.heap.size + 1 + 1 := (by omega)) | (go_at_call 40; (first | with_reducible refine (Calls.giv2 (ci _)).mono ?_ | with_reducible refine (Calls.giv (ci _)).mono ?_); rintro _ _ ⟨y1, rfl, rfl⟩; have sy1 := Ext.size y1; (repeat (first | rw [World.size_alloc] at sy1 | rw [World.size_setCell] at sy1 | rw [World.size_drew] at sy1)); have : A < y1.now.heap.size := (by omega); have : A ≤ y1.now.heap.size := (by omega); have : A < y1.now.heap.size + 1 + 1 := (by omega); have : B < y1.now.heap.size := (by omega); have : B ≤ y1.now.heap.size := (by omega); have : B < y1.now.heap.size + 1 + 1 := (by omega)))
                exact ⟨⟨j + 1, false, ⟨_, by repeat' (first | (with_reducible exact Below.refl _ _) | (with_reducible assumption) | (with_reducible refine Ext.below _ ?_ ?_) | (with_reducible refine Below.on ?_ (by with_reducible assumption) ?_) | (with_reducible refine Below.alloc ?_ ?_ _) | (with_reducible refine Below.drew ?_) | (with_reducible refine Below.setCell ?_ ?_ _) | (with_reducible exact Nat.le_refl _) | omega | (simp; done) | (simp [go_sem]; done) | (simp at *; omega))⟩, by simp, by simp, rfl, key⟩, by simp [intOf]; omega⟩
            · have key := hk false (by simp only [Bool.false_or, decide_eq_false_iff_not]; exact fun q => hn q.1)
              clear hk
              have hnb : (u.a == v.a) = false := beq_eq_false_iff_ne.2 hn
              go_wp2_with (first | ((first | with_reducible refine wrx2 ?_ | with_reducible refine wrx ?_); (repeat (first | go_big_quiet_step ((first | (go_at_call 40; with_reducible exact Calls.ext (ci _)))) | quiet_step ((first | (go_at_call 40; with_reducible exact Calls.ext (ci _)))))); refine wpQuiet_nil ?_; rintro _ ⟨yr, rfl⟩; have syr := Ext.size yr; (repeat (first | rw [World.size_alloc] at syr | rw [World.size_setCell] at syr | rw [World.size_drew] at syr)); have : A < yr.now.heap.size := (by omega); have : A ≤ yr.now.heap.size := (by omega); have : A < yr.now.heap.size + 1 + 1 := (by omega); have : B < yr.now.heap.size := (by omega); have : B ≤ yr.now.heap.size := (by omega); have : B < yr.now.heap.size + 1 + 1 := (by omega)) | (go_at_call 40; (first | with_reducible refine (Calls.giv2 (ci _)).mono ?_ | with_reducible refine (Calls.giv (ci _)).mono ?_); rintro _ _ ⟨y1, rfl, rfl⟩; have sy1 := Ext.size y1; (repeat (first | rw [World.size_alloc] at sy1 | rw [World.size_setCell] at sy1 | rw [World.size_drew] at sy1)); have : A < y1.now.heap.size := (by omega); have : A ≤ y1.now.heap.size := (by omega); have : A < y1.now.heap.size + 1 + 1 := (by omega); have : B < y1.now.heap.size := (by omega); have : B ≤ y1.now.heap.size := (by omega); have : B < y1.now.heap.size + 1 + 1 := (by omega)))
              exact ⟨⟨j + 1, false, ⟨_, by repeat' (first | (with_reducible exact Below.refl _ _) | (with_reducible assumption) | (with_reducible refine Ext.below _ ?_ ?_) | (with_reducible refine Below.on ?_ (by with_reducible assumption) ?_) | (with_reducible refine Below.alloc ?_ ?_ _) | (with_reducible refine Below.drew ?_) | (with_reducible refine Below.setCell ?_ ?_ _) | (with_reducible exact Nat.le_refl _) | omega | (simp; done) | (simp [go_sem]; done) | (simp at *; omega))⟩, by simp, by simp, rfl, key⟩, by simp [intOf]; omega⟩
          · have key := hk true (by simp)
            clear hk
            go_wp2_with (first | ((first | with_reducible refine wrx2 ?_ | with_reducible refine wrx ?_); (repeat (first | go_big_quiet_step ((first | (go_at_call 40; with_reducible exact Calls.ext (ci _)))) | quiet_step ((first | (go_at_call 40; with_reducible exact Calls.ext (ci _)))))); refine wpQuiet_nil ?_; rintro _ ⟨yr, rfl⟩; have syr := Ext.size yr; (repeat (first | rw [World.size_alloc] at syr | rw [World.size_setCell] at syr | rw [World.size_drew] at syr)); have : A < yr.now.heap.size := (by omega); have : A ≤ yr.now.heap.size := (by omega); have : A < yr.now.heap.size + 1 + 1 := (by omega); have : B < yr.now.heap.size := (by omega); have : B ≤ yr.now.heap.size := (by omega); have : B < yr.now.heap.size + 1 + 1 := (by omega)) | (go_at_call 40; (first | with_reducible refine (Calls.giv2 (ci _)).mono ?_ | with_reducible refine (Calls.giv (ci _)).mono ?_); rintro _ _ ⟨y1, rfl, rfl⟩; have sy1 := Ext.size y1; (repeat (first | rw [World.size_alloc] at sy1 | rw [World.size_setCell] at sy1 | rw [World.size_drew] at sy1)); have : A < y1.now.heap.size := (by omega); have : A ≤ y1.now.heap.size := (by omega); have : A < y1.now.heap.size + 1 + 1 := (by omega); have : B < y1.now.heap.size := (by omega); have : B ≤ y1.now.heap.size := (by omega); have : B < y1.now.heap.size + 1 + 1 := (by omega)))
            exact ⟨⟨j + 1, true, ⟨_, by repeat' (first | (with_reducible exact Below.refl _ _) | (with_reducible assumption) | (with_reducible refine Ext.below _ ?_ ?_) | (with_reducible refine Below.on ?_ (by with_reducible assumption) ?_) | (with_reducible refine Below.alloc ?_ ?_ _) | (with_reducible refine Below.drew ?_) | (with_reducible refine Below.setCell ?_ ?_ _) | (with_reducible exact Nat.le_refl _) | omega | (simp; done) | (simp [go_sem]; done) | (simp at *; omega))⟩, by simp, by simp, rfl, key⟩, by simp [intOf]; omega⟩
        · have hge : ¬ (j : Int) < BL.length := by omega
          rw [List.drop_of_length_le (by omega), List.any_nil, Bool.or_false] at g2
          subst g2
          go_wp2_with (first | ((first | with_reducible refine wrx2 ?_ | with_reducible refine wrx ?_); (repeat (first | go_big_quiet_step ((first | fail)) | quiet_step ((first | fail)))); refine wpQuiet_nil ?_; rintro _ ⟨yr, rfl⟩; have syr := Ext.size yr; (repeat (first | rw [World.size_alloc] at syr | rw [World.size_setCell] at syr | rw [World.size_drew] at syr)); have : A < yr.now.heap.size := (by omega); have : A ≤ yr.now.heap.size := (by omega); have : A < yr.now.heap.size + 1 + 1 := (by omega)))
          exact ⟨⟨i + 1, z, by simp, rfl, by omega⟩, by simp [intOf]; omega⟩
    · have hge : ¬ (i : Int) < AL.length := by omega
      replace rX := (y.grew.block XB (row_lt rX)).trans rX
      replace rk := (y.grew.block KB (row_lt rk)).trans rk
      replace rf := (y.grew.block (KB + 1) (row_lt rf)).trans rf
      replace rk2 := (y.grew.block LB (row_lt rk2)).trans rk2
      replace rf2 := (y.grew.block (LB + 1) (row_lt rf2)).trans rf2
      replace hoA := owns_below hoA y.grew
      replace hoG := owns_below hoG y.grew
      replace hoL := hoL.below y.grew
      have hlim8 : LimAt y.now := hlim7.on y.grew
      have hR8 := hR7.on y.grew
      have hBW8 : BelowX w.heap.size w.heap.size w y.now := BelowX.of (hBw7.out.trans (y.grew.mono hBw7.out.size))
      generalize y.now = W8 at *
      have a0 : W8.cell? ⟨XB, 0, none⟩ = some (.slice x.pp x.pl.length x.pc) := (cell_of_row W8 _ 0 _ _ _ rX).trans rfl
      have a1 : W8.cell? ⟨XB, 1, none⟩ = some (.slice x.wp x.wl.length x.wc) := (cell_of_row W8 _ 1 _ _ _ rX).trans rfl
      have lX := row_lt rX
      clear hva hvb hany hvin
      have hM128 : M + 28 ≤ 200 := by omega
      go_upto_region 20 with (first | ((first | with_reducible refine wrx2 ?_ | with_reducible refine wrx ?_); (repeat (first | go_big_quiet_step ((first | fail)) | quiet_step ((first | fail)))); refine wpQuiet_nil ?_; rintro _ ⟨yr, rfl⟩; have syr := Ext.size yr; (repeat (first | rw [World.size_alloc] at syr | rw [World.size_setCell] at syr | rw [World.size_drew] at syr)); have : XB < yr.now.heap.size := (by omega); have : XB ≤ yr.now.heap.size := (by omega); have : XB < yr.now.heap.size + 1 + 1 := (by omega)))
      go_upto_region 21 with (first | ((first | with_reducible refine wrx2 ?_ | with_reducible refine wrx ?_); (repeat (first | go_big_quiet_step ((first | fail)) | quiet_step ((first | fail)))); refine wpQuiet_nil ?_; rintro _ ⟨yr, rfl⟩; have syr := Ext.size yr; (repeat (first | rw [World.size_alloc] at syr | rw [World.size_setCell] at syr | rw [World.size_drew] at syr)); have : XB < yr.now.heap.size := (by omega); have : XB ≤ yr.now.heap.size := (by omega); have : XB < yr.now.heap.size + 1 + 1 := (by omega)) | (go_at_call 15; refine (Next_y x.pl.length w.heap.size (M + 28) _ (by omega) (by omega) (by omega) hR8).mono ?_; rintro _ _ ⟨y6, v1, rfl, hvv1, rfl, hry6⟩; have sy6 := y6.size))
      clear a0 a1 lX
      replace rX := (BelowX.block y6.grew XB (row_lt rX) (by omega)).trans rX
      replace rk := (BelowX.block y6.grew KB (row_lt rk) (by omega)).trans rk
      replace rf := (BelowX.block y6.grew (KB + 1) (row_lt rf) (by omega)).trans rf
      replace rk2 := (BelowX.block y6.grew LB (row_lt rk2) (by omega)).trans rk2
      replace rf2 := (BelowX.block y6.grew (LB + 1) (row_lt rf2) (by omega)).trans rf2
      replace hoA := owns_belowX hoA (by omega) y6.grew
      replace hoG := owns_belowX hoG (by omega) y6.grew
      replace hoL := hoL.onX (by omega) y6.grew
      have hlim9 : LimAt y6.now := hlim8.rext (by omega) ⟨y6.now, y6.grew⟩
      have hBW9 := hBW8.trans (BelowX.mono y6.grew hBW8.size)
      generalize y6.now = W9 at *
      go_upto_region 22 with (first | ((first | with_reducible refine wrx2 ?_ | with_reducible refine wrx ?_); (repeat (first | go_big_quiet_step ((first | fail)) | quiet_step ((first | fail)))); refine wpQuiet_nil ?_; rintro _ ⟨yr, rfl⟩; have syr := Ext.size yr; (repeat (first | rw [World.size_alloc] at syr | rw [World.size_setCell] at syr | rw [World.size_drew] at syr)); have : w.heap.size < yr.now.heap.size := (by omega); have : w.heap.size ≤ yr.now.heap.size := (by omega); have : w.heap.size < yr.now.heap.size + 1 + 1 := (by omega)) | (go_at_call 15; refine (Next_y (x.pl.length - v1) w.heap.size (M + 28 + 1) _ (by omega) (by omega) (by omega) hry6).mono ?_; rintro _ _ ⟨y7, v2, rfl, hvv2, rfl, hry7⟩; have sy7 := y7.size))
      replace rX := (BelowX.block y7.grew XB (row_lt rX) (by omega)).trans rX
      replace rk := (BelowX.block y7.grew KB (row_lt rk) (by omega)).trans rk
      replace rf := (BelowX.block y7.grew (KB + 1) (row_lt rf) (by omega)).trans rf
      replace rk2 := (BelowX.block y7.grew LB (row_lt rk2) (by omega)).trans rk2
      replace rf2 := (BelowX.block y7.grew (LB + 1) (row_lt rf2) (by omega)).trans rf2
      replace hoA := owns_belowX hoA (by omega) y7.grew
      replace hoG := owns_belowX hoG (by omega) y7.grew
      replace hoL := hoL.onX (by omega) y7.grew
      have hlim10 : LimAt y7.now := hlim9.rext (by omega) ⟨y7.now, y7.grew⟩
      have hBW10 := hBW9.trans (BelowX.mono y7.grew hBW9.size)
      generalize y7.now = W10 at *
      obtain ⟨pa', ca', e2, hvA, -⟩ := vecs_of hoA
      have e21 := (Value.slice.inj e2).1
      clear e2
      subst e21
      obtain ⟨pg', cg', e2, hvG, -⟩ := vecs_of hoG
      have e21 := (Value.slice.inj e2).1
      clear e2
      subst e21
      have hxA : x.At W10 := hoL.at'
      obtain ⟨T, hT⟩ : ∃ T, v1 + v2 = T := ⟨_, rfl⟩
      rw [hT]
      have hTn : v1 ≤ T ∧ T < x.pl.length := by omega
      have hF1 := hE2.out v1 T hvv1.1 hTn.1 hTn.2
      have hF2 := hE1.out v1 T hvv1.1 hTn.1 hTn.2
      have hF3 := hE1.out 0 (x.pl.length - 1) (by omega) (by omega) (by omega)
      have hin1 := toll_inside hF2 hF1 (Int.le_refl _) (Int.le_refl _) (v3_inside (tollE_in hF2).1 (tollE_in hF1).1 hin)
      have hin2 := toll_inside hF3 hF2 hvv1.1 (by omega) (fun c hc => ⟨c, hc, rfl, Int.le_refl _, hok3.out c hc, Int.le_refl _⟩)
      have ct1 := fun W (y : Below W10.heap.size W10 W) => Toll_any pa cca ls pg ccg gl x k2 f2 v1 T W (hlim10.on y) (hvA.on y) (hvG.on y) (hxA.on y)
      have ct2 := fun W (y : Below W10.heap.size W10 W) => Toll_any pa cca ls pg ccg gl x k f v1 T W (hlim10.on y) (hvA.on y) (hvG.on y) (hxA.on y)
      have ct3 := fun W (y : Below W10.heap.size W10 W) => Toll_any pa cca ls pg ccg gl x k f 0 (x.pl.length - 1) W (hlim10.on y) (hvA.on y) (hvG.on y) (hxA.on y)
      rw [hF1] at ct1
      rw [hF2] at ct2
      rw [hF3] at ct3
      generalize minsV (tollsV ls gl x k2 f2 v1 T) = P1 at *
      generalize maxsV (tollsV ls gl x k2 f2 v1 T) = P2 at *
      generalize minsV (tollsV ls gl x k f v1 T) = Q1 at *
      generalize maxsV (tollsV ls gl x k f v1 T) = Q2 at *
      generalize minsV (tollsV ls gl x k f 0 (x.pl.length - 1)) = S1 at *
      generalize maxsV (tollsV ls gl x k f 0 (x.pl.length - 1)) = S2 at *
      have ci1 := fun W => insideSpan_any P1 P2 Q1 Q2 W
      have ci2 := fun W => insideSpan_any Q1 Q2 S1 S2 W
      rw [decide_eq_true ⟨hin1.2.1, hin1.1, hin1.2.2⟩] at ci1
      rw [decide_eq_true ⟨hin2.2.1, hin2.1, hin2.2.2⟩] at ci2
      have hBw10 : Hid (Below w.heap.size w W10) := Go.Lib.hid (hBW10.below (Nat.le_refl _))
      have hApos : (0 : Int) < AL.length := by omega
      clear hF1 hF2 hF3 hin1 hin2 hE1 hE2 hok3 hvA hvG hxA hoA hoG hoL hin hok hok2 tA tG hBW10 hR8 hry6 hry7 hBw7 hAL hBL
      unfold LandR.val RockR.val FallR.val at *
      have a0 : W10.cell? ⟨XB, 0, none⟩ = some (.slice x.pp x.pl.length x.pc) := (cell_of_row W10 _ 0 _ _ _ rX).trans rfl
      have a1 : W10.cell? ⟨XB, 1, none⟩ = some (.slice x.wp x.wl.length x.wc) := (cell_of_row W10 _ 1 _ _ _ rX).trans rfl
      have c0 : W10.cell? ⟨KB, 0, none⟩ = some (.int .i64 k.size.x) := (cell_of_row W10 _ 0 _ _ _ rk).trans rfl
      have c1 : W10.cell? ⟨KB, 1, none⟩ = some (.int .i64 k.size.y) := (cell_of_row W10 _ 1 _ _ _ rk).trans rfl
      have c2 : W10.cell? ⟨KB, 2, none⟩ = some (.int .i64 k.dens.x) := (cell_of_row W10 _ 2 _ _ _ rk).trans rfl
      have c3 : W10.cell? ⟨KB, 3, none⟩ = some (.int .i64 k.dens.y) := (cell_of_row W10 _ 3 _ _ _ rk).trans rfl
      have c4 : W10.cell? ⟨KB, 4, none⟩ = some (.int .i64 k.strong.x) := (cell_of_row W10 _ 4 _ _ _ rk).trans rfl
      have c5 : W10.cell? ⟨KB, 5, none⟩ = some (.int .i64 k.strong.y) := (cell_of_row W10 _ 5 _ _ _ rk).trans rfl
      have c6 : W10.cell? ⟨KB, 6, none⟩ = some (.int .i64 k.spin.x) := (cell_of_row W10 _ 6 _ _ _ rk).trans rfl
      have c7 : W10.cell? ⟨KB, 7, none⟩ = some (.int .i64 k.spin.y) := (cell_of_row W10 _ 7 _ _ _ rk).trans rfl
      have c8 : W10.cell? ⟨KB, 8, none⟩ = some (.int .i64 k.shape.x) := (cell_of_row W10 _ 8 _ _ _ rk).trans rfl
      have c9 : W10.cell? ⟨KB, 9, none⟩ = some (.int .i64 k.shape.y) := (cell_of_row W10 _ 9 _ _ _ rk).trans rfl
      have c10 : W10.cell? ⟨KB, 10, none⟩ = some (.bool k.pile) := (cell_of_row W10 _ 10 _ _ _ rk).trans rfl
      have d0 : W10.cell? ⟨KB + 1, 0, none⟩ = some (.int .i64 f.speed.x) := (cell_of_row W10 _ 0 _ _ _ rf).trans rfl
      have d1 : W10.cell? ⟨KB + 1, 1, none⟩ = some (.int .i64 f.speed.y) := (cell_of_row W10 _ 1 _ _ _ rf).trans rfl
      have d2 : W10.cell? ⟨KB + 1, 2, none⟩ = some (.int .i64 f.slope.x) := (cell_of_row W10 _ 2 _ _ _ rf).trans rfl
      have d3 : W10.cell? ⟨KB + 1, 3, none⟩ = some (.int .i64 f.slope.y) := (cell_of_row W10 _ 3 _ _ _ rf).trans rfl
      have p0 : W10.cell? ⟨LB, 0, none⟩ = some (.int .i64 k2.size.x) := (cell_of_row W10 _ 0 _ _ _ rk2).trans rfl
      have p1 : W10.cell? ⟨LB, 1, none⟩ = some (.int .i64 k2.size.y) := (cell_of_row W10 _ 1 _ _ _ rk2).trans rfl
      have p2 : W10.cell? ⟨LB, 2, none⟩ = some (.int .i64 k2.dens.x) := (cell_of_row W10 _ 2 _ _ _ rk2).trans rfl
      have p3 : W10.cell? ⟨LB, 3, none⟩ = some (.int .i64 k2.dens.y) := (cell_of_row W10 _ 3 _ _ _ rk2).trans rfl
      have p4 : W10.cell? ⟨LB, 4, none⟩ = some (.int .i64 k2.strong.x) := (cell_of_row W10 _ 4 _ _ _ rk2).trans rfl
      have p5 : W10.cell? ⟨LB, 5, none⟩ = some (.int .i64 k2.strong.y) := (cell_of_row W10 _ 5 _ _ _ rk2).trans rfl
      have p6 : W10.cell? ⟨LB, 6, none⟩ = some (.int .i64 k2.spin.x) := (cell_of_row W10 _ 6 _ _ _ rk2).trans rfl
      have p7 : W10.cell? ⟨LB, 7, none⟩ = some (.int .i64 k2.spin.y) := (cell_of_row W10 _ 7 _ _ _ rk2).trans rfl
      have p8 : W10.cell? ⟨LB, 8, none⟩ = some (.int .i64 k2.shape.x) := (cell_of_row W10 _ 8 _ _ _ rk2).trans rfl
      have p9 : W10.cell? ⟨LB, 9, none⟩ = some (.int .i64 k2.shape.y) := (cell_of_row W10 _ 9 _ _ _ rk2).trans rfl
      have p10 : W10.cell? ⟨LB, 10, none⟩ = some (.bool k2.pile) := (cell_of_row W10 _ 10 _ _ _ rk2).trans rfl
      have q0 : W10.cell? ⟨LB + 1, 0, none⟩ = some (.int .i64 f2.speed.x) := (cell_of_row W10 _ 0 _ _ _ rf2).trans rfl
      have q1 : W10.cell? ⟨LB + 1, 1, none⟩ = some (.int .i64 f2.speed.y) := (cell_of_row W10 _ 1 _ _ _ rf2).trans rfl
      have q2 : W10.cell? ⟨LB + 1, 2, none⟩ = some (.int .i64 f2.slope.x) := (cell_of_row W10 _ 2 _ _ _ rf2).trans rfl
      have q3 : W10.cell? ⟨LB + 1, 3, none⟩ = some (.int .i64 f2.slope.y) := (cell_of_row W10 _ 3 _ _ _ rf2).trans rfl
      have lX := row_lt rX
      have lK := row_lt rk
      have lf := row_lt rf
      have lk2 := row_lt rk2
      have lf2 := row_lt rf2
      go_upto_region 23 with (first | ((first | with_reducible refine wrx2 ?_ | with_reducible refine wrx ?_); (repeat (first | go_big_quiet_step ((first | (go_at_call 16; with_reducible exact Calls.ext (ct1 _ bcl)))) | quiet_step ((first | (go_at_call 16; with_reducible exact Calls.ext (ct1 _ bcl)))))); refine wpQuiet_nil ?_; rintro _ ⟨yr, rfl⟩; have syr := Ext.size yr; (repeat (first | rw [World.size_alloc] at syr | rw [World.size_setCell] at syr | rw [World.size_drew] at syr)); have : XB < yr.now.heap.size := (by omega); have : XB ≤ yr.now.heap.size := (by omega); have : XB < yr.now.heap.size + 1 + 1 := (by omega); have : KB < yr.now.heap.size := (by omega); have : KB ≤ yr.now.heap.size := (by omega); have : KB < yr.now.heap.size + 1 + 1 := (by omega); have : KB + 1 < yr.now.heap.size := (by omega); have : KB + 1 ≤ yr.now.heap.size := (by omega); have : KB + 1 < yr.now.heap.size + 1 + 1 := (by omega); have : LB < yr.now.heap.size := (by omega); have : LB ≤ yr.now.heap.size := (by omega); have : LB < yr.now.heap.size + 1 + 1 := (by omega); have : LB + 1 < yr.now.heap.size := (by omega); have : LB + 1 ≤ yr.now.heap.size := (by omega); have : LB + 1 < yr.now.heap.size + 1 + 1 := (by omega)) | (go_at_call 16; (first | with_reducible refine (Calls.giv2 (ct1 _ bcl)).mono ?_ | with_reducible refine (Calls.giv (ct1 _ bcl)).mono ?_); rintro _ _ ⟨y1, rfl, rfl⟩; have sy1 := Ext.size y1; (repeat (first | rw [World.size_alloc] at sy1 | rw [World.size_setCell] at sy1 | rw [World.size_drew] at sy1)); have : XB < y1.now.heap.size := (by omega); have : XB ≤ y1.now.heap.size := (by omega); have : XB < y1.now.heap.size + 1 + 1 := (by omega); have : KB < y1.now.heap.size := (by omega); have : KB ≤ y1.now.heap.size := (by omega); have : KB < y1.now.heap.size + 1 + 1 := (by omega); have : KB + 1 < y1.now.heap.size := (by omega); have : KB + 1 ≤ y1.now.heap.size := (by omega); have : KB + 1 < y1.now.heap.size + 1 + 1 := (by omega); have : LB < y1.now.heap.size := (by omega); have : LB ≤ y1.now.heap.size := (by omega); have : LB < y1.now.heap.size + 1 + 1 := (by omega); have : LB + 1 < y1.now.heap.size := (by omega); have : LB + 1 ≤ y1.now.heap.size := (by omega); have : LB + 1 < y1.now.heap.size + 1 + 1 := (by omega)))
      refine wp_named (fun W11 hW => ?_)
      have rT1 : W11.heap[y1.now.heap.size]? = some (.cells #[.int .i64 P1, .int .i64 P2] 29 (0, 0)) := by rw [← hW]; exact heap_alloc_new _ _
      have hB11 : Below W10.heap.size W10 W11 := by rw [← hW]; exact y1.grew.alloc y1.size _
      clear hW
      generalize y1.now.heap.size = T1 at *
      have s11 := hB11.size
      replace rX := (hB11.block XB (row_lt rX)).trans rX
      replace rk := (hB11.block KB (row_lt rk)).trans rk
      replace rf := (hB11.block (KB + 1) (row_lt rf)).trans rf
      replace rk2 := (hB11.block LB (row_lt rk2)).trans rk2
      replace rf2 := (hB11.block (LB + 1) (row_lt rf2)).trans rf2
      clear a0 a1 lX lK lf lk2 lf2 c0 c1 c2 c3 c4 c5 c6 c7 c8 c9 c10 d0 d1 d2 d3 p0 p1 p2 p3 p4 p5 p6 p7 p8 p9 p10 q0 q1 q2 q3
      have a0 : W11.cell? ⟨XB, 0, none⟩ = some (.slice x.pp x.pl.length x.pc) := (cell_of_row W11 _ 0 _ _ _ rX).trans rfl
      have a1 : W11.cell? ⟨XB, 1, none⟩ = some (.slice x.wp x.wl.length x.wc) := (cell_of_row W11 _ 1 _ _ _ rX).trans rfl
      have c0 : W11.cell? ⟨KB, 0, none⟩ = some (.int .i64 k.size.x) := (cell_of_row W11 _ 0 _ _ _ rk).trans rfl
      have c1 : W11.cell? ⟨KB, 1, none⟩ = some (.int .i64 k.size.y) := (cell_of_row W11 _ 1 _ _ _ rk).trans rfl
      have c2 : W11.cell? ⟨KB, 2, none⟩ = some (.int .i64 k.dens.x) := (cell_of_row W11 _ 2 _ _ _ rk).trans rfl
      have c3 : W11.cell? ⟨KB, 3, none⟩ = some (.int .i64 k.dens.y) := (cell_of_row W11 _ 3 _ _ _ rk).trans rfl
      have c4 : W11.cell? ⟨KB, 4, none⟩ = some (.int .i64 k.strong.x) := (cell_of_row W11 _ 4 _ _ _ rk).trans rfl
      have c5 : W11.cell? ⟨KB, 5, none⟩ = some (.int .i64 k.strong.y) := (cell_of_row W11 _ 5 _ _ _ rk).trans rfl
      have c6 : W11.cell? ⟨KB, 6, none⟩ = some (.int .i64 k.spin.x) := (cell_of_row W11 _ 6 _ _ _ rk).trans rfl
      have c7 : W11.cell? ⟨KB, 7, none⟩ = some (.int .i64 k.spin.y) := (cell_of_row W11 _ 7 _ _ _ rk).trans rfl
      have c8 : W11.cell? ⟨KB, 8, none⟩ = some (.int .i64 k.shape.x) := (cell_of_row W11 _ 8 _ _ _ rk).trans rfl
      have c9 : W11.cell? ⟨KB, 9, none⟩ = some (.int .i64 k.shape.y) := (cell_of_row W11 _ 9 _ _ _ rk).trans rfl
      have c10 : W11.cell? ⟨KB, 10, none⟩ = some (.bool k.pile) := (cell_of_row W11 _ 10 _ _ _ rk).trans rfl
      have d0 : W11.cell? ⟨KB + 1, 0, none⟩ = some (.int .i64 f.speed.x) := (cell_of_row W11 _ 0 _ _ _ rf).trans rfl
      have d1 : W11.cell? ⟨KB + 1, 1, none⟩ = some (.int .i64 f.speed.y) := (cell_of_row W11 _ 1 _ _ _ rf).trans rfl
      have d2 : W11.cell? ⟨KB + 1, 2, none⟩ = some (.int .i64 f.slope.x) := (cell_of_row W11 _ 2 _ _ _ rf).trans rfl
      have d3 : W11.cell? ⟨KB + 1, 3, none⟩ = some (.int .i64 f.slope.y) := (cell_of_row W11 _ 3 _ _ _ rf).trans rfl
      have p0 : W11.cell? ⟨LB, 0, none⟩ = some (.int .i64 k2.size.x) := (cell_of_row W11 _ 0 _ _ _ rk2).trans rfl
      have p1 : W11.cell? ⟨LB, 1, none⟩ = some (.int .i64 k2.size.y) := (cell_of_row W11 _ 1 _ _ _ rk2).trans rfl
      have p2 : W11.cell? ⟨LB, 2, none⟩ = some (.int .i64 k2.dens.x) := (cell_of_row W11 _ 2 _ _ _ rk2).trans rfl
      have p3 : W11.cell? ⟨LB, 3, none⟩ = some (.int .i64 k2.dens.y) := (cell_of_row W11 _ 3 _ _ _ rk2).trans rfl
      have p4 : W11.cell? ⟨LB, 4, none⟩ = some (.int .i64 k2.strong.x) := (cell_of_row W11 _ 4 _ _ _ rk2).trans rfl
      have p5 : W11.cell? ⟨LB, 5, none⟩ = some (.int .i64 k2.strong.y) := (cell_of_row W11 _ 5 _ _ _ rk2).trans rfl
      have p6 : W11.cell? ⟨LB, 6, none⟩ = some (.int .i64 k2.spin.x) := (cell_of_row W11 _ 6 _ _ _ rk2).trans rfl
      have p7 : W11.cell? ⟨LB, 7, none⟩ = some (.int .i64 k2.spin.y) := (cell_of_row W11 _ 7 _ _ _ rk2).trans rfl
      have p8 : W11.cell? ⟨LB, 8, none⟩ = some (.int .i64 k2.shape.x) := (cell_of_row W11 _ 8 _ _ _ rk2).trans rfl
      have p9 : W11.cell? ⟨LB, 9, none⟩ = some (.int .i64 k2.shape.y) := (cell_of_row W11 _ 9 _ _ _ rk2).trans rfl
      have p10 : W11.cell? ⟨LB, 10, none⟩ = some (.bool k2.pile) := (cell_of_row W11 _ 10 _ _ _ rk2).trans rfl
      have q0 : W11.cell? ⟨LB + 1, 0, none⟩ = some (.int .i64 f2.speed.x) := (cell_of_row W11 _ 0 _ _ _ rf2).trans rfl
      have q1 : W11.cell? ⟨LB + 1, 1, none⟩ = some (.int .i64 f2.speed.y) := (cell_of_row W11 _ 1 _ _ _ rf2).trans rfl
      have q2 : W11.cell? ⟨LB + 1, 2, none⟩ = some (.int .i64 f2.slope.x) := (cell_of_row W11 _ 2 _ _ _ rf2).trans rfl
      have q3 : W11.cell? ⟨LB + 1, 3, none⟩ = some (.int .i64 f2.slope.y) := (cell_of_row W11 _ 3 _ _ _ rf2).trans rfl
      have lX := row_lt rX
      have lK := row_lt rk
      have lf := row_lt rf
      have lk2 := row_lt rk2
      have lf2 := row_lt rf2
      go_upto_region 24 with (first | ((first | with_reducible refine wrx2 ?_ | with_reducible refine wrx ?_); (repeat (first | go_big_quiet_step ((first | (go_at_call 16; with_reducible exact Calls.ext (ct2 _ (hB11.trans (Below.mono bcl s11)))))) | quiet_step ((first | (go_at_call 16; with_reducible exact Calls.ext (ct2 _ (hB11.trans (Below.mono bcl s11)))))))); refine wpQuiet_nil ?_; rintro _ ⟨yr, rfl⟩; have syr := Ext.size yr; (repeat (first | rw [World.size_alloc] at syr | rw [World.size_setCell] at syr | rw [World.size_drew] at syr)); have : XB < yr.now.heap.size := (by omega); have : XB ≤ yr.now.heap.size := (by omega); have : XB < yr.now.heap.size + 1 + 1 := (by omega); have : KB < yr.now.heap.size := (by omega); have : KB ≤ yr.now.heap.size := (by omega); have : KB < yr.now.heap.size + 1 + 1 := (by omega); have : KB + 1 < yr.now.heap.size := (by omega); have : KB + 1 ≤ yr.now.heap.size := (by omega); have : KB + 1 < yr.now.heap.size + 1 + 1 := (by omega); have : LB < yr.now.heap.size := (by omega); have : LB ≤ yr.now.heap.size := (by omega); have : LB < yr.now.heap.size + 1 + 1 := (by omega); have : LB + 1 < yr.now.heap.size := (by omega); have : LB + 1 ≤ yr.now.heap.size := (by omega); have : LB + 1 < yr.now.heap.size + 1 + 1 := (by omega)) | (go_at_call 16; (first | with_reducible refine (Calls.giv2 (ct2 _ (hB11.trans (Below.mono bcl s11)))).mono ?_ | with_reducible refine (Calls.giv (ct2 _ (hB11.trans (Below.mono bcl s11)))).mono ?_); rintro _ _ ⟨y1, rfl, rfl⟩; have sy1 := Ext.size y1; (repeat (first | rw [World.size_alloc] at sy1 | rw [World.size_setCell] at sy1 | rw [World.size_drew] at sy1)); have : XB < y1.now.heap.size := (by omega); have : XB ≤ y1.now.heap.size := (by omega); have : XB < y1.now.heap.size + 1 + 1 := (by omega); have : KB < y1.now.heap.size := (by omega); have : KB ≤ y1.now.heap.size := (by omega); have : KB < y1.now.heap.size + 1 + 1 := (by omega); have : KB + 1 < y1.now.heap.size := (by omega); have : KB + 1 ≤ y1.now.heap.size := (by omega); have : KB + 1 < y1.now.heap.size + 1 + 1 := (by omega); have : LB < y1.now.heap.size := (by omega); have : LB ≤ y1.now.heap.size := (by omega); have : LB < y1.now.heap.size + 1 + 1 := (by omega); have : LB + 1 < y1.now.heap.size := (by omega); have : LB + 1 ≤ y1.now.heap.size := (by omega); have : LB + 1 < y1.now.heap.size + 1 + 1 := (by omega)))
      refine wp_named (fun W12 hW => ?_)
      have rT2 : W12.heap[y1.now.heap.size]? = some (.cells #[.int .i64 Q1, .int .i64 Q2] 29 (0, 0)) := by rw [← hW]; exact heap_alloc_new _ _
      have hb : Below W11.heap.size W11 W12 := by rw [← hW]; exact y1.grew.alloc y1.size _
      clear hW
      generalize y1.now.heap.size = T2 at *
      replace rX := (hb.block XB (row_lt rX)).trans rX
      replace rk := (hb.block KB (row_lt rk)).trans rk
      replace rf := (hb.block (KB + 1) (row_lt rf)).trans rf
      replace rk2 := (hb.block LB (row_lt rk2)).trans rk2
      replace rf2 := (hb.block (LB + 1) (row_lt rf2)).trans rf2
      replace rT1 := (hb.block T1 (row_lt rT1)).trans rT1
      clear a0 a1 lX lK lf lk2 lf2 c0 c1 c2 c3 c4 c5 c6 c7 c8 c9 c10 d0 d1 d2 d3 p0 p1 p2 p3 p4 p5 p6 p7 p8 p9 p10 q0 q1 q2 q3
      have hB12 : Below W10.heap.size W10 W12 := hB11.trans (hb.mono s11)
      have s12 := hB12.size
      clear hb
      have a0 : W12.cell? ⟨XB, 0, none⟩ = some (.slice x.pp x.pl.length x.pc) := (cell_of_row W12 _ 0 _ _ _ rX).trans rfl
      have a1 : W12.cell? ⟨XB, 1, none⟩ = some (.slice x.wp x.wl.length x.wc) := (cell_of_row W12 _ 1 _ _ _ rX).trans rfl
      have c0 : W12.cell? ⟨KB, 0, none⟩ = some (.int .i64 k.size.x) := (cell_of_row W12 _ 0 _ _ _ rk).trans rfl
      have c1 : W12.cell? ⟨KB, 1, none⟩ = some (.int .i64 k.size.y) := (cell_of_row W12 _ 1 _ _ _ rk).trans rfl
      have c2 : W12.cell? ⟨KB, 2, none⟩ = some (.int .i64 k.dens.x) := (cell_of_row W12 _ 2 _ _ _ rk).trans rfl
      have c3 : W12.cell? ⟨KB, 3, none⟩ = some (.int .i64 k.dens.y) := (cell_of_row W12 _ 3 _ _ _ rk).trans rfl
      have c4 : W12.cell? ⟨KB, 4, none⟩ = some (.int .i64 k.strong.x) := (cell_of_row W12 _ 4 _ _ _ rk).trans rfl
      have c5 : W12.cell? ⟨KB, 5, none⟩ = some (.int .i64 k.strong.y) := (cell_of_row W12 _ 5 _ _ _ rk).trans rfl
      have c6 : W12.cell? ⟨KB, 6, none⟩ = some (.int .i64 k.spin.x) := (cell_of_row W12 _ 6 _ _ _ rk).trans rfl
      have c7 : W12.cell? ⟨KB, 7, none⟩ = some (.int .i64 k.spin.y) := (cell_of_row W12 _ 7 _ _ _ rk).trans rfl
      have c8 : W12.cell? ⟨KB, 8, none⟩ = some (.int .i64 k.shape.x) := (cell_of_row W12 _ 8 _ _ _ rk).trans rfl
      have c9 : W12.cell? ⟨KB, 9, none⟩ = some (.int .i64 k.shape.y) := (cell_of_row W12 _ 9 _ _ _ rk).trans rfl
      have c10 : W12.cell? ⟨KB, 10, none⟩ = some (.bool k.pile) := (cell_of_row W12 _ 10 _ _ _ rk).trans rfl
      have d0 : W12.cell? ⟨KB + 1, 0, none⟩ = some (.int .i64 f.speed.x) := (cell_of_row W12 _ 0 _ _ _ rf).trans rfl
      have d1 : W12.cell? ⟨KB + 1, 1, none⟩ = some (.int .i64 f.speed.y) := (cell_of_row W12 _ 1 _ _ _ rf).trans rfl
      have d2 : W12.cell? ⟨KB + 1, 2, none⟩ = some (.int .i64 f.slope.x) := (cell_of_row W12 _ 2 _ _ _ rf).trans rfl
      have d3 : W12.cell? ⟨KB + 1, 3, none⟩ = some (.int .i64 f.slope.y) := (cell_of_row W12 _ 3 _ _ _ rf).trans rfl
      have p0 : W12.cell? ⟨LB, 0, none⟩ = some (.int .i64 k2.size.x) := (cell_of_row W12 _ 0 _ _ _ rk2).trans rfl
      have p1 : W12.cell? ⟨LB, 1, none⟩ = some (.int .i64 k2.size.y) := (cell_of_row W12 _ 1 _ _ _ rk2).trans rfl
      have p2 : W12.cell? ⟨LB, 2, none⟩ = some (.int .i64 k2.dens.x) := (cell_of_row W12 _ 2 _ _ _ rk2).trans rfl
      have p3 : W12.cell? ⟨LB, 3, none⟩ = some (.int .i64 k2.dens.y) := (cell_of_row W12 _ 3 _ _ _ rk2).trans rfl
      have p4 : W12.cell? ⟨LB, 4, none⟩ = some (.int .i64 k2.strong.x) := (cell_of_row W12 _ 4 _ _ _ rk2).trans rfl
      have p5 : W12.cell? ⟨LB, 5, none⟩ = some (.int .i64 k2.strong.y) := (cell_of_row W12 _ 5 _ _ _ rk2).trans rfl
      have p6 : W12.cell? ⟨LB, 6, none⟩ = some (.int .i64 k2.spin.x) := (cell_of_row W12 _ 6 _ _ _ rk2).trans rfl
      have p7 : W12.cell? ⟨LB, 7, none⟩ = some (.int .i64 k2.spin.y) := (cell_of_row W12 _ 7 _ _ _ rk2).trans rfl
      have p8 : W12.cell? ⟨LB, 8, none⟩ = some (.int .i64 k2.shape.x) := (cell_of_row W12 _ 8 _ _ _ rk2).trans rfl
      have p9 : W12.cell? ⟨LB, 9, none⟩ = some (.int .i64 k2.shape.y) := (cell_of_row W12 _ 9 _ _ _ rk2).trans rfl
      have p10 : W12.cell? ⟨LB, 10, none⟩ = some (.bool k2.pile) := (cell_of_row W12 _ 10 _ _ _ rk2).trans rfl
      have q0 : W12.cell? ⟨LB + 1, 0, none⟩ = some (.int .i64 f2.speed.x) := (cell_of_row W12 _ 0 _ _ _ rf2).trans rfl
      have q1 : W12.cell? ⟨LB + 1, 1, none⟩ = some (.int .i64 f2.speed.y) := (cell_of_row W12 _ 1 _ _ _ rf2).trans rfl
      have q2 : W12.cell? ⟨LB + 1, 2, none⟩ = some (.int .i64 f2.slope.x) := (cell_of_row W12 _ 2 _ _ _ rf2).trans rfl
      have q3 : W12.cell? ⟨LB + 1, 3, none⟩ = some (.int .i64 f2.slope.y) := (cell_of_row W12 _ 3 _ _ _ rf2).trans rfl
      have lX := row_lt rX
      have lK := row_lt rk
      have lf := row_lt rf
      have lk2 := row_lt rk2
      have lf2 := row_lt rf2
      go_upto_region 25 with (first | ((first | with_reducible refine wrx2 ?_ | with_reducible refine wrx ?_); (repeat (first | go_big_quiet_step ((first | (go_at_call 16; with_reducible exact Calls.ext (ct3 _ (hB12.trans (Below.mono bcl s12)))))) | quiet_step ((first | (go_at_call 16; with_reducible exact Calls.ext (ct3 _ (hB12.trans (Below.mono bcl s12)))))))); refine wpQuiet_nil ?_; rintro _ ⟨yr, rfl⟩; have syr := Ext.size yr; (repeat (first | rw [World.size_alloc] at syr | rw [World.size_setCell] at syr | rw [World.size_drew] at syr)); have : XB < yr.now.heap.size := (by omega); have : XB ≤ yr.now.heap.size := (by omega); have : XB < yr.now.heap.size + 1 + 1 := (by omega); have : KB < yr.now.heap.size := (by omega); have : KB ≤ yr.now.heap.size := (by omega); have : KB < yr.now.heap.size + 1 + 1 := (by omega); have : KB + 1 < yr.now.heap.size := (by omega); have : KB + 1 ≤ yr.now.heap.size := (by omega); have : KB + 1 < yr.now.heap.size + 1 + 1 := (by omega); have : LB < yr.now.heap.size := (by omega); have : LB ≤ yr.now.heap.size := (by omega); have : LB < yr.now.heap.size + 1 + 1 := (by omega); have : LB + 1 < yr.now.heap.size := (by omega); have : LB + 1 ≤ yr.now.heap.size := (by omega); have : LB + 1 < yr.now.heap.size + 1 + 1 := (by omega)) | (go_at_call 16; (first | with_reducible refine (Calls.giv2 (ct3 _ (hB12.trans (Below.mono bcl s12)))).mono ?_ | with_reducible refine (Calls.giv (ct3 _ (hB12.trans (Below.mono bcl s12)))).mono ?_); rintro _ _ ⟨y1, rfl, rfl⟩; have sy1 := Ext.size y1; (repeat (first | rw [World.size_alloc] at sy1 | rw [World.size_setCell] at sy1 | rw [World.size_drew] at sy1)); have : XB < y1.now.heap.size := (by omega); have : XB ≤ y1.now.heap.size := (by omega); have : XB < y1.now.heap.size + 1 + 1 := (by omega); have : KB < y1.now.heap.size := (by omega); have : KB ≤ y1.now.heap.size := (by omega); have : KB < y1.now.heap.size + 1 + 1 := (by omega); have : KB + 1 < y1.now.heap.size := (by omega); have : KB + 1 ≤ y1.now.heap.size := (by omega); have : KB + 1 < y1.now.heap.size + 1 + 1 := (by omega); have : LB < y1.now.heap.size := (by omega); have : LB ≤ y1.now.heap.size := (by omega); have : LB < y1.now.heap.size + 1 + 1 := (by omega); have : LB + 1 < y1.now.heap.size := (by omega); have : LB + 1 ≤ y1.now.heap.size := (by omega); have : LB + 1 < y1.now.heap.size + 1 + 1 := (by omega)))
      refine wp_named (fun W13 hW => ?_)
      have rT3 : W13.heap[y1.now.heap.size]? = some (.cells #[.int .i64 S1, .int .i64 S2] 29 (0, 0)) := by rw [← hW]; exact heap_alloc_new _ _
      have hb : Below W12.heap.size W12 W13 := by rw [← hW]; exact y1.grew.alloc y1.size _
      clear hW
      generalize y1.now.heap.size = T3 at *
      replace rX := (hb.block XB (row_lt rX)).trans rX
      replace rk := (hb.block KB (row_lt rk)).trans rk
      replace rf := (hb.block (KB + 1) (row_lt rf)).trans rf
      replace rk2 := (hb.block LB (row_lt rk2)).trans rk2
      replace rf2 := (hb.block (LB + 1) (row_lt rf2)).trans rf2
      replace rT1 := (hb.block T1 (row_lt rT1)).trans rT1
      replace rT2 := (hb.block T2 (row_lt rT2)).trans rT2
      clear a0 a1 lX lK lf lk2 lf2 c0 c1 c2 c3 c4 c5 c6 c7 c8 c9 c10 d0 d1 d2 d3 p0 p1 p2 p3 p4 p5 p6 p7 p8 p9 p10 q0 q1 q2 q3
      have hB13 : Below W10.heap.size W10 W13 := hB12.trans (hb.mono s12)
      have hlim := hlim10.on hB13
      have hBw13 : Below w.heap.size w W13 := hBw10.out.trans (hB13.mono hBw10.out.size)
      have sB13 := hBw13.size
      clear hb
      have e0 : W13.cell? ⟨T1, 0, none⟩ = some (.int .i64 P1) := (cell_of_row W13 _ 0 _ _ _ rT1).trans rfl
      have e1 : W13.cell? ⟨T1, 1, none⟩ = some (.int .i64 P2) := (cell_of_row W13 _ 1 _ _ _ rT1).trans rfl
      have e2 : W13.cell? ⟨T2, 0, none⟩ = some (.int .i64 Q1) := (cell_of_row W13 _ 0 _ _ _ rT2).trans rfl
      have e3 : W13.cell? ⟨T2, 1, none⟩ = some (.int .i64 Q2) := (cell_of_row W13 _ 1 _ _ _ rT2).trans rfl
      have e4 : W13.cell? ⟨T3, 0, none⟩ = some (.int .i64 S1) := (cell_of_row W13 _ 0 _ _ _ rT3).trans rfl
      have e5 : W13.cell? ⟨T3, 1, none⟩ = some (.int .i64 S2) := (cell_of_row W13 _ 1 _ _ _ rT3).trans rfl
      have lT1 := row_lt rT1
      have lT2 := row_lt rT2
      have lT3 := row_lt rT3
      clear hB11 hB12 hB13
      replace hBw13 := Go.Lib.hid hBw13
      go_wp2_with (first | ((first | with_reducible refine wrx2 ?_ | with_reducible refine wrx ?_); (repeat (first | go_big_quiet_step ((first | (go_at_call 40; with_reducible exact Calls.ext (ci1 _)) | (go_at_call 40; with_reducible exact Calls.ext (ci2 _)) | (go_at_call 9; with_reducible exact Calls.ext (ca _ (by repeat (first | exact hlim | (with_reducible refine LimAt.ext ?_ _) | (with_reducible refine LimAt.alloc ?_ _) | (with_reducible refine LimAt.drew ?_) | (with_reducible refine LimAt.rext ?_ (by omega) _) | (with_reducible refine LimAt.set ?_ (by omega) _))))))) | quiet_step ((first | (go_at_call 40; with_reducible exact Calls.ext (ci1 _)) | (go_at_call 40; with_reducible exact Calls.ext (ci2 _)) | (go_at_call 9; with_reducible exact Calls.ext (ca _ (by repeat (first | exact hlim | (with_reducible refine LimAt.ext ?_ _) | (with_reducible refine LimAt.alloc ?_ _) | (with_reducible refine LimAt.drew ?_) | (with_reducible refine LimAt.rext ?_ (by omega) _) | (with_reducible refine LimAt.set ?_ (by omega) _))))))))); refine wpQuiet_nil ?_; rintro _ ⟨yr, rfl⟩; have syr := Ext.size yr; (repeat (first | rw [World.size_alloc] at syr | rw [World.size_setCell] at syr | rw [World.size_drew] at syr)); have : T1 < yr.now.heap.size := (by omega); have : T1 ≤ yr.now.heap.size := (by omega); have : T1 < yr.now.heap.size + 1 + 1 := (by omega); have : T2 < yr.now.heap.size := (by omega); have : T2 ≤ yr.now.heap.size := (by omega); have : T2 < yr.now.heap.size + 1 + 1 := (by omega); have : T3 < yr.now.heap.size := (by omega); have : T3 ≤ yr.now.heap.size := (by omega); have : T3 < yr.now.heap.size + 1 + 1 := (by omega)) | (go_at_call 40; (first | with_reducible refine (Calls.giv2 (ci1 _)).mono ?_ | with_reducible refine (Calls.giv (ci1 _)).mono ?_); rintro _ _ ⟨y1, rfl, rfl⟩; have sy1 := Ext.size y1; (repeat (first | rw [World.size_alloc] at sy1 | rw [World.size_setCell] at sy1 | rw [World.size_drew] at sy1)); have : T1 < y1.now.heap.size := (by omega); have : T1 ≤ y1.now.heap.size := (by omega); have : T1 < y1.now.heap.size + 1 + 1 := (by omega); have : T2 < y1.now.heap.size := (by omega); have : T2 ≤ y1.now.heap.size := (by omega); have : T2 < y1.now.heap.size + 1 + 1 := (by omega); have : T3 < y1.now.heap.size := (by omega); have : T3 ≤ y1.now.heap.size := (by omega); have : T3 < y1.now.heap.size + 1 + 1 := (by omega)) | (go_at_call 40; (first | with_reducible refine (Calls.giv2 (ci2 _)).mono ?_ | with_reducible refine (Calls.giv (ci2 _)).mono ?_); rintro _ _ ⟨y2, rfl, rfl⟩; have sy2 := Ext.size y2; (repeat (first | rw [World.size_alloc] at sy2 | rw [World.size_setCell] at sy2 | rw [World.size_drew] at sy2)); have : T1 < y2.now.heap.size := (by omega); have : T1 ≤ y2.now.heap.size := (by omega); have : T1 < y2.now.heap.size + 1 + 1 := (by omega); have : T2 < y2.now.heap.size := (by omega); have : T2 ≤ y2.now.heap.size := (by omega); have : T2 < y2.now.heap.size + 1 + 1 := (by omega); have : T3 < y2.now.heap.size := (by omega); have : T3 ≤ y2.now.heap.size := (by omega); have : T3 < y2.now.heap.size + 1 + 1 := (by omega)) | (go_at_call 9; (first | with_reducible refine (Calls.giv2 (ca _ (by repeat (first | exact hlim | (with_reducible refine LimAt.ext ?_ _) | (with_reducible refine LimAt.alloc ?_ _) | (with_reducible refine LimAt.drew ?_) | (with_reducible refine LimAt.rext ?_ (by omega) _) | (with_reducible refine LimAt.set ?_ (by omega) _))))).mono ?_ | with_reducible refine (Calls.giv (ca _ (by repeat (first | exact hlim | (with_reducible refine LimAt.ext ?_ _) | (with_reducible refine LimAt.alloc ?_ _) | (with_reducible refine LimAt.drew ?_) | (with_reducible refine LimAt.rext ?_ (by omega) _) | (with_reducible refine LimAt.set ?_ (by omega) _))))).mono ?_); rintro _ _ ⟨y3, rfl, rfl⟩; have sy3 := Ext.size y3; (repeat (first | rw [World.size_alloc] at sy3 | rw [World.size_setCell] at sy3 | rw [World.size_drew] at sy3)); have : T1 < y3.now.heap.size := (by omega); have : T1 ≤ y3.now.heap.size := (by omega); have : T1 < y3.now.heap.size + 1 + 1 := (by omega); have : T2 < y3.now.heap.size := (by omega); have : T2 ≤ y3.now.heap.size := (by omega); have : T2 < y3.now.heap.size + 1 + 1 := (by omega); have : T3 < y3.now.heap.size := (by omega); have : T3 ≤ y3.now.heap.size := (by omega); have : T3 < y3.now.heap.size + 1 + 1 := (by omega)))
      go_returns
      refine ⟨rfl, ?_⟩
      have hBx := hBw13.out
      repeat' (first | (with_reducible exact Below.refl _ _) | (with_reducible assumption) | (with_reducible refine Ext.below _ ?_ ?_) | (with_reducible refine Below.on ?_ (by with_reducible assumption) ?_) | (with_reducible refine Below.alloc ?_ ?_ _) | (with_reducible refine Below.drew ?_) | (with_reducible refine Below.setCell ?_ ?_ _) | (with_reducible exact Nat.le_refl _) | omega | (simp; done) | (simp [go_sem]; done) | (simp at *; omega))
end Go.Proofs.YtlmhbggigbmeaaaDoor

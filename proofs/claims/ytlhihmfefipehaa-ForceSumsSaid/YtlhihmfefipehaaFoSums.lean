/- ForceSums: what moves a body is the sum of its parts, and Pull is Over of one place. Condition: none beyond the statement's own. -/
import Derived.Test.YtlhihmfefipehaaLawListG
import Derived.Test.YtlhihmfefipehaaFreeB
import Derived.Deep.CutRange
namespace Go.Proofs.Ytlhihmfefipehaa
open Go.RowKit Go.Shelf Go.ChangeShapes Go.WideShapes Go.ChangeAt Go.Joins
attribute [local go_sem] Option.isSome_some Ext.cell Ext.frozen Ext.lt Ext.le Ext.lt_add Ext.le_add Ext.ne Ext.ne' lt2 lt3 lt4 lt5 le2 le3 le4
attribute [local go_sem] RExt.cell RExt.frozen RExt.lt RExt.le RExt.lt_add RExt.le_add RExt.ne RExt.ne'
set_option maxRecDepth 100000
set_option maxHeartbeats 16000000
theorem sky_world (v0 v1 v2 v3 : Value) (W : World) : Sem.run Try.prog (Instr.field 65 (.agg #[v0, v1, v2, v3]) 0) W = .ok (.agg #[v0, v1]) W := by kernel_rfl
attribute [local go_sem] sky_world
theorem SumA_any (u v : A4) (m n : Int) (w : World) (hu : u.In m) (hv : v.In n) (hmn : m + n ≤ 1000000000000) : Calls Try.prog 33 #[.agg #[.int .i64 u.xl, .int .i64 u.xh, .int .i64 u.yl, .int .i64 u.yh], .agg #[.int .i64 v.xl, .int .i64 v.xh, .int .i64 v.yl, .int .i64 v.yh]] w (Gives (.agg #[.int .i64 (addA u v).xl, .int .i64 (addA u v).xh, .int .i64 (addA u v).yl, .int .i64 (addA u v).yh]) w) := by
  obtain ⟨h1, h2, h3, h4, h5, h6⟩ := hu
  obtain ⟨k1, k2, k3, k4, k5, k6⟩ := hv
  exact SumArea_any _ _ _ _ _ _ _ _ w (IntWalk.wrap64_in _ (by omega)) (IntWalk.wrap64_in _ (by omega)) (IntWalk.wrap64_in _ (by omega)) (IntWalk.wrap64_in _ (by omega))
/-- The sum of the first pulls. -/
def partT (l : List BodyR) (t a b c d : Int) (u0 : A4) (k : Nat) : A4 := (List.range k).foldl (fun u j => addA u (bodyPull (nthB l j) t a b c d)) u0
theorem partT_succ (l : List BodyR) (t a b c d : Int) (u0 : A4) (k : Nat) : partT l t a b c d u0 (k + 1) = addA (partT l t a b c d u0 k) (bodyPull (nthB l k) t a b c d) := by
  unfold partT
  rw [List.range_succ, List.foldl_append]
  rfl
theorem partT_in {l : List BodyR} {t a b c d m : Int} {u0 : A4} (hu : u0.In m) (hb : ∀ k, k < l.length → (bodyPull (nthB l k) t a b c d).Ok) : ∀ k : Nat, k ≤ l.length → (partT l t a b c d u0 k).In (m + 1048576 * k)
  | 0, _ => hu.mono (by omega)
  | k + 1, h => by
    rw [partT_succ]
    exact (addA_in (partT_in hu hb k (by omega)) (hb k (by omega)).in).mono (by omega)
theorem partT_over (l : List BodyR) (f : DriftR) (t a b c d : Int) : ∀ k : Nat, (List.range (k + 1)).foldl (fun s j => stepC f s j (bodyPull (nthB l j) t a b c d)) (gasA f.gas) = partT l t a b c d (addA (addA (gasA f.gas) (lightA f.ll f.lh (bodyPull (nthB l 0) t a b c d))) (heatA f.hl f.hh (bodyPull (nthB l 0) t a b c d))) (k + 1)
  | 0 => by
    have h1 : (List.range (0 + 1)) = [0] := rfl
    unfold partT stepC
    rw [h1, List.foldl_cons, List.foldl_cons, List.foldl_nil, List.foldl_nil, if_pos rfl]
    generalize lightA f.ll f.lh (bodyPull (nthB l 0) t a b c d) = p
    generalize heatA f.hl f.hh (bodyPull (nthB l 0) t a b c d) = q
    generalize bodyPull (nthB l 0) t a b c d = r
    generalize gasA f.gas = g
    unfold addA
    simp only [A4.mk.injEq]
    omega
  | k + 1 => by
    rw [List.range_succ, List.foldl_append, partT_over l f t a b c d k, partT_succ _ _ _ _ _ _ _ (k + 1)]
    rw [List.foldl_cons, List.foldl_nil]
    unfold stepC
    rw [if_neg (Nat.succ_ne_zero k)]
theorem overV_sum {l : List BodyR} {h : Int} {f : DriftR} {t a b c d : Int} (hE : askE l h (driftE f) t a b c d = 0) (hl : 0 < l.length) : overV l h f t a b c d = partT l t a b c d (addA (addA (gasA f.gas) (lightA f.ll f.lh (bodyPull (nthB l 0) t a b c d))) (heatA f.hl f.hh (bodyPull (nthB l 0) t a b c d))) l.length := by
  unfold overV overC
  rw [if_pos hE]
  obtain ⟨k, hk⟩ : ∃ k, l.length = k + 1 := ⟨l.length - 1, by omega⟩
  rw [hk]
  exact partT_over l f t a b c d k
theorem ForceSums_any (sp : Option Addr) (sl sc : Nat) (sz : Nat → Int) (w : World) (hw : ListIn w sp sl sz) : Calls Try.prog 6 #[.slice sp sl sc] w (Gives (.bool true) w) := by
  have ca := fun W => fawake_any W
  go_enter Try.func6, Try.ntmps6
  go_upto_region 2 with (first | ((first | with_reducible refine wrx2 ?_ | with_reducible refine wrx ?_); (repeat (first | go_big_quiet_step ((first | fail)) | quiet_step ((first | fail)))); refine wpQuiet_nil ?_; rintro _ ⟨yr, rfl⟩; have syr := Ext.size yr; (repeat (first | rw [World.size_alloc] at syr | rw [World.size_setCell] at syr | rw [World.size_drew] at syr))) | (go_at_call 23; refine (NewRing_r sp sl sc sz _ hw).mono ?_; rintro _ _ ⟨y0, rfl, rfl, hs0, hr0⟩))
  refine wp_namedQ (fun X hW => ?_)
  have hB0 : Below w.heap.size w X := by rw [← hW]; repeat' (first | (with_reducible exact Below.refl _ _) | (with_reducible assumption) | (with_reducible refine Ext.below _ ?_ ?_) | (with_reducible refine Below.on ?_ (by with_reducible assumption) ?_) | (with_reducible refine Below.alloc ?_ ?_ _) | (with_reducible refine Below.drew ?_) | (with_reducible refine Below.setCell ?_ ?_ _) | (with_reducible exact Nat.le_refl _) | omega | (simp; done) | (simp [go_sem]; done) | (simp at *; omega))
  have hRr : RingM X w.heap.size 0 := by rw [← hW]; exact ⟨sp, sl, sc, sz, 0, hr0, Nat.le_refl _⟩
  clear hW hr0 hs0
  have hbX := hRr.lt
  go_upto_region 3 with (first | ((first | with_reducible refine wrx2 ?_ | with_reducible refine wrx ?_); (repeat (first | go_big_quiet_step ((first | fail)) | quiet_step ((first | fail)))); refine wpQuiet_nil ?_; rintro _ ⟨yr, rfl⟩; have syr := Ext.size yr; (repeat (first | rw [World.size_alloc] at syr | rw [World.size_setCell] at syr | rw [World.size_drew] at syr))) | (go_at_call 28; refine (SkyOf_z w.heap.size 0 _ (by omega) (by first | exact hRr | exact hRr.drew)).mono ?_; rintro _ _ ⟨yS, s, rfl, hsm, rfl, hAt, hcap, hr1⟩; unfold SkyR.val) | (go_at_call 29; refine (DriftOf_y w.heap.size (0 + 80) _ (by omega) hr1).mono ?_; rintro _ _ ⟨yD, d, rfl, hsd, rfl, hr2⟩; unfold DriftR.val) | (go_at_call 30; refine (AreaOf_y 2200 200 w.heap.size (0 + 80 + 6) _ (by omega) (by omega) (by omega) (by omega) (by omega) hr2).mono ?_; rintro _ _ ⟨yA, a1, a2, a3, a4, rfl, har, rfl, hr3⟩) | (go_at_call 25; refine (RangeQ_y 0 60 w.heap.size (0 + 80 + 6 + 6) _ (by omega) (by omega) (by omega) (by omega) hr3).mono ?_; rintro _ _ ⟨yT, t, rfl, htt, rfl, hr4⟩))
  refine wp_namedQ (fun W1 hW => ?_)
  have hM : Made3 w.heap.size w W1 yT.now.heap.size (0 + 80 + 6 + 6 + 1) s d a1 a2 a3 a4 X.heap.size yS.now.heap.size := by
    rw [← hW]
    have k1 := yD.grew.trans ((yA.grew.mono yD.size).trans (yT.grew.mono (Nat.le_trans yD.size yA.size)))
    exact made3_of (.of hB0) hbX (Nat.le_refl _) ⟨Nat.le_refl _, fun W' h1 h2 => ((hAt.keep h1 h2).at).bs⟩ k1 (yS.grew.trans (k1.mono yS.size)) hr4
  have lGW : yT.now.heap.size + 1 + 1 + 1 = W1.heap.size := by rw [← hW]; simp
  clear hW hAt hr1 hr2 hr3 hr4 hRr hB0 hbX
  generalize yT.now.heap.size = GB at *
  generalize yS.now.heap.size = HI at *
  generalize X.heap.size = LO at *
  clear yT yA yD yS
  have hw0 := (skyE_zero hsm.e).1
  have har2 : ArIn a1 a2 a3 a4 33554432 := ⟨by have := har.x0; omega, har.x1, by have := har.x2; omega, by have := har.y0; omega, har.y1, by have := har.y2; omega⟩
  have har9 : ArIn a1 a2 a3 a4 1000000000 := ⟨by have := har.x0; omega, har.x1, by have := har.x2; omega, by have := har.y0; omega, har.y1, by have := har.y2; omega⟩
  have hE := ask_make hw0 hsd.e (t := t) (by omega) har2
  have hE0 := ask_make hw0 (e := 0) rfl (t := t) (by omega) har2
  have hok := (ask_ok hE).1
  have hlen := ask_len hok
  have h8 : s.bodies.length ≤ 8 := (worldE_zero hw0).2.2.1
  have hP0 := pullA_ok (hok.pull 0 hlen)
  have cL := fun (W : World) (h : Made3 w.heap.size w W GB (0 + 80 + 6 + 6 + 1) s d a1 a2 a3 a4 LO HI) => Light_any s.bp s.bc s.bodies s.home d t a1 a2 a3 a4 W h.held.now hcap
  have cH := fun (W : World) (h : Made3 w.heap.size w W GB (0 + 80 + 6 + 6 + 1) s d a1 a2 a3 a4 LO HI) => Heat_any s.bp s.bc s.bodies s.home d t a1 a2 a3 a4 W h.held.now hcap
  rw [hE] at cL cH
  have eL : lightR s.bodies s.home d t a1 a2 a3 a4 = lightA d.ll d.lh (bodyPull (nthB s.bodies 0) t a1 a2 a3 a4) := by unfold lightR; rw [if_pos hE]
  have eH : heatR s.bodies s.home d t a1 a2 a3 a4 = heatA d.hl d.hh (bodyPull (nthB s.bodies 0) t a1 a2 a3 a4) := by unfold heatR; rw [if_pos hE]
  rw [eL] at cL
  rw [eH] at cH
  have okL : (lightA d.ll d.lh (bodyPull (nthB s.bodies 0) t a1 a2 a3 a4)).Ok := lightA_ok (a := d.ll) (b := d.lh) (by have := hsd.l0; omega) hsd.l1 hsd.l2 hP0
  have okH : (heatA d.hl d.hh (bodyPull (nthB s.bodies 0) t a1 a2 a3 a4)).Ok := heatA_ok (a := d.hl) (b := d.hh) hsd.h0 hsd.h1 hsd.h2 hP0
  have ar := fun W => farea_any (-d.gas) d.gas (-d.gas) d.gas W
  have eg : wrap64 (-d.gas) = -d.gas := IntWalk.wrap64_in _ (by have := hsd.g0; have := hsd.g1; omega)
  have c0 : W1.cell? ⟨GB, 0, none⟩ = some (.slice s.bp s.bodies.length s.bc) := (cell_of_row _ _ 0 _ _ _ hM.rw_).trans rfl
  have c1 : W1.cell? ⟨GB, 1, none⟩ = some (.int .i64 s.home) := (cell_of_row _ _ 1 _ _ _ hM.rw_).trans rfl
  have e0 : W1.cell? ⟨GB + 1, 0, none⟩ = some (.int .i64 d.ll) := (cell_of_row _ _ 0 _ _ _ hM.rd).trans rfl
  have e1 : W1.cell? ⟨GB + 1, 1, none⟩ = some (.int .i64 d.lh) := (cell_of_row _ _ 1 _ _ _ hM.rd).trans rfl
  have e2 : W1.cell? ⟨GB + 1, 2, none⟩ = some (.int .i64 d.hl) := (cell_of_row _ _ 2 _ _ _ hM.rd).trans rfl
  have e3 : W1.cell? ⟨GB + 1, 3, none⟩ = some (.int .i64 d.hh) := (cell_of_row _ _ 3 _ _ _ hM.rd).trans rfl
  have e4 : W1.cell? ⟨GB + 1, 4, none⟩ = some (.int .i64 d.gas) := (cell_of_row _ _ 4 _ _ _ hM.rd).trans rfl
  have g0 : W1.cell? ⟨GB + 1 + 1, 0, none⟩ = some (.int .i64 a1) := (cell_of_row _ _ 0 _ _ _ hM.ra).trans rfl
  have g1 : W1.cell? ⟨GB + 1 + 1, 1, none⟩ = some (.int .i64 a2) := (cell_of_row _ _ 1 _ _ _ hM.ra).trans rfl
  have g2 : W1.cell? ⟨GB + 1 + 1, 2, none⟩ = some (.int .i64 a3) := (cell_of_row _ _ 2 _ _ _ hM.ra).trans rfl
  have g3 : W1.cell? ⟨GB + 1 + 1, 3, none⟩ = some (.int .i64 a4) := (cell_of_row _ _ 3 _ _ _ hM.ra).trans rfl
  have l0 : GB < W1.heap.size := by omega
  have l1 : GB + 1 < W1.heap.size := by omega
  have l2 : GB + 1 + 1 < W1.heap.size := by omega
  generalize hlu : lightA d.ll d.lh (bodyPull (nthB s.bodies 0) t a1 a2 a3 a4) = lu at *
  generalize hhu : heatA d.hl d.hh (bodyPull (nthB s.bodies 0) t a1 a2 a3 a4) = hu at *
  unfold A4.val at cL cH
  go_upto_region 6 with (first | ((first | with_reducible refine wrx2 ?_ | with_reducible refine wrx ?_); (repeat (first | go_big_quiet_step ((first | (go_at_call 14; with_reducible exact Calls.ext (ar _)) | (go_at_call 17; with_reducible exact Calls.ext (cL _ (by repeat (first | (with_reducible exact hM) | (with_reducible refine Made3.alloc ?_ _) | (with_reducible refine Made3.set ?_ (by omega) _ _) | (with_reducible refine Made3.ext ?_ _))))) | (go_at_call 18; with_reducible exact Calls.ext (cH _ (by repeat (first | (with_reducible exact hM) | (with_reducible refine Made3.alloc ?_ _) | (with_reducible refine Made3.set ?_ (by omega) _ _) | (with_reducible refine Made3.ext ?_ _))))))) | quiet_step ((first | (go_at_call 14; with_reducible exact Calls.ext (ar _)) | (go_at_call 17; with_reducible exact Calls.ext (cL _ (by repeat (first | (with_reducible exact hM) | (with_reducible refine Made3.alloc ?_ _) | (with_reducible refine Made3.set ?_ (by omega) _ _) | (with_reducible refine Made3.ext ?_ _))))) | (go_at_call 18; with_reducible exact Calls.ext (cH _ (by repeat (first | (with_reducible exact hM) | (with_reducible refine Made3.alloc ?_ _) | (with_reducible refine Made3.set ?_ (by omega) _ _) | (with_reducible refine Made3.ext ?_ _))))))))); refine wpQuiet_nil ?_; rintro _ ⟨yr, rfl⟩; have syr := Ext.size yr; (repeat (first | rw [World.size_alloc] at syr | rw [World.size_setCell] at syr | rw [World.size_drew] at syr)); have : GB < yr.now.heap.size := (by omega); have : GB ≤ yr.now.heap.size := (by omega); have : GB < yr.now.heap.size + 1 + 1 := (by omega); have : GB + 1 < yr.now.heap.size := (by omega); have : GB + 1 ≤ yr.now.heap.size := (by omega); have : GB + 1 < yr.now.heap.size + 1 + 1 := (by omega); have : GB + 1 + 1 < yr.now.heap.size := (by omega); have : GB + 1 + 1 ≤ yr.now.heap.size := (by omega); have : GB + 1 + 1 < yr.now.heap.size + 1 + 1 := (by omega)) | (go_at_call 14; (first | with_reducible refine (Calls.giv2 (ar _)).mono ?_ | with_reducible refine (Calls.giv (ar _)).mono ?_); rintro _ _ ⟨y1, rfl, rfl⟩; have sy1 := Ext.size y1; (repeat (first | rw [World.size_alloc] at sy1 | rw [World.size_setCell] at sy1 | rw [World.size_drew] at sy1)); have : GB < y1.now.heap.size := (by omega); have : GB ≤ y1.now.heap.size := (by omega); have : GB < y1.now.heap.size + 1 + 1 := (by omega); have : GB + 1 < y1.now.heap.size := (by omega); have : GB + 1 ≤ y1.now.heap.size := (by omega); have : GB + 1 < y1.now.heap.size + 1 + 1 := (by omega); have : GB + 1 + 1 < y1.now.heap.size := (by omega); have : GB + 1 + 1 ≤ y1.now.heap.size := (by omega); have : GB + 1 + 1 < y1.now.heap.size + 1 + 1 := (by omega)) | (go_at_call 17; (first | with_reducible refine (Calls.giv2 (cL _ (by repeat (first | (with_reducible exact hM) | (with_reducible refine Made3.alloc ?_ _) | (with_reducible refine Made3.set ?_ (by omega) _ _) | (with_reducible refine Made3.ext ?_ _))))).mono ?_ | with_reducible refine (Calls.giv (cL _ (by repeat (first | (with_reducible exact hM) | (with_reducible refine Made3.alloc ?_ _) | (with_reducible refine Made3.set ?_ (by omega) _ _) | (with_reducible refine Made3.ext ?_ _))))).mono ?_); rintro _ _ ⟨y2, rfl, rfl⟩; have sy2 := Ext.size y2; (repeat (first | rw [World.size_alloc] at sy2 | rw [World.size_setCell] at sy2 | rw [World.size_drew] at sy2)); have : GB < y2.now.heap.size := (by omega); have : GB ≤ y2.now.heap.size := (by omega); have : GB < y2.now.heap.size + 1 + 1 := (by omega); have : GB + 1 < y2.now.heap.size := (by omega); have : GB + 1 ≤ y2.now.heap.size := (by omega); have : GB + 1 < y2.now.heap.size + 1 + 1 := (by omega); have : GB + 1 + 1 < y2.now.heap.size := (by omega); have : GB + 1 + 1 ≤ y2.now.heap.size := (by omega); have : GB + 1 + 1 < y2.now.heap.size + 1 + 1 := (by omega)) | (go_at_call 18; (first | with_reducible refine (Calls.giv2 (cH _ (by repeat (first | (with_reducible exact hM) | (with_reducible refine Made3.alloc ?_ _) | (with_reducible refine Made3.set ?_ (by omega) _ _) | (with_reducible refine Made3.ext ?_ _))))).mono ?_ | with_reducible refine (Calls.giv (cH _ (by repeat (first | (with_reducible exact hM) | (with_reducible refine Made3.alloc ?_ _) | (with_reducible refine Made3.set ?_ (by omega) _ _) | (with_reducible refine Made3.ext ?_ _))))).mono ?_); rintro _ _ ⟨y3, rfl, rfl⟩; have sy3 := Ext.size y3; (repeat (first | rw [World.size_alloc] at sy3 | rw [World.size_setCell] at sy3 | rw [World.size_drew] at sy3)); have : GB < y3.now.heap.size := (by omega); have : GB ≤ y3.now.heap.size := (by omega); have : GB < y3.now.heap.size + 1 + 1 := (by omega); have : GB + 1 < y3.now.heap.size := (by omega); have : GB + 1 ≤ y3.now.heap.size := (by omega); have : GB + 1 < y3.now.heap.size + 1 + 1 := (by omega); have : GB + 1 + 1 < y3.now.heap.size := (by omega); have : GB + 1 + 1 ≤ y3.now.heap.size := (by omega); have : GB + 1 + 1 < y3.now.heap.size + 1 + 1 := (by omega)))
  refine wp_namedQ (fun W2 hW2 => ?_)
  have hM2 : Made3 w.heap.size w W2 GB (0 + 80 + 6 + 6 + 1) s d a1 a2 a3 a4 LO HI := by rw [← hW2]; exact by repeat (first | (with_reducible exact hM) | (with_reducible refine Made3.alloc ?_ _) | (with_reducible refine Made3.set ?_ (by omega) _ _) | (with_reducible refine Made3.ext ?_ _))
  have lS : GB + 1 + 1 < y1.now.heap.size := by omega
  have rS : W2.heap[y1.now.heap.size]? = some (.cells #[.int .i64 (gasA d.gas).xl, .int .i64 (gasA d.gas).xh, .int .i64 (gasA d.gas).yl, .int .i64 (gasA d.gas).yh] 33 (0, 0)) := by
    rw [← hW2]
    exact (heap_alloc_old _ _ (by omega)).trans ((y3.grew.block _ (by simp only [World.size_alloc]; omega)).trans ((heap_alloc_old _ _ (by omega)).trans ((y2.grew.block _ (by simp)).trans (heap_alloc_new _ _))))
  have rL : W2.heap[y2.now.heap.size]? = some (.cells #[.int .i64 lu.xl, .int .i64 lu.xh, .int .i64 lu.yl, .int .i64 lu.yh] 33 (0, 0)) := by
    rw [← hW2]
    exact (heap_alloc_old _ _ (by omega)).trans ((y3.grew.block _ (by simp)).trans (heap_alloc_new _ _))
  have rH : W2.heap[y3.now.heap.size]? = some (.cells #[.int .i64 hu.xl, .int .i64 hu.xh, .int .i64 hu.yl, .int .i64 hu.yh] 33 (0, 0)) := by
    rw [← hW2]
    exact heap_alloc_new _ _
  have nL : y2.now.heap.size ≠ y1.now.heap.size := by omega
  have nH : y3.now.heap.size ≠ y1.now.heap.size := by omega
  clear hW2
  generalize y1.now.heap.size = SB at *
  generalize y2.now.heap.size = LB at *
  generalize y3.now.heap.size = HB at *
  (repeat clear this)
  clear sy1 sy2 sy3 c0 c1 e0 e1 e2 e3 e4 g0 g1 g2 g3 l0 l1 l2 cL cH ar
  clear y1 y2 y3
  have hdE : driftE d = 0 := hsd.e
  have hgI := gas_in hdE
  have cS1 := fun (W : World) => SumA_any (gasA d.gas) lu _ _ W hgI okL.in (by omega)
  have cS2 := fun (W : World) => SumA_any (addA (gasA d.gas) lu) hu _ _ W (addA_in hgI okL.in) okH.in (by omega)
  have hI0 := addA_in (addA_in hgI okL.in) okH.in
  have s0 : W2.cell? ⟨SB, 0, none⟩ = some (.int .i64 (gasA d.gas).xl) := (cell_of_row _ _ 0 _ _ _ rS).trans rfl
  have s1 : W2.cell? ⟨SB, 1, none⟩ = some (.int .i64 (gasA d.gas).xh) := (cell_of_row _ _ 1 _ _ _ rS).trans rfl
  have s2 : W2.cell? ⟨SB, 2, none⟩ = some (.int .i64 (gasA d.gas).yl) := (cell_of_row _ _ 2 _ _ _ rS).trans rfl
  have s3 : W2.cell? ⟨SB, 3, none⟩ = some (.int .i64 (gasA d.gas).yh) := (cell_of_row _ _ 3 _ _ _ rS).trans rfl
  have m0 : W2.cell? ⟨LB, 0, none⟩ = some (.int .i64 lu.xl) := (cell_of_row _ _ 0 _ _ _ rL).trans rfl
  have m1 : W2.cell? ⟨LB, 1, none⟩ = some (.int .i64 lu.xh) := (cell_of_row _ _ 1 _ _ _ rL).trans rfl
  have m2 : W2.cell? ⟨LB, 2, none⟩ = some (.int .i64 lu.yl) := (cell_of_row _ _ 2 _ _ _ rL).trans rfl
  have m3 : W2.cell? ⟨LB, 3, none⟩ = some (.int .i64 lu.yh) := (cell_of_row _ _ 3 _ _ _ rL).trans rfl
  have n0 : W2.cell? ⟨HB, 0, none⟩ = some (.int .i64 hu.xl) := (cell_of_row _ _ 0 _ _ _ rH).trans rfl
  have n1 : W2.cell? ⟨HB, 1, none⟩ = some (.int .i64 hu.xh) := (cell_of_row _ _ 1 _ _ _ rH).trans rfl
  have n2 : W2.cell? ⟨HB, 2, none⟩ = some (.int .i64 hu.yl) := (cell_of_row _ _ 2 _ _ _ rH).trans rfl
  have n3 : W2.cell? ⟨HB, 3, none⟩ = some (.int .i64 hu.yh) := (cell_of_row _ _ 3 _ _ _ rH).trans rfl
  have lS2 := row_ltQ rS
  have lL2 := row_ltQ rL
  have lH2 := row_ltQ rH
  have fS0 : ∀ o, W2.frozen? ⟨SB, o, none⟩ = false := fun o => frozen_rowQ rS
  generalize hu1 : addA (gasA d.gas) lu = u1 at *
  generalize hu0 : addA u1 hu = u0 at *
  (first | with_reducible refine wp_region_ext2_heads 5 (by kernel_rfl) (by kernel_rfl) ?_ | with_reducible refine wp_region_ext_heads 5 (by kernel_rfl) (by kernel_rfl) ?_); simp only [List.take_succ_cons, List.take_zero, List.length_cons, List.length_nil, Nat.reduceAdd, Nat.reduceSub]; (repeat (first | go_big_quiet_step ((first | (go_at_call 33; with_reducible exact Calls.ext (cS1 _)) | (go_at_call 33; with_reducible exact Calls.ext (cS2 _)))) | quiet_step ((first | (go_at_call 33; with_reducible exact Calls.ext (cS1 _)) | (go_at_call 33; with_reducible exact Calls.ext (cS2 _)))))); refine wpQuiet_nil ?_; rintro _ ⟨yr, rfl⟩; have syr := Ext.size yr; (repeat (first | rw [World.size_alloc] at syr | rw [World.size_setCell] at syr | rw [World.size_drew] at syr)); (refine wpAny_ready (rs := [5]) (by kernel_rfl) (by simp) ?_; refine AllReady.cons rfl (fun K hK => ?_) AllReady.nil; go_simp; refine hK _ _ ?_; clear hK K); refine wpAny_done (by kernel_rfl) ?_ _
  have hMr := hM2.ext yr
  have rSr := (yr.grew.block _ lS2).trans rS
  have lSr : SB < yr.now.heap.size := by omega
  obtain ⟨W3, hW3⟩ : ∃ W, W = set4 yr.now SB u0 := ⟨_, rfl⟩
  change Exit.then _ _ Exit.normal _ (set4 yr.now SB u0)
  rw [← hW3]
  have hM3 : Made3 w.heap.size w W3 GB (0 + 80 + 6 + 6 + 1) s d a1 a2 a3 a4 LO HI := by rw [hW3]; exact hMr.set4 lS u0
  have rS3 : W3.heap[SB]? = some (.cells #[.int .i64 u0.xl, .int .i64 u0.xh, .int .i64 u0.yl, .int .i64 u0.yh] 33 (0, 0)) := by rw [hW3]; exact set4_row rSr u0
  clear hW3 hMr rSr lSr rS rL rH nL nH s0 s1 s2 s3 m0 m1 m2 m3 n0 n1 n2 n3 lS2 lL2 lH2 fS0 cS1 cS2 hM2 hM
  clear syr yr
  have hbP : ∀ k, k < s.bodies.length → (bodyPull (nthB s.bodies k) t a1 a2 a3 a4).Ok := fun k hk => pullA_ok (hok.pull k hk)
  have hT : ∀ k, k ≤ s.bodies.length → (partT s.bodies t a1 a2 a3 a4 u0 k).In 100000000 := fun k hk => (partT_in hI0 hbP k hk).mono (by omega)
  have hTs := fun k => partT_succ s.bodies t a1 a2 a3 a4 u0 k
  have hsum := overV_sum hE hlen
  rw [hlu, hhu, hu1, hu0] at hsum
  have cV := fun (W : World) (h : Made3 w.heap.size w W GB (0 + 80 + 6 + 6 + 1) s d a1 a2 a3 a4 LO HI) => OverV_any s.bp s.bc s.bodies s.home d t a1 a2 a3 a4 W h.held.now hcap
  rw [hE, hsum] at cV
  have cO := fun (k : Nat) (hk : k < s.bodies.length) (W : World) (h : Made3 w.heap.size w W GB (0 + 80 + 6 + 6 + 1) s d a1 a2 a3 a4 LO HI) => (show Calls Try.prog 15 _ W (Gives (.tuple #[(bodyPull (nthB s.bodies k) t a1 a2 a3 a4).val, .int .i64 0]) W) from by
    have k1 : oneE s.bodies s.home k t a1 a2 a3 a4 = 0 := by unfold oneE; rw [if_pos hE0, if_pos (by omega)]
    have k2 : oneA s.bodies s.home k t a1 a2 a3 a4 = bodyPull (nthB s.bodies k) t a1 a2 a3 a4 := by unfold oneA; rw [if_pos k1, Int.toNat_natCast]
    have k3 := One_any s.bp s.bc s.bodies s.home k t a1 a2 a3 a4 W h.held.now hcap
    rw [k1, k2] at k3
    exact k3)
  have hT0 : partT s.bodies t a1 a2 a3 a4 u0 0 = u0 := rfl
  generalize partT s.bodies t a1 a2 a3 a4 u0 = T at *
  clear hI0 hgI okL okH hP0 eL eH hlu hhu hu1 hu0 hsum
  obtain ⟨U, hU⟩ : ∃ U : Nat → A4, ∀ k, bodyPull (nthB s.bodies k) t a1 a2 a3 a4 = U k := ⟨_, fun _ => rfl⟩
  simp only [hU] at cO hbP hTs
  unfold A4.val at cO cV
  clear hU
  go_wp2_with (first | ((first | with_reducible refine wrx2 ?_ | with_reducible refine wrx ?_); (repeat (first | go_big_quiet_step ((first | fail)) | quiet_step ((first | fail)))); refine wpQuiet_nil ?_; rintro _ ⟨yr, rfl⟩; have syr := Ext.size yr; (repeat (first | rw [World.size_alloc] at syr | rw [World.size_setCell] at syr | rw [World.size_drew] at syr))))
  go_loopw [13] (fun u W => ∃ (k : Nat) (V : World), u = .int .i64 k ∧ W = V ∧ Hid (Made3 w.heap.size w V GB (0 + 80 + 6 + 6 + 1) s d a1 a2 a3 a4 LO HI ∧ V.heap[SB]? = some (.cells #[.int .i64 (T k).xl, .int .i64 (T k).xh, .int .i64 (T k).yl, .int .i64 (T k).yh] 33 (0, 0)) ∧ k ≤ s.bodies.length)) (fun u _ => s.bodies.length - (intOf u).toNat)
  case atStart => exact ⟨0, _, rfl, rfl, Go.Lib.hid ⟨hM3, by rw [hT0]; exact rS3, Nat.zero_le _⟩⟩
  case round =>
    obtain ⟨k, V, rfl, rfl, hi⟩ := hrel
    by_cases hlt : k < s.bodies.length
    · have hlt2 : (k : Int) < s.bodies.length := by omega
      obtain ⟨hM, hSk, hk⟩ := hi.out
      (have c0 := (cell_of_row _ _ 0 _ _ _ (hM).rw_).trans rfl; have c1 := (cell_of_row _ _ 1 _ _ _ (hM).rw_).trans rfl; have e0 := (cell_of_row _ _ 0 _ _ _ (hM).rd).trans rfl; have e1 := (cell_of_row _ _ 1 _ _ _ (hM).rd).trans rfl; have e2 := (cell_of_row _ _ 2 _ _ _ (hM).rd).trans rfl; have e3 := (cell_of_row _ _ 3 _ _ _ (hM).rd).trans rfl; have e4 := (cell_of_row _ _ 4 _ _ _ (hM).rd).trans rfl; have g0 := (cell_of_row _ _ 0 _ _ _ (hM).ra).trans rfl; have g1 := (cell_of_row _ _ 1 _ _ _ (hM).ra).trans rfl; have g2 := (cell_of_row _ _ 2 _ _ _ (hM).ra).trans rfl; have g3 := (cell_of_row _ _ 3 _ _ _ (hM).ra).trans rfl; simp only [List.getElem?_toArray, List.getElem?_cons_zero, List.getElem?_cons_succ] at c0 c1 e0 e1 e2 e3 e4 g0 g1 g2 g3; have l0 := row_ltQ (hM).rw_; have l1 := row_ltQ (hM).rd; have l2 := row_ltQ (hM).ra)
      (have s0 := (cell_of_row _ _ 0 _ _ _ (hSk)).trans rfl; have s1 := (cell_of_row _ _ 1 _ _ _ (hSk)).trans rfl; have s2 := (cell_of_row _ _ 2 _ _ _ (hSk)).trans rfl; have s3 := (cell_of_row _ _ 3 _ _ _ (hSk)).trans rfl; simp only [List.getElem?_toArray, List.getElem?_cons_zero, List.getElem?_cons_succ] at s0 s1 s2 s3; have f0 := frozen_rowQ (o := 0) (hSk); have f1 := frozen_rowQ (o := 1) (hSk); have f2 := frozen_rowQ (o := 2) (hSk); have f3 := frozen_rowQ (o := 3) (hSk))
      have cOk := cO k hlt
      have cSk := fun (W : World) => SumA_any (T k) (U k) _ _ W (hT k hk) (hbP k hlt).in (by omega)
      have lSk := row_ltQ hSk
      clear hi cO cV ca
      rw [← hTs k] at cSk
      generalize hTk : T k = u at *
      generalize hTk1 : T (k + 1) = u1 at *
      generalize U k = uk at *
      go_wp2_with (first | ((first | with_reducible refine wrx2 ?_ | with_reducible refine wrx ?_); (repeat (first | go_big_quiet_step ((first | (go_at_call 15; with_reducible exact Calls.ext (cOk _ (by repeat (first | (with_reducible exact hM) | (with_reducible refine Made3.alloc ?_ _) | (with_reducible refine Made3.set ?_ (by omega) _ _) | (with_reducible refine Made3.ext ?_ _))))) | (go_at_call 33; with_reducible exact Calls.ext (cSk _)))) | quiet_step ((first | (go_at_call 15; with_reducible exact Calls.ext (cOk _ (by repeat (first | (with_reducible exact hM) | (with_reducible refine Made3.alloc ?_ _) | (with_reducible refine Made3.set ?_ (by omega) _ _) | (with_reducible refine Made3.ext ?_ _))))) | (go_at_call 33; with_reducible exact Calls.ext (cSk _)))))); refine wpQuiet_nil ?_; rintro _ ⟨yr, rfl⟩; have syr := Ext.size yr; (repeat (first | rw [World.size_alloc] at syr | rw [World.size_setCell] at syr | rw [World.size_drew] at syr)); have : GB < yr.now.heap.size := (by omega); have : GB ≤ yr.now.heap.size := (by omega); have : GB < yr.now.heap.size + 1 + 1 := (by omega); have : GB + 1 < yr.now.heap.size := (by omega); have : GB + 1 ≤ yr.now.heap.size := (by omega); have : GB + 1 < yr.now.heap.size + 1 + 1 := (by omega); have : GB + 1 + 1 < yr.now.heap.size := (by omega); have : GB + 1 + 1 ≤ yr.now.heap.size := (by omega); have : GB + 1 + 1 < yr.now.heap.size + 1 + 1 := (by omega); have : SB < yr.now.heap.size := (by omega); have : SB ≤ yr.now.heap.size := (by omega); have : SB < yr.now.heap.size + 1 + 1 := (by omega)) | (go_at_call 15; (first | with_reducible refine (Calls.giv2 (cOk _ (by repeat (first | (with_reducible exact hM) | (with_reducible refine Made3.alloc ?_ _) | (with_reducible refine Made3.set ?_ (by omega) _ _) | (with_reducible refine Made3.ext ?_ _))))).mono ?_ | with_reducible refine (Calls.giv (cOk _ (by repeat (first | (with_reducible exact hM) | (with_reducible refine Made3.alloc ?_ _) | (with_reducible refine Made3.set ?_ (by omega) _ _) | (with_reducible refine Made3.ext ?_ _))))).mono ?_); rintro _ _ ⟨y1, rfl, rfl⟩; have sy1 := Ext.size y1; (repeat (first | rw [World.size_alloc] at sy1 | rw [World.size_setCell] at sy1 | rw [World.size_drew] at sy1)); have : GB < y1.now.heap.size := (by omega); have : GB ≤ y1.now.heap.size := (by omega); have : GB < y1.now.heap.size + 1 + 1 := (by omega); have : GB + 1 < y1.now.heap.size := (by omega); have : GB + 1 ≤ y1.now.heap.size := (by omega); have : GB + 1 < y1.now.heap.size + 1 + 1 := (by omega); have : GB + 1 + 1 < y1.now.heap.size := (by omega); have : GB + 1 + 1 ≤ y1.now.heap.size := (by omega); have : GB + 1 + 1 < y1.now.heap.size + 1 + 1 := (by omega); have : SB < y1.now.heap.size := (by omega); have : SB ≤ y1.now.heap.size := (by omega); have : SB < y1.now.heap.size + 1 + 1 := (by omega)) | (go_at_call 33; (first | with_reducible refine (Calls.giv2 (cSk _)).mono ?_ | with_reducible refine (Calls.giv (cSk _)).mono ?_); rintro _ _ ⟨y2, rfl, rfl⟩; have sy2 := Ext.size y2; (repeat (first | rw [World.size_alloc] at sy2 | rw [World.size_setCell] at sy2 | rw [World.size_drew] at sy2)); have : GB < y2.now.heap.size := (by omega); have : GB ≤ y2.now.heap.size := (by omega); have : GB < y2.now.heap.size + 1 + 1 := (by omega); have : GB + 1 < y2.now.heap.size := (by omega); have : GB + 1 ≤ y2.now.heap.size := (by omega); have : GB + 1 < y2.now.heap.size + 1 + 1 := (by omega); have : GB + 1 + 1 < y2.now.heap.size := (by omega); have : GB + 1 + 1 ≤ y2.now.heap.size := (by omega); have : GB + 1 + 1 < y2.now.heap.size + 1 + 1 := (by omega); have : SB < y2.now.heap.size := (by omega); have : SB ≤ y2.now.heap.size := (by omega); have : SB < y2.now.heap.size + 1 + 1 := (by omega)))
      refine ⟨⟨k + 1, _, by simp, rfl, Go.Lib.hid ⟨?_, ?_, hlt⟩⟩, by simp [intOf]; omega⟩
      · exact (((hM.ext y1).alloc _).ext y2).set4 lS u1
      · rw [hTk1]
        exact set4_row ((y2.grew.block _ (by simp only [World.size_alloc]; omega)).trans ((heap_alloc_old _ _ (by omega)).trans ((y1.grew.block _ lSk).trans hSk))) u1
    · have hge : ¬ (k : Int) < s.bodies.length := by omega
      obtain ⟨hM, hSk, hk⟩ := hi.out
      have hkn : k = s.bodies.length := by omega
      rw [hkn] at hSk
      (have c0 := (cell_of_row _ _ 0 _ _ _ (hM).rw_).trans rfl; have c1 := (cell_of_row _ _ 1 _ _ _ (hM).rw_).trans rfl; have e0 := (cell_of_row _ _ 0 _ _ _ (hM).rd).trans rfl; have e1 := (cell_of_row _ _ 1 _ _ _ (hM).rd).trans rfl; have e2 := (cell_of_row _ _ 2 _ _ _ (hM).rd).trans rfl; have e3 := (cell_of_row _ _ 3 _ _ _ (hM).rd).trans rfl; have e4 := (cell_of_row _ _ 4 _ _ _ (hM).rd).trans rfl; have g0 := (cell_of_row _ _ 0 _ _ _ (hM).ra).trans rfl; have g1 := (cell_of_row _ _ 1 _ _ _ (hM).ra).trans rfl; have g2 := (cell_of_row _ _ 2 _ _ _ (hM).ra).trans rfl; have g3 := (cell_of_row _ _ 3 _ _ _ (hM).ra).trans rfl; simp only [List.getElem?_toArray, List.getElem?_cons_zero, List.getElem?_cons_succ] at c0 c1 e0 e1 e2 e3 e4 g0 g1 g2 g3; have l0 := row_ltQ (hM).rw_; have l1 := row_ltQ (hM).rd; have l2 := row_ltQ (hM).ra)
      have hRk := hM.ring
      have lSk := row_ltQ hSk
      have bW := hM.bW
      clear hi cO hTs hT
      generalize hTk : T s.bodies.length = u at *
      go_upto_region 16 with (first | ((first | with_reducible refine wrx2 ?_ | with_reducible refine wrx ?_); (repeat (first | go_big_quiet_step ((first | (go_at_call 16; with_reducible exact Calls.ext (cV _ (by repeat (first | (with_reducible exact hM) | (with_reducible refine Made3.alloc ?_ _) | (with_reducible refine Made3.set ?_ (by omega) _ _) | (with_reducible refine Made3.ext ?_ _))))))) | quiet_step ((first | (go_at_call 16; with_reducible exact Calls.ext (cV _ (by repeat (first | (with_reducible exact hM) | (with_reducible refine Made3.alloc ?_ _) | (with_reducible refine Made3.set ?_ (by omega) _ _) | (with_reducible refine Made3.ext ?_ _))))))))); refine wpQuiet_nil ?_; rintro _ ⟨yr, rfl⟩; have syr := Ext.size yr; (repeat (first | rw [World.size_alloc] at syr | rw [World.size_setCell] at syr | rw [World.size_drew] at syr)); have : GB < yr.now.heap.size := (by omega); have : GB ≤ yr.now.heap.size := (by omega); have : GB < yr.now.heap.size + 1 + 1 := (by omega); have : GB + 1 < yr.now.heap.size := (by omega); have : GB + 1 ≤ yr.now.heap.size := (by omega); have : GB + 1 < yr.now.heap.size + 1 + 1 := (by omega); have : GB + 1 + 1 < yr.now.heap.size := (by omega); have : GB + 1 + 1 ≤ yr.now.heap.size := (by omega); have : GB + 1 + 1 < yr.now.heap.size + 1 + 1 := (by omega); have : SB < yr.now.heap.size := (by omega); have : SB ≤ yr.now.heap.size := (by omega); have : SB < yr.now.heap.size + 1 + 1 := (by omega)) | (go_at_call 16; (first | with_reducible refine (Calls.giv2 (cV _ (by repeat (first | (with_reducible exact hM) | (with_reducible refine Made3.alloc ?_ _) | (with_reducible refine Made3.set ?_ (by omega) _ _) | (with_reducible refine Made3.ext ?_ _))))).mono ?_ | with_reducible refine (Calls.giv (cV _ (by repeat (first | (with_reducible exact hM) | (with_reducible refine Made3.alloc ?_ _) | (with_reducible refine Made3.set ?_ (by omega) _ _) | (with_reducible refine Made3.ext ?_ _))))).mono ?_); rintro _ _ ⟨y1, rfl, rfl⟩; have sy1 := Ext.size y1; (repeat (first | rw [World.size_alloc] at sy1 | rw [World.size_setCell] at sy1 | rw [World.size_drew] at sy1)); have : GB < y1.now.heap.size := (by omega); have : GB ≤ y1.now.heap.size := (by omega); have : GB < y1.now.heap.size + 1 + 1 := (by omega); have : GB + 1 < y1.now.heap.size := (by omega); have : GB + 1 ≤ y1.now.heap.size := (by omega); have : GB + 1 < y1.now.heap.size + 1 + 1 := (by omega); have : GB + 1 + 1 < y1.now.heap.size := (by omega); have : GB + 1 + 1 ≤ y1.now.heap.size := (by omega); have : GB + 1 + 1 < y1.now.heap.size + 1 + 1 := (by omega); have : SB < y1.now.heap.size := (by omega); have : SB ≤ y1.now.heap.size := (by omega); have : SB < y1.now.heap.size + 1 + 1 := (by omega)) | (go_at_call 34; refine (SomeIn_y a1 a2 a3 a4 w.heap.size (0 + 80 + 6 + 6 + 1) _ (by omega) har9 (by repeat (first | exact hRk | (with_reducible refine RingM.alloc ?_ _) | (with_reducible refine RingM.ext ?_ _)))).mono ?_; rintro _ _ ⟨yV, v, rfl, hv, rfl, hrV⟩))
      refine wp_namedQ (fun W4 hW4 => ?_)
      have syV : (y1.now.alloc (.cells #[.int .i64 u.xl, .int .i64 u.xh, .int .i64 u.yl, .int .i64 u.yh] 33)).heap.size ≤ yV.now.heap.size := yV.size
      rw [World.size_alloc] at syV
      have hM4 : Made3 w.heap.size w W4 GB (0 + 80 + 6 + 6 + 1 + 2) s d a1 a2 a3 a4 LO HI := by
        rw [← hW4]
        exact (((hM.ext y1).alloc _).rext yV hrV).alloc _
      have r1 : W4.heap[SB]? = some (.cells #[.int .i64 u.xl, .int .i64 u.xh, .int .i64 u.yl, .int .i64 u.yh] 33 (0, 0)) := by
        rw [← hW4]
        exact (heap_alloc_old _ _ (by omega)).trans ((yV.grew.block _ (by simp only [World.size_alloc]; omega) (by omega)).trans ((heap_alloc_old _ _ (by omega)).trans ((y1.grew.block _ lSk).trans hSk)))
      have r2 : W4.heap[y1.now.heap.size]? = some (.cells #[.int .i64 u.xl, .int .i64 u.xh, .int .i64 u.yl, .int .i64 u.yh] 33 (0, 0)) := by
        rw [← hW4]
        exact (heap_alloc_old _ _ (by omega)).trans ((yV.grew.block _ (by simp) (by omega)).trans (heap_alloc_new _ _))
      have r3 : W4.heap[yV.now.heap.size]? = some (.cells #[.int .i64 v.x, .int .i64 v.y] 43 (0, 0)) := by
        rw [← hW4]
        exact heap_alloc_new _ _
      clear hW4
      generalize y1.now.heap.size = OB at *
      generalize yV.now.heap.size = PB at *
      have hEv : askE s.bodies s.home (driftE d) t v.x v.x v.y v.y = 0 := ask_make hw0 hsd.e (by omega) ⟨by have := har2.x0; omega, by omega, by have := har2.x2; omega, by have := har2.y0; omega, by omega, by have := har2.y2; omega⟩
      have cQ := fun (W : World) (h : Made3 w.heap.size w W GB (0 + 80 + 6 + 6 + 1 + 2) s d a1 a2 a3 a4 LO HI) => OverV_any s.bp s.bc s.bodies s.home d t v.x v.x v.y v.y W h.held.now hcap
      have cP := fun (W : World) (h : Made3 w.heap.size w W GB (0 + 80 + 6 + 6 + 1 + 2) s d a1 a2 a3 a4 LO HI) => Pull_any s.bp s.bc s.bodies s.home d t v.x v.y W h.held.now hcap
      rw [hEv] at cQ cP
      unfold A4.val at cQ cP
      generalize overV s.bodies s.home d t v.x v.x v.y v.y = q at *
      have cA := fun (W : World) => fat_any v.x v.y W
      (repeat clear this)
      clear syV sy1 hrV hv c0 c1 e0 e1 e2 e3 e4 g0 g1 g2 g3 l0 l1 l2 hRk cV hSk hM hlt hge hkn
      clear yV y1
      have hM := hM4
      clear hM4
      (have c0 := (cell_of_row _ _ 0 _ _ _ (hM).rw_).trans rfl; have c1 := (cell_of_row _ _ 1 _ _ _ (hM).rw_).trans rfl; have e0 := (cell_of_row _ _ 0 _ _ _ (hM).rd).trans rfl; have e1 := (cell_of_row _ _ 1 _ _ _ (hM).rd).trans rfl; have e2 := (cell_of_row _ _ 2 _ _ _ (hM).rd).trans rfl; have e3 := (cell_of_row _ _ 3 _ _ _ (hM).rd).trans rfl; have e4 := (cell_of_row _ _ 4 _ _ _ (hM).rd).trans rfl; have g0 := (cell_of_row _ _ 0 _ _ _ (hM).ra).trans rfl; have g1 := (cell_of_row _ _ 1 _ _ _ (hM).ra).trans rfl; have g2 := (cell_of_row _ _ 2 _ _ _ (hM).ra).trans rfl; have g3 := (cell_of_row _ _ 3 _ _ _ (hM).ra).trans rfl; simp only [List.getElem?_toArray, List.getElem?_cons_zero, List.getElem?_cons_succ] at c0 c1 e0 e1 e2 e3 e4 g0 g1 g2 g3; have l0 := row_ltQ (hM).rw_; have l1 := row_ltQ (hM).rd; have l2 := row_ltQ (hM).ra)
      (have s0 := (cell_of_row _ _ 0 _ _ _ (r1)).trans rfl; have s1 := (cell_of_row _ _ 1 _ _ _ (r1)).trans rfl; have s2 := (cell_of_row _ _ 2 _ _ _ (r1)).trans rfl; have s3 := (cell_of_row _ _ 3 _ _ _ (r1)).trans rfl; simp only [List.getElem?_toArray, List.getElem?_cons_zero, List.getElem?_cons_succ] at s0 s1 s2 s3; have f0 := frozen_rowQ (o := 0) (r1); have f1 := frozen_rowQ (o := 1) (r1); have f2 := frozen_rowQ (o := 2) (r1); have f3 := frozen_rowQ (o := 3) (r1))
      have o0 := (cell_of_row _ _ 0 _ _ _ r2).trans rfl
      have o1 := (cell_of_row _ _ 1 _ _ _ r2).trans rfl
      have o2 := (cell_of_row _ _ 2 _ _ _ r2).trans rfl
      have o3 := (cell_of_row _ _ 3 _ _ _ r2).trans rfl
      have p0 := (cell_of_row _ _ 0 _ _ _ r3).trans rfl
      have p1 := (cell_of_row _ _ 1 _ _ _ r3).trans rfl
      simp only [List.getElem?_toArray, List.getElem?_cons_zero, List.getElem?_cons_succ] at o0 o1 o2 o3 p0 p1
      have lS4 := row_ltQ r1
      have lO4 := row_ltQ r2
      have lP4 := row_ltQ r3
      clear hok hE hE0 har har2 har9 hbP hT0 rS3 hM3 hcap
      (apply wp_region_free1s 12 19 107 20 108 #[.int .i64 0, .int .i64 0, .int .i64 0, .int .i64 0] #[.int .i64 q.xl, .int .i64 q.xh, .int .i64 q.yl, .int .i64 q.yh] 33 (by kernel_rfl) (by kernel_rfl)); (case hal1 => (intro a' W' K hk; refine wpOp_step rfl (fun K' hK' => ?_); go_simp; exact hK' _ _ hk)); (case h => (intro z; have sz := z.size; (repeat (first | rw [World.size_alloc] at sz | rw [World.size_setCell] at sz | rw [World.size_drew] at sz)); have : GB < z.now.heap.size := (by omega); have : GB ≤ z.now.heap.size := (by omega); have : GB + 1 < z.now.heap.size := (by omega); have : GB + 1 ≤ z.now.heap.size := (by omega); have : GB + 1 + 1 < z.now.heap.size := (by omega); have : GB + 1 + 1 ≤ z.now.heap.size := (by omega); have : SB < z.now.heap.size := (by omega); have : SB ≤ z.now.heap.size := (by omega); have : OB < z.now.heap.size := (by omega); have : OB ≤ z.now.heap.size := (by omega); have : PB < z.now.heap.size := (by omega); have : PB ≤ z.now.heap.size := (by omega); (repeat (first | go_big_quiet_step ((first | (go_at_call 13; with_reducible exact Calls.ext (cA _)) | (go_at_call 16; with_reducible exact Calls.ext (cQ _ (by repeat (first | (with_reducible exact hM) | (with_reducible refine Made3.alloc ?_ _) | (with_reducible refine Made3.set ?_ (by omega) _ _) | (with_reducible refine Made3.ext ?_ _))))))) | quiet_step ((first | (go_at_call 13; with_reducible exact Calls.ext (cA _)) | (go_at_call 16; with_reducible exact Calls.ext (cQ _ (by repeat (first | (with_reducible exact hM) | (with_reducible refine Made3.alloc ?_ _) | (with_reducible refine Made3.set ?_ (by omega) _ _) | (with_reducible refine Made3.ext ?_ _))))))))); exact wpQuiet_nil rfl)); (case hfs => exact Nat.le_of_ble_eq_true rfl); (case hs1 => (intro a' W' K O hp hx hg hk; refine wpOp_step rfl (fun K' hK' => ?_); refine (if_pos (by rfl)).mpr ?_; exact store_op 33 (.tmp 19) (.tmp 107) rfl O #[.int .i64 q.xl, .int .i64 q.xh, .int .i64 q.yl, .int .i64 q.yh] hp (hx.trans rfl) 33 _ hg (by kernel_rfl) rfl (by simp [Value.oneCell']) (hK' _ _ hk))); (case hs2 => (intro a' W' K hx hk; refine wpOp_step rfl (fun K' hK' => ?_); have hk9 : K (a'.put (some 20) (a'.eval (.tmp 108))) W' := (by rw [hx]; exact hk); go_simp; first | exact hK' _ _ hk9 | (simp [Act.put, Act.eval] at hk9; exact hK' _ _ hk9))); intro yr BV gB1 gB2 gB3; have syr := yr.size; (repeat (first | rw [World.size_alloc] at syr | rw [World.size_setCell] at syr | rw [World.size_drew] at syr)); (repeat (first | rw [World.size_alloc] at gB1 | rw [World.size_setCell] at gB1 | rw [World.size_drew] at gB1)); have : GB < yr.now.heap.size := (by omega); have : GB ≤ yr.now.heap.size := (by omega); have : GB < yr.now.heap.size + 1 := (by omega); have : GB + 1 < yr.now.heap.size := (by omega); have : GB + 1 ≤ yr.now.heap.size := (by omega); have : GB + 1 < yr.now.heap.size + 1 := (by omega); have : GB + 1 + 1 < yr.now.heap.size := (by omega); have : GB + 1 + 1 ≤ yr.now.heap.size := (by omega); have : GB + 1 + 1 < yr.now.heap.size + 1 := (by omega); have : SB < yr.now.heap.size := (by omega); have : SB ≤ yr.now.heap.size := (by omega); have : SB < yr.now.heap.size + 1 := (by omega); have : OB < yr.now.heap.size := (by omega); have : OB ≤ yr.now.heap.size := (by omega); have : OB < yr.now.heap.size + 1 := (by omega); have : PB < yr.now.heap.size := (by omega); have : PB ≤ yr.now.heap.size := (by omega); have : PB < yr.now.heap.size + 1 := (by omega); have kv0 := one_row yr gB3 0; have kv1 := one_row yr gB3 1; have kv2 := one_row yr gB3 2; have kv3 := one_row yr gB3 3; simp only [List.getElem?_toArray, List.getElem?_cons_zero, List.getElem?_cons_succ] at kv0 kv1 kv2 kv3; clear gB3
      have hM5 := hM.ext yr
      have t1 := (yr.grew.block _ lS4).trans r1
      have t2 := (yr.grew.block _ lO4).trans r2
      have t3 := (yr.grew.block _ lP4).trans r3
      (repeat clear this)
      clear syr gB1 hM c0 c1 e0 e1 e2 e3 e4 g0 g1 g2 g3 l0 l1 l2 s0 s1 s2 s3 f0 f1 f2 f3 o0 o1 o2 o3 p0 p1 lS4 lO4 lP4 r1 r2 r3
      obtain ⟨W5, hW5⟩ : ∃ W, W = yr.now := ⟨_, rfl⟩
      rw [← hW5] at hM5 t1 t2 t3 gB2 kv0 kv1 kv2 kv3 ⊢
      clear hW5 yr
      have hM := hM5
      clear hM5
      (have c0 := (cell_of_row _ _ 0 _ _ _ (hM).rw_).trans rfl; have c1 := (cell_of_row _ _ 1 _ _ _ (hM).rw_).trans rfl; have e0 := (cell_of_row _ _ 0 _ _ _ (hM).rd).trans rfl; have e1 := (cell_of_row _ _ 1 _ _ _ (hM).rd).trans rfl; have e2 := (cell_of_row _ _ 2 _ _ _ (hM).rd).trans rfl; have e3 := (cell_of_row _ _ 3 _ _ _ (hM).rd).trans rfl; have e4 := (cell_of_row _ _ 4 _ _ _ (hM).rd).trans rfl; have g0 := (cell_of_row _ _ 0 _ _ _ (hM).ra).trans rfl; have g1 := (cell_of_row _ _ 1 _ _ _ (hM).ra).trans rfl; have g2 := (cell_of_row _ _ 2 _ _ _ (hM).ra).trans rfl; have g3 := (cell_of_row _ _ 3 _ _ _ (hM).ra).trans rfl; simp only [List.getElem?_toArray, List.getElem?_cons_zero, List.getElem?_cons_succ] at c0 c1 e0 e1 e2 e3 e4 g0 g1 g2 g3; have l0 := row_ltQ (hM).rw_; have l1 := row_ltQ (hM).rd; have l2 := row_ltQ (hM).ra)
      (have s0 := (cell_of_row _ _ 0 _ _ _ (t1)).trans rfl; have s1 := (cell_of_row _ _ 1 _ _ _ (t1)).trans rfl; have s2 := (cell_of_row _ _ 2 _ _ _ (t1)).trans rfl; have s3 := (cell_of_row _ _ 3 _ _ _ (t1)).trans rfl; simp only [List.getElem?_toArray, List.getElem?_cons_zero, List.getElem?_cons_succ] at s0 s1 s2 s3; have f0 := frozen_rowQ (o := 0) (t1); have f1 := frozen_rowQ (o := 1) (t1); have f2 := frozen_rowQ (o := 2) (t1); have f3 := frozen_rowQ (o := 3) (t1))
      have o0 := (cell_of_row _ _ 0 _ _ _ t2).trans rfl
      have o1 := (cell_of_row _ _ 1 _ _ _ t2).trans rfl
      have o2 := (cell_of_row _ _ 2 _ _ _ t2).trans rfl
      have o3 := (cell_of_row _ _ 3 _ _ _ t2).trans rfl
      have p0 := (cell_of_row _ _ 0 _ _ _ t3).trans rfl
      have p1 := (cell_of_row _ _ 1 _ _ _ t3).trans rfl
      simp only [List.getElem?_toArray, List.getElem?_cons_zero, List.getElem?_cons_succ] at o0 o1 o2 o3 p0 p1
      have lS5 := row_ltQ t1
      have lO5 := row_ltQ t2
      have lP5 := row_ltQ t3
      have bL := hM.bel
      go_wp2_with (first | ((first | with_reducible refine wrx2 ?_ | with_reducible refine wrx ?_); (repeat (first | go_big_quiet_step ((first | (go_at_call 19; with_reducible exact Calls.ext (cP _ (by repeat (first | (with_reducible exact hM) | (with_reducible refine Made3.alloc ?_ _) | (with_reducible refine Made3.set ?_ (by omega) _ _) | (with_reducible refine Made3.ext ?_ _))))) | (go_at_call 10; with_reducible exact Calls.ext (ca _)))) | quiet_step ((first | (go_at_call 19; with_reducible exact Calls.ext (cP _ (by repeat (first | (with_reducible exact hM) | (with_reducible refine Made3.alloc ?_ _) | (with_reducible refine Made3.set ?_ (by omega) _ _) | (with_reducible refine Made3.ext ?_ _))))) | (go_at_call 10; with_reducible exact Calls.ext (ca _)))))); refine wpQuiet_nil ?_; rintro _ ⟨yr, rfl⟩; have syr := Ext.size yr; (repeat (first | rw [World.size_alloc] at syr | rw [World.size_setCell] at syr | rw [World.size_drew] at syr)); have : GB < yr.now.heap.size := (by omega); have : GB ≤ yr.now.heap.size := (by omega); have : GB < yr.now.heap.size + 1 + 1 := (by omega); have : GB + 1 < yr.now.heap.size := (by omega); have : GB + 1 ≤ yr.now.heap.size := (by omega); have : GB + 1 < yr.now.heap.size + 1 + 1 := (by omega); have : GB + 1 + 1 < yr.now.heap.size := (by omega); have : GB + 1 + 1 ≤ yr.now.heap.size := (by omega); have : GB + 1 + 1 < yr.now.heap.size + 1 + 1 := (by omega); have : SB < yr.now.heap.size := (by omega); have : SB ≤ yr.now.heap.size := (by omega); have : SB < yr.now.heap.size + 1 + 1 := (by omega); have : OB < yr.now.heap.size := (by omega); have : OB ≤ yr.now.heap.size := (by omega); have : OB < yr.now.heap.size + 1 + 1 := (by omega); have : PB < yr.now.heap.size := (by omega); have : PB ≤ yr.now.heap.size := (by omega); have : PB < yr.now.heap.size + 1 + 1 := (by omega); have : BV < yr.now.heap.size := (by omega); have : BV ≤ yr.now.heap.size := (by omega); have : BV < yr.now.heap.size + 1 + 1 := (by omega)) | (go_at_call 19; (first | with_reducible refine (Calls.giv2 (cP _ (by repeat (first | (with_reducible exact hM) | (with_reducible refine Made3.alloc ?_ _) | (with_reducible refine Made3.set ?_ (by omega) _ _) | (with_reducible refine Made3.ext ?_ _))))).mono ?_ | with_reducible refine (Calls.giv (cP _ (by repeat (first | (with_reducible exact hM) | (with_reducible refine Made3.alloc ?_ _) | (with_reducible refine Made3.set ?_ (by omega) _ _) | (with_reducible refine Made3.ext ?_ _))))).mono ?_); rintro _ _ ⟨y1, rfl, rfl⟩; have sy1 := Ext.size y1; (repeat (first | rw [World.size_alloc] at sy1 | rw [World.size_setCell] at sy1 | rw [World.size_drew] at sy1)); have : GB < y1.now.heap.size := (by omega); have : GB ≤ y1.now.heap.size := (by omega); have : GB < y1.now.heap.size + 1 + 1 := (by omega); have : GB + 1 < y1.now.heap.size := (by omega); have : GB + 1 ≤ y1.now.heap.size := (by omega); have : GB + 1 < y1.now.heap.size + 1 + 1 := (by omega); have : GB + 1 + 1 < y1.now.heap.size := (by omega); have : GB + 1 + 1 ≤ y1.now.heap.size := (by omega); have : GB + 1 + 1 < y1.now.heap.size + 1 + 1 := (by omega); have : SB < y1.now.heap.size := (by omega); have : SB ≤ y1.now.heap.size := (by omega); have : SB < y1.now.heap.size + 1 + 1 := (by omega); have : OB < y1.now.heap.size := (by omega); have : OB ≤ y1.now.heap.size := (by omega); have : OB < y1.now.heap.size + 1 + 1 := (by omega); have : PB < y1.now.heap.size := (by omega); have : PB ≤ y1.now.heap.size := (by omega); have : PB < y1.now.heap.size + 1 + 1 := (by omega); have : BV < y1.now.heap.size := (by omega); have : BV ≤ y1.now.heap.size := (by omega); have : BV < y1.now.heap.size + 1 + 1 := (by omega)) | (go_at_call 10; (first | with_reducible refine (Calls.giv2 (ca _)).mono ?_ | with_reducible refine (Calls.giv (ca _)).mono ?_); rintro _ _ ⟨y2, rfl, rfl⟩; have sy2 := Ext.size y2; (repeat (first | rw [World.size_alloc] at sy2 | rw [World.size_setCell] at sy2 | rw [World.size_drew] at sy2)); have : GB < y2.now.heap.size := (by omega); have : GB ≤ y2.now.heap.size := (by omega); have : GB < y2.now.heap.size + 1 + 1 := (by omega); have : GB + 1 < y2.now.heap.size := (by omega); have : GB + 1 ≤ y2.now.heap.size := (by omega); have : GB + 1 < y2.now.heap.size + 1 + 1 := (by omega); have : GB + 1 + 1 < y2.now.heap.size := (by omega); have : GB + 1 + 1 ≤ y2.now.heap.size := (by omega); have : GB + 1 + 1 < y2.now.heap.size + 1 + 1 := (by omega); have : SB < y2.now.heap.size := (by omega); have : SB ≤ y2.now.heap.size := (by omega); have : SB < y2.now.heap.size + 1 + 1 := (by omega); have : OB < y2.now.heap.size := (by omega); have : OB ≤ y2.now.heap.size := (by omega); have : OB < y2.now.heap.size + 1 + 1 := (by omega); have : PB < y2.now.heap.size := (by omega); have : PB ≤ y2.now.heap.size := (by omega); have : PB < y2.now.heap.size + 1 + 1 := (by omega); have : BV < y2.now.heap.size := (by omega); have : BV ≤ y2.now.heap.size := (by omega); have : BV < y2.now.heap.size + 1 + 1 := (by omega)))
      go_returns
      refine ⟨rfl, ?_⟩
      have bB : Below w.heap.size w W5 := ⟨bL.os, bL.tape, bL.output, bL.size, fun k hk => bL.block k hk (by omega)⟩
      exact (((bB.trans (y1.grew.mono bL.size)).alloc (by have := bL.size; omega) _)).trans (y2.grew.mono (by have := bL.size; simp only [World.size_alloc]; omega))
set_option maxRecDepth 100000 in
theorem ForceSums_lifted (os : Os) (started : os.Started) (H : Type) (enc : TypeId × Value → H) :
    ReturnsInHanded {} Try.checked os 6 .any (Rows.forceSumsSpec.pre6 enc Try.prog Try.f6 Rows.forceSumsRow.domain false) (Rows.forceSumsSpec.post enc Try.prog Try.f6 false true false false) := by
  refine returnsInHanded_of_change (C := Try.checked) own started (by kernel_rfl) Try.func6
    (ChangeSpec.witness6 (enc := enc) (C := Try.checked) false ⟨#[], #[.slice none 0 0], []⟩ 8 (by kernel_rfl) (by kernel_rfl) (by kernel_rfl) (by kernel_rfl)) ?_
  intro W base args ds gs before hval0 hW _ _
  have hval : ∀ (j : Nat) t v, Try.f6.params[j]? = some t → args[j]? = some v → Value.okWide Try.prog W .any base t v := hval0
  have hW' := hW
  obtain ⟨p, q, hA0, hV, _, _, _⟩ := hW
  have hA : DataW.TrodAll enc Try.prog W 0 (fun _ => true) true Try.f6.params.toList args.toList ds p := hA0
  rw [Try.params6] at hA hval
  obtain ⟨v0, vs0, d0, ds0, p0, q0, hargs0, rfl, _, h0, r0⟩ := trodAll_cons hA
  obtain ⟨hlast, rfl, _⟩ := trodAll_nil r0
  subst hlast
  obtain rfl : args = #[v0] := by cases args; simp_all
  obtain ⟨rfl, rfl⟩ := trodVars_none hV
  obtain ⟨sp0, sl0, sc0, sz0, rfl, hi0⟩ := open_list (P := Try.prog) Try.underlying54 Try.underlying3 (by kernel_rfl) (hval 0 54 v0 rfl rfl) h0
  exact (ForceSums_any sp0 sl0 sc0 sz0 W hi0).mono fun e W' h => law_post laid_out (by rw [Try.params6]; intro t ht; simp only [List.mem_cons, List.not_mem_nil, or_false] at ht; rcases ht with rfl | rfl | rfl | rfl | rfl | rfl | rfl | rfl; all_goals exact ⟨by kernel_rfl, by decide +kernel⟩) rfl rfl Try.underlying4 hW' rfl h
/-- The statement. -/
theorem ForceSums_holds : Rows.ForceSumsSaid :=
  OpenClaim.holds_of_wide 6 Try.f6 rfl rfl rfl rfl rfl rfl rfl ⟨rfl, rfl, rfl, rfl, rfl⟩ rfl rfl rfl rfl rfl (by kernel_rfl) Try.func6 (by kernel_rfl)
    (of_decide_eq_true (by kernel_rfl)) (by unfold Func.isWrapper; first | (rw [if_pos (by decide +kernel)]; kernel_rfl) | (rw [if_neg (by decide +kernel)]; exact ⟨rfl, rfl⟩))
    (fun os started H enc _ => ForceSums_lifted os started H enc)
--LAW
end Go.Proofs.Ytlhihmfefipehaa

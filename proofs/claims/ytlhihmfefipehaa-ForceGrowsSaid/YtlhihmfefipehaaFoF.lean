/- The pull of a body on an area as a plain function of its numbers, and the contracts of pull and depth. Condition: a valid body, valid places. -/
import Derived.Test.YtlhihmfefipehaaFoS
import Derived.Deep.CutRange
namespace Go.Proofs.Ytlhihmfefipehaa
open Go.RowKit Go.Shelf
attribute [local go_sem] Option.isSome_some Ext.cell Ext.frozen Ext.lt Ext.le Ext.lt_add Ext.le_add Ext.ne Ext.ne' lt2 lt3 lt4 lt5 le2 le3 le4
set_option maxRecDepth 100000
set_option maxHeartbeats 4000000
/-- Two spans. -/
structure A4 where
  xl : Int
  xh : Int
  yl : Int
  yh : Int
def A4.val (r : A4) : Value := .agg #[.int .i64 r.xl, .int .i64 r.xh, .int .i64 r.yl, .int .i64 r.yh]
/-- The squares of the lengths of a way, none of them less than that of the edge. -/
def dqL (rad xl xh yl yh : Int) : Int := max (absL xl xh * absL xl xh + absL yl yh * absL yl yh) (edgeI rad)
def dqH (rad xl xh yl yh : Int) : Int := max (absH xl xh * absH xl xh + absH yl yh * absH yl yh) (edgeI rad)
/-- The pull of a body on what lies so in relation to it. -/
def pullW (mu rad xl xh yl yh : Int) : A4 :=
  ⟨strL mu xl xh (dqL rad xl xh yl yh) (dqH rad xl xh yl yh) (rootI (dqL rad xl xh yl yh)) (rootU (dqH rad xl xh yl yh)), strH mu xl xh (dqL rad xl xh yl yh) (dqH rad xl xh yl yh) (rootI (dqL rad xl xh yl yh)) (rootU (dqH rad xl xh yl yh)),
   strL mu yl yh (dqL rad xl xh yl yh) (dqH rad xl xh yl yh) (rootI (dqL rad xl xh yl yh)) (rootU (dqH rad xl xh yl yh)), strH mu yl yh (dqL rad xl xh yl yh) (dqH rad xl xh yl yh) (rootI (dqL rad xl xh yl yh)) (rootU (dqH rad xl xh yl yh))⟩
/-- The pull of a body in a place on an area. -/
def pullA (mu rad px py a b c d : Int) : A4 := pullW mu rad (px - b) (px - a) (py - d) (py - c)
structure PullOk (mu rad px py a b c d : Int) : Prop where
  m0 : 0 ≤ mu
  m1 : mu ≤ 1125899906842624
  r0 : 0 ≤ rad
  r1 : rad ≤ 1048576
  x0 : -33554432 ≤ px
  x1 : px ≤ 33554432
  y0 : -33554432 ≤ py
  y1 : py ≤ 33554432
  a0 : -33554432 ≤ a
  a1 : a ≤ b
  a2 : b ≤ 33554432
  c0 : -33554432 ≤ c
  c1 : c ≤ d
  c2 : d ≤ 33554432
theorem edge_bounds {rad : Int} (h : 0 ≤ rad ∧ rad ≤ 1048576) : 1 ≤ edgeI rad ∧ edgeI rad ≤ 1099511627776 := by
  have h0 := mul_le4 h.1 h.2 h.1 h.2
  unfold edgeI
  omega
theorem dq_bounds {rad xl xh yl yh : Int} (h : 0 ≤ rad ∧ rad ≤ 1048576) (x0 : -536870912 ≤ xl) (x1 : xl ≤ xh) (x2 : xh ≤ 536870912) (y0 : -536870912 ≤ yl) (y1 : yl ≤ yh) (y2 : yh ≤ 536870912) :
    1 ≤ dqL rad xl xh yl yh ∧ dqL rad xl xh yl yh ≤ dqH rad xl xh yl yh ∧ dqH rad xl xh yl yh ≤ 576460752303423488 := by
  obtain ⟨e1, e2⟩ := edge_bounds h
  obtain ⟨-, -, p1, p2, p3⟩ := sq_clean x0 x2 x1
  obtain ⟨-, -, q1, q2, q3⟩ := sq_clean y0 y2 y1
  unfold dqL dqH
  omega
theorem str_ok {mu rad xl xh yl yh : Int} (m : 0 ≤ mu ∧ mu ≤ 1125899906842624) (h : 0 ≤ rad ∧ rad ≤ 1048576) (x0 : -536870912 ≤ xl) (x1 : xl ≤ xh) (x2 : xh ≤ 536870912) (y0 : -536870912 ≤ yl) (y1 : yl ≤ yh) (y2 : yh ≤ 536870912) {zl zh : Int} (z0 : -536870912 ≤ zl) (z1 : zl ≤ zh) (z2 : zh ≤ 536870912) :
    StrOk mu zl zh (dqL rad xl xh yl yh) (dqH rad xl xh yl yh) (rootI (dqL rad xl xh yl yh)) (rootU (dqH rad xl xh yl yh)) := by
  obtain ⟨b1, b2, b3⟩ := dq_bounds h x0 x1 x2 y0 y1 y2
  obtain ⟨-, -, r1, r2, r3⟩ := roots_clean b1 b2 (by omega)
  exact ⟨m.1, m.2, z0, z1, z2, b1, b2, by omega, r1, r2, by omega⟩
theorem pull_any (mu rad : Int) (tp : Option Addr) (tn tc : Nat) (px py a b c d : Int) (w : World) (h : PullOk mu rad px py a b c d) :
    Calls Try.prog 44 #[.agg #[.int .i64 mu, .int .i64 rad, .slice tp tn tc, .int .i64 px, .int .i64 py], .agg #[.int .i64 a, .int .i64 b, .int .i64 c, .int .i64 d]] w (Gives ((pullA mu rad px py a b c d).val) w) := by
  obtain ⟨m0, m1, r0, r1, x0, x1, y0, y1, a0, a1, a2, c0, c1, c2⟩ := h
  have cw := fun W => way_any mu rad tp tn tc px py a b c d W
  have ex := sub_clean (a := px) (b := px) (c := a) (d := b) (by omega) (by omega) (by omega) (by omega) (by omega) a1
  have ey := sub_clean (a := py) (b := py) (c := c) (d := d) (by omega) (by omega) (by omega) (by omega) (by omega) c1
  rw [ex.1, ex.2, ey.1, ey.2] at cw
  unfold pullA
  have X0 : -536870912 ≤ px - b := by omega
  have X1 : px - b ≤ px - a := by omega
  have X2 : px - a ≤ 536870912 := by omega
  have Y0 : -536870912 ≤ py - d := by omega
  have Y1 : py - d ≤ py - c := by omega
  have Y2 : py - c ≤ 536870912 := by omega
  clear ex ey x0 x1 y0 y1 a0 a1 a2 c0 c1 c2
  generalize px - b = xl at *
  generalize px - a = xh at *
  generalize py - d = yl at *
  generalize py - c = yh at *
  obtain ⟨s1, s2, p1, p2, p3⟩ := sq_clean X0 X2 X1
  obtain ⟨t1, t2, q1, q2, q3⟩ := sq_clean Y0 Y2 Y1
  have ea := add_clean (a := sqL xl xh) (b := sqH xl xh) (c := sqL yl yh) (d := sqH yl yh) (by omega) (by omega) (by omega) (by omega) (by omega) (by omega)
  rw [s1, s2, t1, t2] at ea
  have cq := fun W => squaredDistance_any mu rad tp tn tc px py xl xh yl yh (absL xl xh * absL xl xh + absL yl yh * absL yl yh) (absH xl xh * absH xl xh + absH yl yh * absH yl yh) W ⟨r0, r1⟩ (by rw [s1, s2, t1, t2]; exact ea.1) (by rw [s1, s2, t1, t2]; exact ea.2)
  have k1 := str_ok ⟨m0, m1⟩ ⟨r0, r1⟩ X0 X1 X2 Y0 Y1 Y2 X0 X1 X2
  have k2 := str_ok ⟨m0, m1⟩ ⟨r0, r1⟩ X0 X1 X2 Y0 Y1 Y2 Y0 Y1 Y2
  obtain ⟨b1, b2, b3⟩ := dq_bounds ⟨r0, r1⟩ X0 X1 X2 Y0 Y1 Y2
  have cr := fun W => Roots_any (dqL rad xl xh yl yh) (dqH rad xl xh yl yh) W
  obtain ⟨u1, u2, -, -, -⟩ := roots_clean b1 b2 (by omega)
  rw [u1, u2] at cr
  change ∀ W, Calls _ _ _ _ (Gives (.agg #[.int .i64 (dqL rad xl xh yl yh), .int .i64 (dqH rad xl xh yl yh)]) W) at cq
  have v1 := fun W => strength_any mu xl xh (dqL rad xl xh yl yh) (dqH rad xl xh yl yh) (rootI (dqL rad xl xh yl yh)) (rootU (dqH rad xl xh yl yh)) W k1
  have v2 := fun W => strength_any mu yl yh (dqL rad xl xh yl yh) (dqH rad xl xh yl yh) (rootI (dqL rad xl xh yl yh)) (rootU (dqH rad xl xh yl yh)) W k2
  unfold pullW A4.val
  clear s1 s2 t1 t2 ea k1 k2 b1 b2 b3 u1 u2 p1 p2 p3 q1 q2 q3 X0 X1 X2 Y0 Y1 Y2 m0 m1 r0 r1
  simp only
  generalize dqL rad xl xh yl yh = ql at *
  generalize dqH rad xl xh yl yh = qh at *
  generalize rootI ql = rl at *
  generalize rootU qh = rh at *
  generalize rootsE ql qh = er at *
  generalize strL mu xl xh ql qh rl rh = r1 at *
  generalize strH mu xl xh ql qh rl rh = r2 at *
  generalize strL mu yl yh ql qh rl rh = r3 at *
  generalize strH mu yl yh ql qh rl rh = r4 at *
  have ck := fun x y e W => known_any x y e W
  go_enter Try.func44, Try.ntmps44
  go_upto_region 4 with (first | ((first | with_reducible refine wrx2 ?_ | with_reducible refine wrx ?_); (repeat (first | go_big_quiet_step ((first | (go_at_call 72; with_reducible exact Calls.ext (cw _)) | (go_at_call 73; with_reducible exact Calls.ext (cq _)) | (go_at_call 74; with_reducible exact Calls.ext (cr _)) | (go_at_call 53; with_reducible exact Calls.ext (ck _ _ _ _)))) | quiet_step ((first | (go_at_call 72; with_reducible exact Calls.ext (cw _)) | (go_at_call 73; with_reducible exact Calls.ext (cq _)) | (go_at_call 74; with_reducible exact Calls.ext (cr _)) | (go_at_call 53; with_reducible exact Calls.ext (ck _ _ _ _)))))); refine wpQuiet_nil ?_; rintro _ ⟨yr, rfl⟩; have syr := Ext.size yr; (repeat (first | rw [World.size_alloc] at syr | rw [World.size_setCell] at syr | rw [World.size_drew] at syr)); have : w.heap.size < yr.now.heap.size := (by omega); have : w.heap.size ≤ yr.now.heap.size := (by omega); have : w.heap.size < yr.now.heap.size + 1 + 1 := (by omega); have : w.heap.size + 1 < yr.now.heap.size := (by omega); have : w.heap.size + 1 ≤ yr.now.heap.size := (by omega); have : w.heap.size + 1 < yr.now.heap.size + 1 + 1 := (by omega); have : w.heap.size + 1 + 1 < yr.now.heap.size := (by omega); have : w.heap.size + 1 + 1 ≤ yr.now.heap.size := (by omega); have : w.heap.size + 1 + 1 < yr.now.heap.size + 1 + 1 := (by omega)) | (go_at_call 72; (first | with_reducible refine (Calls.giv2 (cw _)).mono ?_ | with_reducible refine (Calls.giv (cw _)).mono ?_); rintro _ _ ⟨y1, rfl, rfl⟩; have sy1 := Ext.size y1; (repeat (first | rw [World.size_alloc] at sy1 | rw [World.size_setCell] at sy1 | rw [World.size_drew] at sy1)); have : w.heap.size < y1.now.heap.size := (by omega); have : w.heap.size ≤ y1.now.heap.size := (by omega); have : w.heap.size < y1.now.heap.size + 1 + 1 := (by omega); have : w.heap.size + 1 < y1.now.heap.size := (by omega); have : w.heap.size + 1 ≤ y1.now.heap.size := (by omega); have : w.heap.size + 1 < y1.now.heap.size + 1 + 1 := (by omega); have : w.heap.size + 1 + 1 < y1.now.heap.size := (by omega); have : w.heap.size + 1 + 1 ≤ y1.now.heap.size := (by omega); have : w.heap.size + 1 + 1 < y1.now.heap.size + 1 + 1 := (by omega)) | (go_at_call 73; (first | with_reducible refine (Calls.giv2 (cq _)).mono ?_ | with_reducible refine (Calls.giv (cq _)).mono ?_); rintro _ _ ⟨y2, rfl, rfl⟩; have sy2 := Ext.size y2; (repeat (first | rw [World.size_alloc] at sy2 | rw [World.size_setCell] at sy2 | rw [World.size_drew] at sy2)); have : w.heap.size < y2.now.heap.size := (by omega); have : w.heap.size ≤ y2.now.heap.size := (by omega); have : w.heap.size < y2.now.heap.size + 1 + 1 := (by omega); have : w.heap.size + 1 < y2.now.heap.size := (by omega); have : w.heap.size + 1 ≤ y2.now.heap.size := (by omega); have : w.heap.size + 1 < y2.now.heap.size + 1 + 1 := (by omega); have : w.heap.size + 1 + 1 < y2.now.heap.size := (by omega); have : w.heap.size + 1 + 1 ≤ y2.now.heap.size := (by omega); have : w.heap.size + 1 + 1 < y2.now.heap.size + 1 + 1 := (by omega)) | (go_at_call 74; (first | with_reducible refine (Calls.giv2 (cr _)).mono ?_ | with_reducible refine (Calls.giv (cr _)).mono ?_); rintro _ _ ⟨y3, rfl, rfl⟩; have sy3 := Ext.size y3; (repeat (first | rw [World.size_alloc] at sy3 | rw [World.size_setCell] at sy3 | rw [World.size_drew] at sy3)); have : w.heap.size < y3.now.heap.size := (by omega); have : w.heap.size ≤ y3.now.heap.size := (by omega); have : w.heap.size < y3.now.heap.size + 1 + 1 := (by omega); have : w.heap.size + 1 < y3.now.heap.size := (by omega); have : w.heap.size + 1 ≤ y3.now.heap.size := (by omega); have : w.heap.size + 1 < y3.now.heap.size + 1 + 1 := (by omega); have : w.heap.size + 1 + 1 < y3.now.heap.size := (by omega); have : w.heap.size + 1 + 1 ≤ y3.now.heap.size := (by omega); have : w.heap.size + 1 + 1 < y3.now.heap.size + 1 + 1 := (by omega)) | (go_at_call 53; (first | with_reducible refine (Calls.giv2 (ck _ _ _ _)).mono ?_ | with_reducible refine (Calls.giv (ck _ _ _ _)).mono ?_); rintro _ _ ⟨y4, rfl, rfl⟩; have sy4 := Ext.size y4; (repeat (first | rw [World.size_alloc] at sy4 | rw [World.size_setCell] at sy4 | rw [World.size_drew] at sy4)); have : w.heap.size < y4.now.heap.size := (by omega); have : w.heap.size ≤ y4.now.heap.size := (by omega); have : w.heap.size < y4.now.heap.size + 1 + 1 := (by omega); have : w.heap.size + 1 < y4.now.heap.size := (by omega); have : w.heap.size + 1 ≤ y4.now.heap.size := (by omega); have : w.heap.size + 1 < y4.now.heap.size + 1 + 1 := (by omega); have : w.heap.size + 1 + 1 < y4.now.heap.size := (by omega); have : w.heap.size + 1 + 1 ≤ y4.now.heap.size := (by omega); have : w.heap.size + 1 + 1 < y4.now.heap.size + 1 + 1 := (by omega)))
  have t1 := y1.size
  have t2 := y2.size
  have t4 := y4.size
  simp only [World.size_alloc] at t1 t2 t4
  have g1 : y1.now.heap.size < y2.now.heap.size := by omega
  have g2 : y1.now.heap.size < y4.now.heap.size := by omega
  have g3 : y2.now.heap.size < y4.now.heap.size := by omega
  have g4 : w.heap.size < y1.now.heap.size := by omega
  have g5 : w.heap.size < y2.now.heap.size := by omega
  have g6 : w.heap.size < y4.now.heap.size := by omega
  have g7 : w.heap.size + 1 + 1 < y1.now.heap.size := by omega
  have g8 : w.heap.size + 1 + 1 < y2.now.heap.size := by omega
  have g9 : w.heap.size + 1 + 1 < y4.now.heap.size := by omega
  refine wp_namedQ (fun X hW => ?_)
  have hB0 : Below w.heap.size w X := by rw [← hW]; repeat' (first | (with_reducible exact Below.refl _ _) | (with_reducible assumption) | (with_reducible refine Ext.below _ ?_ ?_) | (with_reducible refine Below.on ?_ (by with_reducible assumption) ?_) | (with_reducible refine Below.alloc ?_ ?_ _) | (with_reducible refine Below.drew ?_) | (with_reducible refine Below.setCell ?_ ?_ _) | (with_reducible exact Nat.le_refl _) | omega | (simp; done) | (simp [go_sem]; done) | (simp at *; omega))
  have p0 : X.cell? ⟨w.heap.size, 0, none⟩ = some (.int .i64 mu) := by rw [← hW]; simp [go_sem, g4, g5, g6]
  have v0' : X.cell? ⟨y1.now.heap.size, 0, none⟩ = some (.int .i64 xl) := by rw [← hW]; simp [go_sem, g1, g2]
  have v1' : X.cell? ⟨y1.now.heap.size, 1, none⟩ = some (.int .i64 xh) := by rw [← hW]; simp [go_sem, g1, g2]
  have v2' : X.cell? ⟨y1.now.heap.size, 2, none⟩ = some (.int .i64 yl) := by rw [← hW]; simp [go_sem, g1, g2]
  have v3' : X.cell? ⟨y1.now.heap.size, 3, none⟩ = some (.int .i64 yh) := by rw [← hW]; simp [go_sem, g1, g2]
  have q0 : X.cell? ⟨y2.now.heap.size, 0, none⟩ = some (.int .i64 ql) := by rw [← hW]; simp [go_sem, g3]
  have q1 : X.cell? ⟨y2.now.heap.size, 1, none⟩ = some (.int .i64 qh) := by rw [← hW]; simp [go_sem, g3]
  have r0' : X.cell? ⟨y4.now.heap.size, 0, none⟩ = some (.int .i64 rl) := by rw [← hW]; simp [go_sem]
  have r1' : X.cell? ⟨y4.now.heap.size, 1, none⟩ = some (.int .i64 rh) := by rw [← hW]; simp [go_sem]
  have o0 : X.cell? ⟨w.heap.size + 1 + 1, 0, none⟩ = some (.int .i64 0) := by rw [← hW]; simp [go_sem, g4, g7, g8, g9]
  have o1 : X.cell? ⟨w.heap.size + 1 + 1, 1, none⟩ = some (.int .i64 0) := by rw [← hW]; simp [go_sem, g4, g7, g8, g9]
  have o2 : X.cell? ⟨w.heap.size + 1 + 1, 2, none⟩ = some (.int .i64 0) := by rw [← hW]; simp [go_sem, g4, g7, g8, g9]
  have o3 : X.cell? ⟨w.heap.size + 1 + 1, 3, none⟩ = some (.int .i64 0) := by rw [← hW]; simp [go_sem, g4, g7, g8, g9]
  have z0 : X.frozen? ⟨w.heap.size + 1 + 1, 0, none⟩ = false := by rw [← hW]; simp [go_sem, g4, g7, g8, g9]
  have z1 : X.frozen? ⟨w.heap.size + 1 + 1, 1, none⟩ = false := by rw [← hW]; simp [go_sem, g4, g7, g8, g9]
  have z2 : X.frozen? ⟨w.heap.size + 1 + 1, 2, none⟩ = false := by rw [← hW]; simp [go_sem, g4, g7, g8, g9]
  have z3 : X.frozen? ⟨w.heap.size + 1 + 1, 3, none⟩ = false := by rw [← hW]; simp [go_sem, g4, g7, g8, g9]
  have l0 : w.heap.size < X.heap.size := by rw [← hW]; simp only [World.size_alloc]; omega
  have l1 : y1.now.heap.size < X.heap.size := by rw [← hW]; simp only [World.size_alloc]; omega
  have l2 : y2.now.heap.size < X.heap.size := by rw [← hW]; simp only [World.size_alloc]; omega
  have l3 : y4.now.heap.size < X.heap.size := by rw [← hW]; simp only [World.size_alloc]; omega
  have l4 : w.heap.size + 1 + 1 < X.heap.size := by rw [← hW]; simp only [World.size_alloc]; omega
  have wO : w.heap.size ≤ w.heap.size + 1 + 1 := by omega
  clear hW t1 t2 t4 g1 g2 g3 g4 g5 g6 g7 g8 g9 cw cq cr
  generalize y1.now.heap.size = B1 at *
  generalize y2.now.heap.size = B2 at *
  generalize y4.now.heap.size = B4 at *
  (first | with_reducible refine wp_region_ext2_heads 19 (by kernel_rfl) (by kernel_rfl) ?_ | with_reducible refine wp_region_ext_heads 19 (by kernel_rfl) (by kernel_rfl) ?_); simp only [List.take_succ_cons, List.take_zero, List.length_cons, List.length_nil, Nat.reduceAdd, Nat.reduceSub]; (repeat (first | go_big_quiet_step ((first | (go_at_call 75; with_reducible exact Calls.ext (v1 _)) | (go_at_call 75; with_reducible exact Calls.ext (v2 _)))) | quiet_step ((first | (go_at_call 75; with_reducible exact Calls.ext (v1 _)) | (go_at_call 75; with_reducible exact Calls.ext (v2 _)))))); refine wpQuiet_nil ?_; rintro _ ⟨yr, rfl⟩; have syr := Ext.size yr; (repeat (first | rw [World.size_alloc] at syr | rw [World.size_setCell] at syr | rw [World.size_drew] at syr)); (refine wpAny_ready (rs := [19]) (by kernel_rfl) (by simp) ?_; refine AllReady.cons rfl (fun K hK => ?_) AllReady.nil; go_simp; refine hK _ _ ?_; clear hK K); refine wpAny_done (by kernel_rfl) ?_ _
  go_wp2_with (first | ((first | with_reducible refine wrx2 ?_ | with_reducible refine wrx ?_); (repeat (first | go_big_quiet_step ((first | fail)) | quiet_step ((first | fail)))); refine wpQuiet_nil ?_; rintro _ ⟨yr, rfl⟩; have syr := Ext.size yr; (repeat (first | rw [World.size_alloc] at syr | rw [World.size_setCell] at syr | rw [World.size_drew] at syr))))
  refine bodyPost_ret (v := .agg #[.int .i64 r1, .int .i64 r2, .int .i64 r3, .int .i64 r4]) (by simp (maxDischargeDepth := 9) [results, Try.results44, go_sem, *]) rfl ?_
  refine ⟨rfl, ?_⟩
  repeat' (first | (with_reducible exact Below.refl _ _) | (with_reducible assumption) | (with_reducible refine Ext.below _ ?_ ?_) | (with_reducible refine Below.on ?_ (by with_reducible assumption) ?_) | (with_reducible refine Below.alloc ?_ ?_ _) | (with_reducible refine Below.drew ?_) | (with_reducible refine Below.setCell ?_ ?_ _) | (with_reducible exact Nat.le_refl _) | omega | (simp; done) | (simp [go_sem]; done) | (simp at *; omega))
end Go.Proofs.Ytlhihmfefipehaa

/- strength of package force: one direction of a pull. Condition: valid numbers. -/
import Derived.Test.YtlhihmfefipehaaFoC
import Derived.Deep.CutRange
namespace Go.Proofs.Ytlhihmfefipehaa
open Go.RowKit Go.Shelf
attribute [local go_sem] Option.isSome_some Ext.cell Ext.frozen Ext.lt Ext.le Ext.lt_add Ext.le_add Ext.ne Ext.ne' lt2 lt3 lt4 lt5 le2 le3 le4
set_option maxRecDepth 100000
set_option maxHeartbeats 4000000
/-- The boxes of strength: the quotients, the hull so far, the span of roots, the result. -/
structure StrBox (w W : World) (QB NB PB OB : Nat) (qs : Array Value) (nl nh rl rh : Int) : Prop where
  q : W.heap[QB]? = some (.cells qs 138 (0, 0))
  n : W.heap[NB]? = some (.cells #[.int .i64 nl, .int .i64 nh] 28 (0, 0))
  p : W.heap[PB]? = some (.cells #[.int .i64 rl, .int .i64 rh] 28 (0, 0))
  o : W.heap[OB]? = some (.cells #[.int .i64 0, .int .i64 0] 28 (0, 0))
  nq : QB ≠ NB
  np : PB ≠ NB
  no : OB ≠ NB
  lw : w.heap.size ≤ NB
  bel : Below w.heap.size w W
theorem StrBox.step {w W : World} {QB NB PB OB : Nat} {qs : Array Value} {nl nh rl rh : Int} (h : StrBox w W QB NB PB OB qs nl nh rl rh) {ob : Obj} (y : Ext (W.alloc ob)) (u v : Int) :
    StrBox w ((y.now.setCell ⟨NB, 0, none⟩ (.int .i64 u)).setCell ⟨NB, 1, none⟩ (.int .i64 v)) QB NB PB OB qs u v rl rh := by
  obtain ⟨q, n, p, o, nq, np, no, lw, bel⟩ := h
  have hy : Below W.heap.size W y.now := ((Below.refl _ _).alloc (Nat.le_refl _) ob).trans (y.grew.mono (by simp))
  have hc : ∀ B, B ≠ NB → ((y.now.setCell ⟨NB, 0, none⟩ (.int .i64 u)).setCell ⟨NB, 1, none⟩ (.int .i64 v)).heap[B]? = y.now.heap[B]? := fun B hne => (heap_setCellQ hne _).trans (heap_setCellQ hne _)
  refine ⟨(hc _ nq).trans ((hy.block _ (row_ltQ q)).trans q), ?_, (hc _ np).trans ((hy.block _ (row_ltQ p)).trans p), (hc _ no).trans ((hy.block _ (row_ltQ o)).trans o), nq, np, no, lw, ((bel.trans (hy.mono bel.size)).setCell lw _).setCell lw _⟩
  have h1 := heap_setCellI (heap_setCellI ((hy.block _ (row_ltQ n)).trans n) (o := 0) (.int .i64 u)) (o := 1) (.int .i64 v)
  simpa only [List.setIfInBounds_toArray, List.set_cons_zero, List.set_cons_succ] using h1
theorem strength_any (mu xl xh ql qh rl rh : Int) (w : World) (h : StrOk mu xl xh ql qh rl rh) :
    Calls Try.prog 75 #[.int .i64 mu, .agg #[.int .i64 xl, .int .i64 xh], .agg #[.int .i64 ql, .int .i64 qh], .agg #[.int .i64 rl, .int .i64 rh]] w (Gives (.agg #[.int .i64 (strL mu xl xh ql qh rl rh), .int .i64 (strH mu xl xh ql qh rl rh)]) w) := by
  obtain ⟨n0, n1, n2⟩ := nu_bounds h
  obtain ⟨m0, m1, x0, x1, x2, q0, q1, q2, r0, r1, r2⟩ := h
  have cq := fun W => quotients_any mu xl xh ql qh W (by unfold I64; omega) (by unfold I64; omega) (by unfold I64; omega)
  obtain ⟨a1, b1⟩ := md_clean mu xl ql m0 m1 (by omega) (by omega) (by omega) (by omega)
  obtain ⟨a2, b2⟩ := md_clean mu xh ql m0 m1 (by omega) (by omega) (by omega) (by omega)
  obtain ⟨a3, b3⟩ := md_clean mu xl qh m0 m1 (by omega) (by omega) (by omega) (by omega)
  obtain ⟨a4, b4⟩ := md_clean mu xh qh m0 m1 (by omega) (by omega) (by omega) (by omega)
  rw [a1, a2, a3, a4, b1, b2, b3, b4] at cq
  clear a1 a2 a3 a4 b1 b2 b3 b4
  have t1 := clN_two mu xl ql (by omega)
  have t2 := clN_two mu xh ql (by omega)
  have t3 := clN_two mu xl qh (by omega)
  have t4 := clN_two mu xh qh (by omega)
  simp only [nuL, nuH] at n0 n1 n2
  unfold strL strH nuL nuH
  generalize clN (mu * xl / ql) = a0 at *
  generalize clN (mu * xh / ql) = a1 at *
  generalize clN (mu * xl / qh) = a2 at *
  generalize clN (mu * xh / qh) = a3 at *
  generalize clN (cei (mu * xl) ql) = b0 at *
  generalize clN (cei (mu * xh) ql) = b1 at *
  generalize clN (cei (mu * xl) qh) = b2 at *
  generalize clN (cei (mu * xh) qh) = b3 at *
  have h1 := hull_clean (a := a0) (b := b0) (c := a1) (d := b1) (by omega) (by omega) (by omega) (by omega) (by omega) (by omega)
  have h2 := hull_clean (a := min a0 a1) (b := max b0 b1) (c := a2) (d := b2) (by omega) (by omega) (by omega) (by omega) (by omega) (by omega)
  have h3 := hull_clean (a := min (min a0 a1) a2) (b := max (max b0 b1) b2) (c := a3) (d := b3) (by omega) (by omega) (by omega) (by omega) (by omega) (by omega)
  have ch1 := fun W => Hull_any a0 b0 a1 b1 W
  rw [h1.1, h1.2] at ch1
  have ch2 := fun W => Hull_any (min a0 a1) (max b0 b1) a2 b2 W
  rw [h2.1, h2.2] at ch2
  have ch3 := fun W => Hull_any (min (min a0 a1) a2) (max (max b0 b1) b2) a3 b3 W
  rw [h3.1, h3.2] at ch3
  have hq := quo_clean (a := min (min (min a0 a1) a2) a3) (b := max (max (max b0 b1) b2) b3) (c := rl) (d := rh) n0 n2 n1 r0 r2 r1
  have cc := fun W => Quot_any (min (min (min a0 a1) a2) a3) (max (max (max b0 b1) b2) b3) rl rh W
  rw [hq.1, hq.2] at cc
  clear h1 h2 h3 hq n0 n1 n2 m0 m1 x0 x1 x2 q0 q1 q2 r0 r1 r2 t1 t2 t3 t4
  generalize min (min (min a0 a1) a2) a3 = A3 at *
  generalize max (max (max b0 b1) b2) b3 = B3 at *
  generalize min (min a0 a1) a2 = A2 at *
  generalize max (max b0 b1) b2 = B2 at *
  generalize min a0 a1 = A1 at *
  generalize max b0 b1 = B1 at *
  generalize min (A3 / rl) (A3 / rh) = C1 at *
  generalize max (cei B3 rl) (cei B3 rh) = C2 at *
  generalize quoE A3 B3 rl rh = E at *
  have cl1 := fun W => limited_any C1 W
  have cl2 := fun W => limited_any C2 W
  generalize limI C1 = L1 at *
  generalize limI C2 = L2 at *
  have ck := fun x y e W => known_any x y e W
  go_enter Try.func75, Try.ntmps75
  go_wp2_with (first | ((first | with_reducible refine wrx2 ?_ | with_reducible refine wrx ?_); (repeat (first | go_big_quiet_step ((first | (go_at_call 96; with_reducible exact Calls.ext (cq _)))) | quiet_step ((first | (go_at_call 96; with_reducible exact Calls.ext (cq _)))))); refine wpQuiet_nil ?_; rintro _ ⟨yr, rfl⟩; have syr := Ext.size yr; (repeat (first | rw [World.size_alloc] at syr | rw [World.size_setCell] at syr | rw [World.size_drew] at syr))) | (go_at_call 96; (first | with_reducible refine (Calls.giv2 (cq _)).mono ?_ | with_reducible refine (Calls.giv (cq _)).mono ?_); rintro _ _ ⟨y1, rfl, rfl⟩; have sy1 := Ext.size y1; (repeat (first | rw [World.size_alloc] at sy1 | rw [World.size_setCell] at sy1 | rw [World.size_drew] at sy1))))
  refine wp_namedQ (fun W0 hW => ?_)
  have sy := y1.size
  simp only [World.size_alloc] at sy
  have hb : StrBox w W0 y1.now.heap.size (y1.now.heap.size + 1) (w.heap.size + 1 + 1) (w.heap.size + 1 + 1 + 1) #[.int .i64 a0, .int .i64 b0, .int .i64 a1, .int .i64 b1, .int .i64 a2, .int .i64 b2, .int .i64 a3, .int .i64 b3] a0 b0 rl rh := by
    rw [← hW]
    refine ⟨(heap_alloc_old _ _ (by simp)).trans (heap_alloc_new _ _), ?_, (heap_alloc_old _ _ (by simp only [World.size_alloc]; omega)).trans ((heap_alloc_old _ _ (by omega)).trans ((y1.grew.block _ (by simp)).trans ((heap_alloc_old _ _ (by simp)).trans ?_))), (heap_alloc_old _ _ (by simp only [World.size_alloc]; omega)).trans ((heap_alloc_old _ _ (by omega)).trans ((y1.grew.block _ (by simp)).trans ?_)), by omega, by omega, by omega, by omega, ?_⟩
    · have h9 := heap_alloc_new (y1.now.alloc (.cells #[.int .i64 a0, .int .i64 b0, .int .i64 a1, .int .i64 b1, .int .i64 a2, .int .i64 b2, .int .i64 a3, .int .i64 b3] 138)) (.cells #[.int .i64 a0, .int .i64 b0] 28)
      simpa only [World.size_alloc] using h9
    · have h9 := heap_alloc_new ((w.alloc (.cells #[.int .i64 xl, .int .i64 xh] 28)).alloc (.cells #[.int .i64 ql, .int .i64 qh] 28)) (.cells #[.int .i64 rl, .int .i64 rh] 28)
      simpa only [World.size_alloc] using h9
    · have h9 := heap_alloc_new (((w.alloc (.cells #[.int .i64 xl, .int .i64 xh] 28)).alloc (.cells #[.int .i64 ql, .int .i64 qh] 28)).alloc (.cells #[.int .i64 rl, .int .i64 rh] 28)) (.cells #[.int .i64 0, .int .i64 0] 28)
      simpa only [World.size_alloc] using h9
    · repeat' (first | (with_reducible exact Below.refl _ _) | (with_reducible assumption) | (with_reducible refine Ext.below _ ?_ ?_) | (with_reducible refine Below.on ?_ (by with_reducible assumption) ?_) | (with_reducible refine Below.alloc ?_ ?_ _) | (with_reducible refine Below.drew ?_) | (with_reducible refine Below.setCell ?_ ?_ _) | (with_reducible exact Nat.le_refl _) | omega | (simp; done) | (simp [go_sem]; done) | (simp at *; omega))
  clear hW sy
  have wO : w.heap.size ≤ w.heap.size + 1 + 1 + 1 := by omega
  generalize y1.now.heap.size + 1 = NB at *
  generalize y1.now.heap.size = QB at *
  generalize w.heap.size + 1 + 1 + 1 = OB at *
  generalize w.heap.size + 1 + 1 = PB at *
  clear y1 cq
  refine wp_loop_rounds 4 ?_
  rw [rounds_succ]
  obtain ⟨q, n, p, o, nq, np, no, lw, bel⟩ := id hb
  have n0 : W0.cell? ⟨NB, 0, none⟩ = some (.int .i64 a0) := (cell_of_row _ _ 0 _ _ _ n).trans rfl
  have m0 : W0.frozen? ⟨NB, 0, none⟩ = false := frozen_rowQ n
  have n1 : W0.cell? ⟨NB, 1, none⟩ = some (.int .i64 b0) := (cell_of_row _ _ 1 _ _ _ n).trans rfl
  have m1 : W0.frozen? ⟨NB, 1, none⟩ = false := frozen_rowQ n
  have v0 : W0.cell? ⟨QB, 2, none⟩ = some (.int .i64 a1) := (cell_of_row _ _ 2 _ _ _ q).trans rfl
  have v1 : W0.cell? ⟨QB, 3, none⟩ = some (.int .i64 b1) := (cell_of_row _ _ 3 _ _ _ q).trans rfl
  have lN := row_ltQ n
  have lQ := row_ltQ q
  clear q n p o bel
  go_wp2_with (first | ((first | with_reducible refine wrx2 ?_ | with_reducible refine wrx ?_); (repeat (first | go_big_quiet_step ((first | (go_at_call 97; with_reducible exact Calls.ext (ch1 _)))) | quiet_step ((first | (go_at_call 97; with_reducible exact Calls.ext (ch1 _)))))); refine wpQuiet_nil ?_; rintro _ ⟨yr, rfl⟩; have syr := Ext.size yr; (repeat (first | rw [World.size_alloc] at syr | rw [World.size_setCell] at syr | rw [World.size_drew] at syr)); have : NB < yr.now.heap.size := (by omega); have : NB ≤ yr.now.heap.size := (by omega); have : NB < yr.now.heap.size + 1 + 1 := (by omega); have : QB < yr.now.heap.size := (by omega); have : QB ≤ yr.now.heap.size := (by omega); have : QB < yr.now.heap.size + 1 + 1 := (by omega)) | (go_at_call 97; (first | with_reducible refine (Calls.giv2 (ch1 _)).mono ?_ | with_reducible refine (Calls.giv (ch1 _)).mono ?_); rintro _ _ ⟨y1, rfl, rfl⟩; have sy1 := Ext.size y1; (repeat (first | rw [World.size_alloc] at sy1 | rw [World.size_setCell] at sy1 | rw [World.size_drew] at sy1)); have : NB < y1.now.heap.size := (by omega); have : NB ≤ y1.now.heap.size := (by omega); have : NB < y1.now.heap.size + 1 + 1 := (by omega); have : QB < y1.now.heap.size := (by omega); have : QB ≤ y1.now.heap.size := (by omega); have : QB < y1.now.heap.size + 1 + 1 := (by omega)))
  replace hb := hb.step y1 A1 B1
  clear n0 n1 m0 m1 v0 v1 lN lQ nq np no lw sy1
  generalize ((y1.now.setCell ⟨NB, 0, none⟩ (.int .i64 A1)).setCell ⟨NB, 1, none⟩ (.int .i64 B1)) = W5 at *
  (repeat clear this)
  clear y1
  rw [rounds_succ]
  obtain ⟨q, n, p, o, nq, np, no, lw, bel⟩ := id hb
  have n0 : W5.cell? ⟨NB, 0, none⟩ = some (.int .i64 A1) := (cell_of_row _ _ 0 _ _ _ n).trans rfl
  have m0 : W5.frozen? ⟨NB, 0, none⟩ = false := frozen_rowQ n
  have n1 : W5.cell? ⟨NB, 1, none⟩ = some (.int .i64 B1) := (cell_of_row _ _ 1 _ _ _ n).trans rfl
  have m1 : W5.frozen? ⟨NB, 1, none⟩ = false := frozen_rowQ n
  have v0 : W5.cell? ⟨QB, 4, none⟩ = some (.int .i64 a2) := (cell_of_row _ _ 4 _ _ _ q).trans rfl
  have v1 : W5.cell? ⟨QB, 5, none⟩ = some (.int .i64 b2) := (cell_of_row _ _ 5 _ _ _ q).trans rfl
  have lN := row_ltQ n
  have lQ := row_ltQ q
  clear q n p o bel
  go_wp2_with (first | ((first | with_reducible refine wrx2 ?_ | with_reducible refine wrx ?_); (repeat (first | go_big_quiet_step ((first | (go_at_call 97; with_reducible exact Calls.ext (ch2 _)))) | quiet_step ((first | (go_at_call 97; with_reducible exact Calls.ext (ch2 _)))))); refine wpQuiet_nil ?_; rintro _ ⟨yr, rfl⟩; have syr := Ext.size yr; (repeat (first | rw [World.size_alloc] at syr | rw [World.size_setCell] at syr | rw [World.size_drew] at syr)); have : NB < yr.now.heap.size := (by omega); have : NB ≤ yr.now.heap.size := (by omega); have : NB < yr.now.heap.size + 1 + 1 := (by omega); have : QB < yr.now.heap.size := (by omega); have : QB ≤ yr.now.heap.size := (by omega); have : QB < yr.now.heap.size + 1 + 1 := (by omega)) | (go_at_call 97; (first | with_reducible refine (Calls.giv2 (ch2 _)).mono ?_ | with_reducible refine (Calls.giv (ch2 _)).mono ?_); rintro _ _ ⟨y1, rfl, rfl⟩; have sy1 := Ext.size y1; (repeat (first | rw [World.size_alloc] at sy1 | rw [World.size_setCell] at sy1 | rw [World.size_drew] at sy1)); have : NB < y1.now.heap.size := (by omega); have : NB ≤ y1.now.heap.size := (by omega); have : NB < y1.now.heap.size + 1 + 1 := (by omega); have : QB < y1.now.heap.size := (by omega); have : QB ≤ y1.now.heap.size := (by omega); have : QB < y1.now.heap.size + 1 + 1 := (by omega)))
  replace hb := hb.step y1 A2 B2
  clear n0 n1 m0 m1 v0 v1 lN lQ nq np no lw sy1
  generalize ((y1.now.setCell ⟨NB, 0, none⟩ (.int .i64 A2)).setCell ⟨NB, 1, none⟩ (.int .i64 B2)) = W6 at *
  (repeat clear this)
  clear y1
  rw [rounds_succ]
  obtain ⟨q, n, p, o, nq, np, no, lw, bel⟩ := id hb
  have n0 : W6.cell? ⟨NB, 0, none⟩ = some (.int .i64 A2) := (cell_of_row _ _ 0 _ _ _ n).trans rfl
  have m0 : W6.frozen? ⟨NB, 0, none⟩ = false := frozen_rowQ n
  have n1 : W6.cell? ⟨NB, 1, none⟩ = some (.int .i64 B2) := (cell_of_row _ _ 1 _ _ _ n).trans rfl
  have m1 : W6.frozen? ⟨NB, 1, none⟩ = false := frozen_rowQ n
  have v0 : W6.cell? ⟨QB, 6, none⟩ = some (.int .i64 a3) := (cell_of_row _ _ 6 _ _ _ q).trans rfl
  have v1 : W6.cell? ⟨QB, 7, none⟩ = some (.int .i64 b3) := (cell_of_row _ _ 7 _ _ _ q).trans rfl
  have lN := row_ltQ n
  have lQ := row_ltQ q
  clear q n p o bel
  go_wp2_with (first | ((first | with_reducible refine wrx2 ?_ | with_reducible refine wrx ?_); (repeat (first | go_big_quiet_step ((first | (go_at_call 97; with_reducible exact Calls.ext (ch3 _)))) | quiet_step ((first | (go_at_call 97; with_reducible exact Calls.ext (ch3 _)))))); refine wpQuiet_nil ?_; rintro _ ⟨yr, rfl⟩; have syr := Ext.size yr; (repeat (first | rw [World.size_alloc] at syr | rw [World.size_setCell] at syr | rw [World.size_drew] at syr)); have : NB < yr.now.heap.size := (by omega); have : NB ≤ yr.now.heap.size := (by omega); have : NB < yr.now.heap.size + 1 + 1 := (by omega); have : QB < yr.now.heap.size := (by omega); have : QB ≤ yr.now.heap.size := (by omega); have : QB < yr.now.heap.size + 1 + 1 := (by omega)) | (go_at_call 97; (first | with_reducible refine (Calls.giv2 (ch3 _)).mono ?_ | with_reducible refine (Calls.giv (ch3 _)).mono ?_); rintro _ _ ⟨y1, rfl, rfl⟩; have sy1 := Ext.size y1; (repeat (first | rw [World.size_alloc] at sy1 | rw [World.size_setCell] at sy1 | rw [World.size_drew] at sy1)); have : NB < y1.now.heap.size := (by omega); have : NB ≤ y1.now.heap.size := (by omega); have : NB < y1.now.heap.size + 1 + 1 := (by omega); have : QB < y1.now.heap.size := (by omega); have : QB ≤ y1.now.heap.size := (by omega); have : QB < y1.now.heap.size + 1 + 1 := (by omega)))
  replace hb := hb.step y1 A3 B3
  clear n0 n1 m0 m1 v0 v1 lN lQ nq np no lw sy1
  generalize ((y1.now.setCell ⟨NB, 0, none⟩ (.int .i64 A3)).setCell ⟨NB, 1, none⟩ (.int .i64 B3)) = W7 at *
  (repeat clear this)
  clear y1
  rw [rounds_succ]
  obtain ⟨q, n, p, o, nq, np, no, lw, bel⟩ := id hb
  have n0 : W7.cell? ⟨NB, 0, none⟩ = some (.int .i64 A3) := (cell_of_row _ _ 0 _ _ _ n).trans rfl
  have m0 : W7.frozen? ⟨NB, 0, none⟩ = false := frozen_rowQ n
  have n1 : W7.cell? ⟨NB, 1, none⟩ = some (.int .i64 B3) := (cell_of_row _ _ 1 _ _ _ n).trans rfl
  have m1 : W7.frozen? ⟨NB, 1, none⟩ = false := frozen_rowQ n
  have lN := row_ltQ n
  have lQ := row_ltQ q
  have p0 : W7.cell? ⟨PB, 0, none⟩ = some (.int .i64 rl) := (cell_of_row _ _ 0 _ _ _ p).trans rfl
  have p1 : W7.cell? ⟨PB, 1, none⟩ = some (.int .i64 rh) := (cell_of_row _ _ 1 _ _ _ p).trans rfl
  have o0 : W7.cell? ⟨OB, 0, none⟩ = some (.int .i64 0) := (cell_of_row _ _ 0 _ _ _ o).trans rfl
  have o1 : W7.cell? ⟨OB, 1, none⟩ = some (.int .i64 0) := (cell_of_row _ _ 1 _ _ _ o).trans rfl
  have z0 : W7.frozen? ⟨OB, 0, none⟩ = false := frozen_rowQ o
  have z1 : W7.frozen? ⟨OB, 1, none⟩ = false := frozen_rowQ o
  have lP := row_ltQ p
  have lO := row_ltQ o
  clear q n p o
  go_upto_region 9 with (first | ((first | with_reducible refine wrx2 ?_ | with_reducible refine wrx ?_); (repeat (first | go_big_quiet_step ((first | (go_at_call 79; with_reducible exact Calls.ext (cc _)) | (go_at_call 53; with_reducible exact Calls.ext (ck _ _ _ _)))) | quiet_step ((first | (go_at_call 79; with_reducible exact Calls.ext (cc _)) | (go_at_call 53; with_reducible exact Calls.ext (ck _ _ _ _)))))); refine wpQuiet_nil ?_; rintro _ ⟨yr, rfl⟩; have syr := Ext.size yr; (repeat (first | rw [World.size_alloc] at syr | rw [World.size_setCell] at syr | rw [World.size_drew] at syr)); have : PB < yr.now.heap.size := (by omega); have : PB ≤ yr.now.heap.size := (by omega); have : PB < yr.now.heap.size + 1 + 1 := (by omega); have : OB < yr.now.heap.size := (by omega); have : OB ≤ yr.now.heap.size := (by omega); have : OB < yr.now.heap.size + 1 + 1 := (by omega)) | (go_at_call 79; (first | with_reducible refine (Calls.giv2 (cc _)).mono ?_ | with_reducible refine (Calls.giv (cc _)).mono ?_); rintro _ _ ⟨y1, rfl, rfl⟩; have sy1 := Ext.size y1; (repeat (first | rw [World.size_alloc] at sy1 | rw [World.size_setCell] at sy1 | rw [World.size_drew] at sy1)); have : PB < y1.now.heap.size := (by omega); have : PB ≤ y1.now.heap.size := (by omega); have : PB < y1.now.heap.size + 1 + 1 := (by omega); have : OB < y1.now.heap.size := (by omega); have : OB ≤ y1.now.heap.size := (by omega); have : OB < y1.now.heap.size + 1 + 1 := (by omega)) | (go_at_call 53; (first | with_reducible refine (Calls.giv2 (ck _ _ _ _)).mono ?_ | with_reducible refine (Calls.giv (ck _ _ _ _)).mono ?_); rintro _ _ ⟨y2, rfl, rfl⟩; have sy2 := Ext.size y2; (repeat (first | rw [World.size_alloc] at sy2 | rw [World.size_setCell] at sy2 | rw [World.size_drew] at sy2)); have : PB < y2.now.heap.size := (by omega); have : PB ≤ y2.now.heap.size := (by omega); have : PB < y2.now.heap.size + 1 + 1 := (by omega); have : OB < y2.now.heap.size := (by omega); have : OB ≤ y2.now.heap.size := (by omega); have : OB < y2.now.heap.size + 1 + 1 := (by omega)))
  (first | with_reducible refine wp_region_ext2_heads 7 (by kernel_rfl) (by kernel_rfl) ?_ | with_reducible refine wp_region_ext_heads 7 (by kernel_rfl) (by kernel_rfl) ?_); simp only [List.take_succ_cons, List.take_zero, List.length_cons, List.length_nil, Nat.reduceAdd, Nat.reduceSub]; (repeat (first | go_big_quiet_step ((first | (go_at_call 98; with_reducible exact Calls.ext (cl1 _)) | (go_at_call 98; with_reducible exact Calls.ext (cl2 _)))) | quiet_step ((first | (go_at_call 98; with_reducible exact Calls.ext (cl1 _)) | (go_at_call 98; with_reducible exact Calls.ext (cl2 _)))))); refine wpQuiet_nil ?_; rintro _ ⟨yr, rfl⟩; have syr := Ext.size yr; (repeat (first | rw [World.size_alloc] at syr | rw [World.size_setCell] at syr | rw [World.size_drew] at syr)); (refine wpAny_ready (rs := [7]) (by kernel_rfl) (by simp) ?_; refine AllReady.cons rfl (fun K hK => ?_) AllReady.nil; go_simp; refine hK _ _ ?_; clear hK K); refine wpAny_done (by kernel_rfl) ?_ _
  go_wp2_with (first | ((first | with_reducible refine wrx2 ?_ | with_reducible refine wrx ?_); (repeat (first | go_big_quiet_step ((first | fail)) | quiet_step ((first | fail)))); refine wpQuiet_nil ?_; rintro _ ⟨yr, rfl⟩; have syr := Ext.size yr; (repeat (first | rw [World.size_alloc] at syr | rw [World.size_setCell] at syr | rw [World.size_drew] at syr))))
  refine bodyPost_ret (v := .agg #[.int .i64 L1, .int .i64 L2]) (by simp (maxDischargeDepth := 9) [results, Try.results75, go_sem, *]) rfl ?_
  refine ⟨rfl, ?_⟩
  repeat' (first | (with_reducible exact Below.refl _ _) | (with_reducible assumption) | (with_reducible refine Ext.below _ ?_ ?_) | (with_reducible refine Below.on ?_ (by with_reducible assumption) ?_) | (with_reducible refine Below.alloc ?_ ?_ _) | (with_reducible refine Below.drew ?_) | (with_reducible refine Below.setCell ?_ ?_ _) | (with_reducible exact Nat.le_refl _) | omega | (simp; done) | (simp [go_sem]; done) | (simp at *; omega))
end Go.Proofs.Ytlhihmfefipehaa

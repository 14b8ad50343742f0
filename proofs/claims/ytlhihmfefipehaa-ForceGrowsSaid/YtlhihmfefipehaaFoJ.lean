/- sum of package force. Condition: areas within limits. -/
import Derived.Test.YtlhihmfefipehaaFoH
namespace Go.Proofs.Ytlhihmfefipehaa
open Go.RowKit Go.Shelf
attribute [local go_sem] Option.isSome_some Ext.cell Ext.frozen Ext.lt Ext.le Ext.lt_add Ext.le_add Ext.ne Ext.ne' lt2 lt3 lt4 lt5 le2 le3 le4
set_option maxRecDepth 100000
set_option maxHeartbeats 4000000
/-- Spans in order, within m of 0. -/
structure A4.In (r : A4) (m : Int) : Prop where
  x0 : -m ≤ r.xl
  x1 : r.xl ≤ r.xh
  x2 : r.xh ≤ m
  y0 : -m ≤ r.yl
  y1 : r.yl ≤ r.yh
  y2 : r.yh ≤ m
theorem A4.Ok.in {r : A4} (h : r.Ok) : r.In 1048576 := ⟨h.x0, h.x1, h.x2, h.y0, h.y1, h.y2⟩
theorem A4.In.mono {r : A4} {m n : Int} (h : r.In m) (hm : m ≤ n) : r.In n := by
  obtain ⟨h1, h2, h3, h4, h5, h6⟩ := h
  exact ⟨by omega, h2, by omega, by omega, h5, by omega⟩
def addA (p q : A4) : A4 := ⟨p.xl + q.xl, p.xh + q.xh, p.yl + q.yl, p.yh + q.yh⟩
theorem addA_in {p q : A4} {m n : Int} (hp : p.In m) (hq : q.In n) : (addA p q).In (m + n) := by
  obtain ⟨h1, h2, h3, h4, h5, h6⟩ := hp
  obtain ⟨k1, k2, k3, k4, k5, k6⟩ := hq
  unfold addA
  exact ⟨by simp only; omega, by simp only; omega, by simp only; omega, by simp only; omega, by simp only; omega, by simp only; omega⟩
def sumA : A4 → List A4 → A4
  | s, [] => s
  | s, a :: l => sumA (addA s a) l
theorem zero_add (p : A4) : addA ⟨0, 0, 0, 0⟩ p = p := by cases p; unfold addA; simp
def A4s (W : World) (p : Option Addr) (l : List A4) : Prop := ∀ j (h : j < l.length), ∃ B o, p = some ⟨B, o, none⟩ ∧ B < W.heap.size ∧ W.cell? ⟨B, o + j * 4, none⟩ = some (.int .i64 l[j].xl) ∧ W.cell? ⟨B, o + j * 4 + 1, none⟩ = some (.int .i64 l[j].xh) ∧ W.cell? ⟨B, o + j * 4 + 2, none⟩ = some (.int .i64 l[j].yl) ∧ W.cell? ⟨B, o + j * 4 + 3, none⟩ = some (.int .i64 l[j].yh)
theorem adds_clean {p q : A4} (hp : p.In 100000000000) (hq : q.In 100000000000) :
    (∀ W, Calls Try.prog 55 #[.agg #[.int .i64 p.xl, .int .i64 p.xh], .agg #[.int .i64 q.xl, .int .i64 q.xh]] W (Gives (.tuple #[.agg #[.int .i64 (addA p q).xl, .int .i64 (addA p q).xh], .int .i64 (addE p.xl p.xh q.xl q.xh)]) W)) ∧
    ∀ W, Calls Try.prog 55 #[.agg #[.int .i64 p.yl, .int .i64 p.yh], .agg #[.int .i64 q.yl, .int .i64 q.yh]] W (Gives (.tuple #[.agg #[.int .i64 (addA p q).yl, .int .i64 (addA p q).yh], .int .i64 (addE p.yl p.yh q.yl q.yh)]) W) := by
  obtain ⟨h1, h2, h3, h4, h5, h6⟩ := hp
  obtain ⟨k1, k2, k3, k4, k5, k6⟩ := hq
  constructor
  · intro W
    have e := add_clean (a := p.xl) (b := p.xh) (c := q.xl) (d := q.xh) (by omega) (by omega) h2 (by omega) (by omega) k2
    have c := Add_any p.xl p.xh q.xl q.xh W
    rw [e.1, e.2] at c
    exact c
  · intro W
    have e := add_clean (a := p.yl) (b := p.yh) (c := q.yl) (d := q.yh) (by omega) (by omega) h5 (by omega) (by omega) k5
    have c := Add_any p.yl p.yh q.yl q.yh W
    rw [e.1, e.2] at c
    exact c
/-- The boxes of sum: the sum so far, the result. -/
structure SumBox (w W : World) (AB OB : Nat) (a b c d : Int) : Prop where
  a : W.heap[AB]? = some (.cells #[.int .i64 a, .int .i64 b, .int .i64 c, .int .i64 d] 33 (0, 0))
  o : W.heap[OB]? = some (.cells #[.int .i64 0, .int .i64 0, .int .i64 0, .int .i64 0] 33 (0, 0))
  no : OB ≠ AB
  lw : w.heap.size ≤ AB
  bel : Below w.heap.size w W
theorem SumBox.step {w W : World} {AB OB : Nat} {a b c d : Int} (h : SumBox w W AB OB a b c d) {ob : Obj} (y : Ext (W.alloc ob)) (u0 u1 u2 u3 : Int) :
    SumBox w ((((y.now.setCell ⟨AB, 0, none⟩ (.int .i64 u0)).setCell ⟨AB, 1, none⟩ (.int .i64 u1)).setCell ⟨AB, 2, none⟩ (.int .i64 u2)).setCell ⟨AB, 3, none⟩ (.int .i64 u3)) AB OB u0 u1 u2 u3 := by
  obtain ⟨q, o, no, lw, bel⟩ := h
  have hy : Below W.heap.size W y.now := ((Below.refl _ _).alloc (Nat.le_refl _) ob).trans (y.grew.mono (by simp))
  refine ⟨?_, ?_, no, lw, (((((bel.trans (hy.mono bel.size)).setCell lw _).setCell lw _).setCell lw _).setCell lw _)⟩
  · have h1 := heap_setCellI (heap_setCellI (heap_setCellI (heap_setCellI ((hy.block _ (row_ltQ q)).trans q) (o := 0) (.int .i64 u0)) (o := 1) (.int .i64 u1)) (o := 2) (.int .i64 u2)) (o := 3) (.int .i64 u3)
    simpa only [List.setIfInBounds_toArray, List.set_cons_zero, List.set_cons_succ] using h1
  · exact (heap_setCellQ no _).trans ((heap_setCellQ no _).trans ((heap_setCellQ no _).trans ((heap_setCellQ no _).trans ((hy.block _ (row_ltQ o)).trans o))))
theorem sum2_any (p : Option Addr) (cp : Nat) (r0 r1 : A4) (w : World) (hP : A4s w p [r0, r1]) (h0 : r0.In 1000000000) (h1 : r1.In 1000000000) :
    Calls Try.prog 47 #[.slice p 2 cp] w (Gives (sumA ⟨0, 0, 0, 0⟩ [r0, r1]).val w) := by
  have i0 : (⟨0, 0, 0, 0⟩ : A4).In 0 := ⟨by simp, by simp, by simp, by simp, by simp, by simp⟩
  have i1 := addA_in i0 h0
  have i2 := addA_in i1 h1
  simp only [sumA]
  obtain ⟨cx0, cy0⟩ := adds_clean (p := ⟨0, 0, 0, 0⟩) (q := r0) (i0.mono (by omega)) (h0.mono (by omega))
  obtain ⟨cx1, cy1⟩ := adds_clean (p := (addA ⟨0, 0, 0, 0⟩ r0)) (q := r1) (i1.mono (by omega)) (h1.mono (by omega))
  generalize addA (⟨0, 0, 0, 0⟩ : A4) r0 = p1 at *
  generalize addA p1 r1 = p2 at *
  clear i0 i1 i2 h0 h1
  obtain ⟨B0, o0, e0, l0, u00, u01, u02, u03⟩ := hP 0 (by simp)
  obtain ⟨B1, o1, e1, l1, u10, u11, u12, u13⟩ := hP 1 (by simp)
  subst e0
  cases e1
  simp only [List.getElem_cons_zero, List.getElem_cons_succ, Nat.zero_mul, Nat.add_zero, Nat.one_mul, Nat.add_assoc, Nat.reduceAdd] at u00 u01 u02 u03 u10 u11 u12 u13
  obtain ⟨r0xl, r0xh, r0yl, r0yh⟩ := r0
  obtain ⟨r1xl, r1xh, r1yl, r1yh⟩ := r1
  obtain ⟨p1xl, p1xh, p1yl, p1yh⟩ := p1
  obtain ⟨p2xl, p2xh, p2yl, p2yh⟩ := p2
  unfold A4.val
  simp only at *
  have hB := l0
  clear hP l0 l1
  generalize B0 = B at *
  generalize o0 = o at *
  have ck := fun x y e W => known_any x y e W
  go_enter Try.func47, Try.ntmps47
  go_wp2_with (first | ((first | with_reducible refine wrx2 ?_ | with_reducible refine wrx ?_); (repeat (first | go_big_quiet_step ((first | fail)) | quiet_step ((first | fail)))); refine wpQuiet_nil ?_; rintro _ ⟨yr, rfl⟩; have syr := Ext.size yr; (repeat (first | rw [World.size_alloc] at syr | rw [World.size_setCell] at syr | rw [World.size_drew] at syr))))
  refine wp_namedQ (fun W0 hW => ?_)
  have hb : SumBox w W0 (w.heap.size + 1) w.heap.size 0 0 0 0 := by
    rw [← hW]
    refine ⟨?_, (heap_alloc_old _ _ (by simp)).trans (heap_alloc_new _ _), by omega, by omega, ?_⟩
    · have h9 := heap_alloc_new (w.alloc (.cells #[.int .i64 0, .int .i64 0, .int .i64 0, .int .i64 0] 33)) (.cells #[.int .i64 0, .int .i64 0, .int .i64 0, .int .i64 0] 33)
      simpa only [World.size_alloc] using h9
    · repeat' (first | (with_reducible exact Below.refl _ _) | (with_reducible assumption) | (with_reducible refine Ext.below _ ?_ ?_) | (with_reducible refine Below.on ?_ (by with_reducible assumption) ?_) | (with_reducible refine Below.alloc ?_ ?_ _) | (with_reducible refine Below.drew ?_) | (with_reducible refine Below.setCell ?_ ?_ _) | (with_reducible exact Nat.le_refl _) | omega | (simp; done) | (simp [go_sem]; done) | (simp at *; omega))
  clear hW
  have wA : w.heap.size ≤ w.heap.size + 1 := by omega
  generalize w.heap.size + 1 = AB at *
  refine wp_loop_rounds 3 ?_
  rw [rounds_succ]
  obtain ⟨a, ob, no, lw, bel⟩ := id hb
  have a0 : W0.cell? ⟨AB, 0, none⟩ = some (.int .i64 0) := (cell_of_row _ _ 0 _ _ _ a).trans rfl
  have z0 : W0.frozen? ⟨AB, 0, none⟩ = false := frozen_rowQ a
  have v0 : W0.cell? ⟨B, o, none⟩ = some (.int .i64 r0xl) := (bel.cell (p := ⟨B, o, none⟩) hB).trans u00
  have a1 : W0.cell? ⟨AB, 1, none⟩ = some (.int .i64 0) := (cell_of_row _ _ 1 _ _ _ a).trans rfl
  have z1 : W0.frozen? ⟨AB, 1, none⟩ = false := frozen_rowQ a
  have v1 : W0.cell? ⟨B, o + 1, none⟩ = some (.int .i64 r0xh) := (bel.cell (p := ⟨B, o + 1, none⟩) hB).trans u01
  have a2 : W0.cell? ⟨AB, 2, none⟩ = some (.int .i64 0) := (cell_of_row _ _ 2 _ _ _ a).trans rfl
  have z2 : W0.frozen? ⟨AB, 2, none⟩ = false := frozen_rowQ a
  have v2 : W0.cell? ⟨B, o + 2, none⟩ = some (.int .i64 r0yl) := (bel.cell (p := ⟨B, o + 2, none⟩) hB).trans u02
  have a3 : W0.cell? ⟨AB, 3, none⟩ = some (.int .i64 0) := (cell_of_row _ _ 3 _ _ _ a).trans rfl
  have z3 : W0.frozen? ⟨AB, 3, none⟩ = false := frozen_rowQ a
  have v3 : W0.cell? ⟨B, o + 3, none⟩ = some (.int .i64 r0yh) := (bel.cell (p := ⟨B, o + 3, none⟩) hB).trans u03
  have lA := row_ltQ a
  have lB : B < W0.heap.size := Nat.lt_of_lt_of_le hB bel.size
  clear a ob bel
  go_upto_region 5 with (first | ((first | with_reducible refine wrx2 ?_ | with_reducible refine wrx ?_); (repeat (first | go_big_quiet_step ((first | fail)) | quiet_step ((first | fail)))); refine wpQuiet_nil ?_; rintro _ ⟨yr, rfl⟩; have syr := Ext.size yr; (repeat (first | rw [World.size_alloc] at syr | rw [World.size_setCell] at syr | rw [World.size_drew] at syr))))
  (first | with_reducible refine wp_region_ext2_heads 17 (by kernel_rfl) (by kernel_rfl) ?_ | with_reducible refine wp_region_ext_heads 17 (by kernel_rfl) (by kernel_rfl) ?_); simp only [List.take_succ_cons, List.take_zero, List.length_cons, List.length_nil, Nat.reduceAdd, Nat.reduceSub]; (repeat (first | go_big_quiet_step ((first | (go_at_call 55; with_reducible exact Calls.ext (cx0 _)) | (go_at_call 55; with_reducible exact Calls.ext (cy0 _)) | (go_at_call 53; with_reducible exact Calls.ext (ck _ _ _ _)))) | quiet_step ((first | (go_at_call 55; with_reducible exact Calls.ext (cx0 _)) | (go_at_call 55; with_reducible exact Calls.ext (cy0 _)) | (go_at_call 53; with_reducible exact Calls.ext (ck _ _ _ _)))))); refine wpQuiet_nil ?_; rintro _ ⟨yr, rfl⟩; have syr := Ext.size yr; (repeat (first | rw [World.size_alloc] at syr | rw [World.size_setCell] at syr | rw [World.size_drew] at syr)); (refine wpAny_ready (rs := [17]) (by kernel_rfl) (by simp) ?_; refine AllReady.cons rfl (fun K hK => ?_) AllReady.nil; go_simp; refine hK _ _ ?_; clear hK K); refine wpAny_done (by kernel_rfl) ?_ _
  go_wp2_with (first | ((first | with_reducible refine wrx2 ?_ | with_reducible refine wrx ?_); (repeat (first | go_big_quiet_step ((first | fail)) | quiet_step ((first | fail)))); refine wpQuiet_nil ?_; rintro _ ⟨yr, rfl⟩; have syr := Ext.size yr; (repeat (first | rw [World.size_alloc] at syr | rw [World.size_setCell] at syr | rw [World.size_drew] at syr))))
  replace hb := hb.step yr p1xl p1xh p1yl p1yh
  clear a0 a1 a2 a3 z0 z1 z2 z3 v0 v1 v2 v3 lA lB no lw syr
  generalize ((((yr.now.setCell ⟨AB, 0, none⟩ (.int .i64 p1xl)).setCell ⟨AB, 1, none⟩ (.int .i64 p1xh)).setCell ⟨AB, 2, none⟩ (.int .i64 p1yl)).setCell ⟨AB, 3, none⟩ (.int .i64 p1yh)) = W5 at *
  clear yr
  rw [rounds_succ]
  obtain ⟨a, ob, no, lw, bel⟩ := id hb
  have a0 : W5.cell? ⟨AB, 0, none⟩ = some (.int .i64 p1xl) := (cell_of_row _ _ 0 _ _ _ a).trans rfl
  have z0 : W5.frozen? ⟨AB, 0, none⟩ = false := frozen_rowQ a
  have v0 : W5.cell? ⟨B, o + 4, none⟩ = some (.int .i64 r1xl) := (bel.cell (p := ⟨B, o + 4, none⟩) hB).trans u10
  have a1 : W5.cell? ⟨AB, 1, none⟩ = some (.int .i64 p1xh) := (cell_of_row _ _ 1 _ _ _ a).trans rfl
  have z1 : W5.frozen? ⟨AB, 1, none⟩ = false := frozen_rowQ a
  have v1 : W5.cell? ⟨B, o + 5, none⟩ = some (.int .i64 r1xh) := (bel.cell (p := ⟨B, o + 5, none⟩) hB).trans u11
  have a2 : W5.cell? ⟨AB, 2, none⟩ = some (.int .i64 p1yl) := (cell_of_row _ _ 2 _ _ _ a).trans rfl
  have z2 : W5.frozen? ⟨AB, 2, none⟩ = false := frozen_rowQ a
  have v2 : W5.cell? ⟨B, o + 6, none⟩ = some (.int .i64 r1yl) := (bel.cell (p := ⟨B, o + 6, none⟩) hB).trans u12
  have a3 : W5.cell? ⟨AB, 3, none⟩ = some (.int .i64 p1yh) := (cell_of_row _ _ 3 _ _ _ a).trans rfl
  have z3 : W5.frozen? ⟨AB, 3, none⟩ = false := frozen_rowQ a
  have v3 : W5.cell? ⟨B, o + 7, none⟩ = some (.int .i64 r1yh) := (bel.cell (p := ⟨B, o + 7, none⟩) hB).trans u13
  have lA := row_ltQ a
  have lB : B < W5.heap.size := Nat.lt_of_lt_of_le hB bel.size
  clear a ob bel
  go_upto_region 5 with (first | ((first | with_reducible refine wrx2 ?_ | with_reducible refine wrx ?_); (repeat (first | go_big_quiet_step ((first | fail)) | quiet_step ((first | fail)))); refine wpQuiet_nil ?_; rintro _ ⟨yr, rfl⟩; have syr := Ext.size yr; (repeat (first | rw [World.size_alloc] at syr | rw [World.size_setCell] at syr | rw [World.size_drew] at syr))))
  (first | with_reducible refine wp_region_ext2_heads 17 (by kernel_rfl) (by kernel_rfl) ?_ | with_reducible refine wp_region_ext_heads 17 (by kernel_rfl) (by kernel_rfl) ?_); simp only [List.take_succ_cons, List.take_zero, List.length_cons, List.length_nil, Nat.reduceAdd, Nat.reduceSub]; (repeat (first | go_big_quiet_step ((first | (go_at_call 55; with_reducible exact Calls.ext (cx1 _)) | (go_at_call 55; with_reducible exact Calls.ext (cy1 _)) | (go_at_call 53; with_reducible exact Calls.ext (ck _ _ _ _)))) | quiet_step ((first | (go_at_call 55; with_reducible exact Calls.ext (cx1 _)) | (go_at_call 55; with_reducible exact Calls.ext (cy1 _)) | (go_at_call 53; with_reducible exact Calls.ext (ck _ _ _ _)))))); refine wpQuiet_nil ?_; rintro _ ⟨yr, rfl⟩; have syr := Ext.size yr; (repeat (first | rw [World.size_alloc] at syr | rw [World.size_setCell] at syr | rw [World.size_drew] at syr)); (refine wpAny_ready (rs := [17]) (by kernel_rfl) (by simp) ?_; refine AllReady.cons rfl (fun K hK => ?_) AllReady.nil; go_simp; refine hK _ _ ?_; clear hK K); refine wpAny_done (by kernel_rfl) ?_ _
  go_wp2_with (first | ((first | with_reducible refine wrx2 ?_ | with_reducible refine wrx ?_); (repeat (first | go_big_quiet_step ((first | fail)) | quiet_step ((first | fail)))); refine wpQuiet_nil ?_; rintro _ ⟨yr, rfl⟩; have syr := Ext.size yr; (repeat (first | rw [World.size_alloc] at syr | rw [World.size_setCell] at syr | rw [World.size_drew] at syr))))
  replace hb := hb.step yr p2xl p2xh p2yl p2yh
  clear a0 a1 a2 a3 z0 z1 z2 z3 v0 v1 v2 v3 lA lB no lw syr
  generalize ((((yr.now.setCell ⟨AB, 0, none⟩ (.int .i64 p2xl)).setCell ⟨AB, 1, none⟩ (.int .i64 p2xh)).setCell ⟨AB, 2, none⟩ (.int .i64 p2yl)).setCell ⟨AB, 3, none⟩ (.int .i64 p2yh)) = W6 at *
  clear yr
  rw [rounds_succ]
  obtain ⟨a, ob, no, lw, bel⟩ := id hb
  have a0 : W6.cell? ⟨AB, 0, none⟩ = some (.int .i64 p2xl) := (cell_of_row _ _ 0 _ _ _ a).trans rfl
  have z0 : W6.frozen? ⟨AB, 0, none⟩ = false := frozen_rowQ a
  have a1 : W6.cell? ⟨AB, 1, none⟩ = some (.int .i64 p2xh) := (cell_of_row _ _ 1 _ _ _ a).trans rfl
  have z1 : W6.frozen? ⟨AB, 1, none⟩ = false := frozen_rowQ a
  have a2 : W6.cell? ⟨AB, 2, none⟩ = some (.int .i64 p2yl) := (cell_of_row _ _ 2 _ _ _ a).trans rfl
  have z2 : W6.frozen? ⟨AB, 2, none⟩ = false := frozen_rowQ a
  have a3 : W6.cell? ⟨AB, 3, none⟩ = some (.int .i64 p2yh) := (cell_of_row _ _ 3 _ _ _ a).trans rfl
  have z3 : W6.frozen? ⟨AB, 3, none⟩ = false := frozen_rowQ a
  have lA := row_ltQ a
  have lB : B < W6.heap.size := Nat.lt_of_lt_of_le hB bel.size
  have q0 : W6.cell? ⟨w.heap.size, 0, none⟩ = some (.int .i64 0) := (cell_of_row _ _ 0 _ _ _ ob).trans rfl
  have y0 : W6.frozen? ⟨w.heap.size, 0, none⟩ = false := frozen_rowQ ob
  have q1 : W6.cell? ⟨w.heap.size, 1, none⟩ = some (.int .i64 0) := (cell_of_row _ _ 1 _ _ _ ob).trans rfl
  have y1 : W6.frozen? ⟨w.heap.size, 1, none⟩ = false := frozen_rowQ ob
  have q2 : W6.cell? ⟨w.heap.size, 2, none⟩ = some (.int .i64 0) := (cell_of_row _ _ 2 _ _ _ ob).trans rfl
  have y2 : W6.frozen? ⟨w.heap.size, 2, none⟩ = false := frozen_rowQ ob
  have q3 : W6.cell? ⟨w.heap.size, 3, none⟩ = some (.int .i64 0) := (cell_of_row _ _ 3 _ _ _ ob).trans rfl
  have y3 : W6.frozen? ⟨w.heap.size, 3, none⟩ = false := frozen_rowQ ob
  have lO := row_ltQ ob
  clear a ob
  go_wp2_with (first | ((first | with_reducible refine wrx2 ?_ | with_reducible refine wrx ?_); (repeat (first | go_big_quiet_step ((first | fail)) | quiet_step ((first | fail)))); refine wpQuiet_nil ?_; rintro _ ⟨yr, rfl⟩; have syr := Ext.size yr; (repeat (first | rw [World.size_alloc] at syr | rw [World.size_setCell] at syr | rw [World.size_drew] at syr))))
  refine bodyPost_ret (v := .agg #[.int .i64 p2xl, .int .i64 p2xh, .int .i64 p2yl, .int .i64 p2yh]) (by simp (maxDischargeDepth := 9) [results, Try.results47, go_sem, *]) rfl ?_
  refine ⟨rfl, ?_⟩
  exact (((bel.setCell (Nat.le_refl _) _).setCell (Nat.le_refl _) _).setCell (Nat.le_refl _) _).setCell (Nat.le_refl _) _
theorem sum3_any (p : Option Addr) (cp : Nat) (r0 r1 r2 : A4) (w : World) (hP : A4s w p [r0, r1, r2]) (h0 : r0.In 1000000000) (h1 : r1.In 1000000000) (h2 : r2.In 1000000000) :
    Calls Try.prog 47 #[.slice p 3 cp] w (Gives (sumA ⟨0, 0, 0, 0⟩ [r0, r1, r2]).val w) := by
  have i0 : (⟨0, 0, 0, 0⟩ : A4).In 0 := ⟨by simp, by simp, by simp, by simp, by simp, by simp⟩
  have i1 := addA_in i0 h0
  have i2 := addA_in i1 h1
  have i3 := addA_in i2 h2
  simp only [sumA]
  obtain ⟨cx0, cy0⟩ := adds_clean (p := ⟨0, 0, 0, 0⟩) (q := r0) (i0.mono (by omega)) (h0.mono (by omega))
  obtain ⟨cx1, cy1⟩ := adds_clean (p := (addA ⟨0, 0, 0, 0⟩ r0)) (q := r1) (i1.mono (by omega)) (h1.mono (by omega))
  obtain ⟨cx2, cy2⟩ := adds_clean (p := (addA (addA ⟨0, 0, 0, 0⟩ r0) r1)) (q := r2) (i2.mono (by omega)) (h2.mono (by omega))
  generalize addA (⟨0, 0, 0, 0⟩ : A4) r0 = p1 at *
  generalize addA p1 r1 = p2 at *
  generalize addA p2 r2 = p3 at *
  clear i0 i1 i2 i3 h0 h1 h2
  obtain ⟨B0, o0, e0, l0, u00, u01, u02, u03⟩ := hP 0 (by simp)
  obtain ⟨B1, o1, e1, l1, u10, u11, u12, u13⟩ := hP 1 (by simp)
  obtain ⟨B2, o2, e2, l2, u20, u21, u22, u23⟩ := hP 2 (by simp)
  subst e0
  cases e1
  cases e2
  simp only [List.getElem_cons_zero, List.getElem_cons_succ, Nat.zero_mul, Nat.add_zero, Nat.one_mul, Nat.add_assoc, Nat.reduceAdd] at u00 u01 u02 u03 u10 u11 u12 u13 u20 u21 u22 u23
  obtain ⟨r0xl, r0xh, r0yl, r0yh⟩ := r0
  obtain ⟨r1xl, r1xh, r1yl, r1yh⟩ := r1
  obtain ⟨r2xl, r2xh, r2yl, r2yh⟩ := r2
  obtain ⟨p1xl, p1xh, p1yl, p1yh⟩ := p1
  obtain ⟨p2xl, p2xh, p2yl, p2yh⟩ := p2
  obtain ⟨p3xl, p3xh, p3yl, p3yh⟩ := p3
  unfold A4.val
  simp only at *
  have hB := l0
  clear hP l0 l1 l2
  generalize B0 = B at *
  generalize o0 = o at *
  have ck := fun x y e W => known_any x y e W
  go_enter Try.func47, Try.ntmps47
  go_wp2_with (first | ((first | with_reducible refine wrx2 ?_ | with_reducible refine wrx ?_); (repeat (first | go_big_quiet_step ((first | fail)) | quiet_step ((first | fail)))); refine wpQuiet_nil ?_; rintro _ ⟨yr, rfl⟩; have syr := Ext.size yr; (repeat (first | rw [World.size_alloc] at syr | rw [World.size_setCell] at syr | rw [World.size_drew] at syr))))
  refine wp_namedQ (fun W0 hW => ?_)
  have hb : SumBox w W0 (w.heap.size + 1) w.heap.size 0 0 0 0 := by
    rw [← hW]
    refine ⟨?_, (heap_alloc_old _ _ (by simp)).trans (heap_alloc_new _ _), by omega, by omega, ?_⟩
    · have h9 := heap_alloc_new (w.alloc (.cells #[.int .i64 0, .int .i64 0, .int .i64 0, .int .i64 0] 33)) (.cells #[.int .i64 0, .int .i64 0, .int .i64 0, .int .i64 0] 33)
      simpa only [World.size_alloc] using h9
    · repeat' (first | (with_reducible exact Below.refl _ _) | (with_reducible assumption) | (with_reducible refine Ext.below _ ?_ ?_) | (with_reducible refine Below.on ?_ (by with_reducible assumption) ?_) | (with_reducible refine Below.alloc ?_ ?_ _) | (with_reducible refine Below.drew ?_) | (with_reducible refine Below.setCell ?_ ?_ _) | (with_reducible exact Nat.le_refl _) | omega | (simp; done) | (simp [go_sem]; done) | (simp at *; omega))
  clear hW
  have wA : w.heap.size ≤ w.heap.size + 1 := by omega
  generalize w.heap.size + 1 = AB at *
  refine wp_loop_rounds 4 ?_
  rw [rounds_succ]
  obtain ⟨a, ob, no, lw, bel⟩ := id hb
  have a0 : W0.cell? ⟨AB, 0, none⟩ = some (.int .i64 0) := (cell_of_row _ _ 0 _ _ _ a).trans rfl
  have z0 : W0.frozen? ⟨AB, 0, none⟩ = false := frozen_rowQ a
  have v0 : W0.cell? ⟨B, o, none⟩ = some (.int .i64 r0xl) := (bel.cell (p := ⟨B, o, none⟩) hB).trans u00
  have a1 : W0.cell? ⟨AB, 1, none⟩ = some (.int .i64 0) := (cell_of_row _ _ 1 _ _ _ a).trans rfl
  have z1 : W0.frozen? ⟨AB, 1, none⟩ = false := frozen_rowQ a
  have v1 : W0.cell? ⟨B, o + 1, none⟩ = some (.int .i64 r0xh) := (bel.cell (p := ⟨B, o + 1, none⟩) hB).trans u01
  have a2 : W0.cell? ⟨AB, 2, none⟩ = some (.int .i64 0) := (cell_of_row _ _ 2 _ _ _ a).trans rfl
  have z2 : W0.frozen? ⟨AB, 2, none⟩ = false := frozen_rowQ a
  have v2 : W0.cell? ⟨B, o + 2, none⟩ = some (.int .i64 r0yl) := (bel.cell (p := ⟨B, o + 2, none⟩) hB).trans u02
  have a3 : W0.cell? ⟨AB, 3, none⟩ = some (.int .i64 0) := (cell_of_row _ _ 3 _ _ _ a).trans rfl
  have z3 : W0.frozen? ⟨AB, 3, none⟩ = false := frozen_rowQ a
  have v3 : W0.cell? ⟨B, o + 3, none⟩ = some (.int .i64 r0yh) := (bel.cell (p := ⟨B, o + 3, none⟩) hB).trans u03
  have lA := row_ltQ a
  have lB : B < W0.heap.size := Nat.lt_of_lt_of_le hB bel.size
  clear a ob bel
  go_upto_region 5 with (first | ((first | with_reducible refine wrx2 ?_ | with_reducible refine wrx ?_); (repeat (first | go_big_quiet_step ((first | fail)) | quiet_step ((first | fail)))); refine wpQuiet_nil ?_; rintro _ ⟨yr, rfl⟩; have syr := Ext.size yr; (repeat (first | rw [World.size_alloc] at syr | rw [World.size_setCell] at syr | rw [World.size_drew] at syr))))
  (first | with_reducible refine wp_region_ext2_heads 17 (by kernel_rfl) (by kernel_rfl) ?_ | with_reducible refine wp_region_ext_heads 17 (by kernel_rfl) (by kernel_rfl) ?_); simp only [List.take_succ_cons, List.take_zero, List.length_cons, List.length_nil, Nat.reduceAdd, Nat.reduceSub]; (repeat (first | go_big_quiet_step ((first | (go_at_call 55; with_reducible exact Calls.ext (cx0 _)) | (go_at_call 55; with_reducible exact Calls.ext (cy0 _)) | (go_at_call 53; with_reducible exact Calls.ext (ck _ _ _ _)))) | quiet_step ((first | (go_at_call 55; with_reducible exact Calls.ext (cx0 _)) | (go_at_call 55; with_reducible exact Calls.ext (cy0 _)) | (go_at_call 53; with_reducible exact Calls.ext (ck _ _ _ _)))))); refine wpQuiet_nil ?_; rintro _ ⟨yr, rfl⟩; have syr := Ext.size yr; (repeat (first | rw [World.size_alloc] at syr | rw [World.size_setCell] at syr | rw [World.size_drew] at syr)); (refine wpAny_ready (rs := [17]) (by kernel_rfl) (by simp) ?_; refine AllReady.cons rfl (fun K hK => ?_) AllReady.nil; go_simp; refine hK _ _ ?_; clear hK K); refine wpAny_done (by kernel_rfl) ?_ _
  go_wp2_with (first | ((first | with_reducible refine wrx2 ?_ | with_reducible refine wrx ?_); (repeat (first | go_big_quiet_step ((first | fail)) | quiet_step ((first | fail)))); refine wpQuiet_nil ?_; rintro _ ⟨yr, rfl⟩; have syr := Ext.size yr; (repeat (first | rw [World.size_alloc] at syr | rw [World.size_setCell] at syr | rw [World.size_drew] at syr))))
  replace hb := hb.step yr p1xl p1xh p1yl p1yh
  clear a0 a1 a2 a3 z0 z1 z2 z3 v0 v1 v2 v3 lA lB no lw syr
  generalize ((((yr.now.setCell ⟨AB, 0, none⟩ (.int .i64 p1xl)).setCell ⟨AB, 1, none⟩ (.int .i64 p1xh)).setCell ⟨AB, 2, none⟩ (.int .i64 p1yl)).setCell ⟨AB, 3, none⟩ (.int .i64 p1yh)) = W5 at *
  clear yr
  rw [rounds_succ]
  obtain ⟨a, ob, no, lw, bel⟩ := id hb
  have a0 : W5.cell? ⟨AB, 0, none⟩ = some (.int .i64 p1xl) := (cell_of_row _ _ 0 _ _ _ a).trans rfl
  have z0 : W5.frozen? ⟨AB, 0, none⟩ = false := frozen_rowQ a
  have v0 : W5.cell? ⟨B, o + 4, none⟩ = some (.int .i64 r1xl) := (bel.cell (p := ⟨B, o + 4, none⟩) hB).trans u10
  have a1 : W5.cell? ⟨AB, 1, none⟩ = some (.int .i64 p1xh) := (cell_of_row _ _ 1 _ _ _ a).trans rfl
  have z1 : W5.frozen? ⟨AB, 1, none⟩ = false := frozen_rowQ a
  have v1 : W5.cell? ⟨B, o + 5, none⟩ = some (.int .i64 r1xh) := (bel.cell (p := ⟨B, o + 5, none⟩) hB).trans u11
  have a2 : W5.cell? ⟨AB, 2, none⟩ = some (.int .i64 p1yl) := (cell_of_row _ _ 2 _ _ _ a).trans rfl
  have z2 : W5.frozen? ⟨AB, 2, none⟩ = false := frozen_rowQ a
  have v2 : W5.cell? ⟨B, o + 6, none⟩ = some (.int .i64 r1yl) := (bel.cell (p := ⟨B, o + 6, none⟩) hB).trans u12
  have a3 : W5.cell? ⟨AB, 3, none⟩ = some (.int .i64 p1yh) := (cell_of_row _ _ 3 _ _ _ a).trans rfl
  have z3 : W5.frozen? ⟨AB, 3, none⟩ = false := frozen_rowQ a
  have v3 : W5.cell? ⟨B, o + 7, none⟩ = some (.int .i64 r1yh) := (bel.cell (p := ⟨B, o + 7, none⟩) hB).trans u13
  have lA := row_ltQ a
  have lB : B < W5.heap.size := Nat.lt_of_lt_of_le hB bel.size
  clear a ob bel
  go_upto_region 5 with (first | ((first | with_reducible refine wrx2 ?_ | with_reducible refine wrx ?_); (repeat (first | go_big_quiet_step ((first | fail)) | quiet_step ((first | fail)))); refine wpQuiet_nil ?_; rintro _ ⟨yr, rfl⟩; have syr := Ext.size yr; (repeat (first | rw [World.size_alloc] at syr | rw [World.size_setCell] at syr | rw [World.size_drew] at syr))))
  (first | with_reducible refine wp_region_ext2_heads 17 (by kernel_rfl) (by kernel_rfl) ?_ | with_reducible refine wp_region_ext_heads 17 (by kernel_rfl) (by kernel_rfl) ?_); simp only [List.take_succ_cons, List.take_zero, List.length_cons, List.length_nil, Nat.reduceAdd, Nat.reduceSub]; (repeat (first | go_big_quiet_step ((first | (go_at_call 55; with_reducible exact Calls.ext (cx1 _)) | (go_at_call 55; with_reducible exact Calls.ext (cy1 _)) | (go_at_call 53; with_reducible exact Calls.ext (ck _ _ _ _)))) | quiet_step ((first | (go_at_call 55; with_reducible exact Calls.ext (cx1 _)) | (go_at_call 55; with_reducible exact Calls.ext (cy1 _)) | (go_at_call 53; with_reducible exact Calls.ext (ck _ _ _ _)))))); refine wpQuiet_nil ?_; rintro _ ⟨yr, rfl⟩; have syr := Ext.size yr; (repeat (first | rw [World.size_alloc] at syr | rw [World.size_setCell] at syr | rw [World.size_drew] at syr)); (refine wpAny_ready (rs := [17]) (by kernel_rfl) (by simp) ?_; refine AllReady.cons rfl (fun K hK => ?_) AllReady.nil; go_simp; refine hK _ _ ?_; clear hK K); refine wpAny_done (by kernel_rfl) ?_ _
  go_wp2_with (first | ((first | with_reducible refine wrx2 ?_ | with_reducible refine wrx ?_); (repeat (first | go_big_quiet_step ((first | fail)) | quiet_step ((first | fail)))); refine wpQuiet_nil ?_; rintro _ ⟨yr, rfl⟩; have syr := Ext.size yr; (repeat (first | rw [World.size_alloc] at syr | rw [World.size_setCell] at syr | rw [World.size_drew] at syr))))
  replace hb := hb.step yr p2xl p2xh p2yl p2yh
  clear a0 a1 a2 a3 z0 z1 z2 z3 v0 v1 v2 v3 lA lB no lw syr
  generalize ((((yr.now.setCell ⟨AB, 0, none⟩ (.int .i64 p2xl)).setCell ⟨AB, 1, none⟩ (.int .i64 p2xh)).setCell ⟨AB, 2, none⟩ (.int .i64 p2yl)).setCell ⟨AB, 3, none⟩ (.int .i64 p2yh)) = W6 at *
  clear yr
  rw [rounds_succ]
  obtain ⟨a, ob, no, lw, bel⟩ := id hb
  have a0 : W6.cell? ⟨AB, 0, none⟩ = some (.int .i64 p2xl) := (cell_of_row _ _ 0 _ _ _ a).trans rfl
  have z0 : W6.frozen? ⟨AB, 0, none⟩ = false := frozen_rowQ a
  have v0 : W6.cell? ⟨B, o + 8, none⟩ = some (.int .i64 r2xl) := (bel.cell (p := ⟨B, o + 8, none⟩) hB).trans u20
  have a1 : W6.cell? ⟨AB, 1, none⟩ = some (.int .i64 p2xh) := (cell_of_row _ _ 1 _ _ _ a).trans rfl
  have z1 : W6.frozen? ⟨AB, 1, none⟩ = false := frozen_rowQ a
  have v1 : W6.cell? ⟨B, o + 9, none⟩ = some (.int .i64 r2xh) := (bel.cell (p := ⟨B, o + 9, none⟩) hB).trans u21
  have a2 : W6.cell? ⟨AB, 2, none⟩ = some (.int .i64 p2yl) := (cell_of_row _ _ 2 _ _ _ a).trans rfl
  have z2 : W6.frozen? ⟨AB, 2, none⟩ = false := frozen_rowQ a
  have v2 : W6.cell? ⟨B, o + 10, none⟩ = some (.int .i64 r2yl) := (bel.cell (p := ⟨B, o + 10, none⟩) hB).trans u22
  have a3 : W6.cell? ⟨AB, 3, none⟩ = some (.int .i64 p2yh) := (cell_of_row _ _ 3 _ _ _ a).trans rfl
  have z3 : W6.frozen? ⟨AB, 3, none⟩ = false := frozen_rowQ a
  have v3 : W6.cell? ⟨B, o + 11, none⟩ = some (.int .i64 r2yh) := (bel.cell (p := ⟨B, o + 11, none⟩) hB).trans u23
  have lA := row_ltQ a
  have lB : B < W6.heap.size := Nat.lt_of_lt_of_le hB bel.size
  clear a ob bel
  go_upto_region 5 with (first | ((first | with_reducible refine wrx2 ?_ | with_reducible refine wrx ?_); (repeat (first | go_big_quiet_step ((first | fail)) | quiet_step ((first | fail)))); refine wpQuiet_nil ?_; rintro _ ⟨yr, rfl⟩; have syr := Ext.size yr; (repeat (first | rw [World.size_alloc] at syr | rw [World.size_setCell] at syr | rw [World.size_drew] at syr))))
  (first | with_reducible refine wp_region_ext2_heads 17 (by kernel_rfl) (by kernel_rfl) ?_ | with_reducible refine wp_region_ext_heads 17 (by kernel_rfl) (by kernel_rfl) ?_); simp only [List.take_succ_cons, List.take_zero, List.length_cons, List.length_nil, Nat.reduceAdd, Nat.reduceSub]; (repeat (first | go_big_quiet_step ((first | (go_at_call 55; with_reducible exact Calls.ext (cx2 _)) | (go_at_call 55; with_reducible exact Calls.ext (cy2 _)) | (go_at_call 53; with_reducible exact Calls.ext (ck _ _ _ _)))) | quiet_step ((first | (go_at_call 55; with_reducible exact Calls.ext (cx2 _)) | (go_at_call 55; with_reducible exact Calls.ext (cy2 _)) | (go_at_call 53; with_reducible exact Calls.ext (ck _ _ _ _)))))); refine wpQuiet_nil ?_; rintro _ ⟨yr, rfl⟩; have syr := Ext.size yr; (repeat (first | rw [World.size_alloc] at syr | rw [World.size_setCell] at syr | rw [World.size_drew] at syr)); (refine wpAny_ready (rs := [17]) (by kernel_rfl) (by simp) ?_; refine AllReady.cons rfl (fun K hK => ?_) AllReady.nil; go_simp; refine hK _ _ ?_; clear hK K); refine wpAny_done (by kernel_rfl) ?_ _
  go_wp2_with (first | ((first | with_reducible refine wrx2 ?_ | with_reducible refine wrx ?_); (repeat (first | go_big_quiet_step ((first | fail)) | quiet_step ((first | fail)))); refine wpQuiet_nil ?_; rintro _ ⟨yr, rfl⟩; have syr := Ext.size yr; (repeat (first | rw [World.size_alloc] at syr | rw [World.size_setCell] at syr | rw [World.size_drew] at syr))))
  replace hb := hb.step yr p3xl p3xh p3yl p3yh
  clear a0 a1 a2 a3 z0 z1 z2 z3 v0 v1 v2 v3 lA lB no lw syr
  generalize ((((yr.now.setCell ⟨AB, 0, none⟩ (.int .i64 p3xl)).setCell ⟨AB, 1, none⟩ (.int .i64 p3xh)).setCell ⟨AB, 2, none⟩ (.int .i64 p3yl)).setCell ⟨AB, 3, none⟩ (.int .i64 p3yh)) = W7 at *
  clear yr
  rw [rounds_succ]
  obtain ⟨a, ob, no, lw, bel⟩ := id hb
  have a0 : W7.cell? ⟨AB, 0, none⟩ = some (.int .i64 p3xl) := (cell_of_row _ _ 0 _ _ _ a).trans rfl
  have z0 : W7.frozen? ⟨AB, 0, none⟩ = false := frozen_rowQ a
  have a1 : W7.cell? ⟨AB, 1, none⟩ = some (.int .i64 p3xh) := (cell_of_row _ _ 1 _ _ _ a).trans rfl
  have z1 : W7.frozen? ⟨AB, 1, none⟩ = false := frozen_rowQ a
  have a2 : W7.cell? ⟨AB, 2, none⟩ = some (.int .i64 p3yl) := (cell_of_row _ _ 2 _ _ _ a).trans rfl
  have z2 : W7.frozen? ⟨AB, 2, none⟩ = false := frozen_rowQ a
  have a3 : W7.cell? ⟨AB, 3, none⟩ = some (.int .i64 p3yh) := (cell_of_row _ _ 3 _ _ _ a).trans rfl
  have z3 : W7.frozen? ⟨AB, 3, none⟩ = false := frozen_rowQ a
  have lA := row_ltQ a
  have lB : B < W7.heap.size := Nat.lt_of_lt_of_le hB bel.size
  have q0 : W7.cell? ⟨w.heap.size, 0, none⟩ = some (.int .i64 0) := (cell_of_row _ _ 0 _ _ _ ob).trans rfl
  have y0 : W7.frozen? ⟨w.heap.size, 0, none⟩ = false := frozen_rowQ ob
  have q1 : W7.cell? ⟨w.heap.size, 1, none⟩ = some (.int .i64 0) := (cell_of_row _ _ 1 _ _ _ ob).trans rfl
  have y1 : W7.frozen? ⟨w.heap.size, 1, none⟩ = false := frozen_rowQ ob
  have q2 : W7.cell? ⟨w.heap.size, 2, none⟩ = some (.int .i64 0) := (cell_of_row _ _ 2 _ _ _ ob).trans rfl
  have y2 : W7.frozen? ⟨w.heap.size, 2, none⟩ = false := frozen_rowQ ob
  have q3 : W7.cell? ⟨w.heap.size, 3, none⟩ = some (.int .i64 0) := (cell_of_row _ _ 3 _ _ _ ob).trans rfl
  have y3 : W7.frozen? ⟨w.heap.size, 3, none⟩ = false := frozen_rowQ ob
  have lO := row_ltQ ob
  clear a ob
  go_wp2_with (first | ((first | with_reducible refine wrx2 ?_ | with_reducible refine wrx ?_); (repeat (first | go_big_quiet_step ((first | fail)) | quiet_step ((first | fail)))); refine wpQuiet_nil ?_; rintro _ ⟨yr, rfl⟩; have syr := Ext.size yr; (repeat (first | rw [World.size_alloc] at syr | rw [World.size_setCell] at syr | rw [World.size_drew] at syr))))
  refine bodyPost_ret (v := .agg #[.int .i64 p3xl, .int .i64 p3xh, .int .i64 p3yl, .int .i64 p3yh]) (by simp (maxDischargeDepth := 9) [results, Try.results47, go_sem, *]) rfl ?_
  refine ⟨rfl, ?_⟩
  exact (((bel.setCell (Nat.le_refl _) _).setCell (Nat.le_refl _) _).setCell (Nat.le_refl _) _).setCell (Nat.le_refl _) _
end Go.Proofs.Ytlhihmfefipehaa

/- The pull of a body of package force: quotients, strength. Written by gen_quot.py. Condition: valid numbers. -/
import Derived.Test.YtlhihmfefipehaaFoB
import Derived.Test.YtlhihmfefipehaaFoWG
import Derived.Deep.CutRange
namespace Go.Proofs.Ytlhihmfefipehaa
open Go.RowKit Go.Shelf
attribute [local go_sem] Option.isSome_some Ext.cell Ext.frozen Ext.lt Ext.le Ext.lt_add Ext.le_add Ext.ne Ext.ne' lt2 lt3 lt4 lt5 le2 le3 le4
set_option maxRecDepth 100000
set_option maxHeartbeats 4000000
def quoDeps : List (List Nat) := [[], [0], [], [2], [1, 3], [], [5], [], [7], [6, 8], [], [], [10, 4], [11, 9, 12]]
def quoInv (KB LB : Nat) (xl xh ql qh : Int) (a0 : Act) (X : World) (l : List Bool) (fr : Act) (W : World) : Prop :=
  ∃ (s7 s8 s11 s12 s13 s14 s15 s16 s17 s18 s19 s20 : Value) (g : Nat) (g' : Nat), fr = sets a0 [(7, s7), (8, s8), (11, s11), (12, s12), (13, s13), (14, s14), (15, s15), (16, s16), (17, s17), (18, s18), (19, s19), (20, s20)] ∧ Below X.heap.size X W ∧
    (l.getD 12 false = true → l.getD 10 false = true) ∧
    (l.getD 13 false = true → l.getD 11 false = true) ∧
    (l.getD 0 false = true → s11 = .pointer (some ⟨KB, 0, none⟩)) ∧
    (l.getD 1 false = true → s12 = .int .i64 xl) ∧
    (l.getD 2 false = true → s13 = .pointer (some ⟨KB, 1, none⟩)) ∧
    (l.getD 3 false = true → s14 = .int .i64 xh) ∧
    (l.getD 4 false = true → s15 = .agg #[.int .i64 xl, .int .i64 xh]) ∧
    (l.getD 5 false = true → s16 = .pointer (some ⟨LB, 0, none⟩)) ∧
    (l.getD 6 false = true → s17 = .int .i64 ql) ∧
    (l.getD 7 false = true → s18 = .pointer (some ⟨LB, 1, none⟩)) ∧
    (l.getD 8 false = true → s19 = .int .i64 qh) ∧
    (l.getD 9 false = true → s20 = .agg #[.int .i64 ql, .int .i64 qh]) ∧
    (l.getD 10 false = true → s7 = .pointer (some ⟨g, 0, none⟩) ∧ X.heap.size ≤ g ∧ g < W.heap.size) ∧
    (l.getD 10 false = true → l.getD 12 false = false → W.heap[g]? = some (.cells #[.int .i64 0, .int .i64 0] 154 (0, 0))) ∧
    (l.getD 12 false = true → W.heap[g]? = some (.cells #[.int .i64 xl, .int .i64 xh] 154 (0, 0))) ∧
    (l.getD 11 false = true → s8 = .pointer (some ⟨g', 0, none⟩) ∧ X.heap.size ≤ g' ∧ g' < W.heap.size) ∧
    (l.getD 11 false = true → l.getD 13 false = false → W.heap[g']? = some (.cells #[.int .i64 0, .int .i64 0] 154 (0, 0))) ∧
    (l.getD 13 false = true → W.heap[g']? = some (.cells #[.int .i64 ql, .int .i64 qh] 154 (0, 0))) ∧
    (l.getD 10 false = true → l.getD 11 false = true → g ≠ g')
def quoTold (xl xh ql qh : Int) : Act → World → Act → World → Prop := fun a X a' W => ∃ (g : Nat) (g' : Nat), a' = sets a [(7, .pointer (some ⟨g, 0, none⟩)), (8, .pointer (some ⟨g', 0, none⟩)), (11, a'.tmps.getD 11 undef), (12, a'.tmps.getD 12 undef), (13, a'.tmps.getD 13 undef), (14, a'.tmps.getD 14 undef), (15, a'.tmps.getD 15 undef), (16, a'.tmps.getD 16 undef), (17, a'.tmps.getD 17 undef), (18, a'.tmps.getD 18 undef), (19, a'.tmps.getD 19 undef), (20, a'.tmps.getD 20 undef)] ∧
    Below X.heap.size X W ∧
    (X.heap.size ≤ g ∧ g < W.heap.size ∧ W.heap[g]? = some (.cells #[.int .i64 xl, .int .i64 xh] 154 (0, 0))) ∧
    (X.heap.size ≤ g' ∧ g' < W.heap.size ∧ W.heap[g']? = some (.cells #[.int .i64 ql, .int .i64 qh] 154 (0, 0))) ∧
    g ≠ g'
/-- The boxes of quotients: both pairs of ends, the quotients so far (cs, in block A), the result's. -/
structure QuoBox (w W : World) (g g' A R : Nat) (xl xh ql qh : Int) (cs : Array Value) : Prop where
  k0 : W.cell? ⟨g, 0, none⟩ = some (.int .i64 xl)
  k1 : W.cell? ⟨g, 1, none⟩ = some (.int .i64 xh)
  l0 : W.cell? ⟨g', 0, none⟩ = some (.int .i64 ql)
  l1 : W.cell? ⟨g', 1, none⟩ = some (.int .i64 qh)
  row : W.heap[A]? = some (.cells cs 138 (0, 0))
  e2 : ∀ o : Nat, o < 8 → W.cell? ⟨R, o, none⟩ = some (.int .i64 0)
  e3 : ∀ o : Nat, W.frozen? ⟨R, o, none⟩ = false
  lg : g < W.heap.size
  lg' : g' < W.heap.size
  lR : R < W.heap.size
  ng : g ≠ A
  ng' : g' ≠ A
  nR : R ≠ A
  lw : w.heap.size ≤ A
  bel : Below w.heap.size w W
theorem QuoBox.step {w W : World} {g g' A R : Nat} {xl xh ql qh : Int} {cs : Array Value} (h : QuoBox w W g g' A R xl xh ql qh cs) (y : Ext W) (i : Nat) (u v : Value) :
    QuoBox w ((y.now.setCell ⟨A, i, none⟩ u).setCell ⟨A, i + 1, none⟩ v) g g' A R xl xh ql qh ((cs.setIfInBounds i u).setIfInBounds (i + 1) v) := by
  obtain ⟨k0, k1, l0, l1, row, e2, e3, lg, lg', lR, ng, ng', nR, lw, bel⟩ := h
  have hc : ∀ B o, B < W.heap.size → B ≠ A → ((y.now.setCell ⟨A, i, none⟩ u).setCell ⟨A, i + 1, none⟩ v).cell? ⟨B, o, none⟩ = W.cell? ⟨B, o, none⟩ := fun B o hB hne =>
    (World.cell?_of_block (a := ⟨B, o, none⟩) ((heap_setCellQ hne v).trans (heap_setCellQ hne u))).trans (y.cell hB)
  have hf : ∀ B o, B < W.heap.size → B ≠ A → ((y.now.setCell ⟨A, i, none⟩ u).setCell ⟨A, i + 1, none⟩ v).frozen? ⟨B, o, none⟩ = W.frozen? ⟨B, o, none⟩ := fun B o hB hne =>
    (World.frozen?_of_block (a := ⟨B, o, none⟩) ((heap_setCellQ hne v).trans (heap_setCellQ hne u))).trans (y.frozen hB)
  have sy := y.size
  refine ⟨(hc _ _ lg ng).trans k0, (hc _ _ lg ng).trans k1, (hc _ _ lg' ng').trans l0, (hc _ _ lg' ng').trans l1, heap_setCellI (heap_setCellI ((y.grew.block A (row_ltQ row)).trans row) u) v, fun o ho => (hc _ _ lR nR).trans (e2 o ho), fun o => (hf _ _ lR nR).trans (e3 o), ?_, ?_, ?_, ng, ng', nR, lw, ?_⟩
  · simp only [World.size_setCell]; omega
  · simp only [World.size_setCell]; omega
  · simp only [World.size_setCell]; omega
  · exact (((bel.trans (y.grew.mono bel.size))).setCell lw u).setCell lw v
theorem quotients_any (mu xl xh ql qh : Int) (w : World) (h1 : I64 mu) (h2 : I64 xl) (h3 : I64 xh) :
    Calls Try.prog 96 #[.int .i64 mu, .agg #[.int .i64 xl, .int .i64 xh], .agg #[.int .i64 ql, .int .i64 qh]] w
      (Gives (.agg #[.int .i64 (qtL mu xl ql), .int .i64 (qtH mu xl ql), .int .i64 (qtL mu xh ql), .int .i64 (qtH mu xh ql), .int .i64 (qtL mu xl qh), .int .i64 (qtH mu xl qh), .int .i64 (qtL mu xh qh), .int .i64 (qtH mu xh qh)]) w) := by
  have cs0 := fun W => quotient_f mu xl ql W h1 h2
  have cs1 := fun W => quotient_f mu xh ql W h1 h3
  have cs2 := fun W => quotient_f mu xl qh W h1 h2
  have cs3 := fun W => quotient_f mu xh qh W h1 h3
  generalize qtL mu xl ql = a0 at *
  generalize qtH mu xl ql = b0 at *
  generalize qtL mu xh ql = a1 at *
  generalize qtH mu xh ql = b1 at *
  generalize qtL mu xl qh = a2 at *
  generalize qtH mu xl qh = b2 at *
  generalize qtL mu xh qh = a3 at *
  generalize qtH mu xh qh = b3 at *
  clear h1 h2 h3
  go_enter Try.func96, Try.ntmps96
  go_upto_region 1 with (first | ((first | with_reducible refine wrx2 ?_ | with_reducible refine wrx ?_); (repeat (first | go_big_quiet_step ((first | fail)) | quiet_step ((first | fail)))); refine wpQuiet_nil ?_; rintro _ ⟨yr, rfl⟩; have syr := Ext.size yr; (repeat (first | rw [World.size_alloc] at syr | rw [World.size_setCell] at syr | rw [World.size_drew] at syr))))
  refine wp_namedQ (fun X hW => ?_)
  have hB0 : Below w.heap.size w X := by rw [← hW]; repeat' (first | (with_reducible exact Below.refl _ _) | (with_reducible assumption) | (with_reducible refine Ext.below _ ?_ ?_) | (with_reducible refine Below.on ?_ (by with_reducible assumption) ?_) | (with_reducible refine Below.alloc ?_ ?_ _) | (with_reducible refine Below.drew ?_) | (with_reducible refine Below.setCell ?_ ?_ _) | (with_reducible exact Nat.le_refl _) | omega | (simp; done) | (simp [go_sem]; done) | (simp at *; omega))
  have sX : X.heap.size = w.heap.size + 1 + 1 + 1 := by rw [← hW]; simp
  have c0 : X.cell? ⟨w.heap.size, 0, none⟩ = some (.int .i64 xl) := by rw [← hW]; simp [go_sem]
  have c1 : X.cell? ⟨w.heap.size, 1, none⟩ = some (.int .i64 xh) := by rw [← hW]; simp [go_sem]
  have d0 : X.cell? ⟨w.heap.size + 1, 0, none⟩ = some (.int .i64 ql) := by rw [← hW]; simp [go_sem]
  have d1 : X.cell? ⟨w.heap.size + 1, 1, none⟩ = some (.int .i64 qh) := by rw [← hW]; simp [go_sem]
  have e0 : ∀ o : Nat, o < 8 → X.cell? ⟨w.heap.size + 1 + 1, o, none⟩ = some (.int .i64 0) := by
    intro o ho
    rw [← hW]
    rcases (show o = 0 ∨ o = 1 ∨ o = 2 ∨ o = 3 ∨ o = 4 ∨ o = 5 ∨ o = 6 ∨ o = 7 by omega) with rfl | rfl | rfl | rfl | rfl | rfl | rfl | rfl <;> simp [go_sem]
  have e1 : ∀ o : Nat, X.frozen? ⟨w.heap.size + 1 + 1, o, none⟩ = false := by intro o; rw [← hW]; simp [go_sem]
  clear hW
  have lK : w.heap.size < X.heap.size := by omega
  have lL : w.heap.size + 1 < X.heap.size := by omega
  refine wp_tell (quoTold xl xh ql qh) ?_ ?_
  focus
    clear hB0 sX cs0 cs1 cs2 cs3
    repeat (rename_i zz; clear zz)
    generalize w.heap.size + 1 = LB at *
    generalize w.heap.size = KB at *
    refine region_dep (by kernel_rfl) quoDeps (by kernel_rfl) (quoInv KB LB xl xh ql qh) ?h0 ?hstep ?hend
    case h0 =>
      refine ⟨?z7, ?z8, ?z11, ?z12, ?z13, ?z14, ?z15, ?z16, ?z17, ?z18, ?z19, ?z20, 0, 0, ?fr, (Below.refl _ _).drew, by simp, by simp, by simp, by simp, by simp, by simp, by simp, by simp, by simp, by simp, by simp, by simp, by simp, by simp, by simp, by simp, by simp, by simp, by simp⟩
      case fr =>
        simp only [sets, List.foldl_cons, List.foldl_nil, List.set_cons_succ, List.set_cons_zero]
        rfl
    case hend =>
      intro l' fr W hl hall hInv
      unfold quoInv at hInv
      obtain ⟨s7, s8, s11, s12, s13, s14, s15, s16, s17, s18, s19, s20, g, g', hInv⟩ := hInv
      obtain ⟨hfr, hB, i12_10, i13_11, f0, f1, f2, f3, f4, f5, f6, f7, f8, f9, f10, z10, t10, f11, z11, t11, n10_11⟩ := hInv
      subst hfr
      obtain ⟨b0, b1, b2, b3, b4, b5, b6, b7, b8, b9, b10, b11, b12, b13, rfl⟩ := list14 hl
      simp only [List.getD_cons_zero, List.getD_cons_succ] at i12_10 i13_11 f0 f1 f2 f3 f4 f5 f6 f7 f8 f9 f10 z10 t10 f11 z11 t11 n10_11
      simp only [List.all_cons, id, Bool.and_eq_true] at hall
      obtain ⟨e0, e1, e2, e3, e4, e5, e6, e7, e8, e9, e10, e11, e12, e13, -⟩ := hall
      obtain ⟨rfl, x10, y10⟩ := f10 e10
      obtain ⟨rfl, x11, y11⟩ := f11 e11
      exact ⟨rfl, g, g', by kernel_rfl, hB, ⟨x10, y10, t10 e12⟩, ⟨x11, y11, t11 e13⟩, n10_11 e10 e11⟩
    case hstep =>
      intro l' fr W ii hl hInv hr hi
      unfold quoInv at hInv
      obtain ⟨s7, s8, s11, s12, s13, s14, s15, s16, s17, s18, s19, s20, g, g', hInv⟩ := hInv
      obtain ⟨hfr, hB, i12_10, i13_11, f0, f1, f2, f3, f4, f5, f6, f7, f8, f9, f10, z10, t10, f11, z11, t11, n10_11⟩ := hInv
      subst hfr
      obtain ⟨b0, b1, b2, b3, b4, b5, b6, b7, b8, b9, b10, b11, b12, b13, rfl⟩ := list14 hl
      have sW := hB.size
      replace c0 := (hB.cell (p := ⟨KB, 0, none⟩) lK).trans c0
      replace c1 := (hB.cell (p := ⟨KB, 1, none⟩) lK).trans c1
      replace d0 := (hB.cell (p := ⟨LB, 0, none⟩) lL).trans d0
      replace d1 := (hB.cell (p := ⟨LB, 1, none⟩) lL).trans d1
      simp only [List.getD_cons_zero, List.getD_cons_succ] at i12_10 i13_11 f0 f1 f2 f3 f4 f5 f6 f7 f8 f9 f10 z10 t10 f11 z11 t11 n10_11
      replace hB := Go.Lib.hid hB
      replace hi := Go.Lib.hid hi
      replace i12_10 := Go.Lib.hid i12_10
      replace i13_11 := Go.Lib.hid i13_11
      replace f0 := Go.Lib.hid f0
      replace f1 := Go.Lib.hid f1
      replace f2 := Go.Lib.hid f2
      replace f3 := Go.Lib.hid f3
      replace f4 := Go.Lib.hid f4
      replace f5 := Go.Lib.hid f5
      replace f6 := Go.Lib.hid f6
      replace f7 := Go.Lib.hid f7
      replace f8 := Go.Lib.hid f8
      replace f9 := Go.Lib.hid f9
      replace f10 := Go.Lib.hid f10
      replace z10 := Go.Lib.hid z10
      replace t10 := Go.Lib.hid t10
      replace f11 := Go.Lib.hid f11
      replace z11 := Go.Lib.hid z11
      replace t11 := Go.Lib.hid t11
      replace n10_11 := Go.Lib.hid n10_11
      rcases ii with _ | _ | _ | _ | _ | _ | _ | _ | _ | _ | _ | _ | _ | _ | ii
      · refine wpOp_step rfl (fun K hK => ?_)
        simp only [sets, List.foldl_cons, List.foldl_nil, List.set_cons_succ, List.set_cons_zero]
        go_simp
        exact hK _ _ ⟨s7, s8, (.pointer (some ⟨KB, 0, none⟩)), s12, s13, s14, s15, s16, s17, s18, s19, s20, g, g', by kernel_rfl, hB.out, i12_10.out, i13_11.out, fun _ => rfl, f1.out, f2.out, f3.out, f4.out, f5.out, f6.out, f7.out, f8.out, f9.out, f10.out, z10.out, t10.out, f11.out, z11.out, t11.out, n10_11.out⟩
      · simp only [quoDeps, List.getD_cons_zero, List.getD_cons_succ, List.all_cons, List.all_nil, Bool.and_true] at hr
        have hd0 := hr
        obtain rfl := f0.out hd0
        refine wpOp_step rfl (fun K hK => ?_)
        simp only [sets, List.foldl_cons, List.foldl_nil, List.set_cons_succ, List.set_cons_zero]
        go_simp
        exact hK _ _ ⟨s7, s8, (.pointer (some ⟨KB, 0, none⟩)), (.int .i64 xl), s13, s14, s15, s16, s17, s18, s19, s20, g, g', by kernel_rfl, hB.out, i12_10.out, i13_11.out, f0.out, fun _ => rfl, f2.out, f3.out, f4.out, f5.out, f6.out, f7.out, f8.out, f9.out, f10.out, z10.out, t10.out, f11.out, z11.out, t11.out, n10_11.out⟩
      · refine wpOp_step rfl (fun K hK => ?_)
        simp only [sets, List.foldl_cons, List.foldl_nil, List.set_cons_succ, List.set_cons_zero]
        go_simp
        exact hK _ _ ⟨s7, s8, s11, s12, (.pointer (some ⟨KB, 1, none⟩)), s14, s15, s16, s17, s18, s19, s20, g, g', by kernel_rfl, hB.out, i12_10.out, i13_11.out, f0.out, f1.out, fun _ => rfl, f3.out, f4.out, f5.out, f6.out, f7.out, f8.out, f9.out, f10.out, z10.out, t10.out, f11.out, z11.out, t11.out, n10_11.out⟩
      · simp only [quoDeps, List.getD_cons_zero, List.getD_cons_succ, List.all_cons, List.all_nil, Bool.and_true] at hr
        have hd2 := hr
        obtain rfl := f2.out hd2
        refine wpOp_step rfl (fun K hK => ?_)
        simp only [sets, List.foldl_cons, List.foldl_nil, List.set_cons_succ, List.set_cons_zero]
        go_simp
        exact hK _ _ ⟨s7, s8, s11, s12, (.pointer (some ⟨KB, 1, none⟩)), (.int .i64 xh), s15, s16, s17, s18, s19, s20, g, g', by kernel_rfl, hB.out, i12_10.out, i13_11.out, f0.out, f1.out, f2.out, fun _ => rfl, f4.out, f5.out, f6.out, f7.out, f8.out, f9.out, f10.out, z10.out, t10.out, f11.out, z11.out, t11.out, n10_11.out⟩
      · simp only [quoDeps, List.getD_cons_zero, List.getD_cons_succ, List.all_cons, List.all_nil, Bool.and_true, Bool.and_eq_true] at hr
        obtain ⟨hd1, hd3⟩ := hr
        obtain rfl := f1.out hd1
        obtain rfl := f3.out hd3
        refine wpOp_step rfl (fun K hK => ?_)
        simp only [sets, List.foldl_cons, List.foldl_nil, List.set_cons_succ, List.set_cons_zero]
        go_simp
        exact hK _ _ ⟨s7, s8, s11, (.int .i64 xl), s13, (.int .i64 xh), (.agg #[.int .i64 xl, .int .i64 xh]), s16, s17, s18, s19, s20, g, g', by kernel_rfl, hB.out, i12_10.out, i13_11.out, f0.out, f1.out, f2.out, f3.out, fun _ => rfl, f5.out, f6.out, f7.out, f8.out, f9.out, f10.out, z10.out, t10.out, f11.out, z11.out, t11.out, n10_11.out⟩
      · refine wpOp_step rfl (fun K hK => ?_)
        simp only [sets, List.foldl_cons, List.foldl_nil, List.set_cons_succ, List.set_cons_zero]
        go_simp
        exact hK _ _ ⟨s7, s8, s11, s12, s13, s14, s15, (.pointer (some ⟨LB, 0, none⟩)), s17, s18, s19, s20, g, g', by kernel_rfl, hB.out, i12_10.out, i13_11.out, f0.out, f1.out, f2.out, f3.out, f4.out, fun _ => rfl, f6.out, f7.out, f8.out, f9.out, f10.out, z10.out, t10.out, f11.out, z11.out, t11.out, n10_11.out⟩
      · simp only [quoDeps, List.getD_cons_zero, List.getD_cons_succ, List.all_cons, List.all_nil, Bool.and_true] at hr
        have hd5 := hr
        obtain rfl := f5.out hd5
        refine wpOp_step rfl (fun K hK => ?_)
        simp only [sets, List.foldl_cons, List.foldl_nil, List.set_cons_succ, List.set_cons_zero]
        go_simp
        exact hK _ _ ⟨s7, s8, s11, s12, s13, s14, s15, (.pointer (some ⟨LB, 0, none⟩)), (.int .i64 ql), s18, s19, s20, g, g', by kernel_rfl, hB.out, i12_10.out, i13_11.out, f0.out, f1.out, f2.out, f3.out, f4.out, f5.out, fun _ => rfl, f7.out, f8.out, f9.out, f10.out, z10.out, t10.out, f11.out, z11.out, t11.out, n10_11.out⟩
      · refine wpOp_step rfl (fun K hK => ?_)
        simp only [sets, List.foldl_cons, List.foldl_nil, List.set_cons_succ, List.set_cons_zero]
        go_simp
        exact hK _ _ ⟨s7, s8, s11, s12, s13, s14, s15, s16, s17, (.pointer (some ⟨LB, 1, none⟩)), s19, s20, g, g', by kernel_rfl, hB.out, i12_10.out, i13_11.out, f0.out, f1.out, f2.out, f3.out, f4.out, f5.out, f6.out, fun _ => rfl, f8.out, f9.out, f10.out, z10.out, t10.out, f11.out, z11.out, t11.out, n10_11.out⟩
      · simp only [quoDeps, List.getD_cons_zero, List.getD_cons_succ, List.all_cons, List.all_nil, Bool.and_true] at hr
        have hd7 := hr
        obtain rfl := f7.out hd7
        refine wpOp_step rfl (fun K hK => ?_)
        simp only [sets, List.foldl_cons, List.foldl_nil, List.set_cons_succ, List.set_cons_zero]
        go_simp
        exact hK _ _ ⟨s7, s8, s11, s12, s13, s14, s15, s16, s17, (.pointer (some ⟨LB, 1, none⟩)), (.int .i64 qh), s20, g, g', by kernel_rfl, hB.out, i12_10.out, i13_11.out, f0.out, f1.out, f2.out, f3.out, f4.out, f5.out, f6.out, f7.out, fun _ => rfl, f9.out, f10.out, z10.out, t10.out, f11.out, z11.out, t11.out, n10_11.out⟩
      · simp only [quoDeps, List.getD_cons_zero, List.getD_cons_succ, List.all_cons, List.all_nil, Bool.and_true, Bool.and_eq_true] at hr
        obtain ⟨hd6, hd8⟩ := hr
        obtain rfl := f6.out hd6
        obtain rfl := f8.out hd8
        refine wpOp_step rfl (fun K hK => ?_)
        simp only [sets, List.foldl_cons, List.foldl_nil, List.set_cons_succ, List.set_cons_zero]
        go_simp
        exact hK _ _ ⟨s7, s8, s11, s12, s13, s14, s15, s16, (.int .i64 ql), s18, (.int .i64 qh), (.agg #[.int .i64 ql, .int .i64 qh]), g, g', by kernel_rfl, hB.out, i12_10.out, i13_11.out, f0.out, f1.out, f2.out, f3.out, f4.out, f5.out, f6.out, f7.out, f8.out, fun _ => rfl, f10.out, z10.out, t10.out, f11.out, z11.out, t11.out, n10_11.out⟩
      · have hi := hi.out
        simp only [List.getElem?_cons_zero, List.getElem?_cons_succ, Option.some.injEq] at hi
        subst hi
        refine wpOp_step rfl (fun K hK => ?_)
        simp only [sets, List.foldl_cons, List.foldl_nil, List.set_cons_succ, List.set_cons_zero]
        go_simp
        exact hK _ _ ⟨(.pointer (some ⟨W.heap.size, 0, none⟩)), s8, s11, s12, s13, s14, s15, s16, s17, s18, s19, s20, (W.heap.size), g', by kernel_rfl, hB.out.alloc sW _, fun _ => rfl, i13_11.out, f0.out, f1.out, f2.out, f3.out, f4.out, f5.out, f6.out, f7.out, f8.out, f9.out, (fun _ => ⟨rfl, sW, by simp only [World.size_alloc]; omega⟩), (fun _ _ => heap_alloc_new _ _), (fun h => absurd (i12_10.out h) (by decide)), (fun h => by obtain ⟨e, j1, j2⟩ := f11.out h; exact ⟨e, j1, (by have := j2; simp only [World.size_alloc]; omega)⟩), (fun h h' => by obtain ⟨e, j1, j2⟩ := f11.out h; exact (heap_alloc_old _ _ j2).trans (z11.out h h')), (fun h => by obtain ⟨e, j1, j2⟩ := f11.out (i13_11.out h); exact (heap_alloc_old _ _ j2).trans (t11.out h)), (fun _ h => by obtain ⟨e, j1, j2⟩ := f11.out h; omega)⟩
      · have hi := hi.out
        simp only [List.getElem?_cons_zero, List.getElem?_cons_succ, Option.some.injEq] at hi
        subst hi
        refine wpOp_step rfl (fun K hK => ?_)
        simp only [sets, List.foldl_cons, List.foldl_nil, List.set_cons_succ, List.set_cons_zero]
        go_simp
        exact hK _ _ ⟨s7, (.pointer (some ⟨W.heap.size, 0, none⟩)), s11, s12, s13, s14, s15, s16, s17, s18, s19, s20, g, (W.heap.size), by kernel_rfl, hB.out.alloc sW _, i12_10.out, fun _ => rfl, f0.out, f1.out, f2.out, f3.out, f4.out, f5.out, f6.out, f7.out, f8.out, f9.out, (fun h => by obtain ⟨e, j1, j2⟩ := f10.out h; exact ⟨e, j1, (by have := j2; simp only [World.size_alloc]; omega)⟩), (fun h h' => by obtain ⟨e, j1, j2⟩ := f10.out h; exact (heap_alloc_old _ _ j2).trans (z10.out h h')), (fun h => by obtain ⟨e, j1, j2⟩ := f10.out (i12_10.out h); exact (heap_alloc_old _ _ j2).trans (t10.out h)), (fun _ => ⟨rfl, sW, by simp only [World.size_alloc]; omega⟩), (fun _ _ => heap_alloc_new _ _), (fun h => absurd (i13_11.out h) (by decide)), (fun h _ => by obtain ⟨e, j1, j2⟩ := f10.out h; omega)⟩
      · simp only [quoDeps, List.getD_cons_zero, List.getD_cons_succ, List.all_cons, List.all_nil, Bool.and_true, Bool.and_eq_true] at hr
        obtain ⟨hd10, hd4⟩ := hr
        have hi := hi.out
        simp only [List.getElem?_cons_zero, List.getElem?_cons_succ, Option.some.injEq] at hi
        subst hi
        obtain ⟨rfl, x10, y10⟩ := f10.out hd10
        obtain rfl := f4.out hd4
        have e := z10.out hd10 rfl
        refine wpOp_step rfl (fun K hK => ?_)
        simp only [sets, List.foldl_cons, List.foldl_nil, List.set_cons_succ, List.set_cons_zero]
        simp only [Region.wanted]
        refine store_op 154 (.tmp 7) (.tmp 15) rfl g #[.int .i64 xl, .int .i64 xh] (by kernel_rfl) (by kernel_rfl) 154 _ e (by kernel_rfl) rfl (by simp [Value.oneCell']) ?_
        exact hK _ _ ⟨(.pointer (some ⟨g, 0, none⟩)), s8, s11, s12, s13, s14, (.agg #[.int .i64 xl, .int .i64 xh]), s16, s17, s18, s19, s20, g, g', by kernel_rfl, below_setRow hB.out x10 _, fun _ => hd10, i13_11.out, f0.out, f1.out, f2.out, f3.out, f4.out, f5.out, f6.out, f7.out, f8.out, f9.out, (fun _ => ⟨rfl, x10, by rw [size_setRowQ]; exact y10⟩), (fun _ h => by cases h), (fun _ => setRow_heap _ _ _ _ _ _ e), (fun h => by obtain ⟨e, j1, j2⟩ := f11.out h; exact ⟨e, j1, by rw [size_setRowQ]; exact j2⟩), (fun h h' => (setRow_other W g g' _ (Ne.symm (n10_11.out hd10 (h)))).trans (z11.out h h')), (fun h => (setRow_other W g g' _ (Ne.symm (n10_11.out hd10 (i13_11.out h)))).trans (t11.out h)), n10_11.out⟩
      · simp only [quoDeps, List.getD_cons_zero, List.getD_cons_succ, List.all_cons, List.all_nil, Bool.and_true, Bool.and_eq_true] at hr
        obtain ⟨hd11, hd9, hd12⟩ := hr
        have hi := hi.out
        simp only [List.getElem?_cons_zero, List.getElem?_cons_succ, Option.some.injEq] at hi
        subst hi
        obtain ⟨rfl, x11, y11⟩ := f11.out hd11
        obtain rfl := f9.out hd9
        have e := z11.out hd11 rfl
        refine wpOp_step rfl (fun K hK => ?_)
        simp only [sets, List.foldl_cons, List.foldl_nil, List.set_cons_succ, List.set_cons_zero]
        simp only [Region.wanted]
        refine store_op 154 (.tmp 8) (.tmp 20) rfl g' #[.int .i64 ql, .int .i64 qh] (by kernel_rfl) (by kernel_rfl) 154 _ e (by kernel_rfl) rfl (by simp [Value.oneCell']) ?_
        exact hK _ _ ⟨s7, (.pointer (some ⟨g', 0, none⟩)), s11, s12, s13, s14, s15, s16, s17, s18, s19, (.agg #[.int .i64 ql, .int .i64 qh]), g, g', by kernel_rfl, below_setRow hB.out x11 _, i12_10.out, fun _ => hd11, f0.out, f1.out, f2.out, f3.out, f4.out, f5.out, f6.out, f7.out, f8.out, f9.out, (fun h => by obtain ⟨e, j1, j2⟩ := f10.out h; exact ⟨e, j1, by rw [size_setRowQ]; exact j2⟩), (fun h h' => (setRow_other W g' g _ (Ne.symm ((n10_11.out (h) hd11).symm))).trans (z10.out h h')), (fun h => (setRow_other W g' g _ (Ne.symm ((n10_11.out (i12_10.out h) hd11).symm))).trans (t10.out h)), (fun _ => ⟨rfl, x11, by rw [size_setRowQ]; exact y11⟩), (fun _ h => by cases h), (fun _ => setRow_heap _ _ _ _ _ _ e), n10_11.out⟩
      · have hi := hi.out; simp at hi
  rintro a4 W4 ⟨g, g', ha4, hB4, ⟨x10, y10, r10⟩, ⟨x11, y11, r11⟩, n10_11⟩
  generalize a4.tmps.getD 11 undef = s11 at ha4
  generalize a4.tmps.getD 12 undef = s12 at ha4
  generalize a4.tmps.getD 13 undef = s13 at ha4
  generalize a4.tmps.getD 14 undef = s14 at ha4
  generalize a4.tmps.getD 15 undef = s15 at ha4
  generalize a4.tmps.getD 16 undef = s16 at ha4
  generalize a4.tmps.getD 17 undef = s17 at ha4
  generalize a4.tmps.getD 18 undef = s18 at ha4
  generalize a4.tmps.getD 19 undef = s19 at ha4
  generalize a4.tmps.getD 20 undef = s20 at ha4
  subst ha4
  simp only [sets, List.foldl_cons, List.foldl_nil, List.set_cons_succ, List.set_cons_zero]
  have m0 : bits BinOp.and IntKind.i64 0 1 = 0 := by rfl
  have m1 : bits BinOp.and IntKind.i64 1 1 = 1 := by rfl
  have m2 : bits BinOp.and IntKind.i64 2 1 = 0 := by rfl
  have m3 : bits BinOp.and IntKind.i64 3 1 = 1 := by rfl
  obtain ⟨gK, gL, gr⟩ := (⟨x10, y10, r10⟩ : _ ∧ _ ∧ _)
  obtain ⟨hK', hL', hr'⟩ := (⟨x11, y11, r11⟩ : _ ∧ _ ∧ _)
  have k0 : W4.cell? ⟨g, 0, none⟩ = some (.int .i64 xl) := (cell_of_row W4 g 0 _ _ _ r10).trans rfl
  have k1 : W4.cell? ⟨g, 1, none⟩ = some (.int .i64 xh) := (cell_of_row W4 g 1 _ _ _ r10).trans rfl
  have l0 : W4.cell? ⟨g', 0, none⟩ = some (.int .i64 ql) := (cell_of_row W4 g' 0 _ _ _ r11).trans rfl
  have l1 : W4.cell? ⟨g', 1, none⟩ = some (.int .i64 qh) := (cell_of_row W4 g' 1 _ _ _ r11).trans rfl
  have s4 := hB4.size
  have hBw : Below w.heap.size w W4 := hB0.trans (hB4.mono (by omega))
  have e2 : ∀ o : Nat, o < 8 → W4.cell? ⟨w.heap.size + 1 + 1, o, none⟩ = some (.int .i64 0) := fun o ho => (hB4.cell (p := ⟨w.heap.size + 1 + 1, o, none⟩) (by simp only; omega)).trans (e0 o ho)
  have e3 : ∀ o : Nat, W4.frozen? ⟨w.heap.size + 1 + 1, o, none⟩ = false := fun o => (hB4.frozen (p := ⟨w.heap.size + 1 + 1, o, none⟩) (by simp only; omega)).trans (e1 o)
  have lR : w.heap.size + 1 + 1 < W4.heap.size := by omega
  clear r10 r11 x10 x11 gK hK' gr hr' hB4 hB0 e0 e1 c0 c1 d0 d1 n10_11 lK lL s4 sX
  go_wp2_with (first | ((first | with_reducible refine wrx2 ?_ | with_reducible refine wrx ?_); (repeat (first | go_big_quiet_step ((first | fail)) | quiet_step ((first | fail)))); refine wpQuiet_nil ?_; rintro _ ⟨yr, rfl⟩; have syr := Ext.size yr; (repeat (first | rw [World.size_alloc] at syr | rw [World.size_setCell] at syr | rw [World.size_drew] at syr))))
  refine wp_namedQ (fun W5 hW => ?_)
  have hb : QuoBox w W5 g g' W4.heap.size (w.heap.size + 1 + 1) xl xh ql qh #[.int .i64 0, .int .i64 0, .int .i64 0, .int .i64 0, .int .i64 0, .int .i64 0, .int .i64 0, .int .i64 0] := by
    rw [← hW]
    have hy := fun ob : Obj => (Below.refl W4.heap.size W4).alloc (Nat.le_refl _) ob
    refine ⟨((hy _).cell (p := ⟨g, 0, none⟩) y10).trans k0, ((hy _).cell (p := ⟨g, 1, none⟩) y10).trans k1, ((hy _).cell (p := ⟨g', 0, none⟩) y11).trans l0, ((hy _).cell (p := ⟨g', 1, none⟩) y11).trans l1, heap_alloc_new _ _, fun o ho => ((hy _).cell (p := ⟨w.heap.size + 1 + 1, o, none⟩) lR).trans (e2 o ho), fun o => ((hy _).frozen (p := ⟨w.heap.size + 1 + 1, o, none⟩) lR).trans (e3 o), ?_, ?_, ?_, by omega, by omega, by omega, by omega, ?_⟩
    · simp only [World.size_alloc]; omega
    · simp only [World.size_alloc]; omega
    · simp only [World.size_alloc]; omega
    · exact hBw.alloc (by omega) _
  clear hW k0 k1 l0 l1 e2 e3 lR y10 y11 gL hL' hBw
  generalize W4.heap.size = A at *
  clear W4
  refine wp_loop_rounds 5 ?_
  rw [rounds_succ]
  obtain ⟨k0, k1, l0, l1, row, e2, e3, lg, lg', lR, ng, ng', nR, lw, bel⟩ := id hb
  have z0 : W5.cell? ⟨A, 0, none⟩ = some (.int .i64 0) := (cell_of_row W5 A 0 _ _ _ row).trans rfl
  have z1 : W5.cell? ⟨A, 1, none⟩ = some (.int .i64 0) := (cell_of_row W5 A (1) _ _ _ row).trans rfl
  have f0 : W5.frozen? ⟨A, 0, none⟩ = false := frozen_rowQ row
  have f1 : W5.frozen? ⟨A, 1, none⟩ = false := frozen_rowQ row
  have lA := row_ltQ row
  clear e2 e3 bel
  go_upto_region 6 with (first | ((first | with_reducible refine wrx2 ?_ | with_reducible refine wrx ?_); (repeat (first | go_big_quiet_step ((first | fail)) | quiet_step ((first | fail)))); refine wpQuiet_nil ?_; rintro _ ⟨yr, rfl⟩; have syr := Ext.size yr; (repeat (first | rw [World.size_alloc] at syr | rw [World.size_setCell] at syr | rw [World.size_drew] at syr))))
  (first | with_reducible refine wp_region_ext2_heads 12 (by kernel_rfl) (by kernel_rfl) ?_ | with_reducible refine wp_region_ext_heads 12 (by kernel_rfl) (by kernel_rfl) ?_); simp only [List.take_succ_cons, List.take_zero, List.length_cons, List.length_nil, Nat.reduceAdd, Nat.reduceSub]; (repeat (first | go_big_quiet_step ((first | (go_at_call 111; with_reducible exact Calls.ext (cs0 _)) | (go_at_call 111; with_reducible exact Calls.ext (cs1 _)) | (go_at_call 111; with_reducible exact Calls.ext (cs2 _)) | (go_at_call 111; with_reducible exact Calls.ext (cs3 _)))) | quiet_step ((first | (go_at_call 111; with_reducible exact Calls.ext (cs0 _)) | (go_at_call 111; with_reducible exact Calls.ext (cs1 _)) | (go_at_call 111; with_reducible exact Calls.ext (cs2 _)) | (go_at_call 111; with_reducible exact Calls.ext (cs3 _)))))); refine wpQuiet_nil ?_; rintro _ ⟨yr, rfl⟩; have syr := Ext.size yr; (repeat (first | rw [World.size_alloc] at syr | rw [World.size_setCell] at syr | rw [World.size_drew] at syr)); (refine wpAny_ready (rs := [12]) (by kernel_rfl) (by simp) ?_; refine AllReady.cons rfl (fun K hK => ?_) AllReady.nil; go_simp; refine hK _ _ ?_; clear hK K); refine wpAny_done (by kernel_rfl) ?_ _
  go_wp2_with (first | ((first | with_reducible refine wrx2 ?_ | with_reducible refine wrx ?_); (repeat (first | go_big_quiet_step ((first | fail)) | quiet_step ((first | fail)))); refine wpQuiet_nil ?_; rintro _ ⟨yr, rfl⟩; have syr := Ext.size yr; (repeat (first | rw [World.size_alloc] at syr | rw [World.size_setCell] at syr | rw [World.size_drew] at syr))))
  replace hb := hb.step yr 0 (.int .i64 a0) (.int .i64 b0)
  simp only [List.setIfInBounds_toArray, List.set_cons_zero, List.set_cons_succ] at hb
  clear k0 k1 l0 l1 row lg lg' lR ng ng' nR lw z0 z1 f0 f1 lA syr
  generalize ((yr.now.setCell ⟨A, 0, none⟩ (.int .i64 a0)).setCell ⟨A, 1, none⟩ (.int .i64 b0)) = W6 at *
  clear yr
  rw [rounds_succ]
  obtain ⟨k0, k1, l0, l1, row, e2, e3, lg, lg', lR, ng, ng', nR, lw, bel⟩ := id hb
  have z0 : W6.cell? ⟨A, 2, none⟩ = some (.int .i64 0) := (cell_of_row W6 A 2 _ _ _ row).trans rfl
  have z1 : W6.cell? ⟨A, 3, none⟩ = some (.int .i64 0) := (cell_of_row W6 A (3) _ _ _ row).trans rfl
  have f0 : W6.frozen? ⟨A, 2, none⟩ = false := frozen_rowQ row
  have f1 : W6.frozen? ⟨A, 3, none⟩ = false := frozen_rowQ row
  have lA := row_ltQ row
  clear e2 e3 bel
  go_upto_region 6 with (first | ((first | with_reducible refine wrx2 ?_ | with_reducible refine wrx ?_); (repeat (first | go_big_quiet_step ((first | fail)) | quiet_step ((first | fail)))); refine wpQuiet_nil ?_; rintro _ ⟨yr, rfl⟩; have syr := Ext.size yr; (repeat (first | rw [World.size_alloc] at syr | rw [World.size_setCell] at syr | rw [World.size_drew] at syr))))
  (first | with_reducible refine wp_region_ext2_heads 12 (by kernel_rfl) (by kernel_rfl) ?_ | with_reducible refine wp_region_ext_heads 12 (by kernel_rfl) (by kernel_rfl) ?_); simp only [List.take_succ_cons, List.take_zero, List.length_cons, List.length_nil, Nat.reduceAdd, Nat.reduceSub]; (repeat (first | go_big_quiet_step ((first | (go_at_call 111; with_reducible exact Calls.ext (cs0 _)) | (go_at_call 111; with_reducible exact Calls.ext (cs1 _)) | (go_at_call 111; with_reducible exact Calls.ext (cs2 _)) | (go_at_call 111; with_reducible exact Calls.ext (cs3 _)))) | quiet_step ((first | (go_at_call 111; with_reducible exact Calls.ext (cs0 _)) | (go_at_call 111; with_reducible exact Calls.ext (cs1 _)) | (go_at_call 111; with_reducible exact Calls.ext (cs2 _)) | (go_at_call 111; with_reducible exact Calls.ext (cs3 _)))))); refine wpQuiet_nil ?_; rintro _ ⟨yr, rfl⟩; have syr := Ext.size yr; (repeat (first | rw [World.size_alloc] at syr | rw [World.size_setCell] at syr | rw [World.size_drew] at syr)); (refine wpAny_ready (rs := [12]) (by kernel_rfl) (by simp) ?_; refine AllReady.cons rfl (fun K hK => ?_) AllReady.nil; go_simp; refine hK _ _ ?_; clear hK K); refine wpAny_done (by kernel_rfl) ?_ _
  go_wp2_with (first | ((first | with_reducible refine wrx2 ?_ | with_reducible refine wrx ?_); (repeat (first | go_big_quiet_step ((first | fail)) | quiet_step ((first | fail)))); refine wpQuiet_nil ?_; rintro _ ⟨yr, rfl⟩; have syr := Ext.size yr; (repeat (first | rw [World.size_alloc] at syr | rw [World.size_setCell] at syr | rw [World.size_drew] at syr))))
  replace hb := hb.step yr 2 (.int .i64 a1) (.int .i64 b1)
  simp only [List.setIfInBounds_toArray, List.set_cons_zero, List.set_cons_succ] at hb
  clear k0 k1 l0 l1 row lg lg' lR ng ng' nR lw z0 z1 f0 f1 lA syr
  generalize ((yr.now.setCell ⟨A, 2, none⟩ (.int .i64 a1)).setCell ⟨A, 3, none⟩ (.int .i64 b1)) = W7 at *
  clear yr
  rw [rounds_succ]
  obtain ⟨k0, k1, l0, l1, row, e2, e3, lg, lg', lR, ng, ng', nR, lw, bel⟩ := id hb
  have z0 : W7.cell? ⟨A, 4, none⟩ = some (.int .i64 0) := (cell_of_row W7 A 4 _ _ _ row).trans rfl
  have z1 : W7.cell? ⟨A, 5, none⟩ = some (.int .i64 0) := (cell_of_row W7 A (5) _ _ _ row).trans rfl
  have f0 : W7.frozen? ⟨A, 4, none⟩ = false := frozen_rowQ row
  have f1 : W7.frozen? ⟨A, 5, none⟩ = false := frozen_rowQ row
  have lA := row_ltQ row
  clear e2 e3 bel
  go_upto_region 6 with (first | ((first | with_reducible refine wrx2 ?_ | with_reducible refine wrx ?_); (repeat (first | go_big_quiet_step ((first | fail)) | quiet_step ((first | fail)))); refine wpQuiet_nil ?_; rintro _ ⟨yr, rfl⟩; have syr := Ext.size yr; (repeat (first | rw [World.size_alloc] at syr | rw [World.size_setCell] at syr | rw [World.size_drew] at syr))))
  (first | with_reducible refine wp_region_ext2_heads 12 (by kernel_rfl) (by kernel_rfl) ?_ | with_reducible refine wp_region_ext_heads 12 (by kernel_rfl) (by kernel_rfl) ?_); simp only [List.take_succ_cons, List.take_zero, List.length_cons, List.length_nil, Nat.reduceAdd, Nat.reduceSub]; (repeat (first | go_big_quiet_step ((first | (go_at_call 111; with_reducible exact Calls.ext (cs0 _)) | (go_at_call 111; with_reducible exact Calls.ext (cs1 _)) | (go_at_call 111; with_reducible exact Calls.ext (cs2 _)) | (go_at_call 111; with_reducible exact Calls.ext (cs3 _)))) | quiet_step ((first | (go_at_call 111; with_reducible exact Calls.ext (cs0 _)) | (go_at_call 111; with_reducible exact Calls.ext (cs1 _)) | (go_at_call 111; with_reducible exact Calls.ext (cs2 _)) | (go_at_call 111; with_reducible exact Calls.ext (cs3 _)))))); refine wpQuiet_nil ?_; rintro _ ⟨yr, rfl⟩; have syr := Ext.size yr; (repeat (first | rw [World.size_alloc] at syr | rw [World.size_setCell] at syr | rw [World.size_drew] at syr)); (refine wpAny_ready (rs := [12]) (by kernel_rfl) (by simp) ?_; refine AllReady.cons rfl (fun K hK => ?_) AllReady.nil; go_simp; refine hK _ _ ?_; clear hK K); refine wpAny_done (by kernel_rfl) ?_ _
  go_wp2_with (first | ((first | with_reducible refine wrx2 ?_ | with_reducible refine wrx ?_); (repeat (first | go_big_quiet_step ((first | fail)) | quiet_step ((first | fail)))); refine wpQuiet_nil ?_; rintro _ ⟨yr, rfl⟩; have syr := Ext.size yr; (repeat (first | rw [World.size_alloc] at syr | rw [World.size_setCell] at syr | rw [World.size_drew] at syr))))
  replace hb := hb.step yr 4 (.int .i64 a2) (.int .i64 b2)
  simp only [List.setIfInBounds_toArray, List.set_cons_zero, List.set_cons_succ] at hb
  clear k0 k1 l0 l1 row lg lg' lR ng ng' nR lw z0 z1 f0 f1 lA syr
  generalize ((yr.now.setCell ⟨A, 4, none⟩ (.int .i64 a2)).setCell ⟨A, 5, none⟩ (.int .i64 b2)) = W8 at *
  clear yr
  rw [rounds_succ]
  obtain ⟨k0, k1, l0, l1, row, e2, e3, lg, lg', lR, ng, ng', nR, lw, bel⟩ := id hb
  have z0 : W8.cell? ⟨A, 6, none⟩ = some (.int .i64 0) := (cell_of_row W8 A 6 _ _ _ row).trans rfl
  have z1 : W8.cell? ⟨A, 7, none⟩ = some (.int .i64 0) := (cell_of_row W8 A (7) _ _ _ row).trans rfl
  have f0 : W8.frozen? ⟨A, 6, none⟩ = false := frozen_rowQ row
  have f1 : W8.frozen? ⟨A, 7, none⟩ = false := frozen_rowQ row
  have lA := row_ltQ row
  clear e2 e3 bel
  go_upto_region 6 with (first | ((first | with_reducible refine wrx2 ?_ | with_reducible refine wrx ?_); (repeat (first | go_big_quiet_step ((first | fail)) | quiet_step ((first | fail)))); refine wpQuiet_nil ?_; rintro _ ⟨yr, rfl⟩; have syr := Ext.size yr; (repeat (first | rw [World.size_alloc] at syr | rw [World.size_setCell] at syr | rw [World.size_drew] at syr))))
  (first | with_reducible refine wp_region_ext2_heads 12 (by kernel_rfl) (by kernel_rfl) ?_ | with_reducible refine wp_region_ext_heads 12 (by kernel_rfl) (by kernel_rfl) ?_); simp only [List.take_succ_cons, List.take_zero, List.length_cons, List.length_nil, Nat.reduceAdd, Nat.reduceSub]; (repeat (first | go_big_quiet_step ((first | (go_at_call 111; with_reducible exact Calls.ext (cs0 _)) | (go_at_call 111; with_reducible exact Calls.ext (cs1 _)) | (go_at_call 111; with_reducible exact Calls.ext (cs2 _)) | (go_at_call 111; with_reducible exact Calls.ext (cs3 _)))) | quiet_step ((first | (go_at_call 111; with_reducible exact Calls.ext (cs0 _)) | (go_at_call 111; with_reducible exact Calls.ext (cs1 _)) | (go_at_call 111; with_reducible exact Calls.ext (cs2 _)) | (go_at_call 111; with_reducible exact Calls.ext (cs3 _)))))); refine wpQuiet_nil ?_; rintro _ ⟨yr, rfl⟩; have syr := Ext.size yr; (repeat (first | rw [World.size_alloc] at syr | rw [World.size_setCell] at syr | rw [World.size_drew] at syr)); (refine wpAny_ready (rs := [12]) (by kernel_rfl) (by simp) ?_; refine AllReady.cons rfl (fun K hK => ?_) AllReady.nil; go_simp; refine hK _ _ ?_; clear hK K); refine wpAny_done (by kernel_rfl) ?_ _
  go_wp2_with (first | ((first | with_reducible refine wrx2 ?_ | with_reducible refine wrx ?_); (repeat (first | go_big_quiet_step ((first | fail)) | quiet_step ((first | fail)))); refine wpQuiet_nil ?_; rintro _ ⟨yr, rfl⟩; have syr := Ext.size yr; (repeat (first | rw [World.size_alloc] at syr | rw [World.size_setCell] at syr | rw [World.size_drew] at syr))))
  replace hb := hb.step yr 6 (.int .i64 a3) (.int .i64 b3)
  simp only [List.setIfInBounds_toArray, List.set_cons_zero, List.set_cons_succ] at hb
  clear k0 k1 l0 l1 row lg lg' lR ng ng' nR lw z0 z1 f0 f1 lA syr
  generalize ((yr.now.setCell ⟨A, 6, none⟩ (.int .i64 a3)).setCell ⟨A, 7, none⟩ (.int .i64 b3)) = W9 at *
  clear yr
  obtain ⟨-, -, -, -, row, e2, e3, -, -, lR, -, -, nR, lw, bel⟩ := hb
  have v0 : W9.cell? ⟨A, 0, none⟩ = some (.int .i64 a0) := (cell_of_row W9 A 0 _ _ _ row).trans rfl
  have v1 : W9.cell? ⟨A, 1, none⟩ = some (.int .i64 b0) := (cell_of_row W9 A 1 _ _ _ row).trans rfl
  have v2 : W9.cell? ⟨A, 2, none⟩ = some (.int .i64 a1) := (cell_of_row W9 A 2 _ _ _ row).trans rfl
  have v3 : W9.cell? ⟨A, 3, none⟩ = some (.int .i64 b1) := (cell_of_row W9 A 3 _ _ _ row).trans rfl
  have v4 : W9.cell? ⟨A, 4, none⟩ = some (.int .i64 a2) := (cell_of_row W9 A 4 _ _ _ row).trans rfl
  have v5 : W9.cell? ⟨A, 5, none⟩ = some (.int .i64 b2) := (cell_of_row W9 A 5 _ _ _ row).trans rfl
  have v6 : W9.cell? ⟨A, 6, none⟩ = some (.int .i64 a3) := (cell_of_row W9 A 6 _ _ _ row).trans rfl
  have v7 : W9.cell? ⟨A, 7, none⟩ = some (.int .i64 b3) := (cell_of_row W9 A 7 _ _ _ row).trans rfl
  have u0 := e2 0 (by omega)
  have w0 := e3 0
  have u1 := e2 1 (by omega)
  have w1 := e3 1
  have u2 := e2 2 (by omega)
  have w2 := e3 2
  have u3 := e2 3 (by omega)
  have w3 := e3 3
  have u4 := e2 4 (by omega)
  have w4 := e3 4
  have u5 := e2 5 (by omega)
  have w5 := e3 5
  have u6 := e2 6 (by omega)
  have w6 := e3 6
  have u7 := e2 7 (by omega)
  have w7 := e3 7
  have lA := row_ltQ row
  clear e2 e3 row
  rw [rounds_succ]
  go_wp2_with (first | ((first | with_reducible refine wrx2 ?_ | with_reducible refine wrx ?_); (repeat (first | go_big_quiet_step ((first | fail)) | quiet_step ((first | fail)))); refine wpQuiet_nil ?_; rintro _ ⟨yr, rfl⟩; have syr := Ext.size yr; (repeat (first | rw [World.size_alloc] at syr | rw [World.size_setCell] at syr | rw [World.size_drew] at syr))))
  refine bodyPost_ret (v := .agg #[.int .i64 a0, .int .i64 b0, .int .i64 a1, .int .i64 b1, .int .i64 a2, .int .i64 b2, .int .i64 a3, .int .i64 b3]) (by simp (maxDischargeDepth := 9) [results, Try.results96, go_sem, u0, u1, u2, u3, u4, u5, u6, u7]) rfl ?_
  refine ⟨rfl, ?_⟩
  have hR : w.heap.size ≤ w.heap.size + 1 + 1 := by omega
  exact (((((((bel.setCell hR _).setCell hR _).setCell hR _).setCell hR _).setCell hR _).setCell hR _).setCell hR _).setCell hR _
end Go.Proofs.Ytlhihmfefipehaa

/- LessRock: a rock with a fall inside another one, made of numbers. Written by gen_less.py. Condition: the ring in memory. -/
import Derived.Test.YtlmhbggigbmeaaaDoorBlX1
import Derived.Test.YtlmhbggigbmeaaaDoorPairG
import Derived.Test.YtlmhbggigbmeaaaDoorBlAlG
namespace Go.Proofs.YtlmhbggigbmeaaaDoor
open Go.RowKit Go.Shelf
attribute [local go_sem] Option.isSome_some Ext.cell Ext.frozen Ext.lt Ext.le Ext.lt_add Ext.le_add Ext.ne Ext.ne' lt2 lt3 lt4 lt5 le2 le3 le4
attribute [local go_sem] RExt.cell RExt.frozen RExt.lt RExt.le RExt.lt_add RExt.le_add RExt.ne RExt.ne'
theorem KeptX.set {b lo hi g : Nat} {X W : World} (h : KeptX b lo hi X W) (h1 : lo ≤ g) (h2 : g < hi) (o : Nat) (v : Value) : KeptX b lo hi X (W.setCell ⟨g, o, none⟩ v) := by
  have k : Below 0 W (W.setCell ⟨g, o, none⟩ v) := (Below.refl 0 W).setCell (Nat.zero_le _) v
  exact ⟨k.os.trans h.os, k.tape.trans h.tape, k.output.trans h.output, Nat.le_trans h.size k.size, fun B hB hb hn => (heap_setCell_ne (show B ≠ g by omega) v).trans (h.block B hB hb hn)⟩
/-- A span inside another one. -/
structure InV (v u : V2) : Prop where
  lo : u.x ≤ v.x
  le : v.x ≤ v.y
  hi : v.y ≤ u.y
theorem InV.refl {u : V2} (h : u.x ≤ u.y) : InV u u := ⟨Int.le_refl _, h, Int.le_refl _⟩
def SmallPost (lo hi : Int) (b m : Nat) (w : World) : Ending → World → Prop := fun e w' => ∃ (y : RExt w b) (v : V2), e = .returned (.agg #[.int .i64 v.x, .int .i64 v.y]) ∧ InV v ⟨lo, hi⟩ ∧ w' = y.now ∧ RingM y.now b (m + 4)
theorem SmallPost.intro {lo hi : Int} {b m : Nat} {w W : World} {e : Ending} (v : V2) (he : e = .returned (.agg #[.int .i64 v.x, .int .i64 v.y])) (hv : InV v ⟨lo, hi⟩) (hB : BelowX b w.heap.size w W) (hr : RingM W b (m + 4)) : SmallPost lo hi b m w e W := ⟨⟨W, hB⟩, v, he, hv, rfl, hr⟩
def sm1Deps : List (List Nat) := [[], [], [0, 1], [], [], [3, 4], [2], [5]]
def sm1Inv (b m : Nat) (ql qh : Int) (a0 : Act) (X : World) (l : List Bool) (fr : Act) (W : World) : Prop :=
  ∃ s5 s6 s7 s8 s9 s10 s11 s12 : Value, fr = sets a0 [(5, s5), (6, s6), (7, s7), (8, s8), (9, s9), (10, s10), (11, s11), (12, s12)] ∧ BelowX b X.heap.size X W ∧
    (RingM W b (m + (2 * (l.getD 2 false).toNat + 2 * (l.getD 5 false).toNat))) ∧
    (l.getD 0 false = true → s7 = .pointer (some ⟨b, 0, none⟩)) ∧
    (l.getD 1 false = true → s8 = .agg #[.int .i64 ql, .int .i64 qh]) ∧
    (l.getD 2 false = true → ∃ v : Int, s9 = .int .i64 v ∧ ql ≤ v ∧ v ≤ qh) ∧
    (l.getD 3 false = true → s10 = .pointer (some ⟨b, 0, none⟩)) ∧
    (l.getD 4 false = true → s11 = .agg #[.int .i64 ql, .int .i64 qh]) ∧
    (l.getD 5 false = true → ∃ v : Int, s12 = .int .i64 v ∧ ql ≤ v ∧ v ≤ qh) ∧
    (l.getD 6 false = true → ∃ v : Int, s5 = .int .i64 v ∧ ql ≤ v ∧ v ≤ qh) ∧
    (l.getD 7 false = true → ∃ v : Int, s6 = .int .i64 v ∧ ql ≤ v ∧ v ≤ qh)
def sm1Told (b m : Nat) (ql qh : Int) : Act → World → Act → World → Prop := fun a9 X a' W => ∃ (v1 v2 : Int), a' = sets a9 [(5, .int .i64 v1), (6, .int .i64 v2), (7, a'.tmps.getD 7 undef), (8, a'.tmps.getD 8 undef), (9, a'.tmps.getD 9 undef), (10, a'.tmps.getD 10 undef), (11, a'.tmps.getD 11 undef), (12, a'.tmps.getD 12 undef)] ∧ BelowX b X.heap.size X W ∧ RingM W b (m + 4) ∧ (ql ≤ v1 ∧ v1 ≤ qh) ∧ (ql ≤ v2 ∧ v2 ≤ qh)
set_option maxRecDepth 100000 in
set_option maxHeartbeats 8000000 in
theorem smaller_y (ql qh : Int) (b m : Nat) (w : World) (hm : m < 100000) (hlo : ql ≤ qh) (h0 : 0 ≤ ql) (h1 : qh ≤ 1000000000000000) (h : RingM w b m) :
    Calls Tryd.prog 68 #[.pointer (some ⟨b, 0, none⟩), .agg #[.int .i64 ql, .int .i64 qh]] w (SmallPost ql qh b m w) := by
  have hl := h.lt
  go_enter Tryd.func68, Tryd.ntmps68
  go_upto_region 1 with (first | ((first | with_reducible refine wrx2 ?_ | with_reducible refine wrx ?_); (repeat (first | go_big_quiet_step ((first | fail)) | quiet_step ((first | fail)))); refine wpQuiet_nil ?_; rintro _ ⟨yr, rfl⟩; have syr := Ext.size yr; (repeat (first | rw [World.size_alloc] at syr | rw [World.size_setCell] at syr | rw [World.size_drew] at syr))))
  refine wp_named (fun X hW => ?_)
  obtain ⟨rS, rR⟩ := alloc2_rows hW
  have hB0 : BelowX b w.heap.size w X := by rw [← hW]; repeat' (first | (with_reducible exact BelowX.refl _ _ _) | (with_reducible assumption) | (with_reducible refine RExt.belowX _ ?_ ?_) | (with_reducible refine Ext.belowX _ ?_ ?_) | (with_reducible refine BelowX.alloc ?_ ?_ _) | (with_reducible refine BelowX.drew ?_) | (with_reducible refine BelowX.setCell ?_ ?_ _) | (with_reducible exact Nat.le_refl _) | omega | (simp; done) | (simp [go_sem]; done) | (simp at *; omega))
  have hRr : RingM X b m := by rw [← hW]; exact (h.alloc _).alloc _
  have sX : X.heap.size = w.heap.size + 1 + 1 := by rw [← hW]; simp
  have c0 : X.cell? ⟨w.heap.size, 0, none⟩ = some (.int .i64 ql) := (cell_of_row X _ 0 _ _ _ rS).trans rfl
  have c1 : X.cell? ⟨w.heap.size, 1, none⟩ = some (.int .i64 qh) := (cell_of_row X _ 1 _ _ _ rS).trans rfl
  have lS := row_lt rS
  have nS : w.heap.size ≠ b := by omega
  clear hW
  refine wp_tell (sm1Told b m ql qh) ?_ ?_
  focus
    have hbX := hRr.lt
    clear hB0 rS rR h sX hl
    repeat (rename_i zz; clear zz)
    generalize w.heap.size = SB at *
    refine region_dep (by kernel_rfl) sm1Deps (by kernel_rfl) (sm1Inv b m ql qh) ?h0 ?hstep ?hend
    case h0 =>
      refine ⟨?z5, ?z6, ?z7, ?z8, ?z9, ?z10, ?z11, ?z12, ?fr, (BelowX.refl _ _ _).drew, (by simpa using hRr.drew), by simp, by simp, by simp, by simp, by simp, by simp, by simp, by simp⟩
      case fr =>
        simp only [sets, List.foldl_cons, List.foldl_nil, List.set_cons_succ, List.set_cons_zero]
        rfl
    case hend =>
      intro l' fr W hl hall hInv
      unfold sm1Inv at hInv
      obtain ⟨s5, s6, s7, s8, s9, s10, s11, s12, hInv⟩ := hInv
      obtain ⟨hfr, hB, g0, f0, f1, f2, f3, f4, f5, f6, f7⟩ := hInv
      subst hfr
      obtain ⟨b0, b1, b2, b3, b4, b5, b6, b7, rfl⟩ := list8 hl
      simp only [List.getD_cons_zero, List.getD_cons_succ] at g0 f0 f1 f2 f3 f4 f5 f6 f7
      simp only [List.all_cons, id, Bool.and_eq_true] at hall
      obtain ⟨e0, e1, e2, e3, e4, e5, e6, e7, -⟩ := hall
      obtain ⟨v1, rfl, w1⟩ := f6 e6
      obtain ⟨v2, rfl, w2⟩ := f7 e7
      have hg : RingM W b (m + 4) := by simpa only [e2, e5, Bool.toNat_true] using g0
      exact ⟨rfl, v1, v2, by kernel_rfl, hB, hg, w1, w2⟩
    case hstep =>
      intro l' fr W ii hl hInv hr hi
      unfold sm1Inv at hInv
      obtain ⟨s5, s6, s7, s8, s9, s10, s11, s12, hInv⟩ := hInv
      obtain ⟨hfr, hB, g0, f0, f1, f2, f3, f4, f5, f6, f7⟩ := hInv
      subst hfr
      obtain ⟨b0, b1, b2, b3, b4, b5, b6, b7, rfl⟩ := list8 hl
      have sW := hB.size
      replace c0 := (hB.cell lS nS).trans c0
      replace c1 := (hB.cell lS nS).trans c1
      have hflags : b2.toNat ≤ 1 ∧ b5.toNat ≤ 1 := ⟨Bool.toNat_le _, Bool.toNat_le _⟩
      simp only [List.getD_cons_zero, List.getD_cons_succ] at g0 f0 f1 f2 f3 f4 f5 f6 f7
      replace hB := Go.Lib.hid hB
      replace hi := Go.Lib.hid hi
      replace g0 := Go.Lib.hid g0
      replace f0 := Go.Lib.hid f0
      replace f1 := Go.Lib.hid f1
      replace f2 := Go.Lib.hid f2
      replace f3 := Go.Lib.hid f3
      replace f4 := Go.Lib.hid f4
      replace f5 := Go.Lib.hid f5
      replace f6 := Go.Lib.hid f6
      replace f7 := Go.Lib.hid f7
      rcases ii with _ | _ | _ | _ | _ | _ | _ | _ | ii
      · refine wpOp_step rfl (fun K hK => ?_)
        simp only [sets, List.foldl_cons, List.foldl_nil, List.set_cons_succ, List.set_cons_zero]
        go_simp
        exact hK _ _ ⟨s5, s6, (.pointer (some ⟨b, 0, none⟩)), s8, s9, s10, s11, s12, by kernel_rfl, hB.out, g0.out, fun _ => rfl, f1.out, f2.out, f3.out, f4.out, f5.out, f6.out, f7.out⟩
      · refine wpOp_step rfl (fun K hK => ?_)
        simp only [sets, List.foldl_cons, List.foldl_nil, List.set_cons_succ, List.set_cons_zero]
        go_simp
        exact hK _ _ ⟨s5, s6, s7, (.agg #[.int .i64 ql, .int .i64 qh]), s9, s10, s11, s12, by kernel_rfl, hB.out, g0.out, f0.out, fun _ => rfl, f2.out, f3.out, f4.out, f5.out, f6.out, f7.out⟩
      · simp only [sm1Deps, List.getD_cons_zero, List.getD_cons_succ, List.all_cons, List.all_nil, Bool.and_true, Bool.and_eq_true] at hr
        obtain ⟨hd0, hd1⟩ := hr
        obtain rfl := f0.out hd0
        obtain rfl := f1.out hd1
        have hi := hi.out
        simp only [List.getElem?_cons_zero, List.getElem?_cons_succ, Option.some.injEq] at hi
        subst hi
        refine wpOp_step rfl (fun K hK => ?_)
        simp only [sets, List.foldl_cons, List.foldl_nil, List.set_cons_succ, List.set_cons_zero]
        go_simp
        refine (inside_y ql qh b (m + (2 * false.toNat + 2 * b5.toNat)) W (by have := hflags; simp only [Bool.toNat_false] at *; omega) hlo h0 h1 g0.out).mono ?_
        rintro _ W6 ⟨z, v, rfl, hv, rfl, hr⟩
        exact hK _ _ ⟨s5, s6, (.pointer (some ⟨b, 0, none⟩)), (.agg #[.int .i64 ql, .int .i64 qh]), (.int .i64 v), s10, s11, s12, by kernel_rfl, hB.out.trans (z.grew.mono (by omega)), (hr.mono (by simp only [List.set_cons_succ, List.set_cons_zero, List.getD_cons_zero, List.getD_cons_succ, Bool.toNat_true, Bool.toNat_false]; omega)), f0.out, f1.out, (fun _ => ⟨v, rfl, hv⟩), f3.out, f4.out, (fun h => by obtain ⟨v, e, hv⟩ := f5.out h; exact ⟨v, e, hv⟩), (fun h => by obtain ⟨v, e, hv⟩ := f6.out h; exact ⟨v, e, hv⟩), (fun h => by obtain ⟨v, e, hv⟩ := f7.out h; exact ⟨v, e, hv⟩)⟩
      · refine wpOp_step rfl (fun K hK => ?_)
        simp only [sets, List.foldl_cons, List.foldl_nil, List.set_cons_succ, List.set_cons_zero]
        go_simp
        exact hK _ _ ⟨s5, s6, s7, s8, s9, (.pointer (some ⟨b, 0, none⟩)), s11, s12, by kernel_rfl, hB.out, g0.out, f0.out, f1.out, f2.out, fun _ => rfl, f4.out, f5.out, f6.out, f7.out⟩
      · refine wpOp_step rfl (fun K hK => ?_)
        simp only [sets, List.foldl_cons, List.foldl_nil, List.set_cons_succ, List.set_cons_zero]
        go_simp
        exact hK _ _ ⟨s5, s6, s7, s8, s9, s10, (.agg #[.int .i64 ql, .int .i64 qh]), s12, by kernel_rfl, hB.out, g0.out, f0.out, f1.out, f2.out, f3.out, fun _ => rfl, f5.out, f6.out, f7.out⟩
      · simp only [sm1Deps, List.getD_cons_zero, List.getD_cons_succ, List.all_cons, List.all_nil, Bool.and_true, Bool.and_eq_true] at hr
        obtain ⟨hd3, hd4⟩ := hr
        obtain rfl := f3.out hd3
        obtain rfl := f4.out hd4
        have hi := hi.out
        simp only [List.getElem?_cons_zero, List.getElem?_cons_succ, Option.some.injEq] at hi
        subst hi
        refine wpOp_step rfl (fun K hK => ?_)
        simp only [sets, List.foldl_cons, List.foldl_nil, List.set_cons_succ, List.set_cons_zero]
        go_simp
        refine (inside_y ql qh b (m + (2 * b2.toNat + 2 * false.toNat)) W (by have := hflags; simp only [Bool.toNat_false] at *; omega) hlo h0 h1 g0.out).mono ?_
        rintro _ W6 ⟨z, v, rfl, hv, rfl, hr⟩
        exact hK _ _ ⟨s5, s6, s7, s8, s9, (.pointer (some ⟨b, 0, none⟩)), (.agg #[.int .i64 ql, .int .i64 qh]), (.int .i64 v), by kernel_rfl, hB.out.trans (z.grew.mono (by omega)), (hr.mono (by simp only [List.set_cons_succ, List.set_cons_zero, List.getD_cons_zero, List.getD_cons_succ, Bool.toNat_true, Bool.toNat_false]; omega)), f0.out, f1.out, (fun h => by obtain ⟨v, e, hv⟩ := f2.out h; exact ⟨v, e, hv⟩), f3.out, f4.out, (fun _ => ⟨v, rfl, hv⟩), (fun h => by obtain ⟨v, e, hv⟩ := f6.out h; exact ⟨v, e, hv⟩), (fun h => by obtain ⟨v, e, hv⟩ := f7.out h; exact ⟨v, e, hv⟩)⟩
      · simp only [sm1Deps, List.getD_cons_zero, List.getD_cons_succ, List.all_cons, List.all_nil, Bool.and_true] at hr
        have hd2 := hr
        obtain ⟨v, rfl, hv⟩ := f2.out hd2
        refine wpOp_step rfl (fun K hK => ?_)
        simp only [sets, List.foldl_cons, List.foldl_nil, List.set_cons_succ, List.set_cons_zero]
        go_simp
        exact hK _ _ ⟨(.int .i64 v), s6, s7, s8, (.int .i64 v), s10, s11, s12, by kernel_rfl, hB.out, g0.out, f0.out, f1.out, (fun _ => ⟨v, rfl, hv⟩), f3.out, f4.out, f5.out, (fun _ => ⟨v, rfl, hv⟩), f7.out⟩
      · simp only [sm1Deps, List.getD_cons_zero, List.getD_cons_succ, List.all_cons, List.all_nil, Bool.and_true] at hr
        have hd5 := hr
        obtain ⟨v, rfl, hv⟩ := f5.out hd5
        refine wpOp_step rfl (fun K hK => ?_)
        simp only [sets, List.foldl_cons, List.foldl_nil, List.set_cons_succ, List.set_cons_zero]
        go_simp
        exact hK _ _ ⟨s5, (.int .i64 v), s7, s8, s9, s10, s11, (.int .i64 v), by kernel_rfl, hB.out, g0.out, f0.out, f1.out, f2.out, f3.out, f4.out, (fun _ => ⟨v, rfl, hv⟩), f6.out, (fun _ => ⟨v, rfl, hv⟩)⟩
      · have hi := hi.out; simp at hi
  rintro a4 W4 ⟨v1, v2, ha4, hB4, hR4, hv1, hv2⟩
  generalize a4.tmps.getD 7 undef = s7 at ha4
  generalize a4.tmps.getD 8 undef = s8 at ha4
  generalize a4.tmps.getD 9 undef = s9 at ha4
  generalize a4.tmps.getD 10 undef = s10 at ha4
  generalize a4.tmps.getD 11 undef = s11 at ha4
  generalize a4.tmps.getD 12 undef = s12 at ha4
  subst ha4
  simp only [sets, List.foldl_cons, List.foldl_nil, List.set_cons_succ, List.set_cons_zero]
  replace rR := (hB4.block (w.heap.size + 1) (row_lt rR) (by omega)).trans rR
  obtain ⟨M1, hM1⟩ : ∃ M, min v1 v2 = M := ⟨_, rfl⟩
  obtain ⟨M2, hM2⟩ : ∃ M, max v1 v2 = M := ⟨_, rfl⟩
  have u0 : W4.cell? ⟨w.heap.size + 1, 0, none⟩ = some (.int .i64 0) := (cell_of_row W4 _ 0 _ _ _ rR).trans rfl
  have u1 : W4.cell? ⟨w.heap.size + 1, 1, none⟩ = some (.int .i64 0) := (cell_of_row W4 _ 1 _ _ _ rR).trans rfl
  have q0 : W4.frozen? ⟨w.heap.size + 1, 0, none⟩ = false := frozen_row rR
  have q1 : W4.frozen? ⟨w.heap.size + 1, 1, none⟩ = false := frozen_row rR
  have lR := row_lt rR
  have hBB : BelowX b w.heap.size w W4 := hB0.trans (hB4.mono (by omega))
  clear sX
  go_wp2_with (first | ((first | with_reducible refine wrx2 ?_ | with_reducible refine wrx ?_); (repeat (first | go_big_quiet_step ((first | fail)) | quiet_step ((first | fail)))); refine wpQuiet_nil ?_; rintro _ ⟨yr, rfl⟩; have syr := Ext.size yr; (repeat (first | rw [World.size_alloc] at syr | rw [World.size_setCell] at syr | rw [World.size_drew] at syr)); have : w.heap.size + 1 < yr.now.heap.size := (by omega); have : w.heap.size + 1 ≤ yr.now.heap.size := (by omega); have : w.heap.size + 1 < yr.now.heap.size + 1 + 1 := (by omega)))
  refine bodyPost_ret (v := .agg #[.int .i64 M1, .int .i64 M2]) (by simp (maxDischargeDepth := 9) [results, Tryd.results68, go_sem, u0, u1]) rfl ?_
  refine SmallPost.intro ⟨M1, M2⟩ rfl ⟨by simp only; omega, by simp only; omega, by simp only; omega⟩ ?_ ((hR4.set _ (by omega)).set _ (by omega))
  exact (hBB.setCell (show w.heap.size ≤ w.heap.size + 1 by omega) _).setCell (show w.heap.size ≤ w.heap.size + 1 by omega) _
theorem list30 {α : Type} {l : List α} (h : l.length = 30) : ∃ b0 b1 b2 b3 b4 b5 b6 b7 b8 b9 b10 b11 b12 b13 b14 b15 b16 b17 b18 b19 b20 b21 b22 b23 b24 b25 b26 b27 b28 b29, l = [b0, b1, b2, b3, b4, b5, b6, b7, b8, b9, b10, b11, b12, b13, b14, b15, b16, b17, b18, b19, b20, b21, b22, b23, b24, b25, b26, b27, b28, b29] := by
  match l, h with
  | [b0, b1, b2, b3, b4, b5, b6, b7, b8, b9, b10, b11, b12, b13, b14, b15, b16, b17, b18, b19, b20, b21, b22, b23, b24, b25, b26, b27, b28, b29], _ => exact ⟨_, _, _, _, _, _, _, _, _, _, _, _, _, _, _, _, _, _, _, _, _, _, _, _, _, _, _, _, _, _, rfl⟩
def le1Deps : List (List Nat) := [[], [], [1], [0, 2], [], [], [5], [4, 6], [], [], [9], [8, 10], [], [], [13], [12, 14], [], [], [17], [16, 18], [], [20, 3, 2], [], [22, 7, 6], [], [24, 11, 10], [], [26, 15, 14], [], [28, 19, 18]]
def le1Inv (b m KB : Nat) (k : RockR) (a0 : Act) (X : World) (l : List Bool) (fr : Act) (W : World) : Prop :=
  ∃ s8 s9 s10 s11 s12 s13 s14 s15 s16 s17 s18 s19 s20 s21 s22 s23 s24 s25 s26 s27 s28 s29 s30 s31 s32 : Value, fr = sets a0 [(8, s8), (9, s9), (10, s10), (11, s11), (12, s12), (13, s13), (14, s14), (15, s15), (16, s16), (17, s17), (18, s18), (19, s19), (20, s20), (21, s21), (22, s22), (23, s23), (24, s24), (25, s25), (26, s26), (27, s27), (28, s28), (29, s29), (30, s30), (31, s31), (32, s32)] ∧ KeptX b KB (KB + 1) X W ∧
    (RingM W b (m + (4 * (l.getD 3 false).toNat + 4 * (l.getD 7 false).toNat + 4 * (l.getD 11 false).toNat + 4 * (l.getD 15 false).toNat + 4 * (l.getD 19 false).toNat))) ∧
    (∃ A0 A1 A2 A3 A4 : V2, W.heap[KB]? = some (.cells #[.int .i64 A0.x, .int .i64 A0.y, .int .i64 A1.x, .int .i64 A1.y, .int .i64 A2.x, .int .i64 A2.y, .int .i64 A3.x, .int .i64 A3.y, .int .i64 A4.x, .int .i64 A4.y, .bool k.pile] 31 (0, 0)) ∧ ((l.getD 21 false = false → A0 = k.size) ∧ InV A0 k.size) ∧ ((l.getD 23 false = false → A1 = k.dens) ∧ InV A1 k.dens) ∧ ((l.getD 25 false = false → A2 = k.strong) ∧ InV A2 k.strong) ∧ ((l.getD 27 false = false → A3 = k.spin) ∧ InV A3 k.spin) ∧ ((l.getD 29 false = false → A4 = k.shape) ∧ InV A4 k.shape)) ∧
    (l.getD 21 false = true → l.getD 2 false = true) ∧
    (l.getD 23 false = true → l.getD 6 false = true) ∧
    (l.getD 25 false = true → l.getD 10 false = true) ∧
    (l.getD 27 false = true → l.getD 14 false = true) ∧
    (l.getD 29 false = true → l.getD 18 false = true) ∧
    (l.getD 0 false = true → s8 = .pointer (some ⟨b, 0, none⟩)) ∧
    (l.getD 1 false = true → s9 = .pointer (some ⟨KB, 0, none⟩)) ∧
    (l.getD 2 false = true → s10 = .agg #[.int .i64 k.size.x, .int .i64 k.size.y]) ∧
    (l.getD 3 false = true → ∃ v : V2, s11 = .agg #[.int .i64 v.x, .int .i64 v.y] ∧ InV v k.size) ∧
    (l.getD 4 false = true → s12 = .pointer (some ⟨b, 0, none⟩)) ∧
    (l.getD 5 false = true → s13 = .pointer (some ⟨KB, 2, none⟩)) ∧
    (l.getD 6 false = true → s14 = .agg #[.int .i64 k.dens.x, .int .i64 k.dens.y]) ∧
    (l.getD 7 false = true → ∃ v : V2, s15 = .agg #[.int .i64 v.x, .int .i64 v.y] ∧ InV v k.dens) ∧
    (l.getD 8 false = true → s16 = .pointer (some ⟨b, 0, none⟩)) ∧
    (l.getD 9 false = true → s17 = .pointer (some ⟨KB, 4, none⟩)) ∧
    (l.getD 10 false = true → s18 = .agg #[.int .i64 k.strong.x, .int .i64 k.strong.y]) ∧
    (l.getD 11 false = true → ∃ v : V2, s19 = .agg #[.int .i64 v.x, .int .i64 v.y] ∧ InV v k.strong) ∧
    (l.getD 12 false = true → s20 = .pointer (some ⟨b, 0, none⟩)) ∧
    (l.getD 13 false = true → s21 = .pointer (some ⟨KB, 6, none⟩)) ∧
    (l.getD 14 false = true → s22 = .agg #[.int .i64 k.spin.x, .int .i64 k.spin.y]) ∧
    (l.getD 15 false = true → ∃ v : V2, s23 = .agg #[.int .i64 v.x, .int .i64 v.y] ∧ InV v k.spin) ∧
    (l.getD 16 false = true → s24 = .pointer (some ⟨b, 0, none⟩)) ∧
    (l.getD 17 false = true → s25 = .pointer (some ⟨KB, 8, none⟩)) ∧
    (l.getD 18 false = true → s26 = .agg #[.int .i64 k.shape.x, .int .i64 k.shape.y]) ∧
    (l.getD 19 false = true → ∃ v : V2, s27 = .agg #[.int .i64 v.x, .int .i64 v.y] ∧ InV v k.shape) ∧
    (l.getD 20 false = true → s28 = .pointer (some ⟨KB, 0, none⟩)) ∧
    (l.getD 22 false = true → s29 = .pointer (some ⟨KB, 2, none⟩)) ∧
    (l.getD 24 false = true → s30 = .pointer (some ⟨KB, 4, none⟩)) ∧
    (l.getD 26 false = true → s31 = .pointer (some ⟨KB, 6, none⟩)) ∧
    (l.getD 28 false = true → s32 = .pointer (some ⟨KB, 8, none⟩))
def le1Told (b m KB : Nat) (k : RockR) : Act → World → Act → World → Prop := fun a9 X a' W => ∃ (A0 : V2) (A1 : V2) (A2 : V2) (A3 : V2) (A4 : V2), a' = sets a9 [(8, a'.tmps.getD 8 undef), (9, a'.tmps.getD 9 undef), (10, a'.tmps.getD 10 undef), (11, a'.tmps.getD 11 undef), (12, a'.tmps.getD 12 undef), (13, a'.tmps.getD 13 undef), (14, a'.tmps.getD 14 undef), (15, a'.tmps.getD 15 undef), (16, a'.tmps.getD 16 undef), (17, a'.tmps.getD 17 undef), (18, a'.tmps.getD 18 undef), (19, a'.tmps.getD 19 undef), (20, a'.tmps.getD 20 undef), (21, a'.tmps.getD 21 undef), (22, a'.tmps.getD 22 undef), (23, a'.tmps.getD 23 undef), (24, a'.tmps.getD 24 undef), (25, a'.tmps.getD 25 undef), (26, a'.tmps.getD 26 undef), (27, a'.tmps.getD 27 undef), (28, a'.tmps.getD 28 undef), (29, a'.tmps.getD 29 undef), (30, a'.tmps.getD 30 undef), (31, a'.tmps.getD 31 undef), (32, a'.tmps.getD 32 undef)] ∧ KeptX b KB (KB + 1) X W ∧ RingM W b (m + 20) ∧ W.heap[KB]? = some (.cells #[.int .i64 A0.x, .int .i64 A0.y, .int .i64 A1.x, .int .i64 A1.y, .int .i64 A2.x, .int .i64 A2.y, .int .i64 A3.x, .int .i64 A3.y, .int .i64 A4.x, .int .i64 A4.y, .bool k.pile] 31 (0, 0)) ∧ InV A0 k.size ∧ InV A1 k.dens ∧ InV A2 k.strong ∧ InV A3 k.spin ∧ InV A4 k.shape
theorem list12 {α : Type} {l : List α} (h : l.length = 12) : ∃ b0 b1 b2 b3 b4 b5 b6 b7 b8 b9 b10 b11, l = [b0, b1, b2, b3, b4, b5, b6, b7, b8, b9, b10, b11] := by
  match l, h with
  | [b0, b1, b2, b3, b4, b5, b6, b7, b8, b9, b10, b11], _ => exact ⟨_, _, _, _, _, _, _, _, _, _, _, _, rfl⟩
def le2Deps : List (List Nat) := [[], [], [1], [0, 2], [], [], [5], [4, 6], [], [8, 3, 2], [], [10, 7, 6]]
def le2Inv (b m KB : Nat) (f : FallR) (a0 : Act) (X : World) (l : List Bool) (fr : Act) (W : World) : Prop :=
  ∃ s33 s34 s35 s36 s37 s38 s39 s40 s41 s42 : Value, fr = sets a0 [(33, s33), (34, s34), (35, s35), (36, s36), (37, s37), (38, s38), (39, s39), (40, s40), (41, s41), (42, s42)] ∧ KeptX b KB (KB + 1) X W ∧
    (RingM W b (m + (4 * (l.getD 3 false).toNat + 4 * (l.getD 7 false).toNat))) ∧
    (∃ A0 A1 : V2, W.heap[KB]? = some (.cells #[.int .i64 A0.x, .int .i64 A0.y, .int .i64 A1.x, .int .i64 A1.y] 33 (0, 0)) ∧ ((l.getD 9 false = false → A0 = f.speed) ∧ InV A0 f.speed) ∧ ((l.getD 11 false = false → A1 = f.slope) ∧ InV A1 f.slope)) ∧
    (l.getD 9 false = true → l.getD 2 false = true) ∧
    (l.getD 11 false = true → l.getD 6 false = true) ∧
    (l.getD 0 false = true → s33 = .pointer (some ⟨b, 0, none⟩)) ∧
    (l.getD 1 false = true → s34 = .pointer (some ⟨KB, 0, none⟩)) ∧
    (l.getD 2 false = true → s35 = .agg #[.int .i64 f.speed.x, .int .i64 f.speed.y]) ∧
    (l.getD 3 false = true → ∃ v : V2, s36 = .agg #[.int .i64 v.x, .int .i64 v.y] ∧ InV v f.speed) ∧
    (l.getD 4 false = true → s37 = .pointer (some ⟨b, 0, none⟩)) ∧
    (l.getD 5 false = true → s38 = .pointer (some ⟨KB, 2, none⟩)) ∧
    (l.getD 6 false = true → s39 = .agg #[.int .i64 f.slope.x, .int .i64 f.slope.y]) ∧
    (l.getD 7 false = true → ∃ v : V2, s40 = .agg #[.int .i64 v.x, .int .i64 v.y] ∧ InV v f.slope) ∧
    (l.getD 8 false = true → s41 = .pointer (some ⟨KB, 0, none⟩)) ∧
    (l.getD 10 false = true → s42 = .pointer (some ⟨KB, 2, none⟩))
def le2Told (b m KB : Nat) (f : FallR) : Act → World → Act → World → Prop := fun a9 X a' W => ∃ (A0 : V2) (A1 : V2), a' = sets a9 [(33, a'.tmps.getD 33 undef), (34, a'.tmps.getD 34 undef), (35, a'.tmps.getD 35 undef), (36, a'.tmps.getD 36 undef), (37, a'.tmps.getD 37 undef), (38, a'.tmps.getD 38 undef), (39, a'.tmps.getD 39 undef), (40, a'.tmps.getD 40 undef), (41, a'.tmps.getD 41 undef), (42, a'.tmps.getD 42 undef)] ∧ KeptX b KB (KB + 1) X W ∧ RingM W b (m + 8) ∧ W.heap[KB]? = some (.cells #[.int .i64 A0.x, .int .i64 A0.y, .int .i64 A1.x, .int .i64 A1.y] 33 (0, 0)) ∧ InV A0 f.speed ∧ InV A1 f.slope
/-- What stands: all blocks but two. -/
structure KeptR (R0 R1 : Nat) (X W : World) : Prop where
  os : W.os = X.os
  tape : W.tape = X.tape
  output : W.output = X.output
  size : W.heap.size = X.heap.size
  block : ∀ B, B < X.heap.size → B ≠ R0 → B ≠ R1 → W.heap[B]? = X.heap[B]?
theorem KeptR.refl (R0 R1 : Nat) (X : World) : KeptR R0 R1 X X := ⟨rfl, rfl, rfl, rfl, fun _ _ _ _ => rfl⟩
theorem KeptR.drew {R0 R1 : Nat} {X W : World} (h : KeptR R0 R1 X W) : KeptR R0 R1 X W.drew := ⟨h.os, h.tape, h.output, h.size, h.block⟩
theorem KeptR.row0 {R0 R1 : Nat} {X W : World} (h : KeptR R0 R1 X W) (cs : Array Value) : KeptR R0 R1 X (W.setRow R0 cs) := by
  have k : Below 0 W (W.setRow R0 cs) := below_setRow (Below.refl _ _) (Nat.zero_le _) cs
  exact ⟨k.os.trans h.os, k.tape.trans h.tape, k.output.trans h.output, (size_setRow' W R0 cs).trans h.size, fun B hB h0 h1 => (setRow_other W R0 B cs (by omega)).trans (h.block B hB h0 h1)⟩
theorem KeptR.row1 {R0 R1 : Nat} {X W : World} (h : KeptR R0 R1 X W) (cs : Array Value) : KeptR R0 R1 X (W.setRow R1 cs) := by
  have k : Below 0 W (W.setRow R1 cs) := below_setRow (Below.refl _ _) (Nat.zero_le _) cs
  exact ⟨k.os.trans h.os, k.tape.trans h.tape, k.output.trans h.output, (size_setRow' W R1 cs).trans h.size, fun B hB h0 h1 => (setRow_other W R1 B cs (by omega)).trans (h.block B hB h0 h1)⟩
theorem KeptR.below {R0 R1 n : Nat} {w X W : World} (h : KeptR R0 R1 X W) (k : Below n w X) (h0 : n ≤ R0) (h1 : n ≤ R1) (hn : n ≤ w.heap.size) : Below n w W :=
  ⟨h.os.trans k.os, h.tape.trans k.tape, h.output.trans k.output, Nat.le_trans k.size (Nat.le_of_eq h.size.symm), fun B hB => (h.block B (by have := k.size; omega) (by omega) (by omega)).trans (k.block B hB)⟩
theorem KeptR.belowX {R0 R1 b n : Nat} {w X W : World} (h : KeptR R0 R1 X W) (k : BelowX b n w X) (h0 : n ≤ R0) (h1 : n ≤ R1) (hn : n ≤ w.heap.size) : BelowX b n w W :=
  ⟨h.os.trans k.os, h.tape.trans k.tape, h.output.trans k.output, Nat.le_trans k.size (Nat.le_of_eq h.size.symm), fun B hB hb => (h.block B (by have := k.size; omega) (by omega) (by omega)).trans (k.block B hB hb)⟩
def le3Deps : List (List Nat) := [[], [], [0], [1]]
def le3Inv (b m R0 R1 : Nat) (k : RockR) (f : FallR) (a0 : Act) (X : World) (l : List Bool) (fr : Act) (W : World) : Prop :=
  ∃ s43 s44 : Value, fr = sets a0 [(43, s43), (44, s44)] ∧ KeptR R0 R1 X W ∧
    (b < R0 ∧ b < R1 → RingM X b m → RingM W b m) ∧
    ((l.getD 2 false = false → W.heap[R0]? = some (.cells #[.int .i64 0, .int .i64 0, .int .i64 0, .int .i64 0, .int .i64 0, .int .i64 0, .int .i64 0, .int .i64 0, .int .i64 0, .int .i64 0, .bool false] 31 (0, 0)))) ∧
    ((l.getD 2 false = true → W.heap[R0]? = some (.cells #[.int .i64 k.size.x, .int .i64 k.size.y, .int .i64 k.dens.x, .int .i64 k.dens.y, .int .i64 k.strong.x, .int .i64 k.strong.y, .int .i64 k.spin.x, .int .i64 k.spin.y, .int .i64 k.shape.x, .int .i64 k.shape.y, .bool k.pile] 31 (0, 0)))) ∧
    ((l.getD 3 false = false → W.heap[R1]? = some (.cells #[.int .i64 0, .int .i64 0, .int .i64 0, .int .i64 0] 33 (0, 0)))) ∧
    ((l.getD 3 false = true → W.heap[R1]? = some (.cells #[.int .i64 f.speed.x, .int .i64 f.speed.y, .int .i64 f.slope.x, .int .i64 f.slope.y] 33 (0, 0)))) ∧
    (l.getD 0 false = true → s43 = .agg #[.int .i64 k.size.x, .int .i64 k.size.y, .int .i64 k.dens.x, .int .i64 k.dens.y, .int .i64 k.strong.x, .int .i64 k.strong.y, .int .i64 k.spin.x, .int .i64 k.spin.y, .int .i64 k.shape.x, .int .i64 k.shape.y, .bool k.pile]) ∧
    (l.getD 1 false = true → s44 = .agg #[.int .i64 f.speed.x, .int .i64 f.speed.y, .int .i64 f.slope.x, .int .i64 f.slope.y])
def le3Told (b m R0 R1 : Nat) (k : RockR) (f : FallR) : Act → World → Act → World → Prop := fun a X a' W => a' = sets a [(43, a'.tmps.getD 43 undef), (44, a'.tmps.getD 44 undef)] ∧ KeptR R0 R1 X W ∧ (b < R0 ∧ b < R1 → RingM X b m → RingM W b m) ∧ W.heap[R0]? = some (.cells #[.int .i64 k.size.x, .int .i64 k.size.y, .int .i64 k.dens.x, .int .i64 k.dens.y, .int .i64 k.strong.x, .int .i64 k.strong.y, .int .i64 k.spin.x, .int .i64 k.spin.y, .int .i64 k.shape.x, .int .i64 k.shape.y, .bool k.pile] 31 (0, 0)) ∧ W.heap[R1]? = some (.cells #[.int .i64 f.speed.x, .int .i64 f.speed.y, .int .i64 f.slope.x, .int .i64 f.slope.y] 33 (0, 0))
def LessPost (b m : Nat) (k : RockR) (f : FallR) (w : World) : Ending → World → Prop := fun e w' => ∃ (y : RExt w b) (k' : RockR) (f' : FallR), e = .returned (.tuple #[k'.val, f'.val]) ∧ RockIn k' f' k f ∧ RockOk k' f' ∧ w' = y.now ∧ RingM y.now b (m + 28)
set_option maxRecDepth 100000 in
set_option maxHeartbeats 16000000 in
theorem LessRock_y (b m : Nat) (k : RockR) (f : FallR) (w : World) (hm : m < 10000) (hok : RockOk k f) (h : RingM w b m) :
    Calls Tryd.prog 39 #[.pointer (some ⟨b, 0, none⟩), k.val, f.val] w (LessPost b m k f w) := by
  have hl := h.lt
  have o1 := hok.size
  have o2 := hok.dens
  have o3 := hok.strong
  have o4 := hok.spin
  have o5 := hok.shape
  have o6 := hok.speed
  have o7 := hok.slope
  unfold RockR.val FallR.val
  go_enter Tryd.func39, Tryd.ntmps39
  go_upto_region 1 with (first | ((first | with_reducible refine wrx2 ?_ | with_reducible refine wrx ?_); (repeat (first | go_big_quiet_step ((first | fail)) | quiet_step ((first | fail)))); refine wpQuiet_nil ?_; rintro _ ⟨yr, rfl⟩; have syr := Ext.size yr; (repeat (first | rw [World.size_alloc] at syr | rw [World.size_setCell] at syr | rw [World.size_drew] at syr))))
  refine wp_named (fun X hW => ?_)
  obtain ⟨r2, r3⟩ := alloc2_rows hW
  simp only [World.size_alloc] at r2 r3
  have hrow : X.heap[w.heap.size]? = some (.cells #[.int .i64 k.size.x, .int .i64 k.size.y, .int .i64 k.dens.x, .int .i64 k.dens.y, .int .i64 k.strong.x, .int .i64 k.strong.y, .int .i64 k.spin.x, .int .i64 k.spin.y, .int .i64 k.shape.x, .int .i64 k.shape.y, .bool k.pile] 31 (0, 0)) := by rw [← hW]; exact (heap_alloc_old _ _ (by simp only [World.size_alloc]; omega)).trans ((heap_alloc_old _ _ (by simp only [World.size_alloc]; omega)).trans ((heap_alloc_old _ _ (by simp only [World.size_alloc]; omega)).trans (heap_alloc_new _ _)))
  have rf : X.heap[w.heap.size + 1]? = some (.cells #[.int .i64 f.speed.x, .int .i64 f.speed.y, .int .i64 f.slope.x, .int .i64 f.slope.y] 33 (0, 0)) := by
    rw [← hW]
    refine (heap_alloc_old _ _ (by simp only [World.size_alloc]; omega)).trans ((heap_alloc_old _ _ (by simp only [World.size_alloc]; omega)).trans ?_)
    have h9 := heap_alloc_new (w.alloc (.cells #[.int .i64 k.size.x, .int .i64 k.size.y, .int .i64 k.dens.x, .int .i64 k.dens.y, .int .i64 k.strong.x, .int .i64 k.strong.y, .int .i64 k.spin.x, .int .i64 k.spin.y, .int .i64 k.shape.x, .int .i64 k.shape.y, .bool k.pile] 31)) (.cells #[.int .i64 f.speed.x, .int .i64 f.speed.y, .int .i64 f.slope.x, .int .i64 f.slope.y] 33)
    simpa only [World.size_alloc] using h9
  have hB0 : BelowX b w.heap.size w X := by rw [← hW]; repeat' (first | (with_reducible exact BelowX.refl _ _ _) | (with_reducible assumption) | (with_reducible refine RExt.belowX _ ?_ ?_) | (with_reducible refine Ext.belowX _ ?_ ?_) | (with_reducible refine BelowX.alloc ?_ ?_ _) | (with_reducible refine BelowX.drew ?_) | (with_reducible refine BelowX.setCell ?_ ?_ _) | (with_reducible exact Nat.le_refl _) | omega | (simp; done) | (simp [go_sem]; done) | (simp at *; omega))
  have hRr : RingM X b m := by rw [← hW]; exact (((h.alloc _).alloc _).alloc _).alloc _
  have sX : w.heap.size + 1 + 1 + 1 + 1 ≤ X.heap.size := by rw [← hW]; simp
  clear hW
  have hbK : w.heap.size ≠ b := by omega
  refine wp_tell (le1Told b m w.heap.size k) ?_ ?_
  focus
    clear hB0 r2 r3 rf h hok o6 o7
    repeat (rename_i zz; clear zz)
    generalize w.heap.size = KB at *
    refine region_dep (by kernel_rfl) le1Deps (by kernel_rfl) (le1Inv b m KB k) ?h0 ?hstep ?hend
    case h0 =>
      refine ⟨?z8, ?z9, ?z10, ?z11, ?z12, ?z13, ?z14, ?z15, ?z16, ?z17, ?z18, ?z19, ?z20, ?z21, ?z22, ?z23, ?z24, ?z25, ?z26, ?z27, ?z28, ?z29, ?z30, ?z31, ?z32, ?fr, KeptX.start, (by simpa using hRr.drew), ⟨_, _, _, _, _, hrow, ⟨fun _ => rfl, InV.refl (by omega)⟩, ⟨fun _ => rfl, InV.refl (by omega)⟩, ⟨fun _ => rfl, InV.refl (by omega)⟩, ⟨fun _ => rfl, InV.refl (by omega)⟩, ⟨fun _ => rfl, InV.refl (by omega)⟩⟩, by simp, by simp, by simp, by simp, by simp, by simp, by simp, by simp, by simp, by simp, by simp, by simp, by simp, by simp, by simp, by simp, by simp, by simp, by simp, by simp, by simp, by simp, by simp, by simp, by simp, by simp, by simp, by simp, by simp, by simp⟩
      case fr =>
        simp only [sets, List.foldl_cons, List.foldl_nil, List.set_cons_succ, List.set_cons_zero]
        rfl
    case hend =>
      intro l' fr W hl hall hInv
      unfold le1Inv at hInv
      obtain ⟨s8, s9, s10, s11, s12, s13, s14, s15, s16, s17, s18, s19, s20, s21, s22, s23, s24, s25, s26, s27, s28, s29, s30, s31, s32, hInv⟩ := hInv
      obtain ⟨hfr, hB, g0, g1, g2, g3, g4, g5, g6, f0, f1, f2, f3, f4, f5, f6, f7, f8, f9, f10, f11, f12, f13, f14, f15, f16, f17, f18, f19, f20, f22, f24, f26, f28⟩ := hInv
      subst hfr
      obtain ⟨b0, b1, b2, b3, b4, b5, b6, b7, b8, b9, b10, b11, b12, b13, b14, b15, b16, b17, b18, b19, b20, b21, b22, b23, b24, b25, b26, b27, b28, b29, rfl⟩ := list30 hl
      simp only [List.getD_cons_zero, List.getD_cons_succ] at g0 g1 g2 g3 g4 g5 g6 f0 f1 f2 f3 f4 f5 f6 f7 f8 f9 f10 f11 f12 f13 f14 f15 f16 f17 f18 f19 f20 f22 f24 f26 f28
      simp only [List.all_cons, id, Bool.and_eq_true] at hall
      obtain ⟨e0, e1, e2, e3, e4, e5, e6, e7, e8, e9, e10, e11, e12, e13, e14, e15, e16, e17, e18, e19, e20, e21, e22, e23, e24, e25, e26, e27, e28, e29, -⟩ := hall
      obtain ⟨A0, A1, A2, A3, A4, hrow, ⟨-, i0⟩, ⟨-, i1⟩, ⟨-, i2⟩, ⟨-, i3⟩, ⟨-, i4⟩⟩ := g1
      have hg : RingM W b (m + 20) := g0.mono (by simp only [e3, e7, e11, e15, e19, Bool.toNat_true]; omega)
      exact ⟨rfl, A0, A1, A2, A3, A4, by kernel_rfl, hB, hg, hrow, i0, i1, i2, i3, i4⟩
    case hstep =>
      intro l' fr W ii hl hInv hr hi
      unfold le1Inv at hInv
      obtain ⟨s8, s9, s10, s11, s12, s13, s14, s15, s16, s17, s18, s19, s20, s21, s22, s23, s24, s25, s26, s27, s28, s29, s30, s31, s32, hInv⟩ := hInv
      obtain ⟨hfr, hB, g0, g1, g2, g3, g4, g5, g6, f0, f1, f2, f3, f4, f5, f6, f7, f8, f9, f10, f11, f12, f13, f14, f15, f16, f17, f18, f19, f20, f22, f24, f26, f28⟩ := hInv
      subst hfr
      obtain ⟨b0, b1, b2, b3, b4, b5, b6, b7, b8, b9, b10, b11, b12, b13, b14, b15, b16, b17, b18, b19, b20, b21, b22, b23, b24, b25, b26, b27, b28, b29, rfl⟩ := list30 hl
      have sW := hB.size
      have hflags : b3.toNat ≤ 1 ∧ b7.toNat ≤ 1 ∧ b11.toNat ≤ 1 ∧ b15.toNat ≤ 1 ∧ b19.toNat ≤ 1 := ⟨Bool.toNat_le _, Bool.toNat_le _, Bool.toNat_le _, Bool.toNat_le _, Bool.toNat_le _⟩
      simp only [List.getD_cons_zero, List.getD_cons_succ] at g0 g1 g2 g3 g4 g5 g6 f0 f1 f2 f3 f4 f5 f6 f7 f8 f9 f10 f11 f12 f13 f14 f15 f16 f17 f18 f19 f20 f22 f24 f26 f28
      replace hB := Go.Lib.hid hB
      replace hi := Go.Lib.hid hi
      replace g0 := Go.Lib.hid g0
      replace g1 := Go.Lib.hid g1
      replace g2 := Go.Lib.hid g2
      replace g3 := Go.Lib.hid g3
      replace g4 := Go.Lib.hid g4
      replace g5 := Go.Lib.hid g5
      replace g6 := Go.Lib.hid g6
      replace f0 := Go.Lib.hid f0
      replace f1 := Go.Lib.hid f1
      replace f2 := Go.Lib.hid f2
      replace f3 := Go.Lib.hid f3
      replace f4 := Go.Lib.hid f4
      replace f5 := Go.Lib.hid f5
      replace f6 := Go.Lib.hid f6
      replace f7 := Go.Lib.hid f7
      replace f8 := Go.Lib.hid f8
      replace f9 := Go.Lib.hid f9
      replace f10 := Go.Lib.hid f10
      replace f11 := Go.Lib.hid f11
      replace f12 := Go.Lib.hid f12
      replace f13 := Go.Lib.hid f13
      replace f14 := Go.Lib.hid f14
      replace f15 := Go.Lib.hid f15
      replace f16 := Go.Lib.hid f16
      replace f17 := Go.Lib.hid f17
      replace f18 := Go.Lib.hid f18
      replace f19 := Go.Lib.hid f19
      replace f20 := Go.Lib.hid f20
      replace f22 := Go.Lib.hid f22
      replace f24 := Go.Lib.hid f24
      replace f26 := Go.Lib.hid f26
      replace f28 := Go.Lib.hid f28
      rcases ii with _ | _ | _ | _ | _ | _ | _ | _ | _ | _ | _ | _ | _ | _ | _ | _ | _ | _ | _ | _ | _ | _ | _ | _ | _ | _ | _ | _ | _ | _ | ii
      · refine wpOp_step rfl (fun K hK => ?_)
        simp only [sets, List.foldl_cons, List.foldl_nil, List.set_cons_succ, List.set_cons_zero]
        go_simp
        exact hK _ _ ⟨(.pointer (some ⟨b, 0, none⟩)), s9, s10, s11, s12, s13, s14, s15, s16, s17, s18, s19, s20, s21, s22, s23, s24, s25, s26, s27, s28, s29, s30, s31, s32, by kernel_rfl, hB.out, g0.out, g1.out, g2.out, g3.out, g4.out, g5.out, g6.out, fun _ => rfl, f1.out, f2.out, f3.out, f4.out, f5.out, f6.out, f7.out, f8.out, f9.out, f10.out, f11.out, f12.out, f13.out, f14.out, f15.out, f16.out, f17.out, f18.out, f19.out, f20.out, f22.out, f24.out, f26.out, f28.out⟩
      · refine wpOp_step rfl (fun K hK => ?_)
        simp only [sets, List.foldl_cons, List.foldl_nil, List.set_cons_succ, List.set_cons_zero]
        go_simp
        exact hK _ _ ⟨s8, (.pointer (some ⟨KB, 0, none⟩)), s10, s11, s12, s13, s14, s15, s16, s17, s18, s19, s20, s21, s22, s23, s24, s25, s26, s27, s28, s29, s30, s31, s32, by kernel_rfl, hB.out, g0.out, g1.out, g2.out, g3.out, g4.out, g5.out, g6.out, f0.out, fun _ => rfl, f2.out, f3.out, f4.out, f5.out, f6.out, f7.out, f8.out, f9.out, f10.out, f11.out, f12.out, f13.out, f14.out, f15.out, f16.out, f17.out, f18.out, f19.out, f20.out, f22.out, f24.out, f26.out, f28.out⟩
      · simp only [le1Deps, List.getD_cons_zero, List.getD_cons_succ, List.all_cons, List.all_nil, Bool.and_true] at hr
        have hd1 := hr
        obtain rfl := f1.out hd1
        have hi := hi.out
        simp only [List.getElem?_cons_zero, List.getElem?_cons_succ, Option.some.injEq] at hi
        subst hi
        obtain ⟨A0, A1, A2, A3, A4, hrow, ⟨u0, i0⟩, ⟨u1, i1⟩, ⟨u2, i2⟩, ⟨u3, i3⟩, ⟨u4, i4⟩⟩ := g1.out
        have hs : b21 = false := Bool.eq_false_iff.2 (fun hb => absurd (g2.out hb) (by decide))
        obtain rfl := u0 hs
        have c0 : W.cell? ⟨KB, 0, none⟩ = some (.int .i64 k.size.x) := (cell_of_row W _ 0 _ _ _ hrow).trans rfl
        have c1 : W.cell? ⟨KB, 1, none⟩ = some (.int .i64 k.size.y) := (cell_of_row W _ 1 _ _ _ hrow).trans rfl
        refine wpOp_step rfl (fun K hK => ?_)
        simp only [sets, List.foldl_cons, List.foldl_nil, List.set_cons_succ, List.set_cons_zero]
        go_simp
        exact hK _ _ ⟨s8, (.pointer (some ⟨KB, 0, none⟩)), (.agg #[.int .i64 k.size.x, .int .i64 k.size.y]), s11, s12, s13, s14, s15, s16, s17, s18, s19, s20, s21, s22, s23, s24, s25, s26, s27, s28, s29, s30, s31, s32, by kernel_rfl, hB.out, g0.out, g1.out, (fun _ => rfl), g3.out, g4.out, g5.out, g6.out, f0.out, f1.out, fun _ => rfl, f3.out, f4.out, f5.out, f6.out, f7.out, f8.out, f9.out, f10.out, f11.out, f12.out, f13.out, f14.out, f15.out, f16.out, f17.out, f18.out, f19.out, f20.out, f22.out, f24.out, f26.out, f28.out⟩
      · simp only [le1Deps, List.getD_cons_zero, List.getD_cons_succ, List.all_cons, List.all_nil, Bool.and_true, Bool.and_eq_true] at hr
        obtain ⟨hd0, hd2⟩ := hr
        obtain rfl := f0.out hd0
        obtain rfl := f2.out hd2
        have hi := hi.out
        simp only [List.getElem?_cons_zero, List.getElem?_cons_succ, Option.some.injEq] at hi
        subst hi
        obtain ⟨A0, A1, A2, A3, A4, hrow, ⟨u0, i0⟩, ⟨u1, i1⟩, ⟨u2, i2⟩, ⟨u3, i3⟩, ⟨u4, i4⟩⟩ := g1.out
        refine wpOp_step rfl (fun K hK => ?_)
        simp only [sets, List.foldl_cons, List.foldl_nil, List.set_cons_succ, List.set_cons_zero]
        go_simp
        refine (smaller_y k.size.x k.size.y b (m + (4 * false.toNat + 4 * b7.toNat + 4 * b11.toNat + 4 * b15.toNat + 4 * b19.toNat)) W (by have := hflags; simp only [Bool.toNat_false] at *; omega) (by omega) (by omega) (by omega) g0.out).mono ?_
        rintro _ W6 ⟨z, v, rfl, hv, rfl, hr⟩
        exact hK _ _ ⟨(.pointer (some ⟨b, 0, none⟩)), s9, (.agg #[.int .i64 k.size.x, .int .i64 k.size.y]), (.agg #[.int .i64 v.x, .int .i64 v.y]), s12, s13, s14, s15, s16, s17, s18, s19, s20, s21, s22, s23, s24, s25, s26, s27, s28, s29, s30, s31, s32, by kernel_rfl, hB.out.rext z, (hr.mono (by simp only [List.set_cons_succ, List.set_cons_zero, List.getD_cons_zero, List.getD_cons_succ, Bool.toNat_true, Bool.toNat_false]; omega)), (⟨A0, A1, A2, A3, A4, z.row hrow (row_lt hrow) hbK, ⟨u0, i0⟩, ⟨u1, i1⟩, ⟨u2, i2⟩, ⟨u3, i3⟩, ⟨u4, i4⟩⟩), g2.out, g3.out, g4.out, g5.out, g6.out, f0.out, f1.out, f2.out, (fun _ => ⟨v, rfl, hv⟩), f4.out, f5.out, f6.out, f7.out, f8.out, f9.out, f10.out, f11.out, f12.out, f13.out, f14.out, f15.out, f16.out, f17.out, f18.out, f19.out, f20.out, f22.out, f24.out, f26.out, f28.out⟩
      · refine wpOp_step rfl (fun K hK => ?_)
        simp only [sets, List.foldl_cons, List.foldl_nil, List.set_cons_succ, List.set_cons_zero]
        go_simp
        exact hK _ _ ⟨s8, s9, s10, s11, (.pointer (some ⟨b, 0, none⟩)), s13, s14, s15, s16, s17, s18, s19, s20, s21, s22, s23, s24, s25, s26, s27, s28, s29, s30, s31, s32, by kernel_rfl, hB.out, g0.out, g1.out, g2.out, g3.out, g4.out, g5.out, g6.out, f0.out, f1.out, f2.out, f3.out, fun _ => rfl, f5.out, f6.out, f7.out, f8.out, f9.out, f10.out, f11.out, f12.out, f13.out, f14.out, f15.out, f16.out, f17.out, f18.out, f19.out, f20.out, f22.out, f24.out, f26.out, f28.out⟩
      · refine wpOp_step rfl (fun K hK => ?_)
        simp only [sets, List.foldl_cons, List.foldl_nil, List.set_cons_succ, List.set_cons_zero]
        go_simp
        exact hK _ _ ⟨s8, s9, s10, s11, s12, (.pointer (some ⟨KB, 2, none⟩)), s14, s15, s16, s17, s18, s19, s20, s21, s22, s23, s24, s25, s26, s27, s28, s29, s30, s31, s32, by kernel_rfl, hB.out, g0.out, g1.out, g2.out, g3.out, g4.out, g5.out, g6.out, f0.out, f1.out, f2.out, f3.out, f4.out, fun _ => rfl, f6.out, f7.out, f8.out, f9.out, f10.out, f11.out, f12.out, f13.out, f14.out, f15.out, f16.out, f17.out, f18.out, f19.out, f20.out, f22.out, f24.out, f26.out, f28.out⟩
      · simp only [le1Deps, List.getD_cons_zero, List.getD_cons_succ, List.all_cons, List.all_nil, Bool.and_true] at hr
        have hd5 := hr
        obtain rfl := f5.out hd5
        have hi := hi.out
        simp only [List.getElem?_cons_zero, List.getElem?_cons_succ, Option.some.injEq] at hi
        subst hi
        obtain ⟨A0, A1, A2, A3, A4, hrow, ⟨u0, i0⟩, ⟨u1, i1⟩, ⟨u2, i2⟩, ⟨u3, i3⟩, ⟨u4, i4⟩⟩ := g1.out
        have hs : b23 = false := Bool.eq_false_iff.2 (fun hb => absurd (g3.out hb) (by decide))
        obtain rfl := u1 hs
        have c0 : W.cell? ⟨KB, 2, none⟩ = some (.int .i64 k.dens.x) := (cell_of_row W _ 2 _ _ _ hrow).trans rfl
        have c1 : W.cell? ⟨KB, 3, none⟩ = some (.int .i64 k.dens.y) := (cell_of_row W _ 3 _ _ _ hrow).trans rfl
        refine wpOp_step rfl (fun K hK => ?_)
        simp only [sets, List.foldl_cons, List.foldl_nil, List.set_cons_succ, List.set_cons_zero]
        go_simp
        exact hK _ _ ⟨s8, s9, s10, s11, s12, (.pointer (some ⟨KB, 2, none⟩)), (.agg #[.int .i64 k.dens.x, .int .i64 k.dens.y]), s15, s16, s17, s18, s19, s20, s21, s22, s23, s24, s25, s26, s27, s28, s29, s30, s31, s32, by kernel_rfl, hB.out, g0.out, g1.out, g2.out, (fun _ => rfl), g4.out, g5.out, g6.out, f0.out, f1.out, f2.out, f3.out, f4.out, f5.out, fun _ => rfl, f7.out, f8.out, f9.out, f10.out, f11.out, f12.out, f13.out, f14.out, f15.out, f16.out, f17.out, f18.out, f19.out, f20.out, f22.out, f24.out, f26.out, f28.out⟩
      · simp only [le1Deps, List.getD_cons_zero, List.getD_cons_succ, List.all_cons, List.all_nil, Bool.and_true, Bool.and_eq_true] at hr
        obtain ⟨hd4, hd6⟩ := hr
        obtain rfl := f4.out hd4
        obtain rfl := f6.out hd6
        have hi := hi.out
        simp only [List.getElem?_cons_zero, List.getElem?_cons_succ, Option.some.injEq] at hi
        subst hi
        obtain ⟨A0, A1, A2, A3, A4, hrow, ⟨u0, i0⟩, ⟨u1, i1⟩, ⟨u2, i2⟩, ⟨u3, i3⟩, ⟨u4, i4⟩⟩ := g1.out
        refine wpOp_step rfl (fun K hK => ?_)
        simp only [sets, List.foldl_cons, List.foldl_nil, List.set_cons_succ, List.set_cons_zero]
        go_simp
        refine (smaller_y k.dens.x k.dens.y b (m + (4 * b3.toNat + 4 * false.toNat + 4 * b11.toNat + 4 * b15.toNat + 4 * b19.toNat)) W (by have := hflags; simp only [Bool.toNat_false] at *; omega) (by omega) (by omega) (by omega) g0.out).mono ?_
        rintro _ W6 ⟨z, v, rfl, hv, rfl, hr⟩
        exact hK _ _ ⟨s8, s9, s10, s11, (.pointer (some ⟨b, 0, none⟩)), s13, (.agg #[.int .i64 k.dens.x, .int .i64 k.dens.y]), (.agg #[.int .i64 v.x, .int .i64 v.y]), s16, s17, s18, s19, s20, s21, s22, s23, s24, s25, s26, s27, s28, s29, s30, s31, s32, by kernel_rfl, hB.out.rext z, (hr.mono (by simp only [List.set_cons_succ, List.set_cons_zero, List.getD_cons_zero, List.getD_cons_succ, Bool.toNat_true, Bool.toNat_false]; omega)), (⟨A0, A1, A2, A3, A4, z.row hrow (row_lt hrow) hbK, ⟨u0, i0⟩, ⟨u1, i1⟩, ⟨u2, i2⟩, ⟨u3, i3⟩, ⟨u4, i4⟩⟩), g2.out, g3.out, g4.out, g5.out, g6.out, f0.out, f1.out, f2.out, f3.out, f4.out, f5.out, f6.out, (fun _ => ⟨v, rfl, hv⟩), f8.out, f9.out, f10.out, f11.out, f12.out, f13.out, f14.out, f15.out, f16.out, f17.out, f18.out, f19.out, f20.out, f22.out, f24.out, f26.out, f28.out⟩
      · refine wpOp_step rfl (fun K hK => ?_)
        simp only [sets, List.foldl_cons, List.foldl_nil, List.set_cons_succ, List.set_cons_zero]
        go_simp
        exact hK _ _ ⟨s8, s9, s10, s11, s12, s13, s14, s15, (.pointer (some ⟨b, 0, none⟩)), s17, s18, s19, s20, s21, s22, s23, s24, s25, s26, s27, s28, s29, s30, s31, s32, by kernel_rfl, hB.out, g0.out, g1.out, g2.out, g3.out, g4.out, g5.out, g6.out, f0.out, f1.out, f2.out, f3.out, f4.out, f5.out, f6.out, f7.out, fun _ => rfl, f9.out, f10.out, f11.out, f12.out, f13.out, f14.out, f15.out, f16.out, f17.out, f18.out, f19.out, f20.out, f22.out, f24.out, f26.out, f28.out⟩
      · refine wpOp_step rfl (fun K hK => ?_)
        simp only [sets, List.foldl_cons, List.foldl_nil, List.set_cons_succ, List.set_cons_zero]
        go_simp
        exact hK _ _ ⟨s8, s9, s10, s11, s12, s13, s14, s15, s16, (.pointer (some ⟨KB, 4, none⟩)), s18, s19, s20, s21, s22, s23, s24, s25, s26, s27, s28, s29, s30, s31, s32, by kernel_rfl, hB.out, g0.out, g1.out, g2.out, g3.out, g4.out, g5.out, g6.out, f0.out, f1.out, f2.out, f3.out, f4.out, f5.out, f6.out, f7.out, f8.out, fun _ => rfl, f10.out, f11.out, f12.out, f13.out, f14.out, f15.out, f16.out, f17.out, f18.out, f19.out, f20.out, f22.out, f24.out, f26.out, f28.out⟩
      · simp only [le1Deps, List.getD_cons_zero, List.getD_cons_succ, List.all_cons, List.all_nil, Bool.and_true] at hr
        have hd9 := hr
        obtain rfl := f9.out hd9
        have hi := hi.out
        simp only [List.getElem?_cons_zero, List.getElem?_cons_succ, Option.some.injEq] at hi
        subst hi
        obtain ⟨A0, A1, A2, A3, A4, hrow, ⟨u0, i0⟩, ⟨u1, i1⟩, ⟨u2, i2⟩, ⟨u3, i3⟩, ⟨u4, i4⟩⟩ := g1.out
        have hs : b25 = false := Bool.eq_false_iff.2 (fun hb => absurd (g4.out hb) (by decide))
        obtain rfl := u2 hs
        have c0 : W.cell? ⟨KB, 4, none⟩ = some (.int .i64 k.strong.x) := (cell_of_row W _ 4 _ _ _ hrow).trans rfl
        have c1 : W.cell? ⟨KB, 5, none⟩ = some (.int .i64 k.strong.y) := (cell_of_row W _ 5 _ _ _ hrow).trans rfl
        refine wpOp_step rfl (fun K hK => ?_)
        simp only [sets, List.foldl_cons, List.foldl_nil, List.set_cons_succ, List.set_cons_zero]
        go_simp
        exact hK _ _ ⟨s8, s9, s10, s11, s12, s13, s14, s15, s16, (.pointer (some ⟨KB, 4, none⟩)), (.agg #[.int .i64 k.strong.x, .int .i64 k.strong.y]), s19, s20, s21, s22, s23, s24, s25, s26, s27, s28, s29, s30, s31, s32, by kernel_rfl, hB.out, g0.out, g1.out, g2.out, g3.out, (fun _ => rfl), g5.out, g6.out, f0.out, f1.out, f2.out, f3.out, f4.out, f5.out, f6.out, f7.out, f8.out, f9.out, fun _ => rfl, f11.out, f12.out, f13.out, f14.out, f15.out, f16.out, f17.out, f18.out, f19.out, f20.out, f22.out, f24.out, f26.out, f28.out⟩
      · simp only [le1Deps, List.getD_cons_zero, List.getD_cons_succ, List.all_cons, List.all_nil, Bool.and_true, Bool.and_eq_true] at hr
        obtain ⟨hd8, hd10⟩ := hr
        obtain rfl := f8.out hd8
        obtain rfl := f10.out hd10
        have hi := hi.out
        simp only [List.getElem?_cons_zero, List.getElem?_cons_succ, Option.some.injEq] at hi
        subst hi
        obtain ⟨A0, A1, A2, A3, A4, hrow, ⟨u0, i0⟩, ⟨u1, i1⟩, ⟨u2, i2⟩, ⟨u3, i3⟩, ⟨u4, i4⟩⟩ := g1.out
        refine wpOp_step rfl (fun K hK => ?_)
        simp only [sets, List.foldl_cons, List.foldl_nil, List.set_cons_succ, List.set_cons_zero]
        go_simp
        refine (smaller_y k.strong.x k.strong.y b (m + (4 * b3.toNat + 4 * b7.toNat + 4 * false.toNat + 4 * b15.toNat + 4 * b19.toNat)) W (by have := hflags; simp only [Bool.toNat_false] at *; omega) (by omega) (by omega) (by omega) g0.out).mono ?_
        rintro _ W6 ⟨z, v, rfl, hv, rfl, hr⟩
        exact hK _ _ ⟨s8, s9, s10, s11, s12, s13, s14, s15, (.pointer (some ⟨b, 0, none⟩)), s17, (.agg #[.int .i64 k.strong.x, .int .i64 k.strong.y]), (.agg #[.int .i64 v.x, .int .i64 v.y]), s20, s21, s22, s23, s24, s25, s26, s27, s28, s29, s30, s31, s32, by kernel_rfl, hB.out.rext z, (hr.mono (by simp only [List.set_cons_succ, List.set_cons_zero, List.getD_cons_zero, List.getD_cons_succ, Bool.toNat_true, Bool.toNat_false]; omega)), (⟨A0, A1, A2, A3, A4, z.row hrow (row_lt hrow) hbK, ⟨u0, i0⟩, ⟨u1, i1⟩, ⟨u2, i2⟩, ⟨u3, i3⟩, ⟨u4, i4⟩⟩), g2.out, g3.out, g4.out, g5.out, g6.out, f0.out, f1.out, f2.out, f3.out, f4.out, f5.out, f6.out, f7.out, f8.out, f9.out, f10.out, (fun _ => ⟨v, rfl, hv⟩), f12.out, f13.out, f14.out, f15.out, f16.out, f17.out, f18.out, f19.out, f20.out, f22.out, f24.out, f26.out, f28.out⟩
      · refine wpOp_step rfl (fun K hK => ?_)
        simp only [sets, List.foldl_cons, List.foldl_nil, List.set_cons_succ, List.set_cons_zero]
        go_simp
        exact hK _ _ ⟨s8, s9, s10, s11, s12, s13, s14, s15, s16, s17, s18, s19, (.pointer (some ⟨b, 0, none⟩)), s21, s22, s23, s24, s25, s26, s27, s28, s29, s30, s31, s32, by kernel_rfl, hB.out, g0.out, g1.out, g2.out, g3.out, g4.out, g5.out, g6.out, f0.out, f1.out, f2.out, f3.out, f4.out, f5.out, f6.out, f7.out, f8.out, f9.out, f10.out, f11.out, fun _ => rfl, f13.out, f14.out, f15.out, f16.out, f17.out, f18.out, f19.out, f20.out, f22.out, f24.out, f26.out, f28.out⟩
      · refine wpOp_step rfl (fun K hK => ?_)
        simp only [sets, List.foldl_cons, List.foldl_nil, List.set_cons_succ, List.set_cons_zero]
        go_simp
        exact hK _ _ ⟨s8, s9, s10, s11, s12, s13, s14, s15, s16, s17, s18, s19, s20, (.pointer (some ⟨KB, 6, none⟩)), s22, s23, s24, s25, s26, s27, s28, s29, s30, s31, s32, by kernel_rfl, hB.out, g0.out, g1.out, g2.out, g3.out, g4.out, g5.out, g6.out, f0.out, f1.out, f2.out, f3.out, f4.out, f5.out, f6.out, f7.out, f8.out, f9.out, f10.out, f11.out, f12.out, fun _ => rfl, f14.out, f15.out, f16.out, f17.out, f18.out, f19.out, f20.out, f22.out, f24.out, f26.out, f28.out⟩
      · simp only [le1Deps, List.getD_cons_zero, List.getD_cons_succ, List.all_cons, List.all_nil, Bool.and_true] at hr
        have hd13 := hr
        obtain rfl := f13.out hd13
        have hi := hi.out
        simp only [List.getElem?_cons_zero, List.getElem?_cons_succ, Option.some.injEq] at hi
        subst hi
        obtain ⟨A0, A1, A2, A3, A4, hrow, ⟨u0, i0⟩, ⟨u1, i1⟩, ⟨u2, i2⟩, ⟨u3, i3⟩, ⟨u4, i4⟩⟩ := g1.out
        have hs : b27 = false := Bool.eq_false_iff.2 (fun hb => absurd (g5.out hb) (by decide))
        obtain rfl := u3 hs
        have c0 : W.cell? ⟨KB, 6, none⟩ = some (.int .i64 k.spin.x) := (cell_of_row W _ 6 _ _ _ hrow).trans rfl
        have c1 : W.cell? ⟨KB, 7, none⟩ = some (.int .i64 k.spin.y) := (cell_of_row W _ 7 _ _ _ hrow).trans rfl
        refine wpOp_step rfl (fun K hK => ?_)
        simp only [sets, List.foldl_cons, List.foldl_nil, List.set_cons_succ, List.set_cons_zero]
        go_simp
        exact hK _ _ ⟨s8, s9, s10, s11, s12, s13, s14, s15, s16, s17, s18, s19, s20, (.pointer (some ⟨KB, 6, none⟩)), (.agg #[.int .i64 k.spin.x, .int .i64 k.spin.y]), s23, s24, s25, s26, s27, s28, s29, s30, s31, s32, by kernel_rfl, hB.out, g0.out, g1.out, g2.out, g3.out, g4.out, (fun _ => rfl), g6.out, f0.out, f1.out, f2.out, f3.out, f4.out, f5.out, f6.out, f7.out, f8.out, f9.out, f10.out, f11.out, f12.out, f13.out, fun _ => rfl, f15.out, f16.out, f17.out, f18.out, f19.out, f20.out, f22.out, f24.out, f26.out, f28.out⟩
      · simp only [le1Deps, List.getD_cons_zero, List.getD_cons_succ, List.all_cons, List.all_nil, Bool.and_true, Bool.and_eq_true] at hr
        obtain ⟨hd12, hd14⟩ := hr
        obtain rfl := f12.out hd12
        obtain rfl := f14.out hd14
        have hi := hi.out
        simp only [List.getElem?_cons_zero, List.getElem?_cons_succ, Option.some.injEq] at hi
        subst hi
        obtain ⟨A0, A1, A2, A3, A4, hrow, ⟨u0, i0⟩, ⟨u1, i1⟩, ⟨u2, i2⟩, ⟨u3, i3⟩, ⟨u4, i4⟩⟩ := g1.out
        refine wpOp_step rfl (fun K hK => ?_)
        simp only [sets, List.foldl_cons, List.foldl_nil, List.set_cons_succ, List.set_cons_zero]
        go_simp
        refine (smaller_y k.spin.x k.spin.y b (m + (4 * b3.toNat + 4 * b7.toNat + 4 * b11.toNat + 4 * false.toNat + 4 * b19.toNat)) W (by have := hflags; simp only [Bool.toNat_false] at *; omega) (by omega) (by omega) (by omega) g0.out).mono ?_
        rintro _ W6 ⟨z, v, rfl, hv, rfl, hr⟩
        exact hK _ _ ⟨s8, s9, s10, s11, s12, s13, s14, s15, s16, s17, s18, s19, (.pointer (some ⟨b, 0, none⟩)), s21, (.agg #[.int .i64 k.spin.x, .int .i64 k.spin.y]), (.agg #[.int .i64 v.x, .int .i64 v.y]), s24, s25, s26, s27, s28, s29, s30, s31, s32, by kernel_rfl, hB.out.rext z, (hr.mono (by simp only [List.set_cons_succ, List.set_cons_zero, List.getD_cons_zero, List.getD_cons_succ, Bool.toNat_true, Bool.toNat_false]; omega)), (⟨A0, A1, A2, A3, A4, z.row hrow (row_lt hrow) hbK, ⟨u0, i0⟩, ⟨u1, i1⟩, ⟨u2, i2⟩, ⟨u3, i3⟩, ⟨u4, i4⟩⟩), g2.out, g3.out, g4.out, g5.out, g6.out, f0.out, f1.out, f2.out, f3.out, f4.out, f5.out, f6.out, f7.out, f8.out, f9.out, f10.out, f11.out, f12.out, f13.out, f14.out, (fun _ => ⟨v, rfl, hv⟩), f16.out, f17.out, f18.out, f19.out, f20.out, f22.out, f24.out, f26.out, f28.out⟩
      · refine wpOp_step rfl (fun K hK => ?_)
        simp only [sets, List.foldl_cons, List.foldl_nil, List.set_cons_succ, List.set_cons_zero]
        go_simp
        exact hK _ _ ⟨s8, s9, s10, s11, s12, s13, s14, s15, s16, s17, s18, s19, s20, s21, s22, s23, (.pointer (some ⟨b, 0, none⟩)), s25, s26, s27, s28, s29, s30, s31, s32, by kernel_rfl, hB.out, g0.out, g1.out, g2.out, g3.out, g4.out, g5.out, g6.out, f0.out, f1.out, f2.out, f3.out, f4.out, f5.out, f6.out, f7.out, f8.out, f9.out, f10.out, f11.out, f12.out, f13.out, f14.out, f15.out, fun _ => rfl, f17.out, f18.out, f19.out, f20.out, f22.out, f24.out, f26.out, f28.out⟩
      · refine wpOp_step rfl (fun K hK => ?_)
        simp only [sets, List.foldl_cons, List.foldl_nil, List.set_cons_succ, List.set_cons_zero]
        go_simp
        exact hK _ _ ⟨s8, s9, s10, s11, s12, s13, s14, s15, s16, s17, s18, s19, s20, s21, s22, s23, s24, (.pointer (some ⟨KB, 8, none⟩)), s26, s27, s28, s29, s30, s31, s32, by kernel_rfl, hB.out, g0.out, g1.out, g2.out, g3.out, g4.out, g5.out, g6.out, f0.out, f1.out, f2.out, f3.out, f4.out, f5.out, f6.out, f7.out, f8.out, f9.out, f10.out, f11.out, f12.out, f13.out, f14.out, f15.out, f16.out, fun _ => rfl, f18.out, f19.out, f20.out, f22.out, f24.out, f26.out, f28.out⟩
      · simp only [le1Deps, List.getD_cons_zero, List.getD_cons_succ, List.all_cons, List.all_nil, Bool.and_true] at hr
        have hd17 := hr
        obtain rfl := f17.out hd17
        have hi := hi.out
        simp only [List.getElem?_cons_zero, List.getElem?_cons_succ, Option.some.injEq] at hi
        subst hi
        obtain ⟨A0, A1, A2, A3, A4, hrow, ⟨u0, i0⟩, ⟨u1, i1⟩, ⟨u2, i2⟩, ⟨u3, i3⟩, ⟨u4, i4⟩⟩ := g1.out
        have hs : b29 = false := Bool.eq_false_iff.2 (fun hb => absurd (g6.out hb) (by decide))
        obtain rfl := u4 hs
        have c0 : W.cell? ⟨KB, 8, none⟩ = some (.int .i64 k.shape.x) := (cell_of_row W _ 8 _ _ _ hrow).trans rfl
        have c1 : W.cell? ⟨KB, 9, none⟩ = some (.int .i64 k.shape.y) := (cell_of_row W _ 9 _ _ _ hrow).trans rfl
        refine wpOp_step rfl (fun K hK => ?_)
        simp only [sets, List.foldl_cons, List.foldl_nil, List.set_cons_succ, List.set_cons_zero]
        go_simp
        exact hK _ _ ⟨s8, s9, s10, s11, s12, s13, s14, s15, s16, s17, s18, s19, s20, s21, s22, s23, s24, (.pointer (some ⟨KB, 8, none⟩)), (.agg #[.int .i64 k.shape.x, .int .i64 k.shape.y]), s27, s28, s29, s30, s31, s32, by kernel_rfl, hB.out, g0.out, g1.out, g2.out, g3.out, g4.out, g5.out, (fun _ => rfl), f0.out, f1.out, f2.out, f3.out, f4.out, f5.out, f6.out, f7.out, f8.out, f9.out, f10.out, f11.out, f12.out, f13.out, f14.out, f15.out, f16.out, f17.out, fun _ => rfl, f19.out, f20.out, f22.out, f24.out, f26.out, f28.out⟩
      · simp only [le1Deps, List.getD_cons_zero, List.getD_cons_succ, List.all_cons, List.all_nil, Bool.and_true, Bool.and_eq_true] at hr
        obtain ⟨hd16, hd18⟩ := hr
        obtain rfl := f16.out hd16
        obtain rfl := f18.out hd18
        have hi := hi.out
        simp only [List.getElem?_cons_zero, List.getElem?_cons_succ, Option.some.injEq] at hi
        subst hi
        obtain ⟨A0, A1, A2, A3, A4, hrow, ⟨u0, i0⟩, ⟨u1, i1⟩, ⟨u2, i2⟩, ⟨u3, i3⟩, ⟨u4, i4⟩⟩ := g1.out
        refine wpOp_step rfl (fun K hK => ?_)
        simp only [sets, List.foldl_cons, List.foldl_nil, List.set_cons_succ, List.set_cons_zero]
        go_simp
        refine (smaller_y k.shape.x k.shape.y b (m + (4 * b3.toNat + 4 * b7.toNat + 4 * b11.toNat + 4 * b15.toNat + 4 * false.toNat)) W (by have := hflags; simp only [Bool.toNat_false] at *; omega) (by omega) (by omega) (by omega) g0.out).mono ?_
        rintro _ W6 ⟨z, v, rfl, hv, rfl, hr⟩
        exact hK _ _ ⟨s8, s9, s10, s11, s12, s13, s14, s15, s16, s17, s18, s19, s20, s21, s22, s23, (.pointer (some ⟨b, 0, none⟩)), s25, (.agg #[.int .i64 k.shape.x, .int .i64 k.shape.y]), (.agg #[.int .i64 v.x, .int .i64 v.y]), s28, s29, s30, s31, s32, by kernel_rfl, hB.out.rext z, (hr.mono (by simp only [List.set_cons_succ, List.set_cons_zero, List.getD_cons_zero, List.getD_cons_succ, Bool.toNat_true, Bool.toNat_false]; omega)), (⟨A0, A1, A2, A3, A4, z.row hrow (row_lt hrow) hbK, ⟨u0, i0⟩, ⟨u1, i1⟩, ⟨u2, i2⟩, ⟨u3, i3⟩, ⟨u4, i4⟩⟩), g2.out, g3.out, g4.out, g5.out, g6.out, f0.out, f1.out, f2.out, f3.out, f4.out, f5.out, f6.out, f7.out, f8.out, f9.out, f10.out, f11.out, f12.out, f13.out, f14.out, f15.out, f16.out, f17.out, f18.out, (fun _ => ⟨v, rfl, hv⟩), f20.out, f22.out, f24.out, f26.out, f28.out⟩
      · refine wpOp_step rfl (fun K hK => ?_)
        simp only [sets, List.foldl_cons, List.foldl_nil, List.set_cons_succ, List.set_cons_zero]
        go_simp
        exact hK _ _ ⟨s8, s9, s10, s11, s12, s13, s14, s15, s16, s17, s18, s19, s20, s21, s22, s23, s24, s25, s26, s27, (.pointer (some ⟨KB, 0, none⟩)), s29, s30, s31, s32, by kernel_rfl, hB.out, g0.out, g1.out, g2.out, g3.out, g4.out, g5.out, g6.out, f0.out, f1.out, f2.out, f3.out, f4.out, f5.out, f6.out, f7.out, f8.out, f9.out, f10.out, f11.out, f12.out, f13.out, f14.out, f15.out, f16.out, f17.out, f18.out, f19.out, fun _ => rfl, f22.out, f24.out, f26.out, f28.out⟩
      · simp only [le1Deps, List.getD_cons_zero, List.getD_cons_succ, List.all_cons, List.all_nil, Bool.and_true, Bool.and_eq_true] at hr
        obtain ⟨hd20, hd3, hd2⟩ := hr
        obtain rfl := f20.out hd20
        obtain rfl := f2.out hd2
        obtain ⟨v, rfl, hv⟩ := f3.out hd3
        have hi := hi.out
        simp only [List.getElem?_cons_zero, List.getElem?_cons_succ, Option.some.injEq] at hi
        subst hi
        obtain ⟨A0, A1, A2, A3, A4, hrow, ⟨u0, i0⟩, ⟨u1, i1⟩, ⟨u2, i2⟩, ⟨u3, i3⟩, ⟨u4, i4⟩⟩ := g1.out
        have c0 : W.cell? ⟨KB, 0, none⟩ = some (.int .i64 A0.x) := (cell_of_row W _ 0 _ _ _ hrow).trans rfl
        have c1 : W.cell? ⟨KB, 1, none⟩ = some (.int .i64 A0.y) := (cell_of_row W _ 1 _ _ _ hrow).trans rfl
        have z0 : W.frozen? ⟨KB, 0, none⟩ = false := frozen_row hrow
        have z1 : W.frozen? ⟨KB, 1, none⟩ = false := frozen_row hrow
        have hnew : ((W.setCell ⟨KB, 0, none⟩ (.int .i64 v.x)).setCell ⟨KB, 1, none⟩ (.int .i64 v.y)).heap[KB]? = some (.cells #[.int .i64 v.x, .int .i64 v.y, .int .i64 A1.x, .int .i64 A1.y, .int .i64 A2.x, .int .i64 A2.y, .int .i64 A3.x, .int .i64 A3.y, .int .i64 A4.x, .int .i64 A4.y, .bool k.pile] 31 (0, 0)) := (heap_setCell (heap_setCell hrow _) _).trans rfl
        refine wpOp_step rfl (fun K hK => ?_)
        simp only [sets, List.foldl_cons, List.foldl_nil, List.set_cons_succ, List.set_cons_zero]
        go_simp
        exact hK _ _ ⟨s8, s9, (.agg #[.int .i64 k.size.x, .int .i64 k.size.y]), (.agg #[.int .i64 v.x, .int .i64 v.y]), s12, s13, s14, s15, s16, s17, s18, s19, s20, s21, s22, s23, s24, s25, s26, s27, (.pointer (some ⟨KB, 0, none⟩)), s29, s30, s31, s32, by kernel_rfl, ((hB.out.set (Nat.le_refl _) (Nat.lt_succ_self _) _ _).set (Nat.le_refl _) (Nat.lt_succ_self _) _ _), ((g0.out.set _ (by omega)).set _ (by omega)), (⟨v, A1, A2, A3, A4, hnew, ⟨(fun h => by cases h), hv⟩, ⟨u1, i1⟩, ⟨u2, i2⟩, ⟨u3, i3⟩, ⟨u4, i4⟩⟩), (fun _ => hd2), g3.out, g4.out, g5.out, g6.out, f0.out, f1.out, f2.out, (fun _ => ⟨v, rfl, hv⟩), f4.out, f5.out, f6.out, f7.out, f8.out, f9.out, f10.out, f11.out, f12.out, f13.out, f14.out, f15.out, f16.out, f17.out, f18.out, f19.out, f20.out, f22.out, f24.out, f26.out, f28.out⟩
      · refine wpOp_step rfl (fun K hK => ?_)
        simp only [sets, List.foldl_cons, List.foldl_nil, List.set_cons_succ, List.set_cons_zero]
        go_simp
        exact hK _ _ ⟨s8, s9, s10, s11, s12, s13, s14, s15, s16, s17, s18, s19, s20, s21, s22, s23, s24, s25, s26, s27, s28, (.pointer (some ⟨KB, 2, none⟩)), s30, s31, s32, by kernel_rfl, hB.out, g0.out, g1.out, g2.out, g3.out, g4.out, g5.out, g6.out, f0.out, f1.out, f2.out, f3.out, f4.out, f5.out, f6.out, f7.out, f8.out, f9.out, f10.out, f11.out, f12.out, f13.out, f14.out, f15.out, f16.out, f17.out, f18.out, f19.out, f20.out, fun _ => rfl, f24.out, f26.out, f28.out⟩
      · simp only [le1Deps, List.getD_cons_zero, List.getD_cons_succ, List.all_cons, List.all_nil, Bool.and_true, Bool.and_eq_true] at hr
        obtain ⟨hd22, hd7, hd6⟩ := hr
        obtain rfl := f22.out hd22
        obtain rfl := f6.out hd6
        obtain ⟨v, rfl, hv⟩ := f7.out hd7
        have hi := hi.out
        simp only [List.getElem?_cons_zero, List.getElem?_cons_succ, Option.some.injEq] at hi
        subst hi
        obtain ⟨A0, A1, A2, A3, A4, hrow, ⟨u0, i0⟩, ⟨u1, i1⟩, ⟨u2, i2⟩, ⟨u3, i3⟩, ⟨u4, i4⟩⟩ := g1.out
        have c0 : W.cell? ⟨KB, 2, none⟩ = some (.int .i64 A1.x) := (cell_of_row W _ 2 _ _ _ hrow).trans rfl
        have c1 : W.cell? ⟨KB, 3, none⟩ = some (.int .i64 A1.y) := (cell_of_row W _ 3 _ _ _ hrow).trans rfl
        have z0 : W.frozen? ⟨KB, 2, none⟩ = false := frozen_row hrow
        have z1 : W.frozen? ⟨KB, 3, none⟩ = false := frozen_row hrow
        have hnew : ((W.setCell ⟨KB, 2, none⟩ (.int .i64 v.x)).setCell ⟨KB, 3, none⟩ (.int .i64 v.y)).heap[KB]? = some (.cells #[.int .i64 A0.x, .int .i64 A0.y, .int .i64 v.x, .int .i64 v.y, .int .i64 A2.x, .int .i64 A2.y, .int .i64 A3.x, .int .i64 A3.y, .int .i64 A4.x, .int .i64 A4.y, .bool k.pile] 31 (0, 0)) := (heap_setCell (heap_setCell hrow _) _).trans rfl
        refine wpOp_step rfl (fun K hK => ?_)
        simp only [sets, List.foldl_cons, List.foldl_nil, List.set_cons_succ, List.set_cons_zero]
        go_simp
        exact hK _ _ ⟨s8, s9, s10, s11, s12, s13, (.agg #[.int .i64 k.dens.x, .int .i64 k.dens.y]), (.agg #[.int .i64 v.x, .int .i64 v.y]), s16, s17, s18, s19, s20, s21, s22, s23, s24, s25, s26, s27, s28, (.pointer (some ⟨KB, 2, none⟩)), s30, s31, s32, by kernel_rfl, ((hB.out.set (Nat.le_refl _) (Nat.lt_succ_self _) _ _).set (Nat.le_refl _) (Nat.lt_succ_self _) _ _), ((g0.out.set _ (by omega)).set _ (by omega)), (⟨A0, v, A2, A3, A4, hnew, ⟨u0, i0⟩, ⟨(fun h => by cases h), hv⟩, ⟨u2, i2⟩, ⟨u3, i3⟩, ⟨u4, i4⟩⟩), g2.out, (fun _ => hd6), g4.out, g5.out, g6.out, f0.out, f1.out, f2.out, f3.out, f4.out, f5.out, f6.out, (fun _ => ⟨v, rfl, hv⟩), f8.out, f9.out, f10.out, f11.out, f12.out, f13.out, f14.out, f15.out, f16.out, f17.out, f18.out, f19.out, f20.out, f22.out, f24.out, f26.out, f28.out⟩
      · refine wpOp_step rfl (fun K hK => ?_)
        simp only [sets, List.foldl_cons, List.foldl_nil, List.set_cons_succ, List.set_cons_zero]
        go_simp
        exact hK _ _ ⟨s8, s9, s10, s11, s12, s13, s14, s15, s16, s17, s18, s19, s20, s21, s22, s23, s24, s25, s26, s27, s28, s29, (.pointer (some ⟨KB, 4, none⟩)), s31, s32, by kernel_rfl, hB.out, g0.out, g1.out, g2.out, g3.out, g4.out, g5.out, g6.out, f0.out, f1.out, f2.out, f3.out, f4.out, f5.out, f6.out, f7.out, f8.out, f9.out, f10.out, f11.out, f12.out, f13.out, f14.out, f15.out, f16.out, f17.out, f18.out, f19.out, f20.out, f22.out, fun _ => rfl, f26.out, f28.out⟩
      · simp only [le1Deps, List.getD_cons_zero, List.getD_cons_succ, List.all_cons, List.all_nil, Bool.and_true, Bool.and_eq_true] at hr
        obtain ⟨hd24, hd11, hd10⟩ := hr
        obtain rfl := f24.out hd24
        obtain rfl := f10.out hd10
        obtain ⟨v, rfl, hv⟩ := f11.out hd11
        have hi := hi.out
        simp only [List.getElem?_cons_zero, List.getElem?_cons_succ, Option.some.injEq] at hi
        subst hi
        obtain ⟨A0, A1, A2, A3, A4, hrow, ⟨u0, i0⟩, ⟨u1, i1⟩, ⟨u2, i2⟩, ⟨u3, i3⟩, ⟨u4, i4⟩⟩ := g1.out
        have c0 : W.cell? ⟨KB, 4, none⟩ = some (.int .i64 A2.x) := (cell_of_row W _ 4 _ _ _ hrow).trans rfl
        have c1 : W.cell? ⟨KB, 5, none⟩ = some (.int .i64 A2.y) := (cell_of_row W _ 5 _ _ _ hrow).trans rfl
        have z0 : W.frozen? ⟨KB, 4, none⟩ = false := frozen_row hrow
        have z1 : W.frozen? ⟨KB, 5, none⟩ = false := frozen_row hrow
        have hnew : ((W.setCell ⟨KB, 4, none⟩ (.int .i64 v.x)).setCell ⟨KB, 5, none⟩ (.int .i64 v.y)).heap[KB]? = some (.cells #[.int .i64 A0.x, .int .i64 A0.y, .int .i64 A1.x, .int .i64 A1.y, .int .i64 v.x, .int .i64 v.y, .int .i64 A3.x, .int .i64 A3.y, .int .i64 A4.x, .int .i64 A4.y, .bool k.pile] 31 (0, 0)) := (heap_setCell (heap_setCell hrow _) _).trans rfl
        refine wpOp_step rfl (fun K hK => ?_)
        simp only [sets, List.foldl_cons, List.foldl_nil, List.set_cons_succ, List.set_cons_zero]
        go_simp
        exact hK _ _ ⟨s8, s9, s10, s11, s12, s13, s14, s15, s16, s17, (.agg #[.int .i64 k.strong.x, .int .i64 k.strong.y]), (.agg #[.int .i64 v.x, .int .i64 v.y]), s20, s21, s22, s23, s24, s25, s26, s27, s28, s29, (.pointer (some ⟨KB, 4, none⟩)), s31, s32, by kernel_rfl, ((hB.out.set (Nat.le_refl _) (Nat.lt_succ_self _) _ _).set (Nat.le_refl _) (Nat.lt_succ_self _) _ _), ((g0.out.set _ (by omega)).set _ (by omega)), (⟨A0, A1, v, A3, A4, hnew, ⟨u0, i0⟩, ⟨u1, i1⟩, ⟨(fun h => by cases h), hv⟩, ⟨u3, i3⟩, ⟨u4, i4⟩⟩), g2.out, g3.out, (fun _ => hd10), g5.out, g6.out, f0.out, f1.out, f2.out, f3.out, f4.out, f5.out, f6.out, f7.out, f8.out, f9.out, f10.out, (fun _ => ⟨v, rfl, hv⟩), f12.out, f13.out, f14.out, f15.out, f16.out, f17.out, f18.out, f19.out, f20.out, f22.out, f24.out, f26.out, f28.out⟩
      · refine wpOp_step rfl (fun K hK => ?_)
        simp only [sets, List.foldl_cons, List.foldl_nil, List.set_cons_succ, List.set_cons_zero]
        go_simp
        exact hK _ _ ⟨s8, s9, s10, s11, s12, s13, s14, s15, s16, s17, s18, s19, s20, s21, s22, s23, s24, s25, s26, s27, s28, s29, s30, (.pointer (some ⟨KB, 6, none⟩)), s32, by kernel_rfl, hB.out, g0.out, g1.out, g2.out, g3.out, g4.out, g5.out, g6.out, f0.out, f1.out, f2.out, f3.out, f4.out, f5.out, f6.out, f7.out, f8.out, f9.out, f10.out, f11.out, f12.out, f13.out, f14.out, f15.out, f16.out, f17.out, f18.out, f19.out, f20.out, f22.out, f24.out, fun _ => rfl, f28.out⟩
      · simp only [le1Deps, List.getD_cons_zero, List.getD_cons_succ, List.all_cons, List.all_nil, Bool.and_true, Bool.and_eq_true] at hr
        obtain ⟨hd26, hd15, hd14⟩ := hr
        obtain rfl := f26.out hd26
        obtain rfl := f14.out hd14
        obtain ⟨v, rfl, hv⟩ := f15.out hd15
        have hi := hi.out
        simp only [List.getElem?_cons_zero, List.getElem?_cons_succ, Option.some.injEq] at hi
        subst hi
        obtain ⟨A0, A1, A2, A3, A4, hrow, ⟨u0, i0⟩, ⟨u1, i1⟩, ⟨u2, i2⟩, ⟨u3, i3⟩, ⟨u4, i4⟩⟩ := g1.out
        have c0 : W.cell? ⟨KB, 6, none⟩ = some (.int .i64 A3.x) := (cell_of_row W _ 6 _ _ _ hrow).trans rfl
        have c1 : W.cell? ⟨KB, 7, none⟩ = some (.int .i64 A3.y) := (cell_of_row W _ 7 _ _ _ hrow).trans rfl
        have z0 : W.frozen? ⟨KB, 6, none⟩ = false := frozen_row hrow
        have z1 : W.frozen? ⟨KB, 7, none⟩ = false := frozen_row hrow
        have hnew : ((W.setCell ⟨KB, 6, none⟩ (.int .i64 v.x)).setCell ⟨KB, 7, none⟩ (.int .i64 v.y)).heap[KB]? = some (.cells #[.int .i64 A0.x, .int .i64 A0.y, .int .i64 A1.x, .int .i64 A1.y, .int .i64 A2.x, .int .i64 A2.y, .int .i64 v.x, .int .i64 v.y, .int .i64 A4.x, .int .i64 A4.y, .bool k.pile] 31 (0, 0)) := (heap_setCell (heap_setCell hrow _) _).trans rfl
        refine wpOp_step rfl (fun K hK => ?_)
        simp only [sets, List.foldl_cons, List.foldl_nil, List.set_cons_succ, List.set_cons_zero]
        go_simp
        exact hK _ _ ⟨s8, s9, s10, s11, s12, s13, s14, s15, s16, s17, s18, s19, s20, s21, (.agg #[.int .i64 k.spin.x, .int .i64 k.spin.y]), (.agg #[.int .i64 v.x, .int .i64 v.y]), s24, s25, s26, s27, s28, s29, s30, (.pointer (some ⟨KB, 6, none⟩)), s32, by kernel_rfl, ((hB.out.set (Nat.le_refl _) (Nat.lt_succ_self _) _ _).set (Nat.le_refl _) (Nat.lt_succ_self _) _ _), ((g0.out.set _ (by omega)).set _ (by omega)), (⟨A0, A1, A2, v, A4, hnew, ⟨u0, i0⟩, ⟨u1, i1⟩, ⟨u2, i2⟩, ⟨(fun h => by cases h), hv⟩, ⟨u4, i4⟩⟩), g2.out, g3.out, g4.out, (fun _ => hd14), g6.out, f0.out, f1.out, f2.out, f3.out, f4.out, f5.out, f6.out, f7.out, f8.out, f9.out, f10.out, f11.out, f12.out, f13.out, f14.out, (fun _ => ⟨v, rfl, hv⟩), f16.out, f17.out, f18.out, f19.out, f20.out, f22.out, f24.out, f26.out, f28.out⟩
      · refine wpOp_step rfl (fun K hK => ?_)
        simp only [sets, List.foldl_cons, List.foldl_nil, List.set_cons_succ, List.set_cons_zero]
        go_simp
        exact hK _ _ ⟨s8, s9, s10, s11, s12, s13, s14, s15, s16, s17, s18, s19, s20, s21, s22, s23, s24, s25, s26, s27, s28, s29, s30, s31, (.pointer (some ⟨KB, 8, none⟩)), by kernel_rfl, hB.out, g0.out, g1.out, g2.out, g3.out, g4.out, g5.out, g6.out, f0.out, f1.out, f2.out, f3.out, f4.out, f5.out, f6.out, f7.out, f8.out, f9.out, f10.out, f11.out, f12.out, f13.out, f14.out, f15.out, f16.out, f17.out, f18.out, f19.out, f20.out, f22.out, f24.out, f26.out, fun _ => rfl⟩
      · simp only [le1Deps, List.getD_cons_zero, List.getD_cons_succ, List.all_cons, List.all_nil, Bool.and_true, Bool.and_eq_true] at hr
        obtain ⟨hd28, hd19, hd18⟩ := hr
        obtain rfl := f28.out hd28
        obtain rfl := f18.out hd18
        obtain ⟨v, rfl, hv⟩ := f19.out hd19
        have hi := hi.out
        simp only [List.getElem?_cons_zero, List.getElem?_cons_succ, Option.some.injEq] at hi
        subst hi
        obtain ⟨A0, A1, A2, A3, A4, hrow, ⟨u0, i0⟩, ⟨u1, i1⟩, ⟨u2, i2⟩, ⟨u3, i3⟩, ⟨u4, i4⟩⟩ := g1.out
        have c0 : W.cell? ⟨KB, 8, none⟩ = some (.int .i64 A4.x) := (cell_of_row W _ 8 _ _ _ hrow).trans rfl
        have c1 : W.cell? ⟨KB, 9, none⟩ = some (.int .i64 A4.y) := (cell_of_row W _ 9 _ _ _ hrow).trans rfl
        have z0 : W.frozen? ⟨KB, 8, none⟩ = false := frozen_row hrow
        have z1 : W.frozen? ⟨KB, 9, none⟩ = false := frozen_row hrow
        have hnew : ((W.setCell ⟨KB, 8, none⟩ (.int .i64 v.x)).setCell ⟨KB, 9, none⟩ (.int .i64 v.y)).heap[KB]? = some (.cells #[.int .i64 A0.x, .int .i64 A0.y, .int .i64 A1.x, .int .i64 A1.y, .int .i64 A2.x, .int .i64 A2.y, .int .i64 A3.x, .int .i64 A3.y, .int .i64 v.x, .int .i64 v.y, .bool k.pile] 31 (0, 0)) := (heap_setCell (heap_setCell hrow _) _).trans rfl
        refine wpOp_step rfl (fun K hK => ?_)
        simp only [sets, List.foldl_cons, List.foldl_nil, List.set_cons_succ, List.set_cons_zero]
        go_simp
        exact hK _ _ ⟨s8, s9, s10, s11, s12, s13, s14, s15, s16, s17, s18, s19, s20, s21, s22, s23, s24, s25, (.agg #[.int .i64 k.shape.x, .int .i64 k.shape.y]), (.agg #[.int .i64 v.x, .int .i64 v.y]), s28, s29, s30, s31, (.pointer (some ⟨KB, 8, none⟩)), by kernel_rfl, ((hB.out.set (Nat.le_refl _) (Nat.lt_succ_self _) _ _).set (Nat.le_refl _) (Nat.lt_succ_self _) _ _), ((g0.out.set _ (by omega)).set _ (by omega)), (⟨A0, A1, A2, A3, v, hnew, ⟨u0, i0⟩, ⟨u1, i1⟩, ⟨u2, i2⟩, ⟨u3, i3⟩, ⟨(fun h => by cases h), hv⟩⟩), g2.out, g3.out, g4.out, g5.out, (fun _ => hd18), f0.out, f1.out, f2.out, f3.out, f4.out, f5.out, f6.out, f7.out, f8.out, f9.out, f10.out, f11.out, f12.out, f13.out, f14.out, f15.out, f16.out, f17.out, f18.out, (fun _ => ⟨v, rfl, hv⟩), f20.out, f22.out, f24.out, f26.out, f28.out⟩
      · have hi := hi.out; simp at hi
  rintro a4 W1 ⟨A0, A1, A2, A3, A4, ha4, hK1, hR1, rk, i0, i1, i2, i3, i4⟩
  generalize a4.tmps.getD 8 undef = s8 at ha4
  generalize a4.tmps.getD 9 undef = s9 at ha4
  generalize a4.tmps.getD 10 undef = s10 at ha4
  generalize a4.tmps.getD 11 undef = s11 at ha4
  generalize a4.tmps.getD 12 undef = s12 at ha4
  generalize a4.tmps.getD 13 undef = s13 at ha4
  generalize a4.tmps.getD 14 undef = s14 at ha4
  generalize a4.tmps.getD 15 undef = s15 at ha4
  generalize a4.tmps.getD 16 undef = s16 at ha4
  generalize a4.tmps.getD 17 undef = s17 at ha4
  generalize a4.tmps.getD 18 undef = s18 at ha4
  generalize a4.tmps.getD 19 undef = s19 at ha4
  generalize a4.tmps.getD 20 undef = s20 at ha4
  generalize a4.tmps.getD 21 undef = s21 at ha4
  generalize a4.tmps.getD 22 undef = s22 at ha4
  generalize a4.tmps.getD 23 undef = s23 at ha4
  generalize a4.tmps.getD 24 undef = s24 at ha4
  generalize a4.tmps.getD 25 undef = s25 at ha4
  generalize a4.tmps.getD 26 undef = s26 at ha4
  generalize a4.tmps.getD 27 undef = s27 at ha4
  generalize a4.tmps.getD 28 undef = s28 at ha4
  generalize a4.tmps.getD 29 undef = s29 at ha4
  generalize a4.tmps.getD 30 undef = s30 at ha4
  generalize a4.tmps.getD 31 undef = s31 at ha4
  generalize a4.tmps.getD 32 undef = s32 at ha4
  subst ha4
  simp only [sets, List.foldl_cons, List.foldl_nil, List.set_cons_succ, List.set_cons_zero]
  have hB1 := hK1.belowX hB0 (Nat.le_refl _) (by omega)
  have s1 := hK1.size
  replace rf := (hK1.block _ (by omega) (by omega) (by omega)).trans rf
  replace r2 := (hK1.block _ (by omega) (by omega) (by omega)).trans r2
  replace r3 := (hK1.block _ (by omega) (by omega) (by omega)).trans r3
  clear hrow hK1 hRr hB0 h
  go_upto_region 2 with (first | ((first | with_reducible refine wrx2 ?_ | with_reducible refine wrx ?_); (repeat (first | go_big_quiet_step ((first | fail)) | quiet_step ((first | fail)))); refine wpQuiet_nil ?_; rintro _ ⟨yr, rfl⟩; have syr := Ext.size yr; (repeat (first | rw [World.size_alloc] at syr | rw [World.size_setCell] at syr | rw [World.size_drew] at syr))))
  refine wp_tell (le2Told b (m + 20) (w.heap.size + 1) f) ?_ ?_
  focus
    have hRr := hR1
    have hrow := rf
    have hbK : w.heap.size + 1 ≠ b := by omega
    have hlb : b < w.heap.size + 1 := by omega
    clear hB1 r2 r3 rf rk hok o1 o2 o3 o4 o5 i0 i1 i2 i3 i4 hR1
    repeat (rename_i zz; clear zz)
    have hm2 : m + 20 < 11000 := by omega
    generalize m + 20 = m2 at *
    generalize w.heap.size + 1 = KB at *
    refine region_dep (by kernel_rfl) le2Deps (by kernel_rfl) (le2Inv b m2 KB f) ?h0 ?hstep ?hend
    case h0 =>
      refine ⟨?z33, ?z34, ?z35, ?z36, ?z37, ?z38, ?z39, ?z40, ?z41, ?z42, ?fr, KeptX.start, (by simpa using hRr.drew), ⟨_, _, hrow, ⟨fun _ => rfl, InV.refl (by omega)⟩, ⟨fun _ => rfl, InV.refl (by omega)⟩⟩, by simp, by simp, by simp, by simp, by simp, by simp, by simp, by simp, by simp, by simp, by simp, by simp⟩
      case fr =>
        simp only [sets, List.foldl_cons, List.foldl_nil, List.set_cons_succ, List.set_cons_zero]
        rfl
    case hend =>
      intro l' fr W hl hall hInv
      unfold le2Inv at hInv
      obtain ⟨s33, s34, s35, s36, s37, s38, s39, s40, s41, s42, hInv⟩ := hInv
      obtain ⟨hfr, hB, g0, g1, g2, g3, f0, f1, f2, f3, f4, f5, f6, f7, f8, f10⟩ := hInv
      subst hfr
      obtain ⟨b0, b1, b2, b3, b4, b5, b6, b7, b8, b9, b10, b11, rfl⟩ := list12 hl
      simp only [List.getD_cons_zero, List.getD_cons_succ] at g0 g1 g2 g3 f0 f1 f2 f3 f4 f5 f6 f7 f8 f10
      simp only [List.all_cons, id, Bool.and_eq_true] at hall
      obtain ⟨e0, e1, e2, e3, e4, e5, e6, e7, e8, e9, e10, e11, -⟩ := hall
      obtain ⟨A0, A1, hrow, ⟨-, i0⟩, ⟨-, i1⟩⟩ := g1
      have hg : RingM W b (m2 + 8) := g0.mono (by simp only [e3, e7, Bool.toNat_true]; omega)
      exact ⟨rfl, A0, A1, by kernel_rfl, hB, hg, hrow, i0, i1⟩
    case hstep =>
      intro l' fr W ii hl hInv hr hi
      unfold le2Inv at hInv
      obtain ⟨s33, s34, s35, s36, s37, s38, s39, s40, s41, s42, hInv⟩ := hInv
      obtain ⟨hfr, hB, g0, g1, g2, g3, f0, f1, f2, f3, f4, f5, f6, f7, f8, f10⟩ := hInv
      subst hfr
      obtain ⟨b0, b1, b2, b3, b4, b5, b6, b7, b8, b9, b10, b11, rfl⟩ := list12 hl
      have sW := hB.size
      have hflags : b3.toNat ≤ 1 ∧ b7.toNat ≤ 1 := ⟨Bool.toNat_le _, Bool.toNat_le _⟩
      simp only [List.getD_cons_zero, List.getD_cons_succ] at g0 g1 g2 g3 f0 f1 f2 f3 f4 f5 f6 f7 f8 f10
      replace hB := Go.Lib.hid hB
      replace hi := Go.Lib.hid hi
      replace g0 := Go.Lib.hid g0
      replace g1 := Go.Lib.hid g1
      replace g2 := Go.Lib.hid g2
      replace g3 := Go.Lib.hid g3
      replace f0 := Go.Lib.hid f0
      replace f1 := Go.Lib.hid f1
      replace f2 := Go.Lib.hid f2
      replace f3 := Go.Lib.hid f3
      replace f4 := Go.Lib.hid f4
      replace f5 := Go.Lib.hid f5
      replace f6 := Go.Lib.hid f6
      replace f7 := Go.Lib.hid f7
      replace f8 := Go.Lib.hid f8
      replace f10 := Go.Lib.hid f10
      rcases ii with _ | _ | _ | _ | _ | _ | _ | _ | _ | _ | _ | _ | ii
      · refine wpOp_step rfl (fun K hK => ?_)
        simp only [sets, List.foldl_cons, List.foldl_nil, List.set_cons_succ, List.set_cons_zero]
        go_simp
        exact hK _ _ ⟨(.pointer (some ⟨b, 0, none⟩)), s34, s35, s36, s37, s38, s39, s40, s41, s42, by kernel_rfl, hB.out, g0.out, g1.out, g2.out, g3.out, fun _ => rfl, f1.out, f2.out, f3.out, f4.out, f5.out, f6.out, f7.out, f8.out, f10.out⟩
      · refine wpOp_step rfl (fun K hK => ?_)
        simp only [sets, List.foldl_cons, List.foldl_nil, List.set_cons_succ, List.set_cons_zero]
        go_simp
        exact hK _ _ ⟨s33, (.pointer (some ⟨KB, 0, none⟩)), s35, s36, s37, s38, s39, s40, s41, s42, by kernel_rfl, hB.out, g0.out, g1.out, g2.out, g3.out, f0.out, fun _ => rfl, f2.out, f3.out, f4.out, f5.out, f6.out, f7.out, f8.out, f10.out⟩
      · simp only [le2Deps, List.getD_cons_zero, List.getD_cons_succ, List.all_cons, List.all_nil, Bool.and_true] at hr
        have hd1 := hr
        obtain rfl := f1.out hd1
        have hi := hi.out
        simp only [List.getElem?_cons_zero, List.getElem?_cons_succ, Option.some.injEq] at hi
        subst hi
        obtain ⟨A0, A1, hrow, ⟨u0, i0⟩, ⟨u1, i1⟩⟩ := g1.out
        have hs : b9 = false := Bool.eq_false_iff.2 (fun hb => absurd (g2.out hb) (by decide))
        obtain rfl := u0 hs
        have c0 : W.cell? ⟨KB, 0, none⟩ = some (.int .i64 f.speed.x) := (cell_of_row W _ 0 _ _ _ hrow).trans rfl
        have c1 : W.cell? ⟨KB, 1, none⟩ = some (.int .i64 f.speed.y) := (cell_of_row W _ 1 _ _ _ hrow).trans rfl
        refine wpOp_step rfl (fun K hK => ?_)
        simp only [sets, List.foldl_cons, List.foldl_nil, List.set_cons_succ, List.set_cons_zero]
        go_simp
        exact hK _ _ ⟨s33, (.pointer (some ⟨KB, 0, none⟩)), (.agg #[.int .i64 f.speed.x, .int .i64 f.speed.y]), s36, s37, s38, s39, s40, s41, s42, by kernel_rfl, hB.out, g0.out, g1.out, (fun _ => rfl), g3.out, f0.out, f1.out, fun _ => rfl, f3.out, f4.out, f5.out, f6.out, f7.out, f8.out, f10.out⟩
      · simp only [le2Deps, List.getD_cons_zero, List.getD_cons_succ, List.all_cons, List.all_nil, Bool.and_true, Bool.and_eq_true] at hr
        obtain ⟨hd0, hd2⟩ := hr
        obtain rfl := f0.out hd0
        obtain rfl := f2.out hd2
        have hi := hi.out
        simp only [List.getElem?_cons_zero, List.getElem?_cons_succ, Option.some.injEq] at hi
        subst hi
        obtain ⟨A0, A1, hrow, ⟨u0, i0⟩, ⟨u1, i1⟩⟩ := g1.out
        refine wpOp_step rfl (fun K hK => ?_)
        simp only [sets, List.foldl_cons, List.foldl_nil, List.set_cons_succ, List.set_cons_zero]
        go_simp
        refine (smaller_y f.speed.x f.speed.y b (m2 + (4 * false.toNat + 4 * b7.toNat)) W (by have := hflags; simp only [Bool.toNat_false] at *; omega) (by omega) (by omega) (by omega) g0.out).mono ?_
        rintro _ W6 ⟨z, v, rfl, hv, rfl, hr⟩
        exact hK _ _ ⟨(.pointer (some ⟨b, 0, none⟩)), s34, (.agg #[.int .i64 f.speed.x, .int .i64 f.speed.y]), (.agg #[.int .i64 v.x, .int .i64 v.y]), s37, s38, s39, s40, s41, s42, by kernel_rfl, hB.out.rext z, (hr.mono (by simp only [List.set_cons_succ, List.set_cons_zero, List.getD_cons_zero, List.getD_cons_succ, Bool.toNat_true, Bool.toNat_false]; omega)), (⟨A0, A1, z.row hrow (row_lt hrow) hbK, ⟨u0, i0⟩, ⟨u1, i1⟩⟩), g2.out, g3.out, f0.out, f1.out, f2.out, (fun _ => ⟨v, rfl, hv⟩), f4.out, f5.out, f6.out, f7.out, f8.out, f10.out⟩
      · refine wpOp_step rfl (fun K hK => ?_)
        simp only [sets, List.foldl_cons, List.foldl_nil, List.set_cons_succ, List.set_cons_zero]
        go_simp
        exact hK _ _ ⟨s33, s34, s35, s36, (.pointer (some ⟨b, 0, none⟩)), s38, s39, s40, s41, s42, by kernel_rfl, hB.out, g0.out, g1.out, g2.out, g3.out, f0.out, f1.out, f2.out, f3.out, fun _ => rfl, f5.out, f6.out, f7.out, f8.out, f10.out⟩
      · refine wpOp_step rfl (fun K hK => ?_)
        simp only [sets, List.foldl_cons, List.foldl_nil, List.set_cons_succ, List.set_cons_zero]
        go_simp
        exact hK _ _ ⟨s33, s34, s35, s36, s37, (.pointer (some ⟨KB, 2, none⟩)), s39, s40, s41, s42, by kernel_rfl, hB.out, g0.out, g1.out, g2.out, g3.out, f0.out, f1.out, f2.out, f3.out, f4.out, fun _ => rfl, f6.out, f7.out, f8.out, f10.out⟩
      · simp only [le2Deps, List.getD_cons_zero, List.getD_cons_succ, List.all_cons, List.all_nil, Bool.and_true] at hr
        have hd5 := hr
        obtain rfl := f5.out hd5
        have hi := hi.out
        simp only [List.getElem?_cons_zero, List.getElem?_cons_succ, Option.some.injEq] at hi
        subst hi
        obtain ⟨A0, A1, hrow, ⟨u0, i0⟩, ⟨u1, i1⟩⟩ := g1.out
        have hs : b11 = false := Bool.eq_false_iff.2 (fun hb => absurd (g3.out hb) (by decide))
        obtain rfl := u1 hs
        have c0 : W.cell? ⟨KB, 2, none⟩ = some (.int .i64 f.slope.x) := (cell_of_row W _ 2 _ _ _ hrow).trans rfl
        have c1 : W.cell? ⟨KB, 3, none⟩ = some (.int .i64 f.slope.y) := (cell_of_row W _ 3 _ _ _ hrow).trans rfl
        refine wpOp_step rfl (fun K hK => ?_)
        simp only [sets, List.foldl_cons, List.foldl_nil, List.set_cons_succ, List.set_cons_zero]
        go_simp
        exact hK _ _ ⟨s33, s34, s35, s36, s37, (.pointer (some ⟨KB, 2, none⟩)), (.agg #[.int .i64 f.slope.x, .int .i64 f.slope.y]), s40, s41, s42, by kernel_rfl, hB.out, g0.out, g1.out, g2.out, (fun _ => rfl), f0.out, f1.out, f2.out, f3.out, f4.out, f5.out, fun _ => rfl, f7.out, f8.out, f10.out⟩
      · simp only [le2Deps, List.getD_cons_zero, List.getD_cons_succ, List.all_cons, List.all_nil, Bool.and_true, Bool.and_eq_true] at hr
        obtain ⟨hd4, hd6⟩ := hr
        obtain rfl := f4.out hd4
        obtain rfl := f6.out hd6
        have hi := hi.out
        simp only [List.getElem?_cons_zero, List.getElem?_cons_succ, Option.some.injEq] at hi
        subst hi
        obtain ⟨A0, A1, hrow, ⟨u0, i0⟩, ⟨u1, i1⟩⟩ := g1.out
        refine wpOp_step rfl (fun K hK => ?_)
        simp only [sets, List.foldl_cons, List.foldl_nil, List.set_cons_succ, List.set_cons_zero]
        go_simp
        refine (smaller_y f.slope.x f.slope.y b (m2 + (4 * b3.toNat + 4 * false.toNat)) W (by have := hflags; simp only [Bool.toNat_false] at *; omega) (by omega) (by omega) (by omega) g0.out).mono ?_
        rintro _ W6 ⟨z, v, rfl, hv, rfl, hr⟩
        exact hK _ _ ⟨s33, s34, s35, s36, (.pointer (some ⟨b, 0, none⟩)), s38, (.agg #[.int .i64 f.slope.x, .int .i64 f.slope.y]), (.agg #[.int .i64 v.x, .int .i64 v.y]), s41, s42, by kernel_rfl, hB.out.rext z, (hr.mono (by simp only [List.set_cons_succ, List.set_cons_zero, List.getD_cons_zero, List.getD_cons_succ, Bool.toNat_true, Bool.toNat_false]; omega)), (⟨A0, A1, z.row hrow (row_lt hrow) hbK, ⟨u0, i0⟩, ⟨u1, i1⟩⟩), g2.out, g3.out, f0.out, f1.out, f2.out, f3.out, f4.out, f5.out, f6.out, (fun _ => ⟨v, rfl, hv⟩), f8.out, f10.out⟩
      · refine wpOp_step rfl (fun K hK => ?_)
        simp only [sets, List.foldl_cons, List.foldl_nil, List.set_cons_succ, List.set_cons_zero]
        go_simp
        exact hK _ _ ⟨s33, s34, s35, s36, s37, s38, s39, s40, (.pointer (some ⟨KB, 0, none⟩)), s42, by kernel_rfl, hB.out, g0.out, g1.out, g2.out, g3.out, f0.out, f1.out, f2.out, f3.out, f4.out, f5.out, f6.out, f7.out, fun _ => rfl, f10.out⟩
      · simp only [le2Deps, List.getD_cons_zero, List.getD_cons_succ, List.all_cons, List.all_nil, Bool.and_true, Bool.and_eq_true] at hr
        obtain ⟨hd8, hd3, hd2⟩ := hr
        obtain rfl := f8.out hd8
        obtain rfl := f2.out hd2
        obtain ⟨v, rfl, hv⟩ := f3.out hd3
        have hi := hi.out
        simp only [List.getElem?_cons_zero, List.getElem?_cons_succ, Option.some.injEq] at hi
        subst hi
        obtain ⟨A0, A1, hrow, ⟨u0, i0⟩, ⟨u1, i1⟩⟩ := g1.out
        have c0 : W.cell? ⟨KB, 0, none⟩ = some (.int .i64 A0.x) := (cell_of_row W _ 0 _ _ _ hrow).trans rfl
        have c1 : W.cell? ⟨KB, 1, none⟩ = some (.int .i64 A0.y) := (cell_of_row W _ 1 _ _ _ hrow).trans rfl
        have z0 : W.frozen? ⟨KB, 0, none⟩ = false := frozen_row hrow
        have z1 : W.frozen? ⟨KB, 1, none⟩ = false := frozen_row hrow
        have hnew : ((W.setCell ⟨KB, 0, none⟩ (.int .i64 v.x)).setCell ⟨KB, 1, none⟩ (.int .i64 v.y)).heap[KB]? = some (.cells #[.int .i64 v.x, .int .i64 v.y, .int .i64 A1.x, .int .i64 A1.y] 33 (0, 0)) := (heap_setCell (heap_setCell hrow _) _).trans rfl
        refine wpOp_step rfl (fun K hK => ?_)
        simp only [sets, List.foldl_cons, List.foldl_nil, List.set_cons_succ, List.set_cons_zero]
        go_simp
        exact hK _ _ ⟨s33, s34, (.agg #[.int .i64 f.speed.x, .int .i64 f.speed.y]), (.agg #[.int .i64 v.x, .int .i64 v.y]), s37, s38, s39, s40, (.pointer (some ⟨KB, 0, none⟩)), s42, by kernel_rfl, ((hB.out.set (Nat.le_refl _) (Nat.lt_succ_self _) _ _).set (Nat.le_refl _) (Nat.lt_succ_self _) _ _), ((g0.out.set _ (by omega)).set _ (by omega)), (⟨v, A1, hnew, ⟨(fun h => by cases h), hv⟩, ⟨u1, i1⟩⟩), (fun _ => hd2), g3.out, f0.out, f1.out, f2.out, (fun _ => ⟨v, rfl, hv⟩), f4.out, f5.out, f6.out, f7.out, f8.out, f10.out⟩
      · refine wpOp_step rfl (fun K hK => ?_)
        simp only [sets, List.foldl_cons, List.foldl_nil, List.set_cons_succ, List.set_cons_zero]
        go_simp
        exact hK _ _ ⟨s33, s34, s35, s36, s37, s38, s39, s40, s41, (.pointer (some ⟨KB, 2, none⟩)), by kernel_rfl, hB.out, g0.out, g1.out, g2.out, g3.out, f0.out, f1.out, f2.out, f3.out, f4.out, f5.out, f6.out, f7.out, f8.out, fun _ => rfl⟩
      · simp only [le2Deps, List.getD_cons_zero, List.getD_cons_succ, List.all_cons, List.all_nil, Bool.and_true, Bool.and_eq_true] at hr
        obtain ⟨hd10, hd7, hd6⟩ := hr
        obtain rfl := f10.out hd10
        obtain rfl := f6.out hd6
        obtain ⟨v, rfl, hv⟩ := f7.out hd7
        have hi := hi.out
        simp only [List.getElem?_cons_zero, List.getElem?_cons_succ, Option.some.injEq] at hi
        subst hi
        obtain ⟨A0, A1, hrow, ⟨u0, i0⟩, ⟨u1, i1⟩⟩ := g1.out
        have c0 : W.cell? ⟨KB, 2, none⟩ = some (.int .i64 A1.x) := (cell_of_row W _ 2 _ _ _ hrow).trans rfl
        have c1 : W.cell? ⟨KB, 3, none⟩ = some (.int .i64 A1.y) := (cell_of_row W _ 3 _ _ _ hrow).trans rfl
        have z0 : W.frozen? ⟨KB, 2, none⟩ = false := frozen_row hrow
        have z1 : W.frozen? ⟨KB, 3, none⟩ = false := frozen_row hrow
        have hnew : ((W.setCell ⟨KB, 2, none⟩ (.int .i64 v.x)).setCell ⟨KB, 3, none⟩ (.int .i64 v.y)).heap[KB]? = some (.cells #[.int .i64 A0.x, .int .i64 A0.y, .int .i64 v.x, .int .i64 v.y] 33 (0, 0)) := (heap_setCell (heap_setCell hrow _) _).trans rfl
        refine wpOp_step rfl (fun K hK => ?_)
        simp only [sets, List.foldl_cons, List.foldl_nil, List.set_cons_succ, List.set_cons_zero]
        go_simp
        exact hK _ _ ⟨s33, s34, s35, s36, s37, s38, (.agg #[.int .i64 f.slope.x, .int .i64 f.slope.y]), (.agg #[.int .i64 v.x, .int .i64 v.y]), s41, (.pointer (some ⟨KB, 2, none⟩)), by kernel_rfl, ((hB.out.set (Nat.le_refl _) (Nat.lt_succ_self _) _ _).set (Nat.le_refl _) (Nat.lt_succ_self _) _ _), ((g0.out.set _ (by omega)).set _ (by omega)), (⟨A0, v, hnew, ⟨u0, i0⟩, ⟨(fun h => by cases h), hv⟩⟩), g2.out, (fun _ => hd6), f0.out, f1.out, f2.out, f3.out, f4.out, f5.out, f6.out, (fun _ => ⟨v, rfl, hv⟩), f8.out, f10.out⟩
      · have hi := hi.out; simp at hi
  rintro a4 W2 ⟨B0, B1, ha4, hK2, hR2, rf2, j0, j1⟩
  generalize a4.tmps.getD 33 undef = t33 at ha4
  generalize a4.tmps.getD 34 undef = t34 at ha4
  generalize a4.tmps.getD 35 undef = t35 at ha4
  generalize a4.tmps.getD 36 undef = t36 at ha4
  generalize a4.tmps.getD 37 undef = t37 at ha4
  generalize a4.tmps.getD 38 undef = t38 at ha4
  generalize a4.tmps.getD 39 undef = t39 at ha4
  generalize a4.tmps.getD 40 undef = t40 at ha4
  generalize a4.tmps.getD 41 undef = t41 at ha4
  generalize a4.tmps.getD 42 undef = t42 at ha4
  subst ha4
  simp only [sets, List.foldl_cons, List.foldl_nil, List.set_cons_succ, List.set_cons_zero]
  have hB2 := hK2.belowX hB1 (by omega) (by omega)
  have s2 := hK2.size
  replace rk := (hK2.block _ (by omega) (by omega) (by omega)).trans rk
  replace r2 := (hK2.block _ (by omega) (by omega) (by omega)).trans r2
  replace r3 := (hK2.block _ (by omega) (by omega) (by omega)).trans r3
  clear hK2 hB1 hR1 rf
  go_upto_region 3 with (first | ((first | with_reducible refine wrx2 ?_ | with_reducible refine wrx ?_); (repeat (first | go_big_quiet_step ((first | fail)) | quiet_step ((first | fail)))); refine wpQuiet_nil ?_; rintro _ ⟨yr, rfl⟩; have syr := Ext.size yr; (repeat (first | rw [World.size_alloc] at syr | rw [World.size_setCell] at syr | rw [World.size_drew] at syr))))
  refine wp_tell (le3Told b (m + 28) (w.heap.size + 1 + 1) (w.heap.size + 1 + 1 + 1) ⟨A0, A1, A2, A3, A4, k.pile⟩ ⟨B0, B1⟩) ?_ ?_
  focus
    have hne : w.heap.size ≠ w.heap.size + 1 + 1 ∧ w.heap.size ≠ w.heap.size + 1 + 1 + 1 ∧ w.heap.size + 1 ≠ w.heap.size + 1 + 1 ∧ w.heap.size + 1 ≠ w.heap.size + 1 + 1 + 1 ∧ w.heap.size + 1 + 1 ≠ w.heap.size + 1 + 1 + 1 := by omega
    have hr0 := r2
    have hr1 := r3
    clear hB2 hR2 r2 r3 hok o1 o2 o3 o4 o5 o6 o7 i0 i1 i2 i3 i4 j0 j1 sX s1 s2 hl hbK
    repeat (rename_i zz; clear zz)
    obtain ⟨k', hkq⟩ : ∃ k' : RockR, (⟨A0, A1, A2, A3, A4, k.pile⟩ : RockR) = k' := ⟨_, rfl⟩
    obtain ⟨f', hfq⟩ : ∃ f' : FallR, (⟨B0, B1⟩ : FallR) = f' := ⟨_, rfl⟩
    have hk5 : W2.heap[w.heap.size]? = some (.cells #[.int .i64 k'.size.x, .int .i64 k'.size.y, .int .i64 k'.dens.x, .int .i64 k'.dens.y, .int .i64 k'.strong.x, .int .i64 k'.strong.y, .int .i64 k'.spin.x, .int .i64 k'.spin.y, .int .i64 k'.shape.x, .int .i64 k'.shape.y, .bool k'.pile] 31 (0, 0)) := by rw [← hkq]; exact rk
    have hf5 : W2.heap[w.heap.size + 1]? = some (.cells #[.int .i64 f'.speed.x, .int .i64 f'.speed.y, .int .i64 f'.slope.x, .int .i64 f'.slope.y] 33 (0, 0)) := by rw [← hfq]; exact rf2
    rw [hkq, hfq]
    clear hkq hfq rk rf2
    generalize w.heap.size + 1 + 1 + 1 = R1 at *
    generalize w.heap.size + 1 + 1 = R0 at *
    generalize w.heap.size + 1 = FB at *
    generalize w.heap.size = KB at *
    generalize m + 28 = m3 at *
    refine region_dep (by kernel_rfl) le3Deps (by kernel_rfl) (le3Inv b m3 R0 R1 k' f') ?h0 ?hstep ?hend
    case h0 =>
      refine ⟨?z43, ?z44, ?fr, (KeptR.refl _ _ _).drew, (fun _ h => h.drew), (fun _ => hr0), (by simp), (fun _ => hr1), (by simp), by simp, by simp⟩
      case fr =>
        simp only [sets, List.foldl_cons, List.foldl_nil, List.set_cons_succ, List.set_cons_zero]
        rfl
    case hend =>
      intro l' fr W hl hall hInv
      unfold le3Inv at hInv
      obtain ⟨s43, s44, hInv⟩ := hInv
      obtain ⟨hfr, hB, g0, g1, g2, g3, g4, f0, f1⟩ := hInv
      subst hfr
      obtain ⟨b0, b1, b2, b3, rfl⟩ := list4 hl
      simp only [List.getD_cons_zero, List.getD_cons_succ] at g0 g1 g2 g3 g4 f0 f1
      simp only [List.all_cons, id, Bool.and_eq_true] at hall
      obtain ⟨e0, e1, e2, e3, -⟩ := hall
      exact ⟨rfl, by kernel_rfl, hB, g0, g2 e2, g4 e3⟩
    case hstep =>
      intro l' fr W ii hl hInv hr hi
      unfold le3Inv at hInv
      obtain ⟨s43, s44, hInv⟩ := hInv
      obtain ⟨hfr, hB, g0, g1, g2, g3, g4, f0, f1⟩ := hInv
      subst hfr
      obtain ⟨b0, b1, b2, b3, rfl⟩ := list4 hl
      have sW := hB.size
      replace hk5 := (hB.block KB (row_lt hk5) (by omega) (by omega)).trans hk5
      replace hf5 := (hB.block FB (row_lt hf5) (by omega) (by omega)).trans hf5
      have c0 : W.cell? ⟨KB, 0, none⟩ = some (.int .i64 k'.size.x) := (cell_of_row W _ 0 _ _ _ hk5).trans rfl
      have c1 : W.cell? ⟨KB, 1, none⟩ = some (.int .i64 k'.size.y) := (cell_of_row W _ 1 _ _ _ hk5).trans rfl
      have c2 : W.cell? ⟨KB, 2, none⟩ = some (.int .i64 k'.dens.x) := (cell_of_row W _ 2 _ _ _ hk5).trans rfl
      have c3 : W.cell? ⟨KB, 3, none⟩ = some (.int .i64 k'.dens.y) := (cell_of_row W _ 3 _ _ _ hk5).trans rfl
      have c4 : W.cell? ⟨KB, 4, none⟩ = some (.int .i64 k'.strong.x) := (cell_of_row W _ 4 _ _ _ hk5).trans rfl
      have c5 : W.cell? ⟨KB, 5, none⟩ = some (.int .i64 k'.strong.y) := (cell_of_row W _ 5 _ _ _ hk5).trans rfl
      have c6 : W.cell? ⟨KB, 6, none⟩ = some (.int .i64 k'.spin.x) := (cell_of_row W _ 6 _ _ _ hk5).trans rfl
      have c7 : W.cell? ⟨KB, 7, none⟩ = some (.int .i64 k'.spin.y) := (cell_of_row W _ 7 _ _ _ hk5).trans rfl
      have c8 : W.cell? ⟨KB, 8, none⟩ = some (.int .i64 k'.shape.x) := (cell_of_row W _ 8 _ _ _ hk5).trans rfl
      have c9 : W.cell? ⟨KB, 9, none⟩ = some (.int .i64 k'.shape.y) := (cell_of_row W _ 9 _ _ _ hk5).trans rfl
      have c10 : W.cell? ⟨KB, 10, none⟩ = some (.bool k'.pile) := (cell_of_row W _ 10 _ _ _ hk5).trans rfl
      have d0 : W.cell? ⟨FB, 0, none⟩ = some (.int .i64 f'.speed.x) := (cell_of_row W _ 0 _ _ _ hf5).trans rfl
      have d1 : W.cell? ⟨FB, 1, none⟩ = some (.int .i64 f'.speed.y) := (cell_of_row W _ 1 _ _ _ hf5).trans rfl
      have d2 : W.cell? ⟨FB, 2, none⟩ = some (.int .i64 f'.slope.x) := (cell_of_row W _ 2 _ _ _ hf5).trans rfl
      have d3 : W.cell? ⟨FB, 3, none⟩ = some (.int .i64 f'.slope.y) := (cell_of_row W _ 3 _ _ _ hf5).trans rfl
      simp only [List.getD_cons_zero, List.getD_cons_succ] at g0 g1 g2 g3 g4 f0 f1
      replace hB := Go.Lib.hid hB
      replace hi := Go.Lib.hid hi
      replace g0 := Go.Lib.hid g0
      replace g1 := Go.Lib.hid g1
      replace g2 := Go.Lib.hid g2
      replace g3 := Go.Lib.hid g3
      replace g4 := Go.Lib.hid g4
      replace f0 := Go.Lib.hid f0
      replace f1 := Go.Lib.hid f1
      rcases ii with _ | _ | _ | _ | ii
      · refine wpOp_step rfl (fun K hK => ?_)
        simp only [sets, List.foldl_cons, List.foldl_nil, List.set_cons_succ, List.set_cons_zero]
        go_simp
        exact hK _ _ ⟨(.agg #[.int .i64 k'.size.x, .int .i64 k'.size.y, .int .i64 k'.dens.x, .int .i64 k'.dens.y, .int .i64 k'.strong.x, .int .i64 k'.strong.y, .int .i64 k'.spin.x, .int .i64 k'.spin.y, .int .i64 k'.shape.x, .int .i64 k'.shape.y, .bool k'.pile]), s44, by kernel_rfl, hB.out, g0.out, g1.out, g2.out, g3.out, g4.out, fun _ => rfl, f1.out⟩
      · refine wpOp_step rfl (fun K hK => ?_)
        simp only [sets, List.foldl_cons, List.foldl_nil, List.set_cons_succ, List.set_cons_zero]
        go_simp
        exact hK _ _ ⟨s43, (.agg #[.int .i64 f'.speed.x, .int .i64 f'.speed.y, .int .i64 f'.slope.x, .int .i64 f'.slope.y]), by kernel_rfl, hB.out, g0.out, g1.out, g2.out, g3.out, g4.out, f0.out, fun _ => rfl⟩
      · simp only [le3Deps, List.getD_cons_zero, List.getD_cons_succ, List.all_cons, List.all_nil, Bool.and_true] at hr
        have hd0 := hr
        obtain rfl := f0.out hd0
        have hi := hi.out
        simp only [List.getElem?_cons_zero, List.getElem?_cons_succ, Option.some.injEq] at hi
        subst hi
        have e := g1.out rfl
        refine wpOp_step rfl (fun K hK => ?_)
        simp only [sets, List.foldl_cons, List.foldl_nil, List.set_cons_succ, List.set_cons_zero]
        simp only [Region.wanted]
        refine store_op 31 (.tmp 6) (.tmp 43) rfl R0 #[.int .i64 k'.size.x, .int .i64 k'.size.y, .int .i64 k'.dens.x, .int .i64 k'.dens.y, .int .i64 k'.strong.x, .int .i64 k'.strong.y, .int .i64 k'.spin.x, .int .i64 k'.spin.y, .int .i64 k'.shape.x, .int .i64 k'.shape.y, .bool k'.pile] (by kernel_rfl) (by kernel_rfl) 31 _ e (by kernel_rfl) rfl (by simp [Value.oneCell']) ?_
        exact hK _ _ ⟨(.agg #[.int .i64 k'.size.x, .int .i64 k'.size.y, .int .i64 k'.dens.x, .int .i64 k'.dens.y, .int .i64 k'.strong.x, .int .i64 k'.strong.y, .int .i64 k'.spin.x, .int .i64 k'.spin.y, .int .i64 k'.shape.x, .int .i64 k'.shape.y, .bool k'.pile]), s44, by kernel_rfl, hB.out.row0 _, (fun q h => RingM.row (g0.out q h) (by omega) _), (fun h => by cases h), (fun _ => setRow_heap _ _ _ _ _ _ e), (fun q => (setRow_other W R0 R1 _ (by omega)).trans (g3.out q)), (fun q => (setRow_other W R0 R1 _ (by omega)).trans (g4.out q)), f0.out, f1.out⟩
      · simp only [le3Deps, List.getD_cons_zero, List.getD_cons_succ, List.all_cons, List.all_nil, Bool.and_true] at hr
        have hd1 := hr
        obtain rfl := f1.out hd1
        have hi := hi.out
        simp only [List.getElem?_cons_zero, List.getElem?_cons_succ, Option.some.injEq] at hi
        subst hi
        have e := g3.out rfl
        refine wpOp_step rfl (fun K hK => ?_)
        simp only [sets, List.foldl_cons, List.foldl_nil, List.set_cons_succ, List.set_cons_zero]
        simp only [Region.wanted]
        refine store_op 33 (.tmp 7) (.tmp 44) rfl R1 #[.int .i64 f'.speed.x, .int .i64 f'.speed.y, .int .i64 f'.slope.x, .int .i64 f'.slope.y] (by kernel_rfl) (by kernel_rfl) 33 _ e (by kernel_rfl) rfl (by simp [Value.oneCell']) ?_
        exact hK _ _ ⟨s43, (.agg #[.int .i64 f'.speed.x, .int .i64 f'.speed.y, .int .i64 f'.slope.x, .int .i64 f'.slope.y]), by kernel_rfl, hB.out.row1 _, (fun q h => RingM.row (g0.out q h) (by omega) _), (fun q => (setRow_other W R1 R0 _ (by omega)).trans (g1.out q)), (fun q => (setRow_other W R1 R0 _ (by omega)).trans (g2.out q)), (fun h => by cases h), (fun _ => setRow_heap _ _ _ _ _ _ e), f0.out, f1.out⟩
      · have hi := hi.out; simp at hi
  rintro a4 W4 ⟨ha4, hK4, hR4, g0, g1⟩
  generalize a4.tmps.getD 43 undef = v43 at ha4
  generalize a4.tmps.getD 44 undef = v44 at ha4
  subst ha4
  simp only [sets, List.foldl_cons, List.foldl_nil, List.set_cons_succ, List.set_cons_zero]
  have hB4 := hK4.belowX hB2 (by omega) (by omega) (Nat.le_refl _)
  have hR5 := hR4 ⟨by omega, by omega⟩ hR2
  have u0 : ∀ o, W4.cell? ⟨w.heap.size + 1 + 1, o, none⟩ = (#[.int .i64 A0.x, .int .i64 A0.y, .int .i64 A1.x, .int .i64 A1.y, .int .i64 A2.x, .int .i64 A2.y, .int .i64 A3.x, .int .i64 A3.y, .int .i64 A4.x, .int .i64 A4.y, .bool k.pile] : Array Value)[o]? := fun o => cell_of_row W4 _ o _ _ _ g0
  have u1 : ∀ o, W4.cell? ⟨w.heap.size + 1 + 1 + 1, o, none⟩ = (#[.int .i64 B0.x, .int .i64 B0.y, .int .i64 B1.x, .int .i64 B1.y] : Array Value)[o]? := fun o => cell_of_row W4 _ o _ _ _ g1
  go_wp2_with (first | ((first | with_reducible refine wrx2 ?_ | with_reducible refine wrx ?_); (repeat (first | go_big_quiet_step ((first | fail)) | quiet_step ((first | fail)))); refine wpQuiet_nil ?_; rintro _ ⟨yr, rfl⟩; have syr := Ext.size yr; (repeat (first | rw [World.size_alloc] at syr | rw [World.size_setCell] at syr | rw [World.size_drew] at syr))))
  refine bodyPost_ret (v := .tuple #[.agg #[.int .i64 A0.x, .int .i64 A0.y, .int .i64 A1.x, .int .i64 A1.y, .int .i64 A2.x, .int .i64 A2.y, .int .i64 A3.x, .int .i64 A3.y, .int .i64 A4.x, .int .i64 A4.y, .bool k.pile], .agg #[.int .i64 B0.x, .int .i64 B0.y, .int .i64 B1.x, .int .i64 B1.y]]) (by simp (maxDischargeDepth := 9) [results, Tryd.results39, go_sem, u0, u1]) rfl ?_
  refine ⟨⟨W4, hB4⟩, ⟨A0, A1, A2, A3, A4, k.pile⟩, ⟨B0, B1⟩, rfl, ⟨⟨i0.lo, i0.hi⟩, ⟨i1.lo, i1.hi⟩, ⟨i2.lo, i2.hi⟩, ⟨i3.lo, i3.hi⟩, ⟨i4.lo, i4.hi⟩, rfl, ⟨j0.lo, j0.hi⟩, ⟨j1.lo, j1.hi⟩⟩, ?_, rfl, hR5⟩
  have p0 := i0.lo
  have p1 := i0.hi
  have p2 := i1.lo
  have p3 := i1.hi
  have p4 := i2.lo
  have p5 := i2.hi
  have p6 := i3.lo
  have p7 := i3.hi
  have p8 := i4.lo
  have p9 := i4.hi
  have q0 := j0.lo
  have q1 := j0.hi
  have q2 := j1.lo
  have q3 := j1.hi
  exact ⟨⟨by simp only; omega, i0.le, by simp only; omega⟩, ⟨by simp only; omega, i1.le, by simp only; omega⟩, ⟨by simp only; omega, i2.le, by simp only; omega⟩, ⟨by simp only; omega, i3.le, by simp only; omega⟩, ⟨by simp only; omega, i4.le, by simp only; omega⟩, ⟨by simp only; omega, j0.le, by simp only; omega⟩, ⟨by simp only; omega, j1.le, by simp only; omega⟩⟩
end Go.Proofs.YtlmhbggigbmeaaaDoor

/- Contracts of the fall's methods, of fallOf and of Ends. Written by gen_blf.py. Condition: the table of limits stands as it was laid; valid air and a valid stone. -/
import Derived.Test.YtlmhbggigbmeaaaDoorRootG
import Derived.Test.YtlmhbggigbmeaaaDoorLawListG
import Derived.Test.YtlmhbggigbmeaaaDoorBlS
namespace Go.Proofs.YtlmhbggigbmeaaaDoor
open Go.RowKit Go.Shelf
attribute [local go_sem] Option.isSome_some Ext.cell Ext.frozen Ext.lt Ext.le Ext.lt_add Ext.le_add Ext.ne Ext.ne' lt2 lt3 lt4 lt5 le2 le3 le4
attribute [local go_sem] RExt.cell RExt.frozen RExt.lt RExt.le RExt.lt_add RExt.le_add RExt.ne RExt.ne'
theorem list18 {α : Type} {l : List α} (h : l.length = 18) : ∃ b0 b1 b2 b3 b4 b5 b6 b7 b8 b9 b10 b11 b12 b13 b14 b15 b16 b17, l = [b0, b1, b2, b3, b4, b5, b6, b7, b8, b9, b10, b11, b12, b13, b14, b15, b16, b17] := by
  match l, h with
  | [b0, b1, b2, b3, b4, b5, b6, b7, b8, b9, b10, b11, b12, b13, b14, b15, b16, b17], _ => exact ⟨_, _, _, _, _, _, _, _, _, _, _, _, _, _, _, _, _, _, rfl⟩
def lostDeps : List (List Nat) := [[], [0], [1], [2], [], [4], [5], [6], [3, 7], [8], [], [10], [11], [12], [], [], [14, 9], [15, 13, 16]]
def lostInv (FB A o i n cap : Nat) (th de : Int) (s : StoneR) (a0 : Act) (X : World) (l : List Bool) (fr : Act) (W : World) : Prop :=
  ∃ s3 s4 s11 s12 s13 s14 s15 s16 s17 s18 s19 s20 s21 s22 s23 s24 : Value, fr = sets a0 [(3, s3), (4, s4), (11, s11), (12, s12), (13, s13), (14, s14), (15, s15), (16, s16), (17, s17), (18, s18), (19, s19), (20, s20), (21, s21), (22, s22), (23, s23), (24, s24)] ∧ Below X.heap.size X W ∧
    (l.getD 14 false = true → l.getD 15 false = true → s3 ≠ s4) ∧
    (l.getD 0 false = true → s11 = .pointer (some ⟨FB, 0, none⟩)) ∧
    (l.getD 1 false = true → s12 = .pointer (some ⟨FB, 0, none⟩)) ∧
    (l.getD 2 false = true → s13 = .pointer (some ⟨FB, 0, none⟩)) ∧
    (l.getD 3 false = true → s14 = .slice (some ⟨A, o, none⟩) n cap) ∧
    (l.getD 4 false = true → s15 = .pointer (some ⟨FB, 0, none⟩)) ∧
    (l.getD 5 false = true → s16 = .pointer (some ⟨FB, 0, none⟩)) ∧
    (l.getD 6 false = true → s17 = .pointer (some ⟨FB, 9, none⟩)) ∧
    (l.getD 7 false = true → s18 = .int .i64 i) ∧
    (l.getD 8 false = true → s19 = .pointer (some ⟨A, o + i * 2, none⟩)) ∧
    (l.getD 9 false = true → s20 = .agg #[.int .i64 th, .int .i64 de]) ∧
    (l.getD 10 false = true → s21 = .pointer (some ⟨FB, 0, none⟩)) ∧
    (l.getD 11 false = true → s22 = .pointer (some ⟨FB, 0, none⟩)) ∧
    (l.getD 12 false = true → s23 = .pointer (some ⟨FB, 1, none⟩)) ∧
    (l.getD 13 false = true → s24 = .agg #[.int .i64 s.size, .int .i64 s.dens, .int .i64 s.strong, .int .i64 s.spin, .int .i64 s.shape, .bool s.pile, .int .i64 s.speed, .int .i64 s.slope]) ∧
    (l.getD 14 false = true → ∃ b : Nat, s3 = .pointer (some ⟨b, 0, none⟩) ∧ X.heap.size ≤ b ∧ b < W.heap.size ∧ ∃ cs, cs.size = 2 ∧ W.heap[b]? = some (.cells cs 90 (0, 0)) ∧ (l.getD 16 false = true → cs = #[.int .i64 th, .int .i64 de])) ∧
    (l.getD 15 false = true → ∃ b : Nat, s4 = .pointer (some ⟨b, 0, none⟩) ∧ X.heap.size ≤ b ∧ b < W.heap.size ∧ ∃ cs, cs.size = 8 ∧ W.heap[b]? = some (.cells cs 57 (0, 0)) ∧ (l.getD 17 false = true → cs = #[.int .i64 s.size, .int .i64 s.dens, .int .i64 s.strong, .int .i64 s.spin, .int .i64 s.shape, .bool s.pile, .int .i64 s.speed, .int .i64 s.slope])) ∧
    (l.getD 16 false = true → l.getD 14 false = true) ∧
    (l.getD 17 false = true → l.getD 15 false = true)
def lostTold (th de : Int) (s : StoneR) : Act → World → Act → World → Prop := fun a X a' W => ∃ (BA BB : Nat) (y : Ext X), a' = sets a [(3, .pointer (some ⟨BA, 0, none⟩)), (4, .pointer (some ⟨BB, 0, none⟩)), (11, a'.tmps.getD 11 undef), (12, a'.tmps.getD 12 undef), (13, a'.tmps.getD 13 undef), (14, a'.tmps.getD 14 undef), (15, a'.tmps.getD 15 undef), (16, a'.tmps.getD 16 undef), (17, a'.tmps.getD 17 undef), (18, a'.tmps.getD 18 undef), (19, a'.tmps.getD 19 undef), (20, a'.tmps.getD 20 undef), (21, a'.tmps.getD 21 undef), (22, a'.tmps.getD 22 undef), (23, a'.tmps.getD 23 undef), (24, a'.tmps.getD 24 undef)] ∧ W = y.now ∧ BA < W.heap.size ∧ BB < W.heap.size ∧ W.heap[BA]? = some (.cells #[.int .i64 th, .int .i64 de] 90 (0, 0)) ∧ W.heap[BB]? = some (.cells #[.int .i64 s.size, .int .i64 s.dens, .int .i64 s.strong, .int .i64 s.spin, .int .i64 s.shape, .bool s.pile, .int .i64 s.speed, .int .i64 s.slope] 57 (0, 0))
/-- A fall in block FB. -/
def FallAt (W : World) (FB : Nat) (p : Option Addr) (cap : Nat) (l : List V2) (s : StoneR) (i : Nat) (wv : Int) : Prop := W.heap[FB]? = some (.cells #[.slice p l.length cap, .int .i64 s.size, .int .i64 s.dens, .int .i64 s.strong, .int .i64 s.spin, .int .i64 s.shape, .bool s.pile, .int .i64 s.speed, .int .i64 s.slope, .int .i64 i, .int .i64 wv] 103 (0, 0)) ∧ VecsAt W p l
set_option maxRecDepth 100000 in
set_option maxHeartbeats 16000000 in
theorem lost_any (FB : Nat) (p : Option Addr) (cap : Nat) (l : List V2) (s : StoneR) (i : Nat) (wv : Int) (w : World) (hf : FallAt w FB p cap l s i wv) (hi : i < l.length) (_hl : l.length ≤ 32) (hs : s.Ok) (hair : ∀ v ∈ l, (1 ≤ v.x ∧ v.x ≤ 1000) ∧ 0 ≤ v.y ∧ v.y ≤ 1000) (hw : 0 ≤ wv ∧ wv ≤ 64000000) :
    Calls Tryd.prog 99 #[.pointer (some ⟨FB, 0, none⟩)] w (Gives (.int .i64 (min (wv * kOf s l[i] / dOf s) wv)) w) := by
  obtain ⟨hrow, hv⟩ := hf
  obtain ⟨A, o, rfl, hA, z0, z1⟩ := hv i hi
  obtain ⟨hx, hy⟩ := hair l[i] (List.getElem_mem hi)
  obtain ⟨⟨e1, e2⟩, e3, e4⟩ := lost_bounds hs hx hy hw
  obtain ⟨e5, e6⟩ := way_bounds hs hx
  obtain ⟨e7, e8, -⟩ := k_bounds hs hx hy
  obtain ⟨⟨d1, d2⟩, d3, d4⟩ := d_bounds hs
  have sl := hs.slope
  rw [← e3]
  unfold dOf at *
  generalize l[i].x = th at *
  generalize l[i].y = de at *
  have c1 := fun W => MulDiv_pos th 1000 s.slope W (by omega) (by omega) (by omega) (by omega)
  have c2 := fun W => MulDiv_pos (wv * de) (cei (th * 1000) s.slope * s.shape) (s.dens * s.size * 1000) W (by omega) (by omega) (by omega) e4
  have e9 : 0 ≤ wv * de * (cei (th * 1000) s.slope * s.shape) / (s.dens * s.size * 1000) := Int.ediv_nonneg (Int.mul_nonneg e1 e7) (by omega)
  have x1 : wrap64 (wv * de) = wv * de := IntWalk.wrap64_in _ (by omega)
  have x2 : wrap64 (cei (th * 1000) s.slope * s.shape) = cei (th * 1000) s.slope * s.shape := IntWalk.wrap64_in _ (by omega)
  have x3 : wrap64 (s.dens * s.size) = s.dens * s.size := IntWalk.wrap64_in _ (by omega)
  have x4 : wrap64 (s.dens * s.size * 1000) = s.dens * s.size * 1000 := IntWalk.wrap64_in _ (by omega)
  clear e1 e2 e3 e4 d1 d2 d3 d4 hair
  generalize wv * de * (cei (th * 1000) s.slope * s.shape) / (s.dens * s.size * 1000) = q at *
  generalize cei (wv * de * (cei (th * 1000) s.slope * s.shape)) (s.dens * s.size * 1000) = q2 at *
  generalize cei (th * 1000) s.slope = way at *
  generalize th * 1000 / s.slope = way2 at *
  have hlt2 : (i : Int) < l.length := by omega
  generalize l.length = n at *
  have k0 : w.cell? ⟨FB, 0, none⟩ = some (.slice (some ⟨A, o, none⟩) n cap) := (cell_of_row w _ 0 _ _ _ hrow).trans rfl
  have k1 : w.cell? ⟨FB, 1, none⟩ = some (.int .i64 s.size) := (cell_of_row w _ 1 _ _ _ hrow).trans rfl
  have k2 : w.cell? ⟨FB, 2, none⟩ = some (.int .i64 s.dens) := (cell_of_row w _ 2 _ _ _ hrow).trans rfl
  have k3 : w.cell? ⟨FB, 3, none⟩ = some (.int .i64 s.strong) := (cell_of_row w _ 3 _ _ _ hrow).trans rfl
  have k4 : w.cell? ⟨FB, 4, none⟩ = some (.int .i64 s.spin) := (cell_of_row w _ 4 _ _ _ hrow).trans rfl
  have k5 : w.cell? ⟨FB, 5, none⟩ = some (.int .i64 s.shape) := (cell_of_row w _ 5 _ _ _ hrow).trans rfl
  have k6 : w.cell? ⟨FB, 6, none⟩ = some (.bool s.pile) := (cell_of_row w _ 6 _ _ _ hrow).trans rfl
  have k7 : w.cell? ⟨FB, 7, none⟩ = some (.int .i64 s.speed) := (cell_of_row w _ 7 _ _ _ hrow).trans rfl
  have k8 : w.cell? ⟨FB, 8, none⟩ = some (.int .i64 s.slope) := (cell_of_row w _ 8 _ _ _ hrow).trans rfl
  have k9 : w.cell? ⟨FB, 9, none⟩ = some (.int .i64 i) := (cell_of_row w _ 9 _ _ _ hrow).trans rfl
  have k10 : w.cell? ⟨FB, 10, none⟩ = some (.int .i64 wv) := (cell_of_row w _ 10 _ _ _ hrow).trans rfl
  have hFB : FB < w.heap.size := row_lt hrow
  clear hrow hv hs sl hx hy
  go_enter Tryd.func99, Tryd.ntmps99
  go_upto_region 1 with (first | ((first | with_reducible refine wrx2 ?_ | with_reducible refine wrx ?_); (repeat (first | go_big_quiet_step ((first | fail)) | quiet_step ((first | fail)))); refine wpQuiet_nil ?_; rintro _ ⟨yr, rfl⟩; have syr := Ext.size yr; (repeat (first | rw [World.size_alloc] at syr | rw [World.size_setCell] at syr | rw [World.size_drew] at syr))))
  refine wp_tell (lostTold th de s) ?_ ?_
  focus
    clear c1 c2
    repeat (rename_i zz; clear zz)
    refine region_dep (by kernel_rfl) lostDeps (by kernel_rfl) (lostInv FB A o i n cap th de s) ?h0 ?hstep ?hend
    case h0 =>
      refine ⟨?z3, ?z4, ?z11, ?z12, ?z13, ?z14, ?z15, ?z16, ?z17, ?z18, ?z19, ?z20, ?z21, ?z22, ?z23, ?z24, ?fr, (Below.refl _ _).drew, by simp, by simp, by simp, by simp, by simp, by simp, by simp, by simp, by simp, by simp, by simp, by simp, by simp, by simp, by simp, by simp, by simp, by simp, by simp⟩
      case fr =>
        simp only [sets, List.foldl_cons, List.foldl_nil, List.set_cons_succ, List.set_cons_zero]
        rfl
    case hend =>
      intro l' fr W hl hall hInv
      unfold lostInv at hInv
      obtain ⟨s3, s4, s11, s12, s13, s14, s15, s16, s17, s18, s19, s20, s21, s22, s23, s24, hInv⟩ := hInv
      obtain ⟨hfr, hB, g0, f0, f1, f2, f3, f4, f5, f6, f7, f8, f9, f10, f11, f12, f13, f14, f15, f16, f17⟩ := hInv
      subst hfr
      obtain ⟨b0, b1, b2, b3, b4, b5, b6, b7, b8, b9, b10, b11, b12, b13, b14, b15, b16, b17, rfl⟩ := list18 hl
      simp only [List.getD_cons_zero, List.getD_cons_succ] at g0 f0 f1 f2 f3 f4 f5 f6 f7 f8 f9 f10 f11 f12 f13 f14 f15 f16 f17
      simp only [List.all_cons, id, Bool.and_eq_true] at hall
      obtain ⟨e0, e1, e2, e3, e4, e5, e6, e7, e8, e9, e10, e11, e12, e13, e14, e15, e16, e17, -⟩ := hall
      obtain ⟨BA, rfl, hA1, hA2, cs, hcs, hA3, hA4⟩ := f14 e14
      obtain ⟨BB, rfl, hB1, hB2, cs', hcs', hB3, hB4⟩ := f15 e15
      obtain rfl := hA4 e16
      obtain rfl := hB4 e17
      exact ⟨rfl, BA, BB, ⟨W, hB⟩, by kernel_rfl, rfl, hA2, hB2, hA3, hB3⟩
    case hstep =>
      intro l' fr W ii hl hInv hr hi
      unfold lostInv at hInv
      obtain ⟨s3, s4, s11, s12, s13, s14, s15, s16, s17, s18, s19, s20, s21, s22, s23, s24, hInv⟩ := hInv
      obtain ⟨hfr, hB, g0, f0, f1, f2, f3, f4, f5, f6, f7, f8, f9, f10, f11, f12, f13, f14, f15, f16, f17⟩ := hInv
      subst hfr
      obtain ⟨b0, b1, b2, b3, b4, b5, b6, b7, b8, b9, b10, b11, b12, b13, b14, b15, b16, b17, rfl⟩ := list18 hl
      have sW := hB.size
      replace k0 := (hB.cell (p := ⟨FB, 0, none⟩) hFB).trans k0
      replace k1 := (hB.cell (p := ⟨FB, 1, none⟩) hFB).trans k1
      replace k2 := (hB.cell (p := ⟨FB, 2, none⟩) hFB).trans k2
      replace k3 := (hB.cell (p := ⟨FB, 3, none⟩) hFB).trans k3
      replace k4 := (hB.cell (p := ⟨FB, 4, none⟩) hFB).trans k4
      replace k5 := (hB.cell (p := ⟨FB, 5, none⟩) hFB).trans k5
      replace k6 := (hB.cell (p := ⟨FB, 6, none⟩) hFB).trans k6
      replace k7 := (hB.cell (p := ⟨FB, 7, none⟩) hFB).trans k7
      replace k8 := (hB.cell (p := ⟨FB, 8, none⟩) hFB).trans k8
      replace k9 := (hB.cell (p := ⟨FB, 9, none⟩) hFB).trans k9
      replace k10 := (hB.cell (p := ⟨FB, 10, none⟩) hFB).trans k10
      replace z0 := (hB.cell (p := ⟨A, o + i * 2, none⟩) hA).trans z0
      replace z1 := (hB.cell (p := ⟨A, o + i * 2 + 1, none⟩) hA).trans z1
      simp only [List.getD_cons_zero, List.getD_cons_succ] at g0 f0 f1 f2 f3 f4 f5 f6 f7 f8 f9 f10 f11 f12 f13 f14 f15 f16 f17
      replace hB := Go.Lib.hid hB
      replace hi := Go.Lib.hid hi
      replace g0 := Go.Lib.hid g0
      replace f0 := Go.Lib.hid f0
      replace f1 := Go.Lib.hid f1
      replace f2 := Go.Lib.hid f2
      replace f3 := Go.Lib.hid f3
      replace f4 := Go.Lib.hid f4
      replace f5 := Go.Lib.hid f5
      replace f6 := Go.Lib.hid f6
      replace f7 := Go.Lib.hid f7
      replace f8 := Go.Lib.hid f8
      replace f9 := Go.Lib.hid f9
      replace f10 := Go.Lib.hid f10
      replace f11 := Go.Lib.hid f11
      replace f12 := Go.Lib.hid f12
      replace f13 := Go.Lib.hid f13
      replace f14 := Go.Lib.hid f14
      replace f15 := Go.Lib.hid f15
      replace f16 := Go.Lib.hid f16
      replace f17 := Go.Lib.hid f17
      rcases ii with _ | _ | _ | _ | _ | _ | _ | _ | _ | _ | _ | _ | _ | _ | _ | _ | _ | _ | ii
      · refine wpOp_step rfl (fun K hK => ?_)
        simp only [sets, List.foldl_cons, List.foldl_nil, List.set_cons_succ, List.set_cons_zero]
        go_simp
        exact hK _ _ ⟨s3, s4, (.pointer (some ⟨FB, 0, none⟩)), s12, s13, s14, s15, s16, s17, s18, s19, s20, s21, s22, s23, s24, by kernel_rfl, hB.out, g0.out, fun _ => rfl, f1.out, f2.out, f3.out, f4.out, f5.out, f6.out, f7.out, f8.out, f9.out, f10.out, f11.out, f12.out, f13.out, f14.out, f15.out, f16.out, f17.out⟩
      · simp only [lostDeps, List.getD_cons_zero, List.getD_cons_succ, List.all_cons, List.all_nil, Bool.and_true] at hr
        have hd0 := hr
        obtain rfl := f0.out hd0
        refine wpOp_step rfl (fun K hK => ?_)
        simp only [sets, List.foldl_cons, List.foldl_nil, List.set_cons_succ, List.set_cons_zero]
        go_simp
        exact hK _ _ ⟨s3, s4, (.pointer (some ⟨FB, 0, none⟩)), (.pointer (some ⟨FB, 0, none⟩)), s13, s14, s15, s16, s17, s18, s19, s20, s21, s22, s23, s24, by kernel_rfl, hB.out, g0.out, f0.out, fun _ => rfl, f2.out, f3.out, f4.out, f5.out, f6.out, f7.out, f8.out, f9.out, f10.out, f11.out, f12.out, f13.out, f14.out, f15.out, f16.out, f17.out⟩
      · simp only [lostDeps, List.getD_cons_zero, List.getD_cons_succ, List.all_cons, List.all_nil, Bool.and_true] at hr
        have hd1 := hr
        obtain rfl := f1.out hd1
        refine wpOp_step rfl (fun K hK => ?_)
        simp only [sets, List.foldl_cons, List.foldl_nil, List.set_cons_succ, List.set_cons_zero]
        go_simp
        exact hK _ _ ⟨s3, s4, s11, (.pointer (some ⟨FB, 0, none⟩)), (.pointer (some ⟨FB, 0, none⟩)), s14, s15, s16, s17, s18, s19, s20, s21, s22, s23, s24, by kernel_rfl, hB.out, g0.out, f0.out, f1.out, fun _ => rfl, f3.out, f4.out, f5.out, f6.out, f7.out, f8.out, f9.out, f10.out, f11.out, f12.out, f13.out, f14.out, f15.out, f16.out, f17.out⟩
      · simp only [lostDeps, List.getD_cons_zero, List.getD_cons_succ, List.all_cons, List.all_nil, Bool.and_true] at hr
        have hd2 := hr
        obtain rfl := f2.out hd2
        refine wpOp_step rfl (fun K hK => ?_)
        simp only [sets, List.foldl_cons, List.foldl_nil, List.set_cons_succ, List.set_cons_zero]
        go_simp
        exact hK _ _ ⟨s3, s4, s11, s12, (.pointer (some ⟨FB, 0, none⟩)), (.slice (some ⟨A, o, none⟩) n cap), s15, s16, s17, s18, s19, s20, s21, s22, s23, s24, by kernel_rfl, hB.out, g0.out, f0.out, f1.out, f2.out, fun _ => rfl, f4.out, f5.out, f6.out, f7.out, f8.out, f9.out, f10.out, f11.out, f12.out, f13.out, f14.out, f15.out, f16.out, f17.out⟩
      · refine wpOp_step rfl (fun K hK => ?_)
        simp only [sets, List.foldl_cons, List.foldl_nil, List.set_cons_succ, List.set_cons_zero]
        go_simp
        exact hK _ _ ⟨s3, s4, s11, s12, s13, s14, (.pointer (some ⟨FB, 0, none⟩)), s16, s17, s18, s19, s20, s21, s22, s23, s24, by kernel_rfl, hB.out, g0.out, f0.out, f1.out, f2.out, f3.out, fun _ => rfl, f5.out, f6.out, f7.out, f8.out, f9.out, f10.out, f11.out, f12.out, f13.out, f14.out, f15.out, f16.out, f17.out⟩
      · simp only [lostDeps, List.getD_cons_zero, List.getD_cons_succ, List.all_cons, List.all_nil, Bool.and_true] at hr
        have hd4 := hr
        obtain rfl := f4.out hd4
        refine wpOp_step rfl (fun K hK => ?_)
        simp only [sets, List.foldl_cons, List.foldl_nil, List.set_cons_succ, List.set_cons_zero]
        go_simp
        exact hK _ _ ⟨s3, s4, s11, s12, s13, s14, (.pointer (some ⟨FB, 0, none⟩)), (.pointer (some ⟨FB, 0, none⟩)), s17, s18, s19, s20, s21, s22, s23, s24, by kernel_rfl, hB.out, g0.out, f0.out, f1.out, f2.out, f3.out, f4.out, fun _ => rfl, f6.out, f7.out, f8.out, f9.out, f10.out, f11.out, f12.out, f13.out, f14.out, f15.out, f16.out, f17.out⟩
      · simp only [lostDeps, List.getD_cons_zero, List.getD_cons_succ, List.all_cons, List.all_nil, Bool.and_true] at hr
        have hd5 := hr
        obtain rfl := f5.out hd5
        refine wpOp_step rfl (fun K hK => ?_)
        simp only [sets, List.foldl_cons, List.foldl_nil, List.set_cons_succ, List.set_cons_zero]
        go_simp
        exact hK _ _ ⟨s3, s4, s11, s12, s13, s14, s15, (.pointer (some ⟨FB, 0, none⟩)), (.pointer (some ⟨FB, 9, none⟩)), s18, s19, s20, s21, s22, s23, s24, by kernel_rfl, hB.out, g0.out, f0.out, f1.out, f2.out, f3.out, f4.out, f5.out, fun _ => rfl, f7.out, f8.out, f9.out, f10.out, f11.out, f12.out, f13.out, f14.out, f15.out, f16.out, f17.out⟩
      · simp only [lostDeps, List.getD_cons_zero, List.getD_cons_succ, List.all_cons, List.all_nil, Bool.and_true] at hr
        have hd6 := hr
        obtain rfl := f6.out hd6
        refine wpOp_step rfl (fun K hK => ?_)
        simp only [sets, List.foldl_cons, List.foldl_nil, List.set_cons_succ, List.set_cons_zero]
        go_simp
        exact hK _ _ ⟨s3, s4, s11, s12, s13, s14, s15, s16, (.pointer (some ⟨FB, 9, none⟩)), (.int .i64 i), s19, s20, s21, s22, s23, s24, by kernel_rfl, hB.out, g0.out, f0.out, f1.out, f2.out, f3.out, f4.out, f5.out, f6.out, fun _ => rfl, f8.out, f9.out, f10.out, f11.out, f12.out, f13.out, f14.out, f15.out, f16.out, f17.out⟩
      · simp only [lostDeps, List.getD_cons_zero, List.getD_cons_succ, List.all_cons, List.all_nil, Bool.and_true, Bool.and_eq_true] at hr
        obtain ⟨hd3, hd7⟩ := hr
        obtain rfl := f3.out hd3
        obtain rfl := f7.out hd7
        refine wpOp_step rfl (fun K hK => ?_)
        simp only [sets, List.foldl_cons, List.foldl_nil, List.set_cons_succ, List.set_cons_zero]
        go_simp
        exact hK _ _ ⟨s3, s4, s11, s12, s13, (.slice (some ⟨A, o, none⟩) n cap), s15, s16, s17, (.int .i64 i), (.pointer (some ⟨A, o + i * 2, none⟩)), s20, s21, s22, s23, s24, by kernel_rfl, hB.out, g0.out, f0.out, f1.out, f2.out, f3.out, f4.out, f5.out, f6.out, f7.out, fun _ => rfl, f9.out, f10.out, f11.out, f12.out, f13.out, f14.out, f15.out, f16.out, f17.out⟩
      · simp only [lostDeps, List.getD_cons_zero, List.getD_cons_succ, List.all_cons, List.all_nil, Bool.and_true] at hr
        have hd8 := hr
        obtain rfl := f8.out hd8
        refine wpOp_step rfl (fun K hK => ?_)
        simp only [sets, List.foldl_cons, List.foldl_nil, List.set_cons_succ, List.set_cons_zero]
        go_simp
        exact hK _ _ ⟨s3, s4, s11, s12, s13, s14, s15, s16, s17, s18, (.pointer (some ⟨A, o + i * 2, none⟩)), (.agg #[.int .i64 th, .int .i64 de]), s21, s22, s23, s24, by kernel_rfl, hB.out, g0.out, f0.out, f1.out, f2.out, f3.out, f4.out, f5.out, f6.out, f7.out, f8.out, fun _ => rfl, f10.out, f11.out, f12.out, f13.out, f14.out, f15.out, f16.out, f17.out⟩
      · refine wpOp_step rfl (fun K hK => ?_)
        simp only [sets, List.foldl_cons, List.foldl_nil, List.set_cons_succ, List.set_cons_zero]
        go_simp
        exact hK _ _ ⟨s3, s4, s11, s12, s13, s14, s15, s16, s17, s18, s19, s20, (.pointer (some ⟨FB, 0, none⟩)), s22, s23, s24, by kernel_rfl, hB.out, g0.out, f0.out, f1.out, f2.out, f3.out, f4.out, f5.out, f6.out, f7.out, f8.out, f9.out, fun _ => rfl, f11.out, f12.out, f13.out, f14.out, f15.out, f16.out, f17.out⟩
      · simp only [lostDeps, List.getD_cons_zero, List.getD_cons_succ, List.all_cons, List.all_nil, Bool.and_true] at hr
        have hd10 := hr
        obtain rfl := f10.out hd10
        refine wpOp_step rfl (fun K hK => ?_)
        simp only [sets, List.foldl_cons, List.foldl_nil, List.set_cons_succ, List.set_cons_zero]
        go_simp
        exact hK _ _ ⟨s3, s4, s11, s12, s13, s14, s15, s16, s17, s18, s19, s20, (.pointer (some ⟨FB, 0, none⟩)), (.pointer (some ⟨FB, 0, none⟩)), s23, s24, by kernel_rfl, hB.out, g0.out, f0.out, f1.out, f2.out, f3.out, f4.out, f5.out, f6.out, f7.out, f8.out, f9.out, f10.out, fun _ => rfl, f12.out, f13.out, f14.out, f15.out, f16.out, f17.out⟩
      · simp only [lostDeps, List.getD_cons_zero, List.getD_cons_succ, List.all_cons, List.all_nil, Bool.and_true] at hr
        have hd11 := hr
        obtain rfl := f11.out hd11
        refine wpOp_step rfl (fun K hK => ?_)
        simp only [sets, List.foldl_cons, List.foldl_nil, List.set_cons_succ, List.set_cons_zero]
        go_simp
        exact hK _ _ ⟨s3, s4, s11, s12, s13, s14, s15, s16, s17, s18, s19, s20, s21, (.pointer (some ⟨FB, 0, none⟩)), (.pointer (some ⟨FB, 1, none⟩)), s24, by kernel_rfl, hB.out, g0.out, f0.out, f1.out, f2.out, f3.out, f4.out, f5.out, f6.out, f7.out, f8.out, f9.out, f10.out, f11.out, fun _ => rfl, f13.out, f14.out, f15.out, f16.out, f17.out⟩
      · simp only [lostDeps, List.getD_cons_zero, List.getD_cons_succ, List.all_cons, List.all_nil, Bool.and_true] at hr
        have hd12 := hr
        obtain rfl := f12.out hd12
        refine wpOp_step rfl (fun K hK => ?_)
        simp only [sets, List.foldl_cons, List.foldl_nil, List.set_cons_succ, List.set_cons_zero]
        go_simp
        exact hK _ _ ⟨s3, s4, s11, s12, s13, s14, s15, s16, s17, s18, s19, s20, s21, s22, (.pointer (some ⟨FB, 1, none⟩)), (.agg #[.int .i64 s.size, .int .i64 s.dens, .int .i64 s.strong, .int .i64 s.spin, .int .i64 s.shape, .bool s.pile, .int .i64 s.speed, .int .i64 s.slope]), by kernel_rfl, hB.out, g0.out, f0.out, f1.out, f2.out, f3.out, f4.out, f5.out, f6.out, f7.out, f8.out, f9.out, f10.out, f11.out, f12.out, fun _ => rfl, f14.out, f15.out, f16.out, f17.out⟩
      · have hi := hi.out
        simp only [List.getElem?_cons_zero, List.getElem?_cons_succ, Option.some.injEq] at hi
        subst hi
        refine wpOp_step rfl (fun K hK => ?_)
        simp only [sets, List.foldl_cons, List.foldl_nil, List.set_cons_succ, List.set_cons_zero]
        go_simp
        exact hK _ _ ⟨(.pointer (some ⟨W.heap.size, 0, none⟩)), s4, s11, s12, s13, s14, s15, s16, s17, s18, s19, s20, s21, s22, s23, s24, by kernel_rfl, hB.out.alloc sW _, (fun _ h => by obtain ⟨b, e1, e2, e3, -⟩ := f15.out h; rw [e1]; intro e; injection e with e; injection e with e; injection e with e; omega), f0.out, f1.out, f2.out, f3.out, f4.out, f5.out, f6.out, f7.out, f8.out, f9.out, f10.out, f11.out, f12.out, f13.out, (fun _ => ⟨W.heap.size, rfl, sW, by simp, _, by rfl, heap_alloc_new _ _, fun h => by have h2 := f16.out h; cases h2⟩), (fun h => by obtain ⟨b, e1, e2, e3, cs, e4, e5, e6⟩ := f15.out h; exact ⟨b, e1, e2, by simp only [World.size_alloc]; omega, cs, e4, (heap_alloc_old _ _ e3).trans e5, e6⟩), (fun _ => rfl), f17.out⟩
      · have hi := hi.out
        simp only [List.getElem?_cons_zero, List.getElem?_cons_succ, Option.some.injEq] at hi
        subst hi
        refine wpOp_step rfl (fun K hK => ?_)
        simp only [sets, List.foldl_cons, List.foldl_nil, List.set_cons_succ, List.set_cons_zero]
        go_simp
        exact hK _ _ ⟨s3, (.pointer (some ⟨W.heap.size, 0, none⟩)), s11, s12, s13, s14, s15, s16, s17, s18, s19, s20, s21, s22, s23, s24, by kernel_rfl, hB.out.alloc sW _, (fun h _ => by obtain ⟨b, e1, e2, e3, -⟩ := f14.out h; rw [e1]; intro e; injection e with e; injection e with e; injection e with e; omega), f0.out, f1.out, f2.out, f3.out, f4.out, f5.out, f6.out, f7.out, f8.out, f9.out, f10.out, f11.out, f12.out, f13.out, (fun h => by obtain ⟨b, e1, e2, e3, cs, e4, e5, e6⟩ := f14.out h; exact ⟨b, e1, e2, by simp only [World.size_alloc]; omega, cs, e4, (heap_alloc_old _ _ e3).trans e5, e6⟩), (fun _ => ⟨W.heap.size, rfl, sW, by simp, _, by rfl, heap_alloc_new _ _, fun h => by have h2 := f17.out h; cases h2⟩), f16.out, (fun _ => rfl)⟩
      · simp only [lostDeps, List.getD_cons_zero, List.getD_cons_succ, List.all_cons, List.all_nil, Bool.and_true, Bool.and_eq_true] at hr
        obtain ⟨hd14, hd9⟩ := hr
        obtain rfl := f9.out hd9
        obtain ⟨b, rfl, e2, e3, cs, e4, e5, e6⟩ := f14.out hd14
        refine wpOp_step rfl (fun K hK => ?_)
        simp only [sets, List.foldl_cons, List.foldl_nil, List.set_cons_succ, List.set_cons_zero]
        simp only [Region.wanted]
        refine store_op 90 (.tmp 3) (.tmp 20) rfl b #[.int .i64 th, .int .i64 de] (by kernel_rfl) (by kernel_rfl) 90 cs e5 (by kernel_rfl) (by rw [e4]; rfl) (by simp [Value.oneCell']) ?_
        exact hK _ _ ⟨(.pointer (some ⟨b, 0, none⟩)), s4, s11, s12, s13, s14, s15, s16, s17, s18, s19, (.agg #[.int .i64 th, .int .i64 de]), s21, s22, s23, s24, by kernel_rfl, below_setRow hB.out e2 _, g0.out, f0.out, f1.out, f2.out, f3.out, f4.out, f5.out, f6.out, f7.out, f8.out, f9.out, f10.out, f11.out, f12.out, f13.out, (fun _ => ⟨b, rfl, e2, by simpa using e3, #[.int .i64 th, .int .i64 de], rfl, setRow_heap W b cs #[.int .i64 th, .int .i64 de] 90 (0, 0) e5, fun _ => rfl⟩), (fun h => by obtain ⟨b', e1', e2', e3', cs', e4', e5', e6'⟩ := f15.out h; have hne : b' ≠ b := fun e => g0.out hd14 h (by rw [e1', e]); exact ⟨b', e1', e2', by simpa using e3', cs', e4', (setRow_other W b b' _ hne).trans e5', e6'⟩), (fun _ => hd14), f17.out⟩
      · simp only [lostDeps, List.getD_cons_zero, List.getD_cons_succ, List.all_cons, List.all_nil, Bool.and_true, Bool.and_eq_true] at hr
        obtain ⟨hd15, hd13, hd16⟩ := hr
        obtain rfl := f13.out hd13
        obtain ⟨b, rfl, e2, e3, cs, e4, e5, e6⟩ := f15.out hd15
        refine wpOp_step rfl (fun K hK => ?_)
        simp only [sets, List.foldl_cons, List.foldl_nil, List.set_cons_succ, List.set_cons_zero]
        simp only [Region.wanted]
        refine store_op 57 (.tmp 4) (.tmp 24) rfl b #[.int .i64 s.size, .int .i64 s.dens, .int .i64 s.strong, .int .i64 s.spin, .int .i64 s.shape, .bool s.pile, .int .i64 s.speed, .int .i64 s.slope] (by kernel_rfl) (by kernel_rfl) 57 cs e5 (by kernel_rfl) (by rw [e4]; rfl) (by simp [Value.oneCell']) ?_
        exact hK _ _ ⟨s3, (.pointer (some ⟨b, 0, none⟩)), s11, s12, s13, s14, s15, s16, s17, s18, s19, s20, s21, s22, s23, (.agg #[.int .i64 s.size, .int .i64 s.dens, .int .i64 s.strong, .int .i64 s.spin, .int .i64 s.shape, .bool s.pile, .int .i64 s.speed, .int .i64 s.slope]), by kernel_rfl, below_setRow hB.out e2 _, g0.out, f0.out, f1.out, f2.out, f3.out, f4.out, f5.out, f6.out, f7.out, f8.out, f9.out, f10.out, f11.out, f12.out, f13.out, (fun h => by obtain ⟨b', e1', e2', e3', cs', e4', e5', e6'⟩ := f14.out h; have hne : b' ≠ b := fun e => g0.out h hd15 (by rw [e1', e]); exact ⟨b', e1', e2', by simpa using e3', cs', e4', (setRow_other W b b' _ hne).trans e5', e6'⟩), (fun _ => ⟨b, rfl, e2, by simpa using e3, #[.int .i64 s.size, .int .i64 s.dens, .int .i64 s.strong, .int .i64 s.spin, .int .i64 s.shape, .bool s.pile, .int .i64 s.speed, .int .i64 s.slope], rfl, setRow_heap W b cs #[.int .i64 s.size, .int .i64 s.dens, .int .i64 s.strong, .int .i64 s.spin, .int .i64 s.shape, .bool s.pile, .int .i64 s.speed, .int .i64 s.slope] 57 (0, 0) e5, fun _ => rfl⟩), f16.out, (fun _ => hd15)⟩
      · have hi := hi.out; simp at hi
  rintro a4 W4 ⟨BA, BB, y, ha4, rfl, hBA, hBB, rA, rB⟩
  generalize a4.tmps.getD 11 undef = s11 at ha4
  generalize a4.tmps.getD 12 undef = s12 at ha4
  generalize a4.tmps.getD 13 undef = s13 at ha4
  generalize a4.tmps.getD 14 undef = s14 at ha4
  generalize a4.tmps.getD 15 undef = s15 at ha4
  generalize a4.tmps.getD 16 undef = s16 at ha4
  generalize a4.tmps.getD 17 undef = s17 at ha4
  generalize a4.tmps.getD 18 undef = s18 at ha4
  generalize a4.tmps.getD 19 undef = s19 at ha4
  generalize a4.tmps.getD 20 undef = s20 at ha4
  generalize a4.tmps.getD 21 undef = s21 at ha4
  generalize a4.tmps.getD 22 undef = s22 at ha4
  generalize a4.tmps.getD 23 undef = s23 at ha4
  generalize a4.tmps.getD 24 undef = s24 at ha4
  subst ha4
  simp only [sets, List.foldl_cons, List.foldl_nil, List.set_cons_succ, List.set_cons_zero]
  have a0 : y.now.cell? ⟨BA, 0, none⟩ = some (.int .i64 th) := (cell_of_row _ BA 0 _ _ _ rA).trans rfl
  have a1 : y.now.cell? ⟨BA, 1, none⟩ = some (.int .i64 de) := (cell_of_row _ BA 1 _ _ _ rA).trans rfl
  have b0 : y.now.cell? ⟨BB, 0, none⟩ = some (.int .i64 s.size) := (cell_of_row _ BB 0 _ _ _ rB).trans rfl
  have b1 : y.now.cell? ⟨BB, 1, none⟩ = some (.int .i64 s.dens) := (cell_of_row _ BB 1 _ _ _ rB).trans rfl
  have b2 : y.now.cell? ⟨BB, 2, none⟩ = some (.int .i64 s.strong) := (cell_of_row _ BB 2 _ _ _ rB).trans rfl
  have b3 : y.now.cell? ⟨BB, 3, none⟩ = some (.int .i64 s.spin) := (cell_of_row _ BB 3 _ _ _ rB).trans rfl
  have b4 : y.now.cell? ⟨BB, 4, none⟩ = some (.int .i64 s.shape) := (cell_of_row _ BB 4 _ _ _ rB).trans rfl
  have b5 : y.now.cell? ⟨BB, 5, none⟩ = some (.bool s.pile) := (cell_of_row _ BB 5 _ _ _ rB).trans rfl
  have b6 : y.now.cell? ⟨BB, 6, none⟩ = some (.int .i64 s.speed) := (cell_of_row _ BB 6 _ _ _ rB).trans rfl
  have b7 : y.now.cell? ⟨BB, 7, none⟩ = some (.int .i64 s.slope) := (cell_of_row _ BB 7 _ _ _ rB).trans rfl
  replace k0 := (y.cell (o := 0) hFB).trans k0
  replace k1 := (y.cell (o := 1) hFB).trans k1
  replace k2 := (y.cell (o := 2) hFB).trans k2
  replace k3 := (y.cell (o := 3) hFB).trans k3
  replace k4 := (y.cell (o := 4) hFB).trans k4
  replace k5 := (y.cell (o := 5) hFB).trans k5
  replace k6 := (y.cell (o := 6) hFB).trans k6
  replace k7 := (y.cell (o := 7) hFB).trans k7
  replace k8 := (y.cell (o := 8) hFB).trans k8
  replace k9 := (y.cell (o := 9) hFB).trans k9
  replace k10 := (y.cell (o := 10) hFB).trans k10
  have hFB2 : FB < y.now.heap.size := by have := y.size; omega
  have hfin : Below w.heap.size w y.now := y.grew
  have hws := y.size
  clear rA rB z0 z1
  generalize y.now = W4 at *
  go_wp2_with (first | ((first | with_reducible refine wrx2 ?_ | with_reducible refine wrx ?_); (repeat (first | go_big_quiet_step ((first | (go_at_call 106; with_reducible exact Calls.ext (c1 _)) | (go_at_call 106; with_reducible exact Calls.ext (c2 _)))) | quiet_step ((first | (go_at_call 106; with_reducible exact Calls.ext (c1 _)) | (go_at_call 106; with_reducible exact Calls.ext (c2 _)))))); refine wpQuiet_nil ?_; rintro _ ⟨yr, rfl⟩; have syr := Ext.size yr; (repeat (first | rw [World.size_alloc] at syr | rw [World.size_setCell] at syr | rw [World.size_drew] at syr)); have : BA < yr.now.heap.size := (by omega); have : BA ≤ yr.now.heap.size := (by omega); have : BA < yr.now.heap.size + 1 + 1 := (by omega); have : BB < yr.now.heap.size := (by omega); have : BB ≤ yr.now.heap.size := (by omega); have : BB < yr.now.heap.size + 1 + 1 := (by omega); have : FB < yr.now.heap.size := (by omega); have : FB ≤ yr.now.heap.size := (by omega); have : FB < yr.now.heap.size + 1 + 1 := (by omega)) | (go_at_call 106; (first | with_reducible refine (Calls.giv2 (c1 _)).mono ?_ | with_reducible refine (Calls.giv (c1 _)).mono ?_); rintro _ _ ⟨y1, rfl, rfl⟩; have sy1 := Ext.size y1; (repeat (first | rw [World.size_alloc] at sy1 | rw [World.size_setCell] at sy1 | rw [World.size_drew] at sy1)); have : BA < y1.now.heap.size := (by omega); have : BA ≤ y1.now.heap.size := (by omega); have : BA < y1.now.heap.size + 1 + 1 := (by omega); have : BB < y1.now.heap.size := (by omega); have : BB ≤ y1.now.heap.size := (by omega); have : BB < y1.now.heap.size + 1 + 1 := (by omega); have : FB < y1.now.heap.size := (by omega); have : FB ≤ y1.now.heap.size := (by omega); have : FB < y1.now.heap.size + 1 + 1 := (by omega)) | (go_at_call 106; (first | with_reducible refine (Calls.giv2 (c2 _)).mono ?_ | with_reducible refine (Calls.giv (c2 _)).mono ?_); rintro _ _ ⟨y2, rfl, rfl⟩; have sy2 := Ext.size y2; (repeat (first | rw [World.size_alloc] at sy2 | rw [World.size_setCell] at sy2 | rw [World.size_drew] at sy2)); have : BA < y2.now.heap.size := (by omega); have : BA ≤ y2.now.heap.size := (by omega); have : BA < y2.now.heap.size + 1 + 1 := (by omega); have : BB < y2.now.heap.size := (by omega); have : BB ≤ y2.now.heap.size := (by omega); have : BB < y2.now.heap.size + 1 + 1 := (by omega); have : FB < y2.now.heap.size := (by omega); have : FB ≤ y2.now.heap.size := (by omega); have : FB < y2.now.heap.size + 1 + 1 := (by omega)))
  all_goals go_returns
  all_goals refine ⟨rfl, ?_⟩
  repeat' (first | (with_reducible exact Below.refl _ _) | (with_reducible assumption) | (with_reducible refine Ext.below _ ?_ ?_) | (with_reducible refine Below.on ?_ (by with_reducible assumption) ?_) | (with_reducible refine Below.alloc ?_ ?_ _) | (with_reducible refine Below.drew ?_) | (with_reducible refine Below.setCell ?_ ?_ _) | (with_reducible exact Nat.le_refl _) | omega | (simp; done) | (simp [go_sem]; done) | (simp at *; omega))
end Go.Proofs.YtlmhbggigbmeaaaDoor

/- Contract of SoleRock: the rock of one stone. Written by gen_sole.py. No condition. -/
import Derived.Test.YtlmhbggigbmeaaaDoorBlBgG
import Derived.Test.YtlmhbggigbmeaaaDoorRootG
namespace Go.Proofs.YtlmhbggigbmeaaaDoor
open Go.RowKit Go.Shelf
attribute [local go_sem] Option.isSome_some Ext.cell Ext.frozen Ext.lt Ext.le Ext.lt_add Ext.le_add Ext.ne Ext.ne' lt2 lt3 lt4 lt5 le2 le3 le4
theorem list27 {α : Type} {l : List α} (h : l.length = 27) : ∃ b0 b1 b2 b3 b4 b5 b6 b7 b8 b9 b10 b11 b12 b13 b14 b15 b16 b17 b18 b19 b20 b21 b22 b23 b24 b25 b26, l = [b0, b1, b2, b3, b4, b5, b6, b7, b8, b9, b10, b11, b12, b13, b14, b15, b16, b17, b18, b19, b20, b21, b22, b23, b24, b25, b26] := by
  match l, h with
  | [b0, b1, b2, b3, b4, b5, b6, b7, b8, b9, b10, b11, b12, b13, b14, b15, b16, b17, b18, b19, b20, b21, b22, b23, b24, b25, b26], _ => exact ⟨_, _, _, _, _, _, _, _, _, _, _, _, _, _, _, _, _, _, _, _, _, _, _, _, _, _, _, rfl⟩
def soleRDeps : List (List Nat) := [[], [0], [1], [], [3], [4, 2], [], [6], [7, 5], [], [9], [10, 8], [], [12], [13, 11], [], [15], [2, 5, 8, 11, 14, 16], [], [18], [19, 14], [], [21], [22, 20], [20, 23], [17, 23], [24, 25]]
def soleRInv (R : Nat) (s : StoneR) (a0 : Act) (X : World) (l : List Bool) (fr : Act) (W : World) : Prop :=
  ∃ s4 s5 s6 s7 s8 s9 s10 s11 s12 s13 s14 s15 s16 s17 s18 s19 s20 s21 s22 s23 s24 s25 s26 s27 s28 : Value, fr = sets a0 [(4, s4), (5, s5), (6, s6), (7, s7), (8, s8), (9, s9), (10, s10), (11, s11), (12, s12), (13, s13), (14, s14), (15, s15), (16, s16), (17, s17), (18, s18), (19, s19), (20, s20), (21, s21), (22, s22), (23, s23), (24, s24), (25, s25), (26, s26), (27, s27), (28, s28)] ∧ KeptX (R + 1) (R + 1) (R + 1 + 1 + 1) X W ∧
    (l.getD 25 false = false → W.heap[R + 1]? = some (.cells #[.int .i64 0, .int .i64 0, .int .i64 0, .int .i64 0, .int .i64 0, .int .i64 0, .int .i64 0, .int .i64 0, .int .i64 0, .int .i64 0, .bool false] 31 (0, 0))) ∧
    (l.getD 26 false = false → W.heap[R + 1 + 1]? = some (.cells #[.int .i64 0, .int .i64 0, .int .i64 0, .int .i64 0] 33 (0, 0))) ∧
    (l.getD 25 false = true → W.heap[R + 1]? = some (.cells #[.int .i64 s.size, .int .i64 s.size, .int .i64 s.dens, .int .i64 s.dens, .int .i64 s.strong, .int .i64 s.strong, .int .i64 s.spin, .int .i64 s.spin, .int .i64 s.shape, .int .i64 s.shape, .bool s.pile] 31 (0, 0))) ∧
    (l.getD 26 false = true → W.heap[R + 1 + 1]? = some (.cells #[.int .i64 s.speed, .int .i64 s.speed, .int .i64 s.slope, .int .i64 s.slope] 33 (0, 0))) ∧
    (l.getD 0 false = true → s4 = .pointer (some ⟨R, 0, none⟩)) ∧
    (l.getD 1 false = true → s5 = .int .i64 s.size) ∧
    (l.getD 2 false = true → s6 = .agg #[.int .i64 s.size, .int .i64 s.size]) ∧
    (l.getD 3 false = true → s7 = .pointer (some ⟨R, 1, none⟩)) ∧
    (l.getD 4 false = true → s8 = .int .i64 s.dens) ∧
    (l.getD 5 false = true → s9 = .agg #[.int .i64 s.dens, .int .i64 s.dens]) ∧
    (l.getD 6 false = true → s10 = .pointer (some ⟨R, 2, none⟩)) ∧
    (l.getD 7 false = true → s11 = .int .i64 s.strong) ∧
    (l.getD 8 false = true → s12 = .agg #[.int .i64 s.strong, .int .i64 s.strong]) ∧
    (l.getD 9 false = true → s13 = .pointer (some ⟨R, 3, none⟩)) ∧
    (l.getD 10 false = true → s14 = .int .i64 s.spin) ∧
    (l.getD 11 false = true → s15 = .agg #[.int .i64 s.spin, .int .i64 s.spin]) ∧
    (l.getD 12 false = true → s16 = .pointer (some ⟨R, 4, none⟩)) ∧
    (l.getD 13 false = true → s17 = .int .i64 s.shape) ∧
    (l.getD 14 false = true → s18 = .agg #[.int .i64 s.shape, .int .i64 s.shape]) ∧
    (l.getD 15 false = true → s19 = .pointer (some ⟨R, 5, none⟩)) ∧
    (l.getD 16 false = true → s20 = .bool s.pile) ∧
    (l.getD 17 false = true → s21 = .agg #[.int .i64 s.size, .int .i64 s.size, .int .i64 s.dens, .int .i64 s.dens, .int .i64 s.strong, .int .i64 s.strong, .int .i64 s.spin, .int .i64 s.spin, .int .i64 s.shape, .int .i64 s.shape, .bool s.pile]) ∧
    (l.getD 18 false = true → s22 = .pointer (some ⟨R, 6, none⟩)) ∧
    (l.getD 19 false = true → s23 = .int .i64 s.speed) ∧
    (l.getD 20 false = true → s24 = .agg #[.int .i64 s.speed, .int .i64 s.speed]) ∧
    (l.getD 21 false = true → s25 = .pointer (some ⟨R, 7, none⟩)) ∧
    (l.getD 22 false = true → s26 = .int .i64 s.slope) ∧
    (l.getD 23 false = true → s27 = .agg #[.int .i64 s.slope, .int .i64 s.slope]) ∧
    (l.getD 24 false = true → s28 = .agg #[.int .i64 s.speed, .int .i64 s.speed, .int .i64 s.slope, .int .i64 s.slope])
def soleTold (R : Nat) (s : StoneR) : Act → World → Act → World → Prop := fun a X a' W => a' = sets a [(4, a'.tmps.getD 4 undef), (5, a'.tmps.getD 5 undef), (6, a'.tmps.getD 6 undef), (7, a'.tmps.getD 7 undef), (8, a'.tmps.getD 8 undef), (9, a'.tmps.getD 9 undef), (10, a'.tmps.getD 10 undef), (11, a'.tmps.getD 11 undef), (12, a'.tmps.getD 12 undef), (13, a'.tmps.getD 13 undef), (14, a'.tmps.getD 14 undef), (15, a'.tmps.getD 15 undef), (16, a'.tmps.getD 16 undef), (17, a'.tmps.getD 17 undef), (18, a'.tmps.getD 18 undef), (19, a'.tmps.getD 19 undef), (20, a'.tmps.getD 20 undef), (21, a'.tmps.getD 21 undef), (22, a'.tmps.getD 22 undef), (23, a'.tmps.getD 23 undef), (24, a'.tmps.getD 24 undef), (25, a'.tmps.getD 25 undef), (26, a'.tmps.getD 26 undef), (27, a'.tmps.getD 27 undef), (28, a'.tmps.getD 28 undef)] ∧ KeptX (R + 1) (R + 1) (R + 1 + 1 + 1) X W ∧ W.heap[R + 1]? = some (.cells #[.int .i64 s.size, .int .i64 s.size, .int .i64 s.dens, .int .i64 s.dens, .int .i64 s.strong, .int .i64 s.strong, .int .i64 s.spin, .int .i64 s.spin, .int .i64 s.shape, .int .i64 s.shape, .bool s.pile] 31 (0, 0)) ∧ W.heap[R + 1 + 1]? = some (.cells #[.int .i64 s.speed, .int .i64 s.speed, .int .i64 s.slope, .int .i64 s.slope] 33 (0, 0))
theorem KeptX.below {b lo hi n : Nat} {w X W : World} (h : KeptX b lo hi X W) (k : Below n w X) (hb : n ≤ b) (hn : n ≤ lo) (hX : n ≤ X.heap.size) : Below n w W :=
  ⟨h.os.trans k.os, h.tape.trans k.tape, h.output.trans k.output, Nat.le_trans k.size h.size, fun B hB => (h.block B (by omega) (by omega) (by omega)).trans (k.block B hB)⟩
set_option maxRecDepth 100000 in
set_option maxHeartbeats 16000000 in
theorem SoleRock_any (s : StoneR) (w : World) : Calls Tryd.prog 52 #[s.val] w (Gives (.tuple #[(soleK s).val, (soleF s).val]) w) := by
  unfold StoneR.val StoneR.vals soleK soleF RockR.val FallR.val
  go_enter Tryd.func52, Tryd.ntmps52
  go_upto_region 1 with fail
  refine wp_named (fun W0 hW => ?_)
  have q0 : W0.cell? ⟨w.heap.size, 0, none⟩ = some (.int .i64 s.size) := by rw [← hW]; simp [go_sem]
  have q1 : W0.cell? ⟨w.heap.size, 1, none⟩ = some (.int .i64 s.dens) := by rw [← hW]; simp [go_sem]
  have q2 : W0.cell? ⟨w.heap.size, 2, none⟩ = some (.int .i64 s.strong) := by rw [← hW]; simp [go_sem]
  have q3 : W0.cell? ⟨w.heap.size, 3, none⟩ = some (.int .i64 s.spin) := by rw [← hW]; simp [go_sem]
  have q4 : W0.cell? ⟨w.heap.size, 4, none⟩ = some (.int .i64 s.shape) := by rw [← hW]; simp [go_sem]
  have q5 : W0.cell? ⟨w.heap.size, 5, none⟩ = some (.bool s.pile) := by rw [← hW]; simp [go_sem]
  have q6 : W0.cell? ⟨w.heap.size, 6, none⟩ = some (.int .i64 s.speed) := by rw [← hW]; simp [go_sem]
  have q7 : W0.cell? ⟨w.heap.size, 7, none⟩ = some (.int .i64 s.slope) := by rw [← hW]; simp [go_sem]
  have z0 : W0.heap[w.heap.size + 1]? = some (.cells #[.int .i64 0, .int .i64 0, .int .i64 0, .int .i64 0, .int .i64 0, .int .i64 0, .int .i64 0, .int .i64 0, .int .i64 0, .int .i64 0, .bool false] 31 (0, 0)) := by
    rw [← hW]
    refine (heap_alloc_old _ _ (by simp)).trans ?_
    have := heap_alloc_new (w.alloc (.cells #[.int .i64 s.size, .int .i64 s.dens, .int .i64 s.strong, .int .i64 s.spin, .int .i64 s.shape, .bool s.pile, .int .i64 s.speed, .int .i64 s.slope] 57)) (.cells #[.int .i64 0, .int .i64 0, .int .i64 0, .int .i64 0, .int .i64 0, .int .i64 0, .int .i64 0, .int .i64 0, .int .i64 0, .int .i64 0, .bool false] 31)
    simpa using this
  have z1 : W0.heap[w.heap.size + 1 + 1]? = some (.cells #[.int .i64 0, .int .i64 0, .int .i64 0, .int .i64 0] 33 (0, 0)) := by
    rw [← hW]
    have := heap_alloc_new ((w.alloc (.cells #[.int .i64 s.size, .int .i64 s.dens, .int .i64 s.strong, .int .i64 s.spin, .int .i64 s.shape, .bool s.pile, .int .i64 s.speed, .int .i64 s.slope] 57)).alloc (.cells #[.int .i64 0, .int .i64 0, .int .i64 0, .int .i64 0, .int .i64 0, .int .i64 0, .int .i64 0, .int .i64 0, .int .i64 0, .int .i64 0, .bool false] 31)) (.cells #[.int .i64 0, .int .i64 0, .int .i64 0, .int .i64 0] 33)
    simpa using this
  have hB0 : Below w.heap.size w W0 := by rw [← hW]; repeat' (first | (with_reducible exact Below.refl _ _) | (with_reducible assumption) | (with_reducible refine Ext.below _ ?_ ?_) | (with_reducible refine Below.on ?_ (by with_reducible assumption) ?_) | (with_reducible refine Below.alloc ?_ ?_ _) | (with_reducible refine Below.drew ?_) | (with_reducible refine Below.setCell ?_ ?_ _) | (with_reducible exact Nat.le_refl _) | omega | (simp; done) | (simp [go_sem]; done) | (simp at *; omega))
  have hs0 : W0.heap.size = w.heap.size + 1 + 1 + 1 := by rw [← hW]; simp
  clear hW
  refine wp_tell (soleTold w.heap.size s) ?_ ?_
  focus
    repeat (rename_i zz; clear zz)
    refine region_dep (by kernel_rfl) soleRDeps (by kernel_rfl) (soleRInv w.heap.size s) ?h0 ?hstep ?hend
    case h0 =>
      refine ⟨?z4, ?z5, ?z6, ?z7, ?z8, ?z9, ?z10, ?z11, ?z12, ?z13, ?z14, ?z15, ?z16, ?z17, ?z18, ?z19, ?z20, ?z21, ?z22, ?z23, ?z24, ?z25, ?z26, ?z27, ?z28, ?fr, KeptX.start, (fun _ => z0), (fun _ => z1), by simp, by simp, by simp, by simp, by simp, by simp, by simp, by simp, by simp, by simp, by simp, by simp, by simp, by simp, by simp, by simp, by simp, by simp, by simp, by simp, by simp, by simp, by simp, by simp, by simp, by simp, by simp⟩
      case fr =>
        simp only [sets, List.foldl_cons, List.foldl_nil, List.set_cons_succ, List.set_cons_zero]
        rfl
    case hend =>
      intro l' fr W hl hall hInv
      unfold soleRInv at hInv
      obtain ⟨s4, s5, s6, s7, s8, s9, s10, s11, s12, s13, s14, s15, s16, s17, s18, s19, s20, s21, s22, s23, s24, s25, s26, s27, s28, hInv⟩ := hInv
      obtain ⟨hfr, hB, g0, g1, g2, g3, f0, f1, f2, f3, f4, f5, f6, f7, f8, f9, f10, f11, f12, f13, f14, f15, f16, f17, f18, f19, f20, f21, f22, f23, f24⟩ := hInv
      subst hfr
      obtain ⟨b0, b1, b2, b3, b4, b5, b6, b7, b8, b9, b10, b11, b12, b13, b14, b15, b16, b17, b18, b19, b20, b21, b22, b23, b24, b25, b26, rfl⟩ := list27 hl
      simp only [List.getD_cons_zero, List.getD_cons_succ] at g0 g1 g2 g3 f0 f1 f2 f3 f4 f5 f6 f7 f8 f9 f10 f11 f12 f13 f14 f15 f16 f17 f18 f19 f20 f21 f22 f23 f24
      simp only [List.all_cons, id, Bool.and_eq_true] at hall
      obtain ⟨e0, e1, e2, e3, e4, e5, e6, e7, e8, e9, e10, e11, e12, e13, e14, e15, e16, e17, e18, e19, e20, e21, e22, e23, e24, e25, e26, -⟩ := hall
      exact ⟨rfl, by kernel_rfl, hB, g2 e25, g3 e26⟩
    case hstep =>
      intro l' fr W ii hl hInv hr hi
      unfold soleRInv at hInv
      obtain ⟨s4, s5, s6, s7, s8, s9, s10, s11, s12, s13, s14, s15, s16, s17, s18, s19, s20, s21, s22, s23, s24, s25, s26, s27, s28, hInv⟩ := hInv
      obtain ⟨hfr, hB, g0, g1, g2, g3, f0, f1, f2, f3, f4, f5, f6, f7, f8, f9, f10, f11, f12, f13, f14, f15, f16, f17, f18, f19, f20, f21, f22, f23, f24⟩ := hInv
      subst hfr
      obtain ⟨b0, b1, b2, b3, b4, b5, b6, b7, b8, b9, b10, b11, b12, b13, b14, b15, b16, b17, b18, b19, b20, b21, b22, b23, b24, b25, b26, rfl⟩ := list27 hl
      have sW := hB.size
      replace q0 := (hB.cell (o := 0) (by omega) (by omega) (by omega)).trans q0
      replace q1 := (hB.cell (o := 1) (by omega) (by omega) (by omega)).trans q1
      replace q2 := (hB.cell (o := 2) (by omega) (by omega) (by omega)).trans q2
      replace q3 := (hB.cell (o := 3) (by omega) (by omega) (by omega)).trans q3
      replace q4 := (hB.cell (o := 4) (by omega) (by omega) (by omega)).trans q4
      replace q5 := (hB.cell (o := 5) (by omega) (by omega) (by omega)).trans q5
      replace q6 := (hB.cell (o := 6) (by omega) (by omega) (by omega)).trans q6
      replace q7 := (hB.cell (o := 7) (by omega) (by omega) (by omega)).trans q7
      simp only [List.getD_cons_zero, List.getD_cons_succ] at g0 g1 g2 g3 f0 f1 f2 f3 f4 f5 f6 f7 f8 f9 f10 f11 f12 f13 f14 f15 f16 f17 f18 f19 f20 f21 f22 f23 f24
      replace hB := Go.Lib.hid hB
      replace hi := Go.Lib.hid hi
      replace g0 := Go.Lib.hid g0
      replace g1 := Go.Lib.hid g1
      replace g2 := Go.Lib.hid g2
      replace g3 := Go.Lib.hid g3
      replace f0 := Go.Lib.hid f0
      replace f1 := Go.Lib.hid f1
      replace f2 := Go.Lib.hid f2
      replace f3 := Go.Lib.hid f3
      replace f4 := Go.Lib.hid f4
      replace f5 := Go.Lib.hid f5
      replace f6 := Go.Lib.hid f6
      replace f7 := Go.Lib.hid f7
      replace f8 := Go.Lib.hid f8
      replace f9 := Go.Lib.hid f9
      replace f10 := Go.Lib.hid f10
      replace f11 := Go.Lib.hid f11
      replace f12 := Go.Lib.hid f12
      replace f13 := Go.Lib.hid f13
      replace f14 := Go.Lib.hid f14
      replace f15 := Go.Lib.hid f15
      replace f16 := Go.Lib.hid f16
      replace f17 := Go.Lib.hid f17
      replace f18 := Go.Lib.hid f18
      replace f19 := Go.Lib.hid f19
      replace f20 := Go.Lib.hid f20
      replace f21 := Go.Lib.hid f21
      replace f22 := Go.Lib.hid f22
      replace f23 := Go.Lib.hid f23
      replace f24 := Go.Lib.hid f24
      rcases ii with _ | _ | _ | _ | _ | _ | _ | _ | _ | _ | _ | _ | _ | _ | _ | _ | _ | _ | _ | _ | _ | _ | _ | _ | _ | _ | _ | ii
      · refine wpOp_step rfl (fun K hK => ?_)
        simp only [sets, List.foldl_cons, List.foldl_nil, List.set_cons_succ, List.set_cons_zero]
        go_simp
        exact hK _ _ ⟨(.pointer (some ⟨w.heap.size, 0, none⟩)), s5, s6, s7, s8, s9, s10, s11, s12, s13, s14, s15, s16, s17, s18, s19, s20, s21, s22, s23, s24, s25, s26, s27, s28, by kernel_rfl, hB.out, g0.out, g1.out, g2.out, g3.out, fun _ => rfl, f1.out, f2.out, f3.out, f4.out, f5.out, f6.out, f7.out, f8.out, f9.out, f10.out, f11.out, f12.out, f13.out, f14.out, f15.out, f16.out, f17.out, f18.out, f19.out, f20.out, f21.out, f22.out, f23.out, f24.out⟩
      · simp only [soleRDeps, List.getD_cons_zero, List.getD_cons_succ, List.all_cons, List.all_nil, Bool.and_true] at hr
        have hd0 := hr
        obtain rfl := f0.out hd0
        refine wpOp_step rfl (fun K hK => ?_)
        simp only [sets, List.foldl_cons, List.foldl_nil, List.set_cons_succ, List.set_cons_zero]
        go_simp
        exact hK _ _ ⟨(.pointer (some ⟨w.heap.size, 0, none⟩)), (.int .i64 s.size), s6, s7, s8, s9, s10, s11, s12, s13, s14, s15, s16, s17, s18, s19, s20, s21, s22, s23, s24, s25, s26, s27, s28, by kernel_rfl, hB.out, g0.out, g1.out, g2.out, g3.out, f0.out, fun _ => rfl, f2.out, f3.out, f4.out, f5.out, f6.out, f7.out, f8.out, f9.out, f10.out, f11.out, f12.out, f13.out, f14.out, f15.out, f16.out, f17.out, f18.out, f19.out, f20.out, f21.out, f22.out, f23.out, f24.out⟩
      · simp only [soleRDeps, List.getD_cons_zero, List.getD_cons_succ, List.all_cons, List.all_nil, Bool.and_true] at hr
        have hd1 := hr
        obtain rfl := f1.out hd1
        refine wpOp_step rfl (fun K hK => ?_)
        simp only [sets, List.foldl_cons, List.foldl_nil, List.set_cons_succ, List.set_cons_zero]
        go_simp
        refine (sole_any s.size W).mono ?_
        rintro _ W6 ⟨rfl, hb6⟩
        exact hK _ _ ⟨s4, (.int .i64 s.size), (.agg #[.int .i64 s.size, .int .i64 s.size]), s7, s8, s9, s10, s11, s12, s13, s14, s15, s16, s17, s18, s19, s20, s21, s22, s23, s24, s25, s26, s27, s28, by kernel_rfl, hB.out.ext ⟨W6, hb6⟩, (fun h => (hb6.block _ (by omega)).trans (g0.out h)), (fun h => (hb6.block _ (by omega)).trans (g1.out h)), (fun h => (hb6.block _ (by omega)).trans (g2.out h)), (fun h => (hb6.block _ (by omega)).trans (g3.out h)), f0.out, f1.out, fun _ => rfl, f3.out, f4.out, f5.out, f6.out, f7.out, f8.out, f9.out, f10.out, f11.out, f12.out, f13.out, f14.out, f15.out, f16.out, f17.out, f18.out, f19.out, f20.out, f21.out, f22.out, f23.out, f24.out⟩
      · refine wpOp_step rfl (fun K hK => ?_)
        simp only [sets, List.foldl_cons, List.foldl_nil, List.set_cons_succ, List.set_cons_zero]
        go_simp
        exact hK _ _ ⟨s4, s5, s6, (.pointer (some ⟨w.heap.size, 1, none⟩)), s8, s9, s10, s11, s12, s13, s14, s15, s16, s17, s18, s19, s20, s21, s22, s23, s24, s25, s26, s27, s28, by kernel_rfl, hB.out, g0.out, g1.out, g2.out, g3.out, f0.out, f1.out, f2.out, fun _ => rfl, f4.out, f5.out, f6.out, f7.out, f8.out, f9.out, f10.out, f11.out, f12.out, f13.out, f14.out, f15.out, f16.out, f17.out, f18.out, f19.out, f20.out, f21.out, f22.out, f23.out, f24.out⟩
      · simp only [soleRDeps, List.getD_cons_zero, List.getD_cons_succ, List.all_cons, List.all_nil, Bool.and_true] at hr
        have hd3 := hr
        obtain rfl := f3.out hd3
        refine wpOp_step rfl (fun K hK => ?_)
        simp only [sets, List.foldl_cons, List.foldl_nil, List.set_cons_succ, List.set_cons_zero]
        go_simp
        exact hK _ _ ⟨s4, s5, s6, (.pointer (some ⟨w.heap.size, 1, none⟩)), (.int .i64 s.dens), s9, s10, s11, s12, s13, s14, s15, s16, s17, s18, s19, s20, s21, s22, s23, s24, s25, s26, s27, s28, by kernel_rfl, hB.out, g0.out, g1.out, g2.out, g3.out, f0.out, f1.out, f2.out, f3.out, fun _ => rfl, f5.out, f6.out, f7.out, f8.out, f9.out, f10.out, f11.out, f12.out, f13.out, f14.out, f15.out, f16.out, f17.out, f18.out, f19.out, f20.out, f21.out, f22.out, f23.out, f24.out⟩
      · simp only [soleRDeps, List.getD_cons_zero, List.getD_cons_succ, List.all_cons, List.all_nil, Bool.and_true, Bool.and_eq_true] at hr
        obtain ⟨hd4, hd2⟩ := hr
        obtain rfl := f4.out hd4
        obtain rfl := f2.out hd2
        refine wpOp_step rfl (fun K hK => ?_)
        simp only [sets, List.foldl_cons, List.foldl_nil, List.set_cons_succ, List.set_cons_zero]
        go_simp
        refine (sole_any s.dens W).mono ?_
        rintro _ W6 ⟨rfl, hb6⟩
        exact hK _ _ ⟨s4, s5, (.agg #[.int .i64 s.size, .int .i64 s.size]), s7, (.int .i64 s.dens), (.agg #[.int .i64 s.dens, .int .i64 s.dens]), s10, s11, s12, s13, s14, s15, s16, s17, s18, s19, s20, s21, s22, s23, s24, s25, s26, s27, s28, by kernel_rfl, hB.out.ext ⟨W6, hb6⟩, (fun h => (hb6.block _ (by omega)).trans (g0.out h)), (fun h => (hb6.block _ (by omega)).trans (g1.out h)), (fun h => (hb6.block _ (by omega)).trans (g2.out h)), (fun h => (hb6.block _ (by omega)).trans (g3.out h)), f0.out, f1.out, f2.out, f3.out, f4.out, fun _ => rfl, f6.out, f7.out, f8.out, f9.out, f10.out, f11.out, f12.out, f13.out, f14.out, f15.out, f16.out, f17.out, f18.out, f19.out, f20.out, f21.out, f22.out, f23.out, f24.out⟩
      · refine wpOp_step rfl (fun K hK => ?_)
        simp only [sets, List.foldl_cons, List.foldl_nil, List.set_cons_succ, List.set_cons_zero]
        go_simp
        exact hK _ _ ⟨s4, s5, s6, s7, s8, s9, (.pointer (some ⟨w.heap.size, 2, none⟩)), s11, s12, s13, s14, s15, s16, s17, s18, s19, s20, s21, s22, s23, s24, s25, s26, s27, s28, by kernel_rfl, hB.out, g0.out, g1.out, g2.out, g3.out, f0.out, f1.out, f2.out, f3.out, f4.out, f5.out, fun _ => rfl, f7.out, f8.out, f9.out, f10.out, f11.out, f12.out, f13.out, f14.out, f15.out, f16.out, f17.out, f18.out, f19.out, f20.out, f21.out, f22.out, f23.out, f24.out⟩
      · simp only [soleRDeps, List.getD_cons_zero, List.getD_cons_succ, List.all_cons, List.all_nil, Bool.and_true] at hr
        have hd6 := hr
        obtain rfl := f6.out hd6
        refine wpOp_step rfl (fun K hK => ?_)
        simp only [sets, List.foldl_cons, List.foldl_nil, List.set_cons_succ, List.set_cons_zero]
        go_simp
        exact hK _ _ ⟨s4, s5, s6, s7, s8, s9, (.pointer (some ⟨w.heap.size, 2, none⟩)), (.int .i64 s.strong), s12, s13, s14, s15, s16, s17, s18, s19, s20, s21, s22, s23, s24, s25, s26, s27, s28, by kernel_rfl, hB.out, g0.out, g1.out, g2.out, g3.out, f0.out, f1.out, f2.out, f3.out, f4.out, f5.out, f6.out, fun _ => rfl, f8.out, f9.out, f10.out, f11.out, f12.out, f13.out, f14.out, f15.out, f16.out, f17.out, f18.out, f19.out, f20.out, f21.out, f22.out, f23.out, f24.out⟩
      · simp only [soleRDeps, List.getD_cons_zero, List.getD_cons_succ, List.all_cons, List.all_nil, Bool.and_true, Bool.and_eq_true] at hr
        obtain ⟨hd7, hd5⟩ := hr
        obtain rfl := f7.out hd7
        obtain rfl := f5.out hd5
        refine wpOp_step rfl (fun K hK => ?_)
        simp only [sets, List.foldl_cons, List.foldl_nil, List.set_cons_succ, List.set_cons_zero]
        go_simp
        refine (sole_any s.strong W).mono ?_
        rintro _ W6 ⟨rfl, hb6⟩
        exact hK _ _ ⟨s4, s5, s6, s7, s8, (.agg #[.int .i64 s.dens, .int .i64 s.dens]), s10, (.int .i64 s.strong), (.agg #[.int .i64 s.strong, .int .i64 s.strong]), s13, s14, s15, s16, s17, s18, s19, s20, s21, s22, s23, s24, s25, s26, s27, s28, by kernel_rfl, hB.out.ext ⟨W6, hb6⟩, (fun h => (hb6.block _ (by omega)).trans (g0.out h)), (fun h => (hb6.block _ (by omega)).trans (g1.out h)), (fun h => (hb6.block _ (by omega)).trans (g2.out h)), (fun h => (hb6.block _ (by omega)).trans (g3.out h)), f0.out, f1.out, f2.out, f3.out, f4.out, f5.out, f6.out, f7.out, fun _ => rfl, f9.out, f10.out, f11.out, f12.out, f13.out, f14.out, f15.out, f16.out, f17.out, f18.out, f19.out, f20.out, f21.out, f22.out, f23.out, f24.out⟩
      · refine wpOp_step rfl (fun K hK => ?_)
        simp only [sets, List.foldl_cons, List.foldl_nil, List.set_cons_succ, List.set_cons_zero]
        go_simp
        exact hK _ _ ⟨s4, s5, s6, s7, s8, s9, s10, s11, s12, (.pointer (some ⟨w.heap.size, 3, none⟩)), s14, s15, s16, s17, s18, s19, s20, s21, s22, s23, s24, s25, s26, s27, s28, by kernel_rfl, hB.out, g0.out, g1.out, g2.out, g3.out, f0.out, f1.out, f2.out, f3.out, f4.out, f5.out, f6.out, f7.out, f8.out, fun _ => rfl, f10.out, f11.out, f12.out, f13.out, f14.out, f15.out, f16.out, f17.out, f18.out, f19.out, f20.out, f21.out, f22.out, f23.out, f24.out⟩
      · simp only [soleRDeps, List.getD_cons_zero, List.getD_cons_succ, List.all_cons, List.all_nil, Bool.and_true] at hr
        have hd9 := hr
        obtain rfl := f9.out hd9
        refine wpOp_step rfl (fun K hK => ?_)
        simp only [sets, List.foldl_cons, List.foldl_nil, List.set_cons_succ, List.set_cons_zero]
        go_simp
        exact hK _ _ ⟨s4, s5, s6, s7, s8, s9, s10, s11, s12, (.pointer (some ⟨w.heap.size, 3, none⟩)), (.int .i64 s.spin), s15, s16, s17, s18, s19, s20, s21, s22, s23, s24, s25, s26, s27, s28, by kernel_rfl, hB.out, g0.out, g1.out, g2.out, g3.out, f0.out, f1.out, f2.out, f3.out, f4.out, f5.out, f6.out, f7.out, f8.out, f9.out, fun _ => rfl, f11.out, f12.out, f13.out, f14.out, f15.out, f16.out, f17.out, f18.out, f19.out, f20.out, f21.out, f22.out, f23.out, f24.out⟩
      · simp only [soleRDeps, List.getD_cons_zero, List.getD_cons_succ, List.all_cons, List.all_nil, Bool.and_true, Bool.and_eq_true] at hr
        obtain ⟨hd10, hd8⟩ := hr
        obtain rfl := f10.out hd10
        obtain rfl := f8.out hd8
        refine wpOp_step rfl (fun K hK => ?_)
        simp only [sets, List.foldl_cons, List.foldl_nil, List.set_cons_succ, List.set_cons_zero]
        go_simp
        refine (sole_any s.spin W).mono ?_
        rintro _ W6 ⟨rfl, hb6⟩
        exact hK _ _ ⟨s4, s5, s6, s7, s8, s9, s10, s11, (.agg #[.int .i64 s.strong, .int .i64 s.strong]), s13, (.int .i64 s.spin), (.agg #[.int .i64 s.spin, .int .i64 s.spin]), s16, s17, s18, s19, s20, s21, s22, s23, s24, s25, s26, s27, s28, by kernel_rfl, hB.out.ext ⟨W6, hb6⟩, (fun h => (hb6.block _ (by omega)).trans (g0.out h)), (fun h => (hb6.block _ (by omega)).trans (g1.out h)), (fun h => (hb6.block _ (by omega)).trans (g2.out h)), (fun h => (hb6.block _ (by omega)).trans (g3.out h)), f0.out, f1.out, f2.out, f3.out, f4.out, f5.out, f6.out, f7.out, f8.out, f9.out, f10.out, fun _ => rfl, f12.out, f13.out, f14.out, f15.out, f16.out, f17.out, f18.out, f19.out, f20.out, f21.out, f22.out, f23.out, f24.out⟩
      · refine wpOp_step rfl (fun K hK => ?_)
        simp only [sets, List.foldl_cons, List.foldl_nil, List.set_cons_succ, List.set_cons_zero]
        go_simp
        exact hK _ _ ⟨s4, s5, s6, s7, s8, s9, s10, s11, s12, s13, s14, s15, (.pointer (some ⟨w.heap.size, 4, none⟩)), s17, s18, s19, s20, s21, s22, s23, s24, s25, s26, s27, s28, by kernel_rfl, hB.out, g0.out, g1.out, g2.out, g3.out, f0.out, f1.out, f2.out, f3.out, f4.out, f5.out, f6.out, f7.out, f8.out, f9.out, f10.out, f11.out, fun _ => rfl, f13.out, f14.out, f15.out, f16.out, f17.out, f18.out, f19.out, f20.out, f21.out, f22.out, f23.out, f24.out⟩
      · simp only [soleRDeps, List.getD_cons_zero, List.getD_cons_succ, List.all_cons, List.all_nil, Bool.and_true] at hr
        have hd12 := hr
        obtain rfl := f12.out hd12
        refine wpOp_step rfl (fun K hK => ?_)
        simp only [sets, List.foldl_cons, List.foldl_nil, List.set_cons_succ, List.set_cons_zero]
        go_simp
        exact hK _ _ ⟨s4, s5, s6, s7, s8, s9, s10, s11, s12, s13, s14, s15, (.pointer (some ⟨w.heap.size, 4, none⟩)), (.int .i64 s.shape), s18, s19, s20, s21, s22, s23, s24, s25, s26, s27, s28, by kernel_rfl, hB.out, g0.out, g1.out, g2.out, g3.out, f0.out, f1.out, f2.out, f3.out, f4.out, f5.out, f6.out, f7.out, f8.out, f9.out, f10.out, f11.out, f12.out, fun _ => rfl, f14.out, f15.out, f16.out, f17.out, f18.out, f19.out, f20.out, f21.out, f22.out, f23.out, f24.out⟩
      · simp only [soleRDeps, List.getD_cons_zero, List.getD_cons_succ, List.all_cons, List.all_nil, Bool.and_true, Bool.and_eq_true] at hr
        obtain ⟨hd13, hd11⟩ := hr
        obtain rfl := f13.out hd13
        obtain rfl := f11.out hd11
        refine wpOp_step rfl (fun K hK => ?_)
        simp only [sets, List.foldl_cons, List.foldl_nil, List.set_cons_succ, List.set_cons_zero]
        go_simp
        refine (sole_any s.shape W).mono ?_
        rintro _ W6 ⟨rfl, hb6⟩
        exact hK _ _ ⟨s4, s5, s6, s7, s8, s9, s10, s11, s12, s13, s14, (.agg #[.int .i64 s.spin, .int .i64 s.spin]), s16, (.int .i64 s.shape), (.agg #[.int .i64 s.shape, .int .i64 s.shape]), s19, s20, s21, s22, s23, s24, s25, s26, s27, s28, by kernel_rfl, hB.out.ext ⟨W6, hb6⟩, (fun h => (hb6.block _ (by omega)).trans (g0.out h)), (fun h => (hb6.block _ (by omega)).trans (g1.out h)), (fun h => (hb6.block _ (by omega)).trans (g2.out h)), (fun h => (hb6.block _ (by omega)).trans (g3.out h)), f0.out, f1.out, f2.out, f3.out, f4.out, f5.out, f6.out, f7.out, f8.out, f9.out, f10.out, f11.out, f12.out, f13.out, fun _ => rfl, f15.out, f16.out, f17.out, f18.out, f19.out, f20.out, f21.out, f22.out, f23.out, f24.out⟩
      · refine wpOp_step rfl (fun K hK => ?_)
        simp only [sets, List.foldl_cons, List.foldl_nil, List.set_cons_succ, List.set_cons_zero]
        go_simp
        exact hK _ _ ⟨s4, s5, s6, s7, s8, s9, s10, s11, s12, s13, s14, s15, s16, s17, s18, (.pointer (some ⟨w.heap.size, 5, none⟩)), s20, s21, s22, s23, s24, s25, s26, s27, s28, by kernel_rfl, hB.out, g0.out, g1.out, g2.out, g3.out, f0.out, f1.out, f2.out, f3.out, f4.out, f5.out, f6.out, f7.out, f8.out, f9.out, f10.out, f11.out, f12.out, f13.out, f14.out, fun _ => rfl, f16.out, f17.out, f18.out, f19.out, f20.out, f21.out, f22.out, f23.out, f24.out⟩
      · simp only [soleRDeps, List.getD_cons_zero, List.getD_cons_succ, List.all_cons, List.all_nil, Bool.and_true] at hr
        have hd15 := hr
        obtain rfl := f15.out hd15
        refine wpOp_step rfl (fun K hK => ?_)
        simp only [sets, List.foldl_cons, List.foldl_nil, List.set_cons_succ, List.set_cons_zero]
        go_simp
        exact hK _ _ ⟨s4, s5, s6, s7, s8, s9, s10, s11, s12, s13, s14, s15, s16, s17, s18, (.pointer (some ⟨w.heap.size, 5, none⟩)), (.bool s.pile), s21, s22, s23, s24, s25, s26, s27, s28, by kernel_rfl, hB.out, g0.out, g1.out, g2.out, g3.out, f0.out, f1.out, f2.out, f3.out, f4.out, f5.out, f6.out, f7.out, f8.out, f9.out, f10.out, f11.out, f12.out, f13.out, f14.out, f15.out, fun _ => rfl, f17.out, f18.out, f19.out, f20.out, f21.out, f22.out, f23.out, f24.out⟩
      · simp only [soleRDeps, List.getD_cons_zero, List.getD_cons_succ, List.all_cons, List.all_nil, Bool.and_true, Bool.and_eq_true] at hr
        obtain ⟨hd2, hd5, hd8, hd11, hd14, hd16⟩ := hr
        obtain rfl := f2.out hd2
        obtain rfl := f5.out hd5
        obtain rfl := f8.out hd8
        obtain rfl := f11.out hd11
        obtain rfl := f14.out hd14
        obtain rfl := f16.out hd16
        refine wpOp_step rfl (fun K hK => ?_)
        simp only [sets, List.foldl_cons, List.foldl_nil, List.set_cons_succ, List.set_cons_zero]
        go_simp
        exact hK _ _ ⟨s4, s5, (.agg #[.int .i64 s.size, .int .i64 s.size]), s7, s8, (.agg #[.int .i64 s.dens, .int .i64 s.dens]), s10, s11, (.agg #[.int .i64 s.strong, .int .i64 s.strong]), s13, s14, (.agg #[.int .i64 s.spin, .int .i64 s.spin]), s16, s17, (.agg #[.int .i64 s.shape, .int .i64 s.shape]), s19, (.bool s.pile), (.agg #[.int .i64 s.size, .int .i64 s.size, .int .i64 s.dens, .int .i64 s.dens, .int .i64 s.strong, .int .i64 s.strong, .int .i64 s.spin, .int .i64 s.spin, .int .i64 s.shape, .int .i64 s.shape, .bool s.pile]), s22, s23, s24, s25, s26, s27, s28, by kernel_rfl, hB.out, g0.out, g1.out, g2.out, g3.out, f0.out, f1.out, f2.out, f3.out, f4.out, f5.out, f6.out, f7.out, f8.out, f9.out, f10.out, f11.out, f12.out, f13.out, f14.out, f15.out, f16.out, fun _ => rfl, f18.out, f19.out, f20.out, f21.out, f22.out, f23.out, f24.out⟩
      · refine wpOp_step rfl (fun K hK => ?_)
        simp only [sets, List.foldl_cons, List.foldl_nil, List.set_cons_succ, List.set_cons_zero]
        go_simp
        exact hK _ _ ⟨s4, s5, s6, s7, s8, s9, s10, s11, s12, s13, s14, s15, s16, s17, s18, s19, s20, s21, (.pointer (some ⟨w.heap.size, 6, none⟩)), s23, s24, s25, s26, s27, s28, by kernel_rfl, hB.out, g0.out, g1.out, g2.out, g3.out, f0.out, f1.out, f2.out, f3.out, f4.out, f5.out, f6.out, f7.out, f8.out, f9.out, f10.out, f11.out, f12.out, f13.out, f14.out, f15.out, f16.out, f17.out, fun _ => rfl, f19.out, f20.out, f21.out, f22.out, f23.out, f24.out⟩
      · simp only [soleRDeps, List.getD_cons_zero, List.getD_cons_succ, List.all_cons, List.all_nil, Bool.and_true] at hr
        have hd18 := hr
        obtain rfl := f18.out hd18
        refine wpOp_step rfl (fun K hK => ?_)
        simp only [sets, List.foldl_cons, List.foldl_nil, List.set_cons_succ, List.set_cons_zero]
        go_simp
        exact hK _ _ ⟨s4, s5, s6, s7, s8, s9, s10, s11, s12, s13, s14, s15, s16, s17, s18, s19, s20, s21, (.pointer (some ⟨w.heap.size, 6, none⟩)), (.int .i64 s.speed), s24, s25, s26, s27, s28, by kernel_rfl, hB.out, g0.out, g1.out, g2.out, g3.out, f0.out, f1.out, f2.out, f3.out, f4.out, f5.out, f6.out, f7.out, f8.out, f9.out, f10.out, f11.out, f12.out, f13.out, f14.out, f15.out, f16.out, f17.out, f18.out, fun _ => rfl, f20.out, f21.out, f22.out, f23.out, f24.out⟩
      · simp only [soleRDeps, List.getD_cons_zero, List.getD_cons_succ, List.all_cons, List.all_nil, Bool.and_true, Bool.and_eq_true] at hr
        obtain ⟨hd19, hd14⟩ := hr
        obtain rfl := f19.out hd19
        obtain rfl := f14.out hd14
        refine wpOp_step rfl (fun K hK => ?_)
        simp only [sets, List.foldl_cons, List.foldl_nil, List.set_cons_succ, List.set_cons_zero]
        go_simp
        refine (sole_any s.speed W).mono ?_
        rintro _ W6 ⟨rfl, hb6⟩
        exact hK _ _ ⟨s4, s5, s6, s7, s8, s9, s10, s11, s12, s13, s14, s15, s16, s17, (.agg #[.int .i64 s.shape, .int .i64 s.shape]), s19, s20, s21, s22, (.int .i64 s.speed), (.agg #[.int .i64 s.speed, .int .i64 s.speed]), s25, s26, s27, s28, by kernel_rfl, hB.out.ext ⟨W6, hb6⟩, (fun h => (hb6.block _ (by omega)).trans (g0.out h)), (fun h => (hb6.block _ (by omega)).trans (g1.out h)), (fun h => (hb6.block _ (by omega)).trans (g2.out h)), (fun h => (hb6.block _ (by omega)).trans (g3.out h)), f0.out, f1.out, f2.out, f3.out, f4.out, f5.out, f6.out, f7.out, f8.out, f9.out, f10.out, f11.out, f12.out, f13.out, f14.out, f15.out, f16.out, f17.out, f18.out, f19.out, fun _ => rfl, f21.out, f22.out, f23.out, f24.out⟩
      · refine wpOp_step rfl (fun K hK => ?_)
        simp only [sets, List.foldl_cons, List.foldl_nil, List.set_cons_succ, List.set_cons_zero]
        go_simp
        exact hK _ _ ⟨s4, s5, s6, s7, s8, s9, s10, s11, s12, s13, s14, s15, s16, s17, s18, s19, s20, s21, s22, s23, s24, (.pointer (some ⟨w.heap.size, 7, none⟩)), s26, s27, s28, by kernel_rfl, hB.out, g0.out, g1.out, g2.out, g3.out, f0.out, f1.out, f2.out, f3.out, f4.out, f5.out, f6.out, f7.out, f8.out, f9.out, f10.out, f11.out, f12.out, f13.out, f14.out, f15.out, f16.out, f17.out, f18.out, f19.out, f20.out, fun _ => rfl, f22.out, f23.out, f24.out⟩
      · simp only [soleRDeps, List.getD_cons_zero, List.getD_cons_succ, List.all_cons, List.all_nil, Bool.and_true] at hr
        have hd21 := hr
        obtain rfl := f21.out hd21
        refine wpOp_step rfl (fun K hK => ?_)
        simp only [sets, List.foldl_cons, List.foldl_nil, List.set_cons_succ, List.set_cons_zero]
        go_simp
        exact hK _ _ ⟨s4, s5, s6, s7, s8, s9, s10, s11, s12, s13, s14, s15, s16, s17, s18, s19, s20, s21, s22, s23, s24, (.pointer (some ⟨w.heap.size, 7, none⟩)), (.int .i64 s.slope), s27, s28, by kernel_rfl, hB.out, g0.out, g1.out, g2.out, g3.out, f0.out, f1.out, f2.out, f3.out, f4.out, f5.out, f6.out, f7.out, f8.out, f9.out, f10.out, f11.out, f12.out, f13.out, f14.out, f15.out, f16.out, f17.out, f18.out, f19.out, f20.out, f21.out, fun _ => rfl, f23.out, f24.out⟩
      · simp only [soleRDeps, List.getD_cons_zero, List.getD_cons_succ, List.all_cons, List.all_nil, Bool.and_true, Bool.and_eq_true] at hr
        obtain ⟨hd22, hd20⟩ := hr
        obtain rfl := f22.out hd22
        obtain rfl := f20.out hd20
        refine wpOp_step rfl (fun K hK => ?_)
        simp only [sets, List.foldl_cons, List.foldl_nil, List.set_cons_succ, List.set_cons_zero]
        go_simp
        refine (sole_any s.slope W).mono ?_
        rintro _ W6 ⟨rfl, hb6⟩
        exact hK _ _ ⟨s4, s5, s6, s7, s8, s9, s10, s11, s12, s13, s14, s15, s16, s17, s18, s19, s20, s21, s22, s23, (.agg #[.int .i64 s.speed, .int .i64 s.speed]), s25, (.int .i64 s.slope), (.agg #[.int .i64 s.slope, .int .i64 s.slope]), s28, by kernel_rfl, hB.out.ext ⟨W6, hb6⟩, (fun h => (hb6.block _ (by omega)).trans (g0.out h)), (fun h => (hb6.block _ (by omega)).trans (g1.out h)), (fun h => (hb6.block _ (by omega)).trans (g2.out h)), (fun h => (hb6.block _ (by omega)).trans (g3.out h)), f0.out, f1.out, f2.out, f3.out, f4.out, f5.out, f6.out, f7.out, f8.out, f9.out, f10.out, f11.out, f12.out, f13.out, f14.out, f15.out, f16.out, f17.out, f18.out, f19.out, f20.out, f21.out, f22.out, fun _ => rfl, f24.out⟩
      · simp only [soleRDeps, List.getD_cons_zero, List.getD_cons_succ, List.all_cons, List.all_nil, Bool.and_true, Bool.and_eq_true] at hr
        obtain ⟨hd20, hd23⟩ := hr
        obtain rfl := f20.out hd20
        obtain rfl := f23.out hd23
        refine wpOp_step rfl (fun K hK => ?_)
        simp only [sets, List.foldl_cons, List.foldl_nil, List.set_cons_succ, List.set_cons_zero]
        go_simp
        exact hK _ _ ⟨s4, s5, s6, s7, s8, s9, s10, s11, s12, s13, s14, s15, s16, s17, s18, s19, s20, s21, s22, s23, (.agg #[.int .i64 s.speed, .int .i64 s.speed]), s25, s26, (.agg #[.int .i64 s.slope, .int .i64 s.slope]), (.agg #[.int .i64 s.speed, .int .i64 s.speed, .int .i64 s.slope, .int .i64 s.slope]), by kernel_rfl, hB.out, g0.out, g1.out, g2.out, g3.out, f0.out, f1.out, f2.out, f3.out, f4.out, f5.out, f6.out, f7.out, f8.out, f9.out, f10.out, f11.out, f12.out, f13.out, f14.out, f15.out, f16.out, f17.out, f18.out, f19.out, f20.out, f21.out, f22.out, f23.out, fun _ => rfl⟩
      · simp only [soleRDeps, List.getD_cons_zero, List.getD_cons_succ, List.all_cons, List.all_nil, Bool.and_true, Bool.and_eq_true] at hr
        obtain ⟨hd17, hd23⟩ := hr
        obtain rfl := f17.out hd17
        obtain rfl := f23.out hd23
        have hi := hi.out
        simp only [List.getElem?_cons_zero, List.getElem?_cons_succ, Option.some.injEq] at hi
        subst hi
        have e := g0.out rfl
        refine wpOp_step rfl (fun K hK => ?_)
        simp only [sets, List.foldl_cons, List.foldl_nil, List.set_cons_succ, List.set_cons_zero]
        simp only [Region.wanted]
        refine store_op 31 (.tmp 2) (.tmp 21) rfl (w.heap.size + 1) #[.int .i64 s.size, .int .i64 s.size, .int .i64 s.dens, .int .i64 s.dens, .int .i64 s.strong, .int .i64 s.strong, .int .i64 s.spin, .int .i64 s.spin, .int .i64 s.shape, .int .i64 s.shape, .bool s.pile] (by kernel_rfl) (by kernel_rfl) 31 _ e (by kernel_rfl) rfl (by simp [Value.oneCell']) ?_
        exact hK _ _ ⟨s4, s5, s6, s7, s8, s9, s10, s11, s12, s13, s14, s15, s16, s17, s18, s19, s20, (.agg #[.int .i64 s.size, .int .i64 s.size, .int .i64 s.dens, .int .i64 s.dens, .int .i64 s.strong, .int .i64 s.strong, .int .i64 s.spin, .int .i64 s.spin, .int .i64 s.shape, .int .i64 s.shape, .bool s.pile]), s22, s23, s24, s25, s26, (.agg #[.int .i64 s.slope, .int .i64 s.slope]), s28, by kernel_rfl, hB.out.row (by omega) (by omega) _, (fun h => by cases h), (fun h => (setRow_other _ _ _ _ (by omega)).trans (g1.out h)), (fun _ => setRow_heap _ _ _ _ _ _ e), (fun h => (setRow_other _ _ _ _ (by omega)).trans (g3.out h)), f0.out, f1.out, f2.out, f3.out, f4.out, f5.out, f6.out, f7.out, f8.out, f9.out, f10.out, f11.out, f12.out, f13.out, f14.out, f15.out, f16.out, f17.out, f18.out, f19.out, f20.out, f21.out, f22.out, f23.out, f24.out⟩
      · simp only [soleRDeps, List.getD_cons_zero, List.getD_cons_succ, List.all_cons, List.all_nil, Bool.and_true, Bool.and_eq_true] at hr
        obtain ⟨hd24, hd25⟩ := hr
        obtain rfl := f24.out hd24
        have hi := hi.out
        simp only [List.getElem?_cons_zero, List.getElem?_cons_succ, Option.some.injEq] at hi
        subst hi
        have e := g1.out rfl
        refine wpOp_step rfl (fun K hK => ?_)
        simp only [sets, List.foldl_cons, List.foldl_nil, List.set_cons_succ, List.set_cons_zero]
        simp only [Region.wanted]
        refine store_op 33 (.tmp 3) (.tmp 28) rfl (w.heap.size + 1 + 1) #[.int .i64 s.speed, .int .i64 s.speed, .int .i64 s.slope, .int .i64 s.slope] (by kernel_rfl) (by kernel_rfl) 33 _ e (by kernel_rfl) rfl (by simp [Value.oneCell']) ?_
        exact hK _ _ ⟨s4, s5, s6, s7, s8, s9, s10, s11, s12, s13, s14, s15, s16, s17, s18, s19, s20, s21, s22, s23, s24, s25, s26, s27, (.agg #[.int .i64 s.speed, .int .i64 s.speed, .int .i64 s.slope, .int .i64 s.slope]), by kernel_rfl, hB.out.row (by omega) (by omega) _, (fun h => (setRow_other _ _ _ _ (by omega)).trans (g0.out h)), (fun h => by cases h), (fun h => (setRow_other _ _ _ _ (by omega)).trans (g2.out h)), (fun _ => setRow_heap _ _ _ _ _ _ e), f0.out, f1.out, f2.out, f3.out, f4.out, f5.out, f6.out, f7.out, f8.out, f9.out, f10.out, f11.out, f12.out, f13.out, f14.out, f15.out, f16.out, f17.out, f18.out, f19.out, f20.out, f21.out, f22.out, f23.out, f24.out⟩
      · have hi := hi.out; simp at hi
  rintro a4 W4 ⟨ha4, hk4, hr4, hr5⟩
  generalize a4.tmps.getD 4 undef = s4 at ha4
  generalize a4.tmps.getD 5 undef = s5 at ha4
  generalize a4.tmps.getD 6 undef = s6 at ha4
  generalize a4.tmps.getD 7 undef = s7 at ha4
  generalize a4.tmps.getD 8 undef = s8 at ha4
  generalize a4.tmps.getD 9 undef = s9 at ha4
  generalize a4.tmps.getD 10 undef = s10 at ha4
  generalize a4.tmps.getD 11 undef = s11 at ha4
  generalize a4.tmps.getD 12 undef = s12 at ha4
  generalize a4.tmps.getD 13 undef = s13 at ha4
  generalize a4.tmps.getD 14 undef = s14 at ha4
  generalize a4.tmps.getD 15 undef = s15 at ha4
  generalize a4.tmps.getD 16 undef = s16 at ha4
  generalize a4.tmps.getD 17 undef = s17 at ha4
  generalize a4.tmps.getD 18 undef = s18 at ha4
  generalize a4.tmps.getD 19 undef = s19 at ha4
  generalize a4.tmps.getD 20 undef = s20 at ha4
  generalize a4.tmps.getD 21 undef = s21 at ha4
  generalize a4.tmps.getD 22 undef = s22 at ha4
  generalize a4.tmps.getD 23 undef = s23 at ha4
  generalize a4.tmps.getD 24 undef = s24 at ha4
  generalize a4.tmps.getD 25 undef = s25 at ha4
  generalize a4.tmps.getD 26 undef = s26 at ha4
  generalize a4.tmps.getD 27 undef = s27 at ha4
  generalize a4.tmps.getD 28 undef = s28 at ha4
  subst ha4
  simp only [sets, List.foldl_cons, List.foldl_nil, List.set_cons_succ, List.set_cons_zero]
  have hB4 : Below w.heap.size w W4 := hk4.below hB0 (by omega) (by omega) (by omega)
  have r0 : W4.cell? ⟨w.heap.size + 1, 0, none⟩ = some (.int .i64 s.size) := (cell_of_row W4 _ 0 _ _ _ hr4).trans rfl
  have r1 : W4.cell? ⟨w.heap.size + 1, 1, none⟩ = some (.int .i64 s.size) := (cell_of_row W4 _ 1 _ _ _ hr4).trans rfl
  have r2 : W4.cell? ⟨w.heap.size + 1, 2, none⟩ = some (.int .i64 s.dens) := (cell_of_row W4 _ 2 _ _ _ hr4).trans rfl
  have r3 : W4.cell? ⟨w.heap.size + 1, 3, none⟩ = some (.int .i64 s.dens) := (cell_of_row W4 _ 3 _ _ _ hr4).trans rfl
  have r4 : W4.cell? ⟨w.heap.size + 1, 4, none⟩ = some (.int .i64 s.strong) := (cell_of_row W4 _ 4 _ _ _ hr4).trans rfl
  have r5 : W4.cell? ⟨w.heap.size + 1, 5, none⟩ = some (.int .i64 s.strong) := (cell_of_row W4 _ 5 _ _ _ hr4).trans rfl
  have r6 : W4.cell? ⟨w.heap.size + 1, 6, none⟩ = some (.int .i64 s.spin) := (cell_of_row W4 _ 6 _ _ _ hr4).trans rfl
  have r7 : W4.cell? ⟨w.heap.size + 1, 7, none⟩ = some (.int .i64 s.spin) := (cell_of_row W4 _ 7 _ _ _ hr4).trans rfl
  have r8 : W4.cell? ⟨w.heap.size + 1, 8, none⟩ = some (.int .i64 s.shape) := (cell_of_row W4 _ 8 _ _ _ hr4).trans rfl
  have r9 : W4.cell? ⟨w.heap.size + 1, 9, none⟩ = some (.int .i64 s.shape) := (cell_of_row W4 _ 9 _ _ _ hr4).trans rfl
  have r10 : W4.cell? ⟨w.heap.size + 1, 10, none⟩ = some (.bool s.pile) := (cell_of_row W4 _ 10 _ _ _ hr4).trans rfl
  have t0 : W4.cell? ⟨w.heap.size + 1 + 1, 0, none⟩ = some (.int .i64 s.speed) := (cell_of_row W4 _ 0 _ _ _ hr5).trans rfl
  have t1 : W4.cell? ⟨w.heap.size + 1 + 1, 1, none⟩ = some (.int .i64 s.speed) := (cell_of_row W4 _ 1 _ _ _ hr5).trans rfl
  have t2 : W4.cell? ⟨w.heap.size + 1 + 1, 2, none⟩ = some (.int .i64 s.slope) := (cell_of_row W4 _ 2 _ _ _ hr5).trans rfl
  have t3 : W4.cell? ⟨w.heap.size + 1 + 1, 3, none⟩ = some (.int .i64 s.slope) := (cell_of_row W4 _ 3 _ _ _ hr5).trans rfl
  go_wp2_with fail
  refine bodyPost_ret (v := .tuple #[.agg #[.int .i64 s.size, .int .i64 s.size, .int .i64 s.dens, .int .i64 s.dens, .int .i64 s.strong, .int .i64 s.strong, .int .i64 s.spin, .int .i64 s.spin, .int .i64 s.shape, .int .i64 s.shape, .bool s.pile], .agg #[.int .i64 s.speed, .int .i64 s.speed, .int .i64 s.slope, .int .i64 s.slope]]) (by simp (maxDischargeDepth := 9) [results, Tryd.results52, go_sem, r0, r1, r2, r3, r4, r5, r6, r7, r8, r9, r10, t0, t1, t2, t3]) rfl ?_
  exact ⟨rfl, hB4⟩
end Go.Proofs.YtlmhbggigbmeaaaDoor

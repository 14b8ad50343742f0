/- Contract of StoneOf: a stone of a rock with a fall, made of a ring's numbers. Written by gen_ring.py. Condition: the ring's block is as NewRing made it. -/
import Derived.Test.YtlmhbggigbmeaaaDoorRootG
namespace Go.Proofs.YtlmhbggigbmeaaaDoor
open Go.RowKit Go.Shelf
attribute [local go_sem] Option.isSome_some Ext.cell Ext.frozen Ext.lt Ext.le Ext.lt_add Ext.le_add Ext.ne Ext.ne' lt2 lt3 lt4 lt5 le2 le3 le4
attribute [local go_sem] RExt.cell RExt.frozen RExt.lt RExt.le RExt.lt_add RExt.le_add RExt.ne RExt.ne'
/-- A stone of a rock with a fall. -/
structure StoneIn (s : StoneR) (k : RockR) (f : FallR) : Prop where
  size : k.size.x ≤ s.size ∧ s.size ≤ k.size.y
  dens : k.dens.x ≤ s.dens ∧ s.dens ≤ k.dens.y
  strong : k.strong.x ≤ s.strong ∧ s.strong ≤ k.strong.y
  spin : k.spin.x ≤ s.spin ∧ s.spin ≤ k.spin.y
  shape : k.shape.x ≤ s.shape ∧ s.shape ≤ k.shape.y
  pile : s.pile = k.pile
  speed : f.speed.x ≤ s.speed ∧ s.speed ≤ f.speed.y
  slope : f.slope.x ≤ s.slope ∧ s.slope ≤ f.slope.y
theorem list32 {α : Type} {l : List α} (h : l.length = 32) : ∃ b0 b1 b2 b3 b4 b5 b6 b7 b8 b9 b10 b11 b12 b13 b14 b15 b16 b17 b18 b19 b20 b21 b22 b23 b24 b25 b26 b27 b28 b29 b30 b31, l = [b0, b1, b2, b3, b4, b5, b6, b7, b8, b9, b10, b11, b12, b13, b14, b15, b16, b17, b18, b19, b20, b21, b22, b23, b24, b25, b26, b27, b28, b29, b30, b31] := by
  match l, h with
  | [b0, b1, b2, b3, b4, b5, b6, b7, b8, b9, b10, b11, b12, b13, b14, b15, b16, b17, b18, b19, b20, b21, b22, b23, b24, b25, b26, b27, b28, b29, b30, b31], _ => exact ⟨_, _, _, _, _, _, _, _, _, _, _, _, _, _, _, _, _, _, _, _, _, _, _, _, _, _, _, _, _, _, _, _, rfl⟩
def stoneDeps : List (List Nat) := [[], [], [1], [0, 2], [], [], [5], [4, 6, 3], [], [], [9], [8, 10, 7], [], [], [13], [12, 14, 11], [], [], [17], [16, 18, 15], [], [20], [], [], [23], [22, 24, 19], [], [], [27], [26, 28, 25], [3, 7, 11, 15, 19, 21, 25, 29], [30]]
def stoneInv (b m KB FB R : Nat) (k : RockR) (f : FallR) (a0 : Act) (X : World) (l : List Bool) (fr : Act) (W : World) : Prop :=
  ∃ s7 s8 s9 s10 s11 s12 s13 s14 s15 s16 s17 s18 s19 s20 s21 s22 s23 s24 s25 s26 s27 s28 s29 s30 s31 s32 s33 s34 s35 s36 s37 : Value, fr = sets a0 [(7, s7), (8, s8), (9, s9), (10, s10), (11, s11), (12, s12), (13, s13), (14, s14), (15, s15), (16, s16), (17, s17), (18, s18), (19, s19), (20, s20), (21, s21), (22, s22), (23, s23), (24, s24), (25, s25), (26, s26), (27, s27), (28, s28), (29, s29), (30, s30), (31, s31), (32, s32), (33, s33), (34, s34), (35, s35), (36, s36), (37, s37)] ∧ KeptX b R (R + 1) X W ∧
    (RingM W b (m + 2 * ((l.getD 3 false).toNat + (l.getD 7 false).toNat + (l.getD 11 false).toNat + (l.getD 15 false).toNat + (l.getD 19 false).toNat + (l.getD 25 false).toNat + (l.getD 29 false).toNat))) ∧
    (l.getD 31 false = false → W.heap[R]? = some (.cells #[.int .i64 0, .int .i64 0, .int .i64 0, .int .i64 0, .int .i64 0, .bool false, .int .i64 0, .int .i64 0] 57 (0, 0))) ∧
    (l.getD 0 false = true → s7 = .pointer (some ⟨b, 0, none⟩)) ∧
    (l.getD 1 false = true → s8 = .pointer (some ⟨KB, 0, none⟩)) ∧
    (l.getD 2 false = true → s9 = .agg #[.int .i64 k.size.x, .int .i64 k.size.y]) ∧
    (l.getD 3 false = true → ∃ v : Int, s10 = .int .i64 v ∧ k.size.x ≤ v ∧ v ≤ k.size.y) ∧
    (l.getD 4 false = true → s11 = .pointer (some ⟨b, 0, none⟩)) ∧
    (l.getD 5 false = true → s12 = .pointer (some ⟨KB, 2, none⟩)) ∧
    (l.getD 6 false = true → s13 = .agg #[.int .i64 k.dens.x, .int .i64 k.dens.y]) ∧
    (l.getD 7 false = true → ∃ v : Int, s14 = .int .i64 v ∧ k.dens.x ≤ v ∧ v ≤ k.dens.y) ∧
    (l.getD 8 false = true → s15 = .pointer (some ⟨b, 0, none⟩)) ∧
    (l.getD 9 false = true → s16 = .pointer (some ⟨KB, 4, none⟩)) ∧
    (l.getD 10 false = true → s17 = .agg #[.int .i64 k.strong.x, .int .i64 k.strong.y]) ∧
    (l.getD 11 false = true → ∃ v : Int, s18 = .int .i64 v ∧ k.strong.x ≤ v ∧ v ≤ k.strong.y) ∧
    (l.getD 12 false = true → s19 = .pointer (some ⟨b, 0, none⟩)) ∧
    (l.getD 13 false = true → s20 = .pointer (some ⟨KB, 6, none⟩)) ∧
    (l.getD 14 false = true → s21 = .agg #[.int .i64 k.spin.x, .int .i64 k.spin.y]) ∧
    (l.getD 15 false = true → ∃ v : Int, s22 = .int .i64 v ∧ k.spin.x ≤ v ∧ v ≤ k.spin.y) ∧
    (l.getD 16 false = true → s23 = .pointer (some ⟨b, 0, none⟩)) ∧
    (l.getD 17 false = true → s24 = .pointer (some ⟨KB, 8, none⟩)) ∧
    (l.getD 18 false = true → s25 = .agg #[.int .i64 k.shape.x, .int .i64 k.shape.y]) ∧
    (l.getD 19 false = true → ∃ v : Int, s26 = .int .i64 v ∧ k.shape.x ≤ v ∧ v ≤ k.shape.y) ∧
    (l.getD 20 false = true → s27 = .pointer (some ⟨KB, 10, none⟩)) ∧
    (l.getD 21 false = true → s28 = .bool k.pile) ∧
    (l.getD 22 false = true → s29 = .pointer (some ⟨b, 0, none⟩)) ∧
    (l.getD 23 false = true → s30 = .pointer (some ⟨FB, 0, none⟩)) ∧
    (l.getD 24 false = true → s31 = .agg #[.int .i64 f.speed.x, .int .i64 f.speed.y]) ∧
    (l.getD 25 false = true → ∃ v : Int, s32 = .int .i64 v ∧ f.speed.x ≤ v ∧ v ≤ f.speed.y) ∧
    (l.getD 26 false = true → s33 = .pointer (some ⟨b, 0, none⟩)) ∧
    (l.getD 27 false = true → s34 = .pointer (some ⟨FB, 2, none⟩)) ∧
    (l.getD 28 false = true → s35 = .agg #[.int .i64 f.slope.x, .int .i64 f.slope.y]) ∧
    (l.getD 29 false = true → ∃ v : Int, s36 = .int .i64 v ∧ f.slope.x ≤ v ∧ v ≤ f.slope.y) ∧
    (l.getD 30 false = true → ∃ s : StoneR, StoneIn s k f ∧ s37 = .agg s.vals) ∧
    (l.getD 31 false = true → ∃ s : StoneR, StoneIn s k f ∧ W.heap[R]? = some (.cells s.vals 57 (0, 0)))
def stoneTold (b m R : Nat) (k : RockR) (f : FallR) : Act → World → Act → World → Prop := fun a X a' W => ∃ s : StoneR, StoneIn s k f ∧ a' = sets a [(7, a'.tmps.getD 7 undef), (8, a'.tmps.getD 8 undef), (9, a'.tmps.getD 9 undef), (10, a'.tmps.getD 10 undef), (11, a'.tmps.getD 11 undef), (12, a'.tmps.getD 12 undef), (13, a'.tmps.getD 13 undef), (14, a'.tmps.getD 14 undef), (15, a'.tmps.getD 15 undef), (16, a'.tmps.getD 16 undef), (17, a'.tmps.getD 17 undef), (18, a'.tmps.getD 18 undef), (19, a'.tmps.getD 19 undef), (20, a'.tmps.getD 20 undef), (21, a'.tmps.getD 21 undef), (22, a'.tmps.getD 22 undef), (23, a'.tmps.getD 23 undef), (24, a'.tmps.getD 24 undef), (25, a'.tmps.getD 25 undef), (26, a'.tmps.getD 26 undef), (27, a'.tmps.getD 27 undef), (28, a'.tmps.getD 28 undef), (29, a'.tmps.getD 29 undef), (30, a'.tmps.getD 30 undef), (31, a'.tmps.getD 31 undef), (32, a'.tmps.getD 32 undef), (33, a'.tmps.getD 33 undef), (34, a'.tmps.getD 34 undef), (35, a'.tmps.getD 35 undef), (36, a'.tmps.getD 36 undef), (37, a'.tmps.getD 37 undef)] ∧ KeptX b R (R + 1) X W ∧ RingM W b (m + 14) ∧ W.heap[R]? = some (.cells s.vals 57 (0, 0))
def StonePost (b m : Nat) (k : RockR) (f : FallR) (w : World) : Ending → World → Prop := fun e w' => ∃ (y : RExt w b) (s : StoneR), e = .returned s.val ∧ StoneIn s k f ∧ w' = y.now ∧ RingM y.now b (m + 14)
set_option maxRecDepth 100000 in
set_option maxHeartbeats 16000000 in
theorem StoneOf_y (b m : Nat) (k : RockR) (f : FallR) (w : World) (hm : m < 1000000) (hok : RockOk k f) (h : RingM w b m) : Calls Tryd.prog 36 #[.pointer (some ⟨b, 0, none⟩), k.val, f.val] w (StonePost b m k f w) := by
  have hl := h.lt
  unfold RockR.val FallR.val
  go_enter Tryd.func36, Tryd.ntmps36
  go_upto_region 1 with (first | ((first | with_reducible refine wrx2 ?_ | with_reducible refine wrx ?_); (repeat (first | go_big_quiet_step ((first | fail)) | quiet_step ((first | fail)))); refine wpQuiet_nil ?_; rintro _ ⟨yr, rfl⟩; have syr := Ext.size yr; (repeat (first | rw [World.size_alloc] at syr | rw [World.size_setCell] at syr | rw [World.size_drew] at syr)); have : b < yr.now.heap.size := (by omega); have : b ≤ yr.now.heap.size := (by omega); have : b < yr.now.heap.size + 1 + 1 := (by omega)))
  refine wp_named (fun W0 hW => ?_)
  have hB0 : BelowX b w.heap.size w W0 := by rw [← hW]; repeat' (first | (with_reducible exact BelowX.refl _ _ _) | (with_reducible assumption) | (with_reducible refine RExt.belowX _ ?_ ?_) | (with_reducible refine Ext.belowX _ ?_ ?_) | (with_reducible refine BelowX.alloc ?_ ?_ _) | (with_reducible refine BelowX.drew ?_) | (with_reducible refine BelowX.setCell ?_ ?_ _) | (with_reducible exact Nat.le_refl _) | omega | (simp; done) | (simp [go_sem]; done) | (simp at *; omega))
  have c0 : W0.cell? ⟨w.heap.size, 0, none⟩ = some (.int .i64 k.size.x) := by rw [← hW]; simp [go_sem]
  have c1 : W0.cell? ⟨w.heap.size, 1, none⟩ = some (.int .i64 k.size.y) := by rw [← hW]; simp [go_sem]
  have c2 : W0.cell? ⟨w.heap.size, 2, none⟩ = some (.int .i64 k.dens.x) := by rw [← hW]; simp [go_sem]
  have c3 : W0.cell? ⟨w.heap.size, 3, none⟩ = some (.int .i64 k.dens.y) := by rw [← hW]; simp [go_sem]
  have c4 : W0.cell? ⟨w.heap.size, 4, none⟩ = some (.int .i64 k.strong.x) := by rw [← hW]; simp [go_sem]
  have c5 : W0.cell? ⟨w.heap.size, 5, none⟩ = some (.int .i64 k.strong.y) := by rw [← hW]; simp [go_sem]
  have c6 : W0.cell? ⟨w.heap.size, 6, none⟩ = some (.int .i64 k.spin.x) := by rw [← hW]; simp [go_sem]
  have c7 : W0.cell? ⟨w.heap.size, 7, none⟩ = some (.int .i64 k.spin.y) := by rw [← hW]; simp [go_sem]
  have c8 : W0.cell? ⟨w.heap.size, 8, none⟩ = some (.int .i64 k.shape.x) := by rw [← hW]; simp [go_sem]
  have c9 : W0.cell? ⟨w.heap.size, 9, none⟩ = some (.int .i64 k.shape.y) := by rw [← hW]; simp [go_sem]
  have c10 : W0.cell? ⟨w.heap.size, 10, none⟩ = some (.bool k.pile) := by rw [← hW]; simp [go_sem]
  have d0 : W0.cell? ⟨w.heap.size + 1, 0, none⟩ = some (.int .i64 f.speed.x) := by rw [← hW]; simp [go_sem]
  have d1 : W0.cell? ⟨w.heap.size + 1, 1, none⟩ = some (.int .i64 f.speed.y) := by rw [← hW]; simp [go_sem]
  have d2 : W0.cell? ⟨w.heap.size + 1, 2, none⟩ = some (.int .i64 f.slope.x) := by rw [← hW]; simp [go_sem]
  have d3 : W0.cell? ⟨w.heap.size + 1, 3, none⟩ = some (.int .i64 f.slope.y) := by rw [← hW]; simp [go_sem]
  have hz : W0.heap[w.heap.size + 1 + 1]? = some (.cells #[.int .i64 0, .int .i64 0, .int .i64 0, .int .i64 0, .int .i64 0, .bool false, .int .i64 0, .int .i64 0] 57 (0, 0)) := by
    rw [← hW]
    have := heap_alloc_new ((w.alloc (.cells #[.int .i64 k.size.x, .int .i64 k.size.y, .int .i64 k.dens.x, .int .i64 k.dens.y, .int .i64 k.strong.x, .int .i64 k.strong.y, .int .i64 k.spin.x, .int .i64 k.spin.y, .int .i64 k.shape.x, .int .i64 k.shape.y, .bool k.pile] 31)).alloc (.cells #[.int .i64 f.speed.x, .int .i64 f.speed.y, .int .i64 f.slope.x, .int .i64 f.slope.y] 33)) (.cells #[.int .i64 0, .int .i64 0, .int .i64 0, .int .i64 0, .int .i64 0, .bool false, .int .i64 0, .int .i64 0] 57 (0, 0))
    simpa using this
  have hR0 : RingM W0 b m := by rw [← hW]; exact ((h.alloc _).alloc _).alloc _
  have hs0 : W0.heap.size = w.heap.size + 1 + 1 + 1 := by rw [← hW]; simp
  clear hW
  refine wp_tell (stoneTold b m (w.heap.size + 1 + 1) k f) ?_ ?_
  focus
    repeat (rename_i zz; clear zz)
    refine region_dep (by kernel_rfl) stoneDeps (by kernel_rfl) (stoneInv b m w.heap.size (w.heap.size + 1) (w.heap.size + 1 + 1) k f) ?h0 ?hstep ?hend
    case h0 =>
      refine ⟨?z7, ?z8, ?z9, ?z10, ?z11, ?z12, ?z13, ?z14, ?z15, ?z16, ?z17, ?z18, ?z19, ?z20, ?z21, ?z22, ?z23, ?z24, ?z25, ?z26, ?z27, ?z28, ?z29, ?z30, ?z31, ?z32, ?z33, ?z34, ?z35, ?z36, ?z37, ?fr, KeptX.start, (by simpa using hR0.drew), (fun _ => hz), by simp, by simp, by simp, by simp, by simp, by simp, by simp, by simp, by simp, by simp, by simp, by simp, by simp, by simp, by simp, by simp, by simp, by simp, by simp, by simp, by simp, by simp, by simp, by simp, by simp, by simp, by simp, by simp, by simp, by simp, by simp, by simp⟩
      case fr =>
        simp only [sets, List.foldl_cons, List.foldl_nil, List.set_cons_succ, List.set_cons_zero]
        rfl
    case hend =>
      intro l' fr W hl hall hInv
      unfold stoneInv at hInv
      obtain ⟨s7, s8, s9, s10, s11, s12, s13, s14, s15, s16, s17, s18, s19, s20, s21, s22, s23, s24, s25, s26, s27, s28, s29, s30, s31, s32, s33, s34, s35, s36, s37, hInv⟩ := hInv
      obtain ⟨hfr, hB, g0, g1, f0, f1, f2, f3, f4, f5, f6, f7, f8, f9, f10, f11, f12, f13, f14, f15, f16, f17, f18, f19, f20, f21, f22, f23, f24, f25, f26, f27, f28, f29, f30, f31⟩ := hInv
      subst hfr
      obtain ⟨b0, b1, b2, b3, b4, b5, b6, b7, b8, b9, b10, b11, b12, b13, b14, b15, b16, b17, b18, b19, b20, b21, b22, b23, b24, b25, b26, b27, b28, b29, b30, b31, rfl⟩ := list32 hl
      simp only [List.getD_cons_zero, List.getD_cons_succ] at g0 g1 f0 f1 f2 f3 f4 f5 f6 f7 f8 f9 f10 f11 f12 f13 f14 f15 f16 f17 f18 f19 f20 f21 f22 f23 f24 f25 f26 f27 f28 f29 f30 f31
      simp only [List.all_cons, id, Bool.and_eq_true] at hall
      obtain ⟨e0, e1, e2, e3, e4, e5, e6, e7, e8, e9, e10, e11, e12, e13, e14, e15, e16, e17, e18, e19, e20, e21, e22, e23, e24, e25, e26, e27, e28, e29, e30, e31, -⟩ := hall
      obtain ⟨s, hs, e⟩ := f31 e31
      have hg : RingM W b (m + 14) := by simpa only [e3, e7, e11, e15, e19, e25, e29, Bool.toNat_true] using g0
      exact ⟨rfl, s, hs, by kernel_rfl, hB, hg, e⟩
    case hstep =>
      intro l' fr W ii hl hInv hr hi
      unfold stoneInv at hInv
      obtain ⟨s7, s8, s9, s10, s11, s12, s13, s14, s15, s16, s17, s18, s19, s20, s21, s22, s23, s24, s25, s26, s27, s28, s29, s30, s31, s32, s33, s34, s35, s36, s37, hInv⟩ := hInv
      obtain ⟨hfr, hB, g0, g1, f0, f1, f2, f3, f4, f5, f6, f7, f8, f9, f10, f11, f12, f13, f14, f15, f16, f17, f18, f19, f20, f21, f22, f23, f24, f25, f26, f27, f28, f29, f30, f31⟩ := hInv
      subst hfr
      obtain ⟨b0, b1, b2, b3, b4, b5, b6, b7, b8, b9, b10, b11, b12, b13, b14, b15, b16, b17, b18, b19, b20, b21, b22, b23, b24, b25, b26, b27, b28, b29, b30, b31, rfl⟩ := list32 hl
      have sW := hB.size
      replace c0 := (hB.cell (o := 0) (by omega) (by omega) (by omega)).trans c0
      replace c1 := (hB.cell (o := 1) (by omega) (by omega) (by omega)).trans c1
      replace c2 := (hB.cell (o := 2) (by omega) (by omega) (by omega)).trans c2
      replace c3 := (hB.cell (o := 3) (by omega) (by omega) (by omega)).trans c3
      replace c4 := (hB.cell (o := 4) (by omega) (by omega) (by omega)).trans c4
      replace c5 := (hB.cell (o := 5) (by omega) (by omega) (by omega)).trans c5
      replace c6 := (hB.cell (o := 6) (by omega) (by omega) (by omega)).trans c6
      replace c7 := (hB.cell (o := 7) (by omega) (by omega) (by omega)).trans c7
      replace c8 := (hB.cell (o := 8) (by omega) (by omega) (by omega)).trans c8
      replace c9 := (hB.cell (o := 9) (by omega) (by omega) (by omega)).trans c9
      replace c10 := (hB.cell (o := 10) (by omega) (by omega) (by omega)).trans c10
      replace d0 := (hB.cell (o := 0) (by omega) (by omega) (by omega)).trans d0
      replace d1 := (hB.cell (o := 1) (by omega) (by omega) (by omega)).trans d1
      replace d2 := (hB.cell (o := 2) (by omega) (by omega) (by omega)).trans d2
      replace d3 := (hB.cell (o := 3) (by omega) (by omega) (by omega)).trans d3
      have hflags : b3.toNat ≤ 1 ∧ b7.toNat ≤ 1 ∧ b11.toNat ≤ 1 ∧ b15.toNat ≤ 1 ∧ b19.toNat ≤ 1 ∧ b25.toNat ≤ 1 ∧ b29.toNat ≤ 1 := ⟨Bool.toNat_le _, Bool.toNat_le _, Bool.toNat_le _, Bool.toNat_le _, Bool.toNat_le _, Bool.toNat_le _, Bool.toNat_le _⟩
      simp only [List.getD_cons_zero, List.getD_cons_succ] at g0 g1 f0 f1 f2 f3 f4 f5 f6 f7 f8 f9 f10 f11 f12 f13 f14 f15 f16 f17 f18 f19 f20 f21 f22 f23 f24 f25 f26 f27 f28 f29 f30 f31
      replace hB := Go.Lib.hid hB
      replace hi := Go.Lib.hid hi
      replace g0 := Go.Lib.hid g0
      replace g1 := Go.Lib.hid g1
      replace f0 := Go.Lib.hid f0
      replace f1 := Go.Lib.hid f1
      replace f2 := Go.Lib.hid f2
      replace f3 := Go.Lib.hid f3
      replace f4 := Go.Lib.hid f4
      replace f5 := Go.Lib.hid f5
      replace f6 := Go.Lib.hid f6
      replace f7 := Go.Lib.hid f7
      replace f8 := Go.Lib.hid f8
      replace f9 := Go.Lib.hid f9
      replace f10 := Go.Lib.hid f10
      replace f11 := Go.Lib.hid f11
      replace f12 := Go.Lib.hid f12
      replace f13 := Go.Lib.hid f13
      replace f14 := Go.Lib.hid f14
      replace f15 := Go.Lib.hid f15
      replace f16 := Go.Lib.hid f16
      replace f17 := Go.Lib.hid f17
      replace f18 := Go.Lib.hid f18
      replace f19 := Go.Lib.hid f19
      replace f20 := Go.Lib.hid f20
      replace f21 := Go.Lib.hid f21
      replace f22 := Go.Lib.hid f22
      replace f23 := Go.Lib.hid f23
      replace f24 := Go.Lib.hid f24
      replace f25 := Go.Lib.hid f25
      replace f26 := Go.Lib.hid f26
      replace f27 := Go.Lib.hid f27
      replace f28 := Go.Lib.hid f28
      replace f29 := Go.Lib.hid f29
      replace f30 := Go.Lib.hid f30
      replace f31 := Go.Lib.hid f31
      rcases ii with _ | _ | _ | _ | _ | _ | _ | _ | _ | _ | _ | _ | _ | _ | _ | _ | _ | _ | _ | _ | _ | _ | _ | _ | _ | _ | _ | _ | _ | _ | _ | _ | ii
      · refine wpOp_step rfl (fun K hK => ?_)
        simp only [sets, List.foldl_cons, List.foldl_nil, List.set_cons_succ, List.set_cons_zero]
        go_simp
        exact hK _ _ ⟨(.pointer (some ⟨b, 0, none⟩)), s8, s9, s10, s11, s12, s13, s14, s15, s16, s17, s18, s19, s20, s21, s22, s23, s24, s25, s26, s27, s28, s29, s30, s31, s32, s33, s34, s35, s36, s37, by kernel_rfl, hB.out, g0.out, g1.out, fun _ => rfl, f1.out, f2.out, f3.out, f4.out, f5.out, f6.out, f7.out, f8.out, f9.out, f10.out, f11.out, f12.out, f13.out, f14.out, f15.out, f16.out, f17.out, f18.out, f19.out, f20.out, f21.out, f22.out, f23.out, f24.out, f25.out, f26.out, f27.out, f28.out, f29.out, f30.out, f31.out⟩
      · refine wpOp_step rfl (fun K hK => ?_)
        simp only [sets, List.foldl_cons, List.foldl_nil, List.set_cons_succ, List.set_cons_zero]
        go_simp
        exact hK _ _ ⟨s7, (.pointer (some ⟨w.heap.size, 0, none⟩)), s9, s10, s11, s12, s13, s14, s15, s16, s17, s18, s19, s20, s21, s22, s23, s24, s25, s26, s27, s28, s29, s30, s31, s32, s33, s34, s35, s36, s37, by kernel_rfl, hB.out, g0.out, g1.out, f0.out, fun _ => rfl, f2.out, f3.out, f4.out, f5.out, f6.out, f7.out, f8.out, f9.out, f10.out, f11.out, f12.out, f13.out, f14.out, f15.out, f16.out, f17.out, f18.out, f19.out, f20.out, f21.out, f22.out, f23.out, f24.out, f25.out, f26.out, f27.out, f28.out, f29.out, f30.out, f31.out⟩
      · simp only [stoneDeps, List.getD_cons_zero, List.getD_cons_succ, List.all_cons, List.all_nil, Bool.and_true] at hr
        have hd1 := hr
        obtain rfl := f1.out hd1
        refine wpOp_step rfl (fun K hK => ?_)
        simp only [sets, List.foldl_cons, List.foldl_nil, List.set_cons_succ, List.set_cons_zero]
        go_simp
        exact hK _ _ ⟨s7, (.pointer (some ⟨w.heap.size, 0, none⟩)), (.agg #[.int .i64 k.size.x, .int .i64 k.size.y]), s10, s11, s12, s13, s14, s15, s16, s17, s18, s19, s20, s21, s22, s23, s24, s25, s26, s27, s28, s29, s30, s31, s32, s33, s34, s35, s36, s37, by kernel_rfl, hB.out, g0.out, g1.out, f0.out, f1.out, fun _ => rfl, f3.out, f4.out, f5.out, f6.out, f7.out, f8.out, f9.out, f10.out, f11.out, f12.out, f13.out, f14.out, f15.out, f16.out, f17.out, f18.out, f19.out, f20.out, f21.out, f22.out, f23.out, f24.out, f25.out, f26.out, f27.out, f28.out, f29.out, f30.out, f31.out⟩
      · simp only [stoneDeps, List.getD_cons_zero, List.getD_cons_succ, List.all_cons, List.all_nil, Bool.and_true, Bool.and_eq_true] at hr
        obtain ⟨hd0, hd2⟩ := hr
        obtain rfl := f0.out hd0
        obtain rfl := f2.out hd2
        have hi := hi.out
        simp only [List.getElem?_cons_zero, List.getElem?_cons_succ, Option.some.injEq] at hi
        subst hi
        refine wpOp_step rfl (fun K hK => ?_)
        simp only [sets, List.foldl_cons, List.foldl_nil, List.set_cons_succ, List.set_cons_zero]
        go_simp
        refine (inside_y k.size.x k.size.y b (m + 2 * (false.toNat + b7.toNat + b11.toNat + b15.toNat + b19.toNat + b25.toNat + b29.toNat)) W (by have := hflags; simp only [Bool.toNat_false] at *; omega) hok.size.2.1 (by have := hok.size; omega) (by have := hok.size; omega) g0.out).mono ?_
        rintro _ W6 ⟨y, v, rfl, hv, rfl, hr⟩
        exact hK _ _ ⟨(.pointer (some ⟨b, 0, none⟩)), s8, (.agg #[.int .i64 k.size.x, .int .i64 k.size.y]), (.int .i64 v), s11, s12, s13, s14, s15, s16, s17, s18, s19, s20, s21, s22, s23, s24, s25, s26, s27, s28, s29, s30, s31, s32, s33, s34, s35, s36, s37, by kernel_rfl, hB.out.rext y, (hr.mono (by simp only [List.set_cons_succ, List.set_cons_zero, List.getD_cons_zero, List.getD_cons_succ, Bool.toNat_true, Bool.toNat_false]; omega)), (fun h => y.row (g1.out h) (by omega) (by omega)), f0.out, f1.out, f2.out, (fun _ => ⟨v, rfl, hv⟩), f4.out, f5.out, f6.out, f7.out, f8.out, f9.out, f10.out, f11.out, f12.out, f13.out, f14.out, f15.out, f16.out, f17.out, f18.out, f19.out, f20.out, f21.out, f22.out, f23.out, f24.out, f25.out, f26.out, f27.out, f28.out, f29.out, f30.out, (fun h => by obtain ⟨s, hs, e⟩ := f31.out h; exact ⟨s, hs, y.row e (by omega) (by omega)⟩)⟩
      · refine wpOp_step rfl (fun K hK => ?_)
        simp only [sets, List.foldl_cons, List.foldl_nil, List.set_cons_succ, List.set_cons_zero]
        go_simp
        exact hK _ _ ⟨s7, s8, s9, s10, (.pointer (some ⟨b, 0, none⟩)), s12, s13, s14, s15, s16, s17, s18, s19, s20, s21, s22, s23, s24, s25, s26, s27, s28, s29, s30, s31, s32, s33, s34, s35, s36, s37, by kernel_rfl, hB.out, g0.out, g1.out, f0.out, f1.out, f2.out, f3.out, fun _ => rfl, f5.out, f6.out, f7.out, f8.out, f9.out, f10.out, f11.out, f12.out, f13.out, f14.out, f15.out, f16.out, f17.out, f18.out, f19.out, f20.out, f21.out, f22.out, f23.out, f24.out, f25.out, f26.out, f27.out, f28.out, f29.out, f30.out, f31.out⟩
      · refine wpOp_step rfl (fun K hK => ?_)
        simp only [sets, List.foldl_cons, List.foldl_nil, List.set_cons_succ, List.set_cons_zero]
        go_simp
        exact hK _ _ ⟨s7, s8, s9, s10, s11, (.pointer (some ⟨w.heap.size, 2, none⟩)), s13, s14, s15, s16, s17, s18, s19, s20, s21, s22, s23, s24, s25, s26, s27, s28, s29, s30, s31, s32, s33, s34, s35, s36, s37, by kernel_rfl, hB.out, g0.out, g1.out, f0.out, f1.out, f2.out, f3.out, f4.out, fun _ => rfl, f6.out, f7.out, f8.out, f9.out, f10.out, f11.out, f12.out, f13.out, f14.out, f15.out, f16.out, f17.out, f18.out, f19.out, f20.out, f21.out, f22.out, f23.out, f24.out, f25.out, f26.out, f27.out, f28.out, f29.out, f30.out, f31.out⟩
      · simp only [stoneDeps, List.getD_cons_zero, List.getD_cons_succ, List.all_cons, List.all_nil, Bool.and_true] at hr
        have hd5 := hr
        obtain rfl := f5.out hd5
        refine wpOp_step rfl (fun K hK => ?_)
        simp only [sets, List.foldl_cons, List.foldl_nil, List.set_cons_succ, List.set_cons_zero]
        go_simp
        exact hK _ _ ⟨s7, s8, s9, s10, s11, (.pointer (some ⟨w.heap.size, 2, none⟩)), (.agg #[.int .i64 k.dens.x, .int .i64 k.dens.y]), s14, s15, s16, s17, s18, s19, s20, s21, s22, s23, s24, s25, s26, s27, s28, s29, s30, s31, s32, s33, s34, s35, s36, s37, by kernel_rfl, hB.out, g0.out, g1.out, f0.out, f1.out, f2.out, f3.out, f4.out, f5.out, fun _ => rfl, f7.out, f8.out, f9.out, f10.out, f11.out, f12.out, f13.out, f14.out, f15.out, f16.out, f17.out, f18.out, f19.out, f20.out, f21.out, f22.out, f23.out, f24.out, f25.out, f26.out, f27.out, f28.out, f29.out, f30.out, f31.out⟩
      · simp only [stoneDeps, List.getD_cons_zero, List.getD_cons_succ, List.all_cons, List.all_nil, Bool.and_true, Bool.and_eq_true] at hr
        obtain ⟨hd4, hd6, hd3⟩ := hr
        obtain rfl := f4.out hd4
        obtain rfl := f6.out hd6
        have hi := hi.out
        simp only [List.getElem?_cons_zero, List.getElem?_cons_succ, Option.some.injEq] at hi
        subst hi
        refine wpOp_step rfl (fun K hK => ?_)
        simp only [sets, List.foldl_cons, List.foldl_nil, List.set_cons_succ, List.set_cons_zero]
        go_simp
        refine (inside_y k.dens.x k.dens.y b (m + 2 * (b3.toNat + false.toNat + b11.toNat + b15.toNat + b19.toNat + b25.toNat + b29.toNat)) W (by have := hflags; simp only [Bool.toNat_false] at *; omega) hok.dens.2.1 (by have := hok.dens; omega) (by have := hok.dens; omega) g0.out).mono ?_
        rintro _ W6 ⟨y, v, rfl, hv, rfl, hr⟩
        exact hK _ _ ⟨s7, s8, s9, s10, (.pointer (some ⟨b, 0, none⟩)), s12, (.agg #[.int .i64 k.dens.x, .int .i64 k.dens.y]), (.int .i64 v), s15, s16, s17, s18, s19, s20, s21, s22, s23, s24, s25, s26, s27, s28, s29, s30, s31, s32, s33, s34, s35, s36, s37, by kernel_rfl, hB.out.rext y, (hr.mono (by simp only [List.set_cons_succ, List.set_cons_zero, List.getD_cons_zero, List.getD_cons_succ, Bool.toNat_true, Bool.toNat_false]; omega)), (fun h => y.row (g1.out h) (by omega) (by omega)), f0.out, f1.out, f2.out, f3.out, f4.out, f5.out, f6.out, (fun _ => ⟨v, rfl, hv⟩), f8.out, f9.out, f10.out, f11.out, f12.out, f13.out, f14.out, f15.out, f16.out, f17.out, f18.out, f19.out, f20.out, f21.out, f22.out, f23.out, f24.out, f25.out, f26.out, f27.out, f28.out, f29.out, f30.out, (fun h => by obtain ⟨s, hs, e⟩ := f31.out h; exact ⟨s, hs, y.row e (by omega) (by omega)⟩)⟩
      · refine wpOp_step rfl (fun K hK => ?_)
        simp only [sets, List.foldl_cons, List.foldl_nil, List.set_cons_succ, List.set_cons_zero]
        go_simp
        exact hK _ _ ⟨s7, s8, s9, s10, s11, s12, s13, s14, (.pointer (some ⟨b, 0, none⟩)), s16, s17, s18, s19, s20, s21, s22, s23, s24, s25, s26, s27, s28, s29, s30, s31, s32, s33, s34, s35, s36, s37, by kernel_rfl, hB.out, g0.out, g1.out, f0.out, f1.out, f2.out, f3.out, f4.out, f5.out, f6.out, f7.out, fun _ => rfl, f9.out, f10.out, f11.out, f12.out, f13.out, f14.out, f15.out, f16.out, f17.out, f18.out, f19.out, f20.out, f21.out, f22.out, f23.out, f24.out, f25.out, f26.out, f27.out, f28.out, f29.out, f30.out, f31.out⟩
      · refine wpOp_step rfl (fun K hK => ?_)
        simp only [sets, List.foldl_cons, List.foldl_nil, List.set_cons_succ, List.set_cons_zero]
        go_simp
        exact hK _ _ ⟨s7, s8, s9, s10, s11, s12, s13, s14, s15, (.pointer (some ⟨w.heap.size, 4, none⟩)), s17, s18, s19, s20, s21, s22, s23, s24, s25, s26, s27, s28, s29, s30, s31, s32, s33, s34, s35, s36, s37, by kernel_rfl, hB.out, g0.out, g1.out, f0.out, f1.out, f2.out, f3.out, f4.out, f5.out, f6.out, f7.out, f8.out, fun _ => rfl, f10.out, f11.out, f12.out, f13.out, f14.out, f15.out, f16.out, f17.out, f18.out, f19.out, f20.out, f21.out, f22.out, f23.out, f24.out, f25.out, f26.out, f27.out, f28.out, f29.out, f30.out, f31.out⟩
      · simp only [stoneDeps, List.getD_cons_zero, List.getD_cons_succ, List.all_cons, List.all_nil, Bool.and_true] at hr
        have hd9 := hr
        obtain rfl := f9.out hd9
        refine wpOp_step rfl (fun K hK => ?_)
        simp only [sets, List.foldl_cons, List.foldl_nil, List.set_cons_succ, List.set_cons_zero]
        go_simp
        exact hK _ _ ⟨s7, s8, s9, s10, s11, s12, s13, s14, s15, (.pointer (some ⟨w.heap.size, 4, none⟩)), (.agg #[.int .i64 k.strong.x, .int .i64 k.strong.y]), s18, s19, s20, s21, s22, s23, s24, s25, s26, s27, s28, s29, s30, s31, s32, s33, s34, s35, s36, s37, by kernel_rfl, hB.out, g0.out, g1.out, f0.out, f1.out, f2.out, f3.out, f4.out, f5.out, f6.out, f7.out, f8.out, f9.out, fun _ => rfl, f11.out, f12.out, f13.out, f14.out, f15.out, f16.out, f17.out, f18.out, f19.out, f20.out, f21.out, f22.out, f23.out, f24.out, f25.out, f26.out, f27.out, f28.out, f29.out, f30.out, f31.out⟩
      · simp only [stoneDeps, List.getD_cons_zero, List.getD_cons_succ, List.all_cons, List.all_nil, Bool.and_true, Bool.and_eq_true] at hr
        obtain ⟨hd8, hd10, hd7⟩ := hr
        obtain rfl := f8.out hd8
        obtain rfl := f10.out hd10
        have hi := hi.out
        simp only [List.getElem?_cons_zero, List.getElem?_cons_succ, Option.some.injEq] at hi
        subst hi
        refine wpOp_step rfl (fun K hK => ?_)
        simp only [sets, List.foldl_cons, List.foldl_nil, List.set_cons_succ, List.set_cons_zero]
        go_simp
        refine (inside_y k.strong.x k.strong.y b (m + 2 * (b3.toNat + b7.toNat + false.toNat + b15.toNat + b19.toNat + b25.toNat + b29.toNat)) W (by have := hflags; simp only [Bool.toNat_false] at *; omega) hok.strong.2.1 (by have := hok.strong; omega) (by have := hok.strong; omega) g0.out).mono ?_
        rintro _ W6 ⟨y, v, rfl, hv, rfl, hr⟩
        exact hK _ _ ⟨s7, s8, s9, s10, s11, s12, s13, s14, (.pointer (some ⟨b, 0, none⟩)), s16, (.agg #[.int .i64 k.strong.x, .int .i64 k.strong.y]), (.int .i64 v), s19, s20, s21, s22, s23, s24, s25, s26, s27, s28, s29, s30, s31, s32, s33, s34, s35, s36, s37, by kernel_rfl, hB.out.rext y, (hr.mono (by simp only [List.set_cons_succ, List.set_cons_zero, List.getD_cons_zero, List.getD_cons_succ, Bool.toNat_true, Bool.toNat_false]; omega)), (fun h => y.row (g1.out h) (by omega) (by omega)), f0.out, f1.out, f2.out, f3.out, f4.out, f5.out, f6.out, f7.out, f8.out, f9.out, f10.out, (fun _ => ⟨v, rfl, hv⟩), f12.out, f13.out, f14.out, f15.out, f16.out, f17.out, f18.out, f19.out, f20.out, f21.out, f22.out, f23.out, f24.out, f25.out, f26.out, f27.out, f28.out, f29.out, f30.out, (fun h => by obtain ⟨s, hs, e⟩ := f31.out h; exact ⟨s, hs, y.row e (by omega) (by omega)⟩)⟩
      · refine wpOp_step rfl (fun K hK => ?_)
        simp only [sets, List.foldl_cons, List.foldl_nil, List.set_cons_succ, List.set_cons_zero]
        go_simp
        exact hK _ _ ⟨s7, s8, s9, s10, s11, s12, s13, s14, s15, s16, s17, s18, (.pointer (some ⟨b, 0, none⟩)), s20, s21, s22, s23, s24, s25, s26, s27, s28, s29, s30, s31, s32, s33, s34, s35, s36, s37, by kernel_rfl, hB.out, g0.out, g1.out, f0.out, f1.out, f2.out, f3.out, f4.out, f5.out, f6.out, f7.out, f8.out, f9.out, f10.out, f11.out, fun _ => rfl, f13.out, f14.out, f15.out, f16.out, f17.out, f18.out, f19.out, f20.out, f21.out, f22.out, f23.out, f24.out, f25.out, f26.out, f27.out, f28.out, f29.out, f30.out, f31.out⟩
      · refine wpOp_step rfl (fun K hK => ?_)
        simp only [sets, List.foldl_cons, List.foldl_nil, List.set_cons_succ, List.set_cons_zero]
        go_simp
        exact hK _ _ ⟨s7, s8, s9, s10, s11, s12, s13, s14, s15, s16, s17, s18, s19, (.pointer (some ⟨w.heap.size, 6, none⟩)), s21, s22, s23, s24, s25, s26, s27, s28, s29, s30, s31, s32, s33, s34, s35, s36, s37, by kernel_rfl, hB.out, g0.out, g1.out, f0.out, f1.out, f2.out, f3.out, f4.out, f5.out, f6.out, f7.out, f8.out, f9.out, f10.out, f11.out, f12.out, fun _ => rfl, f14.out, f15.out, f16.out, f17.out, f18.out, f19.out, f20.out, f21.out, f22.out, f23.out, f24.out, f25.out, f26.out, f27.out, f28.out, f29.out, f30.out, f31.out⟩
      · simp only [stoneDeps, List.getD_cons_zero, List.getD_cons_succ, List.all_cons, List.all_nil, Bool.and_true] at hr
        have hd13 := hr
        obtain rfl := f13.out hd13
        refine wpOp_step rfl (fun K hK => ?_)
        simp only [sets, List.foldl_cons, List.foldl_nil, List.set_cons_succ, List.set_cons_zero]
        go_simp
        exact hK _ _ ⟨s7, s8, s9, s10, s11, s12, s13, s14, s15, s16, s17, s18, s19, (.pointer (some ⟨w.heap.size, 6, none⟩)), (.agg #[.int .i64 k.spin.x, .int .i64 k.spin.y]), s22, s23, s24, s25, s26, s27, s28, s29, s30, s31, s32, s33, s34, s35, s36, s37, by kernel_rfl, hB.out, g0.out, g1.out, f0.out, f1.out, f2.out, f3.out, f4.out, f5.out, f6.out, f7.out, f8.out, f9.out, f10.out, f11.out, f12.out, f13.out, fun _ => rfl, f15.out, f16.out, f17.out, f18.out, f19.out, f20.out, f21.out, f22.out, f23.out, f24.out, f25.out, f26.out, f27.out, f28.out, f29.out, f30.out, f31.out⟩
      · simp only [stoneDeps, List.getD_cons_zero, List.getD_cons_succ, List.all_cons, List.all_nil, Bool.and_true, Bool.and_eq_true] at hr
        obtain ⟨hd12, hd14, hd11⟩ := hr
        obtain rfl := f12.out hd12
        obtain rfl := f14.out hd14
        have hi := hi.out
        simp only [List.getElem?_cons_zero, List.getElem?_cons_succ, Option.some.injEq] at hi
        subst hi
        refine wpOp_step rfl (fun K hK => ?_)
        simp only [sets, List.foldl_cons, List.foldl_nil, List.set_cons_succ, List.set_cons_zero]
        go_simp
        refine (inside_y k.spin.x k.spin.y b (m + 2 * (b3.toNat + b7.toNat + b11.toNat + false.toNat + b19.toNat + b25.toNat + b29.toNat)) W (by have := hflags; simp only [Bool.toNat_false] at *; omega) hok.spin.2.1 (by have := hok.spin; omega) (by have := hok.spin; omega) g0.out).mono ?_
        rintro _ W6 ⟨y, v, rfl, hv, rfl, hr⟩
        exact hK _ _ ⟨s7, s8, s9, s10, s11, s12, s13, s14, s15, s16, s17, s18, (.pointer (some ⟨b, 0, none⟩)), s20, (.agg #[.int .i64 k.spin.x, .int .i64 k.spin.y]), (.int .i64 v), s23, s24, s25, s26, s27, s28, s29, s30, s31, s32, s33, s34, s35, s36, s37, by kernel_rfl, hB.out.rext y, (hr.mono (by simp only [List.set_cons_succ, List.set_cons_zero, List.getD_cons_zero, List.getD_cons_succ, Bool.toNat_true, Bool.toNat_false]; omega)), (fun h => y.row (g1.out h) (by omega) (by omega)), f0.out, f1.out, f2.out, f3.out, f4.out, f5.out, f6.out, f7.out, f8.out, f9.out, f10.out, f11.out, f12.out, f13.out, f14.out, (fun _ => ⟨v, rfl, hv⟩), f16.out, f17.out, f18.out, f19.out, f20.out, f21.out, f22.out, f23.out, f24.out, f25.out, f26.out, f27.out, f28.out, f29.out, f30.out, (fun h => by obtain ⟨s, hs, e⟩ := f31.out h; exact ⟨s, hs, y.row e (by omega) (by omega)⟩)⟩
      · refine wpOp_step rfl (fun K hK => ?_)
        simp only [sets, List.foldl_cons, List.foldl_nil, List.set_cons_succ, List.set_cons_zero]
        go_simp
        exact hK _ _ ⟨s7, s8, s9, s10, s11, s12, s13, s14, s15, s16, s17, s18, s19, s20, s21, s22, (.pointer (some ⟨b, 0, none⟩)), s24, s25, s26, s27, s28, s29, s30, s31, s32, s33, s34, s35, s36, s37, by kernel_rfl, hB.out, g0.out, g1.out, f0.out, f1.out, f2.out, f3.out, f4.out, f5.out, f6.out, f7.out, f8.out, f9.out, f10.out, f11.out, f12.out, f13.out, f14.out, f15.out, fun _ => rfl, f17.out, f18.out, f19.out, f20.out, f21.out, f22.out, f23.out, f24.out, f25.out, f26.out, f27.out, f28.out, f29.out, f30.out, f31.out⟩
      · refine wpOp_step rfl (fun K hK => ?_)
        simp only [sets, List.foldl_cons, List.foldl_nil, List.set_cons_succ, List.set_cons_zero]
        go_simp
        exact hK _ _ ⟨s7, s8, s9, s10, s11, s12, s13, s14, s15, s16, s17, s18, s19, s20, s21, s22, s23, (.pointer (some ⟨w.heap.size, 8, none⟩)), s25, s26, s27, s28, s29, s30, s31, s32, s33, s34, s35, s36, s37, by kernel_rfl, hB.out, g0.out, g1.out, f0.out, f1.out, f2.out, f3.out, f4.out, f5.out, f6.out, f7.out, f8.out, f9.out, f10.out, f11.out, f12.out, f13.out, f14.out, f15.out, f16.out, fun _ => rfl, f18.out, f19.out, f20.out, f21.out, f22.out, f23.out, f24.out, f25.out, f26.out, f27.out, f28.out, f29.out, f30.out, f31.out⟩
      · simp only [stoneDeps, List.getD_cons_zero, List.getD_cons_succ, List.all_cons, List.all_nil, Bool.and_true] at hr
        have hd17 := hr
        obtain rfl := f17.out hd17
        refine wpOp_step rfl (fun K hK => ?_)
        simp only [sets, List.foldl_cons, List.foldl_nil, List.set_cons_succ, List.set_cons_zero]
        go_simp
        exact hK _ _ ⟨s7, s8, s9, s10, s11, s12, s13, s14, s15, s16, s17, s18, s19, s20, s21, s22, s23, (.pointer (some ⟨w.heap.size, 8, none⟩)), (.agg #[.int .i64 k.shape.x, .int .i64 k.shape.y]), s26, s27, s28, s29, s30, s31, s32, s33, s34, s35, s36, s37, by kernel_rfl, hB.out, g0.out, g1.out, f0.out, f1.out, f2.out, f3.out, f4.out, f5.out, f6.out, f7.out, f8.out, f9.out, f10.out, f11.out, f12.out, f13.out, f14.out, f15.out, f16.out, f17.out, fun _ => rfl, f19.out, f20.out, f21.out, f22.out, f23.out, f24.out, f25.out, f26.out, f27.out, f28.out, f29.out, f30.out, f31.out⟩
      · simp only [stoneDeps, List.getD_cons_zero, List.getD_cons_succ, List.all_cons, List.all_nil, Bool.and_true, Bool.and_eq_true] at hr
        obtain ⟨hd16, hd18, hd15⟩ := hr
        obtain rfl := f16.out hd16
        obtain rfl := f18.out hd18
        have hi := hi.out
        simp only [List.getElem?_cons_zero, List.getElem?_cons_succ, Option.some.injEq] at hi
        subst hi
        refine wpOp_step rfl (fun K hK => ?_)
        simp only [sets, List.foldl_cons, List.foldl_nil, List.set_cons_succ, List.set_cons_zero]
        go_simp
        refine (inside_y k.shape.x k.shape.y b (m + 2 * (b3.toNat + b7.toNat + b11.toNat + b15.toNat + false.toNat + b25.toNat + b29.toNat)) W (by have := hflags; simp only [Bool.toNat_false] at *; omega) hok.shape.2.1 (by have := hok.shape; omega) (by have := hok.shape; omega) g0.out).mono ?_
        rintro _ W6 ⟨y, v, rfl, hv, rfl, hr⟩
        exact hK _ _ ⟨s7, s8, s9, s10, s11, s12, s13, s14, s15, s16, s17, s18, s19, s20, s21, s22, (.pointer (some ⟨b, 0, none⟩)), s24, (.agg #[.int .i64 k.shape.x, .int .i64 k.shape.y]), (.int .i64 v), s27, s28, s29, s30, s31, s32, s33, s34, s35, s36, s37, by kernel_rfl, hB.out.rext y, (hr.mono (by simp only [List.set_cons_succ, List.set_cons_zero, List.getD_cons_zero, List.getD_cons_succ, Bool.toNat_true, Bool.toNat_false]; omega)), (fun h => y.row (g1.out h) (by omega) (by omega)), f0.out, f1.out, f2.out, f3.out, f4.out, f5.out, f6.out, f7.out, f8.out, f9.out, f10.out, f11.out, f12.out, f13.out, f14.out, f15.out, f16.out, f17.out, f18.out, (fun _ => ⟨v, rfl, hv⟩), f20.out, f21.out, f22.out, f23.out, f24.out, f25.out, f26.out, f27.out, f28.out, f29.out, f30.out, (fun h => by obtain ⟨s, hs, e⟩ := f31.out h; exact ⟨s, hs, y.row e (by omega) (by omega)⟩)⟩
      · refine wpOp_step rfl (fun K hK => ?_)
        simp only [sets, List.foldl_cons, List.foldl_nil, List.set_cons_succ, List.set_cons_zero]
        go_simp
        exact hK _ _ ⟨s7, s8, s9, s10, s11, s12, s13, s14, s15, s16, s17, s18, s19, s20, s21, s22, s23, s24, s25, s26, (.pointer (some ⟨w.heap.size, 10, none⟩)), s28, s29, s30, s31, s32, s33, s34, s35, s36, s37, by kernel_rfl, hB.out, g0.out, g1.out, f0.out, f1.out, f2.out, f3.out, f4.out, f5.out, f6.out, f7.out, f8.out, f9.out, f10.out, f11.out, f12.out, f13.out, f14.out, f15.out, f16.out, f17.out, f18.out, f19.out, fun _ => rfl, f21.out, f22.out, f23.out, f24.out, f25.out, f26.out, f27.out, f28.out, f29.out, f30.out, f31.out⟩
      · simp only [stoneDeps, List.getD_cons_zero, List.getD_cons_succ, List.all_cons, List.all_nil, Bool.and_true] at hr
        have hd20 := hr
        obtain rfl := f20.out hd20
        refine wpOp_step rfl (fun K hK => ?_)
        simp only [sets, List.foldl_cons, List.foldl_nil, List.set_cons_succ, List.set_cons_zero]
        go_simp
        exact hK _ _ ⟨s7, s8, s9, s10, s11, s12, s13, s14, s15, s16, s17, s18, s19, s20, s21, s22, s23, s24, s25, s26, (.pointer (some ⟨w.heap.size, 10, none⟩)), (.bool k.pile), s29, s30, s31, s32, s33, s34, s35, s36, s37, by kernel_rfl, hB.out, g0.out, g1.out, f0.out, f1.out, f2.out, f3.out, f4.out, f5.out, f6.out, f7.out, f8.out, f9.out, f10.out, f11.out, f12.out, f13.out, f14.out, f15.out, f16.out, f17.out, f18.out, f19.out, f20.out, fun _ => rfl, f22.out, f23.out, f24.out, f25.out, f26.out, f27.out, f28.out, f29.out, f30.out, f31.out⟩
      · refine wpOp_step rfl (fun K hK => ?_)
        simp only [sets, List.foldl_cons, List.foldl_nil, List.set_cons_succ, List.set_cons_zero]
        go_simp
        exact hK _ _ ⟨s7, s8, s9, s10, s11, s12, s13, s14, s15, s16, s17, s18, s19, s20, s21, s22, s23, s24, s25, s26, s27, s28, (.pointer (some ⟨b, 0, none⟩)), s30, s31, s32, s33, s34, s35, s36, s37, by kernel_rfl, hB.out, g0.out, g1.out, f0.out, f1.out, f2.out, f3.out, f4.out, f5.out, f6.out, f7.out, f8.out, f9.out, f10.out, f11.out, f12.out, f13.out, f14.out, f15.out, f16.out, f17.out, f18.out, f19.out, f20.out, f21.out, fun _ => rfl, f23.out, f24.out, f25.out, f26.out, f27.out, f28.out, f29.out, f30.out, f31.out⟩
      · refine wpOp_step rfl (fun K hK => ?_)
        simp only [sets, List.foldl_cons, List.foldl_nil, List.set_cons_succ, List.set_cons_zero]
        go_simp
        exact hK _ _ ⟨s7, s8, s9, s10, s11, s12, s13, s14, s15, s16, s17, s18, s19, s20, s21, s22, s23, s24, s25, s26, s27, s28, s29, (.pointer (some ⟨w.heap.size + 1, 0, none⟩)), s31, s32, s33, s34, s35, s36, s37, by kernel_rfl, hB.out, g0.out, g1.out, f0.out, f1.out, f2.out, f3.out, f4.out, f5.out, f6.out, f7.out, f8.out, f9.out, f10.out, f11.out, f12.out, f13.out, f14.out, f15.out, f16.out, f17.out, f18.out, f19.out, f20.out, f21.out, f22.out, fun _ => rfl, f24.out, f25.out, f26.out, f27.out, f28.out, f29.out, f30.out, f31.out⟩
      · simp only [stoneDeps, List.getD_cons_zero, List.getD_cons_succ, List.all_cons, List.all_nil, Bool.and_true] at hr
        have hd23 := hr
        obtain rfl := f23.out hd23
        refine wpOp_step rfl (fun K hK => ?_)
        simp only [sets, List.foldl_cons, List.foldl_nil, List.set_cons_succ, List.set_cons_zero]
        go_simp
        exact hK _ _ ⟨s7, s8, s9, s10, s11, s12, s13, s14, s15, s16, s17, s18, s19, s20, s21, s22, s23, s24, s25, s26, s27, s28, s29, (.pointer (some ⟨w.heap.size + 1, 0, none⟩)), (.agg #[.int .i64 f.speed.x, .int .i64 f.speed.y]), s32, s33, s34, s35, s36, s37, by kernel_rfl, hB.out, g0.out, g1.out, f0.out, f1.out, f2.out, f3.out, f4.out, f5.out, f6.out, f7.out, f8.out, f9.out, f10.out, f11.out, f12.out, f13.out, f14.out, f15.out, f16.out, f17.out, f18.out, f19.out, f20.out, f21.out, f22.out, f23.out, fun _ => rfl, f25.out, f26.out, f27.out, f28.out, f29.out, f30.out, f31.out⟩
      · simp only [stoneDeps, List.getD_cons_zero, List.getD_cons_succ, List.all_cons, List.all_nil, Bool.and_true, Bool.and_eq_true] at hr
        obtain ⟨hd22, hd24, hd19⟩ := hr
        obtain rfl := f22.out hd22
        obtain rfl := f24.out hd24
        have hi := hi.out
        simp only [List.getElem?_cons_zero, List.getElem?_cons_succ, Option.some.injEq] at hi
        subst hi
        refine wpOp_step rfl (fun K hK => ?_)
        simp only [sets, List.foldl_cons, List.foldl_nil, List.set_cons_succ, List.set_cons_zero]
        go_simp
        refine (inside_y f.speed.x f.speed.y b (m + 2 * (b3.toNat + b7.toNat + b11.toNat + b15.toNat + b19.toNat + false.toNat + b29.toNat)) W (by have := hflags; simp only [Bool.toNat_false] at *; omega) hok.speed.2.1 (by have := hok.speed; omega) (by have := hok.speed; omega) g0.out).mono ?_
        rintro _ W6 ⟨y, v, rfl, hv, rfl, hr⟩
        exact hK _ _ ⟨s7, s8, s9, s10, s11, s12, s13, s14, s15, s16, s17, s18, s19, s20, s21, s22, s23, s24, s25, s26, s27, s28, (.pointer (some ⟨b, 0, none⟩)), s30, (.agg #[.int .i64 f.speed.x, .int .i64 f.speed.y]), (.int .i64 v), s33, s34, s35, s36, s37, by kernel_rfl, hB.out.rext y, (hr.mono (by simp only [List.set_cons_succ, List.set_cons_zero, List.getD_cons_zero, List.getD_cons_succ, Bool.toNat_true, Bool.toNat_false]; omega)), (fun h => y.row (g1.out h) (by omega) (by omega)), f0.out, f1.out, f2.out, f3.out, f4.out, f5.out, f6.out, f7.out, f8.out, f9.out, f10.out, f11.out, f12.out, f13.out, f14.out, f15.out, f16.out, f17.out, f18.out, f19.out, f20.out, f21.out, f22.out, f23.out, f24.out, (fun _ => ⟨v, rfl, hv⟩), f26.out, f27.out, f28.out, f29.out, f30.out, (fun h => by obtain ⟨s, hs, e⟩ := f31.out h; exact ⟨s, hs, y.row e (by omega) (by omega)⟩)⟩
      · refine wpOp_step rfl (fun K hK => ?_)
        simp only [sets, List.foldl_cons, List.foldl_nil, List.set_cons_succ, List.set_cons_zero]
        go_simp
        exact hK _ _ ⟨s7, s8, s9, s10, s11, s12, s13, s14, s15, s16, s17, s18, s19, s20, s21, s22, s23, s24, s25, s26, s27, s28, s29, s30, s31, s32, (.pointer (some ⟨b, 0, none⟩)), s34, s35, s36, s37, by kernel_rfl, hB.out, g0.out, g1.out, f0.out, f1.out, f2.out, f3.out, f4.out, f5.out, f6.out, f7.out, f8.out, f9.out, f10.out, f11.out, f12.out, f13.out, f14.out, f15.out, f16.out, f17.out, f18.out, f19.out, f20.out, f21.out, f22.out, f23.out, f24.out, f25.out, fun _ => rfl, f27.out, f28.out, f29.out, f30.out, f31.out⟩
      · refine wpOp_step rfl (fun K hK => ?_)
        simp only [sets, List.foldl_cons, List.foldl_nil, List.set_cons_succ, List.set_cons_zero]
        go_simp
        exact hK _ _ ⟨s7, s8, s9, s10, s11, s12, s13, s14, s15, s16, s17, s18, s19, s20, s21, s22, s23, s24, s25, s26, s27, s28, s29, s30, s31, s32, s33, (.pointer (some ⟨w.heap.size + 1, 2, none⟩)), s35, s36, s37, by kernel_rfl, hB.out, g0.out, g1.out, f0.out, f1.out, f2.out, f3.out, f4.out, f5.out, f6.out, f7.out, f8.out, f9.out, f10.out, f11.out, f12.out, f13.out, f14.out, f15.out, f16.out, f17.out, f18.out, f19.out, f20.out, f21.out, f22.out, f23.out, f24.out, f25.out, f26.out, fun _ => rfl, f28.out, f29.out, f30.out, f31.out⟩
      · simp only [stoneDeps, List.getD_cons_zero, List.getD_cons_succ, List.all_cons, List.all_nil, Bool.and_true] at hr
        have hd27 := hr
        obtain rfl := f27.out hd27
        refine wpOp_step rfl (fun K hK => ?_)
        simp only [sets, List.foldl_cons, List.foldl_nil, List.set_cons_succ, List.set_cons_zero]
        go_simp
        exact hK _ _ ⟨s7, s8, s9, s10, s11, s12, s13, s14, s15, s16, s17, s18, s19, s20, s21, s22, s23, s24, s25, s26, s27, s28, s29, s30, s31, s32, s33, (.pointer (some ⟨w.heap.size + 1, 2, none⟩)), (.agg #[.int .i64 f.slope.x, .int .i64 f.slope.y]), s36, s37, by kernel_rfl, hB.out, g0.out, g1.out, f0.out, f1.out, f2.out, f3.out, f4.out, f5.out, f6.out, f7.out, f8.out, f9.out, f10.out, f11.out, f12.out, f13.out, f14.out, f15.out, f16.out, f17.out, f18.out, f19.out, f20.out, f21.out, f22.out, f23.out, f24.out, f25.out, f26.out, f27.out, fun _ => rfl, f29.out, f30.out, f31.out⟩
      · simp only [stoneDeps, List.getD_cons_zero, List.getD_cons_succ, List.all_cons, List.all_nil, Bool.and_true, Bool.and_eq_true] at hr
        obtain ⟨hd26, hd28, hd25⟩ := hr
        obtain rfl := f26.out hd26
        obtain rfl := f28.out hd28
        have hi := hi.out
        simp only [List.getElem?_cons_zero, List.getElem?_cons_succ, Option.some.injEq] at hi
        subst hi
        refine wpOp_step rfl (fun K hK => ?_)
        simp only [sets, List.foldl_cons, List.foldl_nil, List.set_cons_succ, List.set_cons_zero]
        go_simp
        refine (inside_y f.slope.x f.slope.y b (m + 2 * (b3.toNat + b7.toNat + b11.toNat + b15.toNat + b19.toNat + b25.toNat + false.toNat)) W (by have := hflags; simp only [Bool.toNat_false] at *; omega) hok.slope.2.1 (by have := hok.slope; omega) (by have := hok.slope; omega) g0.out).mono ?_
        rintro _ W6 ⟨y, v, rfl, hv, rfl, hr⟩
        exact hK _ _ ⟨s7, s8, s9, s10, s11, s12, s13, s14, s15, s16, s17, s18, s19, s20, s21, s22, s23, s24, s25, s26, s27, s28, s29, s30, s31, s32, (.pointer (some ⟨b, 0, none⟩)), s34, (.agg #[.int .i64 f.slope.x, .int .i64 f.slope.y]), (.int .i64 v), s37, by kernel_rfl, hB.out.rext y, (hr.mono (by simp only [List.set_cons_succ, List.set_cons_zero, List.getD_cons_zero, List.getD_cons_succ, Bool.toNat_true, Bool.toNat_false]; omega)), (fun h => y.row (g1.out h) (by omega) (by omega)), f0.out, f1.out, f2.out, f3.out, f4.out, f5.out, f6.out, f7.out, f8.out, f9.out, f10.out, f11.out, f12.out, f13.out, f14.out, f15.out, f16.out, f17.out, f18.out, f19.out, f20.out, f21.out, f22.out, f23.out, f24.out, f25.out, f26.out, f27.out, f28.out, (fun _ => ⟨v, rfl, hv⟩), f30.out, (fun h => by obtain ⟨s, hs, e⟩ := f31.out h; exact ⟨s, hs, y.row e (by omega) (by omega)⟩)⟩
      · simp only [stoneDeps, List.getD_cons_zero, List.getD_cons_succ, List.all_cons, List.all_nil, Bool.and_true, Bool.and_eq_true] at hr
        obtain ⟨hd3, hd7, hd11, hd15, hd19, hd21, hd25, hd29⟩ := hr
        obtain rfl := f21.out hd21
        obtain ⟨v10, rfl, h10⟩ := f3.out hd3
        obtain ⟨v14, rfl, h14⟩ := f7.out hd7
        obtain ⟨v18, rfl, h18⟩ := f11.out hd11
        obtain ⟨v22, rfl, h22⟩ := f15.out hd15
        obtain ⟨v26, rfl, h26⟩ := f19.out hd19
        obtain ⟨v32, rfl, h32⟩ := f25.out hd25
        obtain ⟨v36, rfl, h36⟩ := f29.out hd29
        refine wpOp_step rfl (fun K hK => ?_)
        simp only [sets, List.foldl_cons, List.foldl_nil, List.set_cons_succ, List.set_cons_zero]
        go_simp
        exact hK _ _ ⟨s7, s8, s9, (.int .i64 v10), s11, s12, s13, (.int .i64 v14), s15, s16, s17, (.int .i64 v18), s19, s20, s21, (.int .i64 v22), s23, s24, s25, (.int .i64 v26), s27, (.bool k.pile), s29, s30, s31, (.int .i64 v32), s33, s34, s35, (.int .i64 v36), (.agg #[.int .i64 v10, .int .i64 v14, .int .i64 v18, .int .i64 v22, .int .i64 v26, .bool k.pile, .int .i64 v32, .int .i64 v36]), by kernel_rfl, hB.out, g0.out, g1.out, f0.out, f1.out, f2.out, f3.out, f4.out, f5.out, f6.out, f7.out, f8.out, f9.out, f10.out, f11.out, f12.out, f13.out, f14.out, f15.out, f16.out, f17.out, f18.out, f19.out, f20.out, f21.out, f22.out, f23.out, f24.out, f25.out, f26.out, f27.out, f28.out, f29.out, (fun _ => ⟨⟨v10, v14, v18, v22, v26, k.pile, v32, v36⟩, ⟨h10, h14, h18, h22, h26, rfl, h32, h36⟩, rfl⟩), f31.out⟩
      · simp only [stoneDeps, List.getD_cons_zero, List.getD_cons_succ, List.all_cons, List.all_nil, Bool.and_true] at hr
        have hd30 := hr
        obtain ⟨s, hs, rfl⟩ := f30.out hd30
        have hi := hi.out
        simp only [List.getElem?_cons_zero, List.getElem?_cons_succ, Option.some.injEq] at hi
        subst hi
        have e := g1.out rfl
        refine wpOp_step rfl (fun K hK => ?_)
        simp only [sets, List.foldl_cons, List.foldl_nil, List.set_cons_succ, List.set_cons_zero]
        simp only [Region.wanted]
        refine store_op 57 (.tmp 6) (.tmp 37) rfl (w.heap.size + 1 + 1) s.vals (by kernel_rfl) (by kernel_rfl) 57 _ e (by kernel_rfl) rfl (by simp [StoneR.vals, Value.oneCell']) ?_
        exact hK _ _ ⟨s7, s8, s9, s10, s11, s12, s13, s14, s15, s16, s17, s18, s19, s20, s21, s22, s23, s24, s25, s26, s27, s28, s29, s30, s31, s32, s33, s34, s35, s36, (.agg s.vals), by kernel_rfl, hB.out.row (Nat.le_refl _) (by omega) _, (RingM.row g0.out (by omega) _), (fun h => by cases h), f0.out, f1.out, f2.out, f3.out, f4.out, f5.out, f6.out, f7.out, f8.out, f9.out, f10.out, f11.out, f12.out, f13.out, f14.out, f15.out, f16.out, f17.out, f18.out, f19.out, f20.out, f21.out, f22.out, f23.out, f24.out, f25.out, f26.out, f27.out, f28.out, f29.out, f30.out, (fun _ => ⟨s, hs, setRow_heap _ _ _ _ _ _ e⟩)⟩
      · have hi := hi.out; simp at hi
  rintro a4 W4 ⟨s, hs, ha4, hkx, hr4, hrow⟩
  generalize a4.tmps.getD 7 undef = s7 at ha4
  generalize a4.tmps.getD 8 undef = s8 at ha4
  generalize a4.tmps.getD 9 undef = s9 at ha4
  generalize a4.tmps.getD 10 undef = s10 at ha4
  generalize a4.tmps.getD 11 undef = s11 at ha4
  generalize a4.tmps.getD 12 undef = s12 at ha4
  generalize a4.tmps.getD 13 undef = s13 at ha4
  generalize a4.tmps.getD 14 undef = s14 at ha4
  generalize a4.tmps.getD 15 undef = s15 at ha4
  generalize a4.tmps.getD 16 undef = s16 at ha4
  generalize a4.tmps.getD 17 undef = s17 at ha4
  generalize a4.tmps.getD 18 undef = s18 at ha4
  generalize a4.tmps.getD 19 undef = s19 at ha4
  generalize a4.tmps.getD 20 undef = s20 at ha4
  generalize a4.tmps.getD 21 undef = s21 at ha4
  generalize a4.tmps.getD 22 undef = s22 at ha4
  generalize a4.tmps.getD 23 undef = s23 at ha4
  generalize a4.tmps.getD 24 undef = s24 at ha4
  generalize a4.tmps.getD 25 undef = s25 at ha4
  generalize a4.tmps.getD 26 undef = s26 at ha4
  generalize a4.tmps.getD 27 undef = s27 at ha4
  generalize a4.tmps.getD 28 undef = s28 at ha4
  generalize a4.tmps.getD 29 undef = s29 at ha4
  generalize a4.tmps.getD 30 undef = s30 at ha4
  generalize a4.tmps.getD 31 undef = s31 at ha4
  generalize a4.tmps.getD 32 undef = s32 at ha4
  generalize a4.tmps.getD 33 undef = s33 at ha4
  generalize a4.tmps.getD 34 undef = s34 at ha4
  generalize a4.tmps.getD 35 undef = s35 at ha4
  generalize a4.tmps.getD 36 undef = s36 at ha4
  generalize a4.tmps.getD 37 undef = s37 at ha4
  subst ha4
  simp only [sets, List.foldl_cons, List.foldl_nil, List.set_cons_succ, List.set_cons_zero]
  have hB4 : BelowX b w.heap.size w W4 := hkx.belowX hB0 (by omega) (by omega)
  clear hkx hB0
  have r0 : W4.cell? ⟨w.heap.size + 1 + 1, 0, none⟩ = some (.int .i64 s.size) := (cell_of_row W4 _ 0 _ _ _ hrow).trans rfl
  have r1 : W4.cell? ⟨w.heap.size + 1 + 1, 1, none⟩ = some (.int .i64 s.dens) := (cell_of_row W4 _ 1 _ _ _ hrow).trans rfl
  have r2 : W4.cell? ⟨w.heap.size + 1 + 1, 2, none⟩ = some (.int .i64 s.strong) := (cell_of_row W4 _ 2 _ _ _ hrow).trans rfl
  have r3 : W4.cell? ⟨w.heap.size + 1 + 1, 3, none⟩ = some (.int .i64 s.spin) := (cell_of_row W4 _ 3 _ _ _ hrow).trans rfl
  have r4 : W4.cell? ⟨w.heap.size + 1 + 1, 4, none⟩ = some (.int .i64 s.shape) := (cell_of_row W4 _ 4 _ _ _ hrow).trans rfl
  have r5 : W4.cell? ⟨w.heap.size + 1 + 1, 5, none⟩ = some (.bool s.pile) := (cell_of_row W4 _ 5 _ _ _ hrow).trans rfl
  have r6 : W4.cell? ⟨w.heap.size + 1 + 1, 6, none⟩ = some (.int .i64 s.speed) := (cell_of_row W4 _ 6 _ _ _ hrow).trans rfl
  have r7 : W4.cell? ⟨w.heap.size + 1 + 1, 7, none⟩ = some (.int .i64 s.slope) := (cell_of_row W4 _ 7 _ _ _ hrow).trans rfl
  go_wp2_with fail
  refine bodyPost_ret (v := .agg #[.int .i64 s.size, .int .i64 s.dens, .int .i64 s.strong, .int .i64 s.spin, .int .i64 s.shape, .bool s.pile, .int .i64 s.speed, .int .i64 s.slope]) (by simp (maxDischargeDepth := 9) [results, Tryd.results36, go_sem, r0, r1, r2, r3, r4, r5, r6, r7]) rfl ?_
  exact ⟨⟨W4, hB4⟩, s, rfl, hs, rfl, hr4⟩
end Go.Proofs.YtlmhbggigbmeaaaDoor

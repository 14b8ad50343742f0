/- Contract of RockOf: a valid rock with a fall, made of a ring's numbers. Condition: the ring's block is as NewRing made it. -/
import Derived.Test.YtlmhbggigbmeaaaDoorRootG
namespace Go.Proofs.YtlmhbggigbmeaaaDoor
open Go.RowKit Go.Shelf
attribute [local go_sem] Option.isSome_some Ext.cell Ext.frozen Ext.lt Ext.le Ext.lt_add Ext.le_add Ext.ne Ext.ne' lt2 lt3 lt4 lt5 le2 le3 le4
attribute [local go_sem] RExt.cell RExt.frozen RExt.lt RExt.le RExt.lt_add RExt.le_add RExt.ne RExt.ne'
theorem list8 {α : Type} {l : List α} (h : l.length = 8) : ∃ b0 b1 b2 b3 b4 b5 b6 b7, l = [b0, b1, b2, b3, b4, b5, b6, b7] := by
  match l, h with
  | [b0, b1, b2, b3, b4, b5, b6, b7], _ => exact ⟨_, _, _, _, _, _, _, _, rfl⟩
def rockDeps : List (List Nat) := [[], [], [1], [], [3, 2], [2, 4], [0, 4], [5, 6]]
def rockInv (b m R : Nat) (p0 p1 p2 p3 p4 p5 p6 p7 p8 p9 : Int) (pile : Bool) (a0 : Act) (X : World) (l : List Bool) (fr : Act) (W : World) : Prop :=
  ∃ s29 s30 s31 s32 s33 s34 : Value, fr = sets a0 [(29, s29), (30, s30), (31, s31), (32, s32), (33, s33), (34, s34)] ∧ KeptX b R (R + 1 + 1) X W ∧
    (RingM W b (m + 2 * ((l.getD 2 false).toNat + (l.getD 4 false).toNat))) ∧
    (l.getD 6 false = false → W.heap[R]? = some (.cells #[.int .i64 0, .int .i64 0, .int .i64 0, .int .i64 0, .int .i64 0, .int .i64 0, .int .i64 0, .int .i64 0, .int .i64 0, .int .i64 0, .bool false] 31 (0, 0))) ∧
    (l.getD 7 false = false → W.heap[(R + 1)]? = some (.cells #[.int .i64 0, .int .i64 0, .int .i64 0, .int .i64 0] 33 (0, 0))) ∧
    (l.getD 0 false = true → s29 = .agg #[.int .i64 p0, .int .i64 p1, .int .i64 p2, .int .i64 p3, .int .i64 p4, .int .i64 p5, .int .i64 p6, .int .i64 p7, .int .i64 p8, .int .i64 p9, .bool pile]) ∧
    (l.getD 1 false = true → s30 = .pointer (some ⟨b, 0, none⟩)) ∧
    (l.getD 2 false = true → ∃ v : V2, s31 = .agg #[.int .i64 v.x, .int .i64 v.y] ∧ 100 ≤ v.x ∧ v.x ≤ v.y ∧ v.y ≤ 5000) ∧
    (l.getD 3 false = true → s32 = .pointer (some ⟨b, 0, none⟩)) ∧
    (l.getD 4 false = true → ∃ v : V2, s33 = .agg #[.int .i64 v.x, .int .i64 v.y] ∧ 50 ≤ v.x ∧ v.x ≤ v.y ∧ v.y ≤ 1000) ∧
    (l.getD 5 false = true → ∃ f : FallR, ((100 ≤ f.speed.x ∧ f.speed.x ≤ f.speed.y ∧ f.speed.y ≤ 5000) ∧ 50 ≤ f.slope.x ∧ f.slope.x ≤ f.slope.y ∧ f.slope.y ≤ 1000) ∧ s34 = .agg #[.int .i64 f.speed.x, .int .i64 f.speed.y, .int .i64 f.slope.x, .int .i64 f.slope.y]) ∧
    (l.getD 6 false = true → W.heap[R]? = some (.cells #[.int .i64 p0, .int .i64 p1, .int .i64 p2, .int .i64 p3, .int .i64 p4, .int .i64 p5, .int .i64 p6, .int .i64 p7, .int .i64 p8, .int .i64 p9, .bool pile] 31 (0, 0))) ∧
    (l.getD 7 false = true → ∃ f : FallR, ((100 ≤ f.speed.x ∧ f.speed.x ≤ f.speed.y ∧ f.speed.y ≤ 5000) ∧ 50 ≤ f.slope.x ∧ f.slope.x ≤ f.slope.y ∧ f.slope.y ≤ 1000) ∧ W.heap[R + 1]? = some (.cells #[.int .i64 f.speed.x, .int .i64 f.speed.y, .int .i64 f.slope.x, .int .i64 f.slope.y] 33 (0, 0)))
def rockTold (b m R : Nat) (p0 p1 p2 p3 p4 p5 p6 p7 p8 p9 : Int) (pile : Bool) : Act → World → Act → World → Prop := fun a X a' W => ∃ f : FallR, ((100 ≤ f.speed.x ∧ f.speed.x ≤ f.speed.y ∧ f.speed.y ≤ 5000) ∧ 50 ≤ f.slope.x ∧ f.slope.x ≤ f.slope.y ∧ f.slope.y ≤ 1000) ∧ a' = sets a [(29, a'.tmps.getD 29 undef), (30, a'.tmps.getD 30 undef), (31, a'.tmps.getD 31 undef), (32, a'.tmps.getD 32 undef), (33, a'.tmps.getD 33 undef), (34, a'.tmps.getD 34 undef)] ∧ KeptX b R (R + 1 + 1) X W ∧ RingM W b (m + 4) ∧ W.heap[R]? = some (.cells #[.int .i64 p0, .int .i64 p1, .int .i64 p2, .int .i64 p3, .int .i64 p4, .int .i64 p5, .int .i64 p6, .int .i64 p7, .int .i64 p8, .int .i64 p9, .bool pile] 31 (0, 0)) ∧ W.heap[R + 1]? = some (.cells #[.int .i64 f.speed.x, .int .i64 f.speed.y, .int .i64 f.slope.x, .int .i64 f.slope.y] 33 (0, 0))
def RockPost (b m : Nat) (w : World) : Ending → World → Prop := fun e w' => ∃ (y : RExt w b) (k : RockR) (f : FallR), e = .returned (.tuple #[k.val, f.val]) ∧ RockOk k f ∧ w' = y.now ∧ RingM y.now b (m + 16)
set_option maxRecDepth 100000 in
set_option maxHeartbeats 8000000 in
theorem RockOf_y (b m : Nat) (w : World) (hm : m < 1000000) (h : RingM w b m) : Calls Tryd.prog 11 #[.pointer (some ⟨b, 0, none⟩)] w (RockPost b m w) := by
  have hl := h.lt
  have hne : w.heap.size ≠ b := by omega
  have hne1 : w.heap.size + 1 ≠ b := by omega
  go_enter Tryd.func11, Tryd.ntmps11
  go_upto_region 3 with (first | ((first | with_reducible refine wrx2 ?_ | with_reducible refine wrx ?_); (repeat (first | go_big_quiet_step ((first | fail)) | quiet_step ((first | fail)))); refine wpQuiet_nil ?_; rintro _ ⟨yr, rfl⟩; have syr := Ext.size yr; (repeat (first | rw [World.size_alloc] at syr | rw [World.size_setCell] at syr | rw [World.size_drew] at syr)); have : b < yr.now.heap.size := (by omega); have : b ≤ yr.now.heap.size := (by omega); have : b < yr.now.heap.size + 1 + 1 := (by omega); have : w.heap.size < yr.now.heap.size := (by omega); have : w.heap.size ≤ yr.now.heap.size := (by omega); have : w.heap.size < yr.now.heap.size + 1 + 1 := (by omega); have : w.heap.size + 1 < yr.now.heap.size := (by omega); have : w.heap.size + 1 ≤ yr.now.heap.size := (by omega); have : w.heap.size + 1 < yr.now.heap.size + 1 + 1 := (by omega)) | (go_at_call 41; (with_reducible refine Calls.mono (spanIn_y 1 120 20 b m _ (by omega) (by omega) (by omega) (by omega) (by omega) (by omega) ?_) ?_); (focus ((repeat (first | (with_reducible assumption) | (with_reducible refine RingM.alloc ?_ _) | (with_reducible refine RingM.drew ?_) | (with_reducible refine RingM.ext ?_ _) | (with_reducible refine RingM.set ?_ _ (by omega)))); done)); (rintro _ _ ⟨yx1, vx1, rfl, hvx1, rfl, rgx1⟩); have syx1 := RExt.size yx1; (repeat (first | rw [World.size_alloc] at syx1 | rw [World.size_setCell] at syx1 | rw [World.size_drew] at syx1)); have : b < yx1.now.heap.size := (by omega); have : b ≤ yx1.now.heap.size := (by omega); have : b < yx1.now.heap.size + 1 + 1 := (by omega); have : w.heap.size < yx1.now.heap.size := (by omega); have : w.heap.size ≤ yx1.now.heap.size := (by omega); have : w.heap.size < yx1.now.heap.size + 1 + 1 := (by omega); have : w.heap.size + 1 < yx1.now.heap.size := (by omega); have : w.heap.size + 1 ≤ yx1.now.heap.size := (by omega); have : w.heap.size + 1 < yx1.now.heap.size + 1 + 1 := (by omega)) | (go_at_call 41; (with_reducible refine Calls.mono (spanIn_y 500 4000 800 b (m + 2) _ (by omega) (by omega) (by omega) (by omega) (by omega) (by omega) ?_) ?_); (focus ((repeat (first | (with_reducible assumption) | (with_reducible refine RingM.alloc ?_ _) | (with_reducible refine RingM.drew ?_) | (with_reducible refine RingM.ext ?_ _) | (with_reducible refine RingM.set ?_ _ (by omega)))); done)); (rintro _ _ ⟨yx2, vx2, rfl, hvx2, rfl, rgx2⟩); have syx2 := RExt.size yx2; (repeat (first | rw [World.size_alloc] at syx2 | rw [World.size_setCell] at syx2 | rw [World.size_drew] at syx2)); have : b < yx2.now.heap.size := (by omega); have : b ≤ yx2.now.heap.size := (by omega); have : b < yx2.now.heap.size + 1 + 1 := (by omega); have : w.heap.size < yx2.now.heap.size := (by omega); have : w.heap.size ≤ yx2.now.heap.size := (by omega); have : w.heap.size < yx2.now.heap.size + 1 + 1 := (by omega); have : w.heap.size + 1 < yx2.now.heap.size := (by omega); have : w.heap.size + 1 ≤ yx2.now.heap.size := (by omega); have : w.heap.size + 1 < yx2.now.heap.size + 1 + 1 := (by omega)) | (go_at_call 41; (with_reducible refine Calls.mono (spanIn_y 0 1000 300 b (m + 4) _ (by omega) (by omega) (by omega) (by omega) (by omega) (by omega) ?_) ?_); (focus ((repeat (first | (with_reducible assumption) | (with_reducible refine RingM.alloc ?_ _) | (with_reducible refine RingM.drew ?_) | (with_reducible refine RingM.ext ?_ _) | (with_reducible refine RingM.set ?_ _ (by omega)))); done)); (rintro _ _ ⟨yx3, vx3, rfl, hvx3, rfl, rgx3⟩); have syx3 := RExt.size yx3; (repeat (first | rw [World.size_alloc] at syx3 | rw [World.size_setCell] at syx3 | rw [World.size_drew] at syx3)); have : b < yx3.now.heap.size := (by omega); have : b ≤ yx3.now.heap.size := (by omega); have : b < yx3.now.heap.size + 1 + 1 := (by omega); have : w.heap.size < yx3.now.heap.size := (by omega); have : w.heap.size ≤ yx3.now.heap.size := (by omega); have : w.heap.size < yx3.now.heap.size + 1 + 1 := (by omega); have : w.heap.size + 1 < yx3.now.heap.size := (by omega); have : w.heap.size + 1 ≤ yx3.now.heap.size := (by omega); have : w.heap.size + 1 < yx3.now.heap.size + 1 + 1 := (by omega)) | (go_at_call 41; (with_reducible refine Calls.mono (spanIn_y 500 2000 600 b (m + 6) _ (by omega) (by omega) (by omega) (by omega) (by omega) (by omega) ?_) ?_); (focus ((repeat (first | (with_reducible assumption) | (with_reducible refine RingM.alloc ?_ _) | (with_reducible refine RingM.drew ?_) | (with_reducible refine RingM.ext ?_ _) | (with_reducible refine RingM.set ?_ _ (by omega)))); done)); (rintro _ _ ⟨yx4, vx4, rfl, hvx4, rfl, rgx4⟩); have syx4 := RExt.size yx4; (repeat (first | rw [World.size_alloc] at syx4 | rw [World.size_setCell] at syx4 | rw [World.size_drew] at syx4)); have : b < yx4.now.heap.size := (by omega); have : b ≤ yx4.now.heap.size := (by omega); have : b < yx4.now.heap.size + 1 + 1 := (by omega); have : w.heap.size < yx4.now.heap.size := (by omega); have : w.heap.size ≤ yx4.now.heap.size := (by omega); have : w.heap.size < yx4.now.heap.size + 1 + 1 := (by omega); have : w.heap.size + 1 < yx4.now.heap.size := (by omega); have : w.heap.size + 1 ≤ yx4.now.heap.size := (by omega); have : w.heap.size + 1 < yx4.now.heap.size + 1 + 1 := (by omega)) | (go_at_call 15; (with_reducible refine Calls.mono (Next_y 3 b (m + 8) _ (by omega) (by omega) (by omega) ?_) ?_); (focus ((repeat (first | (with_reducible assumption) | (with_reducible refine RingM.alloc ?_ _) | (with_reducible refine RingM.drew ?_) | (with_reducible refine RingM.ext ?_ _) | (with_reducible refine RingM.set ?_ _ (by omega)))); done)); (rintro _ _ ⟨yx5, vx5, rfl, hvx5, rfl, rgx5⟩); have syx5 := RExt.size yx5; (repeat (first | rw [World.size_alloc] at syx5 | rw [World.size_setCell] at syx5 | rw [World.size_drew] at syx5)); have : b < yx5.now.heap.size := (by omega); have : b ≤ yx5.now.heap.size := (by omega); have : b < yx5.now.heap.size + 1 + 1 := (by omega); have : w.heap.size < yx5.now.heap.size := (by omega); have : w.heap.size ≤ yx5.now.heap.size := (by omega); have : w.heap.size < yx5.now.heap.size + 1 + 1 := (by omega); have : w.heap.size + 1 < yx5.now.heap.size := (by omega); have : w.heap.size + 1 ≤ yx5.now.heap.size := (by omega); have : w.heap.size + 1 < yx5.now.heap.size + 1 + 1 := (by omega)) | (go_at_call 15; (with_reducible refine Calls.mono (Next_y 36 b (m + 9) _ (by omega) (by omega) (by omega) ?_) ?_); (focus ((repeat (first | (with_reducible assumption) | (with_reducible refine RingM.alloc ?_ _) | (with_reducible refine RingM.drew ?_) | (with_reducible refine RingM.ext ?_ _) | (with_reducible refine RingM.set ?_ _ (by omega)))); done)); (rintro _ _ ⟨yx6, vx6, rfl, hvx6, rfl, rgx6⟩); have syx6 := RExt.size yx6; (repeat (first | rw [World.size_alloc] at syx6 | rw [World.size_setCell] at syx6 | rw [World.size_drew] at syx6)); have : b < yx6.now.heap.size := (by omega); have : b ≤ yx6.now.heap.size := (by omega); have : b < yx6.now.heap.size + 1 + 1 := (by omega); have : w.heap.size < yx6.now.heap.size := (by omega); have : w.heap.size ≤ yx6.now.heap.size := (by omega); have : w.heap.size < yx6.now.heap.size + 1 + 1 := (by omega); have : w.heap.size + 1 < yx6.now.heap.size := (by omega); have : w.heap.size + 1 ≤ yx6.now.heap.size := (by omega); have : w.heap.size + 1 < yx6.now.heap.size + 1 + 1 := (by omega)))
  obtain ⟨ha0, ha1⟩ := hvx6
  obtain ⟨st, hst⟩ : ∃ st, wrap64 (2 ^ vx6.toNat) = st := ⟨_, rfl⟩
  have hst2 : 1 ≤ st ∧ st ≤ 34359738368 := by
    have h0 : (2 : Int) ^ vx6.toNat = ((2 ^ vx6.toNat : Nat) : Int) := by simp
    have h1 : 2 ^ vx6.toNat ≤ 2 ^ 35 := Nat.pow_le_pow_right (by decide) (by omega)
    have h2 : 0 < 2 ^ vx6.toNat := Nat.pow_pos (by decide)
    have h3 : (2 : Nat) ^ 35 = 34359738368 := by decide
    rw [← hst, h0, IntWalk.wrap64_in _ (by omega)]
    omega
  rw [hst]
  clear hst
  obtain ⟨hs0, hs1⟩ := hst2
  have e1 : wrap64 (st.tdiv 2) = st / 2 := by rw [Int.tdiv_eq_ediv_of_nonneg (by omega)]; exact IntWalk.wrap64_in _ (by omega)
  refine wp_named (fun W6 hW => ?_)
  have n1 : yx5.now.heap.size ≠ b := by omega
  have hB6 : BelowX b w.heap.size w W6 := by rw [← hW]; repeat' (first | (with_reducible exact BelowX.refl _ _ _) | (with_reducible assumption) | (with_reducible refine RExt.belowX _ ?_ ?_) | (with_reducible refine Ext.belowX _ ?_ ?_) | (with_reducible refine BelowX.alloc ?_ ?_ _) | (with_reducible refine BelowX.drew ?_) | (with_reducible refine BelowX.setCell ?_ ?_ _) | (with_reducible exact Nat.le_refl _) | omega | (simp; done) | (simp [go_sem]; done) | (simp at *; omega))
  have k0 : W6.cell? ⟨yx5.now.heap.size, 0, none⟩ = some (.int .i64 vx1.x) := by rw [← hW]; exact (yx6.cell (by simp) n1).trans (by simp [go_sem])
  have k1 : W6.cell? ⟨yx5.now.heap.size, 1, none⟩ = some (.int .i64 vx1.y) := by rw [← hW]; exact (yx6.cell (by simp) n1).trans (by simp [go_sem])
  have k2 : W6.cell? ⟨yx5.now.heap.size, 2, none⟩ = some (.int .i64 vx2.x) := by rw [← hW]; exact (yx6.cell (by simp) n1).trans (by simp [go_sem])
  have k3 : W6.cell? ⟨yx5.now.heap.size, 3, none⟩ = some (.int .i64 vx2.y) := by rw [← hW]; exact (yx6.cell (by simp) n1).trans (by simp [go_sem])
  have k4 : W6.cell? ⟨yx5.now.heap.size, 4, none⟩ = some (.int .i64 0) := by rw [← hW]; exact (yx6.cell (by simp) n1).trans (by simp [go_sem])
  have k5 : W6.cell? ⟨yx5.now.heap.size, 5, none⟩ = some (.int .i64 0) := by rw [← hW]; exact (yx6.cell (by simp) n1).trans (by simp [go_sem])
  have k6 : W6.cell? ⟨yx5.now.heap.size, 6, none⟩ = some (.int .i64 vx3.x) := by rw [← hW]; exact (yx6.cell (by simp) n1).trans (by simp [go_sem])
  have k7 : W6.cell? ⟨yx5.now.heap.size, 7, none⟩ = some (.int .i64 vx3.y) := by rw [← hW]; exact (yx6.cell (by simp) n1).trans (by simp [go_sem])
  have k8 : W6.cell? ⟨yx5.now.heap.size, 8, none⟩ = some (.int .i64 vx4.x) := by rw [← hW]; exact (yx6.cell (by simp) n1).trans (by simp [go_sem])
  have k9 : W6.cell? ⟨yx5.now.heap.size, 9, none⟩ = some (.int .i64 vx4.y) := by rw [← hW]; exact (yx6.cell (by simp) n1).trans (by simp [go_sem])
  have k10 : W6.cell? ⟨yx5.now.heap.size, 10, none⟩ = some (.bool (vx5 == 0)) := by rw [← hW]; exact (yx6.cell (by simp) n1).trans (by simp [go_sem])
  have f4 : W6.frozen? ⟨yx5.now.heap.size, 4, none⟩ = false := by rw [← hW]; exact (yx6.frozen (by simp) n1).trans (by simp [go_sem])
  have f5 : W6.frozen? ⟨yx5.now.heap.size, 5, none⟩ = false := by rw [← hW]; exact (yx6.frozen (by simp) n1).trans (by simp [go_sem])
  have z0 : W6.heap[w.heap.size]? = some (.cells #[.int .i64 0, .int .i64 0, .int .i64 0, .int .i64 0, .int .i64 0, .int .i64 0, .int .i64 0, .int .i64 0, .int .i64 0, .int .i64 0, .bool false] 31 (0, 0)) := by
    have h0 : ((w.alloc (.cells #[.int .i64 0, .int .i64 0, .int .i64 0, .int .i64 0, .int .i64 0, .int .i64 0, .int .i64 0, .int .i64 0, .int .i64 0, .int .i64 0, .bool false] 31 (0, 0))).alloc (.cells #[.int .i64 0, .int .i64 0, .int .i64 0, .int .i64 0] 33 (0, 0))).heap[w.heap.size]? = some (.cells #[.int .i64 0, .int .i64 0, .int .i64 0, .int .i64 0, .int .i64 0, .int .i64 0, .int .i64 0, .int .i64 0, .int .i64 0, .int .i64 0, .bool false] 31 (0, 0)) := (heap_alloc_old _ _ (by simp)).trans (heap_alloc_new _ _)
    rw [← hW]
    exact yx6.row ((heap_alloc_old _ _ (by omega)).trans (yx5.row (yx4.row (yx3.row (yx2.row (yx1.row h0 (by simp; omega) hne) (by omega) hne) (by omega) hne) (by omega) hne) (by omega) hne)) (by simp; omega) hne
  have z1 : W6.heap[w.heap.size + 1]? = some (.cells #[.int .i64 0, .int .i64 0, .int .i64 0, .int .i64 0] 33 (0, 0)) := by
    have h0 : ((w.alloc (.cells #[.int .i64 0, .int .i64 0, .int .i64 0, .int .i64 0, .int .i64 0, .int .i64 0, .int .i64 0, .int .i64 0, .int .i64 0, .int .i64 0, .bool false] 31 (0, 0))).alloc (.cells #[.int .i64 0, .int .i64 0, .int .i64 0, .int .i64 0] 33 (0, 0))).heap[w.heap.size + 1]? = some (.cells #[.int .i64 0, .int .i64 0, .int .i64 0, .int .i64 0] 33 (0, 0)) := by
      have := heap_alloc_new (w.alloc (.cells #[.int .i64 0, .int .i64 0, .int .i64 0, .int .i64 0, .int .i64 0, .int .i64 0, .int .i64 0, .int .i64 0, .int .i64 0, .int .i64 0, .bool false] 31 (0, 0))) (.cells #[.int .i64 0, .int .i64 0, .int .i64 0, .int .i64 0] 33 (0, 0))
      simpa using this
    rw [← hW]
    exact yx6.row ((heap_alloc_old _ _ (by omega)).trans (yx5.row (yx4.row (yx3.row (yx2.row (yx1.row h0 (by simp) hne1) (by omega) hne1) (by omega) hne1) (by omega) hne1) (by omega) hne1)) (by simp; omega) hne1
  have hR6 : RingM W6 b (m + 10) := by rw [← hW]; exact rgx6
  have hs6 : yx5.now.heap.size < W6.heap.size := by rw [← hW]; omega
  have hs60 : w.heap.size + 1 < yx5.now.heap.size := by omega
  clear hW
  generalize yx5.now.heap.size = K at *
  clear rgx6 rgx5 rgx4 rgx3 rgx2 rgx1 syx6 syx5 syx4 syx3 syx2 syx1
  have hk2 : K < W6.heap.size + 1 := by omega
  obtain ⟨⟨a1, a2, a3⟩, b1, b2, b3⟩ := And.intro hvx1 hvx2
  obtain ⟨⟨c1, c2, c3⟩, d1, d2, d3⟩ := And.intro hvx3 hvx4
  generalize vx1.x = p0 at *
  generalize vx1.y = p1 at *
  generalize vx2.x = p2 at *
  generalize vx2.y = p3 at *
  generalize vx3.x = p6 at *
  generalize vx3.y = p7 at *
  generalize vx4.x = p8 at *
  generalize vx4.y = p9 at *
  generalize (vx5 == 0) = pile at *
  have nb : K ≠ b := by omega
  have nk0 : K ≠ w.heap.size := by omega
  have nk1 : K ≠ w.heap.size + 1 := by omega
  have ls0 : w.heap.size < W6.heap.size := by omega
  have ls1 : w.heap.size + 1 < W6.heap.size := by omega
  go_upto_region 4 with (first | ((first | with_reducible refine wrx2 ?_ | with_reducible refine wrx ?_); (repeat (first | go_big_quiet_step ((first | fail)) | quiet_step ((first | fail)))); refine wpQuiet_nil ?_; rintro _ ⟨yr, rfl⟩; have syr := Ext.size yr; (repeat (first | rw [World.size_alloc] at syr | rw [World.size_setCell] at syr | rw [World.size_drew] at syr)); have : b < yr.now.heap.size := (by omega); have : b ≤ yr.now.heap.size := (by omega); have : b < yr.now.heap.size + 1 + 1 := (by omega); have : w.heap.size < yr.now.heap.size := (by omega); have : w.heap.size ≤ yr.now.heap.size := (by omega); have : w.heap.size < yr.now.heap.size + 1 + 1 := (by omega); have : w.heap.size + 1 < yr.now.heap.size := (by omega); have : w.heap.size + 1 ≤ yr.now.heap.size := (by omega); have : w.heap.size + 1 < yr.now.heap.size + 1 + 1 := (by omega); have : K < yr.now.heap.size := (by omega); have : K ≤ yr.now.heap.size := (by omega); have : K < yr.now.heap.size + 1 + 1 := (by omega)) | (go_at_call 41; (with_reducible refine Calls.mono (spanIn_y (st / 2) st st b (m + 10) _ (by omega) (by omega) (by omega) (by omega) (by omega) (by omega) ?_) ?_); (focus ((repeat (first | (with_reducible assumption) | (with_reducible refine RingM.alloc ?_ _) | (with_reducible refine RingM.drew ?_) | (with_reducible refine RingM.ext ?_ _) | (with_reducible refine RingM.set ?_ _ (by omega)))); done)); (rintro _ _ ⟨yx1, vx1, rfl, hvx1, rfl, rgx1⟩); have syx1 := RExt.size yx1; (repeat (first | rw [World.size_alloc] at syx1 | rw [World.size_setCell] at syx1 | rw [World.size_drew] at syx1)); have : b < yx1.now.heap.size := (by omega); have : b ≤ yx1.now.heap.size := (by omega); have : b < yx1.now.heap.size + 1 + 1 := (by omega); have : w.heap.size < yx1.now.heap.size := (by omega); have : w.heap.size ≤ yx1.now.heap.size := (by omega); have : w.heap.size < yx1.now.heap.size + 1 + 1 := (by omega); have : w.heap.size + 1 < yx1.now.heap.size := (by omega); have : w.heap.size + 1 ≤ yx1.now.heap.size := (by omega); have : w.heap.size + 1 < yx1.now.heap.size + 1 + 1 := (by omega); have : K < yx1.now.heap.size := (by omega); have : K ≤ yx1.now.heap.size := (by omega); have : K < yx1.now.heap.size + 1 + 1 := (by omega)))
  refine wp_named (fun W7 hW => ?_)
  have hB7 : BelowX b w.heap.size w W7 := by rw [← hW]; repeat' (first | (with_reducible exact BelowX.refl _ _ _) | (with_reducible assumption) | (with_reducible refine RExt.belowX _ ?_ ?_) | (with_reducible refine Ext.belowX _ ?_ ?_) | (with_reducible refine BelowX.alloc ?_ ?_ _) | (with_reducible refine BelowX.drew ?_) | (with_reducible refine BelowX.setCell ?_ ?_ _) | (with_reducible exact Nat.le_refl _) | omega | (simp; done) | (simp [go_sem]; done) | (simp at *; omega))
  replace k0 : W7.cell? ⟨K, 0, none⟩ = some (.int .i64 p0) := by rw [← hW]; simp [go_sem, yx1.cell hs6 nb, k0]
  replace k1 : W7.cell? ⟨K, 1, none⟩ = some (.int .i64 p1) := by rw [← hW]; simp [go_sem, yx1.cell hs6 nb, k1]
  replace k2 : W7.cell? ⟨K, 2, none⟩ = some (.int .i64 p2) := by rw [← hW]; simp [go_sem, yx1.cell hs6 nb, k2]
  replace k3 : W7.cell? ⟨K, 3, none⟩ = some (.int .i64 p3) := by rw [← hW]; simp [go_sem, yx1.cell hs6 nb, k3]
  replace k4 : W7.cell? ⟨K, 4, none⟩ = some (.int .i64 vx1.x) := by rw [← hW]; simp [go_sem, yx1.cell hs6 nb, k4]
  replace k5 : W7.cell? ⟨K, 5, none⟩ = some (.int .i64 vx1.y) := by rw [← hW]; simp [go_sem, yx1.cell hs6 nb, k5]
  replace k6 : W7.cell? ⟨K, 6, none⟩ = some (.int .i64 p6) := by rw [← hW]; simp [go_sem, yx1.cell hs6 nb, k6]
  replace k7 : W7.cell? ⟨K, 7, none⟩ = some (.int .i64 p7) := by rw [← hW]; simp [go_sem, yx1.cell hs6 nb, k7]
  replace k8 : W7.cell? ⟨K, 8, none⟩ = some (.int .i64 p8) := by rw [← hW]; simp [go_sem, yx1.cell hs6 nb, k8]
  replace k9 : W7.cell? ⟨K, 9, none⟩ = some (.int .i64 p9) := by rw [← hW]; simp [go_sem, yx1.cell hs6 nb, k9]
  replace k10 : W7.cell? ⟨K, 10, none⟩ = some (.bool pile) := by rw [← hW]; simp [go_sem, yx1.cell hs6 nb, k10]
  have hbz : Below (w.heap.size + 1 + 1) yx1.now W7 := by rw [← hW]; repeat' (first | (with_reducible exact Below.refl _ _) | (with_reducible assumption) | (with_reducible refine Ext.below _ ?_ ?_) | (with_reducible refine Below.on ?_ (by with_reducible assumption) ?_) | (with_reducible refine Below.alloc ?_ ?_ _) | (with_reducible refine Below.drew ?_) | (with_reducible refine Below.setCell ?_ ?_ _) | (with_reducible exact Nat.le_refl _) | omega | (simp; done) | (simp [go_sem]; done) | (simp at *; omega))
  replace z0 := (hbz.block w.heap.size (by omega)).trans (yx1.row z0 (by omega) hne)
  replace z1 := (hbz.block (w.heap.size + 1) (by omega)).trans (yx1.row z1 (by omega) hne1)
  have hR7 : RingM W7 b (m + 12) := by rw [← hW]; exact ((rgx1.set _ (by omega)).set _ (by omega))
  have hs7 : K < W7.heap.size := by rw [← hW]; simp; omega
  have hs70 : w.heap.size + 1 < K := hs60
  clear hW hbz
  obtain ⟨o1, o2, o3⟩ := hvx1
  generalize vx1.x = p4 at *
  generalize vx1.y = p5 at *
  refine wp_tell (rockTold b (m + 12) w.heap.size p0 p1 p2 p3 p4 p5 p6 p7 p8 p9 pile) ?_ ?_
  focus
    repeat (rename_i zz; clear zz)
    refine region_dep (by kernel_rfl) rockDeps (by kernel_rfl) (rockInv b (m + 12) w.heap.size p0 p1 p2 p3 p4 p5 p6 p7 p8 p9 pile) ?h0 ?hstep ?hend
    case h0 =>
      refine ⟨?z29, ?z30, ?z31, ?z32, ?z33, ?z34, ?fr, KeptX.start, (by simpa using hR7.drew), (fun _ => z0), (fun _ => z1), by simp, by simp, by simp, by simp, by simp, by simp, by simp, by simp⟩
      case fr =>
        simp only [sets, List.foldl_cons, List.foldl_nil, List.set_cons_succ, List.set_cons_zero]
        rfl
    case hend =>
      intro l' fr W hl hall hInv
      unfold rockInv at hInv
      obtain ⟨s29, s30, s31, s32, s33, s34, hInv⟩ := hInv
      obtain ⟨hfr, hB, g0, g1, g2, f0, f1, f2, f3, f4, f5, f6, f7⟩ := hInv
      subst hfr
      obtain ⟨b0, b1, b2, b3, b4, b5, b6, b7, rfl⟩ := list8 hl
      simp only [List.getD_cons_zero, List.getD_cons_succ] at g0 g1 g2 f0 f1 f2 f3 f4 f5 f6 f7
      simp only [List.all_cons, id, Bool.and_eq_true] at hall
      obtain ⟨e0, e1, e2, e3, e4, e5, e6, e7, -⟩ := hall
      obtain ⟨f, hf, e⟩ := f7 e7
      have hg : RingM W b (m + 12 + 4) := by simpa only [e2, e4, Bool.toNat_true] using g0
      exact ⟨rfl, f, hf, by kernel_rfl, hB, hg, f6 e6, e⟩
    case hstep =>
      intro l' fr W ii hl hInv hr hi
      unfold rockInv at hInv
      obtain ⟨s29, s30, s31, s32, s33, s34, hInv⟩ := hInv
      obtain ⟨hfr, hB, g0, g1, g2, f0, f1, f2, f3, f4, f5, f6, f7⟩ := hInv
      subst hfr
      obtain ⟨b0, b1, b2, b3, b4, b5, b6, b7, rfl⟩ := list8 hl
      have sW := hB.size
      replace k0 := (hB.cell (o := 0) (by omega) (by omega) (by omega)).trans k0
      replace k1 := (hB.cell (o := 1) (by omega) (by omega) (by omega)).trans k1
      replace k2 := (hB.cell (o := 2) (by omega) (by omega) (by omega)).trans k2
      replace k3 := (hB.cell (o := 3) (by omega) (by omega) (by omega)).trans k3
      replace k4 := (hB.cell (o := 4) (by omega) (by omega) (by omega)).trans k4
      replace k5 := (hB.cell (o := 5) (by omega) (by omega) (by omega)).trans k5
      replace k6 := (hB.cell (o := 6) (by omega) (by omega) (by omega)).trans k6
      replace k7 := (hB.cell (o := 7) (by omega) (by omega) (by omega)).trans k7
      replace k8 := (hB.cell (o := 8) (by omega) (by omega) (by omega)).trans k8
      replace k9 := (hB.cell (o := 9) (by omega) (by omega) (by omega)).trans k9
      replace k10 := (hB.cell (o := 10) (by omega) (by omega) (by omega)).trans k10
      have hflags : b2.toNat ≤ 1 ∧ b4.toNat ≤ 1 := ⟨Bool.toNat_le _, Bool.toNat_le _⟩
      simp only [List.getD_cons_zero, List.getD_cons_succ] at g0 g1 g2 f0 f1 f2 f3 f4 f5 f6 f7
      replace hB := Go.Lib.hid hB
      replace hi := Go.Lib.hid hi
      replace g0 := Go.Lib.hid g0
      replace g1 := Go.Lib.hid g1
      replace g2 := Go.Lib.hid g2
      replace f0 := Go.Lib.hid f0
      replace f1 := Go.Lib.hid f1
      replace f2 := Go.Lib.hid f2
      replace f3 := Go.Lib.hid f3
      replace f4 := Go.Lib.hid f4
      replace f5 := Go.Lib.hid f5
      replace f6 := Go.Lib.hid f6
      replace f7 := Go.Lib.hid f7
      rcases ii with _ | _ | _ | _ | _ | _ | _ | _ | ii
      · refine wpOp_step rfl (fun K hK => ?_)
        simp only [sets, List.foldl_cons, List.foldl_nil, List.set_cons_succ, List.set_cons_zero]
        go_simp
        exact hK _ _ ⟨(.agg #[.int .i64 p0, .int .i64 p1, .int .i64 p2, .int .i64 p3, .int .i64 p4, .int .i64 p5, .int .i64 p6, .int .i64 p7, .int .i64 p8, .int .i64 p9, .bool pile]), s30, s31, s32, s33, s34, by kernel_rfl, hB.out, g0.out, g1.out, g2.out, fun _ => rfl, f1.out, f2.out, f3.out, f4.out, f5.out, f6.out, f7.out⟩
      · refine wpOp_step rfl (fun K hK => ?_)
        simp only [sets, List.foldl_cons, List.foldl_nil, List.set_cons_succ, List.set_cons_zero]
        go_simp
        exact hK _ _ ⟨s29, (.pointer (some ⟨b, 0, none⟩)), s31, s32, s33, s34, by kernel_rfl, hB.out, g0.out, g1.out, g2.out, f0.out, fun _ => rfl, f2.out, f3.out, f4.out, f5.out, f6.out, f7.out⟩
      · simp only [rockDeps, List.getD_cons_zero, List.getD_cons_succ, List.all_cons, List.all_nil, Bool.and_true] at hr
        have hd1 := hr
        obtain rfl := f1.out hd1
        have hi := hi.out
        simp only [List.getElem?_cons_zero, List.getElem?_cons_succ, Option.some.injEq] at hi
        subst hi
        refine wpOp_step rfl (fun K hK => ?_)
        simp only [sets, List.foldl_cons, List.foldl_nil, List.set_cons_succ, List.set_cons_zero]
        go_simp
        refine (spanIn_y 100 5000 900 b (m + 12 + 2 * (false.toNat + b4.toNat)) W (by have := hflags; simp only [Bool.toNat_false] at *; omega) (by omega) (by omega) (by omega) (by omega) (by omega) g0.out).mono ?_
        rintro _ W6 ⟨y, v, rfl, hv, rfl, hr⟩
        exact hK _ _ ⟨s29, (.pointer (some ⟨b, 0, none⟩)), (.agg #[.int .i64 v.x, .int .i64 v.y]), s32, s33, s34, by kernel_rfl, hB.out.rext y, (hr.mono (by simp only [List.set_cons_succ, List.set_cons_zero, List.getD_cons_zero, List.getD_cons_succ, Bool.toNat_true, Bool.toNat_false]; omega)), (fun h => y.row (g1.out h) (by omega) (by omega)), (fun h => y.row (g2.out h) (by omega) (by omega)), f0.out, f1.out, (fun _ => ⟨v, rfl, hv⟩), f3.out, f4.out, f5.out, (fun h => y.row (f6.out h) (by omega) (by omega)), (fun h => by obtain ⟨f, hf, e⟩ := f7.out h; exact ⟨f, hf, y.row e (by omega) (by omega)⟩)⟩
      · refine wpOp_step rfl (fun K hK => ?_)
        simp only [sets, List.foldl_cons, List.foldl_nil, List.set_cons_succ, List.set_cons_zero]
        go_simp
        exact hK _ _ ⟨s29, s30, s31, (.pointer (some ⟨b, 0, none⟩)), s33, s34, by kernel_rfl, hB.out, g0.out, g1.out, g2.out, f0.out, f1.out, f2.out, fun _ => rfl, f4.out, f5.out, f6.out, f7.out⟩
      · simp only [rockDeps, List.getD_cons_zero, List.getD_cons_succ, List.all_cons, List.all_nil, Bool.and_true, Bool.and_eq_true] at hr
        obtain ⟨hd3, hd2⟩ := hr
        obtain rfl := f3.out hd3
        have hi := hi.out
        simp only [List.getElem?_cons_zero, List.getElem?_cons_succ, Option.some.injEq] at hi
        subst hi
        refine wpOp_step rfl (fun K hK => ?_)
        simp only [sets, List.foldl_cons, List.foldl_nil, List.set_cons_succ, List.set_cons_zero]
        go_simp
        refine (spanIn_y 50 1000 400 b (m + 12 + 2 * (b2.toNat + false.toNat)) W (by have := hflags; simp only [Bool.toNat_false] at *; omega) (by omega) (by omega) (by omega) (by omega) (by omega) g0.out).mono ?_
        rintro _ W6 ⟨y, v, rfl, hv, rfl, hr⟩
        exact hK _ _ ⟨s29, s30, s31, (.pointer (some ⟨b, 0, none⟩)), (.agg #[.int .i64 v.x, .int .i64 v.y]), s34, by kernel_rfl, hB.out.rext y, (hr.mono (by simp only [List.set_cons_succ, List.set_cons_zero, List.getD_cons_zero, List.getD_cons_succ, Bool.toNat_true, Bool.toNat_false]; omega)), (fun h => y.row (g1.out h) (by omega) (by omega)), (fun h => y.row (g2.out h) (by omega) (by omega)), f0.out, f1.out, f2.out, f3.out, (fun _ => ⟨v, rfl, hv⟩), f5.out, (fun h => y.row (f6.out h) (by omega) (by omega)), (fun h => by obtain ⟨f, hf, e⟩ := f7.out h; exact ⟨f, hf, y.row e (by omega) (by omega)⟩)⟩
      · simp only [rockDeps, List.getD_cons_zero, List.getD_cons_succ, List.all_cons, List.all_nil, Bool.and_true, Bool.and_eq_true] at hr
        obtain ⟨hd2, hd4⟩ := hr
        obtain ⟨v31, rfl, h31⟩ := f2.out hd2
        obtain ⟨v33, rfl, h33⟩ := f4.out hd4
        refine wpOp_step rfl (fun K hK => ?_)
        simp only [sets, List.foldl_cons, List.foldl_nil, List.set_cons_succ, List.set_cons_zero]
        go_simp
        exact hK _ _ ⟨s29, s30, (.agg #[.int .i64 v31.x, .int .i64 v31.y]), s32, (.agg #[.int .i64 v33.x, .int .i64 v33.y]), (.agg #[.int .i64 v31.x, .int .i64 v31.y, .int .i64 v33.x, .int .i64 v33.y]), by kernel_rfl, hB.out, g0.out, g1.out, g2.out, f0.out, f1.out, f2.out, f3.out, f4.out, (fun _ => ⟨⟨v31, v33⟩, ⟨h31, h33⟩, rfl⟩), f6.out, f7.out⟩
      · simp only [rockDeps, List.getD_cons_zero, List.getD_cons_succ, List.all_cons, List.all_nil, Bool.and_true, Bool.and_eq_true] at hr
        obtain ⟨hd0, hd4⟩ := hr
        obtain rfl := f0.out hd0
        have hi := hi.out
        simp only [List.getElem?_cons_zero, List.getElem?_cons_succ, Option.some.injEq] at hi
        subst hi
        have e := g1.out rfl
        refine wpOp_step rfl (fun K hK => ?_)
        simp only [sets, List.foldl_cons, List.foldl_nil, List.set_cons_succ, List.set_cons_zero]
        simp only [Region.wanted]
        refine store_op 31 (.tmp 2) (.tmp 29) rfl w.heap.size #[.int .i64 p0, .int .i64 p1, .int .i64 p2, .int .i64 p3, .int .i64 p4, .int .i64 p5, .int .i64 p6, .int .i64 p7, .int .i64 p8, .int .i64 p9, .bool pile] (by kernel_rfl) (by kernel_rfl) 31 _ e (by kernel_rfl) rfl (by simp [Value.oneCell']) ?_
        exact hK _ _ ⟨(.agg #[.int .i64 p0, .int .i64 p1, .int .i64 p2, .int .i64 p3, .int .i64 p4, .int .i64 p5, .int .i64 p6, .int .i64 p7, .int .i64 p8, .int .i64 p9, .bool pile]), s30, s31, s32, s33, s34, by kernel_rfl, hB.out.row (Nat.le_refl _) (by omega) _, (RingM.row g0.out (by omega) _), (fun h => by cases h), (fun h => (setRow_other _ _ _ _ (by omega)).trans (g2.out h)), f0.out, f1.out, f2.out, f3.out, f4.out, f5.out, (fun _ => setRow_heap _ _ _ _ _ _ e), (fun h => by obtain ⟨f, hf, e2⟩ := f7.out h; exact ⟨f, hf, (setRow_other _ _ _ _ (by omega)).trans e2⟩)⟩
      · simp only [rockDeps, List.getD_cons_zero, List.getD_cons_succ, List.all_cons, List.all_nil, Bool.and_true, Bool.and_eq_true] at hr
        obtain ⟨hd5, hd6⟩ := hr
        obtain ⟨f, hf, rfl⟩ := f5.out hd5
        have hi := hi.out
        simp only [List.getElem?_cons_zero, List.getElem?_cons_succ, Option.some.injEq] at hi
        subst hi
        have e := g2.out rfl
        refine wpOp_step rfl (fun K hK => ?_)
        simp only [sets, List.foldl_cons, List.foldl_nil, List.set_cons_succ, List.set_cons_zero]
        simp only [Region.wanted]
        refine store_op 33 (.tmp 3) (.tmp 34) rfl (w.heap.size + 1) #[.int .i64 f.speed.x, .int .i64 f.speed.y, .int .i64 f.slope.x, .int .i64 f.slope.y] (by kernel_rfl) (by kernel_rfl) 33 _ e (by kernel_rfl) rfl (by simp [Value.oneCell']) ?_
        exact hK _ _ ⟨s29, s30, s31, s32, s33, (.agg #[.int .i64 f.speed.x, .int .i64 f.speed.y, .int .i64 f.slope.x, .int .i64 f.slope.y]), by kernel_rfl, hB.out.row (by omega) (by omega) _, (RingM.row g0.out (by omega) _), (fun h => (setRow_other _ _ _ _ (by omega)).trans (g1.out h)), (fun h => by cases h), f0.out, f1.out, f2.out, f3.out, f4.out, f5.out, (fun h => (setRow_other _ _ _ _ (by omega)).trans (f6.out h)), (fun _ => ⟨f, hf, setRow_heap _ _ _ _ _ _ e⟩)⟩
      · have hi := hi.out; simp at hi
  rintro a4 W4 ⟨f, hf, ha4, hkx, hr4, hrow, hrow2⟩
  generalize a4.tmps.getD 29 undef = s29 at ha4
  generalize a4.tmps.getD 30 undef = s30 at ha4
  generalize a4.tmps.getD 31 undef = s31 at ha4
  generalize a4.tmps.getD 32 undef = s32 at ha4
  generalize a4.tmps.getD 33 undef = s33 at ha4
  generalize a4.tmps.getD 34 undef = s34 at ha4
  subst ha4
  simp only [sets, List.foldl_cons, List.foldl_nil, List.set_cons_succ, List.set_cons_zero]
  have hB4 : BelowX b w.heap.size w W4 := hkx.belowX hB7 (by omega) (by omega)
  clear hkx hB7 k0 k1 k2 k3 k4 k5 k6 k7 k8 k9 k10
  have r0 : W4.cell? ⟨w.heap.size, 0, none⟩ = some (.int .i64 p0) := (cell_of_row W4 _ 0 _ _ _ hrow).trans rfl
  have r1 : W4.cell? ⟨w.heap.size, 1, none⟩ = some (.int .i64 p1) := (cell_of_row W4 _ 1 _ _ _ hrow).trans rfl
  have r2 : W4.cell? ⟨w.heap.size, 2, none⟩ = some (.int .i64 p2) := (cell_of_row W4 _ 2 _ _ _ hrow).trans rfl
  have r3 : W4.cell? ⟨w.heap.size, 3, none⟩ = some (.int .i64 p3) := (cell_of_row W4 _ 3 _ _ _ hrow).trans rfl
  have r4 : W4.cell? ⟨w.heap.size, 4, none⟩ = some (.int .i64 p4) := (cell_of_row W4 _ 4 _ _ _ hrow).trans rfl
  have r5 : W4.cell? ⟨w.heap.size, 5, none⟩ = some (.int .i64 p5) := (cell_of_row W4 _ 5 _ _ _ hrow).trans rfl
  have r6 : W4.cell? ⟨w.heap.size, 6, none⟩ = some (.int .i64 p6) := (cell_of_row W4 _ 6 _ _ _ hrow).trans rfl
  have r7 : W4.cell? ⟨w.heap.size, 7, none⟩ = some (.int .i64 p7) := (cell_of_row W4 _ 7 _ _ _ hrow).trans rfl
  have r8 : W4.cell? ⟨w.heap.size, 8, none⟩ = some (.int .i64 p8) := (cell_of_row W4 _ 8 _ _ _ hrow).trans rfl
  have r9 : W4.cell? ⟨w.heap.size, 9, none⟩ = some (.int .i64 p9) := (cell_of_row W4 _ 9 _ _ _ hrow).trans rfl
  have r10 : W4.cell? ⟨w.heap.size, 10, none⟩ = some (.bool pile) := (cell_of_row W4 _ 10 _ _ _ hrow).trans rfl
  have q0 : W4.cell? ⟨w.heap.size + 1, 0, none⟩ = some (.int .i64 f.speed.x) := (cell_of_row W4 _ 0 _ _ _ hrow2).trans rfl
  have q1 : W4.cell? ⟨w.heap.size + 1, 1, none⟩ = some (.int .i64 f.speed.y) := (cell_of_row W4 _ 1 _ _ _ hrow2).trans rfl
  have q2 : W4.cell? ⟨w.heap.size + 1, 2, none⟩ = some (.int .i64 f.slope.x) := (cell_of_row W4 _ 2 _ _ _ hrow2).trans rfl
  have q3 : W4.cell? ⟨w.heap.size + 1, 3, none⟩ = some (.int .i64 f.slope.y) := (cell_of_row W4 _ 3 _ _ _ hrow2).trans rfl
  go_wp2_with fail
  refine bodyPost_ret (v := .tuple #[.agg #[.int .i64 p0, .int .i64 p1, .int .i64 p2, .int .i64 p3, .int .i64 p4, .int .i64 p5, .int .i64 p6, .int .i64 p7, .int .i64 p8, .int .i64 p9, .bool pile], .agg #[.int .i64 f.speed.x, .int .i64 f.speed.y, .int .i64 f.slope.x, .int .i64 f.slope.y]]) (by simp (maxDischargeDepth := 9) [results, Tryd.results11, go_sem, r0, r1, r2, r3, r4, r5, r6, r7, r8, r9, r10, q0, q1, q2, q3]) rfl ?_
  exact ⟨⟨W4, hB4⟩, ⟨⟨p0, p1⟩, ⟨p2, p3⟩, ⟨p4, p5⟩, ⟨p6, p7⟩, ⟨p8, p9⟩, pile⟩, f, rfl, ⟨⟨a1, a2, a3⟩, ⟨b1, b2, b3⟩, ⟨by simp only; omega, o2, by simp only; omega⟩, ⟨c1, c2, c3⟩, ⟨d1, d2, d3⟩, hf.1, hf.2⟩, rfl, hr4⟩
end Go.Proofs.YtlmhbggigbmeaaaDoor

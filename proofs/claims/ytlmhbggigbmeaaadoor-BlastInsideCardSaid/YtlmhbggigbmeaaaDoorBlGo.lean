/- Contract of GradesOf: valid grades, made of a ring's numbers. Condition: the ring's block is as NewRing made it. -/
import Derived.Test.YtlmhbggigbmeaaaDoorBlV1G
import Derived.Test.YtlmhbggigbmeaaaDoorPairG
import Derived.Test.YtlmhbggigbmeaaaDoorBlGrG
namespace Go.Proofs.YtlmhbggigbmeaaaDoor
open Go.RowKit Go.Shelf
attribute [local go_sem] Option.isSome_some Ext.cell Ext.frozen Ext.lt Ext.le Ext.lt_add Ext.le_add Ext.ne Ext.ne' lt2 lt3 lt4 lt5 le2 le3 le4
attribute [local go_sem] RExt.cell RExt.frozen RExt.lt RExt.le RExt.lt_add RExt.le_add RExt.ne RExt.ne'
theorem grade_info : (Tryd.prog.info? 92).map (fun i => (i.zero, i.size, i.bytes)) = some (some (.agg #[.int .i64 0, .int .i64 0]), 2, 16) := by kernel_rfl
/-- Grades that ascend, below the numbers of the next one. -/
structure GradesUp (l : List V2) (e r : Int) : Prop where
  rng : ∀ g ∈ l, (0 ≤ g.x ∧ g.x < e) ∧ 0 ≤ g.y ∧ g.y ≤ r
  up : ∀ i (h : i + 1 < l.length), l[i].x < l[i + 1].x ∧ l[i].y ≤ l[i + 1].y
theorem GradesUp.add {l : List V2} {e r e' r' : Int} (h : GradesUp l e r) (he : 0 ≤ e) (hr : 0 ≤ r) (h1 : e < e') (h2 : r ≤ r') : GradesUp (l ++ [⟨e, r⟩]) e' r' := by
  refine ⟨fun g hg => ?_, fun i hi => ?_⟩
  · rcases List.mem_append.1 hg with h3 | h3
    · have := h.rng g h3; omega
    · rw [List.mem_singleton.1 h3]; simp only; omega
  · rw [List.length_append, List.length_singleton] at hi
    by_cases hl : i + 1 < l.length
    · rw [List.getElem_append_left (by omega), List.getElem_append_left hl]; exact h.up i hl
    · rw [List.getElem_append_left (by omega), List.getElem_append_right (by omega)]
      have := h.rng (l[i]'(by omega)) (List.getElem_mem _)
      simp only [List.getElem_singleton]
      omega
def GradesPost (b m : Nat) (w : World) : Ending → World → Prop := fun e w' => ∃ (y : RExt w b) (v : Value) (l : List V2), e = .returned v ∧ y.now.ownsRow w.heap.size 92 2 v l.length (vrows l) ∧ GradesOk l ∧ w' = y.now ∧ RingM y.now b (m + 15)
theorem GradesPost.intro {b m : Nat} {w W : World} {v : Value} (l : List V2) (hB : BelowX b w.heap.size w W) (ho : W.ownsRow w.heap.size 92 2 v l.length (vrows l)) (h1 : GradesOk l) (hr : RingM W b (m + 15)) : GradesPost b m w (.returned v) W := ⟨⟨W, hB⟩, v, l, rfl, ho, h1, rfl, hr⟩
set_option maxRecDepth 100000 in
set_option maxHeartbeats 8000000 in
theorem GradesOf_y (b m : Nat) (w : World) (hm : m < 100000) (h : RingM w b m) : Calls Tryd.prog 13 #[.pointer (some ⟨b, 0, none⟩)] w (GradesPost b m w) := by
  have hl := h.lt
  go_enter Tryd.func13, Tryd.ntmps13
  go_wp2_with (first | ((first | with_reducible refine wrx2 ?_ | with_reducible refine wrx ?_); (repeat (first | go_big_quiet_step ((first | fail)) | quiet_step ((first | fail)))); refine wpQuiet_nil ?_; rintro _ ⟨yr, rfl⟩; have syr := Ext.size yr; (repeat (first | rw [World.size_alloc] at syr | rw [World.size_setCell] at syr | rw [World.size_drew] at syr)); have : b < yr.now.heap.size := (by omega); have : b ≤ yr.now.heap.size := (by omega); have : b < yr.now.heap.size + 1 + 1 := (by omega)) | (go_at_call 15; (with_reducible refine Calls.mono (Next_y 3 b m _ (by omega) (by omega) (by omega) ?_) ?_); (focus ((repeat (first | (with_reducible assumption) | (with_reducible refine RingM.alloc ?_ _) | (with_reducible refine RingM.drew ?_) | (with_reducible refine RingM.ext ?_ _) | (with_reducible refine RingM.set ?_ _ (by omega)))); done)); (rintro _ _ ⟨yx1, vx1, rfl, hvx1, rfl, rgx1⟩); have syx1 := RExt.size yx1; (repeat (first | rw [World.size_alloc] at syx1 | rw [World.size_setCell] at syx1 | rw [World.size_drew] at syx1)); have : b < yx1.now.heap.size := (by omega); have : b ≤ yx1.now.heap.size := (by omega); have : b < yx1.now.heap.size + 1 + 1 := (by omega)) | (go_at_call 15; (with_reducible refine Calls.mono (Next_y 2 b (m + 1) _ (by omega) (by omega) (by omega) ?_) ?_); (focus ((repeat (first | (with_reducible assumption) | (with_reducible refine RingM.alloc ?_ _) | (with_reducible refine RingM.drew ?_) | (with_reducible refine RingM.ext ?_ _) | (with_reducible refine RingM.set ?_ _ (by omega)))); done)); (rintro _ _ ⟨yx2, vx2, rfl, hvx2, rfl, rgx2⟩); have syx2 := RExt.size yx2; (repeat (first | rw [World.size_alloc] at syx2 | rw [World.size_setCell] at syx2 | rw [World.size_drew] at syx2)); have : b < yx2.now.heap.size := (by omega); have : b ≤ yx2.now.heap.size := (by omega); have : b < yx2.now.heap.size + 1 + 1 := (by omega)) | (go_at_call 15; (with_reducible refine Calls.mono (Next_y 6 b (m + 2) _ (by omega) (by omega) (by omega) ?_) ?_); (focus ((repeat (first | (with_reducible assumption) | (with_reducible refine RingM.alloc ?_ _) | (with_reducible refine RingM.drew ?_) | (with_reducible refine RingM.ext ?_ _) | (with_reducible refine RingM.set ?_ _ (by omega)))); done)); (rintro _ _ ⟨yx3, vx3, rfl, hvx3, rfl, rgx3⟩); have syx3 := RExt.size yx3; (repeat (first | rw [World.size_alloc] at syx3 | rw [World.size_setCell] at syx3 | rw [World.size_drew] at syx3)); have : b < yx3.now.heap.size := (by omega); have : b ≤ yx3.now.heap.size := (by omega); have : b < yx3.now.heap.size + 1 + 1 := (by omega)))
  obtain ⟨hd0, hd1⟩ := hvx1
  obtain ⟨hr0, hr1⟩ := hvx2
  obtain ⟨hn0, hn1⟩ := hvx3
  obtain ⟨k0, hk0⟩ := Int.eq_ofNat_of_zero_le (show 0 ≤ 1 + vx3 by omega)
  rw [hk0]
  have hk6 : 1 ≤ k0 ∧ k0 ≤ 6 := by omega
  have hB0 : BelowX b w.heap.size w yx3.now := yx1.grew.trans ((yx2.grew.trans (yx3.grew.mono (by omega))).mono (by omega))
  go_loopw [3, 4, 5, 6] (fun t u q s W => ∃ (k : Nat) (e r : Int) (v : Value) (l : List V2) (x : RExt w b), t = v ∧ u = .int .i64 e ∧ q = .int .i64 r ∧ s = .int .i64 k ∧ W = x.now ∧ x.now.ownsRow w.heap.size 92 2 v l.length (vrows l) ∧ RingM x.now b (m + 3 + 2 * (k0 - k)) ∧ Hid (l.length + k = k0 ∧ (0 ≤ e ∧ e ≤ 3000 * 31 ^ (l.length)) ∧ (0 ≤ r ∧ r ≤ 1 + 3 * l.length) ∧ GradesUp l e r)) (fun _ _ _ s _ => (intOf s).toNat)
  case atStart => exact ⟨k0, _, vx2, _, [], ⟨yx3.now, hB0⟩, rfl, rfl, rfl, rfl, rfl, World.ownsRow_nil _ _ _ _, by simpa using rgx3, Go.Lib.hid ⟨by simp, ⟨by omega, by simp; omega⟩, ⟨hr0, by simp; omega⟩, ⟨by simp, by simp⟩⟩⟩
  case round =>
    obtain ⟨k, e, r, v, l, x, rfl, rfl, rfl, rfl, rfl, hown, hrg, hi⟩ := hrel
    have xs := x.size
    obtain ⟨p, c, rfl⟩ := owns_form hown
    have hb1 : b < x.now.heap.size := by omega
    by_cases hk : k = 0
    · subst hk
      obtain ⟨i1, i2, i3, i4⟩ := hi.out
      have hP1 : (31 : Int) ^ l.length ≤ 887503681 := by
        have a : (31 : Int) ^ l.length = ((31 ^ l.length : Nat) : Int) := by simp
        have b1 : 31 ^ l.length ≤ 31 ^ 6 := Nat.pow_le_pow_right (by decide) (by omega)
        have b3 : (31 : Nat) ^ 6 = 887503681 := by decide
        rw [a]; omega
      have hok : GradesOk l := ⟨by omega, by omega, fun g hg => by have := i4.rng g hg; omega, i4.up⟩
      clear hi
      go_wp2_with (first | ((first | with_reducible refine wrx2 ?_ | with_reducible refine wrx ?_); (repeat (first | go_big_quiet_step ((first | fail)) | quiet_step ((first | fail)))); refine wpQuiet_nil ?_; rintro _ ⟨yr, rfl⟩; have syr := Ext.size yr; (repeat (first | rw [World.size_alloc] at syr | rw [World.size_setCell] at syr | rw [World.size_drew] at syr)); have : b < yr.now.heap.size := (by omega); have : b ≤ yr.now.heap.size := (by omega); have : b < yr.now.heap.size + 1 + 1 := (by omega)))
      go_returns
      exact GradesPost.intro l x.grew hown hok (hrg.mono (by omega))
    · have hkp : 0 < (k : Int) := by omega
      obtain ⟨j, rfl⟩ : ∃ j, k = j + 1 := ⟨k - 1, by omega⟩
      obtain ⟨i1, ⟨i2, i3⟩, ⟨i5, i6⟩, i4⟩ := hi.out
      have hP1 : (1 : Int) ≤ 31 ^ l.length ∧ (31 : Int) ^ l.length ≤ 28629151 := by
        have a : (31 : Int) ^ l.length = ((31 ^ l.length : Nat) : Int) := by simp
        have b1 : 31 ^ l.length ≤ 31 ^ 5 := Nat.pow_le_pow_right (by decide) (by omega)
        have b2 : 0 < 31 ^ l.length := Nat.pow_pos (by decide)
        have b3 : (31 : Nat) ^ 5 = 28629151 := by decide
        rw [a]; omega
      have hP2 : (31 : Int) ^ (l.length + 1) = 31 ^ l.length * 31 := Int.pow_succ 31 _
      have hkey := fun (x1 x2 : Int) (q1 : 1 ≤ x1 ∧ x1 ≤ 1000) (q2 : 0 ≤ x2 ∧ x2 ≤ 3) => (show Hid ((l ++ [(⟨e, r⟩ : V2)]).length + j = k0 ∧ (0 ≤ e * 30 + x1 ∧ e * 30 + x1 ≤ 3000 * 31 ^ ((l ++ [(⟨e, r⟩ : V2)]).length)) ∧ (0 ≤ r + x2 ∧ r + x2 ≤ 1 + 3 * (l ++ [(⟨e, r⟩ : V2)]).length) ∧ GradesUp (l ++ [(⟨e, r⟩ : V2)]) (e * 30 + x1) (r + x2)) from by
        refine Go.Lib.hid ⟨by simp; omega, ?_, ?_, i4.add i2 i5 (by omega) (by omega)⟩
        · rw [List.length_append, List.length_singleton, hP2]; omega
        · rw [List.length_append, List.length_singleton]; omega)
      have he6 : e ≤ 85887453000 := by omega
      have hr6 : r ≤ 16 := by omega
      have hll : l.length ≤ 5 := by omega
      have hj6 : j ≤ 6 := by omega
      have hmm : m + 3 + 2 * (k0 - (j + 1)) + 2 = m + 3 + 2 * (k0 - j) := by omega
      have hmb : m + 3 + 2 * (k0 - (j + 1)) < 1000000 := by omega
      clear hi i1 i3 i4 i6 hP1 hP2 hk hB0
      generalize m + 3 + 2 * (k0 - (j + 1)) = mm at *
      obtain ⟨i0, hi0, hz0, hz1, hz2⟩ := info_parts grade_info
      go_upto_region 7 with (first | ((first | with_reducible refine wrx2 ?_ | with_reducible refine wrx ?_); (repeat (first | go_big_quiet_step ((first | fail)) | quiet_step ((first | fail)))); refine wpQuiet_nil ?_; rintro _ ⟨yr, rfl⟩; have syr := Ext.size yr; (repeat (first | rw [World.size_alloc] at syr | rw [World.size_setCell] at syr | rw [World.size_drew] at syr)); have : b < yr.now.heap.size := (by omega); have : b ≤ yr.now.heap.size := (by omega); have : b < yr.now.heap.size + 1 + 1 := (by omega)) | (at_builtin; go_loud (refine wpList_append_own _ rfl _ _ 23 rfl w.heap.size 92 i0 _ 2 16 Tryd.underlying23 hi0 hz0 hz1 hz2 rfl (by decide) _ l.length (vrows l) rfl (hown.alloc (.cells #[.int .i64 e, .int .i64 r] 92)) _ 1 1 _ rfl rfl (cells2_new _ _ _ _) (by intro u hu; simp only [List.mem_cons, List.not_mem_nil, or_false] at hu; rcases hu with rfl | rfl <;> rfl) (by unfold maxLen; omega) (by omega) (by simp only [World.size_alloc]; omega) ?_; intro v' W2 hown' hgrow _; have hownA := hown.alloc (.cells #[.int .i64 e, .int .i64 r] 92); have hrg2 := RingM.grown (hrg.alloc (.cells #[.int .i64 e, .int .i64 r] 92)) hownA hl hgrow; have hB2 : BelowX b w.heap.size w W2 := belowX_grown (x.grew.alloc (by omega) (.cells #[.int .i64 e, .int .i64 r] 92)) hownA (Nat.le_refl _) (by simp only [World.size_alloc]; omega) hgrow; have sW2 := hB2.size)))
      have hlW2 : b < W2.heap.size := by omega
      go_wp2_with (first | ((first | with_reducible refine wrx2 ?_ | with_reducible refine wrx ?_); (repeat (first | go_big_quiet_step ((first | fail)) | quiet_step ((first | fail)))); refine wpQuiet_nil ?_; rintro _ ⟨yr, rfl⟩; have syr := Ext.size yr; (repeat (first | rw [World.size_alloc] at syr | rw [World.size_setCell] at syr | rw [World.size_drew] at syr)); have : b < yr.now.heap.size := (by omega); have : b ≤ yr.now.heap.size := (by omega); have : b < yr.now.heap.size + 1 + 1 := (by omega)) | (go_at_call 42; (with_reducible refine Calls.mono (Range_y 1 1000 b mm _ (by omega) (by omega) (by omega) (by omega) ?_) ?_); (focus ((repeat (first | (with_reducible assumption) | (with_reducible refine RingM.alloc ?_ _) | (with_reducible refine RingM.drew ?_) | (with_reducible refine RingM.ext ?_ _) | (with_reducible refine RingM.set ?_ _ (by omega)))); done)); (rintro _ _ ⟨yx1, vx1, rfl, hvx1, rfl, rgx1⟩); have syx1 := RExt.size yx1; (repeat (first | rw [World.size_alloc] at syx1 | rw [World.size_setCell] at syx1 | rw [World.size_drew] at syx1)); have : b < yx1.now.heap.size := (by omega); have : b ≤ yx1.now.heap.size := (by omega); have : b < yx1.now.heap.size + 1 + 1 := (by omega)) | (go_at_call 42; (with_reducible refine Calls.mono (Range_y 0 3 b (mm + 1) _ (by omega) (by omega) (by omega) (by omega) ?_) ?_); (focus ((repeat (first | (with_reducible assumption) | (with_reducible refine RingM.alloc ?_ _) | (with_reducible refine RingM.drew ?_) | (with_reducible refine RingM.ext ?_ _) | (with_reducible refine RingM.set ?_ _ (by omega)))); done)); (rintro _ _ ⟨yx2, vx2, rfl, hvx2, rfl, rgx2⟩); have syx2 := RExt.size yx2; (repeat (first | rw [World.size_alloc] at syx2 | rw [World.size_setCell] at syx2 | rw [World.size_drew] at syx2)); have : b < yx2.now.heap.size := (by omega); have : b ≤ yx2.now.heap.size := (by omega); have : b < yx2.now.heap.size + 1 + 1 := (by omega)))
      have ho : yx2.now.ownsRow w.heap.size 92 2 v' (l ++ [(⟨e, r⟩ : V2)]).length (vrows (l ++ [(⟨e, r⟩ : V2)])) := by
        rw [vrows_add, List.length_append, List.length_singleton]
        exact owns_belowX (owns_belowX hown' hl yx1.grew) hl yx2.grew
      have hr9 : RingM yx2.now b (m + 3 + 2 * (k0 - j)) := by rw [← hmm]; exact rgx2
      have key := hkey vx1 vx2 hvx1 hvx2
      have hB3 : BelowX b w.heap.size w yx2.now := hB2.trans ((yx1.grew.trans (yx2.grew.mono (by omega))).mono (by omega))
      clear hkey
      generalize e * 30 + vx1 = e2 at *
      generalize r + vx2 = r2 at *
      generalize yx2.now = W5 at *
      refine ⟨⟨j, e2, r2, v', l ++ [⟨e, r⟩], ⟨W5, hB3⟩, rfl, rfl, rfl, rfl, rfl, ho, hr9, key⟩, ?_⟩
      simp only [intOf]
      omega
end Go.Proofs.YtlmhbggigbmeaaaDoor

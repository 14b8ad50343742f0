/- Contract of LayersOf: valid air, made of a ring's numbers. Condition: the ring's block is as NewRing made it. -/
import Derived.Test.YtlmhbggigbmeaaaDoorBlV1G
import Derived.Test.YtlmhbggigbmeaaaDoorPairG
namespace Go.Proofs.YtlmhbggigbmeaaaDoor
open Go.RowKit Go.Shelf
/-- Layers that statements make of numbers. -/
structure LaysOk (l : List V2) : Prop where
  len : l.length ≤ 6
  all : ∀ u ∈ l, (1 ≤ u.x ∧ u.x ≤ 200) ∧ 0 ≤ u.y ∧ u.y ≤ 1000
attribute [local go_sem] Option.isSome_some Ext.cell Ext.frozen Ext.lt Ext.le Ext.lt_add Ext.le_add Ext.ne Ext.ne' lt2 lt3 lt4 lt5 le2 le3 le4
attribute [local go_sem] RExt.cell RExt.frozen RExt.lt RExt.le RExt.lt_add RExt.le_add RExt.ne RExt.ne'
def LayersPost (b m : Nat) (w : World) : Ending → World → Prop := fun e w' => ∃ (y : RExt w b) (v : Value) (l : List V2), e = .returned v ∧ y.now.ownsRow w.heap.size 90 2 v l.length (vrows l) ∧ l.length ≤ 6 ∧ (∀ u ∈ l, (1 ≤ u.x ∧ u.x ≤ 200) ∧ 0 ≤ u.y ∧ u.y ≤ 1000) ∧ w' = y.now ∧ RingM y.now b (m + 20)
theorem LayersPost.intro {b m : Nat} {w W : World} {v : Value} (l : List V2) (hB : BelowX b w.heap.size w W) (ho : W.ownsRow w.heap.size 90 2 v l.length (vrows l)) (h1 : l.length ≤ 6) (h2 : ∀ u ∈ l, (1 ≤ u.x ∧ u.x ≤ 200) ∧ 0 ≤ u.y ∧ u.y ≤ 1000) (hr : RingM W b (m + 20)) : LayersPost b m w (.returned v) W := ⟨⟨W, hB⟩, v, l, rfl, ho, h1, h2, rfl, hr⟩
set_option maxRecDepth 100000 in
set_option maxHeartbeats 8000000 in
theorem LayersOf_y (b m : Nat) (w : World) (hm : m < 100000) (h : RingM w b m) : Calls Tryd.prog 12 #[.pointer (some ⟨b, 0, none⟩)] w (LayersPost b m w) := by
  have hl := h.lt
  go_enter Tryd.func12, Tryd.ntmps12
  go_wp2_with (first | ((first | with_reducible refine wrx2 ?_ | with_reducible refine wrx ?_); (repeat (first | go_big_quiet_step ((first | fail)) | quiet_step ((first | fail)))); refine wpQuiet_nil ?_; rintro _ ⟨yr, rfl⟩; have syr := Ext.size yr; (repeat (first | rw [World.size_alloc] at syr | rw [World.size_setCell] at syr | rw [World.size_drew] at syr)); have : b < yr.now.heap.size := (by omega); have : b ≤ yr.now.heap.size := (by omega); have : b < yr.now.heap.size + 1 + 1 := (by omega)) | (go_at_call 15; (with_reducible refine Calls.mono (Next_y 2 b m _ (by omega) (by omega) (by omega) ?_) ?_); (focus ((repeat (first | (with_reducible assumption) | (with_reducible refine RingM.alloc ?_ _) | (with_reducible refine RingM.drew ?_) | (with_reducible refine RingM.ext ?_ _) | (with_reducible refine RingM.set ?_ _ (by omega)))); done)); (rintro _ _ ⟨yx1, vx1, rfl, hvx1, rfl, rgx1⟩); have syx1 := RExt.size yx1; (repeat (first | rw [World.size_alloc] at syx1 | rw [World.size_setCell] at syx1 | rw [World.size_drew] at syx1)); have : b < yx1.now.heap.size := (by omega); have : b ≤ yx1.now.heap.size := (by omega); have : b < yx1.now.heap.size + 1 + 1 := (by omega)) | (go_at_call 15; (with_reducible refine Calls.mono (Next_y 7 b (m + 1) _ (by omega) (by omega) (by omega) ?_) ?_); (focus ((repeat (first | (with_reducible assumption) | (with_reducible refine RingM.alloc ?_ _) | (with_reducible refine RingM.drew ?_) | (with_reducible refine RingM.ext ?_ _) | (with_reducible refine RingM.set ?_ _ (by omega)))); done)); (rintro _ _ ⟨yx2, vx2, rfl, hvx2, rfl, rgx2⟩); have syx2 := RExt.size yx2; (repeat (first | rw [World.size_alloc] at syx2 | rw [World.size_setCell] at syx2 | rw [World.size_drew] at syx2)); have : b < yx2.now.heap.size := (by omega); have : b ≤ yx2.now.heap.size := (by omega); have : b < yx2.now.heap.size + 1 + 1 := (by omega)))
  obtain ⟨hd0, hd1⟩ := hvx1
  obtain ⟨hn0, hn1⟩ := hvx2
  obtain ⟨k0, hk0⟩ := Int.eq_ofNat_of_zero_le hn0
  rw [hk0]
  have hk6 : k0 ≤ 6 := by omega
  have hB0 : BelowX b w.heap.size w yx2.now := yx1.grew.trans (yx2.grew.mono (by omega))
  go_loopw [3, 4, 5] (fun t u s W => ∃ (k : Nat) (d : Int) (v : Value) (l : List V2) (x : RExt w b), t = v ∧ u = .int .i64 d ∧ s = .int .i64 k ∧ W = x.now ∧ x.now.ownsRow w.heap.size 90 2 v l.length (vrows l) ∧ RingM x.now b (m + 2 + 3 * (k0 - k)) ∧ Hid (l.length + k = k0 ∧ (0 ≤ d ∧ d ≤ 1000 * 4 ^ (l.length)) ∧ ∀ u ∈ l, (1 ≤ u.x ∧ u.x ≤ 200) ∧ 0 ≤ u.y ∧ u.y ≤ 1000)) (fun _ _ s _ => (intOf s).toNat)
  case atStart => exact ⟨k0, vx1, _, [], ⟨yx2.now, hB0⟩, rfl, rfl, rfl, rfl, World.ownsRow_nil _ _ _ _, by simpa using rgx2, Go.Lib.hid ⟨by simp, ⟨hd0, by simp; omega⟩, by simp⟩⟩
  case round =>
    obtain ⟨k, d, v, l, x, rfl, rfl, rfl, rfl, hown, hrg, hi⟩ := hrel
    have xs := x.size
    obtain ⟨p, c, rfl⟩ := owns_form hown
    have hb1 : b < x.now.heap.size := by omega
    by_cases hk : k = 0
    · subst hk
      have hi2 := hi.out
      clear hi
      go_wp2_with (first | ((first | with_reducible refine wrx2 ?_ | with_reducible refine wrx ?_); (repeat (first | go_big_quiet_step ((first | fail)) | quiet_step ((first | fail)))); refine wpQuiet_nil ?_; rintro _ ⟨yr, rfl⟩; have syr := Ext.size yr; (repeat (first | rw [World.size_alloc] at syr | rw [World.size_setCell] at syr | rw [World.size_drew] at syr)); have : b < yr.now.heap.size := (by omega); have : b ≤ yr.now.heap.size := (by omega); have : b < yr.now.heap.size + 1 + 1 := (by omega)))
      go_returns
      exact LayersPost.intro l x.grew hown (by omega) hi2.2.2 (hrg.mono (by omega))
    · have hkp : 0 < (k : Int) := by omega
      obtain ⟨j, rfl⟩ : ∃ j, k = j + 1 := ⟨k - 1, by omega⟩
      obtain ⟨h1, ⟨h2, h3⟩, h4⟩ := hi.out
      have hP1 : (1 : Int) ≤ 4 ^ l.length ∧ (4 : Int) ^ l.length ≤ 4096 := by
        have a : (4 : Int) ^ l.length = ((4 ^ l.length : Nat) : Int) := by simp
        have b1 : 4 ^ l.length ≤ 4 ^ 6 := Nat.pow_le_pow_right (by decide) (by omega)
        have b2 : 0 < 4 ^ l.length := Nat.pow_pos (by decide)
        have b3 : (4 : Nat) ^ 6 = 4096 := by decide
        rw [a]; omega
      have hP2 : (4 : Int) ^ (l.length + 1) = 4 ^ l.length * 4 := Int.pow_succ 4 _
      obtain ⟨M, hM⟩ : ∃ M, min 1000 d = M := ⟨_, rfl⟩
      have hM0 : 0 ≤ M ∧ M ≤ 1000 := by omega
      have hkey := fun (x1 r1 r2 : Int) (q1 : 1 ≤ x1 ∧ x1 ≤ 200) (q2 : 1 ≤ r1 ∧ r1 ≤ 3) (q3 : 0 ≤ r2 ∧ r2 ≤ 3) => (show Hid ((l ++ [(⟨x1, M⟩ : V2)]).length + j = k0 ∧ (0 ≤ d * r1 + r2 ∧ d * r1 + r2 ≤ 1000 * 4 ^ ((l ++ [(⟨x1, M⟩ : V2)]).length)) ∧ ∀ u ∈ l ++ [(⟨x1, M⟩ : V2)], (1 ≤ u.x ∧ u.x ≤ 200) ∧ 0 ≤ u.y ∧ u.y ≤ 1000) from by
        refine Go.Lib.hid ⟨by simp; omega, ?_, fun u hu => ?_⟩
        · rw [List.length_append, List.length_singleton, hP2]
          have e1 := Int.mul_nonneg h2 (show 0 ≤ r1 by omega)
          have e2 := Int.mul_le_mul_of_nonneg_left q2.2 h2
          omega
        · rcases List.mem_append.1 hu with h5 | h5
          · exact h4 u h5
          · rw [List.mem_singleton.1 h5]; exact ⟨q1, hM0⟩)
      have hd6 : d ≤ 4096000 := by omega
      have hll : l.length ≤ 5 := by omega
      have hj6 : j ≤ 6 := by omega
      have hmm : m + 2 + 3 * (k0 - (j + 1)) + 3 = m + 2 + 3 * (k0 - j) := by omega
      have hmb : m + 2 + 3 * (k0 - (j + 1)) < 1000000 := by omega
      clear hi h1 h3 h4 hP1 hP2 hk hB0
      generalize m + 2 + 3 * (k0 - (j + 1)) = mm at *
      obtain ⟨i0, hi0, hz0, hz1, hz2⟩ := info_parts layer_info
      go_upto_region 7 with (first | ((first | with_reducible refine wrx2 ?_ | with_reducible refine wrx ?_); (repeat (first | go_big_quiet_step ((first | fail)) | quiet_step ((first | fail)))); refine wpQuiet_nil ?_; rintro _ ⟨yr, rfl⟩; have syr := Ext.size yr; (repeat (first | rw [World.size_alloc] at syr | rw [World.size_setCell] at syr | rw [World.size_drew] at syr)); have : b < yr.now.heap.size := (by omega); have : b ≤ yr.now.heap.size := (by omega); have : b < yr.now.heap.size + 1 + 1 := (by omega)) | (go_at_call 42; (with_reducible refine Calls.mono (Range_y 1 200 b mm _ (by omega) (by omega) (by omega) (by omega) ?_) ?_); (focus ((repeat (first | (with_reducible assumption) | (with_reducible refine RingM.alloc ?_ _) | (with_reducible refine RingM.drew ?_) | (with_reducible refine RingM.ext ?_ _) | (with_reducible refine RingM.set ?_ _ (by omega)))); done)); (rintro _ _ ⟨yx1, vx1, rfl, hvx1, rfl, rgx1⟩); have syx1 := RExt.size yx1; (repeat (first | rw [World.size_alloc] at syx1 | rw [World.size_setCell] at syx1 | rw [World.size_drew] at syx1)); have : b < yx1.now.heap.size := (by omega); have : b ≤ yx1.now.heap.size := (by omega); have : b < yx1.now.heap.size + 1 + 1 := (by omega)) | (at_builtin; go_loud (refine wpList_append_own _ rfl _ _ 22 rfl w.heap.size 90 i0 _ 2 16 Tryd.underlying22 hi0 hz0 hz1 hz2 rfl (by decide) _ l.length (vrows l) rfl ((owns_belowX hown hl yx1.grew).alloc (.cells #[.int .i64 vx1, .int .i64 M] 90)) _ 1 1 _ rfl rfl (cells2_new _ _ _ _) (by intro u hu; simp only [List.mem_cons, List.not_mem_nil, or_false] at hu; rcases hu with rfl | rfl <;> rfl) (by unfold maxLen; omega) (by omega) (by simp only [World.size_alloc]; omega) ?_; intro v' W2 hown' hgrow _; have hownA := (owns_belowX hown hl yx1.grew).alloc (.cells #[.int .i64 vx1, .int .i64 M] 90); have hrg2 := RingM.grown (rgx1.alloc (.cells #[.int .i64 vx1, .int .i64 M] 90)) hownA hl hgrow; have hB2 : BelowX b w.heap.size w W2 := belowX_grown ((x.grew.trans (yx1.grew.mono xs)).alloc (by omega) (.cells #[.int .i64 vx1, .int .i64 M] 90)) hownA (Nat.le_refl _) (by simp only [World.size_alloc]; omega) hgrow; have sW2 := hB2.size)))
      have htk := hvx1
      generalize vx1 = tk at *
      have hlW2 : b < W2.heap.size := by omega
      go_wp2_with (first | ((first | with_reducible refine wrx2 ?_ | with_reducible refine wrx ?_); (repeat (first | go_big_quiet_step ((first | fail)) | quiet_step ((first | fail)))); refine wpQuiet_nil ?_; rintro _ ⟨yr, rfl⟩; have syr := Ext.size yr; (repeat (first | rw [World.size_alloc] at syr | rw [World.size_setCell] at syr | rw [World.size_drew] at syr)); have : b < yr.now.heap.size := (by omega); have : b ≤ yr.now.heap.size := (by omega); have : b < yr.now.heap.size + 1 + 1 := (by omega)) | (go_at_call 42; (with_reducible refine Calls.mono (Range_y 1 3 b (mm + 1) _ (by omega) (by omega) (by omega) (by omega) ?_) ?_); (focus ((repeat (first | (with_reducible assumption) | (with_reducible refine RingM.alloc ?_ _) | (with_reducible refine RingM.drew ?_) | (with_reducible refine RingM.ext ?_ _) | (with_reducible refine RingM.set ?_ _ (by omega)))); done)); (rintro _ _ ⟨yx1, vx1, rfl, hvx1, rfl, rgx1⟩); have syx1 := RExt.size yx1; (repeat (first | rw [World.size_alloc] at syx1 | rw [World.size_setCell] at syx1 | rw [World.size_drew] at syx1)); have : b < yx1.now.heap.size := (by omega); have : b ≤ yx1.now.heap.size := (by omega); have : b < yx1.now.heap.size + 1 + 1 := (by omega)) | (go_at_call 42; (with_reducible refine Calls.mono (Range_y 0 3 b (mm + 1 + 1) _ (by omega) (by omega) (by omega) (by omega) ?_) ?_); (focus ((repeat (first | (with_reducible assumption) | (with_reducible refine RingM.alloc ?_ _) | (with_reducible refine RingM.drew ?_) | (with_reducible refine RingM.ext ?_ _) | (with_reducible refine RingM.set ?_ _ (by omega)))); done)); (rintro _ _ ⟨yx2, vx2, rfl, hvx2, rfl, rgx2⟩); have syx2 := RExt.size yx2; (repeat (first | rw [World.size_alloc] at syx2 | rw [World.size_setCell] at syx2 | rw [World.size_drew] at syx2)); have : b < yx2.now.heap.size := (by omega); have : b ≤ yx2.now.heap.size := (by omega); have : b < yx2.now.heap.size + 1 + 1 := (by omega)))
      have e1 := Int.mul_nonneg h2 (show 0 ≤ vx1 by omega)
      have e2 := Int.mul_le_mul hd6 hvx1.2 (by omega) (by omega)
      have e3 : wrap64 (wrap64 (d * vx1) + vx2) = d * vx1 + vx2 := by rw [IntWalk.wrap64_in (d * vx1) (by omega)]; exact IntWalk.wrap64_in _ (by omega)
      have e4 : wrap64 (j : Int) = j := IntWalk.wrap64_in _ (by omega)
      have ho : yx2.now.ownsRow w.heap.size 90 2 v' (l ++ [(⟨tk, M⟩ : V2)]).length (vrows (l ++ [(⟨tk, M⟩ : V2)])) := by
        rw [vrows_add, List.length_append, List.length_singleton]
        exact owns_belowX (owns_belowX hown' hl yx1.grew) hl yx2.grew
      have hr : RingM yx2.now b (m + 2 + 3 * (k0 - j)) := by rw [← hmm]; exact rgx2
      have key := hkey tk vx1 vx2 htk hvx1 hvx2
      have hB3 : BelowX b w.heap.size w yx2.now := hB2.trans ((yx1.grew.trans (yx2.grew.mono (by omega))).mono (by omega))
      (try rw [e3])
      (try rw [e4])
      clear hkey e1 e2 e3 e4
      generalize d * vx1 + vx2 = d2 at *
      generalize yx2.now = W5 at *
      refine ⟨⟨j, d2, v', l ++ [⟨tk, M⟩], ⟨W5, hB3⟩, rfl, rfl, rfl, rfl, ho, hr, key⟩, ?_⟩
      simp only [intOf]
      omega
end Go.Proofs.YtlmhbggigbmeaaaDoor

/- Both ways to say that a sweep is clear agree. No condition. -/
import Derived.Test.YtagfhekjmkdjkabSureE
namespace Go.Proofs.Ytagfhekjmkdjkab
open Go.RowKit Go.Shelf
theorem dot_pos {p q x y u v : Int} (h1 : 0 < p * x + q * y) (h2 : 0 < p * u + q * v) (hc : x * v - y * u = 0) : 0 < x * u + y * v := by
  have e : (p * x + q * y) * (x * u + y * v) = (p * u + q * v) * (x * x + y * y) + (p * y - q * x) * (x * v - y * u) := by grind
  rw [hc] at e
  have h3 : 0 < x * x + y * y := by
    rcases Int.lt_or_le 0 (x * x + y * y) with h | h
    · exact h
    · obtain ⟨rfl, rfl⟩ := sum_sq_zero h
      omega
  have h4 := Int.mul_pos h2 h3
  rcases Int.lt_or_le 0 (x * u + y * v) with h | h
  · exact h
  · have := Int.mul_nonpos_of_nonneg_of_nonpos (Int.le_of_lt h1) h
    omega
theorem chkA_order {a b c d : Int} (h : chkA a b c d = 0) : a ≤ b ∧ c ≤ d := by
  unfold chkA chkB at h
  by_cases h1 : chk a b = 0
  · simp only [h1, if_true] at h
    by_cases h2 : chk c d = 0
    · exact ⟨((chk_ok a b).1 h1).2.2, ((chk_ok c d).1 h2).2.2⟩
    · rw [if_neg h2] at h; exact absurd h h2
  · simp only [h1, if_false] at h
theorem clear_ref {a b c d e f g h r : Int} (hab : a ≤ b) (hcd : c ≤ d) (hef : e ≤ f) (hgh : g ≤ h) :
    (outR (p8 (p4 a a b b) (p4 e e f f)) (p8 (p4 c d c d) (p4 g h g h)) 8 && !allW (p8 (p4 a a b b) (p4 e e f f)) (p8 (p4 c d c d) (p4 g h g h)) r) = (!((segsI a b c d e f g h).any (segIn r)) && outI (corsI a b c d e f g h)) := by
  rw [Bool.eq_iff_iff]
  simp only [Bool.and_eq_true, Bool.not_eq_true']
  constructor
  · rintro ⟨h1, h2⟩
    have hw : ∀ i k, i < 8 → k ≤ i → withinB (p8 (p4 a a b b) (p4 e e f f) i) (p8 (p4 c d c d) (p4 g h g h) i) (p8 (p4 a a b b) (p4 e e f f) k) (p8 (p4 c d c d) (p4 g h g h) k) r = false := by
      intro i k hi hk
      rw [Bool.eq_false_iff]; intro h3
      have h4 : allW (p8 (p4 a a b b) (p4 e e f f)) (p8 (p4 c d c d) (p4 g h g h)) r = true := List.any_eq_true.2 ⟨i, List.mem_range.2 hi, List.any_eq_true.2 ⟨k, List.mem_range.2 (by omega), h3⟩⟩
      rw [h2] at h4; cases h4
    refine ⟨?_, ?_⟩
    · have w20 := hw 2 0 (by decide) (by decide); have w64 := hw 6 4 (by decide) (by decide); have w40 := hw 4 0 (by decide) (by decide)
      have w32 := hw 3 2 (by decide) (by decide); have w76 := hw 7 6 (by decide) (by decide); have w62 := hw 6 2 (by decide) (by decide)
      have w31 := hw 3 1 (by decide) (by decide); have w75 := hw 7 5 (by decide) (by decide); have w73 := hw 7 3 (by decide) (by decide)
      have w10 := hw 1 0 (by decide) (by decide); have w54 := hw 5 4 (by decide) (by decide); have w51 := hw 5 1 (by decide) (by decide)
      simp only [p8, p4, Nat.reduceLT, Nat.reduceSub, if_true, if_false] at w20 w64 w40 w32 w76 w62 w31 w75 w73 w10 w54 w51
      simp only [segsI, segIn, List.any_cons, List.any_nil, Bool.or_false, Bool.or_eq_false_iff]
      refine ⟨?_, ?_, ?_, ?_, ?_, ?_, ?_, ?_, ?_, ?_, ?_, ?_⟩ <;> first | assumption | (rw [within_swap]; assumption)
    · obtain ⟨i, hi, hrow⟩ := List.any_eq_true.1 h1
      have hrow := List.all_eq_true.1 hrow
      have hl : ∀ k, k < 8 → 0 ≤ p8 (p4 a a b b) (p4 e e f f) i * p8 (p4 c d c d) (p4 g h g h) k - p8 (p4 c d c d) (p4 g h g h) i * p8 (p4 a a b b) (p4 e e f f) k := by
        intro k hk
        have := hrow k (List.mem_range.2 hk)
        unfold leftB at this
        simp only [Bool.or_eq_true, Bool.and_eq_true, decide_eq_true_eq] at this
        omega
      have hi8 := List.mem_range.1 hi
      have l0 := hl 0 (by decide); have l1 := hl 1 (by decide); have l2 := hl 2 (by decide); have l3 := hl 3 (by decide)
      have l4 := hl 4 (by decide); have l5 := hl 5 (by decide); have l6 := hl 6 (by decide); have l7 := hl 7 (by decide)
      refine List.any_eq_true.2 ⟨(p8 (p4 a a b b) (p4 e e f f) i, p8 (p4 c d c d) (p4 g h g h) i), ?_, ?_⟩
      · rcases (show i = 0 ∨ i = 1 ∨ i = 2 ∨ i = 3 ∨ i = 4 ∨ i = 5 ∨ i = 6 ∨ i = 7 by omega) with rfl | rfl | rfl | rfl | rfl | rfl | rfl | rfl <;> simp [p8, p4, corsI]
      · generalize p8 (p4 a a b b) (p4 e e f f) i = x at *
        generalize p8 (p4 c d c d) (p4 g h g h) i = y at *
        simp only [p8, p4, Nat.reduceLT, Nat.reduceSub, if_true, if_false] at l0 l1 l2 l3 l4 l5 l6 l7
        simp only [corsI, List.all_cons, List.all_nil, Bool.and_true, Bool.and_eq_true, decide_eq_true_eq]
        exact ⟨l0, l2, l3, l1, l4, l6, l7, l5⟩
  · rintro ⟨h1, h2⟩
    obtain ⟨nx, ny, D, s⟩ := sep_of hab hcd hef hgh h1 h2
    have hD : ∀ k, k < 8 → D ≤ nx * p8 (p4 a a b b) (p4 e e f f) k + ny * p8 (p4 c d c d) (p4 g h g h) k := by
      intro k hk
      rcases (show k = 0 ∨ k = 1 ∨ k = 2 ∨ k = 3 ∨ k = 4 ∨ k = 5 ∨ k = 6 ∨ k = 7 by omega) with rfl | rfl | rfl | rfl | rfl | rfl | rfl | rfl <;> simp only [p8, p4, Nat.reduceLT, Nat.reduceSub, if_true, if_false]
      · exact s.a0
      · exact s.a3
      · exact s.a1
      · exact s.a2
      · exact s.b0
      · exact s.b3
      · exact s.b1
      · exact s.b2
    have D0 := s.D0
    refine ⟨?_, ?_⟩
    · obtain ⟨k, hk, hall⟩ := rightmost nx ny ((List.range 8).map fun j => (p8 (p4 a a b b) (p4 e e f f) j, p8 (p4 c d c d) (p4 g h g h) j)) (by simp) (by
        intro o ho
        obtain ⟨j, hj, rfl⟩ := List.mem_map.1 ho
        exact Int.lt_of_lt_of_le D0 (hD j (List.mem_range.1 hj)))
      obtain ⟨i, hi, rfl⟩ := List.mem_map.1 hk
      refine List.any_eq_true.2 ⟨i, hi, List.all_eq_true.2 fun j hj => ?_⟩
      have hc := hall _ (List.mem_map.2 ⟨j, hj, rfl⟩)
      have d1 := hD i (List.mem_range.1 hi); have d2 := hD j (List.mem_range.1 hj)
      unfold leftB
      simp only at hc
      simp only [Bool.or_eq_true, Bool.and_eq_true, decide_eq_true_eq]
      rcases Int.lt_or_eq_of_le hc with h3 | h3
      · exact .inl h3
      · exact .inr ⟨h3.symm, dot_pos (p := nx) (q := ny) (by omega) (by omega) h3.symm⟩
    · rw [Bool.eq_false_iff]; intro h3
      obtain ⟨i, hi, h4⟩ := List.any_eq_true.1 h3
      obtain ⟨j, hj, h5⟩ := List.any_eq_true.1 h4
      have hi := List.mem_range.1 hi; have hj := List.mem_range.1 hj
      rw [s.far (hD i hi) (hD j (by omega))] at h5; cases h5
theorem refClear_any (a b c d e f g h r : Int) (w : World) : Calls Try.prog 7 #[.agg #[.int .i64 a, .int .i64 b, .int .i64 c, .int .i64 d], .agg #[.int .i64 e, .int .i64 f, .int .i64 g, .int .i64 h], .int .i64 r] w (Gives (.bool (clearI a b c d e f g h r)) w) := by
  cases hk : canB a b c d e f g h r
  · have e1 : clearI a b c d e f g h r = false := by unfold clearI; rw [hk]; rfl
    rw [e1]; exact refClear_no a b c d e f g h r w hk
  have SU := Go.Lib.hid (fun W => sure_any a b c d e f g h r W)
  rw [hk] at SU
  have hk2 := hk
  unfold canB at hk2
  simp only [Bool.and_eq_true, beq_iff_eq] at hk2
  obtain ⟨⟨hA, hB⟩, hr⟩ := hk2
  obtain ⟨fa, fb, fc, fd⟩ := chkA_far hA
  obtain ⟨fe, ff, fg, fh⟩ := chkA_far hB
  obtain ⟨o1, o2⟩ := chkA_order hA
  obtain ⟨o3, o4⟩ := chkA_order hB
  have hr' : 0 ≤ r ∧ r ≤ 268435456 := by unfold radB at hr; simpa using hr
  refine refClear_yes a b c d e f g h r _ w hr' (fun j => ⟨?_, ?_⟩) ?_ SU
  · unfold p8 p4; split <;> split <;> assumption
  · unfold p8 p4; split <;> split <;> assumption
  · unfold clearI; rw [hk, clear_ref o1 o2 o3 o4, Bool.true_and]
end Go.Proofs.Ytagfhekjmkdjkab

/- The pull of one body in the origin on a place on an axis, exact: numbers only. Condition: the sizes that ForceGrows draws. -/
import Derived.Test.YtlhihmfefipehaaFoH
namespace Go.Proofs.Ytlhihmfefipehaa
open Go.RowKit Go.Shelf
theorem rootI_sq {e : Int} (h0 : 0 ≤ e) (h1 : e ≤ 100000) : rootI (e * e) = e := by
  have hm : e * e ≤ 100000 * 100000 := Int.mul_le_mul h1 h1 h0 (by omega)
  obtain ⟨r1, r2, r3⟩ := rootI_spec (n := e * e) (Int.mul_nonneg h0 h0) (by omega)
  exact root_unique r1 r2 r3 h0 (Int.le_refl _) (by rw [Int.add_mul, Int.mul_add]; omega)
theorem rootU_sq {e : Int} (h0 : 0 ≤ e) (h1 : e ≤ 100000) : rootU (e * e) = e := by
  unfold rootU
  rw [rootI_sq h0 h1, if_neg (by omega)]
/-- The lower and the upper pull at the distance r on an axis, e the greater of r and the radius. -/
def axL (mu r e : Int) : Int := limI (mu * r / (e * e) / e)
def axH (mu r e : Int) : Int := limI (cei (cei (mu * r) (e * e)) e)
theorem limI_mono {a b : Int} (h : a ≤ b) : limI a ≤ limI b := by unfold limI; omega
theorem limI_nonneg {a : Int} (h : 0 ≤ a) : 0 ≤ limI a := by unfold limI; omega
theorem max_sq {a b : Int} (ha : 1 ≤ a) (hb : 0 ≤ b) : max (a * a) (max 1 (b * b)) = max a b * max a b := by
  have h1 : 1 ≤ a * a := by have := Int.mul_le_mul ha ha (by omega) (by omega); omega
  rcases Int.le_total a b with h | h
  · have := Int.mul_le_mul h h (by omega) hb
    rw [Int.max_eq_right h]; omega
  · have := Int.mul_le_mul h h hb (by omega)
    rw [Int.max_eq_left h]; omega
theorem pull_axis {mu rad r : Int} (m0 : 0 ≤ mu) (m1 : mu ≤ 1000000) (b0 : 0 ≤ rad) (b1 : rad ≤ 1000) (r0 : 1 ≤ r) (r1 : r ≤ 1000) :
    pullA mu rad 0 0 (-r) (-r) 0 0 = ⟨axL mu r (max r rad), axH mu r (max r rad), 0, 0⟩ := by
  have hmr0 : 0 ≤ mu * r := Int.mul_nonneg m0 (by omega)
  have hmr1 : mu * r ≤ 1000000 * 1000 := Int.mul_le_mul m1 r1 (by omega) (by omega)
  have hq : dqL rad r r 0 0 = max r rad * max r rad := by
    unfold dqL edgeI absL
    rw [if_pos (by omega), if_pos (by omega)]
    rw [show r * r + (0 : Int) * 0 = r * r by omega]
    exact max_sq r0 b0
  have hq2 : dqH rad r r 0 0 = max r rad * max r rad := by
    unfold dqH edgeI absH
    rw [if_pos (by omega), if_pos (by omega)]
    rw [show r * r + (0 : Int) * 0 = r * r by omega]
    exact max_sq r0 b0
  have he0 : 1 ≤ max r rad := by omega
  have he1 : max r rad ≤ 1000 := by omega
  have hs : pullA mu rad 0 0 (-r) (-r) 0 0 = pullW mu rad r r 0 0 := by
    unfold pullA
    rw [show (0 : Int) - -r = r by omega, show (0 : Int) - 0 = 0 by omega]
  rw [hs]
  unfold pullW
  rw [hq, hq2, rootI_sq (by omega) (by omega), rootU_sq (by omega) (by omega)]
  generalize max r rad = e at *
  have hee : 1 ≤ e * e := by have := Int.mul_le_mul he0 he0 (by omega) (by omega); omega
  have n0 : 0 ≤ mu * r / (e * e) := Int.ediv_nonneg hmr0 (by omega)
  have n1 : mu * r / (e * e) ≤ mu * r := Int.ediv_le_self _ hmr0
  have c2 := cei_two (mu * r) (e * e) (by omega)
  have k1 : clN (mu * r / (e * e)) = mu * r / (e * e) := by unfold clN; omega
  have k2 : clN (cei (mu * r) (e * e)) = cei (mu * r) (e * e) := by unfold clN; omega
  have z1 : clN (mu * 0 / (e * e)) = 0 := by rw [Int.mul_zero, Int.zero_ediv]; rfl
  have z2 : clN (cei (mu * 0) (e * e)) = 0 := by unfold cei; rw [Int.mul_zero, Int.neg_zero, Int.zero_ediv]; rfl
  have zc : cei 0 e = 0 := by unfold cei; rw [Int.neg_zero, Int.zero_ediv]; rfl
  unfold strL strH nuL nuH
  rw [k1, k2, z1, z2]
  simp only [Int.min_self, Int.max_self, Int.zero_ediv, zc]
  rfl
theorem axL_nonneg {mu r e : Int} (m0 : 0 ≤ mu) (r0 : 0 ≤ r) (e0 : 1 ≤ e) : 0 ≤ axL mu r e :=
  limI_nonneg (Int.ediv_nonneg (Int.ediv_nonneg (Int.mul_nonneg m0 r0) (Int.mul_nonneg (by omega) (by omega))) (by omega))
/-- Heavier: stronger. -/
theorem axL_mu {mu mu' r e : Int} (h : mu ≤ mu') (r0 : 0 ≤ r) (e0 : 1 ≤ e) : axL mu r e ≤ axL mu' r e := by
  have he : 0 < e * e := Int.mul_pos (by omega) (by omega)
  exact limI_mono (floor_mono (by omega) (floor_mono he (Int.mul_le_mul_of_nonneg_right h r0)))
theorem axH_mu {mu mu' r e : Int} (h : mu ≤ mu') (r0 : 0 ≤ r) (e0 : 1 ≤ e) : axH mu r e ≤ axH mu' r e := by
  have he : 0 < e * e := Int.mul_pos (by omega) (by omega)
  exact limI_mono (cei_mono' (by omega) (cei_mono' he (Int.mul_le_mul_of_nonneg_right h r0)))
/-- Within the body, farther: stronger. -/
theorem axL_in {mu r r' e : Int} (m0 : 0 ≤ mu) (h : r ≤ r') (e0 : 1 ≤ e) : axL mu r e ≤ axL mu r' e := by
  have he : 0 < e * e := Int.mul_pos (by omega) (by omega)
  exact limI_mono (floor_mono (by omega) (floor_mono he (Int.mul_le_mul_of_nonneg_left h m0)))
theorem axH_in {mu r r' e : Int} (m0 : 0 ≤ mu) (h : r ≤ r') (e0 : 1 ≤ e) : axH mu r e ≤ axH mu r' e := by
  have he : 0 < e * e := Int.mul_pos (by omega) (by omega)
  exact limI_mono (cei_mono' (by omega) (cei_mono' he (Int.mul_le_mul_of_nonneg_left h m0)))
/-- A quotient of a greater divisor is no greater. -/
theorem ediv_anti {n a b : Int} (h0 : 0 ≤ n) (ha : 1 ≤ a) (hb : a ≤ b) : n / b ≤ n / a := by
  refine Int.le_ediv_of_mul_le (by omega) ?_
  have h1 := Int.ediv_mul_le n (show b ≠ 0 by omega)
  have h2 := Int.mul_le_mul_of_nonneg_left hb (Int.ediv_nonneg h0 (show 0 ≤ b by omega))
  omega
theorem cei_anti {n a b : Int} (h0 : 0 ≤ n) (ha : 1 ≤ a) (hb : a ≤ b) : cei n b ≤ cei n a := by
  have h1 := cei_two n a (by omega)
  unfold cei
  have k : -n / a ≤ -n / b := by
    refine Int.le_ediv_of_mul_le (by omega) ?_
    have h3 := Int.ediv_mul_le (-n) (show a ≠ 0 by omega)
    have h4 : -n / a ≤ 0 := by
      have h5 : -n / a ≤ 0 / a := floor_mono (by omega) (by omega)
      rw [Int.zero_ediv] at h5
      exact h5
    have h5 : (-n / a) * b ≤ (-n / a) * a := Int.mul_le_mul_of_nonpos_left h4 hb
    omega
  omega
/-- Outside, farther: weaker. -/
theorem ax_out {mu r r' : Int} (m0 : 0 ≤ mu) (r0 : 1 ≤ r) (h : r ≤ r') : axL mu r' r' ≤ axL mu r r ∧ axH mu r' r' ≤ axH mu r r := by
  have e1 : mu * r / (r * r) = mu / r := by rw [Int.mul_ediv_mul_of_pos_left _ _ (by omega)]
  have e2 : mu * r' / (r' * r') = mu / r' := by rw [Int.mul_ediv_mul_of_pos_left _ _ (by omega)]
  have e3 : cei (mu * r) (r * r) = cei mu r := by unfold cei; rw [← Int.neg_mul, Int.mul_ediv_mul_of_pos_left _ _ (by omega)]
  have e4 : cei (mu * r') (r' * r') = cei mu r' := by unfold cei; rw [← Int.neg_mul, Int.mul_ediv_mul_of_pos_left _ _ (by omega)]
  have d1 := ediv_anti m0 r0 h
  have d2 := cei_anti m0 r0 h
  have p1 : 0 ≤ mu / r' := Int.ediv_nonneg m0 (by omega)
  have p2 : 0 ≤ cei mu r' := by have := (cei_two mu r' (by omega)).1; omega
  unfold axL axH
  rw [e1, e2, e3, e4]
  exact ⟨limI_mono (Int.le_trans (ediv_anti p1 r0 h) (floor_mono (by omega) d1)), limI_mono (Int.le_trans (cei_anti p2 r0 h) (cei_mono' (by omega) d2))⟩
end Go.Proofs.Ytlhihmfefipehaa

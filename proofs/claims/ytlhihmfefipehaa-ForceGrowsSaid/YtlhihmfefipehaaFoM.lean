/- The pull of a body as plain mathematics: what spans, roots and quotients are where a question is valid. No condition. -/
import Derived.Test.YtlhihmfefipehaaFoA
import Derived.Test.YtlhihmfefipehaaSums
import Derived.Test.YtlhihmfefipehaaQuot
import Derived.Test.YtlhihmfefipehaaRoots
namespace Go.Proofs.Ytlhihmfefipehaa
open Go.RowKit Go.Shelf
/-- A number, cut off at MaxNum. -/
def clN (n : Int) : Int := max (-1152921504606846976) (min n 1152921504606846976)
theorem ov_floor {n c : Int} (hc : 0 < c) : (0 ≤ n → ovB n c = okP n c ∧ ovD n c = downP n c ∧ ovU n c = upP n c) ∧ (n < 0 → ovB n c = okP (-n) c ∧ ovD n c = -upP (-n) c ∧ ovU n c = -downP (-n) c) := by
  have e1 : ovN n c = n := by unfold ovN; rw [if_neg (by omega)]
  have e2 : ovC c = c := by unfold ovC; rw [if_neg (by omega)]
  constructor
  · intro h
    unfold ovB ovD ovU
    rw [e1, e2, if_pos h, if_pos h, if_pos h]
    exact ⟨rfl, rfl, rfl⟩
  · intro h
    unfold ovB ovD ovU
    rw [e1, e2, if_neg (by omega), if_neg (by omega), if_neg (by omega)]
    exact ⟨rfl, rfl, rfl⟩
theorem cei_neg (n c : Int) : cei (-n) c = -(n / c) := by unfold cei; rw [Int.neg_neg]
theorem cei_two (n c : Int) (hc : 0 < c) : n / c ≤ cei n c ∧ cei n c ≤ n / c + 1 := by
  have := cei_eq (n := n) hc
  split at this <;> omega
theorem md_clean (mu x q : Int) (m0 : 0 ≤ mu) (m1 : mu ≤ 1125899906842624) (x0 : -1152921504606846976 ≤ x) (x1 : x ≤ 1152921504606846976) (q0 : 0 < q) (q1 : q ≤ 1152921504606846976) :
    qtL mu x q = clN (mu * x / q) ∧ qtH mu x q = clN (cei (mu * x) q) := by
  have n1 : numB mu = true := numB_true.2 (by omega)
  have n2 : numB x = true := numB_true.2 (by omega)
  have n3 : numB q = true := numB_true.2 (by omega)
  have eE : mdE mu x q = if ovB (mu * x) q = true then 0 else 14 := by unfold mdE; rw [if_pos ⟨n1, n2, n3, by omega⟩]
  obtain ⟨hp, hn⟩ := ov_floor (n := mu * x) q0
  have c2 := cei_two (mu * x) q q0
  by_cases hs : 0 ≤ mu * x
  · obtain ⟨b1, b2, b3⟩ := hp hs
    have f0 : 0 ≤ mu * x / q := Int.ediv_nonneg hs (by omega)
    cases ok : okP (mu * x) q
    · have hE : mdE mu x q = 14 := by rw [eE, b1, ok]; rfl
      have hx : ¬ x < 0 := by
        intro hx
        have h0 : mu * x ≤ 0 := Int.mul_nonpos_of_nonneg_of_nonpos m0 (by omega)
        have h1 : mu * x = 0 := by omega
        rw [h1] at ok
        simp [okP, cei] at ok
      unfold okP at ok
      simp only [decide_eq_false_iff_not] at ok
      unfold qtL qtH clN
      rw [hE]
      simp only [hx, show ((14 : Int) = 0) = False by decide, if_false]
      generalize mu * x / q = f at *
      generalize cei (mu * x) q = g at *
      omega
    · have hE : mdE mu x q = 0 := by rw [eE, b1, ok]; rfl
      have k := ok
      unfold okP at k
      simp only [decide_eq_true_eq] at k
      unfold qtL qtH mdL mdH clN
      rw [hE, b2, b3]
      unfold downP upP
      simp only [ok, if_true]
      generalize mu * x / q = f at *
      generalize cei (mu * x) q = g at *
      omega
  · obtain ⟨b1, b2, b3⟩ := hn (by omega)
    have hx : x < 0 := by
      rcases Int.lt_or_le x 0 with h | h
      · exact h
      · exact absurd (Int.mul_nonneg m0 h) hs
    have e1 : cei (-(mu * x)) q = -(mu * x / q) := cei_neg _ _
    have e2 : -(mu * x) / q = -(cei (mu * x) q) := by unfold cei; omega
    have f0 : 0 ≤ -(mu * x) / q := Int.ediv_nonneg (by omega) (by omega)
    cases ok : okP (-(mu * x)) q
    · have hE : mdE mu x q = 14 := by rw [eE, b1, ok]; rfl
      unfold okP at ok
      simp only [decide_eq_false_iff_not] at ok
      rw [e1] at ok
      unfold qtL qtH clN
      rw [hE]
      simp only [hx, show ((14 : Int) = 0) = False by decide, if_false, if_true]
      generalize mu * x / q = f at *
      generalize cei (mu * x) q = g at *
      omega
    · have hE : mdE mu x q = 0 := by rw [eE, b1, ok]; rfl
      have k := ok
      unfold okP at k
      simp only [decide_eq_true_eq] at k
      rw [e1] at k
      unfold qtL qtH mdL mdH clN
      rw [hE, b2, b3]
      unfold downP upP
      simp only [ok, if_true]
      rw [e1, e2]
      generalize mu * x / q = f at *
      generalize cei (mu * x) q = g at *
      omega
theorem ov_num {n c : Int} (hc : 0 < c) (h1 : -1152921504606846976 ≤ n) (h2 : n ≤ 1152921504606846976) : ovD n c = n / c ∧ ovU n c = cei n c ∧ -1152921504606846976 ≤ n / c ∧ cei n c ≤ 1152921504606846976 := by
  obtain ⟨hp, hn⟩ := ov_floor (n := n) hc
  have c2 := cei_two n c hc
  have d1 := Int.emod_add_mul_ediv n c
  have d2 := Int.emod_nonneg n (b := c) (by omega)
  have d3 := Int.emod_lt_of_pos n hc
  by_cases hs : 0 ≤ n
  · obtain ⟨b1, b2, b3⟩ := hp hs
    have f0 : 0 ≤ n / c := Int.ediv_nonneg hs (by omega)
    have f1 : n / c ≤ c * (n / c) := by
      have := Int.mul_le_mul_of_nonneg_right (show 1 ≤ c by omega) f0
      omega
    have ce := cei_eq (n := n) hc
    have k : cei n c ≤ 1152921504606846976 := by split at ce <;> omega
    have ok : okP n c = true := by unfold okP; simp only [decide_eq_true_eq]; exact k
    rw [b2, b3]
    unfold downP upP
    simp only [ok, if_true]
    exact ⟨trivial, trivial, by omega, k⟩
  · obtain ⟨b1, b2, b3⟩ := hn (by omega)
    have e1 : cei (-n) c = -(n / c) := cei_neg _ _
    have e2 : -n / c = -(cei n c) := by unfold cei; omega
    have f0 : 0 ≤ -n / c := Int.ediv_nonneg (by omega) (by omega)
    have f2 : -1152921504606846976 ≤ n / c := by
      rw [Int.le_ediv_iff_mul_le hc]
      have := Int.mul_le_mul_of_nonneg_left (show 1 ≤ c by omega) (show (0 : Int) ≤ 1152921504606846976 by decide)
      omega
    have ok : okP (-n) c = true := by unfold okP; simp only [decide_eq_true_eq]; omega
    rw [b2, b3]
    unfold downP upP
    simp only [ok, if_true]
    refine ⟨by omega, by omega, f2, by omega⟩
theorem floor_mono {a b c : Int} (hc : 0 < c) (h : a ≤ b) : a / c ≤ b / c := Int.ediv_le_ediv hc h
theorem cei_mono' {a b c : Int} (hc : 0 < c) (h : a ≤ b) : cei a c ≤ cei b c := by
  unfold cei
  have := floor_mono hc (show -b ≤ -a by omega)
  omega
theorem chkB_num {a b c d : Int} (h1 : -1152921504606846976 ≤ a) (h2 : b ≤ 1152921504606846976) (h3 : a ≤ b) (h4 : -1152921504606846976 ≤ c) (h5 : d ≤ 1152921504606846976) (h6 : c ≤ d) : chkB a b c d = 0 := by
  unfold chkB
  rw [if_pos ((chk_ok a b).2 ⟨h1, h2, h3⟩)]
  exact (chk_ok c d).2 ⟨h4, h5, h6⟩
theorem cmb_of {d u : Int → Int → Int} {a b c e : Int} (h : chkB a b c e = 0) (h1 : numB (dmin d a b c e 4) = true) (h2 : numB (dmax u a b c e 4) = true) : cmbE d u a b c e = 0 ∧ cmbL d u a b c e = dmin d a b c e 4 ∧ cmbH d u a b c e = dmax u a b c e 4 := by
  have e0 : cmbE d u a b c e = 0 := by unfold cmbE; rw [if_pos h, h1, h2]; rfl
  unfold cmbL cmbH
  rw [e0]
  exact ⟨rfl, if_pos rfl, if_pos rfl⟩
theorem dmin4 (d : Int → Int → Int) (al ah bl bh : Int) : dmin d al ah bl bh 4 = min (min (d al bl) (d ah bl)) (min (d ah bh) (d al bh)) := by
  simp only [dmin]
  simp [corX, corY]
  omega
theorem dmax4 (d : Int → Int → Int) (al ah bl bh : Int) : dmax d al ah bl bh 4 = max (max (d al bl) (d ah bl)) (max (d ah bh) (d al bh)) := by
  simp only [dmax]
  simp [corX, corY]
  omega
theorem quo_clean {a b c d : Int} (h1 : -1152921504606846976 ≤ a) (h2 : b ≤ 1152921504606846976) (h3 : a ≤ b) (h4 : 1 ≤ c) (h5 : d ≤ 1152921504606846976) (h6 : c ≤ d) :
    quoL a b c d = min (a / c) (a / d) ∧ quoH a b c d = max (cei b c) (cei b d) := by
  have hk : chkB a b c d = 0 := chkB_num h1 h2 h3 (by omega) h5 h6
  have hi : inB c d 0 = false := by unfold inB; simp; omega
  obtain ⟨a1, a2, a3, a4⟩ := ov_num (n := a) (c := c) (by omega) h1 (by omega)
  obtain ⟨b1, b2, b3, b4⟩ := ov_num (n := a) (c := d) (by omega) h1 (by omega)
  obtain ⟨c1, c2, c3, c4⟩ := ov_num (n := b) (c := c) (by omega) (by omega) h2
  obtain ⟨d1, d2, d3, d4⟩ := ov_num (n := b) (c := d) (by omega) (by omega) h2
  have f1 := floor_mono (show 0 < c by omega) h3
  have f2 := floor_mono (show 0 < d by omega) h3
  have g1 := cei_mono' (show 0 < c by omega) h3
  have g2 := cei_mono' (show 0 < d by omega) h3
  have k1 := cei_two a c (by omega)
  have k2 := cei_two a d (by omega)
  have k3 := cei_two b c (by omega)
  have k4 := cei_two b d (by omega)
  have m1 : dmin ovD a b c d 4 = min (a / c) (a / d) := by rw [dmin4, a1, b1, c1, d1]; omega
  have m2 : dmax ovU a b c d 4 = max (cei b c) (cei b d) := by rw [dmax4, a2, b2, c2, d2]; omega
  obtain ⟨e0, e1, e2⟩ := cmb_of hk (numB_true.2 (by rw [m1]; omega)) (numB_true.2 (by rw [m2]; omega))
  have q0 : quoE a b c d = 0 := by unfold quoE; rw [if_pos hk, hi]; exact e0
  unfold quoL quoH
  rw [q0, if_pos rfl, if_pos rfl, e1, e2, m1, m2]
  exact ⟨rfl, rfl⟩
theorem sub_clean {a b c d : Int} (h1 : -576460752303423488 ≤ a) (h2 : b ≤ 576460752303423488) (h3 : a ≤ b) (h4 : -576460752303423488 ≤ c) (h5 : d ≤ 576460752303423488) (h6 : c ≤ d) : subL a b c d = a - d ∧ subH a b c d = b - c := by
  have hk : chkB a b c d = 0 := chkB_num (by omega) (by omega) h3 (by omega) (by omega) h6
  have m1 : dmin (· - ·) a b c d 4 = a - d := by rw [dmin4]; omega
  have m2 : dmax (· - ·) a b c d 4 = b - c := by rw [dmax4]; omega
  obtain ⟨e0, e1, e2⟩ := cmb_of hk (numB_true.2 (by rw [m1]; omega)) (numB_true.2 (by rw [m2]; omega))
  unfold subL subH
  exact ⟨e1.trans m1, e2.trans m2⟩
theorem add_clean {a b c d : Int} (h1 : -576460752303423488 ≤ a) (h2 : b ≤ 576460752303423488) (h3 : a ≤ b) (h4 : -576460752303423488 ≤ c) (h5 : d ≤ 576460752303423488) (h6 : c ≤ d) : addL a b c d = a + c ∧ addH a b c d = b + d := by
  have hk : chkB a b c d = 0 := chkB_num (by omega) (by omega) h3 (by omega) (by omega) h6
  have m1 : dmin (· + ·) a b c d 4 = a + c := by rw [dmin4]; omega
  have m2 : dmax (· + ·) a b c d 4 = b + d := by rw [dmax4]; omega
  obtain ⟨e0, e1, e2⟩ := cmb_of hk (numB_true.2 (by rw [m1]; omega)) (numB_true.2 (by rw [m2]; omega))
  unfold addL addH
  exact ⟨e1.trans m1, e2.trans m2⟩
theorem abs_bounds {a b B : Int} (h1 : -B ≤ a) (h2 : b ≤ B) (h3 : a ≤ b) : 0 ≤ absL a b ∧ absL a b ≤ absH a b ∧ absH a b ≤ B := by
  unfold absL absH
  repeat' split
  all_goals omega
theorem mul_le4 {a b c d : Int} (h0 : 0 ≤ a) (h1 : a ≤ c) (h2 : 0 ≤ b) (h3 : b ≤ d) : a * b ≤ c * d := Int.mul_le_mul h1 h3 h2 (by omega)
theorem sq_clean {a b : Int} (h1 : -536870912 ≤ a) (h2 : b ≤ 536870912) (h3 : a ≤ b) : sqL a b = absL a b * absL a b ∧ sqH a b = absH a b * absH a b ∧ 0 ≤ absL a b * absL a b ∧ absL a b * absL a b ≤ absH a b * absH a b ∧ absH a b * absH a b ≤ 288230376151711744 := by
  obtain ⟨a0, a1, a2⟩ := abs_bounds h1 h2 h3
  have hk : chk a b = 0 := (chk_ok a b).2 ⟨by omega, by omega, h3⟩
  have p0 : 0 ≤ absL a b * absL a b := Int.mul_nonneg a0 a0
  have p1 : absL a b * absL a b ≤ absL a b * absH a b := mul_le4 a0 (Int.le_refl _) a0 a1
  have p2 : absL a b * absH a b ≤ absH a b * absH a b := mul_le4 a0 a1 (by omega) (Int.le_refl _)
  have p3 : absH a b * absL a b = absL a b * absH a b := Int.mul_comm _ _
  have p4 : absH a b * absH a b ≤ 536870912 * 536870912 := mul_le4 (by omega) a2 (by omega) a2
  have hk2 : chkB (absL a b) (absH a b) (absL a b) (absH a b) = 0 := chkB_num (by omega) (by omega) a1 (by omega) (by omega) a1
  have m1 : dmin (· * ·) (absL a b) (absH a b) (absL a b) (absH a b) 4 = absL a b * absL a b := by rw [dmin4]; omega
  have m2 : dmax (· * ·) (absL a b) (absH a b) (absL a b) (absH a b) 4 = absH a b * absH a b := by rw [dmax4]; omega
  obtain ⟨e0, e1, e2⟩ := cmb_of hk2 (numB_true.2 (by rw [m1]; omega)) (numB_true.2 (by rw [m2]; omega))
  unfold sqL sqH
  rw [if_pos hk, if_pos hk]
  unfold mulL mulH
  exact ⟨e1.trans m1, e2.trans m2, p0, by omega, by omega⟩
theorem roots_clean {a b : Int} (h0 : 1 ≤ a) (h1 : a ≤ b) (h2 : b ≤ 1152921504606846976) : rootsL a b = rootI a ∧ rootsH a b = rootU b ∧ 1 ≤ rootI a ∧ rootI a ≤ rootU b ∧ rootU b ≤ 1073741825 := by
  have e : rootsE a b = 0 := by unfold rootsE; rw [if_pos ((chk_ok a b).2 ⟨by omega, h2, h1⟩), if_neg (by omega)]
  obtain ⟨a1, a2, a3⟩ := rootI_spec (n := a) (by omega) (by omega)
  obtain ⟨b1, b2, b3⟩ := rootI_spec (n := b) (by omega) (by omega)
  obtain ⟨-, s⟩ := rootI_small (n := b) (by omega) h2
  have r1 : 1 ≤ rootI a := by
    rcases Int.lt_or_le (rootI a) 1 with h | h
    · have : rootI a = 0 := by omega
      rw [this] at a3; simp at a3; omega
    · exact h
  have r2 : rootI a ≤ rootI b := by
    rcases Int.lt_or_le (rootI b) (rootI a) with h | h
    · have := mul_le4 (show 0 ≤ rootI b + 1 by omega) (show rootI b + 1 ≤ rootI a by omega) (show 0 ≤ rootI b + 1 by omega) (show rootI b + 1 ≤ rootI a by omega)
      omega
    · exact h
  unfold rootsL rootsH
  rw [e, if_pos rfl, if_pos rfl]
  refine ⟨rfl, rfl, r1, ?_, ?_⟩
  · unfold rootU; split <;> omega
  · unfold rootU; split <;> omega
/-- Mu times an end of x, divided by an end of q: from the least of the numbers rounded down to the greatest of those rounded up. -/
def nuL (mu xl xh ql qh : Int) : Int := min (min (min (clN (mu * xl / ql)) (clN (mu * xh / ql))) (clN (mu * xl / qh))) (clN (mu * xh / qh))
def nuH (mu xl xh ql qh : Int) : Int := max (max (max (clN (cei (mu * xl) ql)) (clN (cei (mu * xh) ql))) (clN (cei (mu * xl) qh))) (clN (cei (mu * xh) qh))
/-- The enclosure of a pull in one direction. -/
def strL (mu xl xh ql qh rl rh : Int) : Int := limI (min (nuL mu xl xh ql qh / rl) (nuL mu xl xh ql qh / rh))
def strH (mu xl xh ql qh rl rh : Int) : Int := limI (max (cei (nuH mu xl xh ql qh) rl) (cei (nuH mu xl xh ql qh) rh))
def edgeI (rad : Int) : Int := max 1 (rad * rad)
structure StrOk (mu xl xh ql qh rl rh : Int) : Prop where
  m0 : 0 ≤ mu
  m1 : mu ≤ 1125899906842624
  x0 : -536870912 ≤ xl
  x1 : xl ≤ xh
  x2 : xh ≤ 536870912
  q0 : 1 ≤ ql
  q1 : ql ≤ qh
  q2 : qh ≤ 1152921504606846976
  r0 : 1 ≤ rl
  r1 : rl ≤ rh
  r2 : rh ≤ 1152921504606846976
theorem clN_two (mu x q : Int) (hq : 0 < q) : -1152921504606846976 ≤ clN (mu * x / q) ∧ clN (mu * x / q) ≤ clN (cei (mu * x) q) ∧ clN (cei (mu * x) q) ≤ 1152921504606846976 := by
  have := cei_two (mu * x) q hq
  unfold clN
  omega
theorem hull_clean {a b c d : Int} (h1 : -1152921504606846976 ≤ a) (h2 : b ≤ 1152921504606846976) (h3 : a ≤ b) (h4 : -1152921504606846976 ≤ c) (h5 : d ≤ 1152921504606846976) (h6 : c ≤ d) : hullL a b c d = min a c ∧ hullH a b c d = max b d := by
  unfold hullL hullH
  rw [if_pos (chkB_num h1 h2 h3 h4 h5 h6), if_pos (chkB_num h1 h2 h3 h4 h5 h6)]
  exact ⟨rfl, rfl⟩
theorem nu_bounds {mu xl xh ql qh rl rh : Int} (h : StrOk mu xl xh ql qh rl rh) : -1152921504606846976 ≤ nuL mu xl xh ql qh ∧ nuL mu xl xh ql qh ≤ nuH mu xl xh ql qh ∧ nuH mu xl xh ql qh ≤ 1152921504606846976 := by
  have q0 := h.q0
  have q1 := h.q1
  have a1 := clN_two mu xl ql (by omega)
  have a2 := clN_two mu xh ql (by omega)
  have a3 := clN_two mu xl qh (by omega)
  have a4 := clN_two mu xh qh (by omega)
  unfold nuL nuH
  omega
end Go.Proofs.Ytlhihmfefipehaa

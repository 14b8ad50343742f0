/- The mathematics of enclosures: what the sums, products, quotients, squares and roots of small spans enclose. Condition: numbers up to 10,000. -/
import Derived.Test.YtbcbodecicnnjaaSums
import Derived.Test.YtbcbodecicnnjaaQuot
import Derived.Test.YtbcbodecicnnjaaMulDiv
import Derived.Test.YtbcbodecicnnjaaRoots
import Derived.Test.YtbcbodecicnnjaaSpans
namespace Go.Proofs.Ytbcbodecicnnjaa
theorem dmin4 (d : Int → Int → Int) (al ah bl bh : Int) : dmin d al ah bl bh 4 = min (d al bl) (min (d al bh) (min (d ah bl) (d ah bh))) := by
  simp only [dmin, show corX al ah 0 = al from rfl, show corX al ah 1 = ah from rfl, show corX al ah 2 = ah from rfl, show corX al ah 3 = al from rfl, show corY bl bh 0 = bl from rfl, show corY bl bh 1 = bl from rfl, show corY bl bh 2 = bh from rfl, show corY bl bh 3 = bh from rfl]
  generalize d al bl = a; generalize d ah bl = b; generalize d ah bh = c; generalize d al bh = e
  repeat' split
  all_goals omega
theorem dmax4 (d : Int → Int → Int) (al ah bl bh : Int) : dmax d al ah bl bh 4 = max (d al bl) (max (d al bh) (max (d ah bl) (d ah bh))) := by
  simp only [dmax, show corX al ah 0 = al from rfl, show corX al ah 1 = ah from rfl, show corX al ah 2 = ah from rfl, show corX al ah 3 = al from rfl, show corY bl bh 0 = bl from rfl, show corY bl bh 1 = bl from rfl, show corY bl bh 2 = bh from rfl, show corY bl bh 3 = bh from rfl]
  generalize d al bl = a; generalize d ah bl = b; generalize d ah bh = c; generalize d al bh = e
  repeat' split
  all_goals omega
/-- A small valid span. -/
structure Sm (a b : Int) : Prop where
  lo : -10000 ≤ a
  le : a ≤ b
  hi : b ≤ 10000
theorem Sm.chk {a b : Int} (h : Sm a b) : chk a b = 0 := (chk_ok a b).2 ⟨by have := h.lo; omega, by have := h.hi; omega, h.le⟩
theorem Sm.chkB {a b c d : Int} (h : Sm a b) (k : Sm c d) : chkB a b c d = 0 := by
  unfold Go.Proofs.Ytbcbodecicnnjaa.chkB; rw [if_pos h.chk]; exact k.chk
theorem numB_of {n : Int} (h1 : -1000000000 ≤ n) (h2 : n ≤ 1000000000) : numB n = true := numB_true.2 (by omega)
theorem cmbE_of {d u : Int → Int → Int} {a b c e : Int} (h : chkB a b c e = 0) (h1 : ∀ x y, (x = a ∨ x = b) → (y = c ∨ y = e) → -1000000000 ≤ d x y ∧ u x y ≤ 1000000000 ∧ -1000000000 ≤ u x y ∧ d x y ≤ 1000000000) : cmbE d u a b c e = 0 := by
  have k1 := h1 a c (.inl rfl) (.inl rfl); have k2 := h1 a e (.inl rfl) (.inr rfl); have k3 := h1 b c (.inr rfl) (.inl rfl); have k4 := h1 b e (.inr rfl) (.inr rfl)
  unfold cmbE
  rw [if_pos h, dmin4, dmax4, numB_of (by omega) (by omega), numB_of (by omega) (by omega)]
  rfl
theorem add_val {a b c d : Int} (h : Sm a b) (k : Sm c d) : addE a b c d = 0 ∧ addL a b c d = a + c ∧ addH a b c d = b + d := by
  obtain ⟨h1, h2, h3⟩ := h; obtain ⟨k1, k2, k3⟩ := k
  have e : cmbE (· + ·) (· + ·) a b c d = 0 := cmbE_of (Sm.chkB ⟨h1, h2, h3⟩ ⟨k1, k2, k3⟩) (fun x y hx hy => by rcases hx with rfl | rfl <;> rcases hy with rfl | rfl <;> omega)
  refine ⟨e, ?_, ?_⟩
  · unfold addL cmbL; rw [if_pos e, dmin4]; omega
  · unfold addH cmbH; rw [if_pos e, dmax4]; omega
theorem sub_val {a b c d : Int} (h : Sm a b) (k : Sm c d) : subE a b c d = 0 ∧ subL a b c d = a - d ∧ subH a b c d = b - c := by
  obtain ⟨h1, h2, h3⟩ := h; obtain ⟨k1, k2, k3⟩ := k
  have e : cmbE (· - ·) (· - ·) a b c d = 0 := cmbE_of (Sm.chkB ⟨h1, h2, h3⟩ ⟨k1, k2, k3⟩) (fun x y hx hy => by rcases hx with rfl | rfl <;> rcases hy with rfl | rfl <;> omega)
  refine ⟨e, ?_, ?_⟩
  · unfold subL cmbL; rw [if_pos e, dmin4]; omega
  · unfold subH cmbH; rw [if_pos e, dmax4]; omega
theorem mul_lim {x y : Int} (h1 : -10000 ≤ x) (h2 : x ≤ 10000) (h3 : -10000 ≤ y) (h4 : y ≤ 10000) : -100000000 ≤ x * y ∧ x * y ≤ 100000000 := by
  have := mul_bounds (x := x) (y := y) (B := 10000) h1 h2 h3 h4
  simp only [Int.reduceMul, Int.reduceNeg] at this
  omega
theorem mul_val {a b c d : Int} (h : Sm a b) (k : Sm c d) : mulE a b c d = 0 ∧ mulL a b c d = min (a * c) (min (a * d) (min (b * c) (b * d))) ∧ mulH a b c d = max (a * c) (max (a * d) (max (b * c) (b * d))) := by
  obtain ⟨h1, h2, h3⟩ := h; obtain ⟨k1, k2, k3⟩ := k
  have e : cmbE (· * ·) (· * ·) a b c d = 0 := cmbE_of (Sm.chkB ⟨h1, h2, h3⟩ ⟨k1, k2, k3⟩) (fun x y hx hy => by
    have := mul_lim (x := x) (y := y) (by rcases hx with rfl | rfl <;> omega) (by rcases hx with rfl | rfl <;> omega) (by rcases hy with rfl | rfl <;> omega) (by rcases hy with rfl | rfl <;> omega)
    omega)
  refine ⟨e, ?_, ?_⟩
  · unfold mulL cmbL; rw [if_pos e, dmin4]
  · unfold mulH cmbH; rw [if_pos e, dmax4]
theorem lin {a b x c : Int} (h1 : a ≤ x) (h2 : x ≤ b) : min (a * c) (b * c) ≤ x * c ∧ x * c ≤ max (a * c) (b * c) := by
  rcases Int.le_total 0 c with h | h
  · have k1 := Int.mul_le_mul_of_nonneg_right h1 h; have k2 := Int.mul_le_mul_of_nonneg_right h2 h
    omega
  · have k1 := Int.mul_le_mul_of_nonpos_right h1 h; have k2 := Int.mul_le_mul_of_nonpos_right h2 h
    omega
theorem mul_in {a b c d x y : Int} (h1 : a ≤ x) (h2 : x ≤ b) (h3 : c ≤ y) (h4 : y ≤ d) : min (a * c) (min (a * d) (min (b * c) (b * d))) ≤ x * y ∧ x * y ≤ max (a * c) (max (a * d) (max (b * c) (b * d))) := by
  have k1 := lin (c := y) h1 h2
  have k2 := lin (c := a) h3 h4
  have k3 := lin (c := b) h3 h4
  simp only [Int.mul_comm y, Int.mul_comm c, Int.mul_comm d] at k2 k3
  omega
/-- The least size of a number of a span is the size of one of its numbers, and the greatest, too. -/
theorem abs_val {a b : Int} (h : a ≤ b) : 0 ≤ absL a b ∧ absL a b ≤ absH a b ∧ (∃ m, a ≤ m ∧ m ≤ b ∧ absL a b * absL a b = m * m) ∧ absH a b * absH a b = max (a * a) (b * b) ∧ (∀ x, a ≤ x → x ≤ b → absL a b * absL a b ≤ x * x ∧ x * x ≤ absH a b * absH a b) := by
  have sq : ∀ {p q : Int}, 0 ≤ p → p ≤ q → p * p ≤ q * q := fun h0 h => Int.mul_le_mul h h h0 (by omega)
  unfold absL absH
  split
  · rename_i h0
    refine ⟨h0, h, ⟨a, Int.le_refl _, h, rfl⟩, ?_, fun x h1 h2 => ⟨sq h0 h1, sq (by omega) h2⟩⟩
    have := sq h0 h; omega
  · split
    · rename_i h0 h1
      have e1 : -b * -b = b * b := by grind
      have e2 : -a * -a = a * a := by grind
      rw [e1, e2]
      have hs := sq (p := -b) (q := -a) (by omega) (by omega)
      rw [e1, e2] at hs
      refine ⟨by omega, by omega, ⟨b, h, Int.le_refl _, rfl⟩, by omega, fun x h2 h3 => ?_⟩
      have k1 := sq (p := -b) (q := -x) (by omega) (by omega)
      have k2 := sq (p := -x) (q := -a) (by omega) (by omega)
      have e3 : -x * -x = x * x := by grind
      rw [e1, e3] at k1
      rw [e2, e3] at k2
      exact ⟨k1, k2⟩
    · rename_i h0 h1
      have e2 : -a * -a = a * a := by grind
      have hm : max (-a) b * max (-a) b = max (a * a) (b * b) := by
        rcases Int.le_total (-a) b with h' | h'
        · rw [Int.max_eq_right h']
          have := sq (p := -a) (q := b) (by omega) h'
          omega
        · rw [Int.max_eq_left h', e2]
          have := sq (p := b) (q := -a) (by omega) h'
          omega
      refine ⟨Int.le_refl _, by omega, ⟨0, by omega, by omega, rfl⟩, hm, fun x h2 h3 => ⟨?_, ?_⟩⟩
      · have : 0 ≤ x * x := by
          rcases Int.le_total 0 x with h' | h'
          · exact Int.mul_nonneg h' h'
          · exact Int.mul_nonneg_of_nonpos_of_nonpos h' h'
        simpa using this
      · rw [hm]
        rcases Int.le_total 0 x with h' | h'
        · have := sq h' h3; omega
        · have := sq (p := -x) (q := -a) (by omega) (by omega)
          have e3 : -x * -x = x * x := by grind
          rw [e2, e3] at this; omega
theorem sq_val {a b : Int} (h : Sm a b) : sqE a b = 0 ∧ (∃ m, a ≤ m ∧ m ≤ b ∧ sqL a b = m * m) ∧ sqH a b = max (a * a) (b * b) ∧ (∀ x, a ≤ x → x ≤ b → sqL a b ≤ x * x ∧ x * x ≤ sqH a b) := by
  obtain ⟨p1, p2, ⟨m, m1, m2, m3⟩, p4, p5⟩ := abs_val h.le
  have hs : Sm (absL a b) (absH a b) := by
    obtain ⟨h1, h2, h3⟩ := h
    refine ⟨by omega, p2, ?_⟩
    unfold absH; repeat' split
    all_goals omega
  obtain ⟨e, eL, eH⟩ := mul_val hs hs
  have hc := h.chk
  have e1 : sqL a b = absL a b * absL a b := by
    unfold sqL; rw [if_pos hc, eL]
    have k1 := Int.mul_le_mul_of_nonneg_left p2 p1
    have k2 := Int.mul_le_mul_of_nonneg_right p2 p1
    have k3 := Int.mul_le_mul p2 p2 p1 (by omega)
    omega
  have e2 : sqH a b = absH a b * absH a b := by
    unfold sqH; rw [if_pos hc, eH]
    have k1 := Int.mul_le_mul_of_nonneg_left p2 (show 0 ≤ absH a b by omega)
    have k2 := Int.mul_le_mul_of_nonneg_right p2 (show 0 ≤ absH a b by omega)
    have k3 := Int.mul_le_mul p2 p2 p1 (by omega)
    omega
  refine ⟨by unfold sqE; rw [if_pos hc]; exact e, ⟨m, m1, m2, by rw [e1, m3]⟩, by rw [e2, p4], fun x h1 h2 => ?_⟩
  rw [e1, e2]; exact p5 x h1 h2
theorem okP_small' {n c : Int} (hn : 0 ≤ n) (hc : 0 < c) (hb : n ≤ 1152921504606846976) : okP n c = true := by
  have h := cei_eq (n := n) hc
  have h1 := Int.emod_add_mul_ediv n c
  have h2 := Int.emod_nonneg n (b := c) (by omega)
  have hq : 0 ≤ n / c := Int.ediv_nonneg hn (by omega)
  have h3 : n / c ≤ c * (n / c) := by
    have := Int.mul_le_mul_of_nonneg_right (show 1 ≤ c by omega) hq
    omega
  unfold okP
  simp only [decide_eq_true_eq]
  split at h <;> omega
theorem ov_spec' {n c : Int} (hc : c ≠ 0) (h1 : -1152921504606846976 ≤ n) (h2 : n ≤ 1152921504606846976) : ovB n c = true ∧ ovD n c = ovN n c / ovC c ∧ ovU n c = cei (ovN n c) (ovC c) ∧ 0 < ovC c := by
  have c0 : 0 < ovC c := by unfold ovC; split <;> omega
  have b1 : -1152921504606846976 ≤ ovN n c ∧ ovN n c ≤ 1152921504606846976 := by unfold ovN; split <;> omega
  unfold ovB ovD ovU
  generalize ovN n c = m at *
  generalize ovC c = k at *
  split
  · rename_i hm
    have ok := okP_small' hm c0 b1.2
    unfold downP upP
    rw [ok]
    exact ⟨rfl, by simp, by simp, c0⟩
  · rename_i hm
    have ok := okP_small' (n := -m) (by omega) c0 (by omega)
    unfold downP upP
    rw [ok]
    refine ⟨rfl, ?_, ?_, c0⟩
    · simp only [if_true]; unfold cei; rw [show - -m = m by omega]; omega
    · simp only [if_true]; unfold cei; rfl
/-- A quotient by a number of a span above 0 is at least one of those at the ends. -/
theorem div_in {a x c y d : Int} (h1 : a ≤ x) (hc : 0 < c) (h2 : c ≤ y) (h3 : y ≤ d) : min (a / c) (a / d) ≤ x / y := by
  rw [Int.le_ediv_iff_mul_le (by omega)]
  rcases Int.lt_or_le a 0 with h | h
  · have k := Int.emod_add_mul_ediv a c
    have k2 := Int.emod_nonneg a (b := c) (by omega)
    have hk : a / c < 0 := Int.ediv_neg_of_neg_of_pos h hc
    have k3 := Int.mul_le_mul_of_nonpos_left (show a / c ≤ 0 by omega) h2
    have k4 : min (a / c) (a / d) * y ≤ (a / c) * y := Int.mul_le_mul_of_nonneg_right (Int.min_le_left _ _) (by omega)
    rw [Int.mul_comm c] at k
    omega
  · have k := Int.emod_add_mul_ediv a d
    have k2 := Int.emod_nonneg a (b := d) (by omega)
    have hk : 0 ≤ a / d := Int.ediv_nonneg h (by omega)
    have k3 := Int.mul_le_mul_of_nonneg_left h3 hk
    have k4 : min (a / c) (a / d) * y ≤ (a / d) * y := Int.mul_le_mul_of_nonneg_right (Int.min_le_right _ _) (by omega)
    rw [Int.mul_comm d] at k
    omega
theorem cei_in {b x c y d : Int} (h1 : x ≤ b) (hc : 0 < c) (h2 : c ≤ y) (h3 : y ≤ d) : cei x y ≤ max (cei b c) (cei b d) := by
  have := div_in (a := -b) (x := -x) (by omega) hc h2 h3
  unfold cei
  omega
theorem ov_pos {n c : Int} (hc : 0 < c) (h1 : -1000000 ≤ n) (h2 : n ≤ 1000000) : ovD n c = n / c ∧ ovU n c = cei n c := by
  obtain ⟨_, e1, e2, _⟩ := ov_spec' (n := n) (c := c) (by omega) (by omega) (by omega)
  have e3 : ovN n c = n := by unfold ovN; rw [if_neg (by omega)]
  have e4 : ovC c = c := by unfold ovC; rw [if_neg (by omega)]
  rw [e3, e4] at e1 e2
  exact ⟨e1, e2⟩
theorem ov_neg {n c : Int} (hc : c < 0) (h1 : -1000000 ≤ n) (h2 : n ≤ 1000000) : ovD n c = -n / -c ∧ ovU n c = cei (-n) (-c) := by
  obtain ⟨_, e1, e2, _⟩ := ov_spec' (n := n) (c := c) (by omega) (by omega) (by omega)
  have e3 : ovN n c = -n := by unfold ovN; rw [if_pos hc]
  have e4 : ovC c = -c := by unfold ovC; rw [if_pos hc]
  rw [e3, e4] at e1 e2
  exact ⟨e1, e2⟩
/-- A quotient by a number of a span without 0 lies between those at the ends. -/
theorem quo_in {a b c d x y : Int} (h : Sm a b) (k : Sm c d) (h0 : 0 < c ∨ d < 0) (h1 : a ≤ x) (h2 : x ≤ b) (h3 : c ≤ y) (h4 : y ≤ d) :
    min (ovD a c) (min (ovD a d) (min (ovD b c) (ovD b d))) ≤ ovD x y ∧ ovU x y ≤ max (ovU a c) (max (ovU a d) (max (ovU b c) (ovU b d))) := by
  obtain ⟨a1, a2, a3⟩ := h; obtain ⟨c1, c2, c3⟩ := k
  rcases h0 with h0 | h0
  · rw [(ov_pos (n := a) (c := c) (by omega) (by omega) (by omega)).1, (ov_pos (n := a) (c := d) (by omega) (by omega) (by omega)).1, (ov_pos (n := b) (c := c) (by omega) (by omega) (by omega)).2, (ov_pos (n := b) (c := d) (by omega) (by omega) (by omega)).2, (ov_pos (n := x) (c := y) (by omega) (by omega) (by omega)).1, (ov_pos (n := x) (c := y) (by omega) (by omega) (by omega)).2]
    have k1 := div_in h1 h0 h3 h4
    have k2 := cei_in h2 h0 h3 h4
    omega
  · rw [(ov_neg (n := b) (c := c) (by omega) (by omega) (by omega)).1, (ov_neg (n := b) (c := d) (by omega) (by omega) (by omega)).1, (ov_neg (n := a) (c := c) (by omega) (by omega) (by omega)).2, (ov_neg (n := a) (c := d) (by omega) (by omega) (by omega)).2, (ov_neg (n := x) (c := y) (by omega) (by omega) (by omega)).1, (ov_neg (n := x) (c := y) (by omega) (by omega) (by omega)).2]
    have k1 := div_in (a := -b) (x := -x) (c := -d) (y := -y) (d := -c) (by omega) (by omega) (by omega) (by omega)
    have k2 := cei_in (b := -a) (x := -x) (c := -d) (y := -y) (d := -c) (by omega) (by omega) (by omega) (by omega)
    omega
theorem div_lim {n c : Int} (hc : 0 < c) (h1 : -10000 ≤ n) (h2 : n ≤ 10000) : -10000 ≤ n / c ∧ n / c ≤ 10000 := by
  constructor
  · rw [Int.le_ediv_iff_mul_le hc]; omega
  · apply Int.le_of_lt_add_one; rw [Int.ediv_lt_iff_lt_mul hc]; omega
theorem ov_lim {n c : Int} (hc : c ≠ 0) (h1 : -10000 ≤ n) (h2 : n ≤ 10000) : -10000 ≤ ovD n c ∧ ovD n c ≤ ovU n c ∧ ovU n c ≤ 10000 := by
  rcases Int.lt_or_lt_of_ne hc with h | h
  · obtain ⟨e1, e2⟩ := ov_neg (n := n) h (by omega) (by omega)
    rw [e1, e2]
    have k1 := div_lim (n := -n) (c := -c) (by omega) (by omega) (by omega)
    have k2 := div_lim (n := - -n) (c := -c) (by omega) (by omega) (by omega)
    have k3 := cei_eq (n := -n) (c := -c) (by omega)
    refine ⟨k1.1, by rw [k3]; split <;> omega, by unfold cei; omega⟩
  · obtain ⟨e1, e2⟩ := ov_pos (n := n) h (by omega) (by omega)
    rw [e1, e2]
    have k1 := div_lim (n := n) (c := c) (by omega) (by omega) (by omega)
    have k2 := div_lim (n := -n) (c := c) (by omega) (by omega) (by omega)
    have k3 := cei_eq (n := n) (c := c) (by omega)
    refine ⟨k1.1, by rw [k3]; split <;> omega, by unfold cei; omega⟩
theorem quo_val {a b c d : Int} (h : Sm a b) (k : Sm c d) (h0 : 0 < c ∨ d < 0) : quoE a b c d = 0 ∧ quoL a b c d = min (ovD a c) (min (ovD a d) (min (ovD b c) (ovD b d))) ∧ quoH a b c d = max (ovU a c) (max (ovU a d) (max (ovU b c) (ovU b d))) := by
  obtain ⟨a1, a2, a3⟩ := h; obtain ⟨c1, c2, c3⟩ := k
  have hc := Sm.chkB ⟨a1, a2, a3⟩ ⟨c1, c2, c3⟩
  have hi : inB c d 0 = false := by unfold inB; rw [Sm.chk ⟨c1, c2, c3⟩]; simp; omega
  have e : cmbE ovD ovU a b c d = 0 := cmbE_of hc (fun x y hx hy => by
    have := ov_lim (n := x) (c := y) (by rcases hy with rfl | rfl <;> omega) (by rcases hx with rfl | rfl <;> omega) (by rcases hx with rfl | rfl <;> omega)
    omega)
  have e2 : quoE a b c d = 0 := by unfold quoE; rw [if_pos hc, hi]; exact e
  refine ⟨e2, ?_, ?_⟩
  · unfold quoL cmbL; rw [if_pos e2, if_pos e, dmin4]
  · unfold quoH cmbH; rw [if_pos e2, if_pos e, dmax4]
theorem quo_zero {a b c d : Int} (h : Sm a b) (k : Sm c d) (h0 : c ≤ 0) (h1 : 0 ≤ d) : quoE a b c d = 2 := by
  have hi : inB c d 0 = true := by unfold inB; rw [k.chk]; simp; omega
  unfold quoE; rw [if_pos (Sm.chkB h k), hi]; rfl
theorem inB_val {a b n : Int} (h1 : -1000000000 ≤ a) (h2 : a ≤ n) (h3 : n ≤ b) (h4 : b ≤ 1000000000) : inB a b n = true := by
  unfold inB; rw [(chk_ok a b).2 ⟨by omega, by omega, by omega⟩]; simp; omega
end Go.Proofs.Ytbcbodecicnnjaa

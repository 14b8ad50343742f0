/- Plain mathematics of sweeps: two areas are clear of a circle just if a line parts them from it. No condition. -/
import Derived.Test.YtagfhekjmkdjkaaHitsB
import Derived.Test.YtagfhekjmkdjkaaMath
namespace Go.Proofs.Ytagfhekjmkdjkaa
open Go.RowKit
/-- No point of a segment comes within r: its points are weighted means of its ends. -/
def FarSeg (px py qx qy r : Int) : Prop := ∀ a b : Int, 0 ≤ a → 0 ≤ b → 0 < a + b → r * r * ((a + b) * (a + b)) < (a * px + b * qx) * (a * px + b * qx) + (a * py + b * qy) * (a * py + b * qy)
theorem FarSeg.swap {px py qx qy r : Int} (h : FarSeg px py qx qy r) : FarSeg qx qy px py r := by
  intro a b ha hb hab
  have := h b a hb ha (by omega)
  rw [show b + a = a + b from Int.add_comm _ _, show b * px + a * qx = a * qx + b * px from Int.add_comm _ _, show b * py + a * qy = a * qy + b * py from Int.add_comm _ _] at this
  exact this
theorem FarSeg.turn {px py qx qy r : Int} (h : FarSeg px py qx qy r) : FarSeg py px qy qx r := by
  intro a b ha hb hab
  have := h a b ha hb hab
  omega
theorem FarSeg.negx {px py qx qy r : Int} (h : FarSeg px py qx qy r) : FarSeg (-px) py (-qx) qy r := by
  intro a b ha hb hab
  have := h a b ha hb hab
  rw [show a * -px + b * -qx = -(a * px + b * qx) by grind, show -(a * px + b * qx) * -(a * px + b * qx) = (a * px + b * qx) * (a * px + b * qx) by grind]
  exact this
theorem FarSeg.negy {px py qx qy r : Int} (h : FarSeg px py qx qy r) : FarSeg px (-py) qx (-qy) r := h.turn.negx.turn
theorem FarSeg.left {px py qx qy r : Int} (h : FarSeg px py qx qy r) : r * r < px * px + py * py := by
  have := h 1 0 (by omega) (by omega) (by omega)
  simpa using this
/-- The direction of the nearest point of a segment that does not come within r. -/
structure Dir (px py qx qy r nx ny D al be ga : Int) : Prop where
  al0 : 0 ≤ al
  be0 : 0 ≤ be
  ab0 : 0 < al + be
  ga0 : 0 < ga
  ex : al * px + be * qx = ga * nx
  ey : al * py + be * qy = ga * ny
  p : D ≤ nx * px + ny * py
  q : D ≤ nx * qx + ny * qy
  d : (al + be) * D = ga * (nx * nx + ny * ny)
  D0 : 0 < D
  r : r * r * (nx * nx + ny * ny) < D * D
theorem Dir.swap {px py qx qy r nx ny D al be ga : Int} (h : Dir px py qx qy r nx ny D al be ga) : Dir qx qy px py r nx ny D be al ga :=
  ⟨h.be0, h.al0, by have := h.ab0; omega, h.ga0, by have := h.ex; omega, by have := h.ey; omega, h.q, h.p, by rw [Int.add_comm]; exact h.d, h.D0, h.r⟩
theorem mul_lt {a b c : Int} (h : a < b) (hc : 0 < c) : a * c < b * c := Int.mul_lt_mul_of_pos_right h hc
theorem dir_of {px py qx qy r : Int} (h : withinB px py qx qy r = false) : ∃ nx ny D al be ga, Dir px py qx qy r nx ny D al be ga := by
  have hr := sq0 r
  unfold withinB at h
  split at h
  · rename_i h1
    simp only [nearB, decide_eq_false_iff_not, Int.not_le] at h
    refine ⟨px, py, px * px + py * py, 1, 0, 1, by omega, by omega, by omega, by omega, by omega, by omega, by omega, ?_, by omega, by omega, mul_lt h (by omega)⟩
    have e : px * (qx - px) + py * (qy - py) = px * qx + py * qy - (px * px + py * py) := by grind
    omega
  · rename_i h1
    split at h
    · rename_i h2
      simp only [nearB, decide_eq_false_iff_not, Int.not_le] at h
      refine ⟨qx, qy, qx * qx + qy * qy, 0, 1, 1, by omega, by omega, by omega, by omega, by omega, by omega, ?_, by omega, by omega, by omega, mul_lt h (by omega)⟩
      have e : qx * (qx - px) + qy * (qy - py) = qx * qx + qy * qy - (qx * px + qy * py) := by grind
      omega
    · rename_i h2
      simp only [decide_eq_false_iff_not, Int.not_le] at h
      have hw := sq0 (qx - px); have hw2 := sq0 (qy - py)
      have hww := Int.mul_nonneg hr (show 0 ≤ (qx - px) * (qx - px) + (qy - py) * (qy - py) by omega)
      have e5 : (qx - px) * (qx - px) + (qy - py) * (qy - py) = (qx * (qx - px) + qy * (qy - py)) - (px * (qx - px) + py * (qy - py)) := by grind
      rcases Int.lt_trichotomy (px * qy - py * qx) 0 with hc | hc | hc
      · refine ⟨-(qy - py), qx - px, -(px * qy - py * qx), qx * (qx - px) + qy * (qy - py), -(px * (qx - px) + py * (qy - py)), -(px * qy - py * qx), by omega, by omega, by omega, by omega, by grind, by grind, ?_, ?_, by grind, by omega, ?_⟩
        · exact Int.le_of_eq (by grind)
        · exact Int.le_of_eq (by grind)
        · rw [show -(px * qy - py * qx) * -(px * qy - py * qx) = (px * qy - py * qx) * (px * qy - py * qx) by grind, show -(qy - py) * -(qy - py) + (qx - px) * (qx - px) = (qx - px) * (qx - px) + (qy - py) * (qy - py) by grind]
          exact h
      · rw [hc] at h; omega
      · refine ⟨qy - py, -(qx - px), px * qy - py * qx, qx * (qx - px) + qy * (qy - py), -(px * (qx - px) + py * (qy - py)), px * qy - py * qx, by omega, by omega, by omega, by omega, by grind, by grind, ?_, ?_, by grind, by omega, ?_⟩
        · exact Int.le_of_eq (by grind)
        · exact Int.le_of_eq (by grind)
        · rw [show (qy - py) * (qy - py) + -(qx - px) * -(qx - px) = (qx - px) * (qx - px) + (qy - py) * (qy - py) by grind]
          exact h
theorem sq_le {a b : Int} (h0 : 0 ≤ a) (h : a ≤ b) : a * a ≤ b * b := Int.mul_le_mul h h h0 (by omega)
/-- Places that are all beyond a line that is farther than r. -/
theorem far_of_sep {px py qx qy r nx ny D : Int} (D0 : 0 < D) (hr : r * r * (nx * nx + ny * ny) < D * D) (hp : D ≤ nx * px + ny * py) (hq : D ≤ nx * qx + ny * qy) : FarSeg px py qx qy r := by
  intro a b ha hb hab
  have e1 := Int.mul_le_mul_of_nonneg_left hp ha
  have e2 := Int.mul_le_mul_of_nonneg_left hq hb
  have e3 : (a + b) * D ≤ nx * (a * px + b * qx) + ny * (a * py + b * qy) := by
    rw [show (a + b) * D = a * D + b * D by grind, show nx * (a * px + b * qx) + ny * (a * py + b * qy) = a * (nx * px + ny * py) + b * (nx * qx + ny * qy) by grind]
    omega
  generalize a * px + b * qx = X at *
  generalize a * py + b * qy = Y at *
  have e4 := sq_le (Int.mul_nonneg (by omega) (by omega)) e3
  have e5 : (nx * X + ny * Y) * (nx * X + ny * Y) + (nx * Y - ny * X) * (nx * Y - ny * X) = (X * X + Y * Y) * (nx * nx + ny * ny) := by grind
  have e6 := sq0 (nx * Y - ny * X)
  have e7 : 0 < (a + b) * (a + b) := Int.mul_pos hab hab
  have e8 := mul_lt hr e7
  have e9 : (a + b) * D * ((a + b) * D) = D * D * ((a + b) * (a + b)) := by grind
  have e10 : r * r * (nx * nx + ny * ny) * ((a + b) * (a + b)) = r * r * ((a + b) * (a + b)) * (nx * nx + ny * ny) := by grind
  have e11 : r * r * ((a + b) * (a + b)) * (nx * nx + ny * ny) < (X * X + Y * Y) * (nx * nx + ny * ny) := by omega
  have e12 := sq0 nx; have e13 := sq0 ny
  exact Int.lt_of_mul_lt_mul_right e11 (by omega)
theorem far_of_within {px py qx qy r : Int} (h : withinB px py qx qy r = false) : FarSeg px py qx qy r := by
  obtain ⟨nx, ny, D, al, be, ga, d⟩ := dir_of h
  exact far_of_sep d.D0 d.r d.p d.q
theorem within_of_far {px py qx qy r : Int} (h : FarSeg px py qx qy r) : withinB px py qx qy r = false := by
  unfold withinB
  split
  · have := h.left
    simp only [nearB, decide_eq_false_iff_not, Int.not_le]; exact this
  · rename_i h1
    split
    · have := h.swap.left
      simp only [nearB, decide_eq_false_iff_not, Int.not_le]; exact this
    · rename_i h2
      have := h (qx * (qx - px) + qy * (qy - py)) (-(px * (qx - px) + py * (qy - py))) (by omega) (by omega) (by omega)
      rw [show qx * (qx - px) + qy * (qy - py) + -(px * (qx - px) + py * (qy - py)) = (qx - px) * (qx - px) + (qy - py) * (qy - py) by grind] at this
      have hw : 0 < (qx - px) * (qx - px) + (qy - py) * (qy - py) := by
        rw [show (qx - px) * (qx - px) + (qy - py) * (qy - py) = qx * (qx - px) + qy * (qy - py) - (px * (qx - px) + py * (qy - py)) by grind]; omega
      have e1 : (qx * (qx - px) + qy * (qy - py)) * px + -(px * (qx - px) + py * (qy - py)) * qx = (px * qy - py * qx) * (qy - py) := by grind
      have e2 : (qx * (qx - px) + qy * (qy - py)) * py + -(px * (qx - px) + py * (qy - py)) * qy = -((px * qy - py * qx) * (qx - px)) := by grind
      rw [e1, e2] at this
      simp only [decide_eq_false_iff_not, Int.not_le]
      generalize px * qy - py * qx = C at *
      generalize qx - px = X at *
      generalize qy - py = Y at *
      have e3 : C * Y * (C * Y) + -(C * X) * -(C * X) = C * C * (X * X + Y * Y) := by grind
      rw [e3, ← Int.mul_assoc] at this
      exact Int.lt_of_mul_lt_mul_right this (by omega)
theorem far_iff {px py qx qy r : Int} : withinB px py qx qy r = false ↔ FarSeg px py qx qy r := ⟨far_of_within, within_of_far⟩
theorem dir_far {px py qx qy r : Int} (h : FarSeg px py qx qy r) : ∃ nx ny D al be ga, Dir px py qx qy r nx ny D al be ga := dir_of (within_of_far h)
/-- Two areas lie beyond a line that is farther than r. -/
structure Sep (a b c d e f g h r nx ny D : Int) : Prop where
  D0 : 0 < D
  r : r * r * (nx * nx + ny * ny) < D * D
  a0 : D ≤ nx * a + ny * c
  a1 : D ≤ nx * b + ny * c
  a2 : D ≤ nx * b + ny * d
  a3 : D ≤ nx * a + ny * d
  b0 : D ≤ nx * e + ny * g
  b1 : D ≤ nx * f + ny * g
  b2 : D ≤ nx * f + ny * h
  b3 : D ≤ nx * e + ny * h
theorem mulmono {n a b : Int} (hn : 0 ≤ n) (h : a ≤ b) : n * a ≤ n * b := Int.mul_le_mul_of_nonneg_left h hn
theorem mulmono' {n a b : Int} (hn : n ≤ 0) (h : a ≤ b) : n * b ≤ n * a := Int.mul_le_mul_of_nonpos_left hn h
theorem sep0 {a b c d e f g h r nx ny D al be ga : Int} (hab : a ≤ b) (hcd : c ≤ d) (hef : e ≤ f) (hgh : g ≤ h) (k : Dir a c e g r nx ny D al be ga) (hx : 0 ≤ nx) (hy : 0 ≤ ny) : Sep a b c d e f g h r nx ny D := by
  have := mulmono hx hab; have := mulmono hx hef; have := mulmono hy hcd; have := mulmono hy hgh
  have := k.p; have := k.q
  exact ⟨k.D0, k.r, by omega, by omega, by omega, by omega, by omega, by omega, by omega, by omega⟩
theorem sep1 {a b c d e f g h r nx ny D al be ga : Int} (hab : a ≤ b) (hcd : c ≤ d) (hef : e ≤ f) (hgh : g ≤ h) (k : Dir b c f g r nx ny D al be ga) (hx : nx ≤ 0) (hy : 0 ≤ ny) : Sep a b c d e f g h r nx ny D := by
  have := mulmono' hx hab; have := mulmono' hx hef; have := mulmono hy hcd; have := mulmono hy hgh
  have := k.p; have := k.q
  exact ⟨k.D0, k.r, by omega, by omega, by omega, by omega, by omega, by omega, by omega, by omega⟩
/-- Where a segment leads up from a side that is beyond, its nearest point is not on the other side. -/
theorem not_back {ax ay bx bY r nx ny D al be ga : Int} (k : Dir ax ay bx bY r nx ny D al be ga) (hax : 0 < ax) (hy : ay ≤ bY) (hny : 0 ≤ ny) (hnx : nx < 0) : False := by
  have h1 : ga * nx < 0 := Int.mul_neg_of_pos_of_neg k.ga0 hnx
  have h2 : 0 ≤ al * ax := Int.mul_nonneg k.al0 (by omega)
  have h3 : be * bx < 0 := by have := k.ex; omega
  have hb : 0 < be := by
    rcases Int.lt_or_le 0 be with h | h
    · exact h
    · have : be = 0 := by have := k.be0; omega
      rw [this] at h3; omega
  have hbx : bx < 0 := by
    rcases Int.lt_or_le bx 0 with h | h
    · exact h
    · have := Int.mul_nonneg k.be0 h; omega
  have h4 : 0 < nx * (bx - ax) := Int.mul_pos_of_neg_of_neg hnx (by omega)
  have h5 : 0 ≤ ny * (bY - ay) := Int.mul_nonneg hny (by omega)
  have h6 := Int.mul_pos hb (show 0 < nx * (bx - ax) + ny * (bY - ay) by omega)
  have h7 := Int.mul_le_mul_of_nonneg_left k.p (show 0 ≤ al + be by have := k.ab0; omega)
  have e1 : be * (nx * (bx - ax) + ny * (bY - ay)) = (nx * (al * ax + be * bx) + ny * (al * ay + be * bY)) - (al + be) * (nx * ax + ny * ay) := by grind
  rw [k.ex, k.ey] at e1
  have e2 : nx * (ga * nx) + ny * (ga * ny) = ga * (nx * nx + ny * ny) := by grind
  have := k.d
  omega
theorem neg_dir {ax ay bx bY r nx ny D al be ga : Int} (k : Dir ax ay bx bY r nx ny D al be ga) : Dir (-ax) ay (-bx) bY r (-nx) ny D al be ga :=
  ⟨k.al0, k.be0, k.ab0, k.ga0, by have := k.ex; rw [show al * -ax + be * -bx = -(al * ax + be * bx) by grind, this]; grind, k.ey, by have := k.p; rw [Int.neg_mul_neg]; exact this, by have := k.q; rw [Int.neg_mul_neg]; exact this, by rw [Int.neg_mul_neg]; exact k.d, k.D0, by rw [Int.neg_mul_neg]; exact k.r⟩
/-- A level side that goes past the origin. -/
theorem level {a b c r : Int} (ha : a ≤ 0) (hb : 0 ≤ b) (h : FarSeg a c b c r) : r * r < c * c := by
  rcases Int.lt_or_le a b with hab | hab
  · have := h b (-a) hb (by omega) (by omega)
    have e : (b * a + -a * b) = 0 := by grind
    have e2 : b * c + -a * c = (b + -a) * c := by grind
    rw [e, e2, show (b + -a) * c * ((b + -a) * c) = c * c * ((b + -a) * (b + -a)) by grind] at this
    have h2 : 0 < (b + -a) * (b + -a) := Int.mul_pos (by omega) (by omega)
    exact Int.lt_of_mul_lt_mul_right (a := (b + -a) * (b + -a)) (by omega) (by omega)
  · have e1 : a = 0 := by omega
    have := h.left
    rw [e1] at this; omega
theorem up1 {a b c d e f g h r : Int} (hab : a ≤ b) (hcd : c ≤ d) (hef : e ≤ f) (hgh : g ≤ h) (hc : 0 ≤ c) (hcg : c ≤ g)
    (s0 : FarSeg a c e g r) (s1 : FarSeg b c f g r) (s2 : FarSeg a c b c r) : ∃ nx ny D, Sep a b c d e f g h r nx ny D := by
  obtain ⟨nx, ny, D, al, be, ga, k⟩ := dir_far s0
  have hny : 0 ≤ ny := by
    rcases Int.lt_or_le ny 0 with h0 | h0
    · have h1 := Int.mul_neg_of_pos_of_neg k.ga0 h0
      have h2 := Int.mul_nonneg k.al0 hc; have h3 := Int.mul_nonneg k.be0 (show 0 ≤ g by omega)
      have := k.ey; omega
    · exact h0
  rcases Int.lt_or_le nx 0 with hnx | hnx
  · obtain ⟨mx, my, E, al', be', ga', m⟩ := dir_far s1
    have hmy : 0 ≤ my := by
      rcases Int.lt_or_le my 0 with h0 | h0
      · have h1 := Int.mul_neg_of_pos_of_neg m.ga0 h0
        have h2 := Int.mul_nonneg m.al0 hc; have h3 := Int.mul_nonneg m.be0 (show 0 ≤ g by omega)
        have := m.ey; omega
      · exact h0
    rcases Int.lt_or_le 0 mx with hmx | hmx
    · rcases Int.lt_or_le 0 a with ha | ha
      · exact (not_back k ha hcg hny hnx).elim
      · rcases Int.lt_or_le b 0 with hb | hb
        · exact (not_back (neg_dir m) (by omega) hcg hmy (by omega)).elim
        · have := level ha hb s2
          refine ⟨0, 1, c, ?_, by omega, by omega, by omega, by omega, by omega, by omega, by omega, by omega, by omega⟩
          rcases Int.lt_or_le 0 c with h0 | h0
          · exact h0
          · have e1 : c = 0 := by omega
            have h3 := sq0 r
            rw [e1] at this; omega
    · exact ⟨_, _, _, sep1 hab hcd hef hgh m hmx hmy⟩
  · exact ⟨_, _, _, sep0 hab hcd hef hgh k hnx hny⟩
theorem Sep.swap {a b c d e f g h r nx ny D : Int} (s : Sep a b c d e f g h r nx ny D) : Sep e f g h a b c d r nx ny D := ⟨s.D0, s.r, s.b0, s.b1, s.b2, s.b3, s.a0, s.a1, s.a2, s.a3⟩
theorem Sep.turn {a b c d e f g h r nx ny D : Int} (s : Sep a b c d e f g h r nx ny D) : Sep c d a b g h e f r ny nx D :=
  ⟨s.D0, by rw [Int.add_comm]; exact s.r, by rw [Int.add_comm]; exact s.a0, by rw [Int.add_comm]; exact s.a3, by rw [Int.add_comm]; exact s.a2, by rw [Int.add_comm]; exact s.a1, by rw [Int.add_comm]; exact s.b0, by rw [Int.add_comm]; exact s.b3, by rw [Int.add_comm]; exact s.b2, by rw [Int.add_comm]; exact s.b1⟩
theorem Sep.negx {a b c d e f g h r nx ny D : Int} (s : Sep (-b) (-a) c d (-f) (-e) g h r nx ny D) : Sep a b c d e f g h r (-nx) ny D := by
  obtain ⟨D0, hr, a0, a1, a2, a3, b0, b1, b2, b3⟩ := s
  refine ⟨D0, by rw [Int.neg_mul_neg]; exact hr, ?_, ?_, ?_, ?_, ?_, ?_, ?_, ?_⟩ <;> (rw [Int.neg_mul, ← Int.mul_neg]; assumption)
theorem up {a b c d e f g h r : Int} (hab : a ≤ b) (hcd : c ≤ d) (hef : e ≤ f) (hgh : g ≤ h) (hc : 0 ≤ c) (hg : 0 ≤ g)
    (s0 : FarSeg a c e g r) (s1 : FarSeg b c f g r) (s2 : FarSeg a c b c r) (s3 : FarSeg e g f g r) : ∃ nx ny D, Sep a b c d e f g h r nx ny D := by
  rcases Int.le_total c g with h1 | h1
  · exact up1 hab hcd hef hgh hc h1 s0 s1 s2
  · obtain ⟨nx, ny, D, s⟩ := up1 hef hgh hab hcd hg h1 s0.swap s1.swap s3
    exact ⟨_, _, _, s.swap⟩
theorem above {mx my nx ny x y D : Int} (hx : 0 ≤ mx) (hn : nx < 0) (hk : 0 < mx * ny - nx * my) (h1 : 0 ≤ mx * x + my * y) (hD : 0 < D) (h2 : D ≤ nx * x + ny * y) : 0 ≤ y := by
  have h3 := Int.mul_nonneg hx (show 0 ≤ nx * x + ny * y by omega)
  have h4 := Int.mul_nonneg (show 0 ≤ -nx by omega) h1
  have e : (mx * ny - nx * my) * y = mx * (nx * x + ny * y) + -nx * (mx * x + my * y) := by grind
  rcases Int.lt_or_le y 0 with h | h
  · have := Int.mul_neg_of_pos_of_neg hk h; omega
  · exact h
theorem quad_up {a b c d e f g h r mx my nx ny D al be ga : Int} (hab : a ≤ b) (hcd : c ≤ d) (hef : e ≤ f) (hgh : g ≤ h) (hx : 0 ≤ mx) (hy : 0 ≤ my)
    (h1 : 0 ≤ mx * a + my * c) (h2 : 0 ≤ mx * e + my * g) (hm : 0 < mx + my) (k : Dir a c e g r nx ny D al be ga) (hnx : nx < 0)
    (s0 : FarSeg a c e g r) (s1 : FarSeg b c f g r) (s2 : FarSeg a c b c r) (s3 : FarSeg e g f g r) : ∃ nx ny D, Sep a b c d e f g h r nx ny D := by
  have e1 : ga * (mx * nx + my * ny) = al * (mx * a + my * c) + be * (mx * e + my * g) := by
    have := k.ex; have := k.ey
    rw [show ga * (mx * nx + my * ny) = mx * (ga * nx) + my * (ga * ny) by grind, ← k.ex, ← k.ey]; grind
  have e2 : 0 ≤ mx * nx + my * ny := by
    have := Int.mul_nonneg k.al0 h1; have := Int.mul_nonneg k.be0 h2
    rcases Int.lt_or_le (mx * nx + my * ny) 0 with h | h
    · have := Int.mul_neg_of_pos_of_neg k.ga0 h; omega
    · exact h
  have e3 : mx * nx ≤ 0 := Int.mul_nonpos_of_nonneg_of_nonpos hx (by omega)
  have hmy : 0 < my := by
    rcases Int.lt_or_le 0 my with h | h
    · exact h
    · have e0 : my = 0 := by omega
      have e5 : mx * nx < 0 := Int.mul_neg_of_pos_of_neg (by omega) hnx
      rw [e0] at e2; omega
  have hny : 0 ≤ ny := by
    rcases Int.lt_or_le ny 0 with h | h
    · have := Int.mul_neg_of_pos_of_neg hmy h; omega
    · exact h
  have hk : 0 < mx * ny - nx * my := by
    have := Int.mul_nonneg hx hny
    have := Int.mul_neg_of_neg_of_pos hnx hmy
    omega
  have ya := above hx hnx hk h1 k.D0 k.p
  have yb := above hx hnx hk h2 k.D0 k.q
  exact up hab hcd hef hgh ya yb s0 s1 s2 s3
theorem Dir.turn {px py qx qy r nx ny D al be ga : Int} (k : Dir px py qx qy r nx ny D al be ga) : Dir py px qy qx r ny nx D al be ga :=
  ⟨k.al0, k.be0, k.ab0, k.ga0, k.ey, k.ex, by have := k.p; omega, by have := k.q; omega, by rw [k.d, Int.add_comm], k.D0, by rw [Int.add_comm]; exact k.r⟩
/-- A direction of the first quadrant in which no corner is behind the origin. -/
theorem quad {a b c d e f g h r mx my : Int} (hab : a ≤ b) (hcd : c ≤ d) (hef : e ≤ f) (hgh : g ≤ h) (hx : 0 ≤ mx) (hy : 0 ≤ my)
    (h1 : 0 ≤ mx * a + my * c) (h2 : 0 ≤ mx * e + my * g) (hm : 0 < mx + my)
    (s0 : FarSeg a c e g r) (s1 : FarSeg b c f g r) (s2 : FarSeg a c b c r) (s3 : FarSeg e g f g r) (s4 : FarSeg a d e h r) (s5 : FarSeg a c a d r) (s6 : FarSeg e g e h r) : ∃ nx ny D, Sep a b c d e f g h r nx ny D := by
  obtain ⟨nx, ny, D, al, be, ga, k⟩ := dir_far s0
  rcases Int.lt_or_le nx 0 with hnx | hnx
  · exact quad_up hab hcd hef hgh hx hy h1 h2 hm k hnx s0 s1 s2 s3
  · rcases Int.lt_or_le ny 0 with hny | hny
    · obtain ⟨nx, ny, D, s⟩ := quad_up hcd hab hgh hef hy hx (by rw [Int.add_comm]; exact h1) (by rw [Int.add_comm]; exact h2) (by omega) k.turn hny s0.turn s4.turn s5.turn s6.turn
      exact ⟨_, _, _, s.turn⟩
    · exact ⟨_, _, _, sep0 hab hcd hef hgh k hnx hny⟩
theorem Sep.negy {a b c d e f g h r nx ny D : Int} (s : Sep a b (-d) (-c) e f (-h) (-g) r nx ny D) : Sep a b c d e f g h r nx (-ny) D := by
  obtain ⟨D0, hr, a0, a1, a2, a3, b0, b1, b2, b3⟩ := s
  refine ⟨D0, by rw [Int.neg_mul_neg]; exact hr, ?_, ?_, ?_, ?_, ?_, ?_, ?_, ?_⟩ <;> (rw [Int.neg_mul, ← Int.mul_neg]; assumption)
/-- Where no side comes within r and a corner is the rightmost one, both areas lie beyond a line that is farther than r. -/
theorem sep_of {a b c d e f g h r : Int} (hab : a ≤ b) (hcd : c ≤ d) (hef : e ≤ f) (hgh : g ≤ h) (hs : (segsI a b c d e f g h).any (segIn r) = false) (ho : outI (corsI a b c d e f g h) = true) : ∃ nx ny D, Sep a b c d e f g h r nx ny D := by
  simp only [segsI, segIn, List.any_cons, List.any_nil, Bool.or_false, Bool.or_eq_false_iff, far_iff] at hs
  obtain ⟨s1, s2, s3, s4, s5, s6, s7, s8, s9, s10, s11, s12⟩ := hs
  have hr := sq0 r
  obtain ⟨⟨cx, cy⟩, hc, hall⟩ := List.any_eq_true.1 ho
  have hall := List.all_eq_true.1 hall
  have o1 := hall (a, c) (by simp [corsI]); have o2 := hall (b, c) (by simp [corsI]); have o3 := hall (b, d) (by simp [corsI]); have o4 := hall (a, d) (by simp [corsI])
  have o5 := hall (e, g) (by simp [corsI]); have o6 := hall (f, g) (by simp [corsI]); have o7 := hall (f, h) (by simp [corsI]); have o8 := hall (e, h) (by simp [corsI])
  simp only [decide_eq_true_eq] at o1 o2 o3 o4 o5 o6 o7 o8
  have hne : 0 < cx * cx + cy * cy := by
    simp only [corsI, List.mem_cons, List.not_mem_nil, or_false, Prod.mk.injEq] at hc
    rcases hc with ⟨rfl, rfl⟩ | ⟨rfl, rfl⟩ | ⟨rfl, rfl⟩ | ⟨rfl, rfl⟩ | ⟨rfl, rfl⟩ | ⟨rfl, rfl⟩ | ⟨rfl, rfl⟩ | ⟨rfl, rfl⟩
    · have := s1.left; omega
    · have := s4.left; omega
    · have := s7.left; omega
    · have := s10.left; omega
    · have := s2.left; omega
    · have := s5.left; omega
    · have := s8.left; omega
    · have := s11.left; omega
  have hnz : ¬ (cx = 0 ∧ cy = 0) := by
    rintro ⟨e1, e2⟩
    rw [e1, e2] at hne; omega
  have neg : ∀ x y : Int, -x * -y = x * y := Int.neg_mul_neg
  rcases Int.le_total cy 0 with hx | hx <;> rcases Int.le_total 0 cx with hy | hy
  · exact quad (mx := -cy) (my := cx) hab hcd hef hgh (by omega) hy (by rw [Int.neg_mul]; omega) (by rw [Int.neg_mul]; omega) (by omega) s3 s6 s1 s2 s12 s10.swap s11.swap
  · obtain ⟨nx, ny, D, s⟩ := quad (a := a) (b := b) (c := -d) (d := -c) (e := e) (f := f) (g := -h) (h := -g) (r := r) (mx := -cy) (my := -cx) hab (by omega) hef (by omega) (by omega) (by omega)
      (by rw [neg, Int.neg_mul]; omega) (by rw [neg, Int.neg_mul]; omega) (by omega) s12.negy s9.negy s7.swap.negy s8.swap.negy s3.negy s10.negy s11.negy
    exact ⟨_, _, _, s.negy⟩
  · obtain ⟨nx, ny, D, s⟩ := quad (a := -b) (b := -a) (c := c) (d := d) (e := -f) (f := -e) (g := g) (h := h) (r := r) (mx := cy) (my := cx) (by omega) hcd (by omega) hgh hx hy
      (by rw [Int.mul_neg]; omega) (by rw [Int.mul_neg]; omega) (by omega) s6.negx s3.negx s1.swap.negx s2.swap.negx s9.negx s4.negx s5.negx
    exact ⟨_, _, _, s.negx⟩
  · obtain ⟨nx, ny, D, s⟩ := quad (a := -b) (b := -a) (c := -d) (d := -c) (e := -f) (f := -e) (g := -h) (h := -g) (r := r) (mx := cy) (my := -cx) (by omega) (by omega) (by omega) (by omega) hx (by omega)
      (by rw [neg, Int.mul_neg]; omega) (by rw [neg, Int.mul_neg]; omega) (by omega) s9.negx.negy s12.negx.negy s7.negx.negy s8.negx.negy s6.negx.negy s4.swap.negx.negy s5.swap.negx.negy
    exact ⟨_, _, _, s.negx.negy⟩
theorem cross_trans {nx ny ax ay bx bY cx cy : Int} (ha : 0 < nx * ax + ny * ay) (hb : 0 < nx * bx + ny * bY) (hc : 0 < nx * cx + ny * cy) (h1 : 0 ≤ ax * bY - ay * bx) (h2 : 0 ≤ bx * cy - bY * cx) : 0 ≤ ax * cy - ay * cx := by
  have e : (nx * bx + ny * bY) * (ax * cy - ay * cx) = (nx * cx + ny * cy) * (ax * bY - ay * bx) + (nx * ax + ny * ay) * (bx * cy - bY * cx) := by grind
  have := Int.mul_nonneg (Int.le_of_lt hc) h1; have := Int.mul_nonneg (Int.le_of_lt ha) h2
  rcases Int.lt_or_le (ax * cy - ay * cx) 0 with h | h
  · have := Int.mul_neg_of_pos_of_neg hb h; omega
  · exact h
/-- Of places in front of the origin, one is the rightmost. -/
theorem rightmost (nx ny : Int) : ∀ (l : List (Int × Int)), l ≠ [] → (∀ o ∈ l, 0 < nx * o.1 + ny * o.2) → ∃ c ∈ l, ∀ o ∈ l, 0 ≤ c.1 * o.2 - c.2 * o.1
  | [], h, _ => absurd rfl h
  | [x], _, _ => ⟨x, by simp, fun o ho => by
      simp only [List.mem_cons, List.not_mem_nil, or_false] at ho; subst ho; rw [Int.mul_comm o.2 o.1]; omega⟩
  | x :: y :: l, _, hp => by
    obtain ⟨c, hc, hall⟩ := rightmost nx ny (y :: l) (by simp) (fun o ho => hp o (by simp only [List.mem_cons] at ho ⊢; exact .inr ho))
    rcases Int.le_total 0 (c.1 * x.2 - c.2 * x.1) with h | h
    · refine ⟨c, by simp only [List.mem_cons] at hc ⊢; exact .inr hc, fun o ho => ?_⟩
      rcases List.mem_cons.1 ho with rfl | ho
      · exact h
      · exact hall o ho
    · refine ⟨x, by simp, fun o ho => ?_⟩
      rcases List.mem_cons.1 ho with rfl | ho
      · rw [Int.mul_comm o.2 o.1]; omega
      · refine cross_trans (nx := nx) (ny := ny) (hp x (by simp)) (hp c ?_) (hp o ?_) (?_ : 0 ≤ x.1 * c.2 - x.2 * c.1) (hall o ho)
        · simp only [List.mem_cons] at hc ⊢; exact .inr hc
        · simp only [List.mem_cons] at ho ⊢; exact .inr ho
        · rw [Int.mul_comm x.1, Int.mul_comm x.2]; omega
theorem out_of_sep {a b c d e f g h r nx ny D : Int} (s : Sep a b c d e f g h r nx ny D) : outI (corsI a b c d e f g h) = true := by
  have D0 := s.D0
  obtain ⟨k, hk, hall⟩ := rightmost nx ny (corsI a b c d e f g h) (by simp [corsI]) (by
    intro o ho
    simp only [corsI, List.mem_cons, List.not_mem_nil, or_false] at ho
    rcases ho with rfl | rfl | rfl | rfl | rfl | rfl | rfl | rfl
    · exact Int.lt_of_lt_of_le D0 s.a0
    · exact Int.lt_of_lt_of_le D0 s.a1
    · exact Int.lt_of_lt_of_le D0 s.a2
    · exact Int.lt_of_lt_of_le D0 s.a3
    · exact Int.lt_of_lt_of_le D0 s.b0
    · exact Int.lt_of_lt_of_le D0 s.b1
    · exact Int.lt_of_lt_of_le D0 s.b2
    · exact Int.lt_of_lt_of_le D0 s.b3)
  exact List.any_eq_true.2 ⟨k, hk, List.all_eq_true.2 fun o ho => decide_eq_true (hall o ho)⟩
theorem Sep.far {a b c d e f g h r nx ny D px py qx qy : Int} (s : Sep a b c d e f g h r nx ny D) (hp : D ≤ nx * px + ny * py) (hq : D ≤ nx * qx + ny * qy) : withinB px py qx qy r = false := within_of_far (far_of_sep s.D0 s.r hp hq)
theorem segs_of_sep {a b c d e f g h r nx ny D : Int} (s : Sep a b c d e f g h r nx ny D) : (segsI a b c d e f g h).any (segIn r) = false := by
  simp only [segsI, segIn, List.any_cons, List.any_nil, Bool.or_false, Bool.or_eq_false_iff]
  exact ⟨s.far s.a0 s.a1, s.far s.b0 s.b1, s.far s.a0 s.b0, s.far s.a1 s.a2, s.far s.b1 s.b2, s.far s.a1 s.b1, s.far s.a2 s.a3, s.far s.b2 s.b3, s.far s.a2 s.b2, s.far s.a3 s.a0, s.far s.b3 s.b0, s.far s.a3 s.b3⟩
/-- Places of an area are beyond the line that its corners are beyond. -/
theorem beyond {a b c d nx ny D x y : Int} (h0 : D ≤ nx * a + ny * c) (h1 : D ≤ nx * b + ny * c) (h2 : D ≤ nx * b + ny * d) (h3 : D ≤ nx * a + ny * d) (hx : a ≤ x ∧ x ≤ b) (hy : c ≤ y ∧ y ≤ d) : D ≤ nx * x + ny * y := by
  rcases Int.le_total 0 nx with hn | hn <;> rcases Int.le_total 0 ny with hm | hm
  · have := mulmono hn hx.1; have := mulmono hm hy.1; omega
  · have := mulmono hn hx.1; have := mulmono' hm hy.2; omega
  · have := mulmono' hn hx.2; have := mulmono hm hy.1; omega
  · have := mulmono' hn hx.2; have := mulmono' hm hy.2; omega
theorem Sep.inA {a b c d e f g h r nx ny D x y : Int} (s : Sep a b c d e f g h r nx ny D) (hx : a ≤ x ∧ x ≤ b) (hy : c ≤ y ∧ y ≤ d) : D ≤ nx * x + ny * y := beyond s.a0 s.a1 s.a2 s.a3 hx hy
theorem Sep.inB {a b c d e f g h r nx ny D x y : Int} (s : Sep a b c d e f g h r nx ny D) (hx : e ≤ x ∧ x ≤ f) (hy : g ≤ y ∧ y ≤ h) : D ≤ nx * x + ny * y := beyond s.b0 s.b1 s.b2 s.b3 hx hy
/-- Lesser areas are beyond the same line. -/
theorem Sep.part {a b c d e f g h r nx ny D a' b' c' d' e' f' g' h' : Int} (s : Sep a b c d e f g h r nx ny D) (ha : a ≤ a' ∧ a' ≤ b' ∧ b' ≤ b) (hc : c ≤ c' ∧ c' ≤ d' ∧ d' ≤ d) (he : e ≤ e' ∧ e' ≤ f' ∧ f' ≤ f) (hg : g ≤ g' ∧ g' ≤ h' ∧ h' ≤ h) : Sep a' b' c' d' e' f' g' h' r nx ny D :=
  ⟨s.D0, s.r, s.inA (by omega) (by omega), s.inA (by omega) (by omega), s.inA (by omega) (by omega), s.inA (by omega) (by omega), s.inB (by omega) (by omega), s.inB (by omega) (by omega), s.inB (by omega) (by omega), s.inB (by omega) (by omega)⟩
/-- The square of a sum over a span is greatest at an end. -/
theorem sq_ends {l u x : Int} (h1 : l ≤ x) (h2 : x ≤ u) : x * x ≤ l * l ∨ x * x ≤ u * u := by
  rcases Int.le_total 0 x with h | h
  · exact .inr (sq_le h h2)
  · left
    have := sq_le (show 0 ≤ -x by omega) (show -x ≤ -l by omega)
    rw [Int.neg_mul_neg, Int.neg_mul_neg] at this; exact this
/-- Where all corners are near, all places are. -/
theorem near_corners {a b c d r x y : Int} (h0 : nearB a c r = true) (h1 : nearB b c r = true) (h2 : nearB b d r = true) (h3 : nearB a d r = true) (hx : a ≤ x ∧ x ≤ b) (hy : c ≤ y ∧ y ≤ d) : nearB x y r = true := by
  simp only [nearB, decide_eq_true_eq] at *
  rcases sq_ends hx.1 hx.2 with e1 | e1 <;> rcases sq_ends hy.1 hy.2 with e2 | e2 <;> omega
end Go.Proofs.Ytagfhekjmkdjkaa

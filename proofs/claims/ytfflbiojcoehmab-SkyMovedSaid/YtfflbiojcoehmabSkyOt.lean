/- What a word excludes, as plain mathematics: no place of an excluded area agrees; a part of an excluded area is excluded; an area of one place is excluded if the place does not agree. No condition. -/
import Derived.Test.YtfflbiojcoehmabSkyS
namespace Go.Proofs.Ytfflbiojcoehmab
open Go.RowKit Go.Shelf
/-- A linear form over a box is nowhere more than at its corners. -/
theorem lin_box {p q r a b c d x y : Int} (h1 : p * a + q * c ≤ r) (h2 : p * a + q * d ≤ r) (h3 : p * b + q * c ≤ r) (h4 : p * b + q * d ≤ r) (ha : a ≤ x) (hb : x ≤ b) (hc : c ≤ y) (hd : y ≤ d) : p * x + q * y ≤ r := by
  have hx : p * x ≤ p * a ∨ p * x ≤ p * b := by
    rcases Int.le_total 0 p with hp | hp
    · exact .inr (Int.mul_le_mul_of_nonneg_left hb hp)
    · exact .inl (Int.mul_le_mul_of_nonpos_left hp ha)
  have hy : q * y ≤ q * c ∨ q * y ≤ q * d := by
    rcases Int.le_total 0 q with hq | hq
    · exact .inr (Int.mul_le_mul_of_nonneg_left hd hq)
    · exact .inl (Int.mul_le_mul_of_nonpos_left hq hc)
  rcases hx with hx | hx <;> rcases hy with hy | hy <;> omega
theorem sq_max {a b x : Int} (ha : a ≤ x) (hb : x ≤ b) : x * x ≤ a * a ∨ x * x ≤ b * b := by
  rcases Int.le_total 0 x with hx | hx
  · exact .inr (Int.mul_le_mul hb hb hx (by omega))
  · refine .inl ?_
    have h := Int.mul_le_mul (show -x ≤ -a by omega) (show -x ≤ -a by omega) (show 0 ≤ -x by omega) (show 0 ≤ -a by omega)
    simpa [Int.neg_mul_neg] using h
theorem sq_box {r a b c d x y : Int} (h1 : a * a + c * c ≤ r) (h2 : a * a + d * d ≤ r) (h3 : b * b + c * c ≤ r) (h4 : b * b + d * d ≤ r) (ha : a ≤ x) (hb : x ≤ b) (hc : c ≤ y) (hd : y ≤ d) : x * x + y * y ≤ r := by
  rcases sq_max ha hb with hx | hx <;> rcases sq_max hc hd with hy | hy <;> omega
/-- A test that holds of a box where it holds of its corners. -/
def Convex (f : V2 → Bool) : Prop := ∀ a b c d x y, (corV a b c d).all f = true → a ≤ x → x ≤ b → c ≤ y → y ≤ d → f ⟨x, y⟩ = true
theorem cor_all {f : V2 → Bool} {a b c d : Int} : (corV a b c d).all f = true ↔ f ⟨a, c⟩ = true ∧ f ⟨a, d⟩ = true ∧ f ⟨b, c⟩ = true ∧ f ⟨b, d⟩ = true := by
  unfold corV; simp
theorem Convex.part {f : V2 → Bool} (h : Convex f) {a b c d a' b' c' d' : Int} (hf : (corV a b c d).all f = true) (h1 : a ≤ a') (h2 : a' ≤ b') (h3 : b' ≤ b) (h4 : c ≤ c') (h5 : c' ≤ d') (h6 : d' ≤ d) : (corV a' b' c' d').all f = true := by
  rw [cor_all]
  exact ⟨h a b c d _ _ hf h1 (by omega) h4 (by omega), h a b c d _ _ hf h1 (by omega) (by omega) h6, h a b c d _ _ hf (by omega) h3 h4 (by omega), h a b c d _ _ hf (by omega) h3 (by omega) h6⟩
theorem cor_point {f : V2 → Bool} {x y : Int} : (corV x x y y).all f = f ⟨x, y⟩ := by
  unfold corV; simp
theorem convex_lin (p q r : Int) : Convex fun v => decide (p * v.x + q * v.y ≤ r) := by
  intro a b c d x y h ha hb hc hd
  rw [cor_all] at h
  simp only [decide_eq_true_eq] at h ⊢
  exact lin_box h.1 h.2.1 h.2.2.1 h.2.2.2 ha hb hc hd
theorem convex_sq (r : Int) : Convex fun v => decide (sqV v.x v.y ≤ r) := by
  intro a b c d x y h ha hb hc hd
  rw [cor_all] at h
  obtain ⟨h1, h2, h3, h4⟩ := h
  rw [decide_eq_true_eq] at h1 h2 h3 h4 ⊢
  exact sq_box h1 h2 h3 h4 ha hb hc hd
theorem Convex.of {f g : V2 → Bool} (h : Convex g) (e : ∀ v, f v = g v) : Convex f := by
  have : f = g := funext e
  rw [this]; exact h
theorem Convex.and {f g : V2 → Bool} (h1 : Convex f) (h2 : Convex g) : Convex fun v => f v && g v := by
  intro a b c d x y h ha hb hc hd
  rw [cor_all] at h
  simp only [Bool.and_eq_true] at h ⊢
  exact ⟨h1 a b c d x y (cor_all.2 ⟨h.1.1, h.2.1.1, h.2.2.1.1, h.2.2.2.1⟩) ha hb hc hd, h2 a b c d x y (cor_all.2 ⟨h.1.2, h.2.1.2, h.2.2.1.2, h.2.2.2.2⟩) ha hb hc hd⟩
theorem convex_behind (k : ConeR) : Convex fun v => behindB k v.x v.y :=
  (convex_lin k.dx k.dy 0).of fun _ => rfl
theorem convex_ahead (k : ConeR) : Convex fun v => !behindB k v.x v.y := by
  refine (convex_lin (-k.dx) (-k.dy) (-1)).of fun v => ?_
  unfold behindB aheadV
  rw [Bool.eq_iff_iff]
  simp only [Bool.not_eq_true', decide_eq_false_iff_not, decide_eq_true_eq, Int.neg_mul]
  omega
theorem right_lin (k : ConeR) (x y : Int) : 1000000 * leftV k x y - k.lo * aheadV k x y = (-(1000000 * k.dy) - k.lo * k.dx) * x + (1000000 * k.dx - k.lo * k.dy) * y := by unfold leftV aheadV; grind
theorem left_lin (k : ConeR) (x y : Int) : k.hi * aheadV k x y - 1000000 * leftV k x y = (1000000 * k.dy + k.hi * k.dx) * x + (k.hi * k.dy - 1000000 * k.dx) * y := by unfold leftV aheadV; grind
theorem convex_right (k : ConeR) : Convex fun v => rightB k v.x v.y := by
  refine (convex_lin (-(1000000 * k.dy) - k.lo * k.dx) (1000000 * k.dx - k.lo * k.dy) (-1)).of fun v => ?_
  unfold rightB
  rw [← right_lin, Bool.eq_iff_iff]
  simp only [decide_eq_true_eq]
  omega
theorem convex_nright (k : ConeR) : Convex fun v => !rightB k v.x v.y := by
  refine (convex_lin (-(-(1000000 * k.dy) - k.lo * k.dx)) (-(1000000 * k.dx - k.lo * k.dy)) 0).of fun v => ?_
  unfold rightB
  have := right_lin k v.x v.y
  rw [Bool.eq_iff_iff, Int.neg_mul, Int.neg_mul]
  simp only [Bool.not_eq_true', decide_eq_false_iff_not, decide_eq_true_eq]
  omega
theorem convex_left (k : ConeR) : Convex fun v => leftB2 k v.x v.y := by
  refine (convex_lin (1000000 * k.dy + k.hi * k.dx) (k.hi * k.dy - 1000000 * k.dx) (-1)).of fun v => ?_
  unfold leftB2
  rw [← left_lin, Bool.eq_iff_iff]
  simp only [decide_eq_true_eq]
  omega
theorem convex_nleft (k : ConeR) : Convex fun v => !leftB2 k v.x v.y := by
  refine (convex_lin (-(1000000 * k.dy + k.hi * k.dx)) (-(k.hi * k.dy - 1000000 * k.dx)) 0).of fun v => ?_
  unfold leftB2
  have := left_lin k v.x v.y
  rw [Bool.eq_iff_iff, Int.neg_mul, Int.neg_mul]
  simp only [Bool.not_eq_true', decide_eq_false_iff_not, decide_eq_true_eq]
  omega
theorem convex_has (k : ConeR) : Convex fun v => hasB k v.x v.y := ((convex_ahead k).and (convex_nright k)).and (convex_nleft k)
theorem convex_blocks (k : ConeR) (hi : Int) : Convex fun v => blocksB k hi v.x v.y := (convex_has k).and (convex_sq (hi * hi))
theorem convex_near (lo : Int) : Convex fun v => decide (sqV v.x v.y < lo * lo) := by
  refine (convex_sq (lo * lo - 1)).of fun v => ?_
  rw [Bool.eq_iff_iff]
  simp only [decide_eq_true_eq]
  omega
theorem nearV_le {a b x : Int} (ha : a ≤ x) (hb : x ≤ b) : nearV a b * nearV a b ≤ x * x := by
  unfold nearV
  rcases Int.le_total 0 a with h0 | h0
  · have e : max a (min b 0) = a := by omega
    rw [e]; exact Int.mul_le_mul ha ha h0 (by omega)
  · rcases Int.le_total b 0 with h1 | h1
    · have e : max a (min b 0) = b := by omega
      rw [e]
      have h := Int.mul_le_mul (show -b ≤ -x by omega) (show -b ≤ -x by omega) (show 0 ≤ -b by omega) (show 0 ≤ -x by omega)
      simpa [Int.neg_mul_neg] using h
    · have e : max a (min b 0) = 0 := by omega
      rw [e]; simpa using (by rcases Int.le_total 0 x with hx | hx; exact Int.mul_nonneg hx hx; exact Int.mul_nonneg_of_nonpos_of_nonpos hx hx : 0 ≤ x * x)
theorem nearV_mem {a b : Int} (h : a ≤ b) : a ≤ nearV a b ∧ nearV a b ≤ b := by unfold nearV; omega
theorem nearV_self (x : Int) : nearV x x = x := by unfold nearV; omega
theorem excl_out {g : WordR} {a b c d x y : Int} (h : excl g a b c d = true) (ha : a ≤ x) (hb : x ≤ b) (hc : c ≤ y) (hd : y ≤ d) : g.agrees x y = false := by
  cases g with
  | angle k =>
    simp only [excl, Bool.or_eq_true] at h
    simp only [WordR.agrees, hasB]
    rcases h with (h | h) | h
    · have := convex_behind k a b c d x y h ha hb hc hd; simp only at this; rw [this]; rfl
    · have := convex_right k a b c d x y h ha hb hc hd; simp only at this; rw [this]; simp
    · have := convex_left k a b c d x y h ha hb hc hd; simp only at this; rw [this]; simp
  | ring lo hi =>
    simp only [excl, Bool.or_eq_true] at h
    simp only [WordR.agrees, ringB]
    rcases h with h | h
    · have := convex_near lo a b c d x y h ha hb hc hd
      simp only [decide_eq_true_eq] at this
      have e : decide (lo * lo ≤ sqV x y) = false := by rw [decide_eq_false_iff_not]; omega
      rw [e]; rfl
    · simp only [decide_eq_true_eq] at h
      have h1 := nearV_le ha hb
      have h2 := nearV_le hc hd
      have e : decide (sqV x y ≤ hi * hi) = false := by rw [decide_eq_false_iff_not]; unfold sqV at *; omega
      rw [e]; simp
  | empty k hi =>
    simp only [excl] at h
    have := convex_blocks k hi a b c d x y h ha hb hc hd
    simp only at this
    simp only [WordR.agrees, this]; rfl
theorem excl_part {g : WordR} {a b c d a' b' c' d' : Int} (h : excl g a b c d = true) (h1 : a ≤ a') (h2 : a' ≤ b') (h3 : b' ≤ b) (h4 : c ≤ c') (h5 : c' ≤ d') (h6 : d' ≤ d) : excl g a' b' c' d' = true := by
  cases g with
  | angle k =>
    simp only [excl, Bool.or_eq_true] at h ⊢
    rcases h with (h | h) | h
    · exact .inl (.inl ((convex_behind k).part h h1 h2 h3 h4 h5 h6))
    · exact .inl (.inr ((convex_right k).part h h1 h2 h3 h4 h5 h6))
    · exact .inr ((convex_left k).part h h1 h2 h3 h4 h5 h6)
  | ring lo hi =>
    simp only [excl, Bool.or_eq_true] at h ⊢
    rcases h with h | h
    · exact .inl ((convex_near lo).part h h1 h2 h3 h4 h5 h6)
    · simp only [decide_eq_true_eq] at h ⊢
      obtain ⟨m1, m2⟩ := nearV_mem h2
      obtain ⟨m3, m4⟩ := nearV_mem h5
      have q1 := nearV_le (a := a) (b := b) (x := nearV a' b') (by omega) (by omega)
      have q2 := nearV_le (a := c) (b := d) (x := nearV c' d') (by omega) (by omega)
      refine .inr ?_
      unfold sqV at *; omega
  | empty k hi =>
    simp only [excl] at h ⊢
    exact (convex_blocks k hi).part h h1 h2 h3 h4 h5 h6
theorem excl_point (g : WordR) (x y : Int) : excl g x x y y = !(g.agrees x y) := by
  cases g with
  | angle k =>
    simp only [excl, cor_point, WordR.agrees, hasB]
    cases behindB k x y <;> cases rightB k x y <;> cases leftB2 k x y <;> rfl
  | ring lo hi =>
    simp only [excl, cor_point, WordR.agrees, ringB, nearV_self]
    rw [Bool.eq_iff_iff]
    simp only [Bool.or_eq_true, decide_eq_true_eq, Bool.not_eq_true', Bool.and_eq_false_iff, decide_eq_false_iff_not]
    omega
  | empty k hi =>
    simp only [excl, cor_point, WordR.agrees, Bool.not_not]
end Go.Proofs.Ytfflbiojcoehmab

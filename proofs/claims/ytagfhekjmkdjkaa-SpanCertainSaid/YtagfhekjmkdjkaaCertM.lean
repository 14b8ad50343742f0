/- Sure hits and sure misses of two areas, in plain numbers. No condition. -/
import Derived.Test.YtagfhekjmkdjkaaHull
namespace Go.Proofs.Ytagfhekjmkdjkaa
open Go.RowKit
theorem clear_iff {a b c d e f g h r : Int} (hab : a ≤ b) (hcd : c ≤ d) (hef : e ≤ f) (hgh : g ≤ h) : clearI a b c d e f g h r = true ↔ canB a b c d e f g h r = true ∧ ∃ nx ny D, Sep a b c d e f g h r nx ny D := by
  unfold clearI
  simp only [Bool.and_eq_true, Bool.not_eq_true']
  constructor
  · rintro ⟨⟨h1, h2⟩, h3⟩
    exact ⟨h1, sep_of hab hcd hef hgh h2 h3⟩
  · rintro ⟨h1, nx, ny, D, s⟩
    exact ⟨⟨h1, segs_of_sep s⟩, out_of_sep s⟩
theorem clear_out {a b c d e f g h r px py qx qy : Int} (hC : clearI a b c d e f g h r = true) (h1 : a ≤ px ∧ px ≤ b) (h2 : c ≤ py ∧ py ≤ d) (h3 : e ≤ qx ∧ qx ≤ f) (h4 : g ≤ qy ∧ qy ≤ h) : withinB px py qx qy r = false := by
  obtain ⟨_, nx, ny, D, s⟩ := (clear_iff (by omega) (by omega) (by omega) (by omega)).1 hC
  exact s.far (s.inA h1 h2) (s.inB h3 h4)
theorem clear_part {a b c d e f g h r a' b' c' d' e' f' g' h' : Int} (hC : clearI a b c d e f g h r = true) (ha : a ≤ a' ∧ a' ≤ b' ∧ b' ≤ b) (hc : c ≤ c' ∧ c' ≤ d' ∧ d' ≤ d) (he : e ≤ e' ∧ e' ≤ f' ∧ f' ≤ f) (hg : g ≤ g' ∧ g' ≤ h' ∧ h' ≤ h)
    (hk : canB a' b' c' d' e' f' g' h' r = true) : clearI a' b' c' d' e' f' g' h' r = true := by
  obtain ⟨_, nx, ny, D, s⟩ := (clear_iff (by omega) (by omega) (by omega) (by omega)).1 hC
  exact (clear_iff (by omega) (by omega) (by omega) (by omega)).2 ⟨hk, nx, ny, D, s.part ha hc he hg⟩
theorem canB_swap (a b c d e f g h r : Int) : canB e f g h a b c d r = canB a b c d e f g h r := by
  unfold canB; rw [Bool.and_comm (chkA e f g h == 0)]
theorem clear_swap {a b c d e f g h r : Int} (hab : a ≤ b) (hcd : c ≤ d) (hef : e ≤ f) (hgh : g ≤ h) : clearI e f g h a b c d r = clearI a b c d e f g h r := by
  rw [Bool.eq_iff_iff, clear_iff hab hcd hef hgh, clear_iff hef hgh hab hcd, canB_swap]
  constructor
  · rintro ⟨h1, nx, ny, D, s⟩; exact ⟨h1, nx, ny, D, s.swap⟩
  · rintro ⟨h1, nx, ny, D, s⟩; exact ⟨h1, nx, ny, D, s.swap⟩
/-- One segment is clear just if it doesn't come within r. -/
theorem clear_place {px py qx qy r : Int} (hk : canB px px py py qx qx qy qy r = true) : clearI px px py py qx qx qy qy r = !withinB px py qx qy r := by
  cases hw : withinB px py qx qy r
  · obtain ⟨nx, ny, D, al, be, ga, k⟩ := dir_of hw
    exact (clear_iff (Int.le_refl _) (Int.le_refl _) (Int.le_refl _) (Int.le_refl _)).2 ⟨hk, nx, ny, D, k.D0, k.r, k.p, k.p, k.p, k.p, k.q, k.q, k.q, k.q⟩
  · simp only [Bool.not_true]
    rw [Bool.eq_false_iff]
    intro hC
    rw [clear_out hC (by omega) (by omega) (by omega) (by omega)] at hw
    cases hw
theorem mix_mono {i a e b f x y : Int} (hi : 0 ≤ i ∧ i ≤ 8) (hx : a ≤ x ∧ x ≤ b) (hy : e ≤ y ∧ y ≤ f) : mixI i a e ≤ mixI i x y ∧ mixI i x y ≤ mixI i b f := by
  unfold mixI
  have h1 := Int.mul_le_mul_of_nonneg_right hx.1 (show 0 ≤ 8 - i by omega)
  have h2 := Int.mul_le_mul_of_nonneg_right hx.2 (show 0 ≤ 8 - i by omega)
  have h3 := Int.mul_le_mul_of_nonneg_right hy.1 hi.1
  have h4 := Int.mul_le_mul_of_nonneg_right hy.2 hi.1
  omega
theorem bt_in {a b c d e f g h r i px py qx qy : Int} (hi : 0 ≤ i ∧ i ≤ 8) (hb : btB a b c d e f g h r i = true) (h1 : a ≤ px ∧ px ≤ b) (h2 : c ≤ py ∧ py ≤ d) (h3 : e ≤ qx ∧ qx ≤ f) (h4 : g ≤ qy ∧ qy ≤ h) : nearB (mixI i px qx) (mixI i py qy) (8 * r) = true := by
  unfold btB allB at hb
  simp only [Bool.and_eq_true] at hb
  obtain ⟨⟨⟨k1, k2⟩, k3⟩, k4⟩ := hb
  exact near_corners k1 k2 k3 k4 (mix_mono hi h1 h3) (mix_mono hi h2 h4)
theorem bt_within {r i px py qx qy : Int} (hi : 0 ≤ i ∧ i ≤ 8) (hn : nearB (mixI i px qx) (mixI i py qy) (8 * r) = true) : withinB px py qx qy r = true := by
  cases hw : withinB px py qx qy r
  · have := far_of_within hw (8 - i) i (by omega) hi.1 (by omega)
    unfold mixI at hn
    simp only [nearB, decide_eq_true_eq] at hn
    rw [Int.mul_comm px, Int.mul_comm qx, Int.mul_comm py, Int.mul_comm qy] at hn
    rw [show 8 - i + i = 8 by omega] at this
    rw [show 8 * r * (8 * r) = r * r * (8 * 8) by grind] at hn
    omega
  · rfl
theorem hits_iff {a b c d e f g h r : Int} : hitsB a b c d e f g h r = true ↔ canB a b c d e f g h r = true ∧ ((a = b ∧ c = d ∧ e = f ∧ g = h ∧ withinB a c e g r = true) ∨ ∃ i, (0 ≤ i ∧ i ≤ 8) ∧ btB a b c d e f g h r i = true) := by
  unfold hitsB plB
  simp only [Bool.and_eq_true, Bool.or_eq_true, beq_iff_eq, List.any_eq_true, List.mem_range]
  constructor
  · rintro ⟨h1, ⟨⟨⟨p1, p2⟩, p3, p4⟩, p5⟩ | ⟨i, hi, hb⟩⟩
    · exact ⟨h1, .inl ⟨p1, p2, p3, p4, p5⟩⟩
    · exact ⟨h1, .inr ⟨i, by omega, hb⟩⟩
  · rintro ⟨h1, ⟨p1, p2, p3, p4, p5⟩ | ⟨i, hi, hb⟩⟩
    · exact ⟨h1, .inl ⟨⟨⟨p1, p2⟩, p3, p4⟩, p5⟩⟩
    · refine ⟨h1, .inr ⟨i.toNat, by omega, ?_⟩⟩
      rw [show (i.toNat : Int) = i by omega]; exact hb
theorem hits_in {a b c d e f g h r px py qx qy : Int} (hH : hitsB a b c d e f g h r = true) (h1 : a ≤ px ∧ px ≤ b) (h2 : c ≤ py ∧ py ≤ d) (h3 : e ≤ qx ∧ qx ≤ f) (h4 : g ≤ qy ∧ qy ≤ h) : withinB px py qx qy r = true := by
  rcases (hits_iff.1 hH).2 with ⟨p1, p2, p3, p4, p5⟩ | ⟨i, hi, hb⟩
  · rw [show px = a by omega, show py = c by omega, show qx = e by omega, show qy = g by omega]; exact p5
  · exact bt_within hi (bt_in hi hb h1 h2 h3 h4)
theorem hits_part {a b c d e f g h r a' b' c' d' e' f' g' h' : Int} (hH : hitsB a b c d e f g h r = true) (ha : a ≤ a' ∧ a' ≤ b' ∧ b' ≤ b) (hc : c ≤ c' ∧ c' ≤ d' ∧ d' ≤ d) (he : e ≤ e' ∧ e' ≤ f' ∧ f' ≤ f) (hg : g ≤ g' ∧ g' ≤ h' ∧ h' ≤ h)
    (hk : canB a' b' c' d' e' f' g' h' r = true) : hitsB a' b' c' d' e' f' g' h' r = true := by
  refine hits_iff.2 ⟨hk, ?_⟩
  rcases (hits_iff.1 hH).2 with ⟨p1, p2, p3, p4, p5⟩ | ⟨i, hi, hb⟩
  · left
    rw [show a' = a by omega, show b' = a by omega, show c' = c by omega, show d' = c by omega, show e' = e by omega, show f' = e by omega, show g' = g by omega, show h' = g by omega]
    exact ⟨rfl, rfl, rfl, rfl, p5⟩
  · right
    refine ⟨i, hi, ?_⟩
    unfold btB allB
    simp only [Bool.and_eq_true]
    exact ⟨⟨⟨bt_in hi hb (by omega) (by omega) (by omega) (by omega), bt_in hi hb (by omega) (by omega) (by omega) (by omega)⟩, bt_in hi hb (by omega) (by omega) (by omega) (by omega)⟩, bt_in hi hb (by omega) (by omega) (by omega) (by omega)⟩
theorem hits_place {px py qx qy r : Int} (hk : canB px px py py qx qx qy qy r = true) : hitsB px px py py qx qx qy qy r = withinB px py qx qy r := by
  rw [Bool.eq_iff_iff]
  constructor
  · intro hH; exact hits_in hH (by omega) (by omega) (by omega) (by omega)
  · intro hw; exact hits_iff.2 ⟨hk, .inl ⟨rfl, rfl, rfl, rfl, hw⟩⟩
theorem hit_not_clear {a b c d e f g h r : Int} (hab : a ≤ b) (hcd : c ≤ d) (hef : e ≤ f) (hgh : g ≤ h) (hH : hitsB a b c d e f g h r = true) : clearI a b c d e f g h r = false := by
  rw [Bool.eq_false_iff]
  intro hC
  have h1 := hits_in hH (px := a) (py := c) (qx := e) (qy := g) (by omega) (by omega) (by omega) (by omega)
  rw [clear_out hC (px := a) (py := c) (qx := e) (qy := g) (by omega) (by omega) (by omega) (by omega)] at h1
  cases h1
end Go.Proofs.Ytagfhekjmkdjkaa

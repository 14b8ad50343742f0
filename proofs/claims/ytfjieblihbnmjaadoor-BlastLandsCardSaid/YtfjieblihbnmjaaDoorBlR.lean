/- Falls of stones and craters of energies as plain mathematics. No condition. -/
import Derived.Test.YtfjieblihbnmjaaDoorBlM
import Derived.Test.YtfjieblihbnmjaaDoorRoot
import Derived.Test.YtfjieblihbnmjaaDoorMulDiv
namespace Go.Proofs.YtfjieblihbnmjaaDoor
open Go.RowKit Go.Shelf
def kOf (s : StoneR) (v : V2) : Int := v.y * (cei (v.x * 1000) s.slope * s.shape)
def dOf (s : StoneR) : Int := s.dens * s.size * 1000
/-- Where a stone ends. -/
def endOf (l : List V2) (s : StoneR) : Int × Int := fallI (holdsV s) (kOf s) (dOf s) l 0 (s.speed * s.speed)
theorem cei_le {n c : Int} (hn : 0 ≤ n) (hc : 0 < c) : 0 ≤ cei n c ∧ cei n c ≤ n := by
  have h := cei_eq (n := n) hc
  have h1 := Int.emod_add_mul_ediv n c
  have h2 := Int.emod_nonneg n (b := c) (by omega)
  have hq : 0 ≤ n / c := Int.ediv_nonneg hn (by omega)
  have h3 : n / c ≤ c * (n / c) := by
    have := Int.mul_le_mul_of_nonneg_right (show 1 ≤ c by omega) hq
    omega
  split at h <;> omega
theorem MulDiv_pos (a b c : Int) (w : World) (ha : 0 ≤ a ∧ a ≤ 1152921504606846976) (hb : 0 ≤ b ∧ b ≤ 1152921504606846976) (hc : 0 < c ∧ c ≤ 1152921504606846976) (hq : cei (a * b) c ≤ 1152921504606846976) :
    Calls Tryd.prog 107 #[.int .i64 a, .int .i64 b, .int .i64 c] w (Gives (.tuple #[.int .i64 (a * b / c), .int .i64 (cei (a * b) c), .int .i64 0]) w) := by
  have h0 : 0 ≤ a * b := Int.mul_nonneg ha.1 hb.1
  have n1 : numB a = true := numB_true.2 (by omega)
  have n2 : numB b = true := numB_true.2 (by omega)
  have n3 : numB c = true := numB_true.2 (by omega)
  have ok : okP (a * b) c = true := by unfold okP; simp only [decide_eq_true_eq]; exact hq
  have e1 : ovN (a * b) c = a * b := by unfold ovN; rw [if_neg (by omega)]
  have e2 : ovC c = c := by unfold ovC; rw [if_neg (by omega)]
  have k1 : ovB (a * b) c = true := by unfold ovB; rw [e1, e2, if_pos h0]; exact ok
  have k2 : ovD (a * b) c = a * b / c := by unfold ovD downP; rw [e1, e2, if_pos h0, if_pos ok]
  have k3 : ovU (a * b) c = cei (a * b) c := by unfold ovU upP; rw [e1, e2, if_pos h0, if_pos ok]
  have k4 : mdE a b c = 0 := by unfold mdE; rw [if_pos ⟨n1, n2, n3, by omega⟩, if_pos k1]
  have := MulDiv_any a b c w (by unfold I64; omega) (by unfold I64; omega)
  unfold mdL mdH at this
  rw [k4] at this
  simp only [if_true, k2, k3] at this
  exact this
def craterI (e : Int) : Int := rootI (rootI (max e 0))
theorem crater_spec {e : Int} (h0 : 0 ≤ e) (h1 : e < 1152921504606846976) : 0 ≤ craterI e ∧ craterI e < 32768 ∧ craterI e * craterI e * craterI e * craterI e ≤ e ∧ e < (craterI e + 1) * (craterI e + 1) * (craterI e + 1) * (craterI e + 1) := by
  unfold craterI
  rw [show max e 0 = e by omega]
  obtain ⟨a1, a2, a3⟩ := rootI_spec h0 (show e < 18446744073709551616 by omega)
  generalize rootI e = r at *
  have hr : r ≤ e := by
    rcases Int.lt_or_le e r with h | h
    · have := Int.mul_le_mul (show 1 ≤ r by omega) (Int.le_refl r) (by omega) (by omega); omega
    · exact h
  obtain ⟨b1, b2, b3⟩ := rootI_spec a1 (show r < 18446744073709551616 by omega)
  generalize rootI r = c at *
  have c1 := Int.mul_le_mul b2 b2 (Int.mul_nonneg b1 b1) (by omega)
  have c2 := Int.mul_le_mul (show r + 1 ≤ (c + 1) * (c + 1) by omega) (show r + 1 ≤ (c + 1) * (c + 1) by omega) (by omega) (Int.mul_nonneg (show 0 ≤ c + 1 by omega) (show 0 ≤ c + 1 by omega))
  have e1 : c * c * c * c = c * c * (c * c) := by grind
  have e2 : (c + 1) * (c + 1) * (c + 1) * (c + 1) = (c + 1) * (c + 1) * ((c + 1) * (c + 1)) := by grind
  refine ⟨b1, ?_, by omega, by omega⟩
  rcases Int.lt_or_le c 32768 with h | h
  · exact h
  · have d1 := Int.mul_le_mul h h (by omega) b1
    have d2 := Int.mul_le_mul d1 d1 (by omega) (Int.mul_nonneg b1 b1)
    omega
/-- What a layer takes, within the numbers that package span computes with. -/
theorem way_bounds {s : StoneR} (h : s.Ok) {v : V2} (hv : 1 ≤ v.x ∧ v.x ≤ 1000) : 0 ≤ cei (v.x * 1000) s.slope ∧ cei (v.x * 1000) s.slope ≤ 1000000 := by
  have := cei_le (n := v.x * 1000) (c := s.slope) (by omega) (by have := h.slope; omega)
  omega
theorem k_bounds {s : StoneR} (h : s.Ok) {v : V2} (hv : 1 ≤ v.x ∧ v.x ≤ 1000) (hy : 0 ≤ v.y ∧ v.y ≤ 1000) : 0 ≤ cei (v.x * 1000) s.slope * s.shape ∧ cei (v.x * 1000) s.slope * s.shape ≤ 2000000000 ∧ 0 ≤ kOf s v := by
  have a := way_bounds h hv
  have b := h.shape
  have c := Int.mul_nonneg a.1 (show 0 ≤ s.shape by omega)
  have d := Int.mul_le_mul a.2 b.2 (by omega) (by omega)
  exact ⟨c, by omega, Int.mul_nonneg hy.1 c⟩
theorem d_bounds {s : StoneR} (h : s.Ok) : (1 ≤ s.dens * s.size ∧ s.dens * s.size ≤ 9000000) ∧ 1000 ≤ dOf s ∧ dOf s ≤ 9000000000 := by
  have a := h.dens
  have b := h.size
  have c := Int.mul_le_mul a.1 b.1 (by omega) (by omega)
  have d := Int.mul_le_mul a.2 b.2 (by omega) (by omega)
  unfold dOf
  omega
theorem lost_bounds {s : StoneR} (h : s.Ok) {v : V2} (hv : 1 ≤ v.x ∧ v.x ≤ 1000) (hy : 0 ≤ v.y ∧ v.y ≤ 1000) {w : Int} (hw : 0 ≤ w ∧ w ≤ 64000000) :
    (0 ≤ w * v.y ∧ w * v.y ≤ 64000000000) ∧ w * v.y * (cei (v.x * 1000) s.slope * s.shape) = w * kOf s v ∧ cei (w * v.y * (cei (v.x * 1000) s.slope * s.shape)) (dOf s) ≤ 1152921504606846976 := by
  have a := k_bounds h hv hy
  have d := d_bounds h
  have c := Int.mul_nonneg hw.1 hy.1
  have e := Int.mul_le_mul hw.2 hy.2 (by omega) (by omega)
  have f := Int.mul_le_mul (show w * v.y ≤ 64000000000 by omega) a.2.1 a.1 (by omega)
  have g := Int.mul_nonneg c a.1
  refine ⟨by omega, by unfold kOf; rw [Int.mul_assoc], ?_⟩
  have q := cei_eq (n := w * v.y * (cei (v.x * 1000) s.slope * s.shape)) (c := dOf s) (by omega)
  have r : w * v.y * (cei (v.x * 1000) s.slope * s.shape) / dOf s ≤ 128000000000000000 := by
    refine Int.le_trans (div_anti g (show (0:Int) < 1000 by decide) d.2.1) ?_
    have := div_mono_num (show w * v.y * (cei (v.x * 1000) s.slope * s.shape) ≤ 128000000000000000 * 1000 by omega) (show (0:Int) < 1000 by decide)
    omega
  split at q <;> omega
end Go.Proofs.YtfjieblihbnmjaaDoor

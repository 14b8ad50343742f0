/- What BlastOrders asks of the falls of three stones, as plain mathematics. Condition: a valid stone and valid air. -/
import Derived.Test.YtpiacndnjehbiaaDoorBlEnds
import Derived.Test.YtpiacndnjehbiaaDoorBlTwo
import Derived.Test.YtpiacndnjehbiaaDoorBlA
import Derived.Test.YtpiacndnjehbiaaDoorBlRock
namespace Go.Proofs.YtpiacndnjehbiaaDoor
open Go.RowKit Go.Shelf
theorem stoneIn_ok {s : StoneR} {k : RockR} {f : FallR} (h : StoneIn s k f) (hk : RockOk k f) : s.Ok ∧ s.strong ≤ 34359738368 ∧ s.speed ≤ 5000 :=
  ⟨⟨by have := h.size; have := hk.size; omega, by have := h.dens; have := hk.dens; omega, by have := h.strong; have := hk.strong; omega, by have := h.spin; have := hk.spin; omega, by have := h.shape; have := hk.shape; omega, by have := h.speed; have := hk.speed; omega, by have := h.slope; have := hk.slope; omega⟩, by have := h.strong; have := hk.strong; omega, by have := h.speed; have := hk.speed; omega⟩
def strongS (s : StoneR) (n : Int) : StoneR := ⟨s.size, s.dens, s.strong + n, s.spin, s.shape, s.pile, s.speed, s.slope⟩
def fastS (s : StoneR) (n : Int) : StoneR := ⟨s.size, s.dens, s.strong, s.spin, s.shape, s.pile, s.speed + n, s.slope⟩
def thickL (n : Int) (v : V2) : V2 := ⟨v.x + n, v.y⟩
theorem cei_mono {n n' c : Int} (h : n ≤ n') (hc : 0 < c) : cei n c ≤ cei n' c := by
  have h1 := Int.ediv_le_ediv hc (show -n' ≤ -n by omega)
  unfold cei
  omega
theorem orders_spec {s : StoneR} {l : List V2} {st fa th : Int} (hs : s.Ok) (hst : s.strong ≤ 34359738368) (hsp : s.speed ≤ 5000) (hl : LaysOk l) (h1 : 0 ≤ st) (h2 : st < 68719476736) (h3 : 0 ≤ fa) (h4 : fa < 1000) (h5 : 0 ≤ th) (h6 : th < 100) :
    (strongS s st).Ok ∧ (fastS s fa).Ok ∧ airE l = 0 ∧ airE (l.map (thickL th)) = 0 ∧ (endOf l s).1 ≤ (endOf l (strongS s st)).1 ∧ (endOf l (fastS s fa)).1 ≤ (endOf l s).1 ∧ (endOf l s).1 ≤ (endOf (l.map (thickL th)) s).1 ∧ ((endOf (l.map (thickL th)) s).1 = (endOf l s).1 → massV s * (endOf (l.map (thickL th)) s).2 ≤ massV s * (endOf l s).2) := by
  obtain ⟨hd, hp⟩ := d_bounds hs
  have hD : 0 < dOf s := by omega
  refine ⟨⟨hs.size, hs.dens, by have := hs.strong; simp only [strongS] at *; omega, hs.spin, hs.shape, hs.speed, hs.slope⟩, ⟨hs.size, hs.dens, hs.strong, hs.spin, hs.shape, by have := hs.speed; simp only [fastS] at *; omega, hs.slope⟩, airE_ok (by have := hl.len; omega) (fun v hv => by have := hl.all v hv; omega), airE_ok (by rw [List.length_map]; have := hl.len; omega) (fun v hv => ?_), ?_, ?_, ?_⟩
  · obtain ⟨u, hu, rfl⟩ := List.mem_map.1 hv
    have := hl.all u hu
    simp only [thickL]; omega
  · refine fall_strong ?_ _ _ _ _ _
    unfold holdsV strongS
    simp only
    split
    · refine Int.ediv_le_ediv (by decide) (Int.mul_le_mul_of_nonneg_right (by omega) ?_)
      have := hs.spin
      omega
    · omega
  · have h7 := Int.mul_le_mul (show s.speed ≤ s.speed + fa by omega) (show s.speed ≤ s.speed + fa by omega) (by have := hs.speed; omega) (by have := hs.speed; omega)
    exact fall_fast hD l 0 (s.speed * s.speed) ((s.speed + fa) * (s.speed + fa)) (fun v hv => ⟨(hl.all v hv).2.1, (k_bounds hs (by have := hl.all v hv; omega) (hl.all v hv).2).2.2⟩) (Int.mul_nonneg (by have := hs.speed; omega) (by have := hs.speed; omega)) h7
  · have h7 := fall_thick (h := holdsV s) (K := kOf s) hD (thickL th) (fun _ => rfl) l 0 (s.speed * s.speed) (s.speed * s.speed) (fun v hv => by
      have h8 := hl.all v hv
      refine ⟨h8.2.1, (k_bounds hs (by omega) h8.2).2.2, ?_⟩
      unfold kOf
      have h9 := cei_mono (show v.x * 1000 ≤ (v.x + th) * 1000 by omega) (show 0 < s.slope by have := hs.slope; omega)
      exact Int.mul_le_mul_of_nonneg_left (Int.mul_le_mul_of_nonneg_right h9 (by have := hs.shape; omega)) h8.2.1) (Int.mul_nonneg (by have := hs.speed; omega) (by have := hs.speed; omega)) (Int.le_refl _)
    refine ⟨h7.1, fun h10 => Int.mul_le_mul_of_nonneg_left (h7.2 h10) ?_⟩
    unfold massV
    refine Int.ediv_nonneg ?_ (by decide)
    have a1 := hs.size
    have a2 := hs.dens
    exact Int.mul_nonneg (Int.mul_nonneg (Int.mul_nonneg (by omega) (by omega)) (by omega)) (by omega)
end Go.Proofs.YtpiacndnjehbiaaDoor

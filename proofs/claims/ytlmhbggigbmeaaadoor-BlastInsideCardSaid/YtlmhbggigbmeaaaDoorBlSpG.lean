/- What BlastOrders asks of the falls of three stones, as plain mathematics. Condition: a valid stone and valid air. What BlastSole asks of the blows of one stone, as plain mathematics. Condition: a valid stone. -/
import Derived.Test.YtlmhbggigbmeaaaDoorBlBgG
import Derived.Test.YtlmhbggigbmeaaaDoorBlAG
import Derived.Test.YtlmhbggigbmeaaaDoorBlRock
import Derived.Test.YtlmhbggigbmeaaaDoorBlAlG
import Derived.Test.YtlmhbggigbmeaaaDoorBlBl
import Derived.Test.YtlmhbggigbmeaaaDoorBlSo
namespace Go.Proofs.YtlmhbggigbmeaaaDoor
open Go.RowKit Go.Shelf
theorem stoneIn_ok {s : StoneR} {k : RockR} {f : FallR} (h : StoneIn s k f) (hk : RockOk k f) : s.Ok ∧ s.strong ≤ 34359738368 ∧ s.speed ≤ 5000 :=
  ⟨⟨by have := h.size; have := hk.size; omega, by have := h.dens; have := hk.dens; omega, by have := h.strong; have := hk.strong; omega, by have := h.spin; have := hk.spin; omega, by have := h.shape; have := hk.shape; omega, by have := h.speed; have := hk.speed; omega, by have := h.slope; have := hk.slope; omega⟩, by have := h.strong; have := hk.strong; omega, by have := h.speed; have := hk.speed; omega⟩
def strongS (s : StoneR) (n : Int) : StoneR := ⟨s.size, s.dens, s.strong + n, s.spin, s.shape, s.pile, s.speed, s.slope⟩
def fastS (s : StoneR) (n : Int) : StoneR := ⟨s.size, s.dens, s.strong, s.spin, s.shape, s.pile, s.speed + n, s.slope⟩
def thickL (n : Int) (v : V2) : V2 := ⟨v.x + n, v.y⟩
theorem cei_mono {n n' c : Int} (h : n ≤ n') (hc : 0 < c) : cei n c ≤ cei n' c := by
  have h1 := Int.ediv_le_ediv hc (show -n' ≤ -n by omega)
  unfold cei
  omega
theorem orders_spec {s : StoneR} {l : List V2} {st fa th : Int} (hs : s.Ok) (hst : s.strong ≤ 34359738368) (hsp : s.speed ≤ 5000) (hl : LaysOk l) (h1 : 0 ≤ st) (h2 : st < 68719476736) (h3 : 0 ≤ fa) (h4 : fa < 1000) (h5 : 0 ≤ th) (h6 : th < 100) :
    (strongS s st).Ok ∧ (fastS s fa).Ok ∧ airE l = 0 ∧ airE (l.map (thickL th)) = 0 ∧ (endOf l s).1 ≤ (endOf l (strongS s st)).1 ∧ (endOf l (fastS s fa)).1 ≤ (endOf l s).1 ∧ (endOf l s).1 ≤ (endOf (l.map (thickL th)) s).1 ∧ ((endOf (l.map (thickL th)) s).1 = (endOf l s).1 → massV s * (endOf (l.map (thickL th)) s).2 ≤ massV s * (endOf l s).2) := by
  obtain ⟨hd, hp⟩ := d_bounds hs
  have hD : 0 < dOf s := by omega
  refine ⟨⟨hs.size, hs.dens, by have := hs.strong; simp only [strongS] at *; omega, hs.spin, hs.shape, hs.speed, hs.slope⟩, ⟨hs.size, hs.dens, hs.strong, hs.spin, hs.shape, by have := hs.speed; simp only [fastS] at *; omega, hs.slope⟩, airE_ok (by have := hl.len; omega) (fun v hv => by have := hl.all v hv; omega), airE_ok (by rw [List.length_map]; have := hl.len; omega) (fun v hv => ?_), ?_, ?_, ?_⟩
  · obtain ⟨u, hu, rfl⟩ := List.mem_map.1 hv
    have := hl.all u hu
    simp only [thickL]; omega
  · refine fall_strong ?_ _ _ _ _ _
    unfold holdsV strongS
    simp only
    split
    · refine Int.ediv_le_ediv (by decide) (Int.mul_le_mul_of_nonneg_right (by omega) ?_)
      have := hs.spin
      omega
    · omega
  · have h7 := Int.mul_le_mul (show s.speed ≤ s.speed + fa by omega) (show s.speed ≤ s.speed + fa by omega) (by have := hs.speed; omega) (by have := hs.speed; omega)
    exact fall_fast hD l 0 (s.speed * s.speed) ((s.speed + fa) * (s.speed + fa)) (fun v hv => ⟨(hl.all v hv).2.1, (k_bounds hs (by have := hl.all v hv; omega) (hl.all v hv).2).2.2⟩) (Int.mul_nonneg (by have := hs.speed; omega) (by have := hs.speed; omega)) h7
  · have h7 := fall_thick (h := holdsV s) (K := kOf s) hD (thickL th) (fun _ => rfl) l 0 (s.speed * s.speed) (s.speed * s.speed) (fun v hv => by
      have h8 := hl.all v hv
      refine ⟨h8.2.1, (k_bounds hs (by omega) h8.2).2.2, ?_⟩
      unfold kOf
      have h9 := cei_mono (show v.x * 1000 ≤ (v.x + th) * 1000 by omega) (show 0 < s.slope by have := hs.slope; omega)
      exact Int.mul_le_mul_of_nonneg_left (Int.mul_le_mul_of_nonneg_right h9 (by have := hs.shape; omega)) h8.2.1) (Int.mul_nonneg (by have := hs.speed; omega) (by have := hs.speed; omega)) (Int.le_refl _)
    refine ⟨h7.1, fun h10 => Int.mul_le_mul_of_nonneg_left (h7.2 h10) ?_⟩
    unfold massV
    refine Int.ediv_nonneg ?_ (by decide)
    have a1 := hs.size
    have a2 := hs.dens
    exact Int.mul_nonneg (Int.mul_nonneg (Int.mul_nonneg (by omega) (by omega)) (by omega)) (by omega)
end Go.Proofs.YtlmhbggigbmeaaaDoor
namespace Go.Proofs.YtlmhbggigbmeaaaDoor
open Go.RowKit Go.Shelf
theorem sole_blows (s : StoneR) : ∀ (l : List V2) (i : Nat) (w : Int), ∃ n : Nat, (fallI (holdsV s) (kOf s) (dOf s) l i w).1 = n ∧ thru (blowsL s s l i w w) = [⟨n, massV s * (fallI (holdsV s) (kOf s) (dOf s) l i w).2, massV s * (fallI (holdsV s) (kOf s) (dOf s) l i w).2, true⟩]
  | [], i, w => ⟨i, by simp [fallI], by simp [blowsL, thru, fallI]⟩
  | v :: l, i, w => by
    by_cases h : 0 < v.y * w ∧ holdsV s ≤ v.y * w
    · have hb : burstB s v.y w = true := decide_eq_true h
      refine ⟨i, by rw [fallI, if_pos h], ?_⟩
      rw [blowsL, fallI, if_pos h, hb, if_pos rfl]
      simp [thru]
    · have hb : burstB s v.y w = false := decide_eq_false h
      obtain ⟨n, h1, h2⟩ := sole_blows s l (i + 1) (stp w (kOf s v) (dOf s))
      refine ⟨n, ?_, ?_⟩
      · rw [fallI, if_neg h]; exact h1
      · rw [blowsL, fallI, if_neg h, hb]
        simp only [Bool.false_eq_true, if_false, List.nil_append]
        exact h2
theorem sole_spec {s : StoneR} (l : List V2) (h : s.Ok) : rockE (soleK s) (soleF s) = 0 ∧ ∃ n : Nat, (endOf l s).1 = n ∧ v3s (blowsV l (soleK s) (soleF s)) = [⟨n, massV s * (endOf l s).2, massV s * (endOf l s).2⟩] := by
  refine ⟨?_, ?_⟩
  · have e : ∀ a m1 m2 : Int, m1 ≤ a ∧ a ≤ m2 → spE ⟨a, a⟩ ⟨m1, m2⟩ = 0 := fun a m1 m2 h => by
      unfold spE
      simp only
      rw [if_neg (by omega), if_pos h]
    unfold rockE spansL limsL soleK soleF
    simp only [firstE, e _ _ _ h.size, e _ _ _ h.dens, e _ _ _ h.strong, e _ _ _ h.spin, e _ _ _ h.shape, e _ _ _ h.speed, e _ _ _ h.slope, if_true]
  · obtain ⟨n, h1, h2⟩ := sole_blows s l 0 (s.speed * s.speed)
    refine ⟨n, h1, ?_⟩
    unfold blowsV
    rw [(first_sole s).1, (first_sole s).2, h2]
    rfl
theorem of_any (a b : Int) (w : World) : Calls Tryd.prog 28 #[.int .i64 a, .int .i64 b] w (Gives (.agg #[.int .i64 a, .int .i64 b]) w) := by
  go_enter Tryd.func28, Tryd.ntmps28
  go_wp2_with (first | ((first | with_reducible refine wrx2 ?_ | with_reducible refine wrx ?_); (repeat (first | go_big_quiet_step ((first | fail)) | quiet_step ((first | fail)))); refine wpQuiet_nil ?_; rintro _ ⟨yr, rfl⟩; have syr := Ext.size yr; (repeat (first | rw [World.size_alloc] at syr | rw [World.size_setCell] at syr | rw [World.size_drew] at syr))))
  refine bodyPost_ret (v := .agg #[.int .i64 a, .int .i64 b]) (by simp (maxDischargeDepth := 9) [results, Tryd.results28, go_sem]) rfl ?_
  refine ⟨rfl, ?_⟩
  repeat' (first | (with_reducible exact Below.refl _ _) | (with_reducible assumption) | (with_reducible refine Ext.below _ ?_ ?_) | (with_reducible refine Below.on ?_ (by with_reducible assumption) ?_) | (with_reducible refine Below.alloc ?_ ?_ _) | (with_reducible refine Below.drew ?_) | (with_reducible refine Below.setCell ?_ ?_ _) | (with_reducible exact Nat.le_refl _) | omega | (simp; done) | (simp [go_sem]; done) | (simp at *; omega))
end Go.Proofs.YtlmhbggigbmeaaaDoor

/- Contract of package span's MulDiv. Condition: numbers of 64 bits. Falls of stones and craters of energies as plain mathematics. No condition. From a law's contract ('it returns true, and nothing that was there has turned') to what its statement asks of one call. A list of whole numbers that came in, as the ring wants it. -/
import Derived.Test.YtlmhbggigbmeaaaDoorOver
import Derived.Test.YtlmhbggigbmeaaaDoorBlMG
import Derived.Test.YtlmhbggigbmeaaaDoorRootG
import Derived.Test.YtlmhbggigbmeaaaDoorRows
import Derived.Test.YtlmhbggigbmeaaaDoorBase
import Derived.WalkKit
import Derived.ProofKit
import Derived.OpenShut
import Derived.Carry
import Derived.JoinedOf
import Derived.JoinedAt
import Derived.RowKit3
import Derived.Lib.SmallJoins
import Derived.ChangeSlices
namespace Go.Proofs.YtlmhbggigbmeaaaDoor
open Go.RowKit Go.Shelf
attribute [local go_sem] Ext.cell Ext.frozen Ext.lt Ext.le Ext.lt_add Ext.le_add Ext.ne Ext.ne' lt2 lt3 lt4 lt5 le2 le3 le4
/-- The error of a product that is divided; its ends. -/
def mdE (a b c : Int) : Int := if numB a = true ∧ numB b = true ∧ numB c = true ∧ c ≠ 0 then (if ovB (a * b) c = true then 0 else 14) else 2
def mdL (a b c : Int) : Int := if mdE a b c = 0 then ovD (a * b) c else 0
def mdH (a b c : Int) : Int := if mdE a b c = 0 then ovU (a * b) c else 0
theorem MulDiv_any (a b c : Int) (w : World) (ha : I64 a) (hb : I64 b) : Calls Tryd.prog 106 #[.int .i64 a, .int .i64 b, .int .i64 c] w (Gives (.tuple #[.int .i64 (mdL a b c), .int .i64 (mdH a b c), .int .i64 (mdE a b c)]) w) := by
  unfold mdL mdH
  by_cases h : numB a = true ∧ numB b = true ∧ numB c = true ∧ c ≠ 0
  · obtain ⟨h1, h2, h3, h4⟩ := h
    have n1 := numB_true.1 h1
    have n2 := numB_true.1 h2
    have n3 := numB_true.1 h3
    have pb := mul_bounds (B := 1152921504606846976) n1.1 n1.2 n2.1 n2.2
    simp only [Int.reduceMul, Int.reduceNeg] at pb
    have hv : mdE a b c = if ovB (a * b) c = true then 0 else 14 := by unfold mdE; rw [if_pos ⟨h1, h2, h3, h4⟩]
    rw [hv]
    have OV := Go.Lib.hid (fun W => over_any (a * b) c W (by omega) (by omega) h4 (by omega) (by omega))
    have c0 : (c == 0) = false := by simpa using h4
    clear hv n1 n2 n3 pb h4
    generalize ovD (a * b) c = d at *
    generalize ovU (a * b) c = u at *
    generalize hk : ovB (a * b) c = k at *
    clear hk
    cases k
    · simp only [Bool.false_eq_true, if_false, show ((14 : Int) = 0) = False by decide]
      go_enter Tryd.func106, Tryd.ntmps106
      go_wp2_with (first | ((first | with_reducible refine wrx2 ?_ | with_reducible refine wrx ?_); (repeat (first | go_big_quiet_step ((first | (go_at_call 101; with_reducible exact Calls.ext (inNumbers_any _ _)) | (go_at_call 110; with_reducible exact Calls.ext (product_any _ _ _ ha hb)) | (go_at_call 111; with_reducible exact Calls.ext (OV.out _)))) | quiet_step ((first | (go_at_call 101; with_reducible exact Calls.ext (inNumbers_any _ _)) | (go_at_call 110; with_reducible exact Calls.ext (product_any _ _ _ ha hb)) | (go_at_call 111; with_reducible exact Calls.ext (OV.out _)))))); refine wpQuiet_nil ?_; rintro _ ⟨yr, rfl⟩; have syr := Ext.size yr; (repeat (first | rw [World.size_alloc] at syr | rw [World.size_setCell] at syr | rw [World.size_drew] at syr))) | (go_at_call 101; (first | with_reducible refine (Calls.giv2 (inNumbers_any _ _)).mono ?_ | with_reducible refine (Calls.giv (inNumbers_any _ _)).mono ?_); rintro _ _ ⟨y1, rfl, rfl⟩; have sy1 := Ext.size y1; (repeat (first | rw [World.size_alloc] at sy1 | rw [World.size_setCell] at sy1 | rw [World.size_drew] at sy1))) | (go_at_call 110; (first | with_reducible refine (Calls.giv2 (product_any _ _ _ ha hb)).mono ?_ | with_reducible refine (Calls.giv (product_any _ _ _ ha hb)).mono ?_); rintro _ _ ⟨y2, rfl, rfl⟩; have sy2 := Ext.size y2; (repeat (first | rw [World.size_alloc] at sy2 | rw [World.size_setCell] at sy2 | rw [World.size_drew] at sy2))) | (go_at_call 111; (first | with_reducible refine (Calls.giv2 (OV.out _)).mono ?_ | with_reducible refine (Calls.giv (OV.out _)).mono ?_); rintro _ _ ⟨y3, rfl, rfl⟩; have sy3 := Ext.size y3; (repeat (first | rw [World.size_alloc] at sy3 | rw [World.size_setCell] at sy3 | rw [World.size_drew] at sy3))))
      go_returns
      refine ⟨rfl, ?_⟩
      repeat' (first | (with_reducible exact Below.refl _ _) | (with_reducible assumption) | (with_reducible refine Ext.below _ ?_ ?_) | (with_reducible refine Below.on ?_ (by with_reducible assumption) ?_) | (with_reducible refine Below.alloc ?_ ?_ _) | (with_reducible refine Below.drew ?_) | (with_reducible refine Below.setCell ?_ ?_ _) | (with_reducible exact Nat.le_refl _) | omega | (simp; done) | (simp [go_sem]; done) | (simp at *; omega))
    · simp only [if_true]
      go_enter Tryd.func106, Tryd.ntmps106
      go_wp2_with (first | ((first | with_reducible refine wrx2 ?_ | with_reducible refine wrx ?_); (repeat (first | go_big_quiet_step ((first | (go_at_call 101; with_reducible exact Calls.ext (inNumbers_any _ _)) | (go_at_call 110; with_reducible exact Calls.ext (product_any _ _ _ ha hb)) | (go_at_call 111; with_reducible exact Calls.ext (OV.out _)))) | quiet_step ((first | (go_at_call 101; with_reducible exact Calls.ext (inNumbers_any _ _)) | (go_at_call 110; with_reducible exact Calls.ext (product_any _ _ _ ha hb)) | (go_at_call 111; with_reducible exact Calls.ext (OV.out _)))))); refine wpQuiet_nil ?_; rintro _ ⟨yr, rfl⟩; have syr := Ext.size yr; (repeat (first | rw [World.size_alloc] at syr | rw [World.size_setCell] at syr | rw [World.size_drew] at syr))) | (go_at_call 101; (first | with_reducible refine (Calls.giv2 (inNumbers_any _ _)).mono ?_ | with_reducible refine (Calls.giv (inNumbers_any _ _)).mono ?_); rintro _ _ ⟨y1, rfl, rfl⟩; have sy1 := Ext.size y1; (repeat (first | rw [World.size_alloc] at sy1 | rw [World.size_setCell] at sy1 | rw [World.size_drew] at sy1))) | (go_at_call 110; (first | with_reducible refine (Calls.giv2 (product_any _ _ _ ha hb)).mono ?_ | with_reducible refine (Calls.giv (product_any _ _ _ ha hb)).mono ?_); rintro _ _ ⟨y2, rfl, rfl⟩; have sy2 := Ext.size y2; (repeat (first | rw [World.size_alloc] at sy2 | rw [World.size_setCell] at sy2 | rw [World.size_drew] at sy2))) | (go_at_call 111; (first | with_reducible refine (Calls.giv2 (OV.out _)).mono ?_ | with_reducible refine (Calls.giv (OV.out _)).mono ?_); rintro _ _ ⟨y3, rfl, rfl⟩; have sy3 := Ext.size y3; (repeat (first | rw [World.size_alloc] at sy3 | rw [World.size_setCell] at sy3 | rw [World.size_drew] at sy3))))
      go_returns
      refine ⟨rfl, ?_⟩
      repeat' (first | (with_reducible exact Below.refl _ _) | (with_reducible assumption) | (with_reducible refine Ext.below _ ?_ ?_) | (with_reducible refine Below.on ?_ (by with_reducible assumption) ?_) | (with_reducible refine Below.alloc ?_ ?_ _) | (with_reducible refine Below.drew ?_) | (with_reducible refine Below.setCell ?_ ?_ _) | (with_reducible exact Nat.le_refl _) | omega | (simp; done) | (simp [go_sem]; done) | (simp at *; omega))
  · have hv : mdE a b c = 2 := by unfold mdE; rw [if_neg h]
    rw [hv]
    simp only [show ((2 : Int) = 0) = False by decide, if_false]
    clear hv
    cases h1 : numB a
    · clear h
      go_enter Tryd.func106, Tryd.ntmps106
      go_wp2_with (first | ((first | with_reducible refine wrx2 ?_ | with_reducible refine wrx ?_); (repeat (first | go_big_quiet_step ((first | (go_at_call 101; with_reducible exact Calls.ext (inNumbers_any _ _)))) | quiet_step ((first | (go_at_call 101; with_reducible exact Calls.ext (inNumbers_any _ _)))))); refine wpQuiet_nil ?_; rintro _ ⟨yr, rfl⟩; have syr := Ext.size yr; (repeat (first | rw [World.size_alloc] at syr | rw [World.size_setCell] at syr | rw [World.size_drew] at syr))) | (go_at_call 101; (first | with_reducible refine (Calls.giv2 (inNumbers_any _ _)).mono ?_ | with_reducible refine (Calls.giv (inNumbers_any _ _)).mono ?_); rintro _ _ ⟨y1, rfl, rfl⟩; have sy1 := Ext.size y1; (repeat (first | rw [World.size_alloc] at sy1 | rw [World.size_setCell] at sy1 | rw [World.size_drew] at sy1))))
      go_returns
      refine ⟨rfl, ?_⟩
      repeat' (first | (with_reducible exact Below.refl _ _) | (with_reducible assumption) | (with_reducible refine Ext.below _ ?_ ?_) | (with_reducible refine Below.on ?_ (by with_reducible assumption) ?_) | (with_reducible refine Below.alloc ?_ ?_ _) | (with_reducible refine Below.drew ?_) | (with_reducible refine Below.setCell ?_ ?_ _) | (with_reducible exact Nat.le_refl _) | omega | (simp; done) | (simp [go_sem]; done) | (simp at *; omega))
    cases h2 : numB b
    · clear h
      go_enter Tryd.func106, Tryd.ntmps106
      go_wp2_with (first | ((first | with_reducible refine wrx2 ?_ | with_reducible refine wrx ?_); (repeat (first | go_big_quiet_step ((first | (go_at_call 101; with_reducible exact Calls.ext (inNumbers_any _ _)))) | quiet_step ((first | (go_at_call 101; with_reducible exact Calls.ext (inNumbers_any _ _)))))); refine wpQuiet_nil ?_; rintro _ ⟨yr, rfl⟩; have syr := Ext.size yr; (repeat (first | rw [World.size_alloc] at syr | rw [World.size_setCell] at syr | rw [World.size_drew] at syr))) | (go_at_call 101; (first | with_reducible refine (Calls.giv2 (inNumbers_any _ _)).mono ?_ | with_reducible refine (Calls.giv (inNumbers_any _ _)).mono ?_); rintro _ _ ⟨y1, rfl, rfl⟩; have sy1 := Ext.size y1; (repeat (first | rw [World.size_alloc] at sy1 | rw [World.size_setCell] at sy1 | rw [World.size_drew] at sy1))))
      go_returns
      refine ⟨rfl, ?_⟩
      repeat' (first | (with_reducible exact Below.refl _ _) | (with_reducible assumption) | (with_reducible refine Ext.below _ ?_ ?_) | (with_reducible refine Below.on ?_ (by with_reducible assumption) ?_) | (with_reducible refine Below.alloc ?_ ?_ _) | (with_reducible refine Below.drew ?_) | (with_reducible refine Below.setCell ?_ ?_ _) | (with_reducible exact Nat.le_refl _) | omega | (simp; done) | (simp [go_sem]; done) | (simp at *; omega))
    cases h3 : numB c
    · clear h
      go_enter Tryd.func106, Tryd.ntmps106
      go_wp2_with (first | ((first | with_reducible refine wrx2 ?_ | with_reducible refine wrx ?_); (repeat (first | go_big_quiet_step ((first | (go_at_call 101; with_reducible exact Calls.ext (inNumbers_any _ _)))) | quiet_step ((first | (go_at_call 101; with_reducible exact Calls.ext (inNumbers_any _ _)))))); refine wpQuiet_nil ?_; rintro _ ⟨yr, rfl⟩; have syr := Ext.size yr; (repeat (first | rw [World.size_alloc] at syr | rw [World.size_setCell] at syr | rw [World.size_drew] at syr))) | (go_at_call 101; (first | with_reducible refine (Calls.giv2 (inNumbers_any _ _)).mono ?_ | with_reducible refine (Calls.giv (inNumbers_any _ _)).mono ?_); rintro _ _ ⟨y1, rfl, rfl⟩; have sy1 := Ext.size y1; (repeat (first | rw [World.size_alloc] at sy1 | rw [World.size_setCell] at sy1 | rw [World.size_drew] at sy1))))
      go_returns
      refine ⟨rfl, ?_⟩
      repeat' (first | (with_reducible exact Below.refl _ _) | (with_reducible assumption) | (with_reducible refine Ext.below _ ?_ ?_) | (with_reducible refine Below.on ?_ (by with_reducible assumption) ?_) | (with_reducible refine Below.alloc ?_ ?_ _) | (with_reducible refine Below.drew ?_) | (with_reducible refine Below.setCell ?_ ?_ _) | (with_reducible exact Nat.le_refl _) | omega | (simp; done) | (simp [go_sem]; done) | (simp at *; omega))
    · obtain rfl : c = 0 := by
        by_cases hc : c = 0
        · exact hc
        · exact absurd ⟨h1, h2, h3, hc⟩ h
      clear h
      go_enter Tryd.func106, Tryd.ntmps106
      go_wp2_with (first | ((first | with_reducible refine wrx2 ?_ | with_reducible refine wrx ?_); (repeat (first | go_big_quiet_step ((first | (go_at_call 101; with_reducible exact Calls.ext (inNumbers_any _ _)))) | quiet_step ((first | (go_at_call 101; with_reducible exact Calls.ext (inNumbers_any _ _)))))); refine wpQuiet_nil ?_; rintro _ ⟨yr, rfl⟩; have syr := Ext.size yr; (repeat (first | rw [World.size_alloc] at syr | rw [World.size_setCell] at syr | rw [World.size_drew] at syr))) | (go_at_call 101; (first | with_reducible refine (Calls.giv2 (inNumbers_any _ _)).mono ?_ | with_reducible refine (Calls.giv (inNumbers_any _ _)).mono ?_); rintro _ _ ⟨y1, rfl, rfl⟩; have sy1 := Ext.size y1; (repeat (first | rw [World.size_alloc] at sy1 | rw [World.size_setCell] at sy1 | rw [World.size_drew] at sy1))))
      go_returns
      refine ⟨rfl, ?_⟩
      repeat' (first | (with_reducible exact Below.refl _ _) | (with_reducible assumption) | (with_reducible refine Ext.below _ ?_ ?_) | (with_reducible refine Below.on ?_ (by with_reducible assumption) ?_) | (with_reducible refine Below.alloc ?_ ?_ _) | (with_reducible refine Below.drew ?_) | (with_reducible refine Below.setCell ?_ ?_ _) | (with_reducible exact Nat.le_refl _) | omega | (simp; done) | (simp [go_sem]; done) | (simp at *; omega))
end Go.Proofs.YtlmhbggigbmeaaaDoor
namespace Go.Proofs.YtlmhbggigbmeaaaDoor
open Go.RowKit Go.Shelf
def kOf (s : StoneR) (v : V2) : Int := v.y * (cei (v.x * 1000) s.slope * s.shape)
def dOf (s : StoneR) : Int := s.dens * s.size * 1000
/-- Where a stone ends. -/
def endOf (l : List V2) (s : StoneR) : Int × Int := fallI (holdsV s) (kOf s) (dOf s) l 0 (s.speed * s.speed)
theorem cei_le {n c : Int} (hn : 0 ≤ n) (hc : 0 < c) : 0 ≤ cei n c ∧ cei n c ≤ n := by
  have h := cei_eq (n := n) hc
  have h1 := Int.emod_add_mul_ediv n c
  have h2 := Int.emod_nonneg n (b := c) (by omega)
  have hq : 0 ≤ n / c := Int.ediv_nonneg hn (by omega)
  have h3 : n / c ≤ c * (n / c) := by
    have := Int.mul_le_mul_of_nonneg_right (show 1 ≤ c by omega) hq
    omega
  split at h <;> omega
theorem MulDiv_pos (a b c : Int) (w : World) (ha : 0 ≤ a ∧ a ≤ 1152921504606846976) (hb : 0 ≤ b ∧ b ≤ 1152921504606846976) (hc : 0 < c ∧ c ≤ 1152921504606846976) (hq : cei (a * b) c ≤ 1152921504606846976) :
    Calls Tryd.prog 106 #[.int .i64 a, .int .i64 b, .int .i64 c] w (Gives (.tuple #[.int .i64 (a * b / c), .int .i64 (cei (a * b) c), .int .i64 0]) w) := by
  have h0 : 0 ≤ a * b := Int.mul_nonneg ha.1 hb.1
  have n1 : numB a = true := numB_true.2 (by omega)
  have n2 : numB b = true := numB_true.2 (by omega)
  have n3 : numB c = true := numB_true.2 (by omega)
  have ok : okP (a * b) c = true := by unfold okP; simp only [decide_eq_true_eq]; exact hq
  have e1 : ovN (a * b) c = a * b := by unfold ovN; rw [if_neg (by omega)]
  have e2 : ovC c = c := by unfold ovC; rw [if_neg (by omega)]
  have k1 : ovB (a * b) c = true := by unfold ovB; rw [e1, e2, if_pos h0]; exact ok
  have k2 : ovD (a * b) c = a * b / c := by unfold ovD downP; rw [e1, e2, if_pos h0, if_pos ok]
  have k3 : ovU (a * b) c = cei (a * b) c := by unfold ovU upP; rw [e1, e2, if_pos h0, if_pos ok]
  have k4 : mdE a b c = 0 := by unfold mdE; rw [if_pos ⟨n1, n2, n3, by omega⟩, if_pos k1]
  have := MulDiv_any a b c w (by unfold I64; omega) (by unfold I64; omega)
  unfold mdL mdH at this
  rw [k4] at this
  simp only [if_true, k2, k3] at this
  exact this
def craterI (e : Int) : Int := rootI (rootI (max e 0))
theorem crater_spec {e : Int} (h0 : 0 ≤ e) (h1 : e < 1152921504606846976) : 0 ≤ craterI e ∧ craterI e < 32768 ∧ craterI e * craterI e * craterI e * craterI e ≤ e ∧ e < (craterI e + 1) * (craterI e + 1) * (craterI e + 1) * (craterI e + 1) := by
  unfold craterI
  rw [show max e 0 = e by omega]
  obtain ⟨a1, a2, a3⟩ := rootI_spec h0 (show e < 18446744073709551616 by omega)
  generalize rootI e = r at *
  have hr : r ≤ e := by
    rcases Int.lt_or_le e r with h | h
    · have := Int.mul_le_mul (show 1 ≤ r by omega) (Int.le_refl r) (by omega) (by omega); omega
    · exact h
  obtain ⟨b1, b2, b3⟩ := rootI_spec a1 (show r < 18446744073709551616 by omega)
  generalize rootI r = c at *
  have c1 := Int.mul_le_mul b2 b2 (Int.mul_nonneg b1 b1) (by omega)
  have c2 := Int.mul_le_mul (show r + 1 ≤ (c + 1) * (c + 1) by omega) (show r + 1 ≤ (c + 1) * (c + 1) by omega) (by omega) (Int.mul_nonneg (show 0 ≤ c + 1 by omega) (show 0 ≤ c + 1 by omega))
  have e1 : c * c * c * c = c * c * (c * c) := by grind
  have e2 : (c + 1) * (c + 1) * (c + 1) * (c + 1) = (c + 1) * (c + 1) * ((c + 1) * (c + 1)) := by grind
  refine ⟨b1, ?_, by omega, by omega⟩
  rcases Int.lt_or_le c 32768 with h | h
  · exact h
  · have d1 := Int.mul_le_mul h h (by omega) b1
    have d2 := Int.mul_le_mul d1 d1 (by omega) (Int.mul_nonneg b1 b1)
    omega
/-- What a layer takes, within the numbers that package span computes with. -/
theorem way_bounds {s : StoneR} (h : s.Ok) {v : V2} (hv : 1 ≤ v.x ∧ v.x ≤ 1000) : 0 ≤ cei (v.x * 1000) s.slope ∧ cei (v.x * 1000) s.slope ≤ 1000000 := by
  have := cei_le (n := v.x * 1000) (c := s.slope) (by omega) (by have := h.slope; omega)
  omega
theorem k_bounds {s : StoneR} (h : s.Ok) {v : V2} (hv : 1 ≤ v.x ∧ v.x ≤ 1000) (hy : 0 ≤ v.y ∧ v.y ≤ 1000) : 0 ≤ cei (v.x * 1000) s.slope * s.shape ∧ cei (v.x * 1000) s.slope * s.shape ≤ 2000000000 ∧ 0 ≤ kOf s v := by
  have a := way_bounds h hv
  have b := h.shape
  have c := Int.mul_nonneg a.1 (show 0 ≤ s.shape by omega)
  have d := Int.mul_le_mul a.2 b.2 (by omega) (by omega)
  exact ⟨c, by omega, Int.mul_nonneg hy.1 c⟩
theorem d_bounds {s : StoneR} (h : s.Ok) : (1 ≤ s.dens * s.size ∧ s.dens * s.size ≤ 9000000) ∧ 1000 ≤ dOf s ∧ dOf s ≤ 9000000000 := by
  have a := h.dens
  have b := h.size
  have c := Int.mul_le_mul a.1 b.1 (by omega) (by omega)
  have d := Int.mul_le_mul a.2 b.2 (by omega) (by omega)
  unfold dOf
  omega
theorem lost_bounds {s : StoneR} (h : s.Ok) {v : V2} (hv : 1 ≤ v.x ∧ v.x ≤ 1000) (hy : 0 ≤ v.y ∧ v.y ≤ 1000) {w : Int} (hw : 0 ≤ w ∧ w ≤ 64000000) :
    (0 ≤ w * v.y ∧ w * v.y ≤ 64000000000) ∧ w * v.y * (cei (v.x * 1000) s.slope * s.shape) = w * kOf s v ∧ cei (w * v.y * (cei (v.x * 1000) s.slope * s.shape)) (dOf s) ≤ 1152921504606846976 := by
  have a := k_bounds h hv hy
  have d := d_bounds h
  have c := Int.mul_nonneg hw.1 hy.1
  have e := Int.mul_le_mul hw.2 hy.2 (by omega) (by omega)
  have f := Int.mul_le_mul (show w * v.y ≤ 64000000000 by omega) a.2.1 a.1 (by omega)
  have g := Int.mul_nonneg c a.1
  refine ⟨by omega, by unfold kOf; rw [Int.mul_assoc], ?_⟩
  have q := cei_eq (n := w * v.y * (cei (v.x * 1000) s.slope * s.shape)) (c := dOf s) (by omega)
  have r : w * v.y * (cei (v.x * 1000) s.slope * s.shape) / dOf s ≤ 128000000000000000 := by
    refine Int.le_trans (div_anti g (show (0:Int) < 1000 by decide) d.2.1) ?_
    have := div_mono_num (show w * v.y * (cei (v.x * 1000) s.slope * s.shape) ≤ 128000000000000000 * 1000 by omega) (show (0:Int) < 1000 by decide)
    omega
  split at q <;> omega
end Go.Proofs.YtlmhbggigbmeaaaDoor
namespace Go.Proofs.YtlmhbggigbmeaaaDoor
open Go.ChangeShapes Go.WideShapes Go.ChangeAt Go.RowKit Go.Joins
section
variable {H : Type} {enc : TypeId × Value → H} {P : Program}
theorem trodAll_kept (hl : laidOutB P = true) {W W' : World} {sp : Nat → Bool} : ∀ {ts : List TypeId} {vs : List Value} {ds : List (DataW H)} {ps : List MemPlace}, (∀ t ∈ ts, P.readableRec t = true ∧ t < P.types.size) →
    DataW.TrodAll enc P W 0 (fun _ => true) true ts vs ds ps → Below W.heap.size W W' → (∀ p ∈ ps, p.block < W.heap.size) → (∀ p ∈ ps, sp p.block = true) → DataW.TrodAll enc P W' 0 sp true ts vs ds ps
  | [], _, _, _, _, h, _, _, _ => by
    obtain ⟨rfl, rfl, rfl⟩ := trodAll_nil h
    exact trodAll_mk0
  | t :: ts, _, _, _, hr, h, hb, hlt, hsp => by
    obtain ⟨v, vs, d, ds, p, q, rfl, rfl, rfl, h0, h1⟩ := trodAll_cons h
    have ht := hr t (by simp)
    exact trodAll_cons_mk (WideElems.Trod_stays hl ht.1 ht.2 h0 (fun x hx => hb.same (hlt x (by simp [hx]))) (fun x hx => hsp x (by simp [hx])))
      (trodAll_kept hl (fun t ht => hr t (by simp [ht])) h1 hb (fun x hx => hlt x (by simp [hx])) (fun x hx => hsp x (by simp [hx])))
theorem law_post {f : Func} {s : ChangeSpec} {W W' : World} {args : Array Value} {ds : List (DataW H)} {before : List MemPlace} {t : TypeId} {e : Ending}
    (hl : laidOutB P = true) (hread : ∀ t ∈ f.params.toList, P.readableRec t = true ∧ t < P.types.size) (hv : s.vars = []) (hr : f.resultTypes = #[t]) (ht : P.underlying t = some .bool)
    (hW : DataW.Whole enc P f.params.toList s.vars false W args.toList ds [] before) (hs : s.fn H (ds ++ []) = { results := [.lit (.bool true)], args := ds }) (hb : Gives (.bool true) W e W') :
    ∃ v, e = .returned v ∧ s.post enc P f false true false false W args v W' := by
  obtain ⟨rfl, hb⟩ := hb
  refine ⟨_, rfl, ds, [], before, [], before, [], hW, ?_, ?_, ?_, ?_, fun h => by cases h⟩
  · rw [hs, hr]
    exact trodAll_mk1 (shut_bool ht true)
  · rw [hs]
    have hlt := fun p hp => hW.lt p hp
    obtain ⟨p, q, hA, hV, rfl, _, _⟩ := hW
    rw [hv] at hV
    obtain ⟨_, rfl⟩ := trodVars_none hV
    rw [List.append_nil] at hlt ⊢
    exact trodAll_kept hl hread hA hb hlt (fun x hx => by simpa using hlt x hx)
  · rw [hs, hv]
    exact rfl
  · exact World.keptBut_mono (fun p hp => ⟨hp, .inr (.inl hp)⟩) (hb.frame (· ∈ before))
end
section
variable {P : Program} {W : World} {r : Reach} {b : Nat}
/-- A struct of whole numbers by value, its inner structs laid flat: its numbers, each within its kind. -/
theorem open_nums {t : TypeId} {fs : Array Field} {ts : List TypeId} {v : Value} (hs : P.underlying t = some (.struct fs)) (hct : P.cellTypes P.depth t = some ts) (hall : ts.all (fun u => match P.underlying u with | some (.int .i64) => true | _ => false) = true)
    (h : Value.okWide P W r b t v) : ∃ l : List Int, v = .agg (l.map (Value.int .i64)).toArray ∧ l.length = P.cellsOf t ∧ ∀ x ∈ l, I64 x := by
  simp only [Value.okWide, hs] at h
  obtain ⟨⟨cs⟩, rfl, hsz, ts', hct', _, hc⟩ := h
  obtain rfl : ts = ts' := Option.some.inj (hct.symm.trans hct')
  have key : ∀ v ∈ cs, ∃ x : Int, v = .int .i64 x ∧ I64 x := by
    intro v hv
    obtain ⟨i, hi, rfl⟩ := List.getElem_of_mem hv
    obtain ⟨u, hu, hok⟩ := hc i cs[i] (by simp [hi])
    have hm := List.all_eq_true.1 hall u (List.mem_of_getElem? hu)
    split at hm
    · rename_i hu'
      simp only [Cell.okWide, Cell.ok, hu'] at hok
      cases hcs : cs[i] <;> rw [hcs] at hok <;> simp only [] at hok
      obtain ⟨rfl, hh⟩ := hok
      exact ⟨_, rfl, by unfold I64; simp [IntKind.has, IntKind.min, IntKind.max, IntKind.signed, IntKind.bits] at hh; omega⟩
    · cases hm
  clear hc hct hct' hall
  have hl : ∀ cs : List Value, (∀ v ∈ cs, ∃ x : Int, v = .int .i64 x ∧ I64 x) → ∃ l : List Int, cs = l.map (Value.int .i64) ∧ ∀ x ∈ l, I64 x := by
    intro cs
    induction cs with
    | nil => exact fun _ => ⟨[], rfl, by simp⟩
    | cons v cs ih =>
      intro h
      obtain ⟨x, rfl, hx⟩ := h v (by simp)
      obtain ⟨l, rfl, hl⟩ := ih (fun v hv => h v (by simp [hv]))
      exact ⟨x :: l, rfl, by simpa using ⟨hx, hl⟩⟩
  obtain ⟨l, rfl, hl⟩ := hl cs key
  exact ⟨l, rfl, by simpa using hsz, hl⟩
theorem open_num {t : TypeId} {v : Value} (hs : P.underlying t = some (.int .i64)) (h : Value.okWide P W r b t v) : ∃ x : Int, v = .int .i64 x ∧ I64 x := by
  simp only [Value.okWide, hs, Cell.okWide, Cell.ok] at h
  cases v <;> simp only [] at h
  obtain ⟨rfl, hh⟩ := h
  exact ⟨_, rfl, by unfold I64; simp [IntKind.has, IntKind.min, IntKind.max, IntKind.signed, IntKind.bits] at hh; omega⟩
theorem list2 {α : Type} {l : List α} (h : l.length = 2) : ∃ a b, l = [a, b] := by
  match l, h with
  | [a, b], _ => exact ⟨a, b, rfl⟩
theorem list4 {α : Type} {l : List α} (h : l.length = 4) : ∃ a b c d, l = [a, b, c, d] := by
  match l, h with
  | [a, b, c, d], _ => exact ⟨a, b, c, d, rfl⟩
end
theorem own : ownKnob Tryd.prog.godebug = none := by kernel_rfl
theorem Tryd.cells29 : Tryd.prog.cellsOf 29 = 2 := by kernel_rfl
theorem laid_out : laidOutB Tryd.prog = true := by kernel_rfl
end Go.Proofs.YtlmhbggigbmeaaaDoor
namespace Go.Proofs.YtlmhbggigbmeaaaDoor
open Go.ChangeShapes Go.WideShapes Go.ChangeAt Go.RowKit Go.Joins
theorem add_none {a : Addr} (h : a.spot = none) (i : Nat) : a.add i = ⟨a.block, a.off + i, none⟩ := by
  unfold Addr.add
  split
  · rename_i h0; subst h0; cases a; simp_all
  · rfl
theorem spot_of_cell {w : World} {a : Addr} {v : Value} (h : w.cell? a = some v) : a.spot = none := by
  unfold World.cell? at h
  split at h
  · split at h
    · cases h
    · rename_i hs; simpa using hs
  · cases h
theorem open_list {H : Type} {enc : TypeId × Value → H} {P : Program} {W : World} {t e : TypeId} {v : Value} {d : DataW H} {ps : List MemPlace} (ht : P.underlying t = some (.slice e)) (he : P.underlying e = some (.int .i64)) (hc : P.cellsOf e = 1)
    {r : Reach} {b : Nat} (hval : Value.okWide P W r b t v) (h : DataW.Trod enc P W 0 (fun _ => true) true t v d ps) : ∃ p len cap z, v = .slice p len cap ∧ ListIn W p len z := by
  have hv : v.cells = #[v] := by
    simp only [Value.okWide, ht, Cell.okWide, Cell.ok] at hval
    cases v <;> first | rfl | (simp at hval; done) | skip
  unfold DataW.Trod at h
  obtain ⟨fuel, h⟩ := h
  rcases open_ints ht he hc h with ⟨hcs, _⟩ | ⟨a, len, cap, zs, hcs, _, hl, hm, hz, _, hi, hw⟩
  · rw [hv] at hcs
    simp only [List.cons.injEq, and_true] at hcs
    exact ⟨none, 0, 0, fun _ => 0, hcs, by decide, fun h => absurd rfl h⟩
  · rw [hv] at hcs
    simp only [List.cons.injEq, and_true] at hcs
    simp only [if_true] at hz
    refine ⟨some a, len, cap, fun i => zs.getD i 0, hcs, by unfold maxLen at hm; omega, fun h0 => ?_⟩
    have h1 := hi 0 (by omega)
    have hs : a.spot = none := by
      have := spot_of_cell h1
      simpa [Addr.add] using this
    refine ⟨a.block, a.off, by cases a; simp_all, ?_, fun i hil => ⟨?_, ?_⟩⟩
    · have := World.block_lt_of_cell? W _ h1
      simpa [Addr.add] using this
    · have := hi i (by omega)
      rwa [add_none hs] at this
    · have hmem : zs.getD i 0 ∈ zs := by
        have hh : i < zs.length := by omega
        simp [List.getD, hh]
      have := hw _ hmem
      unfold I64
      simp [Lit.wf, IntKind.min, IntKind.max, IntKind.signed, IntKind.bits] at this
      simp [List.getD]
      omega
end Go.Proofs.YtlmhbggigbmeaaaDoor

/- Contracts of track.at, At, where, Where: where bodies and stations are. Condition: the cells that are read. -/
import Derived.Test.YtgoilmiiegpnoaaSkyD
import Derived.Test.YtgoilmiiegpnoaaKit
namespace Go.Proofs.Ytgoilmiiegpnoaa
open Go.RowKit Go.Shelf
attribute [local go_sem] Ext.cell Ext.frozen Ext.lt Ext.le Ext.lt_add Ext.le_add Ext.ne Ext.ne' lt2 lt3 lt4 lt5 le2 le3 le4
theorem placesE_zero {l : List V2} (h : placesE l = 0) : ∀ j (hj : j < l.length), vwinB l[j] 33554432 = true := by
  induction l with
  | nil => intro j hj; simp at hj
  | cons v l ih =>
    rw [placesE] at h
    by_cases hv : vwinB v 33554432 = true
    · rw [if_pos hv] at h
      intro j hj
      cases j with
      | zero => exact hv
      | succ j => exact ih h j (by simpa using hj)
    · rw [if_neg hv] at h; cases h
theorem bodiesE_zero {l : List BodyR} (h : bodiesE l = 0) : ∀ j (hj : j < l.length), bodyE l[j] = 0 := by
  induction l with
  | nil => intro j hj; simp at hj
  | cons v l ih =>
    rw [bodiesE] at h
    by_cases hv : bodyE v = 0
    · rw [if_pos hv] at h
      intro j hj
      cases j with
      | zero => exact hv
      | succ j => exact ih h j (by simpa using hj)
    · rw [if_neg hv] at h; exact absurd h hv
theorem bodyE_zero {b : BodyR} (h : bodyE b = 0) : 0 ≤ b.mu ∧ b.mu ≤ 1125899906842624 ∧ 0 ≤ b.rad ∧ b.rad ≤ 1048576 ∧ 1 ≤ b.track.length ∧ b.track.length ≤ 4096 ∧ placesE b.track = 0 := by
  unfold bodyE at h
  by_cases h1 : b.mu < 0 ∨ 1125899906842624 < b.mu ∨ b.rad < 0 ∨ 1048576 < b.rad
  · rw [if_pos h1] at h; cases h
  · rw [if_neg h1] at h
    by_cases h2 : cntE b.track.length 1 4096 = 0
    · rw [if_pos h2] at h
      have := cntE_zero h2
      exact ⟨by omega, by omega, by omega, by omega, this.1, this.2, h⟩
    · rw [if_neg h2] at h; exact absurd h h2
theorem worldE_zero {l : List BodyR} {h : Int} (e : worldE l h = 0) : (∀ j (hj : j < l.length), bodyE l[j] = 0) ∧ 1 ≤ l.length ∧ l.length ≤ 8 ∧ 0 ≤ h ∧ h < l.length := by
  unfold worldE at e
  by_cases h1 : cntE l.length 1 8 = 0
  · rw [if_pos h1] at e
    by_cases h2 : bodiesE l = 0
    · rw [if_pos h2] at e
      by_cases h3 : 0 ≤ h ∧ h < l.length
      · have := cntE_zero h1
        exact ⟨bodiesE_zero h2, this.1, this.2, h3.1, h3.2⟩
      · rw [if_neg h3] at e; cases e
    · rw [if_neg h2] at e; exact absurd e h2
  · rw [if_neg h1] at e; exact absurd e h1
theorem stsE_zero {l : List StR} : ∀ {z : Int}, stsE z l = 0 → ∀ j (hj : j < l.length), vwinB l[j].off 1048576 = true := by
  induction l with
  | nil => intro z h j hj; simp at hj
  | cons v l ih =>
    intro z h
    rw [stsE] at h
    by_cases h1 : v.id ≤ z
    · rw [if_pos h1] at h; cases h
    · rw [if_neg h1] at h
      by_cases hv : vwinB v.off 1048576 = true
      · rw [if_pos hv] at h
        intro j hj
        cases j with
        | zero => exact hv
        | succ j => exact ih h j (by simpa using hj)
      · rw [if_neg hv] at h; cases h
theorem stationsE_zero {l : List StR} (h : stationsE l = 0) : l.length ≤ 16 ∧ ∀ j (hj : j < l.length), vwinB l[j].off 1048576 = true := by
  unfold stationsE at h
  by_cases h1 : 16 < l.length
  · rw [if_pos h1] at h; cases h
  · rw [if_neg h1] at h; exact ⟨by omega, stsE_zero h⟩
theorem skyE_zero {s : SkyR} (h : skyE s = 0) : worldE s.bodies s.home = 0 ∧ stationsE s.sts = 0 ∧ catalogsE s.cats = 0 := by
  unfold skyE at h
  by_cases h1 : worldE s.bodies s.home = 0
  · rw [if_pos h1] at h
    by_cases h2 : stationsE s.sts = 0
    · rw [if_pos h2] at h; exact ⟨h1, h2, h⟩
    · rw [if_neg h2] at h; exact absurd h h2
  · rw [if_neg h1] at h; exact absurd h h1
theorem vwinB_out {v : V2} {m : Int} (h : vwinB v m = true) : (-m ≤ v.x ∧ v.x ≤ m) ∧ -m ≤ v.y ∧ v.y ≤ m := by
  unfold vwinB winB at h
  simpa using h
theorem tickB_out {t : Int} : tickB t = true ↔ 0 ≤ t ∧ t ≤ 1073741824 := by unfold tickB; simp
theorem trackAt_get {l : List V2} {t : Int} {k : Nat} (hk : k < l.length) (e : (t % l.length).toNat = k) : trackAt l t = l[k] := by
  unfold trackAt; rw [e, List.getD_eq_getElem?_getD, List.getElem?_eq_getElem hk]; rfl
theorem at_any (p : Option Addr) (c : Nat) (l : List V2) (t : Int) (w : World) (hP : VecsAt w p l) (h1 : 1 ≤ l.length) (h2 : l.length ≤ 4096) (ht : tickB t = true) :
    Calls Try.prog 69 #[.slice p l.length c, .int .i64 t] w (Gives (.agg #[.int .i64 (trackAt l t).x, .int .i64 (trackAt l t).y]) w) := by
  obtain ⟨t0, t1⟩ := tickB_out.1 ht
  have hm0 := Int.emod_nonneg t (b := (l.length : Int)) (by omega)
  have hm1 := Int.emod_lt_of_pos t (b := (l.length : Int)) (by omega)
  obtain ⟨k, hk⟩ := Int.eq_ofNat_of_zero_le hm0
  have hkl : k < l.length := by omega
  rw [trackAt_get hkl (by rw [hk]; exact Int.toNat_natCast k)]
  obtain ⟨B, o, rfl, hB, c1, c2⟩ := hP k hkl
  have e0 : (((l.length : Nat) : Int) == 0) = false := by rw [beq_eq_false_iff_ne]; omega
  have e2 : (k : Int) < (l.length : Int) := by omega
  generalize l[k].x = u at *
  generalize l[k].y = v at *
  clear hP hm0 hm1 ht
  generalize l.length = n at *
  go_enter Try.func69, Try.ntmps69
  go_wp2_with (first | ((first | with_reducible refine wp_region_ext2 (by kernel_rfl) (by kernel_rfl) ?_ | with_reducible refine wp_region_ext (by kernel_rfl) (by kernel_rfl) ?_); (repeat (first | go_big_quiet_step ((first | fail)) | quiet_step ((first | fail)))); refine wpQuiet_nil ?_; rintro _ ⟨yr, rfl⟩; have syr := Ext.size yr; (repeat (first | rw [World.size_alloc] at syr | rw [World.size_setCell] at syr | rw [World.size_drew] at syr))))
  go_returns
  refine ⟨rfl, ?_⟩
  repeat' (first | (with_reducible exact Below.refl _ _) | (with_reducible assumption) | (with_reducible refine Ext.below _ ?_ ?_) | (with_reducible refine Below.on ?_ (by with_reducible assumption) ?_) | (with_reducible refine Below.alloc ?_ ?_ _) | (with_reducible refine Below.drew ?_) | (with_reducible refine Below.setCell ?_ ?_ _) | (with_reducible exact Nat.le_refl _) | omega | (simp; done) | (simp [go_sem]; done) | (simp at *; omega))
end Go.Proofs.Ytgoilmiiegpnoaa

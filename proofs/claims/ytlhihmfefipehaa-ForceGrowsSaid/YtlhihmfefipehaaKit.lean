/- Contracts of the numbers that statements bring into range. -/
import Derived.Test.YtlhihmfefipehaaPlaneG
import Derived.Test.YtlhihmfefipehaaTail
namespace Go.Proofs.Ytlhihmfefipehaa
open Go.RowKit Go.Shelf
attribute [local go_sem] Ext.cell Ext.frozen Ext.lt Ext.le Ext.lt_add Ext.le_add Ext.ne Ext.ne' lt2 lt3 lt4 lt5 le2 le3 le4
theorem tmod_pos {n m : Int} (h : 0 ≤ n) : n.tmod m = n % m := Int.tmod_eq_emod_of_nonneg h
theorem tmod_neg0 {n m : Int} (_h : n < 0) (_hm : 0 < m) (h2 : ¬ n.tmod m < 0) : n.tmod m = n % m := by
  have h3 := Int.tmod_eq_emod (a := n) (b := m)
  split at h3
  · omega
  · have := Int.emod_lt_of_pos n (b := m) _hm
    have : (m.natAbs : Int) = m := by omega
    omega
theorem tmod_neg1 {n m : Int} (_h : n < 0) (hm : 0 < m) (h2 : n.tmod m < 0) : n.tmod m + m = n % m := by
  have h3 := Int.tmod_eq_emod (a := n) (b := m)
  split at h3
  · have := Int.emod_nonneg n (b := m) (by omega)
    omega
  · have : (m.natAbs : Int) = m := by omega
    omega
theorem tmod_bounds (n m : Int) (hm : 0 < m) : -m ≤ n.tmod m ∧ n.tmod m < m := by
  rcases Int.lt_or_le n 0 with h | h
  · by_cases h2 : n.tmod m < 0
    · have := tmod_neg1 h hm h2; have := Int.emod_nonneg n (b := m) (by omega); omega
    · have := tmod_neg0 h hm h2; have := Int.emod_lt_of_pos n hm; omega
  · have := tmod_pos (m := m) h; have := Int.emod_nonneg n (b := m) (by omega); have := Int.emod_lt_of_pos n hm; omega
theorem Mod64_any (n m : Int) (w : World) (hn : I64 n) (hm : 0 < m) (hm2 : m < 9223372036854775808) : Calls Try.prog 39 #[.int .i64 n, .int .i64 m] w (Gives (.int .i64 (n % m)) w) := by
  have hb := tmod_bounds n m hm
  obtain ⟨hb1, hb2⟩ := hb
  unfold I64 at hn
  obtain ⟨hn1, hn2⟩ := hn
  have h0 : (m == 0) = false := by simp; omega
  have hw : wrap64 (n.tmod m) = n.tmod m := IntWalk.wrap64_in _ (by omega)
  by_cases h : n.tmod m < 0
  · have hv : n % m = n.tmod m + m := by
      rcases Int.lt_or_le n 0 with h' | h'
      · exact (tmod_neg1 h' hm h).symm
      · have := tmod_pos (m := m) h'; have := Int.emod_nonneg n (b := m) (by omega); omega
    rw [hv]
    clear hv
    have hw2 : wrap64 (n.tmod m + m) = n.tmod m + m := IntWalk.wrap64_in _ (by omega)
    go_enter Try.func39, Try.ntmps39
    go_wp2_with (first | ((first | with_reducible refine wrx2 ?_ | with_reducible refine wrx ?_); (repeat (first | go_big_quiet_step ((first | fail)) | quiet_step ((first | fail)))); refine wpQuiet_nil ?_; rintro _ ⟨yr, rfl⟩; have syr := Ext.size yr; (repeat (first | rw [World.size_alloc] at syr | rw [World.size_setCell] at syr | rw [World.size_drew] at syr))))
    go_returns
    refine ⟨rfl, ?_⟩
    repeat' (first | (with_reducible exact Below.refl _ _) | (with_reducible assumption) | (with_reducible refine Ext.below _ ?_ ?_) | (with_reducible refine Below.on ?_ (by with_reducible assumption) ?_) | (with_reducible refine Below.alloc ?_ ?_ _) | (with_reducible refine Below.drew ?_) | (with_reducible refine Below.setCell ?_ ?_ _) | (with_reducible exact Nat.le_refl _) | omega | (simp; done) | (simp [go_sem]; done) | (simp at *; omega))
  · have hv : n % m = n.tmod m := by
      rcases Int.lt_or_le n 0 with h' | h'
      · exact (tmod_neg0 h' hm h).symm
      · exact (tmod_pos h').symm
    rw [hv]
    clear hv
    go_enter Try.func39, Try.ntmps39
    go_wp2_with (first | ((first | with_reducible refine wrx2 ?_ | with_reducible refine wrx ?_); (repeat (first | go_big_quiet_step ((first | fail)) | quiet_step ((first | fail)))); refine wpQuiet_nil ?_; rintro _ ⟨yr, rfl⟩; have syr := Ext.size yr; (repeat (first | rw [World.size_alloc] at syr | rw [World.size_setCell] at syr | rw [World.size_drew] at syr))))
    go_returns
    refine ⟨rfl, ?_⟩
    repeat' (first | (with_reducible exact Below.refl _ _) | (with_reducible assumption) | (with_reducible refine Ext.below _ ?_ ?_) | (with_reducible refine Below.on ?_ (by with_reducible assumption) ?_) | (with_reducible refine Below.alloc ?_ ?_ _) | (with_reducible refine Below.drew ?_) | (with_reducible refine Below.setCell ?_ ?_ _) | (with_reducible exact Nat.le_refl _) | omega | (simp; done) | (simp [go_sem]; done) | (simp at *; omega))
end Go.Proofs.Ytlhihmfefipehaa

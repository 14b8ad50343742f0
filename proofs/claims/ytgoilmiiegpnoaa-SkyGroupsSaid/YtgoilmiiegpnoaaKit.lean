/- Contracts of the numbers that statements bring into range. -/
import Derived.Test.YtgoilmiiegpnoaaNum
import Derived.Test.YtgoilmiiegpnoaaPlane
import Derived.Test.YtgoilmiiegpnoaaTail
namespace Go.Proofs.Ytgoilmiiegpnoaa
open Go.RowKit Go.Shelf
attribute [local go_sem] Ext.cell Ext.frozen Ext.lt Ext.le Ext.lt_add Ext.le_add Ext.ne Ext.ne' lt2 lt3 lt4 lt5 le2 le3 le4
theorem tmod_pos {n m : Int} (h : 0 ≤ n) : n.tmod m = n % m := Int.tmod_eq_emod_of_nonneg h
theorem tmod_neg0 {n m : Int} (_h : n < 0) (_hm : 0 < m) (h2 : ¬ n.tmod m < 0) : n.tmod m = n % m := by
  have h3 := Int.tmod_eq_emod (a := n) (b := m)
  split at h3
  · omega
  · have := Int.emod_lt_of_pos n (b := m) _hm
    have : (m.natAbs : Int) = m := by omega
    omega
theorem tmod_neg1 {n m : Int} (_h : n < 0) (hm : 0 < m) (h2 : n.tmod m < 0) : n.tmod m + m = n % m := by
  have h3 := Int.tmod_eq_emod (a := n) (b := m)
  split at h3
  · have := Int.emod_nonneg n (b := m) (by omega)
    omega
  · have : (m.natAbs : Int) = m := by omega
    omega
theorem tmod_bounds (n m : Int) (hm : 0 < m) : -m ≤ n.tmod m ∧ n.tmod m < m := by
  rcases Int.lt_or_le n 0 with h | h
  · by_cases h2 : n.tmod m < 0
    · have := tmod_neg1 h hm h2; have := Int.emod_nonneg n (b := m) (by omega); omega
    · have := tmod_neg0 h hm h2; have := Int.emod_lt_of_pos n hm; omega
  · have := tmod_pos (m := m) h; have := Int.emod_nonneg n (b := m) (by omega); have := Int.emod_lt_of_pos n hm; omega
end Go.Proofs.Ytgoilmiiegpnoaa

/- Contract of package span's Root. Condition: a number of 64 bits. -/
import Derived.Test.YtpiacndnjehbiaaDoorPlane
import Derived.LoopTactic
import Derived.Laws.Bits64b
import Derived.Lib.ItoaNum
namespace Go.Proofs.YtpiacndnjehbiaaDoor
open Go.RowKit Go.Shelf
attribute [local go_sem] Ext.cell Ext.frozen Ext.lt Ext.le Ext.lt_add Ext.le_add Ext.ne Ext.ne' lt2 lt3 lt4 lt5 le2 le3 le4
def rt (n : Int) : Nat → Int → Int
  | 0, r => r
  | k + 1, r => if (r + 2 ^ k) * (r + 2 ^ k) ≤ n then rt n k (r + 2 ^ k) else rt n k r
theorem rt_spec (n : Int) : ∀ (k : Nat) (r : Int), 0 ≤ r → r * r ≤ n → n < (r + 2 ^ k) * (r + 2 ^ k) → 0 ≤ rt n k r ∧ rt n k r * rt n k r ≤ n ∧ n < (rt n k r + 1) * (rt n k r + 1)
  | 0, r, h0, h1, h2 => by simp at h2; exact ⟨h0, h1, h2⟩
  | k + 1, r, h0, h1, h2 => by
    have hp : (0 : Int) < 2 ^ k := Int.pow_pos (by decide)
    have e : (2 : Int) ^ (k + 1) = 2 ^ k + 2 ^ k := by rw [Int.pow_succ]; omega
    unfold rt
    split
    · rename_i h
      exact rt_spec n k _ (by omega) h (by rw [show r + 2 ^ k + 2 ^ k = r + 2 ^ (k + 1) by rw [e]; omega]; exact h2)
    · rename_i h
      exact rt_spec n k r h0 h1 (by omega)
theorem root_unique {n r s : Int} (hr : 0 ≤ r) (h1 : r * r ≤ n) (h2 : n < (r + 1) * (r + 1)) (hs : 0 ≤ s) (h3 : s * s ≤ n) (h4 : n < (s + 1) * (s + 1)) : r = s := by
  rcases Int.lt_trichotomy r s with h | h | h
  · have := Int.mul_le_mul (show r + 1 ≤ s by omega) (show r + 1 ≤ s by omega) (by omega) hs
    omega
  · exact h
  · have := Int.mul_le_mul (show s + 1 ≤ r by omega) (show s + 1 ≤ r by omega) (by omega) hr
    omega
def rootI (n : Int) : Int := if n < 0 then -1 else rt n 32 0
theorem rootI_spec {n : Int} (h0 : 0 ≤ n) (h1 : n < 18446744073709551616) : 0 ≤ rootI n ∧ rootI n * rootI n ≤ n ∧ n < (rootI n + 1) * (rootI n + 1) := by
  unfold rootI
  rw [if_neg (by omega)]
  exact rt_spec n 32 0 (by decide) (by omega) (by simpa using h1)
theorem or_add (k : Nat) (m : Nat) : 2 ^ (k + 1) * m ||| 2 ^ k = 2 ^ (k + 1) * m + 2 ^ k := (Nat.two_pow_add_eq_or_of_lt (Nat.pow_lt_pow_right (by decide) (by omega)) m).symm
theorem len64 (n : Int) (w : World) (h0 : 0 ≤ n) (h1 : n < 9223372036854775808) : Calls Tryd.prog 85 #[.int .u64 n] w fun e w' => e = .returned (.int .i64 (Lib.bitLen n.toNat)) ∧ w = w' :=
  (Tryd.bits_Len64 n w h0 (by omega)).mono fun _ _ ⟨he, hw⟩ => ⟨he, hw.symm⟩
theorem len_bounds (n : Nat) (h : n < 9223372036854775808) : Lib.bitLen n ≤ 63 ∧ n < 2 ^ Lib.bitLen n := by
  refine ⟨Lib.bitLen_le n 63 (by decide) h, ?_⟩
  by_cases h0 : n = 0
  · subst h0; exact Nat.pow_pos (by decide)
  · exact (Lib.bitLenAux_bounds 64 n (by omega) h0).2.2
/-- The bit that is tried when so many are left. -/
def rv : Nat → Int
  | 0 => 0
  | k + 1 => 2 ^ k
theorem rv_half (k : Nat) : (2 : Int) ^ k / 2 = rv k := by
  cases k with
  | zero => decide
  | succ k => simp only [rv]; rw [Int.pow_succ]; omega
theorem root_room (n : Int) (k m : Nat) (hn : n < 9223372036854775808) (hk : k + 1 ≤ 32) (hr : ((2 ^ (k + 1) * m : Nat) : Int) * ((2 ^ (k + 1) * m : Nat) : Int) ≤ n) :
    2 ^ (k + 1) * m + 2 ^ k ≤ 4294967295 ∧ (2 : Nat) ^ k ≤ 2147483648 := by
  have h1 : 2 ^ (k + 1) * m ≤ 3037000499 := by
    rcases Nat.lt_or_ge 3037000499 (2 ^ (k + 1) * m) with h | h
    · have := Nat.mul_le_mul (show 3037000500 ≤ 2 ^ (k + 1) * m by omega) (show 3037000500 ≤ 2 ^ (k + 1) * m by omega)
      have h2 : ((2 ^ (k + 1) * m * (2 ^ (k + 1) * m) : Nat) : Int) ≤ n := by rw [Int.natCast_mul]; exact hr
      omega
    · exact h
  rcases Nat.lt_or_ge k 31 with h | h
  · have h2 : (2 : Nat) ^ k ≤ 2 ^ 30 := Nat.pow_le_pow_right (by decide) (by omega)
    omega
  · obtain rfl : k = 31 := by omega
    cases m with
    | zero => simp
    | succ m => have : 2 ^ (31 + 1) * (m + 1) ≥ 4294967296 := by omega
                omega
end Go.Proofs.YtpiacndnjehbiaaDoor

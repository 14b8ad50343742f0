/- Contract of package span's Root. Condition: a number of 64 bits. -/
import Derived.Test.YtlhihmfefipehaaPlaneG
import Derived.LoopTactic
import Derived.Laws.Bits64b
import Derived.Lib.ItoaNum
namespace Go.Proofs.Ytlhihmfefipehaa
open Go.RowKit Go.Shelf
attribute [local go_sem] Ext.cell Ext.frozen Ext.lt Ext.le Ext.lt_add Ext.le_add Ext.ne Ext.ne' lt2 lt3 lt4 lt5 le2 le3 le4
def rt (n : Int) : Nat → Int → Int
  | 0, r => r
  | k + 1, r => if (r + 2 ^ k) * (r + 2 ^ k) ≤ n then rt n k (r + 2 ^ k) else rt n k r
theorem rt_spec (n : Int) : ∀ (k : Nat) (r : Int), 0 ≤ r → r * r ≤ n → n < (r + 2 ^ k) * (r + 2 ^ k) → 0 ≤ rt n k r ∧ rt n k r * rt n k r ≤ n ∧ n < (rt n k r + 1) * (rt n k r + 1)
  | 0, r, h0, h1, h2 => by simp at h2; exact ⟨h0, h1, h2⟩
  | k + 1, r, h0, h1, h2 => by
    have hp : (0 : Int) < 2 ^ k := Int.pow_pos (by decide)
    have e : (2 : Int) ^ (k + 1) = 2 ^ k + 2 ^ k := by rw [Int.pow_succ]; omega
    unfold rt
    split
    · rename_i h
      exact rt_spec n k _ (by omega) h (by rw [show r + 2 ^ k + 2 ^ k = r + 2 ^ (k + 1) by rw [e]; omega]; exact h2)
    · rename_i h
      exact rt_spec n k r h0 h1 (by omega)
theorem root_unique {n r s : Int} (hr : 0 ≤ r) (h1 : r * r ≤ n) (h2 : n < (r + 1) * (r + 1)) (hs : 0 ≤ s) (h3 : s * s ≤ n) (h4 : n < (s + 1) * (s + 1)) : r = s := by
  rcases Int.lt_trichotomy r s with h | h | h
  · have := Int.mul_le_mul (show r + 1 ≤ s by omega) (show r + 1 ≤ s by omega) (by omega) hs
    omega
  · exact h
  · have := Int.mul_le_mul (show s + 1 ≤ r by omega) (show s + 1 ≤ r by omega) (by omega) hr
    omega
def rootI (n : Int) : Int := if n < 0 then -1 else rt n 32 0
theorem rootI_spec {n : Int} (h0 : 0 ≤ n) (h1 : n < 18446744073709551616) : 0 ≤ rootI n ∧ rootI n * rootI n ≤ n ∧ n < (rootI n + 1) * (rootI n + 1) := by
  unfold rootI
  rw [if_neg (by omega)]
  exact rt_spec n 32 0 (by decide) (by omega) (by simpa using h1)
theorem or_add (k : Nat) (m : Nat) : 2 ^ (k + 1) * m ||| 2 ^ k = 2 ^ (k + 1) * m + 2 ^ k := (Nat.two_pow_add_eq_or_of_lt (Nat.pow_lt_pow_right (by decide) (by omega)) m).symm
theorem len64 (n : Int) (w : World) (h0 : 0 ≤ n) (h1 : n < 9223372036854775808) : Calls Try.prog 110 #[.int .u64 n] w fun e w' => e = .returned (.int .i64 (Lib.bitLen n.toNat)) ∧ w = w' :=
  (Try.bits_Len64 n w h0 (by omega)).mono fun _ _ ⟨he, hw⟩ => ⟨he, hw.symm⟩
theorem len_bounds (n : Nat) (h : n < 9223372036854775808) : Lib.bitLen n ≤ 63 ∧ n < 2 ^ Lib.bitLen n := by
  refine ⟨Lib.bitLen_le n 63 (by decide) h, ?_⟩
  by_cases h0 : n = 0
  · subst h0; exact Nat.pow_pos (by decide)
  · exact (Lib.bitLenAux_bounds 64 n (by omega) h0).2.2
/-- The bit that is tried when so many are left. -/
def rv : Nat → Int
  | 0 => 0
  | k + 1 => 2 ^ k
theorem rv_half (k : Nat) : (2 : Int) ^ k / 2 = rv k := by
  cases k with
  | zero => decide
  | succ k => simp only [rv]; rw [Int.pow_succ]; omega
theorem Root_neg (n : Int) (w : World) (h : n < 0) : Calls Try.prog 95 #[.int .i64 n] w (Gives (.int .i64 (rootI n)) w) := by
  have e : rootI n = -1 := by unfold rootI; rw [if_pos h]
  rw [e]
  clear e
  go_enter Try.func95, Try.ntmps95
  go_wp2_with (first | ((first | with_reducible refine wrx2 ?_ | with_reducible refine wrx ?_); (repeat (first | go_big_quiet_step ((first | fail)) | quiet_step ((first | fail)))); refine wpQuiet_nil ?_; rintro _ ⟨yr, rfl⟩; have syr := Ext.size yr; (repeat (first | rw [World.size_alloc] at syr | rw [World.size_setCell] at syr | rw [World.size_drew] at syr))))
  go_returns
  refine ⟨rfl, ?_⟩
  repeat' (first | (with_reducible exact Below.refl _ _) | (with_reducible assumption) | (with_reducible refine Ext.below _ ?_ ?_) | (with_reducible refine Below.on ?_ (by with_reducible assumption) ?_) | (with_reducible refine Below.alloc ?_ ?_ _) | (with_reducible refine Below.drew ?_) | (with_reducible refine Below.setCell ?_ ?_ _) | (with_reducible exact Nat.le_refl _) | omega | (simp; done) | (simp [go_sem]; done) | (simp at *; omega))
theorem root_room (n : Int) (k m : Nat) (hn : n < 9223372036854775808) (hk : k + 1 ≤ 32) (hr : ((2 ^ (k + 1) * m : Nat) : Int) * ((2 ^ (k + 1) * m : Nat) : Int) ≤ n) :
    2 ^ (k + 1) * m + 2 ^ k ≤ 4294967295 ∧ (2 : Nat) ^ k ≤ 2147483648 := by
  have h1 : 2 ^ (k + 1) * m ≤ 3037000499 := by
    rcases Nat.lt_or_ge 3037000499 (2 ^ (k + 1) * m) with h | h
    · have := Nat.mul_le_mul (show 3037000500 ≤ 2 ^ (k + 1) * m by omega) (show 3037000500 ≤ 2 ^ (k + 1) * m by omega)
      have h2 : ((2 ^ (k + 1) * m * (2 ^ (k + 1) * m) : Nat) : Int) ≤ n := by rw [Int.natCast_mul]; exact hr
      omega
    · exact h
  rcases Nat.lt_or_ge k 31 with h | h
  · have h2 : (2 : Nat) ^ k ≤ 2 ^ 30 := Nat.pow_le_pow_right (by decide) (by omega)
    omega
  · obtain rfl : k = 31 := by omega
    cases m with
    | zero => simp
    | succ m => have : 2 ^ (31 + 1) * (m + 1) ≥ 4294967296 := by omega
                omega
set_option maxHeartbeats 1000000 in
theorem Root_pos (n : Int) (w : World) (hn0 : 0 ≤ n) (hn : n < 9223372036854775808) : Calls Try.prog 95 #[.int .i64 n] w (Gives (.int .i64 (rootI n)) w) := by
  have e : IntKind.u64.wrap n = n := by go_arith
  have HL := Go.Lib.hid (fun W => len64 n W hn0 hn)
  obtain ⟨l1, l2⟩ := len_bounds n.toNat (by omega)
  have HS := Go.Lib.hid (rootI_spec hn0 (by omega))
  generalize Lib.bitLen n.toNat = L at *
  obtain ⟨H, hH⟩ : ∃ H, L / 2 = H := ⟨_, rfl⟩
  have hH31 : H ≤ 31 := by omega
  have hlim : (n : Int) < 2 ^ (H + 1) * 2 ^ (H + 1) := by
    have h1 : (2 : Nat) ^ L ≤ 2 ^ (H + 1 + (H + 1)) := Nat.pow_le_pow_right (by decide) (by omega)
    rw [Nat.pow_add] at h1
    have h2 : n.toNat < 2 ^ (H + 1) * 2 ^ (H + 1) := Nat.lt_of_lt_of_le l2 h1
    have h3 : ((n.toNat : Nat) : Int) = n := by omega
    have h4 : ((n.toNat : Nat) : Int) < ((2 ^ (H + 1) * 2 ^ (H + 1) : Nat) : Int) := Int.ofNat_lt.2 h2
    rw [h3] at h4
    simpa using h4
  have eH : wrap64 ((L : Int) / 2) = (H : Int) := by go_arith
  have hp32 : (2 : Int) ^ H ≤ 2147483648 := by
    have := Nat.pow_le_pow_right (n := 2) (by decide) hH31
    have h2 : ((2 ^ H : Nat) : Int) ≤ ((2 ^ 31 : Nat) : Int) := Int.ofNat_le.2 this
    simpa using h2
  have hp0 : (0 : Int) < 2 ^ H := Int.pow_pos (by decide)
  have eB : IntKind.u64.wrap (2 ^ H) = 2 ^ H := by go_arith
  have Hlim := Go.Lib.hid hlim
  have HH := Go.Lib.hid hH
  have b0 : (0 : Int) ≤ H := by omega
  have b1 : (H : Int) ≤ 64 := by omega
  clear l2 hlim hH l1
  go_enter Try.func95, Try.ntmps95
  go_wp2_with (go_at_call 110; refine (HL.out _).mono ?_; rintro e w' ⟨rfl, rfl⟩)
  go_loop [3, 4] (fun s t => ∃ k m : Nat, s = .int .u64 ((2 ^ k * m : Nat) : Int) ∧ t = .int .u64 (rv k) ∧ k ≤ 32 ∧ ((2 ^ k * m : Nat) : Int) * ((2 ^ k * m : Nat) : Int) ≤ n ∧ n < (((2 ^ k * m : Nat) : Int) + 2 ^ k) * (((2 ^ k * m : Nat) : Int) + 2 ^ k)) (fun _ t => (intOf t).toNat)
  case atStart => exact ⟨H + 1, 0, by simp, rfl, by omega, by simpa using hn0, by simpa using Hlim.out⟩
  case round =>
    obtain ⟨k, m, rfl, rfl, hk, h1, h2⟩ := hrel
    cases k with
    | zero =>
      simp at h1 h2
      have hr : (m : Int) ≤ 3037000499 := by
        rcases Int.lt_or_le 3037000499 (m : Int) with h | h
        · have := Int.mul_le_mul (show (3037000500 : Int) ≤ m by omega) (show (3037000500 : Int) ≤ m by omega) (by decide) (by omega)
          omega
        · exact h
      have U := Go.Lib.hid (root_unique (r := rootI n) (s := m) HS.out.1 HS.out.2.1 HS.out.2.2 (by omega) h1 h2)
      have em : (((2 : Nat) ^ 0 * m : Nat) : Int) = (m : Int) := by simp
      have ew : wrap64 (m : Int) = m := IntWalk.wrap64_in _ (by omega)
      rw [em]
      simp only [rv]
      clear em h1 h2
      go_wp2_with fail
      go_returns
      refine ⟨ret_int ?_, ?_⟩
      · rw [U.out]
      · repeat' (first | (with_reducible exact Below.refl _ _) | (with_reducible assumption) | (with_reducible refine Ext.below _ ?_ ?_) | (with_reducible refine Below.on ?_ (by with_reducible assumption) ?_) | (with_reducible refine Below.alloc ?_ ?_ _) | (with_reducible refine Below.drew ?_) | (with_reducible refine Below.setCell ?_ ?_ _) | (with_reducible exact Nat.le_refl _) | omega | (simp; done) | (simp [go_sem]; done) | (simp at *; omega))
    | succ k =>
      obtain ⟨c1, c2⟩ := root_room n k m hn hk h1
      have eor := or_add k m
      have hb := bits_or_u64_nat (2 ^ (k + 1) * m) (2 ^ k) (Nat.lt_of_le_of_lt (Nat.le_trans (Nat.le_add_right _ _) c1) (by decide)) (Nat.lt_of_le_of_lt c2 (by decide))
      rw [eor] at hb
      have hB : ((2 ^ k : Nat) : Int) = 2 ^ k := by simp
      have hpos : (0 : Int) < 2 ^ k := Int.pow_pos (by decide)
      have e2 : (2 : Int) ^ (k + 1) = 2 ^ k + 2 ^ k := by rw [Int.pow_succ]; omega
      have hh := rv_half k
      have m1 : 2 ^ (k + 1) * m + 2 ^ k = 2 ^ k * (2 * m + 1) := by rw [Nat.pow_succ]; grind
      have m2 : 2 ^ (k + 1) * m = 2 ^ k * (2 * m) := by rw [Nat.pow_succ]; grind
      rw [Int.natCast_add, hB] at hb
      rw [e2] at h2
      have lim : ((2 ^ (k + 1) * m : Nat) : Int) + 2 ^ k ≤ 4294967295 := by have := Int.ofNat_le.2 c1; rw [Int.natCast_add, hB] at this; exact this
      have r0 : (0 : Int) ≤ ((2 ^ (k + 1) * m : Nat) : Int) := by omega
      have M1 := Go.Lib.hid m1; have M2 := Go.Lib.hid m2; have HB := Go.Lib.hid hB
      simp only [rv]
      clear eor m1 c1 c2 e2
      clear m2
      generalize hR : ((2 ^ (k + 1) * m : Nat) : Int) = R at *
      have HR := Go.Lib.hid hR
      generalize hB2 : (2 : Int) ^ k = B at *
      have HB2 := Go.Lib.hid hB2
      have HH2 := Go.Lib.hid hh
      have sqb := sq_bounds (x := R + B) (B := 4294967295) (by omega) lim
      simp only [Int.reduceMul] at sqb
      obtain ⟨s1, s2⟩ := sqb
      have eW : IntKind.u64.wrap ((R + B) * (R + B)) = (R + B) * (R + B) := by go_arith
      have H1 := Go.Lib.hid h1; have H2 := Go.Lib.hid h2
      clear hR hB2 hh hB h1 h2
      by_cases ht : (R + B) * (R + B) ≤ n
      · have HT := Go.Lib.hid ht
        go_wp2_with fail
        have v : ((2 ^ k * (2 * m + 1) : Nat) : Int) = R + B := by rw [← M1.out, Int.natCast_add, HR.out, HB.out]
        refine ⟨⟨k, 2 * m + 1, by rw [v], by rw [HH2.out]; cases k <;> rfl, by omega, by rw [v]; exact HT.out, ?_⟩, by simp only [intOf]; omega⟩
        rw [v, HB2.out, show R + B + B = R + (B + B) by omega]
        exact H2.out
      · have ht' : n < (R + B) * (R + B) := by omega
        clear ht
        have HT := Go.Lib.hid ht'
        go_wp2_with fail
        have v : ((2 ^ k * (2 * m) : Nat) : Int) = R := by rw [← M2.out, HR.out]
        refine ⟨⟨k, 2 * m, by rw [v], by rw [HH2.out]; cases k <;> rfl, by omega, by rw [v]; exact H1.out, ?_⟩, by simp only [intOf]; omega⟩
        rw [v, HB2.out]
        exact HT.out
theorem Root_any (n : Int) (w : World) (h : I64 n) : Calls Try.prog 95 #[.int .i64 n] w (Gives (.int .i64 (rootI n)) w) := by
  unfold I64 at h
  rcases Int.lt_or_le n 0 with h0 | h0
  · exact Root_neg n w h0
  · exact Root_pos n w h0 h.2
end Go.Proofs.Ytlhihmfefipehaa

/- Contract of math/bits.Div64: the quotient and the rest of a number of 128 bits. Condition: as the library asks: the high word is less than the divisor. -/
import Derived.Test.YtlhihmfefipehaaPlaneG
import Derived.LoopTactic
import Derived.Laws.Bits64b
import Derived.Lib.ItoaNum
namespace Go.Proofs.Ytlhihmfefipehaa
open Go.RowKit Go.Shelf
attribute [local go_sem] Ext.cell Ext.frozen Ext.lt Ext.le Ext.lt_add Ext.le_add Ext.ne Ext.ne' lt2 lt3 lt4 lt5 le2 le3 le4
/-- What holds of a digit that is guessed: never too small, and close. -/
structure Guess (u v1 v0 w qh rh : Int) : Prop where
  eq : u = qh * v1 + rh
  r0 : 0 ≤ rh
  r1 : rh < 4294967296
  lo : (u * 4294967296 + w) / (v1 * 4294967296 + v0) ≤ qh
  hi : qh ≤ 4294967297
structure Digit (u v1 v0 w : Int) : Prop where
  a1 : 2147483648 ≤ v1
  a2 : v1 < 4294967296
  b1 : 0 ≤ v0
  b2 : v0 < 4294967296
  u1 : 0 ≤ u
  u2 : u < v1 * 4294967296 + v0
  w1 : 0 ≤ w
  w2 : w < 4294967296
section
variable {u v1 v0 w qh rh : Int}
theorem Digit.q_bounds (h : Digit u v1 v0 w) : 0 ≤ (u * 4294967296 + w) / (v1 * 4294967296 + v0) ∧ (u * 4294967296 + w) / (v1 * 4294967296 + v0) < 4294967296 := by
  obtain ⟨a1, a2, b1, b2, u1, u2, w1, w2⟩ := h
  refine ⟨Int.ediv_nonneg (by omega) (by omega), ?_⟩
  rw [Int.ediv_lt_iff_lt_mul (by omega)]
  omega
theorem le_q {q V N : Int} (hV : 0 < V) (h : q * V ≤ N) : q ≤ N / V := (Int.le_ediv_iff_mul_le hV).2 h
theorem q_lt {q V N : Int} (hV : 0 < V) (h : N < q * V) : N / V < q := (Int.ediv_lt_iff_lt_mul hV).2 h
theorem Guess.start (h : Digit u v1 v0 w) : Guess u v1 v0 w (u / v1) (u - u / v1 * v1) := by
  obtain ⟨a1, a2, b1, b2, u1, u2, w1, w2⟩ := h
  have e1 := Int.emod_nonneg u (b := v1) (by omega)
  have e2 := Int.emod_lt_of_pos u (b := v1) (by omega)
  have e3 := Int.emod_add_mul_ediv u v1
  have e4 : v1 * (u / v1) = u / v1 * v1 := Int.mul_comm _ _
  refine ⟨by omega, by omega, by omega, ?_, ?_⟩
  · apply Int.le_of_lt_add_one
    apply q_lt (by omega)
    have hq : 0 ≤ u / v1 := Int.ediv_nonneg u1 (by omega)
    have : 0 ≤ (u / v1 + 1) * v0 := Int.mul_nonneg (by omega) b1
    have e5 : (u / v1 + 1) * (v1 * 4294967296 + v0) = (u / v1 * v1 + v1) * 4294967296 + (u / v1 + 1) * v0 := by grind
    rw [e5]; omega
  · apply Int.le_of_lt_add_one
    rw [Int.ediv_lt_iff_lt_mul (by omega)]
    omega
theorem Guess.more (h : Digit u v1 v0 w) (g : Guess u v1 v0 w qh rh) (hc : 4294967296 ≤ qh ∨ 4294967296 * rh + w < qh * v0) : (u * 4294967296 + w) / (v1 * 4294967296 + v0) < qh := by
  have hq := h.q_bounds
  rcases hc with hc | hc
  · omega
  · apply q_lt (by have := h.a1; have := h.b1; omega)
    have e : qh * (v1 * 4294967296 + v0) = qh * v1 * 4294967296 + qh * v0 := by grind
    have := g.eq
    rw [e]; omega
theorem Guess.stop (h : Digit u v1 v0 w) (g : Guess u v1 v0 w qh rh) (hc : qh * v0 ≤ 4294967296 * rh + w) : qh = (u * 4294967296 + w) / (v1 * 4294967296 + v0) := by
  have hV : 0 < v1 * 4294967296 + v0 := by have := h.a1; have := h.b1; omega
  have := le_q (q := qh) (N := u * 4294967296 + w) hV (by
    have e : qh * (v1 * 4294967296 + v0) = qh * v1 * 4294967296 + qh * v0 := by grind
    have := g.eq
    rw [e]; omega)
  have := g.lo
  omega
theorem Guess.next (h : Digit u v1 v0 w) (g : Guess u v1 v0 w qh rh) (hc : (u * 4294967296 + w) / (v1 * 4294967296 + v0) < qh) (hr : rh + v1 < 4294967296) : Guess u v1 v0 w (qh - 1) (rh + v1) := by
  have e : (qh - 1) * v1 = qh * v1 - v1 := by grind
  have := g.eq; have := g.r0; have := h.a1; have := g.hi
  exact ⟨by rw [e]; omega, by omega, hr, by omega, by omega⟩
theorem Guess.last (h : Digit u v1 v0 w) (g : Guess u v1 v0 w qh rh) (hc : (u * 4294967296 + w) / (v1 * 4294967296 + v0) < qh) (hr : 4294967296 ≤ rh + v1) : qh - 1 = (u * 4294967296 + w) / (v1 * 4294967296 + v0) := by
  have hV : 0 < v1 * 4294967296 + v0 := by have := h.a1; have := h.b1; omega
  have hq := h.q_bounds
  have h0 : 0 ≤ qh - 1 := by omega
  have h1 : (qh - 1) * v0 ≤ 4294967296 * 4294967296 := Int.mul_le_mul (by have := g.hi; omega) (by have := h.b2; omega) h.b1 (by decide)
  have := le_q (q := qh - 1) (N := u * 4294967296 + w) hV (by
    have e : (qh - 1) * (v1 * 4294967296 + v0) = (qh * v1 - v1) * 4294967296 + (qh - 1) * v0 := by grind
    have := g.eq; have := h.w1
    rw [e]; omega)
  omega
end
theorem div_back {X y P Q r : Int} (hP : 0 < P) (hy : 0 < y) (h : X * P = Q * (y * P) + r) (h0 : 0 ≤ r) (h1 : r < y * P) : Q = X / y ∧ r / P = X % y := by
  have hyP : 0 < y * P := Int.mul_pos hy hP
  have e1 : X * P / (y * P) = X / y := Int.mul_ediv_mul_of_pos_left X y hP
  have e2 : X * P / (y * P) = Q := by
    rw [h, Int.add_comm, Int.add_mul_ediv_right _ _ (by omega), Int.ediv_eq_zero_of_lt h0 h1]; omega
  have hQ : Q = X / y := by omega
  refine ⟨hQ, ?_⟩
  have e3 : r = X % y * P := by
    have := Int.emod_add_mul_ediv X y
    rw [hQ] at h
    have e4 : X * P = (X % y + y * (X / y)) * P := by rw [this]
    grind
  rw [e3, Int.mul_ediv_cancel _ (by omega)]
theorem div_two {u w1 w0 V : Int} : (u * 18446744073709551616 + w1 * 4294967296 + w0) = ((u * 4294967296 + w1) / V * 4294967296 + ((u * 4294967296 + w1) % V * 4294967296 + w0) / V) * V + ((u * 4294967296 + w1) % V * 4294967296 + w0) % V := by
  have a := Int.emod_add_mul_ediv (u * 4294967296 + w1) V
  have b := Int.emod_add_mul_ediv ((u * 4294967296 + w1) % V * 4294967296 + w0) V
  grind
theorem shl_split (l : Int) (s : Nat) (hs : s ≤ 64) : l * 2 ^ s = l / 2 ^ (64 - s) * 18446744073709551616 + l * 2 ^ s % 18446744073709551616 := by
  have hp : (0 : Int) < 2 ^ s := Int.pow_pos (by decide)
  have e : (18446744073709551616 : Int) = 2 ^ (64 - s) * 2 ^ s := by rw [← Int.pow_add, show 64 - s + s = 64 by omega]; decide
  have e1 : l * 2 ^ s / 18446744073709551616 = l / 2 ^ (64 - s) := by rw [e]; exact Int.mul_ediv_mul_of_pos_left _ _ hp
  have := Int.emod_add_mul_ediv (l * 2 ^ s) 18446744073709551616
  rw [e1] at this
  omega
theorem low_lt (l : Int) (s : Nat) (hs : s ≤ 64) (h0 : 0 ≤ l) (h1 : l < 18446744073709551616) : 0 ≤ l / 2 ^ (64 - s) ∧ l / 2 ^ (64 - s) < 2 ^ s := by
  have hp : (0 : Int) < 2 ^ (64 - s) := Int.pow_pos (by decide)
  refine ⟨Int.ediv_nonneg h0 (by omega), ?_⟩
  rw [Int.ediv_lt_iff_lt_mul hp, ← Int.pow_add, show s + (64 - s) = 64 by omega]
  exact h1
theorem lz64 (n : Int) (w : World) (h0 : 0 ≤ n) (h1 : n < 18446744073709551616) : Calls Try.prog 118 #[.int .u64 n] w fun e w' => e = .returned (.int .i64 (64 - (Lib.bitLen n.toNat : Int))) ∧ w = w' :=
  (Try.bits_LeadingZeros64 n w h0 (by omega)).mono fun _ _ ⟨he, hw⟩ => ⟨he, hw.symm⟩
theorem Div64_small (l y : Int) (w : World) (hl : 0 ≤ l) (hl' : l < 18446744073709551616) (hy : 0 < y) (hy' : y < 18446744073709551616) :
    Calls Try.prog 117 #[.int .u64 0, .int .u64 l, .int .u64 y] w (Gives (.tuple #[.int .u64 (l / y), .int .u64 (l % y)]) w) := by
  have d1 := Int.ediv_nonneg hl (show 0 ≤ y by omega)
  have d2 : l / y < 18446744073709551616 := Int.lt_of_le_of_lt (Int.ediv_le_self _ hl) hl'
  have d3 := Int.emod_nonneg l (show y ≠ 0 by omega)
  have d4 := Int.emod_lt_of_pos l hy
  have y0 : (y == 0) = false := by simp; omega
  go_enter Try.func117, Try.ntmps117
  go_wp2_with (first | ((first | with_reducible refine wrx2 ?_ | with_reducible refine wrx ?_); (repeat (first | go_big_quiet_step ((first | fail)) | quiet_step ((first | fail)))); refine wpQuiet_nil ?_; rintro _ ⟨yr, rfl⟩; have syr := Ext.size yr; (repeat (first | rw [World.size_alloc] at syr | rw [World.size_setCell] at syr | rw [World.size_drew] at syr))))
  go_returns
  refine ⟨rfl, ?_⟩
  repeat' (first | (with_reducible exact Below.refl _ _) | (with_reducible assumption) | (with_reducible refine Ext.below _ ?_ ?_) | (with_reducible refine Below.on ?_ (by with_reducible assumption) ?_) | (with_reducible refine Below.alloc ?_ ?_ _) | (with_reducible refine Below.drew ?_) | (with_reducible refine Below.setCell ?_ ?_ _) | (with_reducible exact Nat.le_refl _) | omega | (simp; done) | (simp [go_sem]; done) | (simp at *; omega))
theorem and_mask (a : Nat) (ha : a < 18446744073709551616) : bits .and .u64 (a : Int) 4294967295 = ((a % 4294967296 : Nat) : Int) := by
  have h := bits_and_u64_nat a 4294967295 ha (by decide)
  rw [show a &&& 4294967295 = a % 4294967296 from Nat.and_two_pow_sub_one_eq_mod a 32] at h
  exact h
theorem and_maskI {a : Int} (h0 : 0 ≤ a) (ha : a < 18446744073709551616) : bits .and .u64 a 4294967295 = a % 4294967296 := by
  obtain ⟨n, rfl⟩ := Int.eq_ofNat_of_zero_le h0
  rw [and_mask n (by omega)]
  omega
theorem or_low {h l : Int} (s : Nat) (h0 : 0 ≤ h) (l0 : 0 ≤ l) (l1 : l < 2 ^ s) (hh : h * 2 ^ s < 18446744073709551616) (s64 : s ≤ 64) : bits .or .u64 (h * 2 ^ s) l = h * 2 ^ s + l := by
  obtain ⟨n, rfl⟩ := Int.eq_ofNat_of_zero_le h0
  obtain ⟨m, rfl⟩ := Int.eq_ofNat_of_zero_le l0
  have e1 : ((n : Int) * 2 ^ s) = ((2 ^ s * n : Nat) : Int) := by rw [Int.natCast_mul, Int.mul_comm]; simp
  have hm : m < 2 ^ s := by
    have : ((m : Nat) : Int) < ((2 ^ s : Nat) : Int) := by simpa using l1
    exact Int.ofNat_lt.1 this
  have hp : (2 : Nat) ^ s ≤ 2 ^ 64 := Nat.pow_le_pow_right (by decide) s64
  rw [e1] at hh ⊢
  rw [bits_or_u64_nat _ _ (Int.ofNat_lt.1 hh) (by omega), ← Nat.two_pow_add_eq_or_of_lt hm n]
  omega
/-- The number of a divisor's leading zeros makes it a great one. -/
theorem norm {y : Int} (h0 : 0 < y) (h1 : y < 18446744073709551616) : ∃ s : Nat, (64 : Int) - (Lib.bitLen y.toNat : Int) = (s : Int) ∧ s ≤ 63 ∧ 9223372036854775808 ≤ y * 2 ^ s ∧ y * 2 ^ s < 18446744073709551616 := by
  obtain ⟨n, rfl⟩ := Int.eq_ofNat_of_zero_le (Int.le_of_lt h0)
  obtain ⟨a, b, c⟩ := Lib.bitLenAux_bounds 64 n (by omega) (by omega)
  have d := Lib.bitLen_le n 64 (by decide) (by omega)
  rw [show Lib.bitLenAux 64 n = Lib.bitLen n from rfl] at a b c
  rw [show (n : Int).toNat = n by omega]
  generalize Lib.bitLen n = L at *
  refine ⟨64 - L, by omega, by omega, ?_, ?_⟩
  · have e : (2 : Nat) ^ (L - 1) * 2 ^ (64 - L) = 9223372036854775808 := by rw [← Nat.pow_add, show L - 1 + (64 - L) = 63 by omega]
    have : 2 ^ (L - 1) * 2 ^ (64 - L) ≤ n * 2 ^ (64 - L) := Nat.mul_le_mul_right _ b
    have h : ((9223372036854775808 : Nat) : Int) ≤ ((n * 2 ^ (64 - L) : Nat) : Int) := Int.ofNat_le.2 (by omega)
    simpa using h
  · have e : (2 : Nat) ^ L * 2 ^ (64 - L) = 18446744073709551616 := by rw [← Nat.pow_add, show L + (64 - L) = 64 by omega]
    have : n * 2 ^ (64 - L) < 2 ^ L * 2 ^ (64 - L) := Nat.mul_lt_mul_of_pos_right c (Nat.pow_pos (by decide))
    have h : ((n * 2 ^ (64 - L) : Nat) : Int) < ((18446744073709551616 : Nat) : Int) := Int.ofNat_lt.2 (by omega)
    simpa using h
set_option maxRecDepth 100000 in
set_option maxHeartbeats 4000000 in
theorem Div64_big (h l y : Int) (w : World) (hh : 0 < h) (hhy : h < y) (hl : 0 ≤ l) (hl' : l < 18446744073709551616) (hy' : y < 18446744073709551616) :
    Calls Try.prog 117 #[.int .u64 h, .int .u64 l, .int .u64 y] w (Gives (.tuple #[.int .u64 ((h * 18446744073709551616 + l) / y), .int .u64 ((h * 18446744073709551616 + l) % y)]) w) := by
  have hL := fun W => lz64 y W (by omega) hy'
  obtain ⟨s, es, s63, n1, n2⟩ := norm (show 0 < y by omega) hy'
  rw [es] at hL
  have HL := Go.Lib.hid hL
  clear hL es
  have y0 : (y == 0) = false := by simp; omega
  have h0 : (h == 0) = false := by simp; omega
  have hlt : ¬ y ≤ h := by omega
  have e1 : IntKind.u64.wrap (s : Int) = (s : Int) := by go_arith
  have s0 : (0 : Int) ≤ s := by omega
  have s1 : (s : Int) ≤ 64 := by omega
  have s2 : (64 : Int) - s ≤ 64 := by omega
  have s3 : (0 : Int) ≤ 64 - s := by omega
  have hp : (0 : Int) < 2 ^ s := Int.pow_pos (by decide)
  have sp := shl_split l s (by omega)
  obtain ⟨lw1, lw2⟩ := low_lt l s (by omega) hl hl'
  have hh1 : (h + 1) * 2 ^ s ≤ y * 2 ^ s := Int.mul_le_mul_of_nonneg_right (by omega) (by omega)
  have hh2 : (h + 1) * 2 ^ s = h * 2 ^ s + 2 ^ s := by grind
  have hh3 : 0 ≤ h * 2 ^ s := Int.mul_nonneg (by omega) (by omega)
  have eH : IntKind.u64.wrap (h * 2 ^ s) = h * 2 ^ s := by go_arith
  have eO := or_low s (by omega) lw1 lw2 (show h * 2 ^ s < 18446744073709551616 by omega) (by omega)
  obtain ⟨Y, hY⟩ : ∃ Y, y * 2 ^ s = Y := ⟨_, rfl⟩
  obtain ⟨u, hu⟩ : ∃ u, h * 2 ^ s + l / 2 ^ (64 - s) = u := ⟨_, rfl⟩
  obtain ⟨x, hx⟩ : ∃ x, l * 2 ^ s % 18446744073709551616 = x := ⟨_, rfl⟩
  have HX : Go.RowKit.Hid ((h * 18446744073709551616 + l) * 2 ^ s = u * 18446744073709551616 + x) := by
    show _ = _
    have : (h * 18446744073709551616 + l) * 2 ^ s = h * 2 ^ s * 18446744073709551616 + l * 2 ^ s := by grind
    omega
  have HY := Go.Lib.hid hY
  have x0 : 0 ≤ x := by omega
  have x1 : x < 18446744073709551616 := by omega
  have eY : IntKind.u64.wrap (y * 2 ^ s) = Y := by go_arith
  have eL : IntKind.u64.wrap (l * 2 ^ s) = x := by simp only [IntKind.wrap_u64]; exact hx
  have eU : bits BinOp.or IntKind.u64 (IntKind.u64.wrap (h * 2 ^ s)) (l / 2 ^ (64 - s)) = u := by rw [eH, eO, hu]
  have u0 : 0 ≤ u := by omega
  have u1 : u < Y := by omega
  rw [hY] at n1 n2
  have eV0 := and_maskI (show 0 ≤ Y by omega) n2
  have eW0 := and_maskI x0 x1
  clear eH eO sp lw1 lw2 hh1 hh2 hh3 hu hx hY
  obtain ⟨v1, hv1⟩ : ∃ v, Y / 4294967296 = v := ⟨_, rfl⟩
  obtain ⟨v0, hv0⟩ : ∃ v, Y % 4294967296 = v := ⟨_, rfl⟩
  obtain ⟨w1, hw1⟩ : ∃ v, x / 4294967296 = v := ⟨_, rfl⟩
  obtain ⟨w0, hw0⟩ : ∃ v, x % 4294967296 = v := ⟨_, rfl⟩
  rw [hv0] at eV0
  rw [hw0] at eW0
  have hYv : Y = v1 * 4294967296 + v0 := by omega
  have hxw : x = w1 * 4294967296 + w0 := by omega
  have d1 : Digit u v1 v0 w1 := ⟨by omega, by omega, by omega, by omega, u0, by omega, by omega, by omega⟩
  have g1 := Guess.start d1
  obtain ⟨q1, hq1⟩ : ∃ q, (u * 4294967296 + w1) / (v1 * 4294967296 + v0) = q := ⟨_, rfl⟩
  have qb := d1.q_bounds
  rw [hq1] at qb
  have r1a := Int.emod_nonneg (u * 4294967296 + w1) (b := v1 * 4294967296 + v0) (by have := d1.a1; have := d1.b1; omega)
  have r1b := Int.emod_lt_of_pos (u * 4294967296 + w1) (b := v1 * 4294967296 + v0) (by have := d1.a1; have := d1.b1; omega)
  have r1c := Int.emod_add_mul_ediv (u * 4294967296 + w1) (v1 * 4294967296 + v0)
  rw [hq1] at r1c
  obtain ⟨r1, hr1⟩ : ∃ r, (u * 4294967296 + w1) % (v1 * 4294967296 + v0) = r := ⟨_, rfl⟩
  rw [hr1] at r1a r1b r1c
  rw [← hYv] at r1c r1b
  have r1d : Y * q1 = q1 * Y := Int.mul_comm _ _
  have e21 : IntKind.u64.wrap (IntKind.u64.wrap (IntKind.u64.wrap (u * 4294967296) + w1) - IntKind.u64.wrap (q1 * Y)) = r1 := by simp only [IntKind.wrap_u64]; omega
  have d0 : Digit r1 v1 v0 w0 := ⟨d1.a1, d1.a2, d1.b1, d1.b2, r1a, by omega, by omega, by omega⟩
  have g0 := Guess.start d0
  obtain ⟨q0, hq0⟩ : ∃ q, (r1 * 4294967296 + w0) / (v1 * 4294967296 + v0) = q := ⟨_, rfl⟩
  have qb0 := d0.q_bounds
  rw [hq0] at qb0
  have r0a := Int.emod_nonneg (r1 * 4294967296 + w0) (b := v1 * 4294967296 + v0) (by have := d1.a1; have := d1.b1; omega)
  have r0b := Int.emod_lt_of_pos (r1 * 4294967296 + w0) (b := v1 * 4294967296 + v0) (by have := d1.a1; have := d1.b1; omega)
  have r0c := Int.emod_add_mul_ediv (r1 * 4294967296 + w0) (v1 * 4294967296 + v0)
  rw [hq0] at r0c
  obtain ⟨r0, hr0⟩ : ∃ r, (r1 * 4294967296 + w0) % (v1 * 4294967296 + v0) = r := ⟨_, rfl⟩
  rw [hr0] at r0a r0b r0c
  rw [← hYv] at r0c r0b
  have r0d : Y * q0 = q0 * Y := Int.mul_comm _ _
  have e00 : IntKind.u64.wrap (IntKind.u64.wrap (IntKind.u64.wrap (r1 * 4294967296) + w0) - IntKind.u64.wrap (q0 * Y)) = r0 := by simp only [IntKind.wrap_u64]; omega
  have FIN : Go.RowKit.Hid (q1 * 4294967296 + q0 = (h * 18446744073709551616 + l) / y ∧ r0 / 2 ^ s = (h * 18446744073709551616 + l) % y) := by
    refine div_back hp (by omega) ?_ r0a (by rw [HY.out]; exact r0b)
    rw [HX.out, HY.out]
    have : (q1 * 4294967296 + q0) * Y = q1 * Y * 4294967296 + q0 * Y := by grind
    omega
  rw [hYv] at r1b
  obtain ⟨t1, ht1⟩ : ∃ t, u / v1 = t := ⟨_, rfl⟩
  obtain ⟨t0, ht0⟩ : ∃ t, r1 / v1 = t := ⟨_, rfl⟩
  rw [ht1] at g1
  rw [ht0] at g0
  obtain ⟨va1, va2, vb1, vb2, _, _, w1a, w1b⟩ := d1
  have w0a : 0 ≤ w0 := by omega
  have w0b : w0 < 4294967296 := by omega
  have G1 := Go.Lib.hid g1; have G0 := Go.Lib.hid g0
  have D1 := Go.Lib.hid (show Digit u v1 v0 w1 from ⟨va1, va2, vb1, vb2, by assumption, by assumption, w1a, w1b⟩)
  have D0 := Go.Lib.hid d0
  have t1a : 0 ≤ t1 := by rw [← ht1]; exact Int.ediv_nonneg u0 (by omega)
  have t1b : t1 ≤ 4294967297 := g1.hi
  have t1c : t1 * v1 ≤ u := by have := g1.r0; omega
  have t1d : 0 ≤ t1 * v1 := Int.mul_nonneg t1a (by omega)
  have t0a : 0 ≤ t0 := by rw [← ht0]; exact Int.ediv_nonneg r1a (by omega)
  have t0b : t0 ≤ 4294967297 := g0.hi
  have t0c : t0 * v1 ≤ r1 := by have := g0.r0; omega
  have t0d : 0 ≤ t0 * v1 := Int.mul_nonneg t0a (by omega)
  have HQ1 := Go.Lib.hid hq1; have HQ0 := Go.Lib.hid hq0
  clear d0 g1 g0 hq1 hq0 hYv hxw r1c r1d r0c r0d hr1 hr0 n1
  go_enter Try.func117, Try.ntmps117
  go_wp2_with (go_at_call 118; refine (HL.out _).mono ?_; rintro e w' ⟨rfl, rfl⟩)
  go_loop [15, 16] (fun a b => ∃ qh rh : Int, a = .int .u64 qh ∧ b = .int .u64 rh ∧ Guess u v1 v0 w1 qh rh) (fun a _ => (intOf a).toNat)
  case atStart => exact ⟨t1, _, by first | rfl | rw [ht1], rfl, G1.out⟩
  case round =>
    obtain ⟨qh, rh, rfl, rfl, g⟩ := hrel
    have gr0 := g.r0; have gr1 := g.r1; have gh := g.hi; have gl := g.lo; have gq := (D1.out).q_bounds
    rw [HQ1.out] at gl gq
    have G := Go.Lib.hid g
    clear g
    by_cases hc : 4294967296 ≤ qh ∨ 4294967296 * rh + w1 < qh * v0
    · have hm := G.out.more (D1.out) hc
      rw [HQ1.out] at hm
      have k1 : 0 ≤ qh - 1 := by omega
      by_cases hb : rh + v1 < 4294967296
      · have gn := G.out.next (D1.out) (by rw [HQ1.out]; exact hm) hb
        have GN := Go.Lib.hid gn
        clear gn
        by_cases hq : 4294967296 ≤ qh
        · clear hc
          go_wp2_with fail
          exact ⟨⟨qh - 1, rh + v1, rfl, rfl, GN.out⟩, by simp only [intOf]; omega⟩
        · have hc2 : 4294967296 * rh + w1 < qh * v0 := by omega
          have mb := mul_bounds (x := qh) (y := v0) (B := 4294967295) (by omega) (by omega) (by omega) (by omega)
          have mp := Int.mul_nonneg (show 0 ≤ qh by omega) (show 0 ≤ v0 by omega)
          simp only [Int.reduceMul, Int.reduceNeg] at mb
          obtain ⟨mb1, mb2⟩ := mb
          clear hc
          go_wp2_with fail
          exact ⟨⟨qh - 1, rh + v1, rfl, rfl, GN.out⟩, by simp only [intOf]; omega⟩
      · have gl2 := G.out.last (D1.out) (by rw [HQ1.out]; exact hm) (by omega)
        rw [HQ1.out] at gl2
        obtain rfl : qh = q1 + 1 := by omega
        have eb : q1 + 1 - 1 = q1 := by omega
        have hb2 : 4294967296 ≤ rh + v1 := by omega
        clear hb gl2 hm
        by_cases hq : 4294967296 ≤ q1 + 1
        · clear hc
          go_wp2_with fail
          go_loop [18, 16] (fun a b => ∃ qh rh : Int, a = .int .u64 qh ∧ b = .int .u64 rh ∧ Guess r1 v1 v0 w0 qh rh) (fun a _ => (intOf a).toNat)
          case atStart => exact ⟨t0, _, by first | rfl | rw [ht0], rfl, G0.out⟩
          case round =>
            obtain ⟨qh, rh, rfl, rfl, g⟩ := hrel
            have gr0 := g.r0; have gr1 := g.r1; have gh := g.hi; have gl := g.lo; have gq := (D0.out).q_bounds
            rw [HQ0.out] at gl gq
            have G := Go.Lib.hid g
            clear g
            by_cases hc : 4294967296 ≤ qh ∨ 4294967296 * rh + w0 < qh * v0
            · have hm := G.out.more (D0.out) hc
              rw [HQ0.out] at hm
              have k1 : 0 ≤ qh - 1 := by omega
              by_cases hb : rh + v1 < 4294967296
              · have gn := G.out.next (D0.out) (by rw [HQ0.out]; exact hm) hb
                have GN := Go.Lib.hid gn
                clear gn
                by_cases hq : 4294967296 ≤ qh
                · clear hc
                  go_wp2_with fail
                  exact ⟨⟨qh - 1, rh + v1, rfl, rfl, GN.out⟩, by simp only [intOf]; omega⟩
                · have hc2 : 4294967296 * rh + w0 < qh * v0 := by omega
                  have mb := mul_bounds (x := qh) (y := v0) (B := 4294967295) (by omega) (by omega) (by omega) (by omega)
                  have mp := Int.mul_nonneg (show 0 ≤ qh by omega) (show 0 ≤ v0 by omega)
                  simp only [Int.reduceMul, Int.reduceNeg] at mb
                  obtain ⟨mb1, mb2⟩ := mb
                  clear hc
                  go_wp2_with fail
                  exact ⟨⟨qh - 1, rh + v1, rfl, rfl, GN.out⟩, by simp only [intOf]; omega⟩
              · have gl2 := G.out.last (D0.out) (by rw [HQ0.out]; exact hm) (by omega)
                rw [HQ0.out] at gl2
                obtain rfl : qh = q0 + 1 := by omega
                have eb : q0 + 1 - 1 = q0 := by omega
                have hb2 : 4294967296 ≤ rh + v1 := by omega
                clear hb gl2 hm
                by_cases hq : 4294967296 ≤ q0 + 1
                · clear hc
                  go_wp2_with fail
                  go_returns
                  refine ⟨by rw [← FIN.out.1, ← FIN.out.2]; rfl, ?_⟩
                  repeat' (first | (with_reducible exact Below.refl _ _) | (with_reducible assumption) | (with_reducible refine Ext.below _ ?_ ?_) | (with_reducible refine Below.on ?_ (by with_reducible assumption) ?_) | (with_reducible refine Below.alloc ?_ ?_ _) | (with_reducible refine Below.drew ?_) | (with_reducible refine Below.setCell ?_ ?_ _) | (with_reducible exact Nat.le_refl _) | omega | (simp; done) | (simp [go_sem]; done) | (simp at *; omega))
                · have hc2 : 4294967296 * rh + w0 < (q0 + 1) * v0 := by omega
                  have mb := mul_bounds (x := q0 + 1) (y := v0) (B := 4294967295) (by omega) (by omega) (by omega) (by omega)
                  have mp := Int.mul_nonneg (show 0 ≤ q0 + 1 by omega) (show 0 ≤ v0 by omega)
                  simp only [Int.reduceMul, Int.reduceNeg] at mb
                  obtain ⟨mb1, mb2⟩ := mb
                  clear hc
                  go_wp2_with fail
                  go_returns
                  refine ⟨by rw [← FIN.out.1, ← FIN.out.2]; rfl, ?_⟩
                  repeat' (first | (with_reducible exact Below.refl _ _) | (with_reducible assumption) | (with_reducible refine Ext.below _ ?_ ?_) | (with_reducible refine Below.on ?_ (by with_reducible assumption) ?_) | (with_reducible refine Below.alloc ?_ ?_ _) | (with_reducible refine Below.drew ?_) | (with_reducible refine Below.setCell ?_ ?_ _) | (with_reducible exact Nat.le_refl _) | omega | (simp; done) | (simp [go_sem]; done) | (simp at *; omega))
            · have gs := G.out.stop (D0.out) (by omega)
              rw [HQ0.out] at gs
              subst gs
              have hc1 : qh < 4294967296 := by omega
              have hc2 : qh * v0 ≤ 4294967296 * rh + w0 := by omega
              have mp := Int.mul_nonneg (show 0 ≤ qh by omega) (show 0 ≤ v0 by omega)
              clear hc
              go_wp2_with fail
              go_returns
              refine ⟨by rw [← FIN.out.1, ← FIN.out.2]; rfl, ?_⟩
              repeat' (first | (with_reducible exact Below.refl _ _) | (with_reducible assumption) | (with_reducible refine Ext.below _ ?_ ?_) | (with_reducible refine Below.on ?_ (by with_reducible assumption) ?_) | (with_reducible refine Below.alloc ?_ ?_ _) | (with_reducible refine Below.drew ?_) | (with_reducible refine Below.setCell ?_ ?_ _) | (with_reducible exact Nat.le_refl _) | omega | (simp; done) | (simp [go_sem]; done) | (simp at *; omega))
        · have hc2 : 4294967296 * rh + w1 < (q1 + 1) * v0 := by omega
          have mb := mul_bounds (x := q1 + 1) (y := v0) (B := 4294967295) (by omega) (by omega) (by omega) (by omega)
          have mp := Int.mul_nonneg (show 0 ≤ q1 + 1 by omega) (show 0 ≤ v0 by omega)
          simp only [Int.reduceMul, Int.reduceNeg] at mb
          obtain ⟨mb1, mb2⟩ := mb
          clear hc
          go_wp2_with fail
          go_loop [18, 16] (fun a b => ∃ qh rh : Int, a = .int .u64 qh ∧ b = .int .u64 rh ∧ Guess r1 v1 v0 w0 qh rh) (fun a _ => (intOf a).toNat)
          case atStart => exact ⟨t0, _, by first | rfl | rw [ht0], rfl, G0.out⟩
          case round =>
            obtain ⟨qh, rh, rfl, rfl, g⟩ := hrel
            have gr0 := g.r0; have gr1 := g.r1; have gh := g.hi; have gl := g.lo; have gq := (D0.out).q_bounds
            rw [HQ0.out] at gl gq
            have G := Go.Lib.hid g
            clear g
            by_cases hc : 4294967296 ≤ qh ∨ 4294967296 * rh + w0 < qh * v0
            · have hm := G.out.more (D0.out) hc
              rw [HQ0.out] at hm
              have k1 : 0 ≤ qh - 1 := by omega
              by_cases hb : rh + v1 < 4294967296
              · have gn := G.out.next (D0.out) (by rw [HQ0.out]; exact hm) hb
                have GN := Go.Lib.hid gn
                clear gn
                by_cases hq : 4294967296 ≤ qh
                · clear hc
                  go_wp2_with fail
                  exact ⟨⟨qh - 1, rh + v1, rfl, rfl, GN.out⟩, by simp only [intOf]; omega⟩
                · have hc2 : 4294967296 * rh + w0 < qh * v0 := by omega
                  have mb := mul_bounds (x := qh) (y := v0) (B := 4294967295) (by omega) (by omega) (by omega) (by omega)
                  have mp := Int.mul_nonneg (show 0 ≤ qh by omega) (show 0 ≤ v0 by omega)
                  simp only [Int.reduceMul, Int.reduceNeg] at mb
                  obtain ⟨mb1, mb2⟩ := mb
                  clear hc
                  go_wp2_with fail
                  exact ⟨⟨qh - 1, rh + v1, rfl, rfl, GN.out⟩, by simp only [intOf]; omega⟩
              · have gl2 := G.out.last (D0.out) (by rw [HQ0.out]; exact hm) (by omega)
                rw [HQ0.out] at gl2
                obtain rfl : qh = q0 + 1 := by omega
                have eb : q0 + 1 - 1 = q0 := by omega
                have hb2 : 4294967296 ≤ rh + v1 := by omega
                clear hb gl2 hm
                by_cases hq : 4294967296 ≤ q0 + 1
                · clear hc
                  go_wp2_with fail
                  go_returns
                  refine ⟨by rw [← FIN.out.1, ← FIN.out.2]; rfl, ?_⟩
                  repeat' (first | (with_reducible exact Below.refl _ _) | (with_reducible assumption) | (with_reducible refine Ext.below _ ?_ ?_) | (with_reducible refine Below.on ?_ (by with_reducible assumption) ?_) | (with_reducible refine Below.alloc ?_ ?_ _) | (with_reducible refine Below.drew ?_) | (with_reducible refine Below.setCell ?_ ?_ _) | (with_reducible exact Nat.le_refl _) | omega | (simp; done) | (simp [go_sem]; done) | (simp at *; omega))
                · have hc2 : 4294967296 * rh + w0 < (q0 + 1) * v0 := by omega
                  have mb := mul_bounds (x := q0 + 1) (y := v0) (B := 4294967295) (by omega) (by omega) (by omega) (by omega)
                  have mp := Int.mul_nonneg (show 0 ≤ q0 + 1 by omega) (show 0 ≤ v0 by omega)
                  simp only [Int.reduceMul, Int.reduceNeg] at mb
                  obtain ⟨mb1, mb2⟩ := mb
                  clear hc
                  go_wp2_with fail
                  go_returns
                  refine ⟨by rw [← FIN.out.1, ← FIN.out.2]; rfl, ?_⟩
                  repeat' (first | (with_reducible exact Below.refl _ _) | (with_reducible assumption) | (with_reducible refine Ext.below _ ?_ ?_) | (with_reducible refine Below.on ?_ (by with_reducible assumption) ?_) | (with_reducible refine Below.alloc ?_ ?_ _) | (with_reducible refine Below.drew ?_) | (with_reducible refine Below.setCell ?_ ?_ _) | (with_reducible exact Nat.le_refl _) | omega | (simp; done) | (simp [go_sem]; done) | (simp at *; omega))
            · have gs := G.out.stop (D0.out) (by omega)
              rw [HQ0.out] at gs
              subst gs
              have hc1 : qh < 4294967296 := by omega
              have hc2 : qh * v0 ≤ 4294967296 * rh + w0 := by omega
              have mp := Int.mul_nonneg (show 0 ≤ qh by omega) (show 0 ≤ v0 by omega)
              clear hc
              go_wp2_with fail
              go_returns
              refine ⟨by rw [← FIN.out.1, ← FIN.out.2]; rfl, ?_⟩
              repeat' (first | (with_reducible exact Below.refl _ _) | (with_reducible assumption) | (with_reducible refine Ext.below _ ?_ ?_) | (with_reducible refine Below.on ?_ (by with_reducible assumption) ?_) | (with_reducible refine Below.alloc ?_ ?_ _) | (with_reducible refine Below.drew ?_) | (with_reducible refine Below.setCell ?_ ?_ _) | (with_reducible exact Nat.le_refl _) | omega | (simp; done) | (simp [go_sem]; done) | (simp at *; omega))
    · have gs := G.out.stop (D1.out) (by omega)
      rw [HQ1.out] at gs
      subst gs
      have hc1 : qh < 4294967296 := by omega
      have hc2 : qh * v0 ≤ 4294967296 * rh + w1 := by omega
      have mp := Int.mul_nonneg (show 0 ≤ qh by omega) (show 0 ≤ v0 by omega)
      clear hc
      go_wp2_with fail
      go_loop [18, 16] (fun a b => ∃ qh rh : Int, a = .int .u64 qh ∧ b = .int .u64 rh ∧ Guess r1 v1 v0 w0 qh rh) (fun a _ => (intOf a).toNat)
      case atStart => exact ⟨t0, _, by first | rfl | rw [ht0], rfl, G0.out⟩
      case round =>
        obtain ⟨qh, rh, rfl, rfl, g⟩ := hrel
        have gr0 := g.r0; have gr1 := g.r1; have gh := g.hi; have gl := g.lo; have gq := (D0.out).q_bounds
        rw [HQ0.out] at gl gq
        have G := Go.Lib.hid g
        clear g
        by_cases hc : 4294967296 ≤ qh ∨ 4294967296 * rh + w0 < qh * v0
        · have hm := G.out.more (D0.out) hc
          rw [HQ0.out] at hm
          have k1 : 0 ≤ qh - 1 := by omega
          by_cases hb : rh + v1 < 4294967296
          · have gn := G.out.next (D0.out) (by rw [HQ0.out]; exact hm) hb
            have GN := Go.Lib.hid gn
            clear gn
            by_cases hq : 4294967296 ≤ qh
            · clear hc
              go_wp2_with fail
              exact ⟨⟨qh - 1, rh + v1, rfl, rfl, GN.out⟩, by simp only [intOf]; omega⟩
            · have hc2 : 4294967296 * rh + w0 < qh * v0 := by omega
              have mb := mul_bounds (x := qh) (y := v0) (B := 4294967295) (by omega) (by omega) (by omega) (by omega)
              have mp := Int.mul_nonneg (show 0 ≤ qh by omega) (show 0 ≤ v0 by omega)
              simp only [Int.reduceMul, Int.reduceNeg] at mb
              obtain ⟨mb1, mb2⟩ := mb
              clear hc
              go_wp2_with fail
              exact ⟨⟨qh - 1, rh + v1, rfl, rfl, GN.out⟩, by simp only [intOf]; omega⟩
          · have gl2 := G.out.last (D0.out) (by rw [HQ0.out]; exact hm) (by omega)
            rw [HQ0.out] at gl2
            obtain rfl : qh = q0 + 1 := by omega
            have eb : q0 + 1 - 1 = q0 := by omega
            have hb2 : 4294967296 ≤ rh + v1 := by omega
            clear hb gl2 hm
            by_cases hq : 4294967296 ≤ q0 + 1
            · clear hc
              go_wp2_with fail
              go_returns
              refine ⟨by rw [← FIN.out.1, ← FIN.out.2]; rfl, ?_⟩
              repeat' (first | (with_reducible exact Below.refl _ _) | (with_reducible assumption) | (with_reducible refine Ext.below _ ?_ ?_) | (with_reducible refine Below.on ?_ (by with_reducible assumption) ?_) | (with_reducible refine Below.alloc ?_ ?_ _) | (with_reducible refine Below.drew ?_) | (with_reducible refine Below.setCell ?_ ?_ _) | (with_reducible exact Nat.le_refl _) | omega | (simp; done) | (simp [go_sem]; done) | (simp at *; omega))
            · have hc2 : 4294967296 * rh + w0 < (q0 + 1) * v0 := by omega
              have mb := mul_bounds (x := q0 + 1) (y := v0) (B := 4294967295) (by omega) (by omega) (by omega) (by omega)
              have mp := Int.mul_nonneg (show 0 ≤ q0 + 1 by omega) (show 0 ≤ v0 by omega)
              simp only [Int.reduceMul, Int.reduceNeg] at mb
              obtain ⟨mb1, mb2⟩ := mb
              clear hc
              go_wp2_with fail
              go_returns
              refine ⟨by rw [← FIN.out.1, ← FIN.out.2]; rfl, ?_⟩
              repeat' (first | (with_reducible exact Below.refl _ _) | (with_reducible assumption) | (with_reducible refine Ext.below _ ?_ ?_) | (with_reducible refine Below.on ?_ (by with_reducible assumption) ?_) | (with_reducible refine Below.alloc ?_ ?_ _) | (with_reducible refine Below.drew ?_) | (with_reducible refine Below.setCell ?_ ?_ _) | (with_reducible exact Nat.le_refl _) | omega | (simp; done) | (simp [go_sem]; done) | (simp at *; omega))
        · have gs := G.out.stop (D0.out) (by omega)
          rw [HQ0.out] at gs
          subst gs
          have hc1 : qh < 4294967296 := by omega
          have hc2 : qh * v0 ≤ 4294967296 * rh + w0 := by omega
          have mp := Int.mul_nonneg (show 0 ≤ qh by omega) (show 0 ≤ v0 by omega)
          clear hc
          go_wp2_with fail
          go_returns
          refine ⟨by rw [← FIN.out.1, ← FIN.out.2]; rfl, ?_⟩
          repeat' (first | (with_reducible exact Below.refl _ _) | (with_reducible assumption) | (with_reducible refine Ext.below _ ?_ ?_) | (with_reducible refine Below.on ?_ (by with_reducible assumption) ?_) | (with_reducible refine Below.alloc ?_ ?_ _) | (with_reducible refine Below.drew ?_) | (with_reducible refine Below.setCell ?_ ?_ _) | (with_reducible exact Nat.le_refl _) | omega | (simp; done) | (simp [go_sem]; done) | (simp at *; omega))
theorem Div64_any (h l y : Int) (w : World) (hh : 0 ≤ h) (hhy : h < y) (hl : 0 ≤ l) (hl' : l < 18446744073709551616) (hy' : y < 18446744073709551616) :
    Calls Try.prog 117 #[.int .u64 h, .int .u64 l, .int .u64 y] w (Gives (.tuple #[.int .u64 ((h * 18446744073709551616 + l) / y), .int .u64 ((h * 18446744073709551616 + l) % y)]) w) := by
  by_cases h0 : h = 0
  · subst h0
    have := Div64_small l y w hl hl' hhy hy'
    simpa using this
  · exact Div64_big h l y w (by omega) hhy hl hl' hy'
end Go.Proofs.Ytlhihmfefipehaa

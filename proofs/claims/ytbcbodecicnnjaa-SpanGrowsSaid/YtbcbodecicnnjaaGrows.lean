/- SpanGrows: results for spans inside others lie inside the results for these. No condition. -/
import Derived.Test.YtbcbodecicnnjaaGrows00
import Derived.Test.YtbcbodecicnnjaaGrows01
import Derived.Test.YtbcbodecicnnjaaGrows10
import Derived.Test.YtbcbodecicnnjaaGrows11
import Derived.Test.YtbcbodecicnnjaaIval
namespace Go.Proofs.Ytbcbodecicnnjaa
open Go.ChangeShapes Go.WideShapes Go.ChangeAt Go.RowKit Go.Joins
theorem insideB_val {a b c d : Int} (h1 : -1000000000 ≤ c) (h2 : c ≤ a) (h3 : a ≤ b) (h4 : b ≤ d) (h5 : d ≤ 1000000000) : insideB a b c d = true := by
  have e : chkB a b c d = 0 := by
    unfold chkB; rw [if_pos ((chk_ok a b).2 ⟨by omega, by omega, h3⟩)]; exact (chk_ok c d).2 ⟨by omega, by omega, by omega⟩
  unfold insideB; rw [e]; simp; omega
theorem min4_ge {X a b c d : Int} (h1 : X ≤ a) (h2 : X ≤ b) (h3 : X ≤ c) (h4 : X ≤ d) : X ≤ min a (min b (min c d)) := by omega
theorem max4_le {X a b c d : Int} (h1 : a ≤ X) (h2 : b ≤ X) (h3 : c ≤ X) (h4 : d ≤ X) : max a (max b (max c d)) ≤ X := by omega
theorem min4_max4 (a b c d : Int) : min a (min b (min c d)) ≤ max a (max b (max c d)) := by omega
theorem min4_max4' {a b c d a' b' c' d' : Int} (h : a ≤ a') : min a (min b (min c d)) ≤ max a' (max b' (max c' d')) := by omega
section
variable {al ah bl bh cl ch dl dh : Int}
theorem add_incl (sa : Sm al ah) (sb : Sm bl bh) (sc : Sm cl ch) (sd : Sm dl dh) (h1 : cl ≤ al) (h2 : ah ≤ ch) (h3 : dl ≤ bl) (h4 : bh ≤ dh) : insideB (addL al ah bl bh) (addH al ah bl bh) (addL cl ch dl dh) (addH cl ch dl dh) = true := by
  obtain ⟨_, a1, a2⟩ := add_val sa sb
  obtain ⟨_, a4, a5⟩ := add_val sc sd
  rw [a1, a2, a4, a5]
  obtain ⟨p1, p2, p3⟩ := sa; obtain ⟨p4, p5, p6⟩ := sb; obtain ⟨p7, p8, p9⟩ := sc; obtain ⟨q1, q2, q3⟩ := sd
  exact insideB_val (by omega) (by omega) (by omega) (by omega) (by omega)
theorem sub_incl (sa : Sm al ah) (sb : Sm bl bh) (sc : Sm cl ch) (sd : Sm dl dh) (h1 : cl ≤ al) (h2 : ah ≤ ch) (h3 : dl ≤ bl) (h4 : bh ≤ dh) : insideB (subL al ah bl bh) (subH al ah bl bh) (subL cl ch dl dh) (subH cl ch dl dh) = true := by
  obtain ⟨_, a1, a2⟩ := sub_val sa sb
  obtain ⟨_, a4, a5⟩ := sub_val sc sd
  rw [a1, a2, a4, a5]
  obtain ⟨p1, p2, p3⟩ := sa; obtain ⟨p4, p5, p6⟩ := sb; obtain ⟨p7, p8, p9⟩ := sc; obtain ⟨q1, q2, q3⟩ := sd
  exact insideB_val (by omega) (by omega) (by omega) (by omega) (by omega)
theorem mul_incl (sa : Sm al ah) (sb : Sm bl bh) (sc : Sm cl ch) (sd : Sm dl dh) (h1 : cl ≤ al) (h2 : ah ≤ ch) (h3 : dl ≤ bl) (h4 : bh ≤ dh) : insideB (mulL al ah bl bh) (mulH al ah bl bh) (mulL cl ch dl dh) (mulH cl ch dl dh) = true := by
  obtain ⟨_, a1, a2⟩ := mul_val sa sb
  obtain ⟨_, a4, a5⟩ := mul_val sc sd
  rw [a1, a2, a4, a5]
  obtain ⟨p1, p2, p3⟩ := sa; obtain ⟨p4, p5, p6⟩ := sb; obtain ⟨p7, p8, p9⟩ := sc; obtain ⟨q1, q2, q3⟩ := sd
  have k1 := mul_in (a := cl) (b := ch) (c := dl) (d := dh) (x := al) (y := bl) h1 (by omega) h3 (by omega)
  have k2 := mul_in (a := cl) (b := ch) (c := dl) (d := dh) (x := al) (y := bh) h1 (by omega) (by omega) h4
  have k3 := mul_in (a := cl) (b := ch) (c := dl) (d := dh) (x := ah) (y := bl) (by omega) h2 h3 (by omega)
  have k4 := mul_in (a := cl) (b := ch) (c := dl) (d := dh) (x := ah) (y := bh) (by omega) h2 (by omega) h4
  have l1 := mul_lim (x := cl) (y := dl) (by omega) (by omega) (by omega) (by omega)
  have l2 := mul_lim (x := cl) (y := dh) (by omega) (by omega) (by omega) (by omega)
  have l3 := mul_lim (x := ch) (y := dl) (by omega) (by omega) (by omega) (by omega)
  have l4 := mul_lim (x := ch) (y := dh) (by omega) (by omega) (by omega) (by omega)
  exact insideB_val (min4_ge (by omega) (by omega) (by omega) (by omega)) (min4_ge k1.1 k2.1 k3.1 k4.1) (min4_max4 _ _ _ _) (max4_le k1.2 k2.2 k3.2 k4.2) (max4_le (by omega) (by omega) (by omega) (by omega))
theorem sq_incl (sa : Sm al ah) (sc : Sm cl ch) (h1 : cl ≤ al) (h2 : ah ≤ ch) : insideB (sqL al ah) (sqH al ah) (sqL cl ch) (sqH cl ch) = true := by
  obtain ⟨q0, ⟨qm, qm1, qm2, qm3⟩, q2, q3⟩ := sq_val sa
  obtain ⟨q4, ⟨qn, qn1, qn2, qn3⟩, q6, q7⟩ := sq_val sc
  have o3 := q7 qm (by omega) (by omega)
  have o4 := q7 al h1 (by have := sa.le; omega)
  have o5 := q7 ah (by have := sa.le; omega) h2
  have o6 := q3 qm qm1 qm2
  obtain ⟨p1, p2, p3⟩ := sa; obtain ⟨p7, p8, p9⟩ := sc
  have o7 := mul_lim (x := qn) (y := qn) (by omega) (by omega) (by omega) (by omega)
  have o1 := mul_lim (x := cl) (y := cl) (by omega) (by omega) (by omega) (by omega)
  have o2 := mul_lim (x := ch) (y := ch) (by omega) (by omega) (by omega) (by omega)
  exact insideB_val (by omega) (by omega) (by omega) (by omega) (by omega)
theorem quo_incl (sa : Sm al ah) (sb : Sm bl bh) (sc : Sm cl ch) (sd : Sm dl dh) (h1 : cl ≤ al) (h2 : ah ≤ ch) (h3 : dl ≤ bl) (h4 : bh ≤ dh) (hq : 0 < dl ∨ dh < 0) : insideB (quoL al ah bl bh) (quoH al ah bl bh) (quoL cl ch dl dh) (quoH cl ch dl dh) = true := by
  have hb := sb.le
  have ha := sa.le
  obtain ⟨p1, p2, p3⟩ := sa; obtain ⟨p4, p5, p6⟩ := sb; obtain ⟨p7, p8, p9⟩ := sc; obtain ⟨q1, q2, q3⟩ := sd
  have z1 := ov_lim (n := al) (c := bl) (by omega) (by omega) (by omega)
  have z5 := ov_lim (n := cl) (c := dl) (by omega) (by omega) (by omega)
  have z6 := ov_lim (n := cl) (c := dh) (by omega) (by omega) (by omega)
  have z7 := ov_lim (n := ch) (c := dl) (by omega) (by omega) (by omega)
  have z8 := ov_lim (n := ch) (c := dh) (by omega) (by omega) (by omega)
  have y5 : -1000000000 ≤ ovD cl dl := by omega
  have x5 : ovU cl dl ≤ 1000000000 := by omega
  have y6 : -1000000000 ≤ ovD cl dh := by omega
  have x6 : ovU cl dh ≤ 1000000000 := by omega
  have y7 : -1000000000 ≤ ovD ch dl := by omega
  have x7 : ovU ch dl ≤ 1000000000 := by omega
  have y8 : -1000000000 ≤ ovD ch dh := by omega
  have x8 : ovU ch dh ≤ 1000000000 := by omega
  have hq' : 0 < bl ∨ bh < 0 := by omega
  have k0 : cl ≤ ah ∧ al ≤ ch ∧ dl ≤ bh ∧ bl ≤ dh := by omega
  have k1 := quo_in (a := cl) (b := ch) (c := dl) (d := dh) ⟨p7, p8, p9⟩ ⟨q1, q2, q3⟩ hq (x := al) (y := bl) h1 k0.2.1 h3 k0.2.2.2
  have k2 := quo_in (a := cl) (b := ch) (c := dl) (d := dh) ⟨p7, p8, p9⟩ ⟨q1, q2, q3⟩ hq (x := al) (y := bh) h1 k0.2.1 k0.2.2.1 h4
  have k3 := quo_in (a := cl) (b := ch) (c := dl) (d := dh) ⟨p7, p8, p9⟩ ⟨q1, q2, q3⟩ hq (x := ah) (y := bl) k0.1 h2 h3 k0.2.2.2
  have k4 := quo_in (a := cl) (b := ch) (c := dl) (d := dh) ⟨p7, p8, p9⟩ ⟨q1, q2, q3⟩ hq (x := ah) (y := bh) k0.1 h2 k0.2.2.1 h4
  obtain ⟨_, v1, v2⟩ := quo_val ⟨p7, p8, p9⟩ ⟨q1, q2, q3⟩ hq
  obtain ⟨_, u1, u2⟩ := quo_val ⟨p1, p2, p3⟩ ⟨p4, p5, p6⟩ hq'
  rw [v1, v2, u1, u2]
  clear v1 v2 u1 u2
  exact insideB_val (min4_ge y5 y6 y7 y8) (min4_ge k1.1 k2.1 k3.1 k4.1) (min4_max4' z1.2.1) (max4_le k1.2 k2.2 k3.2 k4.2) (max4_le x5 x6 x7 x8)
end
theorem root_mono {n m : Int} (h0 : 0 ≤ n) (h : n ≤ m) (hm : m ≤ 10000) : rootI n ≤ rootI m := by
  obtain ⟨r1, r2, r3⟩ := rootI_spec (n := n) h0 (by omega)
  obtain ⟨s1, s2, s3⟩ := rootI_spec (n := m) (by omega) (by omega)
  rcases Int.lt_or_le (rootI m) (rootI n) with hl | hl
  · have := Int.mul_le_mul (show rootI m + 1 ≤ rootI n by omega) (show rootI m + 1 ≤ rootI n by omega) (by omega) (by omega)
    omega
  · exact hl
theorem rootU_spec {n : Int} (h0 : 0 ≤ n) (hm : n ≤ 10000) : rootI n ≤ rootU n ∧ 0 ≤ rootU n ∧ n ≤ rootU n * rootU n ∧ (0 < rootU n → (rootU n - 1) * (rootU n - 1) < n) := by
  obtain ⟨r1, r2, r3⟩ := rootI_spec (n := n) h0 (by omega)
  unfold rootU
  split
  · rename_i hl
    exact ⟨by omega, by omega, by omega, fun _ => by rw [show rootI n + 1 - 1 = rootI n by omega]; exact hl⟩
  · rename_i hl
    refine ⟨by omega, r1, by omega, fun hp => ?_⟩
    have e : (rootI n - 1) * (rootI n - 1) = rootI n * rootI n - rootI n - rootI n + 1 := by grind
    omega
theorem rootU_mono {n m : Int} (h0 : 0 ≤ n) (h : n ≤ m) (hm : m ≤ 10000) : rootU n ≤ rootU m := by
  obtain ⟨r0, r1, r2, r3⟩ := rootU_spec (n := n) h0 (by omega)
  obtain ⟨s0, s1, s2, s3⟩ := rootU_spec (n := m) (by omega) (by omega)
  rcases Int.lt_or_le (rootU m) (rootU n) with hl | hl
  · have := Int.mul_le_mul (show rootU m ≤ rootU n - 1 by omega) (show rootU m ≤ rootU n - 1 by omega) s1 (by omega)
    have := r3 (by omega)
    omega
  · exact hl
theorem rootU_lim {n : Int} (h0 : 0 ≤ n) (hm : n ≤ 10000) : rootU n ≤ 10001 := by
  obtain ⟨r1, r2, r3⟩ := rootI_spec (n := n) h0 (by omega)
  have : rootI n ≤ 10000 := by
    rcases Int.lt_or_le 10000 (rootI n) with hl | hl
    · have := Int.mul_le_mul (show (10000 : Int) ≤ rootI n by omega) (show (10000 : Int) ≤ rootI n by omega) (by omega) (by omega)
      omega
    · exact hl
  unfold rootU; split <;> omega
set_option maxHeartbeats 2000000 in
theorem SpanGrows_any (p : Option Addr) (len cap : Nat) (z : Nat → Int) (n1 n2 : Int) (w : World) (hw : ListIn w p len z) (hn1 : I64 n1) (hn2 : I64 n2) :
    Calls Try.prog 9 #[.slice p len cap, .int .i64 n1, .int .i64 n2] w (Gives (.bool true) w) := by
  have R0 := Go.Lib.hid (fun b W => Range_r (-900) 900 b p len cap z 0 W (by decide) (by decide) (by decide) (by decide))
  have R3 := Go.Lib.hid (fun b W => Range_r (-900) 900 b p len cap z 3 W (by decide) (by decide) (by decide) (by decide))
  have c1 := Int.emod_nonneg (ringX z len 0) (b := 900 - -900 + 1) (by decide); have c2 := Int.emod_lt_of_pos (ringX z len 0) (b := 900 - -900 + 1) (by decide)
  have c3 := Int.emod_nonneg (ringX z len 3) (b := 900 - -900 + 1) (by decide); have c4 := Int.emod_lt_of_pos (ringX z len 3) (b := 900 - -900 + 1) (by decide)
  have R1 := Go.Lib.hid (fun b W => SpanOf_r (-900 + ringX z len 0 % (900 - -900 + 1)) 90 b p len cap z 1 W (by decide) (by omega) (by omega) (by decide) (by decide))
  have R4 := Go.Lib.hid (fun b W => SpanOf_r (-900 + ringX z len 3 % (900 - -900 + 1)) 90 b p len cap z 4 W (by decide) (by omega) (by omega) (by decide) (by decide))
  obtain ⟨s1, s2, s3, s4⟩ := spanOf_bounds z len 1 (-900 + ringX z len 0 % (900 - -900 + 1)) 90 (by decide)
  obtain ⟨t1, t2, t3, t4⟩ := spanOf_bounds z len 4 (-900 + ringX z len 3 % (900 - -900 + 1)) 90 (by decide)
  have d1 : -900 ≤ -900 + ringX z len 0 % (900 - -900 + 1) ∧ -900 + ringX z len 0 % (900 - -900 + 1) ≤ 900 := by omega
  have d2 : -900 ≤ -900 + ringX z len 3 % (900 - -900 + 1) ∧ -900 + ringX z len 3 % (900 - -900 + 1) ≤ 900 := by omega
  clear c1 c2 c3 c4
  generalize spanLo z len 1 (-900 + ringX z len 0 % (900 - -900 + 1)) 90 = al at *
  generalize spanHi z len 1 (-900 + ringX z len 0 % (900 - -900 + 1)) 90 = ah at *
  generalize spanLo z len 4 (-900 + ringX z len 3 % (900 - -900 + 1)) 90 = bl at *
  generalize spanHi z len 4 (-900 + ringX z len 3 % (900 - -900 + 1)) 90 = bh at *
  generalize -900 + ringX z len 0 % (900 - -900 + 1) = x0 at *
  generalize -900 + ringX z len 3 % (900 - -900 + 1) = x1 at *
  have W1 := Go.Lib.hid (fun W => Wider_any al ah n1 2000 W hn1 (by omega) s3 (by omega) (by decide) (by decide))
  have W2 := Go.Lib.hid (fun W => Wider_any bl bh n2 2000 W hn2 (by omega) t3 (by omega) (by decide) (by decide))
  have e1 := Int.emod_nonneg n1 (b := 50) (by decide); have e2 := Int.emod_nonneg n1 (b := 70) (by decide)
  have e3 := Int.emod_nonneg n2 (b := 50) (by decide); have e4 := Int.emod_nonneg n2 (b := 70) (by decide)
  have w1 : widL al n1 2000 ≤ al ∧ -2000 ≤ widL al n1 2000 := by unfold widL; omega
  have w2 : ah ≤ widH ah n1 2000 ∧ widH ah n1 2000 ≤ 2000 := by unfold widH; omega
  have w3 : widL bl n2 2000 ≤ bl ∧ -2000 ≤ widL bl n2 2000 := by unfold widL; omega
  have w4 : bh ≤ widH bh n2 2000 ∧ widH bh n2 2000 ≤ 2000 := by unfold widH; omega
  clear e1 e2 e3 e4 hn1 hn2
  generalize widL al n1 2000 = cl at *
  generalize widH ah n1 2000 = ch at *
  generalize widL bl n2 2000 = dl at *
  generalize widH bh n2 2000 = dh at *
  obtain ⟨w1, w1'⟩ := w1; obtain ⟨w2, w2'⟩ := w2; obtain ⟨w3, w3'⟩ := w3; obtain ⟨w4, w4'⟩ := w4
  have sa : Sm al ah := ⟨by omega, s3, by omega⟩
  have sb : Sm bl bh := ⟨by omega, t3, by omega⟩
  have sc : Sm cl ch := ⟨by omega, by omega, by omega⟩
  have sd : Sm dl dh := ⟨by omega, by omega, by omega⟩
  have a0 := (add_val sa sb).1; have a3 := (add_val sc sd).1
  have b0 := (sub_val sa sb).1; have b3 := (sub_val sc sd).1
  have m0 := (mul_val sa sb).1; have m3 := (mul_val sc sd).1
  have q0 := (sq_val sa).1; have q4 := (sq_val sc).1
  have A1 := fun W => Add_any al ah bl bh W
  have C1 := fun W => Add_any cl ch dl dh W
  have A2 := fun W => Sub_any al ah bl bh W
  have C2 := fun W => Sub_any cl ch dl dh W
  have A3 := fun W => Mul_any al ah bl bh W
  have C3 := fun W => Mul_any cl ch dl dh W
  have A4 := fun W => Square_any al ah W
  have C4 := fun W => Square_any cl ch W
  rw [a0] at A1; rw [a3] at C1; rw [b0] at A2; rw [b3] at C2; rw [m0] at A3; rw [m3] at C3; rw [q0] at A4; rw [q4] at C4
  have N1 := fun W => Inside_any (addL al ah bl bh) (addH al ah bl bh) (addL cl ch dl dh) (addH cl ch dl dh) W
  rw [add_incl sa sb sc sd w1 w2 w3 w4] at N1
  have N2 := fun W => Inside_any (subL al ah bl bh) (subH al ah bl bh) (subL cl ch dl dh) (subH cl ch dl dh) W
  rw [sub_incl sa sb sc sd w1 w2 w3 w4] at N2
  have N3 := fun W => Inside_any (mulL al ah bl bh) (mulH al ah bl bh) (mulL cl ch dl dh) (mulH cl ch dl dh) W
  rw [mul_incl sa sb sc sd w1 w2 w3 w4] at N3
  have N4 := fun W => Inside_any (sqL al ah) (sqH al ah) (sqL cl ch) (sqH cl ch) W
  rw [sq_incl sa sc w1 w2] at N4
  clear a0 a3 b0 b3 m0 m3 q0 q4
  have C5 := fun W => Quot_any cl ch dl dh W
  have A5 := fun W => Quot_any al ah bl bh W
  have C6 := fun W => Roots_any cl ch W
  have A6 := fun W => Roots_any al ah W
  have eC : rootsE cl ch = if cl < 0 then 2 else 0 := by unfold rootsE; rw [if_pos sc.chk]
  have eA : 0 ≤ cl → rootsE al ah = 0 := fun h => by unfold rootsE; rw [if_pos sa.chk, if_neg (by omega)]
  have rC : 0 ≤ cl → rootsE cl ch = 0 := fun h => by rw [eC, if_neg (by omega)]
  have vL : 0 ≤ cl → rootsL al ah = rootI al ∧ rootsH al ah = rootU ah ∧ rootsL cl ch = rootI cl ∧ rootsH cl ch = rootU ch := fun h => by
    unfold rootsL rootsH; rw [if_pos (eA h), if_pos (eA h), if_pos (rC h), if_pos (rC h)]; exact ⟨rfl, rfl, rfl, rfl⟩
  have N6 : 0 ≤ cl → ∀ W, Calls Try.prog 32 #[.agg #[.int .i64 (rootsL al ah), .int .i64 (rootsH al ah)], .agg #[.int .i64 (rootsL cl ch), .int .i64 (rootsH cl ch)]] W (Gives (.bool true) W) := fun h W => by
    have hN := Inside_any (rootsL al ah) (rootsH al ah) (rootsL cl ch) (rootsH cl ch) W
    obtain ⟨v1, v2, v3, v4⟩ := vL h
    have g1 := root_mono (n := cl) (m := al) h w1 (by omega)
    have g2 := root_mono (n := al) (m := ah) (by omega) s3 (by omega)
    have g3 := rootU_mono (n := ah) (m := ch) (by omega) w2 (by omega)
    have g4 := (rootU_spec (n := ah) (by omega) (by omega)).1
    have g5 := (rootI_spec (n := cl) h (by omega)).1
    have g6 := rootU_lim (n := ch) (by omega) (by omega)
    rw [insideB_val (by omega) (by omega) (by omega) (by omega) (by omega)] at hN
    exact hN
  by_cases hq : 0 < dl ∨ dh < 0
  · have v0 := (quo_val sc sd hq).1
    have u0 := (quo_val sa sb (by omega)).1
    rw [v0] at C5; rw [u0] at A5
    have N5 := fun W => Inside_any (quoL al ah bl bh) (quoH al ah bl bh) (quoL cl ch dl dh) (quoH cl ch dl dh) W
    rw [quo_incl sa sb sc sd w1 w2 w3 w4 hq] at N5
    by_cases hr : 0 ≤ cl
    · have C6' := C6; have A6' := A6
      rw [rC hr] at C6'; rw [eA hr] at A6'
      exact SpanGrows_11 p len cap z x0 x1 n1 n2 al ah bl bh cl ch dl dh _ _ _ _ _ _ _ _ _ _ _ _ _ _ _ _ _ _ _ _ _ _ _ _ w hw R0 R1 R3 R4 W1 W2 A1 C1 N1 A2 C2 N2 A3 C3 N3 A4 C4 N4 C5 A5 N5 C6' A6' (N6 hr)
    · rw [eC, if_pos (by omega)] at C6
      exact SpanGrows_10 p len cap z x0 x1 n1 n2 _ al ah bl bh cl ch dl dh _ _ _ _ _ _ _ _ _ _ _ _ _ _ _ _ _ _ _ _ _ _ _ _ w hw R0 R1 R3 R4 W1 W2 A1 C1 N1 A2 C2 N2 A3 C3 N3 A4 C4 N4 C5 A5 N5 C6 A6
  · rw [quo_zero sc sd (by omega) (by omega)] at C5
    by_cases hr : 0 ≤ cl
    · have C6' := C6; have A6' := A6
      rw [rC hr] at C6'; rw [eA hr] at A6'
      exact SpanGrows_01 p len cap z x0 x1 n1 n2 _ al ah bl bh cl ch dl dh _ _ _ _ _ _ _ _ _ _ _ _ _ _ _ _ _ _ _ _ _ _ _ _ w hw R0 R1 R3 R4 W1 W2 A1 C1 N1 A2 C2 N2 A3 C3 N3 A4 C4 N4 C5 A5 C6' A6' (N6 hr)
    · rw [eC, if_pos (by omega)] at C6
      exact SpanGrows_00 p len cap z x0 x1 n1 n2 _ _ al ah bl bh cl ch dl dh _ _ _ _ _ _ _ _ _ _ _ _ _ _ _ _ _ _ _ _ _ _ _ _ w hw R0 R1 R3 R4 W1 W2 A1 C1 N1 A2 C2 N2 A3 C3 N3 A4 C4 N4 C5 A5 C6 A6
set_option maxRecDepth 100000 in
theorem SpanGrows_lifted (os : Os) (started : os.Started) (H : Type) (enc : TypeId × Value → H) :
    ReturnsInHanded {} Try.checked os 9 .any (Rows.spanGrowsSpec.pre6 enc Try.prog Try.f9 Rows.spanGrowsRow.domain false) (Rows.spanGrowsSpec.post enc Try.prog Try.f9 false true false false) := by
  refine returnsInHanded_of_change (C := Try.checked) own started (by kernel_rfl) Try.func9
    (ChangeSpec.witness6 (enc := enc) (C := Try.checked) false ⟨#[], #[.slice none 0 0, .int .i64 0, .int .i64 0], []⟩ 8 (by kernel_rfl) (by kernel_rfl) (by kernel_rfl) (by kernel_rfl)) ?_
  intro W base args ds gs before hval0 hW _ _
  have hval : ∀ (j : Nat) t v, Try.f9.params[j]? = some t → args[j]? = some v → Value.okWide Try.prog W .any base t v := hval0
  have hW' := hW
  obtain ⟨p, q, hA0, hV, _, _, _⟩ := hW
  have hA : DataW.TrodAll enc Try.prog W 0 (fun _ => true) true Try.f9.params.toList args.toList ds p := hA0
  rw [Try.params9] at hA hval
  obtain ⟨v0, vs0, d0, ds0, p0, q0, hargs0, rfl, _, h0, r0⟩ := trodAll_cons hA
  obtain ⟨v1, vs1, d1, ds1, p1, q1, hargs1, rfl, _, h1, r1⟩ := trodAll_cons r0
  obtain ⟨v2, vs2, d2, ds2, p2, q2, hargs2, rfl, _, h2, r2⟩ := trodAll_cons r1
  obtain ⟨hlast, rfl, _⟩ := trodAll_nil r2
  subst hlast
  subst hargs2
  subst hargs1
  obtain rfl : args = #[v0, v1, v2] := by cases args; simp_all
  obtain ⟨rfl, rfl⟩ := trodVars_none hV
  obtain ⟨sp0, sl0, sc0, sz0, rfl, hi0⟩ := open_list (P := Try.prog) Try.underlying33 Try.underlying3 (by kernel_rfl) (hval 0 33 v0 rfl rfl) h0
  obtain ⟨x1, rfl, hi1⟩ := open_num (P := Try.prog) Try.underlying2 (hval 1 2 v1 rfl rfl)
  obtain ⟨x2, rfl, hi2⟩ := open_num (P := Try.prog) Try.underlying2 (hval 2 2 v2 rfl rfl)
  exact (SpanGrows_any sp0 sl0 sc0 sz0 x1 x2 W hi0 hi1 hi2).mono fun e W' h => law_post laid_out (by rw [Try.params9]; intro t ht; simp only [List.mem_cons, List.not_mem_nil, or_false] at ht; rcases ht with rfl | rfl | rfl | rfl | rfl | rfl; all_goals exact ⟨by kernel_rfl, by decide +kernel⟩) rfl rfl Try.underlying4 hW' rfl h
/-- The statement. -/
theorem SpanGrows_holds : Rows.SpanGrowsSaid :=
  OpenClaim.holds_of_wide 9 Try.f9 rfl rfl rfl rfl rfl rfl rfl ⟨rfl, rfl, rfl, rfl, rfl⟩ rfl rfl rfl rfl rfl (by kernel_rfl) Try.func9 (by kernel_rfl)
    (of_decide_eq_true (by kernel_rfl)) (by unfold Func.isWrapper; first | (rw [if_pos (by decide +kernel)]; kernel_rfl) | (rw [if_neg (by decide +kernel)]; exact ⟨rfl, rfl⟩))
    (fun os started H enc _ => SpanGrows_lifted os started H enc)
end Go.Proofs.Ytbcbodecicnnjaa

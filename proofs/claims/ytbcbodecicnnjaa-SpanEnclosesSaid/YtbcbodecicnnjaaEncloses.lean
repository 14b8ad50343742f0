/- SpanEncloses: the sum, the difference, the product and the quotient of numbers of two spans lie in the results, and the ends of sums, products and squares are reached. No condition. -/
import Derived.Test.YtbcbodecicnnjaaEncl0
import Derived.Test.YtbcbodecicnnjaaEncl1
import Derived.Test.YtbcbodecicnnjaaEncl2
import Derived.Test.YtbcbodecicnnjaaIval
namespace Go.Proofs.Ytbcbodecicnnjaa
open Go.ChangeShapes Go.WideShapes Go.ChangeAt Go.RowKit Go.Joins
theorem SpanEncloses_any (p : Option Addr) (len cap : Nat) (z : Nat → Int) (w : World) (hw : ListIn w p len z) :
    Calls Try.prog 8 #[.slice p len cap] w (Gives (.bool true) w) := by
  have R0 := Go.Lib.hid (fun b W => Range_r (-500) 500 b p len cap z 0 W (by decide) (by decide) (by decide) (by decide))
  have R3 := Go.Lib.hid (fun b W => Range_r (-500) 500 b p len cap z 3 W (by decide) (by decide) (by decide) (by decide))
  have R6 := Go.Lib.hid (fun b W => Range_r 0 1000 b p len cap z 6 W (by decide) (by decide) (by decide) (by decide))
  have R7 := Go.Lib.hid (fun b W => Range_r 0 1000 b p len cap z 7 W (by decide) (by decide) (by decide) (by decide))
  have c1 := Int.emod_nonneg (ringX z len 0) (b := 500 - -500 + 1) (by decide); have c2 := Int.emod_lt_of_pos (ringX z len 0) (b := 500 - -500 + 1) (by decide)
  have c3 := Int.emod_nonneg (ringX z len 3) (b := 500 - -500 + 1) (by decide); have c4 := Int.emod_lt_of_pos (ringX z len 3) (b := 500 - -500 + 1) (by decide)
  have c5 := Int.emod_nonneg (ringX z len 6) (b := 1000 - 0 + 1) (by decide); have c6 := Int.emod_lt_of_pos (ringX z len 6) (b := 1000 - 0 + 1) (by decide)
  have c7 := Int.emod_nonneg (ringX z len 7) (b := 1000 - 0 + 1) (by decide); have c8 := Int.emod_lt_of_pos (ringX z len 7) (b := 1000 - 0 + 1) (by decide)
  have R1 := Go.Lib.hid (fun b W => SpanOf_r (-500 + ringX z len 0 % (500 - -500 + 1)) 60 b p len cap z 1 W (by decide) (by omega) (by omega) (by decide) (by decide))
  have R4 := Go.Lib.hid (fun b W => SpanOf_r (-500 + ringX z len 3 % (500 - -500 + 1)) 60 b p len cap z 4 W (by decide) (by omega) (by omega) (by decide) (by decide))
  obtain ⟨s1, s2, s3, s4⟩ := spanOf_bounds z len 1 (-500 + ringX z len 0 % (500 - -500 + 1)) 60 (by decide)
  obtain ⟨t1, t2, t3, t4⟩ := spanOf_bounds z len 4 (-500 + ringX z len 3 % (500 - -500 + 1)) 60 (by decide)
  have d1 : -500 ≤ -500 + ringX z len 0 % (500 - -500 + 1) ∧ -500 + ringX z len 0 % (500 - -500 + 1) ≤ 500 := by omega
  have d2 : -500 ≤ -500 + ringX z len 3 % (500 - -500 + 1) ∧ -500 + ringX z len 3 % (500 - -500 + 1) ≤ 500 := by omega
  have d3 : 0 ≤ 0 + ringX z len 6 % (1000 - 0 + 1) ∧ 0 + ringX z len 6 % (1000 - 0 + 1) ≤ 1000 := by omega
  have d4 : 0 ≤ 0 + ringX z len 7 % (1000 - 0 + 1) ∧ 0 + ringX z len 7 % (1000 - 0 + 1) ≤ 1000 := by omega
  clear c1 c2 c3 c4 c5 c6 c7 c8
  generalize spanLo z len 1 (-500 + ringX z len 0 % (500 - -500 + 1)) 60 = al at *
  generalize spanHi z len 1 (-500 + ringX z len 0 % (500 - -500 + 1)) 60 = ah at *
  generalize spanLo z len 4 (-500 + ringX z len 3 % (500 - -500 + 1)) 60 = bl at *
  generalize spanHi z len 4 (-500 + ringX z len 3 % (500 - -500 + 1)) 60 = bh at *
  generalize -500 + ringX z len 0 % (500 - -500 + 1) = x0 at *
  generalize -500 + ringX z len 3 % (500 - -500 + 1) = x1 at *
  generalize 0 + ringX z len 6 % (1000 - 0 + 1) = u0 at *
  generalize 0 + ringX z len 7 % (1000 - 0 + 1) = u1 at *
  have X1 := Go.Lib.hid (fun W => InSpan_any al ah u0 W (by unfold I64; omega) (by omega) s3 (by omega))
  have X2 := Go.Lib.hid (fun W => InSpan_any bl bh u1 W (by unfold I64; omega) (by omega) t3 (by omega))
  have e1 := Int.emod_nonneg u0 (b := ah - al + 1) (by omega); have e2 := Int.emod_lt_of_pos u0 (b := ah - al + 1) (by omega)
  have e3 := Int.emod_nonneg u1 (b := bh - bl + 1) (by omega); have e4 := Int.emod_lt_of_pos u1 (b := bh - bl + 1) (by omega)
  have x1b : al ≤ al + u0 % (ah - al + 1) := by omega
  have x2b : al + u0 % (ah - al + 1) ≤ ah := by omega
  have y1b : bl ≤ bl + u1 % (bh - bl + 1) := by omega
  have y2b : bl + u1 % (bh - bl + 1) ≤ bh := by omega
  clear e1 e2 e3 e4 d3 d4
  generalize al + u0 % (ah - al + 1) = x at *
  generalize bl + u1 % (bh - bl + 1) = y at *
  have sa : Sm al ah := ⟨by omega, s3, by omega⟩
  have sb : Sm bl bh := ⟨by omega, t3, by omega⟩
  obtain ⟨a0, a1, a2⟩ := add_val sa sb
  obtain ⟨b0, b1, b2⟩ := sub_val sa sb
  obtain ⟨m0, m1, m2⟩ := mul_val sa sb
  obtain ⟨q0, _, q2, q3⟩ := sq_val sa
  have q4 := q3 x x1b x2b
  have hm := mul_in x1b x2b y1b y2b
  have l1 := mul_lim (x := al) (y := bl) (by omega) (by omega) (by omega) (by omega)
  have l2 := mul_lim (x := al) (y := bh) (by omega) (by omega) (by omega) (by omega)
  have l3 := mul_lim (x := ah) (y := bl) (by omega) (by omega) (by omega) (by omega)
  have l4 := mul_lim (x := ah) (y := bh) (by omega) (by omega) (by omega) (by omega)
  have lim : ∀ u v : Int, -1000 ≤ u → u ≤ 1000 → -1000 ≤ v → v ≤ 1000 → -1000000 ≤ u * v ∧ u * v ≤ 1000000 := fun u v h1 h2 h3 h4 => by
    have := mul_bounds (x := u) (y := v) (B := 1000) h1 h2 h3 h4
    simp only [Int.reduceMul, Int.reduceNeg] at this
    omega
  have L1 := lim al bl (by omega) (by omega) (by omega) (by omega)
  have L2 := lim al bh (by omega) (by omega) (by omega) (by omega)
  have L3 := lim ah bl (by omega) (by omega) (by omega) (by omega)
  have L4 := lim ah bh (by omega) (by omega) (by omega) (by omega)
  have L5 := lim al al (by omega) (by omega) (by omega) (by omega)
  have L6 := lim ah ah (by omega) (by omega) (by omega) (by omega)
  have L7 := lim x y (by omega) (by omega) (by omega) (by omega)
  have L8 := lim x x (by omega) (by omega) (by omega) (by omega)
  have AD := fun W => Add_any al ah bl bh W
  have SU := fun W => Sub_any al ah bl bh W
  have MU := fun W => Mul_any al ah bl bh W
  have SQ := fun W => Square_any al ah W
  rw [a0, a1, a2] at AD
  rw [b0, b1, b2] at SU
  rw [m0, m1, m2] at MU
  rw [q0, q2] at SQ
  rw [q2] at q4
  have I1 := fun W => In_any (al + bl) (ah + bh) (x + y) W
  have I2 := fun W => In_any (al - bh) (ah - bl) (x - y) W
  have I3 := fun W => In_any (min (al * bl) (min (al * bh) (min (ah * bl) (ah * bh)))) (max (al * bl) (max (al * bh) (max (ah * bl) (ah * bh)))) (x * y) W
  have sqlo : -1000000000 ≤ sqL al ah := by
    obtain ⟨m, _, _, hmm⟩ := (sq_val sa).2.1
    have : 0 ≤ m * m := by
      rcases Int.le_total 0 m with h' | h'
      · exact Int.mul_nonneg h' h'
      · exact Int.mul_nonneg_of_nonpos_of_nonpos h' h'
    omega
  have I4 := fun W => In_any (sqL al ah) (max (al * al) (ah * ah)) (x * x) W
  rw [inB_val (by omega) (by omega) (by omega) (by omega)] at I1 I2 I3 I4
  clear a0 a1 a2 b0 b1 b2 m0 m1 m2 q0 q2 q3
  have QU := fun W => Quot_any al ah bl bh W
  by_cases h0 : bl ≤ 0 ∧ 0 ≤ bh
  · rw [quo_zero sa sb h0.1 h0.2] at QU
    exact SpanEncloses_0 p len cap z x0 x1 u0 u1 al ah bl bh x y (al - bh) (ah - bl) (sqL al ah) (quoL al ah bl bh) (quoH al ah bl bh) w hw R0 R1 R3 R4 R6 R7 X1 X2 AD SU MU SQ I1 I2 I3 I4 QU
      (by omega) (by omega) (by omega) (by omega) (by omega) (by omega) (by omega) (by omega) (by omega) (by omega) (by omega) (by omega) L1.1 L1.2 L2.1 L2.2 L3.1 L3.2 L4.1 L4.2 L5.1 L5.2 L6.1 L6.2 L7.1 L7.2 L8.1 L8.2 h0.1 h0.2
  · have hn : 0 < bl ∨ bh < 0 := by omega
    have hy : y ≠ 0 := by omega
    obtain ⟨v0, v1, v2⟩ := quo_val sa sb hn
    obtain ⟨w1, w2⟩ := quo_in sa sb hn x1b x2b y1b y2b
    rw [v0] at QU
    have MD := fun W => MulDiv_any x 1 y W (by unfold I64; omega) (by unfold I64; omega)
    have e : mdE x 1 y = 0 := by
      have k1 : numB x = true := numB_of (by omega) (by omega)
      have k2 : numB y = true := numB_of (by omega) (by omega)
      have o1 := (ov_spec' (n := x * 1) (c := y) hy (by omega) (by omega)).1
      unfold mdE; rw [if_pos ⟨k1, by decide, k2, hy⟩, if_pos o1]
    have el : mdL x 1 y = ovD x y := by unfold mdL; rw [if_pos e, Int.mul_one]
    have eh : mdH x 1 y = ovU x y := by unfold mdH; rw [if_pos e, Int.mul_one]
    rw [e, el, eh] at MD
    have z0 := ov_lim (n := x) (c := y) hy (by omega) (by omega)
    have z1 := ov_lim (n := al) (c := bl) (by omega) (by omega) (by omega)
    have z2 := ov_lim (n := al) (c := bh) (by omega) (by omega) (by omega)
    have z3 := ov_lim (n := ah) (c := bl) (by omega) (by omega) (by omega)
    have z4 := ov_lim (n := ah) (c := bh) (by omega) (by omega) (by omega)
    have J1 := fun W => In_any (quoL al ah bl bh) (quoH al ah bl bh) (ovD x y) W
    have J2 := fun W => In_any (quoL al ah bl bh) (quoH al ah bl bh) (ovU x y) W
    rw [inB_val (by omega) (by omega) (by omega) (by omega)] at J1 J2
    by_cases hb : 0 < bl
    · exact SpanEncloses_1 p len cap z x0 x1 u0 u1 al ah bl bh x y (al - bh) (ah - bl) (sqL al ah) (quoL al ah bl bh) (quoH al ah bl bh) (ovD x y) (ovU x y) w hw R0 R1 R3 R4 R6 R7 X1 X2 AD SU MU SQ I1 I2 I3 I4 QU MD J1 J2
        (by omega) (by omega) (by omega) (by omega) (by omega) (by omega) (by omega) (by omega) (by omega) (by omega) (by omega) (by omega) L1.1 L1.2 L2.1 L2.2 L3.1 L3.2 L4.1 L4.2 L5.1 L5.2 L6.1 L6.2 L7.1 L7.2 L8.1 L8.2 hb
    · exact SpanEncloses_2 p len cap z x0 x1 u0 u1 al ah bl bh x y (al - bh) (ah - bl) (sqL al ah) (quoL al ah bl bh) (quoH al ah bl bh) (ovD x y) (ovU x y) w hw R0 R1 R3 R4 R6 R7 X1 X2 AD SU MU SQ I1 I2 I3 I4 QU MD J1 J2
        (by omega) (by omega) (by omega) (by omega) (by omega) (by omega) (by omega) (by omega) (by omega) (by omega) (by omega) (by omega) L1.1 L1.2 L2.1 L2.2 L3.1 L3.2 L4.1 L4.2 L5.1 L5.2 L6.1 L6.2 L7.1 L7.2 L8.1 L8.2 (by omega) (by omega)
set_option maxRecDepth 100000 in
theorem SpanEncloses_lifted (os : Os) (started : os.Started) (H : Type) (enc : TypeId × Value → H) :
    ReturnsInHanded {} Try.checked os 8 .any (Rows.spanEnclosesSpec.pre6 enc Try.prog Try.f8 Rows.spanEnclosesRow.domain false) (Rows.spanEnclosesSpec.post enc Try.prog Try.f8 false true false false) := by
  refine returnsInHanded_of_change (C := Try.checked) own started (by kernel_rfl) Try.func8
    (ChangeSpec.witness6 (enc := enc) (C := Try.checked) false ⟨#[], #[.slice none 0 0], []⟩ 8 (by kernel_rfl) (by kernel_rfl) (by kernel_rfl) (by kernel_rfl)) ?_
  intro W base args ds gs before hval0 hW _ _
  have hval : ∀ (j : Nat) t v, Try.f8.params[j]? = some t → args[j]? = some v → Value.okWide Try.prog W .any base t v := hval0
  have hW' := hW
  obtain ⟨p, q, hA0, hV, _, _, _⟩ := hW
  have hA : DataW.TrodAll enc Try.prog W 0 (fun _ => true) true Try.f8.params.toList args.toList ds p := hA0
  rw [Try.params8] at hA hval
  obtain ⟨v0, vs0, d0, ds0, p0, q0, hargs0, rfl, _, h0, r0⟩ := trodAll_cons hA
  obtain ⟨hlast, rfl, _⟩ := trodAll_nil r0
  subst hlast
  obtain rfl : args = #[v0] := by cases args; simp_all
  obtain ⟨rfl, rfl⟩ := trodVars_none hV
  obtain ⟨sp0, sl0, sc0, sz0, rfl, hi0⟩ := open_list (P := Try.prog) Try.underlying33 Try.underlying3 (by kernel_rfl) (hval 0 33 v0 rfl rfl) h0
  exact (SpanEncloses_any sp0 sl0 sc0 sz0 W hi0).mono fun e W' h => law_post laid_out (by rw [Try.params8]; intro t ht; simp only [List.mem_cons, List.not_mem_nil, or_false] at ht; rcases ht with rfl | rfl | rfl | rfl | rfl | rfl; all_goals exact ⟨by kernel_rfl, by decide +kernel⟩) rfl rfl Try.underlying4 hW' rfl h
/-- The statement. -/
theorem SpanEncloses_holds : Rows.SpanEnclosesSaid :=
  OpenClaim.holds_of_wide 8 Try.f8 rfl rfl rfl rfl rfl rfl rfl ⟨rfl, rfl, rfl, rfl, rfl⟩ rfl rfl rfl rfl rfl (by kernel_rfl) Try.func8 (by kernel_rfl)
    (of_decide_eq_true (by kernel_rfl)) (by unfold Func.isWrapper; first | (rw [if_pos (by decide +kernel)]; kernel_rfl) | (rw [if_neg (by decide +kernel)]; exact ⟨rfl, rfl⟩))
    (fun os started H enc _ => SpanEncloses_lifted os started H enc)
end Go.Proofs.Ytbcbodecicnnjaa

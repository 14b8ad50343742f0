/- SpanParts: Meet and Hull do not depend on the order, a number is in Meet just if it is in both, and the halves of a span have each of its numbers once. No condition. -/
import Derived.Test.YtbcbodecicnnjaaPartsA
import Derived.Test.YtbcbodecicnnjaaPartsB
import Derived.Test.YtbcbodecicnnjaaPartsC
import Derived.Test.YtbcbodecicnnjaaPartsD
namespace Go.Proofs.Ytbcbodecicnnjaa
open Go.ChangeShapes Go.WideShapes Go.ChangeAt Go.RowKit Go.Joins
theorem chk_small {a b : Int} (h1 : -1000000 ≤ a) (h2 : a ≤ b) (h3 : b ≤ 1000000) : chk a b = 0 := (chk_ok a b).2 ⟨by omega, by omega, h2⟩
theorem chkB_small {a b c d : Int} (h1 : -1000000 ≤ a) (h2 : a ≤ b) (h3 : b ≤ 1000000) (h4 : -1000000 ≤ c) (h5 : c ≤ d) (h6 : d ≤ 1000000) : chkB a b c d = 0 := by
  unfold chkB; rw [if_pos (chk_small h1 h2 h3)]; exact chk_small h4 h5 h6
theorem inB_small {a b n : Int} (h1 : -1000000 ≤ a) (h2 : a ≤ b) (h3 : b ≤ 1000000) : inB a b n = (decide (a ≤ n) && decide (n ≤ b)) := by
  unfold inB; rw [chk_small h1 h2 h3]; rfl
theorem SpanParts_any (p : Option Addr) (len cap : Nat) (z : Nat → Int) (n0 : Int) (w : World) (hw : ListIn w p len z) (hn : I64 n0) :
    Calls Try.prog 7 #[.slice p len cap, .int .i64 n0] w (Gives (.bool true) w) := by
  have b1 := Int.emod_nonneg n0 (b := 240) (by decide); have b2 := Int.emod_lt_of_pos n0 (b := 240) (by decide)
  have MO := Go.Lib.hid (fun W => Mod64_any n0 240 W hn (by decide) (by decide))
  have R0 := Go.Lib.hid (fun b W => Range_r (-50) 50 b p len cap z 0 W (by decide) (by decide) (by decide) (by decide))
  have R3 := Go.Lib.hid (fun b W => Range_r (-50) 50 b p len cap z 3 W (by decide) (by decide) (by decide) (by decide))
  have c1 := Int.emod_nonneg (ringX z len 0) (b := 50 - -50 + 1) (by decide); have c2 := Int.emod_lt_of_pos (ringX z len 0) (b := 50 - -50 + 1) (by decide)
  have c3 := Int.emod_nonneg (ringX z len 3) (b := 50 - -50 + 1) (by decide); have c4 := Int.emod_lt_of_pos (ringX z len 3) (b := 50 - -50 + 1) (by decide)
  have R1 := Go.Lib.hid (fun b W => SpanOf_r (-50 + ringX z len 0 % (50 - -50 + 1)) 40 b p len cap z 1 W (by decide) (by omega) (by omega) (by decide) (by decide))
  have R4 := Go.Lib.hid (fun b W => SpanOf_r (-50 + ringX z len 3 % (50 - -50 + 1)) 40 b p len cap z 4 W (by decide) (by omega) (by omega) (by decide) (by decide))
  obtain ⟨s1, s2, s3, s4⟩ := spanOf_bounds z len 1 (-50 + ringX z len 0 % (50 - -50 + 1)) 40 (by decide)
  obtain ⟨t1, t2, t3, t4⟩ := spanOf_bounds z len 4 (-50 + ringX z len 3 % (50 - -50 + 1)) 40 (by decide)
  have d1 : -50 ≤ -50 + ringX z len 0 % (50 - -50 + 1) ∧ -50 + ringX z len 0 % (50 - -50 + 1) ≤ 50 := by omega
  have d2 : -50 ≤ -50 + ringX z len 3 % (50 - -50 + 1) ∧ -50 + ringX z len 3 % (50 - -50 + 1) ≤ 50 := by omega
  clear c1 c2 c3 c4
  generalize spanLo z len 1 (-50 + ringX z len 0 % (50 - -50 + 1)) 40 = al at *
  generalize spanHi z len 1 (-50 + ringX z len 0 % (50 - -50 + 1)) 40 = ah at *
  generalize spanLo z len 4 (-50 + ringX z len 3 % (50 - -50 + 1)) 40 = bl at *
  generalize spanHi z len 4 (-50 + ringX z len 3 % (50 - -50 + 1)) 40 = bh at *
  generalize -50 + ringX z len 0 % (50 - -50 + 1) = x0 at *
  generalize -50 + ringX z len 3 % (50 - -50 + 1) = x1 at *
  clear hn
  generalize n0 % 240 = n1 at *
  obtain ⟨n, en⟩ : ∃ n, -120 + n1 = n := ⟨_, rfl⟩
  have A1 : -1000000 ≤ al := by omega
  have A2 : ah ≤ 1000000 := by omega
  have B1 : -1000000 ≤ bl := by omega
  have B2 : bh ≤ 1000000 := by omega
  have kab := chkB_small A1 s3 A2 B1 t3 B2
  have kba := chkB_small B1 t3 B2 A1 s3 A2
  have M1 := fun W => Meet_any al ah bl bh W
  have M2 := fun W => Meet_any bl bh al ah W
  have H1 := fun W => Hull_any al ah bl bh W
  have H2 := fun W => Hull_any bl bh al ah W
  have IA := fun W => In_any al ah n W
  have IB := fun W => In_any bl bh n W
  have eM : meetB al ah bl bh = decide (max al bl ≤ min ah bh) := by unfold meetB; rw [kab]; rfl
  have eM2 : meetB bl bh al ah = decide (max al bl ≤ min ah bh) := by unfold meetB; rw [kba, Int.max_comm, Int.min_comm]; rfl
  have eL : meetL bl bh al ah = meetL al ah bl bh := by unfold meetL; rw [eM, eM2, Int.max_comm]
  have eH : meetH bl bh al ah = meetH al ah bl bh := by unfold meetH; rw [eM, eM2, Int.min_comm]
  have hL : hullL al ah bl bh = min al bl := by unfold hullL; rw [if_pos kab]
  have hH : hullH al ah bl bh = max ah bh := by unfold hullH; rw [if_pos kab]
  have hL2 : hullL bl bh al ah = min al bl := by unfold hullL; rw [if_pos kba, Int.min_comm]
  have hH2 : hullH bl bh al ah = max ah bh := by unfold hullH; rw [if_pos kba, Int.max_comm]
  rw [hL, hH] at H1
  rw [hL2, hH2] at H2
  rw [eL, eH, eM2, ← eM] at M2
  have NS := fun W => Inside_any al ah (min al bl) (max ah bh) W
  have eN : insideB al ah (min al bl) (max ah bh) = true := by
    unfold insideB
    rw [chkB_small A1 s3 A2 (by omega) (by omega) (by omega)]
    simp; omega
  rw [eN] at NS
  have IH := fun W => In_any (min al bl) (max ah bh) n W
  rw [inB_small (by omega) (by omega) (by omega)] at IH
  rw [inB_small A1 s3 A2] at IA
  rw [inB_small B1 t3 B2] at IB
  have IP := fun W => In_any (meetL al ah bl bh) (meetH al ah bl bh) n W
  have eP : meetB al ah bl bh = true → inB (meetL al ah bl bh) (meetH al ah bl bh) n = (decide (max al bl ≤ n) && decide (n ≤ min ah bh)) := by
    intro h
    have hh : max al bl ≤ min ah bh := by rw [eM] at h; simpa using h
    unfold meetL meetH
    rw [h, if_pos rfl, if_pos rfl]
    exact inB_small (by omega) hh (by omega)
  have SN := fun W h => Split_no al ah W h
  have SY := fun W h => Split_yes al ah W h
  have eS : splitB al ah = decide (al ≠ ah) := by unfold splitB; rw [chk_small A1 s3 A2]; rfl
  have I1 := fun W => In_any al ((al + ah) / 2) n W
  have I2 := fun W => In_any ((al + ah) / 2 + 1) ah n W
  have HC := fun W => Hull_any al ((al + ah) / 2) ((al + ah) / 2 + 1) ah W
  clear eM2 eL eH hL hH hL2 hH2 eN kba
  by_cases ok : al = ah
  · clear SY I1 I2 HC
    by_cases hm : max al bl ≤ min ah bh
    · have hI : meetB al ah bl bh = true := by rw [eM]; simpa using hm
      rw [hI] at M1 M2
      rw [eP hI] at IP
      by_cases hA : al ≤ n ∧ n ≤ ah
      · have eA : (decide (al ≤ n) && decide (n ≤ ah)) = true := by simpa using hA
        rw [eA] at IA
        by_cases hB : bl ≤ n ∧ n ≤ bh
        · have eB : (decide (bl ≤ n) && decide (n ≤ bh)) = true := by simpa using hB
          rw [eB] at IB
          have ep : (decide (max al bl ≤ n) && decide (n ≤ min ah bh)) = true := by simp; omega
          rw [ep] at IP
          have eh : (decide (min al bl ≤ n) && decide (n ≤ max ah bh)) = true := by simp; omega
          rw [eh] at IH
          exact SpanParts_tttfff p len cap z n0 n1 n x0 x1 al ah bl bh (meetL al ah bl bh) (meetH al ah bl bh) (min al bl) (max ah bh) w hw R0 R1 R3 R4 MO M1 M2 H1 H2 IA IB IP IH NS (fun W => SN W (by rw [eS]; simpa using ok)) en b1 b2 ok
        · have eB : (decide (bl ≤ n) && decide (n ≤ bh)) = false := by rw [Bool.eq_false_iff]; intro h; simp at h; exact hB h
          rw [eB] at IB
          have ep : (decide (max al bl ≤ n) && decide (n ≤ min ah bh)) = false := by rw [Bool.eq_false_iff]; intro h; simp at h; omega
          rw [ep] at IP
          have eh : (decide (min al bl ≤ n) && decide (n ≤ max ah bh)) = true := by simp; omega
          rw [eh] at IH
          exact SpanParts_ttffff p len cap z n0 n1 n x0 x1 al ah bl bh (meetL al ah bl bh) (meetH al ah bl bh) (min al bl) (max ah bh) w hw R0 R1 R3 R4 MO M1 M2 H1 H2 IA IB IP IH NS (fun W => SN W (by rw [eS]; simpa using ok)) en b1 b2 ok
      · have eA : (decide (al ≤ n) && decide (n ≤ ah)) = false := by rw [Bool.eq_false_iff]; intro h; simp at h; exact hA h
        rw [eA] at IA
        by_cases hB : bl ≤ n ∧ n ≤ bh
        · have eB : (decide (bl ≤ n) && decide (n ≤ bh)) = true := by simpa using hB
          rw [eB] at IB
          have ep : (decide (max al bl ≤ n) && decide (n ≤ min ah bh)) = false := by rw [Bool.eq_false_iff]; intro h; simp at h; omega
          rw [ep] at IP
          have eh : (decide (min al bl ≤ n) && decide (n ≤ max ah bh)) = true := by simp; omega
          rw [eh] at IH
          exact SpanParts_tftfff p len cap z n0 n1 n x0 x1 al ah bl bh (meetL al ah bl bh) (meetH al ah bl bh) (min al bl) (max ah bh) w hw R0 R1 R3 R4 MO M1 M2 H1 H2 IA IB IP IH NS (fun W => SN W (by rw [eS]; simpa using ok)) en b1 b2 ok
        · have eB : (decide (bl ≤ n) && decide (n ≤ bh)) = false := by rw [Bool.eq_false_iff]; intro h; simp at h; exact hB h
          rw [eB] at IB
          have ep : (decide (max al bl ≤ n) && decide (n ≤ min ah bh)) = false := by rw [Bool.eq_false_iff]; intro h; simp at h; omega
          rw [ep] at IP
          exact SpanParts_tfffff p len cap z n0 n1 n x0 x1 al ah bl bh (meetL al ah bl bh) (meetH al ah bl bh) (min al bl) (max ah bh) w hw R0 R1 R3 R4 MO M1 M2 H1 H2 IA IB IP NS (fun W => SN W (by rw [eS]; simpa using ok)) en b1 b2 ok
    · have hI : meetB al ah bl bh = false := by rw [eM]; simpa using hm
      rw [hI] at M1 M2
      by_cases hA : al ≤ n ∧ n ≤ ah
      · have eA : (decide (al ≤ n) && decide (n ≤ ah)) = true := by simpa using hA
        rw [eA] at IA
        by_cases hB : bl ≤ n ∧ n ≤ bh
        · have eB : (decide (bl ≤ n) && decide (n ≤ bh)) = true := by simpa using hB
          rw [eB] at IB
          omega
        · have eB : (decide (bl ≤ n) && decide (n ≤ bh)) = false := by rw [Bool.eq_false_iff]; intro h; simp at h; exact hB h
          rw [eB] at IB
          have eh : (decide (min al bl ≤ n) && decide (n ≤ max ah bh)) = true := by simp; omega
          rw [eh] at IH
          exact SpanParts_ftffff p len cap z n0 n1 n x0 x1 al ah bl bh (meetL al ah bl bh) (meetH al ah bl bh) (min al bl) (max ah bh) w hw R0 R1 R3 R4 MO M1 M2 H1 H2 IA IB IH NS (fun W => SN W (by rw [eS]; simpa using ok)) en b1 b2 ok
      · have eA : (decide (al ≤ n) && decide (n ≤ ah)) = false := by rw [Bool.eq_false_iff]; intro h; simp at h; exact hA h
        rw [eA] at IA
        by_cases hB : bl ≤ n ∧ n ≤ bh
        · have eB : (decide (bl ≤ n) && decide (n ≤ bh)) = true := by simpa using hB
          rw [eB] at IB
          have eh : (decide (min al bl ≤ n) && decide (n ≤ max ah bh)) = true := by simp; omega
          rw [eh] at IH
          exact SpanParts_fftfff p len cap z n0 n1 n x0 x1 al ah bl bh (meetL al ah bl bh) (meetH al ah bl bh) (min al bl) (max ah bh) w hw R0 R1 R3 R4 MO M1 M2 H1 H2 IA IB IH NS (fun W => SN W (by rw [eS]; simpa using ok)) en b1 b2 ok
        · have eB : (decide (bl ≤ n) && decide (n ≤ bh)) = false := by rw [Bool.eq_false_iff]; intro h; simp at h; exact hB h
          rw [eB] at IB
          exact SpanParts_ffffff p len cap z n0 n1 n x0 x1 al ah bl bh (meetL al ah bl bh) (meetH al ah bl bh) (min al bl) (max ah bh) w hw R0 R1 R3 R4 MO M1 M2 H1 H2 IA IB NS (fun W => SN W (by rw [eS]; simpa using ok)) en b1 b2 ok
  · clear SN
    rw [inB_small A1 (by omega) (by omega)] at I1
    rw [inB_small (by omega) (by omega) A2] at I2
    have kc := chkB_small (a := al) (b := (al + ah) / 2) (c := (al + ah) / 2 + 1) (d := ah) A1 (by omega) (by omega) (by omega) (by omega) A2
    have cL : hullL al ((al + ah) / 2) ((al + ah) / 2 + 1) ah = al := by unfold hullL; rw [if_pos kc]; omega
    have cH : hullH al ((al + ah) / 2) ((al + ah) / 2 + 1) ah = ah := by unfold hullH; rw [if_pos kc]; omega
    rw [cL, cH] at HC
    by_cases hm : max al bl ≤ min ah bh
    · have hI : meetB al ah bl bh = true := by rw [eM]; simpa using hm
      rw [hI] at M1 M2
      rw [eP hI] at IP
      by_cases hA : al ≤ n ∧ n ≤ ah
      · have eA : (decide (al ≤ n) && decide (n ≤ ah)) = true := by simpa using hA
        rw [eA] at IA
        by_cases hB : bl ≤ n ∧ n ≤ bh
        · have eB : (decide (bl ≤ n) && decide (n ≤ bh)) = true := by simpa using hB
          rw [eB] at IB
          have ep : (decide (max al bl ≤ n) && decide (n ≤ min ah bh)) = true := by simp; omega
          rw [ep] at IP
          have eh : (decide (min al bl ≤ n) && decide (n ≤ max ah bh)) = true := by simp; omega
          rw [eh] at IH
          by_cases h1 : n ≤ (al + ah) / 2
          · have e1 : (decide (al ≤ n) && decide (n ≤ (al + ah) / 2)) = true := by simp; omega
            have e2 : (decide ((al + ah) / 2 + 1 ≤ n) && decide (n ≤ ah)) = false := by rw [Bool.eq_false_iff]; intro h; simp at h; omega
            rw [e1] at I1; rw [e2] at I2
            exact SpanParts_tttttf p len cap z n0 n1 n x0 x1 al ah bl bh (meetL al ah bl bh) (meetH al ah bl bh) (min al bl) (max ah bh) al ((al + ah) / 2) ((al + ah) / 2 + 1) ah w hw R0 R1 R3 R4 MO M1 M2 H1 H2 IA IB IP IH NS (fun W => SY W (by rw [eS]; simpa using ok)) I1 I2 HC (by omega) (by omega) (by omega) (by omega) (by omega) (by omega) en b1 b2
          · have e1 : (decide (al ≤ n) && decide (n ≤ (al + ah) / 2)) = false := by rw [Bool.eq_false_iff]; intro h; simp at h; omega
            have e2 : (decide ((al + ah) / 2 + 1 ≤ n) && decide (n ≤ ah)) = true := by simp; omega
            rw [e1] at I1; rw [e2] at I2
            exact SpanParts_ttttft p len cap z n0 n1 n x0 x1 al ah bl bh (meetL al ah bl bh) (meetH al ah bl bh) (min al bl) (max ah bh) al ((al + ah) / 2) ((al + ah) / 2 + 1) ah w hw R0 R1 R3 R4 MO M1 M2 H1 H2 IA IB IP IH NS (fun W => SY W (by rw [eS]; simpa using ok)) I1 I2 HC (by omega) (by omega) (by omega) (by omega) (by omega) (by omega) en b1 b2
        · have eB : (decide (bl ≤ n) && decide (n ≤ bh)) = false := by rw [Bool.eq_false_iff]; intro h; simp at h; exact hB h
          rw [eB] at IB
          have ep : (decide (max al bl ≤ n) && decide (n ≤ min ah bh)) = false := by rw [Bool.eq_false_iff]; intro h; simp at h; omega
          rw [ep] at IP
          have eh : (decide (min al bl ≤ n) && decide (n ≤ max ah bh)) = true := by simp; omega
          rw [eh] at IH
          by_cases h1 : n ≤ (al + ah) / 2
          · have e1 : (decide (al ≤ n) && decide (n ≤ (al + ah) / 2)) = true := by simp; omega
            have e2 : (decide ((al + ah) / 2 + 1 ≤ n) && decide (n ≤ ah)) = false := by rw [Bool.eq_false_iff]; intro h; simp at h; omega
            rw [e1] at I1; rw [e2] at I2
            exact SpanParts_ttfttf p len cap z n0 n1 n x0 x1 al ah bl bh (meetL al ah bl bh) (meetH al ah bl bh) (min al bl) (max ah bh) al ((al + ah) / 2) ((al + ah) / 2 + 1) ah w hw R0 R1 R3 R4 MO M1 M2 H1 H2 IA IB IP IH NS (fun W => SY W (by rw [eS]; simpa using ok)) I1 I2 HC (by omega) (by omega) (by omega) (by omega) (by omega) (by omega) en b1 b2
          · have e1 : (decide (al ≤ n) && decide (n ≤ (al + ah) / 2)) = false := by rw [Bool.eq_false_iff]; intro h; simp at h; omega
            have e2 : (decide ((al + ah) / 2 + 1 ≤ n) && decide (n ≤ ah)) = true := by simp; omega
            rw [e1] at I1; rw [e2] at I2
            exact SpanParts_ttftft p len cap z n0 n1 n x0 x1 al ah bl bh (meetL al ah bl bh) (meetH al ah bl bh) (min al bl) (max ah bh) al ((al + ah) / 2) ((al + ah) / 2 + 1) ah w hw R0 R1 R3 R4 MO M1 M2 H1 H2 IA IB IP IH NS (fun W => SY W (by rw [eS]; simpa using ok)) I1 I2 HC (by omega) (by omega) (by omega) (by omega) (by omega) (by omega) en b1 b2
      · have eA : (decide (al ≤ n) && decide (n ≤ ah)) = false := by rw [Bool.eq_false_iff]; intro h; simp at h; exact hA h
        rw [eA] at IA
        by_cases hB : bl ≤ n ∧ n ≤ bh
        · have eB : (decide (bl ≤ n) && decide (n ≤ bh)) = true := by simpa using hB
          rw [eB] at IB
          have ep : (decide (max al bl ≤ n) && decide (n ≤ min ah bh)) = false := by rw [Bool.eq_false_iff]; intro h; simp at h; omega
          rw [ep] at IP
          have eh : (decide (min al bl ≤ n) && decide (n ≤ max ah bh)) = true := by simp; omega
          rw [eh] at IH
          have e1 : (decide (al ≤ n) && decide (n ≤ (al + ah) / 2)) = false := by rw [Bool.eq_false_iff]; intro h; simp at h; omega
          have e2 : (decide ((al + ah) / 2 + 1 ≤ n) && decide (n ≤ ah)) = false := by rw [Bool.eq_false_iff]; intro h; simp at h; omega
          rw [e1] at I1; rw [e2] at I2
          exact SpanParts_tfttff p len cap z n0 n1 n x0 x1 al ah bl bh (meetL al ah bl bh) (meetH al ah bl bh) (min al bl) (max ah bh) al ((al + ah) / 2) ((al + ah) / 2 + 1) ah w hw R0 R1 R3 R4 MO M1 M2 H1 H2 IA IB IP IH NS (fun W => SY W (by rw [eS]; simpa using ok)) I1 I2 HC (by omega) (by omega) (by omega) (by omega) (by omega) (by omega) en b1 b2
        · have eB : (decide (bl ≤ n) && decide (n ≤ bh)) = false := by rw [Bool.eq_false_iff]; intro h; simp at h; exact hB h
          rw [eB] at IB
          have ep : (decide (max al bl ≤ n) && decide (n ≤ min ah bh)) = false := by rw [Bool.eq_false_iff]; intro h; simp at h; omega
          rw [ep] at IP
          have e1 : (decide (al ≤ n) && decide (n ≤ (al + ah) / 2)) = false := by rw [Bool.eq_false_iff]; intro h; simp at h; omega
          have e2 : (decide ((al + ah) / 2 + 1 ≤ n) && decide (n ≤ ah)) = false := by rw [Bool.eq_false_iff]; intro h; simp at h; omega
          rw [e1] at I1; rw [e2] at I2
          exact SpanParts_tfftff p len cap z n0 n1 n x0 x1 al ah bl bh (meetL al ah bl bh) (meetH al ah bl bh) (min al bl) (max ah bh) al ((al + ah) / 2) ((al + ah) / 2 + 1) ah w hw R0 R1 R3 R4 MO M1 M2 H1 H2 IA IB IP NS (fun W => SY W (by rw [eS]; simpa using ok)) I1 I2 HC (by omega) (by omega) (by omega) (by omega) (by omega) (by omega) en b1 b2
    · have hI : meetB al ah bl bh = false := by rw [eM]; simpa using hm
      rw [hI] at M1 M2
      by_cases hA : al ≤ n ∧ n ≤ ah
      · have eA : (decide (al ≤ n) && decide (n ≤ ah)) = true := by simpa using hA
        rw [eA] at IA
        by_cases hB : bl ≤ n ∧ n ≤ bh
        · have eB : (decide (bl ≤ n) && decide (n ≤ bh)) = true := by simpa using hB
          rw [eB] at IB
          omega
        · have eB : (decide (bl ≤ n) && decide (n ≤ bh)) = false := by rw [Bool.eq_false_iff]; intro h; simp at h; exact hB h
          rw [eB] at IB
          have eh : (decide (min al bl ≤ n) && decide (n ≤ max ah bh)) = true := by simp; omega
          rw [eh] at IH
          by_cases h1 : n ≤ (al + ah) / 2
          · have e1 : (decide (al ≤ n) && decide (n ≤ (al + ah) / 2)) = true := by simp; omega
            have e2 : (decide ((al + ah) / 2 + 1 ≤ n) && decide (n ≤ ah)) = false := by rw [Bool.eq_false_iff]; intro h; simp at h; omega
            rw [e1] at I1; rw [e2] at I2
            exact SpanParts_ftfttf p len cap z n0 n1 n x0 x1 al ah bl bh (meetL al ah bl bh) (meetH al ah bl bh) (min al bl) (max ah bh) al ((al + ah) / 2) ((al + ah) / 2 + 1) ah w hw R0 R1 R3 R4 MO M1 M2 H1 H2 IA IB IH NS (fun W => SY W (by rw [eS]; simpa using ok)) I1 I2 HC (by omega) (by omega) (by omega) (by omega) (by omega) (by omega) en b1 b2
          · have e1 : (decide (al ≤ n) && decide (n ≤ (al + ah) / 2)) = false := by rw [Bool.eq_false_iff]; intro h; simp at h; omega
            have e2 : (decide ((al + ah) / 2 + 1 ≤ n) && decide (n ≤ ah)) = true := by simp; omega
            rw [e1] at I1; rw [e2] at I2
            exact SpanParts_ftftft p len cap z n0 n1 n x0 x1 al ah bl bh (meetL al ah bl bh) (meetH al ah bl bh) (min al bl) (max ah bh) al ((al + ah) / 2) ((al + ah) / 2 + 1) ah w hw R0 R1 R3 R4 MO M1 M2 H1 H2 IA IB IH NS (fun W => SY W (by rw [eS]; simpa using ok)) I1 I2 HC (by omega) (by omega) (by omega) (by omega) (by omega) (by omega) en b1 b2
      · have eA : (decide (al ≤ n) && decide (n ≤ ah)) = false := by rw [Bool.eq_false_iff]; intro h; simp at h; exact hA h
        rw [eA] at IA
        by_cases hB : bl ≤ n ∧ n ≤ bh
        · have eB : (decide (bl ≤ n) && decide (n ≤ bh)) = true := by simpa using hB
          rw [eB] at IB
          have eh : (decide (min al bl ≤ n) && decide (n ≤ max ah bh)) = true := by simp; omega
          rw [eh] at IH
          have e1 : (decide (al ≤ n) && decide (n ≤ (al + ah) / 2)) = false := by rw [Bool.eq_false_iff]; intro h; simp at h; omega
          have e2 : (decide ((al + ah) / 2 + 1 ≤ n) && decide (n ≤ ah)) = false := by rw [Bool.eq_false_iff]; intro h; simp at h; omega
          rw [e1] at I1; rw [e2] at I2
          exact SpanParts_ffttff p len cap z n0 n1 n x0 x1 al ah bl bh (meetL al ah bl bh) (meetH al ah bl bh) (min al bl) (max ah bh) al ((al + ah) / 2) ((al + ah) / 2 + 1) ah w hw R0 R1 R3 R4 MO M1 M2 H1 H2 IA IB IH NS (fun W => SY W (by rw [eS]; simpa using ok)) I1 I2 HC (by omega) (by omega) (by omega) (by omega) (by omega) (by omega) en b1 b2
        · have eB : (decide (bl ≤ n) && decide (n ≤ bh)) = false := by rw [Bool.eq_false_iff]; intro h; simp at h; exact hB h
          rw [eB] at IB
          have e1 : (decide (al ≤ n) && decide (n ≤ (al + ah) / 2)) = false := by rw [Bool.eq_false_iff]; intro h; simp at h; omega
          have e2 : (decide ((al + ah) / 2 + 1 ≤ n) && decide (n ≤ ah)) = false := by rw [Bool.eq_false_iff]; intro h; simp at h; omega
          rw [e1] at I1; rw [e2] at I2
          exact SpanParts_ffftff p len cap z n0 n1 n x0 x1 al ah bl bh (meetL al ah bl bh) (meetH al ah bl bh) (min al bl) (max ah bh) al ((al + ah) / 2) ((al + ah) / 2 + 1) ah w hw R0 R1 R3 R4 MO M1 M2 H1 H2 IA IB NS (fun W => SY W (by rw [eS]; simpa using ok)) I1 I2 HC (by omega) (by omega) (by omega) (by omega) (by omega) (by omega) en b1 b2
set_option maxRecDepth 100000 in
theorem SpanParts_lifted (os : Os) (started : os.Started) (H : Type) (enc : TypeId × Value → H) :
    ReturnsInHanded {} Try.checked os 7 .any (Rows.spanPartsSpec.pre6 enc Try.prog Try.f7 Rows.spanPartsRow.domain false) (Rows.spanPartsSpec.post enc Try.prog Try.f7 false true false false) := by
  refine returnsInHanded_of_change (C := Try.checked) own started (by kernel_rfl) Try.func7
    (ChangeSpec.witness6 (enc := enc) (C := Try.checked) false ⟨#[], #[.slice none 0 0, .int .i64 0], []⟩ 8 (by kernel_rfl) (by kernel_rfl) (by kernel_rfl) (by kernel_rfl)) ?_
  intro W base args ds gs before hval0 hW _ _
  have hval : ∀ (j : Nat) t v, Try.f7.params[j]? = some t → args[j]? = some v → Value.okWide Try.prog W .any base t v := hval0
  have hW' := hW
  obtain ⟨p, q, hA0, hV, _, _, _⟩ := hW
  have hA : DataW.TrodAll enc Try.prog W 0 (fun _ => true) true Try.f7.params.toList args.toList ds p := hA0
  rw [Try.params7] at hA hval
  obtain ⟨v0, vs0, d0, ds0, p0, q0, hargs0, rfl, _, h0, r0⟩ := trodAll_cons hA
  obtain ⟨v1, vs1, d1, ds1, p1, q1, hargs1, rfl, _, h1, r1⟩ := trodAll_cons r0
  obtain ⟨hlast, rfl, _⟩ := trodAll_nil r1
  subst hlast
  subst hargs1
  obtain rfl : args = #[v0, v1] := by cases args; simp_all
  obtain ⟨rfl, rfl⟩ := trodVars_none hV
  obtain ⟨sp0, sl0, sc0, sz0, rfl, hi0⟩ := open_list (P := Try.prog) Try.underlying33 Try.underlying3 (by kernel_rfl) (hval 0 33 v0 rfl rfl) h0
  obtain ⟨x1, rfl, hi1⟩ := open_num (P := Try.prog) Try.underlying2 (hval 1 2 v1 rfl rfl)
  exact (SpanParts_any sp0 sl0 sc0 sz0 x1 W hi0 hi1).mono fun e W' h => law_post laid_out (by rw [Try.params7]; intro t ht; simp only [List.mem_cons, List.not_mem_nil, or_false] at ht; rcases ht with rfl | rfl | rfl | rfl | rfl | rfl; all_goals exact ⟨by kernel_rfl, by decide +kernel⟩) rfl rfl Try.underlying4 hW' rfl h
/-- The statement. -/
theorem SpanParts_holds : Rows.SpanPartsSaid :=
  OpenClaim.holds_of_wide 7 Try.f7 rfl rfl rfl rfl rfl rfl rfl ⟨rfl, rfl, rfl, rfl, rfl⟩ rfl rfl rfl rfl rfl (by kernel_rfl) Try.func7 (by kernel_rfl)
    (of_decide_eq_true (by kernel_rfl)) (by unfold Func.isWrapper; first | (rw [if_pos (by decide +kernel)]; kernel_rfl) | (rw [if_neg (by decide +kernel)]; exact ⟨rfl, rfl⟩))
    (fun os started H enc _ => SpanParts_lifted os started H enc)
end Go.Proofs.Ytbcbodecicnnjaa

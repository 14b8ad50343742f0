/- Contracts of package span's functions at the chapter's examples. No condition. -/
import Derived.Test.YtagfhekjmkdjkaaHitsB
import Derived.Test.YtagfhekjmkdjkaaAwake
import Derived.Test.YtagfhekjmkdjkaaSums
import Derived.Test.YtagfhekjmkdjkaaQuot
import Derived.Test.YtagfhekjmkdjkaaMulDiv
import Derived.Test.YtagfhekjmkdjkaaRoots
import Derived.Test.YtagfhekjmkdjkaaSpans
namespace Go.Proofs.Ytagfhekjmkdjkaa
open Go.RowKit Go.Shelf
theorem kn0 (w : World) : Calls Try.prog 6 #[.agg #[.int .i64 2, .int .i64 1]] w (Gives (.int .i64 11) w) := by
  have h := Check_any 2 1 w
  rw [show chk 2 1 = 11 by decide +kernel] at h
  exact h
theorem kn1 (w : World) : Calls Try.prog 6 #[.agg #[.int .i64 0, .int .i64 1152921504606846976]] w (Gives (.int .i64 0) w) := by
  have h := Check_any 0 1152921504606846976 w
  rw [show chk 0 1152921504606846976 = 0 by decide +kernel] at h
  exact h
theorem kn2 (w : World) : Calls Try.prog 6 #[.agg #[.int .i64 0, .int .i64 1152921504606846977]] w (Gives (.int .i64 2) w) := by
  have h := Check_any 0 1152921504606846977 w
  rw [show chk 0 1152921504606846977 = 2 by decide +kernel] at h
  exact h
theorem kn3 (w : World) : Calls Try.prog 8 #[.agg #[.int .i64 2, .int .i64 3], .agg #[.int .i64 1, .int .i64 3]] w (Gives (.bool true) w) := by
  have h := Inside_any 2 3 1 3 w
  rw [show insideB 2 3 1 3 = true by decide +kernel] at h
  exact h
theorem kn4 (w : World) : Calls Try.prog 9 #[.agg #[.int .i64 1, .int .i64 2], .agg #[.int .i64 5, .int .i64 7]] w (Gives (.agg #[.int .i64 1, .int .i64 7]) w) := by
  have h := Hull_any 1 2 5 7 w
  rw [show hullL 1 2 5 7 = 1 by decide +kernel] at h
  rw [show hullH 1 2 5 7 = 7 by decide +kernel] at h
  exact h
theorem kn5 (w : World) : Calls Try.prog 10 #[.agg #[.int .i64 1, .int .i64 4], .agg #[.int .i64 3, .int .i64 9]] w (Gives (.tuple #[.agg #[.int .i64 3, .int .i64 4], .bool true]) w) := by
  have h := Meet_any 1 4 3 9 w
  rw [show meetL 1 4 3 9 = 3 by decide +kernel] at h
  rw [show meetH 1 4 3 9 = 4 by decide +kernel] at h
  rw [show meetB 1 4 3 9 = true by decide +kernel] at h
  exact h
theorem kn6 (w : World) : Calls Try.prog 10 #[.agg #[.int .i64 1, .int .i64 2], .agg #[.int .i64 3, .int .i64 4]] w (Gives (.tuple #[.agg #[.int .i64 0, .int .i64 0], .bool false]) w) := by
  have h := Meet_any 1 2 3 4 w
  rw [show meetL 1 2 3 4 = 0 by decide +kernel] at h
  rw [show meetH 1 2 3 4 = 0 by decide +kernel] at h
  rw [show meetB 1 2 3 4 = false by decide +kernel] at h
  exact h
theorem kn7 (w : World) : Calls Try.prog 11 #[.agg #[.int .i64 (-3), .int .i64 2]] w (Gives (.tuple #[.agg #[.int .i64 (-3), .int .i64 (-1)], .agg #[.int .i64 0, .int .i64 2], .bool true]) w) := by
  have h := Split_yes (-3) 2 w (by decide +kernel)
  rw [show ((-3 : Int) + 2) / 2 = -1 by decide +kernel, show (-1 : Int) + 1 = 0 by decide +kernel] at h
  exact h
theorem kn8 (w : World) : Calls Try.prog 11 #[.agg #[.int .i64 5, .int .i64 5]] w (Gives (.tuple #[.agg #[.int .i64 0, .int .i64 0], .agg #[.int .i64 0, .int .i64 0], .bool false]) w) := Split_no 5 5 w (by decide +kernel)
theorem kn9 (w : World) : Calls Try.prog 12 #[.agg #[.int .i64 (-1), .int .i64 2], .agg #[.int .i64 3, .int .i64 4]] w (Gives (.tuple #[.agg #[.int .i64 2, .int .i64 6], .int .i64 0]) w) := by
  have h := Add_any (-1) 2 3 4 w
  rw [show addL (-1) 2 3 4 = 2 by decide +kernel] at h
  rw [show addH (-1) 2 3 4 = 6 by decide +kernel] at h
  rw [show addE (-1) 2 3 4 = 0 by decide +kernel] at h
  exact h
theorem kn10 (w : World) : Calls Try.prog 13 #[.agg #[.int .i64 (-1), .int .i64 2], .agg #[.int .i64 3, .int .i64 4]] w (Gives (.tuple #[.agg #[.int .i64 (-5), .int .i64 (-1)], .int .i64 0]) w) := by
  have h := Sub_any (-1) 2 3 4 w
  rw [show subL (-1) 2 3 4 = (-5) by decide +kernel] at h
  rw [show subH (-1) 2 3 4 = (-1) by decide +kernel] at h
  rw [show subE (-1) 2 3 4 = 0 by decide +kernel] at h
  exact h
theorem kn11 (w : World) : Calls Try.prog 14 #[.agg #[.int .i64 (-3), .int .i64 2]] w (Gives (.tuple #[.agg #[.int .i64 0, .int .i64 9], .int .i64 0]) w) := by
  have h := Square_any (-3) 2 w
  rw [show sqL (-3) 2 = 0 by decide +kernel] at h
  rw [show sqH (-3) 2 = 9 by decide +kernel] at h
  rw [show sqE (-3) 2 = 0 by decide +kernel] at h
  exact h
theorem kn12 (w : World) : Calls Try.prog 15 #[.agg #[.int .i64 7, .int .i64 10], .agg #[.int .i64 2, .int .i64 3]] w (Gives (.tuple #[.agg #[.int .i64 2, .int .i64 5], .int .i64 0]) w) := by
  have h := Quot_any 7 10 2 3 w
  rw [show quoL 7 10 2 3 = 2 by decide +kernel] at h
  rw [show quoH 7 10 2 3 = 5 by decide +kernel] at h
  rw [show quoE 7 10 2 3 = 0 by decide +kernel] at h
  exact h
theorem kn13 (w : World) : Calls Try.prog 15 #[.agg #[.int .i64 (-7), .int .i64 10], .agg #[.int .i64 2, .int .i64 3]] w (Gives (.tuple #[.agg #[.int .i64 (-4), .int .i64 5], .int .i64 0]) w) := by
  have h := Quot_any (-7) 10 2 3 w
  rw [show quoL (-7) 10 2 3 = (-4) by decide +kernel] at h
  rw [show quoH (-7) 10 2 3 = 5 by decide +kernel] at h
  rw [show quoE (-7) 10 2 3 = 0 by decide +kernel] at h
  exact h
theorem kn14 (w : World) : Calls Try.prog 15 #[.agg #[.int .i64 1, .int .i64 1], .agg #[.int .i64 (-1), .int .i64 1]] w (Gives (.tuple #[.agg #[.int .i64 0, .int .i64 0], .int .i64 2]) w) := by
  have h := Quot_any 1 1 (-1) 1 w
  rw [show quoL 1 1 (-1) 1 = 0 by decide +kernel] at h
  rw [show quoH 1 1 (-1) 1 = 0 by decide +kernel] at h
  rw [show quoE 1 1 (-1) 1 = 2 by decide +kernel] at h
  exact h
theorem kn15 (w : World) : Calls Try.prog 16 #[.agg #[.int .i64 1099511627776, .int .i64 1099511627776], .agg #[.int .i64 2097152, .int .i64 2097152]] w (Gives (.tuple #[.agg #[.int .i64 0, .int .i64 0], .int .i64 14]) w) := by
  have h := Mul_any 1099511627776 1099511627776 2097152 2097152 w
  rw [show mulL 1099511627776 1099511627776 2097152 2097152 = 0 by decide +kernel] at h
  rw [show mulH 1099511627776 1099511627776 2097152 2097152 = 0 by decide +kernel] at h
  rw [show mulE 1099511627776 1099511627776 2097152 2097152 = 14 by decide +kernel] at h
  exact h
theorem kn16 (w : World) : Calls Try.prog 17 #[.int .i64 7, .int .i64 3, .int .i64 2] w (Gives (.tuple #[.int .i64 10, .int .i64 11, .int .i64 0]) w) := by
  have h := MulDiv_any 7 3 2 w (by unfold I64; decide) (by unfold I64; decide)
  rw [show mdL 7 3 2 = 10 by decide +kernel] at h
  rw [show mdH 7 3 2 = 11 by decide +kernel] at h
  rw [show mdE 7 3 2 = 0 by decide +kernel] at h
  exact h
theorem kn17 (w : World) : Calls Try.prog 17 #[.int .i64 (-7), .int .i64 3, .int .i64 2] w (Gives (.tuple #[.int .i64 (-11), .int .i64 (-10), .int .i64 0]) w) := by
  have h := MulDiv_any (-7) 3 2 w (by unfold I64; decide) (by unfold I64; decide)
  rw [show mdL (-7) 3 2 = (-11) by decide +kernel] at h
  rw [show mdH (-7) 3 2 = (-10) by decide +kernel] at h
  rw [show mdE (-7) 3 2 = 0 by decide +kernel] at h
  exact h
theorem kn18 (w : World) : Calls Try.prog 17 #[.int .i64 576460752303423488, .int .i64 576460752303423488, .int .i64 288230376151711744] w (Gives (.tuple #[.int .i64 1152921504606846976, .int .i64 1152921504606846976, .int .i64 0]) w) := by
  have h := MulDiv_any 576460752303423488 576460752303423488 288230376151711744 w (by unfold I64; decide) (by unfold I64; decide)
  rw [show mdL 576460752303423488 576460752303423488 288230376151711744 = 1152921504606846976 by decide +kernel] at h
  rw [show mdH 576460752303423488 576460752303423488 288230376151711744 = 1152921504606846976 by decide +kernel] at h
  rw [show mdE 576460752303423488 576460752303423488 288230376151711744 = 0 by decide +kernel] at h
  exact h
theorem kn19 (w : World) : Calls Try.prog 17 #[.int .i64 1152921504606846976, .int .i64 2, .int .i64 1] w (Gives (.tuple #[.int .i64 0, .int .i64 0, .int .i64 14]) w) := by
  have h := MulDiv_any 1152921504606846976 2 1 w (by unfold I64; decide) (by unfold I64; decide)
  rw [show mdL 1152921504606846976 2 1 = 0 by decide +kernel] at h
  rw [show mdH 1152921504606846976 2 1 = 0 by decide +kernel] at h
  rw [show mdE 1152921504606846976 2 1 = 14 by decide +kernel] at h
  exact h
theorem kn20 (w : World) : Calls Try.prog 18 #[.agg #[.int .i64 2, .int .i64 17]] w (Gives (.tuple #[.agg #[.int .i64 1, .int .i64 5], .int .i64 0]) w) := by
  have h := Roots_any 2 17 w
  rw [show rootsL 2 17 = 1 by decide +kernel] at h
  rw [show rootsH 2 17 = 5 by decide +kernel] at h
  rw [show rootsE 2 17 = 0 by decide +kernel] at h
  exact h
theorem kn21 (w : World) : Calls Try.prog 19 #[.int .i64 15] w (Gives (.int .i64 3) w) := by
  have h := Root_any 15 w (by unfold I64; decide)
  rw [show rootI 15 = 3 by decide +kernel] at h
  exact h
theorem kn22 (w : World) : Calls Try.prog 19 #[.int .i64 16] w (Gives (.int .i64 4) w) := by
  have h := Root_any 16 w (by unfold I64; decide)
  rw [show rootI 16 = 4 by decide +kernel] at h
  exact h
theorem kn23 (w : World) : Calls Try.prog 19 #[.int .i64 (-1)] w (Gives (.int .i64 (-1)) w) := by
  have h := Root_any (-1) w (by unfold I64; decide)
  rw [show rootI (-1) = (-1) by decide +kernel] at h
  exact h
theorem kn24 (w : World) : Calls Try.prog 20 #[.agg #[.int .i64 4611686018427387904, .int .i64 1], .agg #[.int .i64 4611686018427387904, .int .i64 2]] w (Gives (.int .i64 1) w) := by
  have h := Cross_any 4611686018427387904 1 4611686018427387904 2 w (by unfold I64; decide) (by unfold I64; decide) (by unfold I64; decide) (by unfold I64; decide)
  rw [show sgn (4611686018427387904 * 2 - 1 * 4611686018427387904) = 1 by decide +kernel] at h
  exact h
theorem kn25 (w : World) : Calls Try.prog 21 #[.agg #[.int .i64 3, .int .i64 (-2)], .agg #[.int .i64 2, .int .i64 3]] w (Gives (.int .i64 0) w) := by
  have h := Dot_any 3 (-2) 2 3 w (by unfold I64; decide) (by unfold I64; decide) (by unfold I64; decide) (by unfold I64; decide)
  rw [show sgn (3 * 2 + -2 * 3) = 0 by decide +kernel] at h
  exact h
theorem kn26 (w : World) : Calls Try.prog 22 #[.agg #[.int .i64 3, .int .i64 4], .int .i64 5] w (Gives (.bool true) w) := by
  have h := Near_any 3 4 5 w
  rw [show (radB 5 && farB 3 4 && nearB 3 4 5) = true by decide +kernel] at h
  exact h
theorem kn27 (w : World) : Calls Try.prog 23 #[.agg #[.int .i64 (-10), .int .i64 3], .agg #[.int .i64 10, .int .i64 3], .int .i64 3] w (Gives (.bool true) w) := by
  have h := Within_any (-10) 3 10 3 3 w
  rw [show (radB 3 && farB (-10) 3 && farB 10 3 && withinB (-10) 3 10 3 3) = true by decide +kernel] at h
  exact h
theorem kn28 (w : World) : Calls Try.prog 23 #[.agg #[.int .i64 (-10), .int .i64 3], .agg #[.int .i64 10, .int .i64 3], .int .i64 2] w (Gives (.bool false) w) := by
  have h := Within_any (-10) 3 10 3 2 w
  rw [show (radB 2 && farB (-10) 3 && farB 10 3 && withinB (-10) 3 10 3 2) = false by decide +kernel] at h
  exact h
theorem kn29 (w : World) : Calls Try.prog 23 #[.agg #[.int .i64 2, .int .i64 3], .agg #[.int .i64 10, .int .i64 3], .int .i64 3] w (Gives (.bool false) w) := by
  have h := Within_any 2 3 10 3 3 w
  rw [show (radB 3 && farB 2 3 && farB 10 3 && withinB 2 3 10 3 3) = false by decide +kernel] at h
  exact h
theorem kn30 (w : World) : Calls Try.prog 24 #[.agg #[.int .i64 (-1), .int .i64 1], .agg #[.int .i64 1, .int .i64 1]] w (Gives (.int .i64 1) w) := by
  have h := Miss_any (-1) 1 1 1 w
  rw [show missI (-1) 1 1 1 = 1 by decide +kernel] at h
  exact h
theorem kn31 (w : World) : Calls Try.prog 25 #[.agg #[.int .i64 (-1), .int .i64 1, .int .i64 (-1), .int .i64 1], .agg #[.int .i64 50, .int .i64 60, .int .i64 0, .int .i64 0], .int .i64 2] w (Gives (.bool true) w) := by
  have h := Hits_any (-1) 1 (-1) 1 50 60 0 0 2 w
  rw [show hitsB (-1) 1 (-1) 1 50 60 0 0 2 = true by decide +kernel] at h
  exact h
theorem kn32 (w : World) : Calls Try.prog 25 #[.agg #[.int .i64 (-41), .int .i64 (-39), .int .i64 0, .int .i64 1], .agg #[.int .i64 39, .int .i64 41, .int .i64 0, .int .i64 1], .int .i64 2] w (Gives (.bool true) w) := by
  have h := Hits_any (-41) (-39) 0 1 39 41 0 1 2 w
  rw [show hitsB (-41) (-39) 0 1 39 41 0 1 2 = true by decide +kernel] at h
  exact h
theorem kn33 (w : World) : Calls Try.prog 25 #[.agg #[.int .i64 (-1), .int .i64 1, .int .i64 (-2), .int .i64 2], .agg #[.int .i64 50, .int .i64 60, .int .i64 0, .int .i64 0], .int .i64 2] w (Gives (.bool false) w) := by
  have h := Hits_any (-1) 1 (-2) 2 50 60 0 0 2 w
  rw [show hitsB (-1) 1 (-2) 2 50 60 0 0 2 = false by decide +kernel] at h
  exact h
theorem kn34 (w : World) : Calls Try.prog 27 #[.agg #[.int .i64 5, .int .i64 6, .int .i64 (-9), .int .i64 (-8)], .agg #[.int .i64 5, .int .i64 6, .int .i64 8, .int .i64 9], .int .i64 5] w (Gives (.bool false) w) := by
  have h := Clear_any 5 6 (-9) (-8) 5 6 8 9 5 w
  rw [show clearI 5 6 (-9) (-8) 5 6 8 9 5 = false by decide +kernel] at h
  exact h
theorem kn35 (w : World) : Calls Try.prog 27 #[.agg #[.int .i64 (-2), .int .i64 (-1), .int .i64 (-2), .int .i64 2], .agg #[.int .i64 1, .int .i64 2, .int .i64 (-2), .int .i64 2], .int .i64 0] w (Gives (.bool false) w) := by
  have h := Clear_any (-2) (-1) (-2) 2 1 2 (-2) 2 0 w
  rw [show clearI (-2) (-1) (-2) 2 1 2 (-2) 2 0 = false by decide +kernel] at h
  exact h
end Go.Proofs.Ytagfhekjmkdjkaa

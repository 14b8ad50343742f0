/- Contract of span.Hits. No condition. -/
import Derived.Test.YtagfhekjmkdjkaaHitsW
import Derived.Test.YtagfhekjmkdjkaaClear
namespace Go.Proofs.Ytagfhekjmkdjkaa
open Go.RowKit Go.Shelf
/-- All corners of the area after i parts of the way are near. -/
def btB (a b c d e f g h r i : Int) : Bool := allB (mixI i a e) (mixI i b f) (mixI i c g) (mixI i d h) (8 * r)
/-- Both areas are one place each, and the segment between them comes within r. -/
def plB (a b c d e f g h r : Int) : Bool := (a == b && c == d) && (e == f && g == h) && withinB a c e g r
def hitsB (a b c d e f g h r : Int) : Bool := canB a b c d e f g h r && (plB a b c d e f g h r || (List.range 9).any fun i => btB a b c d e f g h r (i : Int))
theorem mix_S40 {i a c : Int} (hi : 0 ≤ i ∧ i ≤ 8) (ha : Far a) (hc : Far c) : S40 (mixI i a c) := by
  unfold Far at ha hc
  have b1 := mul_bounds (x := a) (y := 8 - i) (B := 1073741824) (by omega) (by omega) (by omega) (by omega)
  have b2 := mul_bounds (x := c) (y := i) (B := 1073741824) (by omega) (by omega) (by omega) (by omega)
  have h1 : -2147483648 ≤ a * (8 - i) ∧ a * (8 - i) ≤ 2147483648 := by
    rcases (show i = 0 ∨ i = 1 ∨ i = 2 ∨ i = 3 ∨ i = 4 ∨ i = 5 ∨ i = 6 ∨ i = 7 ∨ i = 8 by omega) with rfl | rfl | rfl | rfl | rfl | rfl | rfl | rfl | rfl <;> omega
  have h2 : -2147483648 ≤ c * i ∧ c * i ≤ 2147483648 := by
    rcases (show i = 0 ∨ i = 1 ∨ i = 2 ∨ i = 3 ∨ i = 4 ∨ i = 5 ∨ i = 6 ∨ i = 7 ∨ i = 8 by omega) with rfl | rfl | rfl | rfl | rfl | rfl | rfl | rfl | rfl <;> omega
  unfold mixI S40; omega
theorem Hits_any (a b c d e f g h r : Int) (w : World) : Calls Try.prog 25 #[.agg #[.int .i64 a, .int .i64 b, .int .i64 c, .int .i64 d], .agg #[.int .i64 e, .int .i64 f, .int .i64 g, .int .i64 h], .int .i64 r] w (Gives (.bool (hitsB a b c d e f g h r)) w) := by
  have CM := Go.Lib.hid (fun W => canMeet_any a b c d e f g h r W)
  unfold hitsB
  cases hc : canB a b c d e f g h r
  · rw [hc] at CM
    exact Hits_wn a b c d e f g h r w CM
  rw [hc] at CM
  have hc2 := hc
  unfold canB at hc2
  simp only [Bool.and_eq_true, beq_iff_eq] at hc2
  obtain ⟨⟨hA, hB⟩, hr⟩ := hc2
  obtain ⟨fa, fb, fc, fd⟩ := chkA_far hA
  obtain ⟨fe, ff, fg, fh⟩ := chkA_far hB
  have hr' : 0 ≤ r ∧ r ≤ 268435456 := by unfold radB at hr; simpa using hr
  obtain ⟨r0, r1⟩ := hr'
  have P1 := Go.Lib.hid (fun W => isPlace_any a b c d W)
  have P2 := Go.Lib.hid (fun W => isPlace_any e f g h W)
  have WI := fun W => within_any a c e g r W fa fc fe fg r0 (by omega)
  rw [Bool.true_and]
  cases hp : plB a b c d e f g h r
  · have hq : ((a == b && c == d) && (e == f && g == h) && withinB a c e g r) = false := hp
    have S8 : S40 (8 * r) := by unfold S40; omega
    have BT := fun (i : Int) (hi : 0 ≤ i ∧ i ≤ 8) W => areaBetween_any a b c d e f g h i W hi fa fb fc fd fe ff fg fh
    have AN := fun (i : Int) (hi : 0 ≤ i ∧ i ≤ 8) W => allNear_any (mixI i a e) (mixI i b f) (mixI i c g) (mixI i d h) (8 * r) W (mix_S40 hi fa fe) (mix_S40 hi fb ff) (mix_S40 hi fc fg) (mix_S40 hi fd fh) S8
    rw [Bool.false_or]
    simp only [show List.range 9 = [0, 1, 2, 3, 4, 5, 6, 7, 8] from rfl, List.any_cons, List.any_nil, Bool.or_false]
    simp only [show ((0 : Nat) : Int) = 0 from rfl, show ((1 : Nat) : Int) = 1 from rfl, show ((2 : Nat) : Int) = 2 from rfl, show ((3 : Nat) : Int) = 3 from rfl, show ((4 : Nat) : Int) = 4 from rfl, show ((5 : Nat) : Int) = 5 from rfl, show ((6 : Nat) : Int) = 6 from rfl, show ((7 : Nat) : Int) = 7 from rfl, show ((8 : Nat) : Int) = 8 from rfl]
    have T0 := AN 0 (by decide)
    cases h0 : btB a b c d e f g h r 0
    rotate_left
    · rw [show allB (mixI 0 a e) (mixI 0 b f) (mixI 0 c g) (mixI 0 d h) (8 * r) = true from h0] at T0
      simp only [Bool.true_or]
      exact Hits_w0 a b c d e f g h r (8 * r) (mixI 0 a e) (mixI 0 b f) (mixI 0 c g) (mixI 0 d h) _ _ _ w CM P1 P2 WI hq (BT 0 (by decide)) T0 rfl r0 r1
    rw [show allB (mixI 0 a e) (mixI 0 b f) (mixI 0 c g) (mixI 0 d h) (8 * r) = false from h0] at T0
    have T1 := AN 1 (by decide)
    cases h1 : btB a b c d e f g h r 1
    rotate_left
    · rw [show allB (mixI 1 a e) (mixI 1 b f) (mixI 1 c g) (mixI 1 d h) (8 * r) = true from h1] at T1
      simp only [Bool.true_or, Bool.or_true]
      exact Hits_w1 a b c d e f g h r (8 * r) (mixI 0 a e) (mixI 0 b f) (mixI 0 c g) (mixI 0 d h) (mixI 1 a e) (mixI 1 b f) (mixI 1 c g) (mixI 1 d h) _ _ _ w CM P1 P2 WI hq (BT 0 (by decide)) T0 (BT 1 (by decide)) T1 rfl r0 r1
    rw [show allB (mixI 1 a e) (mixI 1 b f) (mixI 1 c g) (mixI 1 d h) (8 * r) = false from h1] at T1
    have T2 := AN 2 (by decide)
    cases h2 : btB a b c d e f g h r 2
    rotate_left
    · rw [show allB (mixI 2 a e) (mixI 2 b f) (mixI 2 c g) (mixI 2 d h) (8 * r) = true from h2] at T2
      simp only [Bool.true_or, Bool.or_true]
      exact Hits_w2 a b c d e f g h r (8 * r) (mixI 0 a e) (mixI 0 b f) (mixI 0 c g) (mixI 0 d h) (mixI 1 a e) (mixI 1 b f) (mixI 1 c g) (mixI 1 d h) (mixI 2 a e) (mixI 2 b f) (mixI 2 c g) (mixI 2 d h) _ _ _ w CM P1 P2 WI hq (BT 0 (by decide)) T0 (BT 1 (by decide)) T1 (BT 2 (by decide)) T2 rfl r0 r1
    rw [show allB (mixI 2 a e) (mixI 2 b f) (mixI 2 c g) (mixI 2 d h) (8 * r) = false from h2] at T2
    have T3 := AN 3 (by decide)
    cases h3 : btB a b c d e f g h r 3
    rotate_left
    · rw [show allB (mixI 3 a e) (mixI 3 b f) (mixI 3 c g) (mixI 3 d h) (8 * r) = true from h3] at T3
      simp only [Bool.true_or, Bool.or_true]
      exact Hits_w3 a b c d e f g h r (8 * r) (mixI 0 a e) (mixI 0 b f) (mixI 0 c g) (mixI 0 d h) (mixI 1 a e) (mixI 1 b f) (mixI 1 c g) (mixI 1 d h) (mixI 2 a e) (mixI 2 b f) (mixI 2 c g) (mixI 2 d h) (mixI 3 a e) (mixI 3 b f) (mixI 3 c g) (mixI 3 d h) _ _ _ w CM P1 P2 WI hq (BT 0 (by decide)) T0 (BT 1 (by decide)) T1 (BT 2 (by decide)) T2 (BT 3 (by decide)) T3 rfl r0 r1
    rw [show allB (mixI 3 a e) (mixI 3 b f) (mixI 3 c g) (mixI 3 d h) (8 * r) = false from h3] at T3
    have T4 := AN 4 (by decide)
    cases h4 : btB a b c d e f g h r 4
    rotate_left
    · rw [show allB (mixI 4 a e) (mixI 4 b f) (mixI 4 c g) (mixI 4 d h) (8 * r) = true from h4] at T4
      simp only [Bool.true_or, Bool.or_true]
      exact Hits_w4 a b c d e f g h r (8 * r) (mixI 0 a e) (mixI 0 b f) (mixI 0 c g) (mixI 0 d h) (mixI 1 a e) (mixI 1 b f) (mixI 1 c g) (mixI 1 d h) (mixI 2 a e) (mixI 2 b f) (mixI 2 c g) (mixI 2 d h) (mixI 3 a e) (mixI 3 b f) (mixI 3 c g) (mixI 3 d h) (mixI 4 a e) (mixI 4 b f) (mixI 4 c g) (mixI 4 d h) _ _ _ w CM P1 P2 WI hq (BT 0 (by decide)) T0 (BT 1 (by decide)) T1 (BT 2 (by decide)) T2 (BT 3 (by decide)) T3 (BT 4 (by decide)) T4 rfl r0 r1
    rw [show allB (mixI 4 a e) (mixI 4 b f) (mixI 4 c g) (mixI 4 d h) (8 * r) = false from h4] at T4
    have T5 := AN 5 (by decide)
    cases h5 : btB a b c d e f g h r 5
    rotate_left
    · rw [show allB (mixI 5 a e) (mixI 5 b f) (mixI 5 c g) (mixI 5 d h) (8 * r) = true from h5] at T5
      simp only [Bool.true_or, Bool.or_true]
      exact Hits_w5 a b c d e f g h r (8 * r) (mixI 0 a e) (mixI 0 b f) (mixI 0 c g) (mixI 0 d h) (mixI 1 a e) (mixI 1 b f) (mixI 1 c g) (mixI 1 d h) (mixI 2 a e) (mixI 2 b f) (mixI 2 c g) (mixI 2 d h) (mixI 3 a e) (mixI 3 b f) (mixI 3 c g) (mixI 3 d h) (mixI 4 a e) (mixI 4 b f) (mixI 4 c g) (mixI 4 d h) (mixI 5 a e) (mixI 5 b f) (mixI 5 c g) (mixI 5 d h) _ _ _ w CM P1 P2 WI hq (BT 0 (by decide)) T0 (BT 1 (by decide)) T1 (BT 2 (by decide)) T2 (BT 3 (by decide)) T3 (BT 4 (by decide)) T4 (BT 5 (by decide)) T5 rfl r0 r1
    rw [show allB (mixI 5 a e) (mixI 5 b f) (mixI 5 c g) (mixI 5 d h) (8 * r) = false from h5] at T5
    have T6 := AN 6 (by decide)
    cases h6 : btB a b c d e f g h r 6
    rotate_left
    · rw [show allB (mixI 6 a e) (mixI 6 b f) (mixI 6 c g) (mixI 6 d h) (8 * r) = true from h6] at T6
      simp only [Bool.true_or, Bool.or_true]
      exact Hits_w6 a b c d e f g h r (8 * r) (mixI 0 a e) (mixI 0 b f) (mixI 0 c g) (mixI 0 d h) (mixI 1 a e) (mixI 1 b f) (mixI 1 c g) (mixI 1 d h) (mixI 2 a e) (mixI 2 b f) (mixI 2 c g) (mixI 2 d h) (mixI 3 a e) (mixI 3 b f) (mixI 3 c g) (mixI 3 d h) (mixI 4 a e) (mixI 4 b f) (mixI 4 c g) (mixI 4 d h) (mixI 5 a e) (mixI 5 b f) (mixI 5 c g) (mixI 5 d h) (mixI 6 a e) (mixI 6 b f) (mixI 6 c g) (mixI 6 d h) _ _ _ w CM P1 P2 WI hq (BT 0 (by decide)) T0 (BT 1 (by decide)) T1 (BT 2 (by decide)) T2 (BT 3 (by decide)) T3 (BT 4 (by decide)) T4 (BT 5 (by decide)) T5 (BT 6 (by decide)) T6 rfl r0 r1
    rw [show allB (mixI 6 a e) (mixI 6 b f) (mixI 6 c g) (mixI 6 d h) (8 * r) = false from h6] at T6
    have T7 := AN 7 (by decide)
    cases h7 : btB a b c d e f g h r 7
    rotate_left
    · rw [show allB (mixI 7 a e) (mixI 7 b f) (mixI 7 c g) (mixI 7 d h) (8 * r) = true from h7] at T7
      simp only [Bool.true_or, Bool.or_true]
      exact Hits_w7 a b c d e f g h r (8 * r) (mixI 0 a e) (mixI 0 b f) (mixI 0 c g) (mixI 0 d h) (mixI 1 a e) (mixI 1 b f) (mixI 1 c g) (mixI 1 d h) (mixI 2 a e) (mixI 2 b f) (mixI 2 c g) (mixI 2 d h) (mixI 3 a e) (mixI 3 b f) (mixI 3 c g) (mixI 3 d h) (mixI 4 a e) (mixI 4 b f) (mixI 4 c g) (mixI 4 d h) (mixI 5 a e) (mixI 5 b f) (mixI 5 c g) (mixI 5 d h) (mixI 6 a e) (mixI 6 b f) (mixI 6 c g) (mixI 6 d h) (mixI 7 a e) (mixI 7 b f) (mixI 7 c g) (mixI 7 d h) _ _ _ w CM P1 P2 WI hq (BT 0 (by decide)) T0 (BT 1 (by decide)) T1 (BT 2 (by decide)) T2 (BT 3 (by decide)) T3 (BT 4 (by decide)) T4 (BT 5 (by decide)) T5 (BT 6 (by decide)) T6 (BT 7 (by decide)) T7 rfl r0 r1
    rw [show allB (mixI 7 a e) (mixI 7 b f) (mixI 7 c g) (mixI 7 d h) (8 * r) = false from h7] at T7
    have T8 := AN 8 (by decide)
    cases h8 : btB a b c d e f g h r 8
    rotate_left
    · rw [show allB (mixI 8 a e) (mixI 8 b f) (mixI 8 c g) (mixI 8 d h) (8 * r) = true from h8] at T8
      simp only [Bool.or_true]
      exact Hits_w8 a b c d e f g h r (8 * r) (mixI 0 a e) (mixI 0 b f) (mixI 0 c g) (mixI 0 d h) (mixI 1 a e) (mixI 1 b f) (mixI 1 c g) (mixI 1 d h) (mixI 2 a e) (mixI 2 b f) (mixI 2 c g) (mixI 2 d h) (mixI 3 a e) (mixI 3 b f) (mixI 3 c g) (mixI 3 d h) (mixI 4 a e) (mixI 4 b f) (mixI 4 c g) (mixI 4 d h) (mixI 5 a e) (mixI 5 b f) (mixI 5 c g) (mixI 5 d h) (mixI 6 a e) (mixI 6 b f) (mixI 6 c g) (mixI 6 d h) (mixI 7 a e) (mixI 7 b f) (mixI 7 c g) (mixI 7 d h) (mixI 8 a e) (mixI 8 b f) (mixI 8 c g) (mixI 8 d h) _ _ _ w CM P1 P2 WI hq (BT 0 (by decide)) T0 (BT 1 (by decide)) T1 (BT 2 (by decide)) T2 (BT 3 (by decide)) T3 (BT 4 (by decide)) T4 (BT 5 (by decide)) T5 (BT 6 (by decide)) T6 (BT 7 (by decide)) T7 (BT 8 (by decide)) T8 rfl r0 r1
    rw [show allB (mixI 8 a e) (mixI 8 b f) (mixI 8 c g) (mixI 8 d h) (8 * r) = false from h8] at T8
    simp only [Bool.or_self]
    exact Hits_w9 a b c d e f g h r (8 * r) (mixI 0 a e) (mixI 0 b f) (mixI 0 c g) (mixI 0 d h) (mixI 1 a e) (mixI 1 b f) (mixI 1 c g) (mixI 1 d h) (mixI 2 a e) (mixI 2 b f) (mixI 2 c g) (mixI 2 d h) (mixI 3 a e) (mixI 3 b f) (mixI 3 c g) (mixI 3 d h) (mixI 4 a e) (mixI 4 b f) (mixI 4 c g) (mixI 4 d h) (mixI 5 a e) (mixI 5 b f) (mixI 5 c g) (mixI 5 d h) (mixI 6 a e) (mixI 6 b f) (mixI 6 c g) (mixI 6 d h) (mixI 7 a e) (mixI 7 b f) (mixI 7 c g) (mixI 7 d h) (mixI 8 a e) (mixI 8 b f) (mixI 8 c g) (mixI 8 d h) _ _ _ w CM P1 P2 WI hq (BT 0 (by decide)) T0 (BT 1 (by decide)) T1 (BT 2 (by decide)) T2 (BT 3 (by decide)) T3 (BT 4 (by decide)) T4 (BT 5 (by decide)) T5 (BT 6 (by decide)) T6 (BT 7 (by decide)) T7 (BT 8 (by decide)) T8 rfl r0 r1
  · rw [Bool.true_or]
    have hq := hp
    unfold plB at hq
    simp only [Bool.and_eq_true] at hq
    obtain ⟨⟨q1, q2⟩, q3⟩ := hq
    have e1 : (a == b && c == d) = true := by simpa using q1
    have e2 : (e == f && g == h) = true := by simpa using q2
    rw [e1] at P1; rw [e2] at P2; rw [q3] at WI
    exact Hits_wp a b c d e f g h r w CM P1 P2 WI
end Go.Proofs.Ytagfhekjmkdjkaa

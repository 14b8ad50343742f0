/- SpanRounds: the quotient of a product is rounded down and up; the square of a root is at most the number, that of the next one is greater. No condition. -/
import Derived.Test.YtnhdepdbggcnpaaLaw
import Derived.Test.YtnhdepdbggcnpaaAwake
import Derived.Test.YtnhdepdbggcnpaaKit
import Derived.Test.YtnhdepdbggcnpaaMulDiv
import Derived.Test.YtnhdepdbggcnpaaRoots
namespace Go.Proofs.Ytnhdepdbggcnpaa
open Go.ChangeShapes Go.WideShapes Go.ChangeAt Go.RowKit Go.Joins
attribute [local go_sem] Ext.cell Ext.frozen Ext.lt Ext.le Ext.lt_add Ext.le_add Ext.ne Ext.ne' lt2 lt3 lt4 lt5 le2 le3 le4
theorem okP_small {n c : Int} (hn : 0 ≤ n) (hc : 0 < c) (hb : n ≤ 1152921504606846976) : okP n c = true := by
  have h := cei_eq (n := n) hc
  have h1 := Int.emod_add_mul_ediv n c
  have h2 := Int.emod_nonneg n (b := c) (by omega)
  have hq : 0 ≤ n / c := Int.ediv_nonneg hn (by omega)
  have h3 : n / c ≤ c * (n / c) := by
    have := Int.mul_le_mul_of_nonneg_right (show 1 ≤ c by omega) hq
    omega
  unfold okP
  simp only [decide_eq_true_eq]
  split at h <;> omega
theorem ov_spec {n c : Int} (hc : c ≠ 0) (h1 : -1152921504606846976 ≤ n) (h2 : n ≤ 1152921504606846976) : ovB n c = true ∧ ovD n c = ovN n c / ovC c ∧ ovU n c = cei (ovN n c) (ovC c) ∧ 0 < ovC c := by
  have c0 : 0 < ovC c := by unfold ovC; split <;> omega
  have b1 : -1152921504606846976 ≤ ovN n c ∧ ovN n c ≤ 1152921504606846976 := by unfold ovN; split <;> omega
  unfold ovB ovD ovU
  generalize ovN n c = m at *
  generalize ovC c = k at *
  split
  · rename_i hm
    have ok := okP_small hm c0 b1.2
    unfold downP upP
    rw [ok]
    exact ⟨rfl, by simp, by simp, c0⟩
  · rename_i hm
    have ok := okP_small (n := -m) (by omega) c0 (by omega)
    unfold downP upP
    rw [ok]
    refine ⟨rfl, ?_, ?_, c0⟩
    · simp only [if_true]; unfold cei; rw [show - -m = m by omega]; omega
    · simp only [if_true]; unfold cei; rfl
theorem round_facts {p c : Int} (hc : 0 < c) : c * (p / c) ≤ p ∧ p < c * (p / c + 1) ∧ p ≤ c * cei p c ∧ c * (cei p c - 1) < p ∧ (p % c = 0 ↔ p / c = cei p c) := by
  have h := cei_eq (n := p) hc
  have h1 := Int.emod_add_mul_ediv p c
  have h2 := Int.emod_nonneg p (b := c) (by omega)
  have h3 := Int.emod_lt_of_pos p hc
  have e1 : c * (p / c + 1) = c * (p / c) + c := by grind
  have e2 : c * (p / c + 1 - 1) = c * (p / c) := by grind
  have e3 : c * (p / c - 1) = c * (p / c) - c := by grind
  rw [h]
  split
  · rw [e1, e2]; refine ⟨by omega, by omega, by omega, by omega, by omega⟩
  · simp only [Int.add_zero]; rw [e1, e3]; refine ⟨by omega, by omega, by omega, by omega, ⟨fun _ => trivial, fun _ => by omega⟩⟩
set_option maxHeartbeats 2000000 in
theorem SpanRounds_walk (a0 b0 c0 n0 ra rb rc a b c A C p lo hi n r : Int) (eq : Bool) (w : World)
    (R1 : Hid (∀ W, Calls Try.prog 15 #[.int .i64 a0, .int .i64 2000001] W (Gives (.int .i64 ra) W)))
    (R2 : Hid (∀ W, Calls Try.prog 15 #[.int .i64 b0, .int .i64 2000001] W (Gives (.int .i64 rb) W)))
    (R3 : Hid (∀ W, Calls Try.prog 15 #[.int .i64 c0, .int .i64 200001] W (Gives (.int .i64 rc) W)))
    (R4 : Hid (∀ W, Calls Try.prog 15 #[.int .i64 n0, .int .i64 1152921504606846976] W (Gives (.int .i64 n) W)))
    (RT : Hid (∀ W, Calls Try.prog 26 #[.int .i64 n] W (Gives (.int .i64 r) W)))
    (MD : Hid (∀ W, Calls Try.prog 25 #[.int .i64 a, .int .i64 b, .int .i64 c] W (Gives (.tuple #[.int .i64 lo, .int .i64 hi, .int .i64 0]) W)))
    (ea : Hid (-1000000 + ra = a)) (eb : Hid (-1000000 + rb = b)) (ec : Hid (-100000 + rc = c))
    (ba1 : 0 ≤ ra) (ba2 : ra < 2000001) (bb1 : 0 ≤ rb) (bb2 : rb < 2000001) (bc1 : 0 ≤ rc) (bc2 : rc < 200001)
    (hs : c < 0 ∧ A = -a ∧ C = -c ∨ 0 < c ∧ A = a ∧ C = c) (hp : Hid (A * b = p)) (p1 : -1000000000000 ≤ p) (p2 : p ≤ 1000000000000)
    (l1 : C * lo ≤ p) (l2 : p < C * (lo + 1)) (u1 : p ≤ C * hi) (u2 : C * (hi - 1) < p) (l3 : -2000000000000 ≤ C * lo) (l4 : C * (lo + 1) ≤ 2000000000000) (u3 : C * hi ≤ 2000000000000) (u4 : -2000000000000 ≤ C * (hi - 1))
    (lo1 : -1000000000000 ≤ lo) (lo2 : lo ≤ 1000000000000) (hi1 : -1000000000000 ≤ hi) (hi2 : hi ≤ 1000000000000)
    (q1 : (lo == hi) = eq) (q2 : (p.tmod c == 0) = eq) (q3 : -100000 ≤ p.tmod c) (q4 : p.tmod c ≤ 100000)
    (_n1 : 0 ≤ n) (_n2 : n < 1152921504606846976) (r1 : 0 ≤ r) (r2 : r ≤ 1073741824) (r3 : r * r ≤ n) (r4 : n < (r + 1) * (r + 1)) (r5 : 0 ≤ r * r) (r6 : (r + 1) * (r + 1) ≤ 2000000000000000000) :
    Calls Try.prog 6 #[.int .i64 a0, .int .i64 b0, .int .i64 c0, .int .i64 n0] w (Gives (.bool true) w) := by
  rcases hs with ⟨hs, rfl, rfl⟩ | ⟨hs, rfl, rfl⟩
  · have ea' := ea.out; have eb' := eb.out; have ec' := ec.out; have hp' := hp.out
    go_enter Try.func6, Try.ntmps6
    go_wp2_with (first | ((first | with_reducible refine wp_region_ext2 (by kernel_rfl) (by kernel_rfl) ?_ | with_reducible refine wp_region_ext (by kernel_rfl) (by kernel_rfl) ?_); (repeat (first | go_big_quiet_step ((first | (go_at_call 15; with_reducible exact Calls.ext (R1.out _)) | (go_at_call 15; with_reducible exact Calls.ext (R2.out _)) | (go_at_call 15; with_reducible exact Calls.ext (R3.out _)) | (go_at_call 25; with_reducible exact Calls.ext (MD.out _)) | (go_at_call 15; with_reducible exact Calls.ext (R4.out _)) | (go_at_call 26; with_reducible exact Calls.ext (RT.out _)) | (go_at_call 11; with_reducible exact Calls.ext (awake_any _)))) | quiet_step ((first | (go_at_call 15; with_reducible exact Calls.ext (R1.out _)) | (go_at_call 15; with_reducible exact Calls.ext (R2.out _)) | (go_at_call 15; with_reducible exact Calls.ext (R3.out _)) | (go_at_call 25; with_reducible exact Calls.ext (MD.out _)) | (go_at_call 15; with_reducible exact Calls.ext (R4.out _)) | (go_at_call 26; with_reducible exact Calls.ext (RT.out _)) | (go_at_call 11; with_reducible exact Calls.ext (awake_any _)))))); refine wpQuiet_nil ?_; rintro _ ⟨yr, rfl⟩; have syr := Ext.size yr; (repeat (first | rw [World.size_alloc] at syr | rw [World.size_setCell] at syr | rw [World.size_drew] at syr))) | (go_at_call 15; (first | with_reducible refine (Calls.giv2 (R1.out _)).mono ?_ | with_reducible refine (Calls.giv (R1.out _)).mono ?_); rintro _ _ ⟨y1, rfl, rfl⟩; have sy1 := Ext.size y1; (repeat (first | rw [World.size_alloc] at sy1 | rw [World.size_setCell] at sy1 | rw [World.size_drew] at sy1))) | (go_at_call 15; (first | with_reducible refine (Calls.giv2 (R2.out _)).mono ?_ | with_reducible refine (Calls.giv (R2.out _)).mono ?_); rintro _ _ ⟨y2, rfl, rfl⟩; have sy2 := Ext.size y2; (repeat (first | rw [World.size_alloc] at sy2 | rw [World.size_setCell] at sy2 | rw [World.size_drew] at sy2))) | (go_at_call 15; (first | with_reducible refine (Calls.giv2 (R3.out _)).mono ?_ | with_reducible refine (Calls.giv (R3.out _)).mono ?_); rintro _ _ ⟨y3, rfl, rfl⟩; have sy3 := Ext.size y3; (repeat (first | rw [World.size_alloc] at sy3 | rw [World.size_setCell] at sy3 | rw [World.size_drew] at sy3))) | (go_at_call 25; (first | with_reducible refine (Calls.giv2 (MD.out _)).mono ?_ | with_reducible refine (Calls.giv (MD.out _)).mono ?_); rintro _ _ ⟨y4, rfl, rfl⟩; have sy4 := Ext.size y4; (repeat (first | rw [World.size_alloc] at sy4 | rw [World.size_setCell] at sy4 | rw [World.size_drew] at sy4))) | (go_at_call 15; (first | with_reducible refine (Calls.giv2 (R4.out _)).mono ?_ | with_reducible refine (Calls.giv (R4.out _)).mono ?_); rintro _ _ ⟨y5, rfl, rfl⟩; have sy5 := Ext.size y5; (repeat (first | rw [World.size_alloc] at sy5 | rw [World.size_setCell] at sy5 | rw [World.size_drew] at sy5))) | (go_at_call 26; (first | with_reducible refine (Calls.giv2 (RT.out _)).mono ?_ | with_reducible refine (Calls.giv (RT.out _)).mono ?_); rintro _ _ ⟨y6, rfl, rfl⟩; have sy6 := Ext.size y6; (repeat (first | rw [World.size_alloc] at sy6 | rw [World.size_setCell] at sy6 | rw [World.size_drew] at sy6))) | (go_at_call 11; (first | with_reducible refine (Calls.giv2 (awake_any _)).mono ?_ | with_reducible refine (Calls.giv (awake_any _)).mono ?_); rintro _ _ ⟨y7, rfl, rfl⟩; have sy7 := Ext.size y7; (repeat (first | rw [World.size_alloc] at sy7 | rw [World.size_setCell] at sy7 | rw [World.size_drew] at sy7))))
    go_returns
    refine ⟨rfl, ?_⟩
    repeat' (first | (with_reducible exact Below.refl _ _) | (with_reducible assumption) | (with_reducible refine Ext.below _ ?_ ?_) | (with_reducible refine Below.on ?_ (by with_reducible assumption) ?_) | (with_reducible refine Below.alloc ?_ ?_ _) | (with_reducible refine Below.drew ?_) | (with_reducible refine Below.setCell ?_ ?_ _) | (with_reducible exact Nat.le_refl _) | omega | (simp; done) | (simp [go_sem]; done) | (simp at *; omega))
  · have ea' := ea.out; have eb' := eb.out; have ec' := ec.out; have hp' := hp.out
    go_enter Try.func6, Try.ntmps6
    go_wp2_with (first | ((first | with_reducible refine wp_region_ext2 (by kernel_rfl) (by kernel_rfl) ?_ | with_reducible refine wp_region_ext (by kernel_rfl) (by kernel_rfl) ?_); (repeat (first | go_big_quiet_step ((first | (go_at_call 15; with_reducible exact Calls.ext (R1.out _)) | (go_at_call 15; with_reducible exact Calls.ext (R2.out _)) | (go_at_call 15; with_reducible exact Calls.ext (R3.out _)) | (go_at_call 25; with_reducible exact Calls.ext (MD.out _)) | (go_at_call 15; with_reducible exact Calls.ext (R4.out _)) | (go_at_call 26; with_reducible exact Calls.ext (RT.out _)) | (go_at_call 11; with_reducible exact Calls.ext (awake_any _)))) | quiet_step ((first | (go_at_call 15; with_reducible exact Calls.ext (R1.out _)) | (go_at_call 15; with_reducible exact Calls.ext (R2.out _)) | (go_at_call 15; with_reducible exact Calls.ext (R3.out _)) | (go_at_call 25; with_reducible exact Calls.ext (MD.out _)) | (go_at_call 15; with_reducible exact Calls.ext (R4.out _)) | (go_at_call 26; with_reducible exact Calls.ext (RT.out _)) | (go_at_call 11; with_reducible exact Calls.ext (awake_any _)))))); refine wpQuiet_nil ?_; rintro _ ⟨yr, rfl⟩; have syr := Ext.size yr; (repeat (first | rw [World.size_alloc] at syr | rw [World.size_setCell] at syr | rw [World.size_drew] at syr))) | (go_at_call 15; (first | with_reducible refine (Calls.giv2 (R1.out _)).mono ?_ | with_reducible refine (Calls.giv (R1.out _)).mono ?_); rintro _ _ ⟨y1, rfl, rfl⟩; have sy1 := Ext.size y1; (repeat (first | rw [World.size_alloc] at sy1 | rw [World.size_setCell] at sy1 | rw [World.size_drew] at sy1))) | (go_at_call 15; (first | with_reducible refine (Calls.giv2 (R2.out _)).mono ?_ | with_reducible refine (Calls.giv (R2.out _)).mono ?_); rintro _ _ ⟨y2, rfl, rfl⟩; have sy2 := Ext.size y2; (repeat (first | rw [World.size_alloc] at sy2 | rw [World.size_setCell] at sy2 | rw [World.size_drew] at sy2))) | (go_at_call 15; (first | with_reducible refine (Calls.giv2 (R3.out _)).mono ?_ | with_reducible refine (Calls.giv (R3.out _)).mono ?_); rintro _ _ ⟨y3, rfl, rfl⟩; have sy3 := Ext.size y3; (repeat (first | rw [World.size_alloc] at sy3 | rw [World.size_setCell] at sy3 | rw [World.size_drew] at sy3))) | (go_at_call 25; (first | with_reducible refine (Calls.giv2 (MD.out _)).mono ?_ | with_reducible refine (Calls.giv (MD.out _)).mono ?_); rintro _ _ ⟨y4, rfl, rfl⟩; have sy4 := Ext.size y4; (repeat (first | rw [World.size_alloc] at sy4 | rw [World.size_setCell] at sy4 | rw [World.size_drew] at sy4))) | (go_at_call 15; (first | with_reducible refine (Calls.giv2 (R4.out _)).mono ?_ | with_reducible refine (Calls.giv (R4.out _)).mono ?_); rintro _ _ ⟨y5, rfl, rfl⟩; have sy5 := Ext.size y5; (repeat (first | rw [World.size_alloc] at sy5 | rw [World.size_setCell] at sy5 | rw [World.size_drew] at sy5))) | (go_at_call 26; (first | with_reducible refine (Calls.giv2 (RT.out _)).mono ?_ | with_reducible refine (Calls.giv (RT.out _)).mono ?_); rintro _ _ ⟨y6, rfl, rfl⟩; have sy6 := Ext.size y6; (repeat (first | rw [World.size_alloc] at sy6 | rw [World.size_setCell] at sy6 | rw [World.size_drew] at sy6))) | (go_at_call 11; (first | with_reducible refine (Calls.giv2 (awake_any _)).mono ?_ | with_reducible refine (Calls.giv (awake_any _)).mono ?_); rintro _ _ ⟨y7, rfl, rfl⟩; have sy7 := Ext.size y7; (repeat (first | rw [World.size_alloc] at sy7 | rw [World.size_setCell] at sy7 | rw [World.size_drew] at sy7))))
    go_returns
    refine ⟨rfl, ?_⟩
    repeat' (first | (with_reducible exact Below.refl _ _) | (with_reducible assumption) | (with_reducible refine Ext.below _ ?_ ?_) | (with_reducible refine Below.on ?_ (by with_reducible assumption) ?_) | (with_reducible refine Below.alloc ?_ ?_ _) | (with_reducible refine Below.drew ?_) | (with_reducible refine Below.setCell ?_ ?_ _) | (with_reducible exact Nat.le_refl _) | omega | (simp; done) | (simp [go_sem]; done) | (simp at *; omega))
theorem tmod_iff {p c : Int} : p.tmod c = 0 ↔ p % c = 0 := by
  rw [← Int.dvd_iff_tmod_eq_zero, ← Int.dvd_iff_emod_eq_zero]
theorem SpanRounds_any (a0 b0 c0 n0 : Int) (w : World) (ha : I64 a0) (hb : I64 b0) (hc : I64 c0) (hn : I64 n0) : Calls Try.prog 6 #[.int .i64 a0, .int .i64 b0, .int .i64 c0, .int .i64 n0] w (Gives (.bool true) w) := by
  have ra1 := Int.emod_nonneg a0 (b := 2000001) (by decide); have ra2 := Int.emod_lt_of_pos a0 (b := 2000001) (by decide)
  have rb1 := Int.emod_nonneg b0 (b := 2000001) (by decide); have rb2 := Int.emod_lt_of_pos b0 (b := 2000001) (by decide)
  have rc1 := Int.emod_nonneg c0 (b := 200001) (by decide); have rc2 := Int.emod_lt_of_pos c0 (b := 200001) (by decide)
  have rn1 := Int.emod_nonneg n0 (b := 1152921504606846976) (by decide); have rn2 := Int.emod_lt_of_pos n0 (b := 1152921504606846976) (by decide)
  have R1 := Go.Lib.hid (fun W => Mod64_any a0 2000001 W ha (by decide) (by decide))
  have R2 := Go.Lib.hid (fun W => Mod64_any b0 2000001 W hb (by decide) (by decide))
  have R3 := Go.Lib.hid (fun W => Mod64_any c0 200001 W hc (by decide) (by decide))
  have R4 := Go.Lib.hid (fun W => Mod64_any n0 1152921504606846976 W hn (by decide) (by decide))
  have RT := Go.Lib.hid (fun W => Root_any (n0 % 1152921504606846976) W (by unfold I64; omega))
  obtain ⟨s1, s2, s3⟩ := rootI_spec rn1 (by omega)
  obtain ⟨s4, s5⟩ := rootI_small rn1 (by omega)
  generalize n0 % 1152921504606846976 = n at *
  generalize rootI n = r at *
  generalize a0 % 2000001 = ra at *
  generalize b0 % 2000001 = rb at *
  generalize c0 % 200001 = rc at *
  have A1 : I64 (-1000000 + ra) := by unfold I64; omega
  have B1 : I64 (-1000000 + rb) := by unfold I64; omega
  have MD := fun W => MulDiv_any (-1000000 + ra) (-1000000 + rb) (-100000 + rc) W A1 B1
  obtain ⟨a, ea⟩ : ∃ a, -1000000 + ra = a := ⟨_, rfl⟩
  obtain ⟨b, eb⟩ : ∃ b, -1000000 + rb = b := ⟨_, rfl⟩
  obtain ⟨c, ec⟩ : ∃ c, -100000 + rc = c := ⟨_, rfl⟩
  rw [ea, eb, ec] at MD
  have pb := mul_bounds (x := a) (y := b) (B := 1000000) (by omega) (by omega) (by omega) (by omega)
  simp only [Int.reduceMul, Int.reduceNeg] at pb
  by_cases hc0 : c = 0
  · have e : mdE a b c = 2 := by unfold mdE; rw [if_neg (by simp [hc0])]
    rw [e] at MD
    have HM := Go.Lib.hid MD
    have ea' := ea; have eb' := eb
    subst hc0
    clear MD ha hb hc hn s1 s2 s3 s4 s5 RT R4
    generalize mdL a b 0 = x at *
    generalize mdH a b 0 = y at *
    go_enter Try.func6, Try.ntmps6
    go_wp2_with (first | ((first | with_reducible refine wp_region_ext2 (by kernel_rfl) (by kernel_rfl) ?_ | with_reducible refine wp_region_ext (by kernel_rfl) (by kernel_rfl) ?_); (repeat (first | go_big_quiet_step ((first | (go_at_call 15; with_reducible exact Calls.ext (R1.out _)) | (go_at_call 15; with_reducible exact Calls.ext (R2.out _)) | (go_at_call 15; with_reducible exact Calls.ext (R3.out _)) | (go_at_call 25; with_reducible exact Calls.ext (HM.out _)) | (go_at_call 11; with_reducible exact Calls.ext (awake_any _)))) | quiet_step ((first | (go_at_call 15; with_reducible exact Calls.ext (R1.out _)) | (go_at_call 15; with_reducible exact Calls.ext (R2.out _)) | (go_at_call 15; with_reducible exact Calls.ext (R3.out _)) | (go_at_call 25; with_reducible exact Calls.ext (HM.out _)) | (go_at_call 11; with_reducible exact Calls.ext (awake_any _)))))); refine wpQuiet_nil ?_; rintro _ ⟨yr, rfl⟩; have syr := Ext.size yr; (repeat (first | rw [World.size_alloc] at syr | rw [World.size_setCell] at syr | rw [World.size_drew] at syr))) | (go_at_call 15; (first | with_reducible refine (Calls.giv2 (R1.out _)).mono ?_ | with_reducible refine (Calls.giv (R1.out _)).mono ?_); rintro _ _ ⟨y1, rfl, rfl⟩; have sy1 := Ext.size y1; (repeat (first | rw [World.size_alloc] at sy1 | rw [World.size_setCell] at sy1 | rw [World.size_drew] at sy1))) | (go_at_call 15; (first | with_reducible refine (Calls.giv2 (R2.out _)).mono ?_ | with_reducible refine (Calls.giv (R2.out _)).mono ?_); rintro _ _ ⟨y2, rfl, rfl⟩; have sy2 := Ext.size y2; (repeat (first | rw [World.size_alloc] at sy2 | rw [World.size_setCell] at sy2 | rw [World.size_drew] at sy2))) | (go_at_call 15; (first | with_reducible refine (Calls.giv2 (R3.out _)).mono ?_ | with_reducible refine (Calls.giv (R3.out _)).mono ?_); rintro _ _ ⟨y3, rfl, rfl⟩; have sy3 := Ext.size y3; (repeat (first | rw [World.size_alloc] at sy3 | rw [World.size_setCell] at sy3 | rw [World.size_drew] at sy3))) | (go_at_call 25; (first | with_reducible refine (Calls.giv2 (HM.out _)).mono ?_ | with_reducible refine (Calls.giv (HM.out _)).mono ?_); rintro _ _ ⟨y4, rfl, rfl⟩; have sy4 := Ext.size y4; (repeat (first | rw [World.size_alloc] at sy4 | rw [World.size_setCell] at sy4 | rw [World.size_drew] at sy4))) | (go_at_call 11; (first | with_reducible refine (Calls.giv2 (awake_any _)).mono ?_ | with_reducible refine (Calls.giv (awake_any _)).mono ?_); rintro _ _ ⟨y5, rfl, rfl⟩; have sy5 := Ext.size y5; (repeat (first | rw [World.size_alloc] at sy5 | rw [World.size_setCell] at sy5 | rw [World.size_drew] at sy5))))
    go_returns
    refine ⟨rfl, ?_⟩
    repeat' (first | (with_reducible exact Below.refl _ _) | (with_reducible assumption) | (with_reducible refine Ext.below _ ?_ ?_) | (with_reducible refine Below.on ?_ (by with_reducible assumption) ?_) | (with_reducible refine Below.alloc ?_ ?_ _) | (with_reducible refine Below.drew ?_) | (with_reducible refine Below.setCell ?_ ?_ _) | (with_reducible exact Nat.le_refl _) | omega | (simp; done) | (simp [go_sem]; done) | (simp at *; omega))
  · obtain ⟨o1, o2, o3, o4⟩ := ov_spec (n := a * b) (c := c) hc0 (by omega) (by omega)
    have e : mdE a b c = 0 := by
      have k1 : numB a = true := numB_true.2 (by omega)
      have k2 : numB b = true := numB_true.2 (by omega)
      have k3 : numB c = true := numB_true.2 (by omega)
      unfold mdE; rw [if_pos ⟨k1, k2, k3, hc0⟩, if_pos o1]
    have el : mdL a b c = ovN (a * b) c / ovC c := by unfold mdL; rw [if_pos e, o2]
    have eh : mdH a b c = cei (ovN (a * b) c) (ovC c) := by unfold mdH; rw [if_pos e, o3]
    rw [e, el, eh] at MD
    obtain ⟨A, hA⟩ : ∃ A, (if c < 0 then -a else a) = A := ⟨_, rfl⟩
    have hp : A * b = ovN (a * b) c := by rw [← hA]; unfold ovN; split <;> grind
    have hs : c < 0 ∧ A = -a ∧ ovC c = -c ∨ 0 < c ∧ A = a ∧ ovC c = c := by
      rw [← hA]; unfold ovC; split
      · exact .inl ⟨by omega, rfl, rfl⟩
      · exact .inr ⟨by omega, rfl, rfl⟩
    have pN : -1000000000000 ≤ ovN (a * b) c ∧ ovN (a * b) c ≤ 1000000000000 := by unfold ovN; split <;> omega
    have cB : ovC c ≤ 100000 := by unfold ovC; split <;> omega
    generalize hC : ovC c = C at *
    generalize ovN (a * b) c = p at *
    obtain ⟨f1, f2, f3, f4, f5⟩ := round_facts (p := p) o4
    have g1 := Int.emod_add_mul_ediv p C
    have g2 := Int.emod_nonneg p (b := C) (by omega)
    have g3 := Int.emod_lt_of_pos p o4
    have g4 := cei_eq (n := p) o4
    have k1 : C * (p / C + 1) = C * (p / C) + C := by grind
    have k2 : C * (cei p C) ≤ C * (p / C) + C := by
      rw [g4]; split
      · rw [k1]; omega
      · simp only [Int.add_zero]; omega
    have k3 : C * (cei p C - 1) = C * cei p C - C := by grind
    have lob : -1000000000000 ≤ p / C ∧ p / C ≤ 1000000000000 := by
      constructor
      · rw [Int.le_ediv_iff_mul_le o4]; omega
      · apply Int.le_of_lt_add_one; rw [Int.ediv_lt_iff_lt_mul o4]; omega
    have hib : -1000000000000 ≤ cei p C ∧ cei p C ≤ 1000000000000 := by
      constructor
      · rw [g4]; split <;> omega
      · rcases Int.lt_or_le 1000000000000 (cei p C) with h | h
        · have := Int.mul_le_mul_of_nonneg_left (show (1000000000000 : Int) ≤ cei p C - 1 by omega) (show 0 ≤ C by omega)
          omega
        · exact h
    have tm : p.tmod c = p.tmod C := by
      rcases hs with ⟨_, _, h⟩ | ⟨_, _, h⟩
      · rw [h, Int.tmod_neg]
      · rw [h]
    have tb := tmod_bounds p C o4
    refine SpanRounds_walk a0 b0 c0 n0 ra rb rc a b c A C p (p / C) (cei p C) n r (p / C == cei p C) w R1 R2 R3 R4 RT MD ea eb ec ra1 ra2 rb1 rb2 rc1 rc2 hs hp pN.1 pN.2 f1 f2 f3 f4 (by omega) (by omega) (by omega) (by omega) lob.1 lob.2 hib.1 hib.2 rfl ?_ (by rw [tm]; omega) (by rw [tm]; omega) rn1 rn2 s1 s5 s2 s3 (by have := sq_bounds (x := r) (B := 1073741824) (by omega) s5; omega) (by have := sq_bounds (x := r + 1) (B := 1073741825) (by omega) (by omega); simp only [Int.reduceMul] at this; omega)
    rw [tm, Bool.eq_iff_iff, beq_iff_eq, beq_iff_eq, tmod_iff]
    exact f5
set_option maxRecDepth 100000 in
theorem SpanRounds_lifted (os : Os) (started : os.Started) (H : Type) (enc : TypeId × Value → H) :
    ReturnsInHanded {} Try.checked os 6 .any (Rows.spanRoundsSpec.pre6 enc Try.prog Try.f6 Rows.spanRoundsRow.domain false) (Rows.spanRoundsSpec.post enc Try.prog Try.f6 false true false false) := by
  refine returnsInHanded_of_change (C := Try.checked) own started (by kernel_rfl) Try.func6
    (ChangeSpec.witness6 (enc := enc) (C := Try.checked) false ⟨#[], #[.int .i64 0, .int .i64 0, .int .i64 0, .int .i64 0], []⟩ 8 (by kernel_rfl) (by kernel_rfl) (by kernel_rfl) (by kernel_rfl)) ?_
  intro W base args ds gs before hval0 hW _ _
  have hval : ∀ (j : Nat) t v, Try.f6.params[j]? = some t → args[j]? = some v → Value.okWide Try.prog W .any base t v := hval0
  have hW' := hW
  obtain ⟨p, q, hA0, hV, _, _, _⟩ := hW
  have hA : DataW.TrodAll enc Try.prog W 0 (fun _ => true) true Try.f6.params.toList args.toList ds p := hA0
  rw [Try.params6] at hA hval
  obtain ⟨v0, vs0, d0, ds0, p0, q0, hargs0, rfl, _, h0, r0⟩ := trodAll_cons hA
  obtain ⟨v1, vs1, d1, ds1, p1, q1, hargs1, rfl, _, h1, r1⟩ := trodAll_cons r0
  obtain ⟨v2, vs2, d2, ds2, p2, q2, hargs2, rfl, _, h2, r2⟩ := trodAll_cons r1
  obtain ⟨v3, vs3, d3, ds3, p3, q3, hargs3, rfl, _, h3, r3⟩ := trodAll_cons r2
  obtain ⟨hlast, rfl, _⟩ := trodAll_nil r3
  subst hlast
  subst hargs3
  subst hargs2
  subst hargs1
  obtain rfl : args = #[v0, v1, v2, v3] := by cases args; simp_all
  obtain ⟨rfl, rfl⟩ := trodVars_none hV
  obtain ⟨x0, rfl, hi0⟩ := open_num (P := Try.prog) Try.underlying2 (hval 0 2 v0 rfl rfl)
  obtain ⟨x1, rfl, hi1⟩ := open_num (P := Try.prog) Try.underlying2 (hval 1 2 v1 rfl rfl)
  obtain ⟨x2, rfl, hi2⟩ := open_num (P := Try.prog) Try.underlying2 (hval 2 2 v2 rfl rfl)
  obtain ⟨x3, rfl, hi3⟩ := open_num (P := Try.prog) Try.underlying2 (hval 3 2 v3 rfl rfl)
  exact (SpanRounds_any x0 x1 x2 x3 W hi0 hi1 hi2 hi3).mono fun e W' h => law_post laid_out (by rw [Try.params6]; intro t ht; simp only [List.mem_cons, List.not_mem_nil, or_false] at ht; rcases ht with rfl | rfl | rfl | rfl | rfl | rfl; all_goals exact ⟨by kernel_rfl, by decide +kernel⟩) rfl rfl Try.underlying4 hW' rfl h
/-- The statement. -/
theorem SpanRounds_holds : Rows.SpanRoundsSaid :=
  OpenClaim.holds_of_wide 6 Try.f6 rfl rfl rfl rfl rfl rfl rfl ⟨rfl, rfl, rfl, rfl, rfl⟩ rfl rfl rfl rfl rfl (by kernel_rfl) Try.func6 (by kernel_rfl)
    (of_decide_eq_true (by kernel_rfl)) (by unfold Func.isWrapper; first | (rw [if_pos (by decide +kernel)]; kernel_rfl) | (rw [if_neg (by decide +kernel)]; exact ⟨rfl, rfl⟩))
    (fun os started H enc _ => SpanRounds_lifted os started H enc)
end Go.Proofs.Ytnhdepdbggcnpaa

/- Contract of the reference's Hits. No condition. -/
import Derived.Test.YtagfhekjmkdjkabSureB
import Derived.Test.YtagfhekjmkdjkabCertM
namespace Go.Proofs.Ytagfhekjmkdjkab
open Go.RowKit Go.Shelf
attribute [local go_sem] Ext.cell Ext.frozen Ext.lt Ext.le Ext.lt_add Ext.le_add Ext.ne Ext.ne' lt2 lt3 lt4 lt5 le2 le3 le4
theorem refHits_no (a b c d e f g h r : Int) (w : World) (hk : canB a b c d e f g h r = false) :
    Calls Try.prog 5 #[.agg #[.int .i64 a, .int .i64 b, .int .i64 c, .int .i64 d], .agg #[.int .i64 e, .int .i64 f, .int .i64 g, .int .i64 h], .int .i64 r] w (Gives (.bool false) w) := by
  have SU := Go.Lib.hid (fun W => sure_any a b c d e f g h r W)
  rw [hk] at SU
  go_enter Try.func5, Try.ntmps5
  go_wp2_with (first | ((first | with_reducible refine wp_region_ext2 (by kernel_rfl) (by kernel_rfl) ?_ | with_reducible refine wp_region_ext (by kernel_rfl) (by kernel_rfl) ?_); (repeat (first | go_big_quiet_step ((first | (go_at_call 15; with_reducible exact Calls.ext (SU.out _)))) | quiet_step ((first | (go_at_call 15; with_reducible exact Calls.ext (SU.out _)))))); refine wpQuiet_nil ?_; rintro _ ⟨yr, rfl⟩; have syr := Ext.size yr; (repeat (first | rw [World.size_alloc] at syr | rw [World.size_setCell] at syr | rw [World.size_drew] at syr)); have : w.heap.size < yr.now.heap.size := (by omega); have : w.heap.size ≤ yr.now.heap.size := (by omega); have : w.heap.size < yr.now.heap.size + 1 + 1 := (by omega); have : w.heap.size + 1 < yr.now.heap.size := (by omega); have : w.heap.size + 1 ≤ yr.now.heap.size := (by omega); have : w.heap.size + 1 < yr.now.heap.size + 1 + 1 := (by omega)) | (go_at_call 15; (first | with_reducible refine (Calls.giv2 (SU.out _)).mono ?_ | with_reducible refine (Calls.giv (SU.out _)).mono ?_); rintro _ _ ⟨y1, rfl, rfl⟩; have sy1 := Ext.size y1; (repeat (first | rw [World.size_alloc] at sy1 | rw [World.size_setCell] at sy1 | rw [World.size_drew] at sy1)); have : w.heap.size < y1.now.heap.size := (by omega); have : w.heap.size ≤ y1.now.heap.size := (by omega); have : w.heap.size < y1.now.heap.size + 1 + 1 := (by omega); have : w.heap.size + 1 < y1.now.heap.size := (by omega); have : w.heap.size + 1 ≤ y1.now.heap.size := (by omega); have : w.heap.size + 1 < y1.now.heap.size + 1 + 1 := (by omega)))
  go_returns
  refine ⟨rfl, ?_⟩
  repeat' (first | (with_reducible exact Below.refl _ _) | (with_reducible assumption) | (with_reducible refine Ext.below _ ?_ ?_) | (with_reducible refine Below.on ?_ (by with_reducible assumption) ?_) | (with_reducible refine Below.alloc ?_ ?_ _) | (with_reducible refine Below.drew ?_) | (with_reducible refine Below.setCell ?_ ?_ _) | (with_reducible exact Nat.le_refl _) | omega | (simp; done) | (simp [go_sem]; done) | (simp at *; omega))
theorem mix_lim {i a c : Int} (hi : 0 ≤ i ∧ i ≤ 8) (ha : Far a) (hc : Far c) : -2147483648 ≤ mixI i a c ∧ mixI i a c ≤ 2147483648 := by
  unfold Far at ha hc
  unfold mixI
  have h1 := Int.mul_le_mul_of_nonneg_right ha.1 (show 0 ≤ 8 - i by omega)
  have h2 := Int.mul_le_mul_of_nonneg_right ha.2 (show 0 ≤ 8 - i by omega)
  have h3 := Int.mul_le_mul_of_nonneg_right hc.1 hi.1
  have h4 := Int.mul_le_mul_of_nonneg_right hc.2 hi.1
  omega
set_option maxRecDepth 100000 in
set_option maxHeartbeats 8000000 in
theorem refHits_yes (a b c d e f g h r : Int) (wi V : Bool) (bt : Int → Bool) (w : World)
    (SU : Hid (∀ W, Calls Try.prog 15 #[.agg #[.int .i64 a, .int .i64 b, .int .i64 c, .int .i64 d], .agg #[.int .i64 e, .int .i64 f, .int .i64 g, .int .i64 h], .int .i64 r] W (Gives (.bool true) W)))
    (BX : Hid (∀ i, 0 ≤ i ∧ i ≤ 8 → ∀ W, Calls Try.prog 17 #[.agg #[.int .i64 a, .int .i64 b], .agg #[.int .i64 e, .int .i64 f], .int .i64 i] W (Gives (.agg #[.int .i64 (mixI i a e), .int .i64 (mixI i b f)]) W)))
    (BY : Hid (∀ i, 0 ≤ i ∧ i ≤ 8 → ∀ W, Calls Try.prog 17 #[.agg #[.int .i64 c, .int .i64 d], .agg #[.int .i64 g, .int .i64 h], .int .i64 i] W (Gives (.agg #[.int .i64 (mixI i c g), .int .i64 (mixI i d h)]) W)))
    (AL : Hid (∀ i, 0 ≤ i ∧ i ≤ 8 → ∀ W, Calls Try.prog 16 #[.agg #[.int .i64 (mixI i a e), .int .i64 (mixI i b f), .int .i64 (mixI i c g), .int .i64 (mixI i d h)], .int .i64 r] W (Gives (.bool (bt i)) W)))
    (WI : Hid (∀ W, Calls Try.prog 19 #[.agg #[.int .i64 a, .int .i64 c], .agg #[.int .i64 e, .int .i64 g], .int .i64 r] W (Gives (.bool wi) W)))
    (hV : Hid ((∃ i, (0 ≤ i ∧ i ≤ 8) ∧ bt i = true) → V = true)) (hV2 : Hid ((∀ i, 0 ≤ i ∧ i ≤ 8 → bt i = false) → V = (decide (a = b ∧ c = d) && decide (e = f ∧ g = h) && wi))) :
    Calls Try.prog 5 #[.agg #[.int .i64 a, .int .i64 b, .int .i64 c, .int .i64 d], .agg #[.int .i64 e, .int .i64 f, .int .i64 g, .int .i64 h], .int .i64 r] w (Gives (.bool V) w) := by
  go_enter Try.func5, Try.ntmps5
  go_wp2_with (first | ((first | with_reducible refine wp_region_ext2 (by kernel_rfl) (by kernel_rfl) ?_ | with_reducible refine wp_region_ext (by kernel_rfl) (by kernel_rfl) ?_); (repeat (first | go_big_quiet_step ((first | (go_at_call 15; with_reducible exact Calls.ext (SU.out _)))) | quiet_step ((first | (go_at_call 15; with_reducible exact Calls.ext (SU.out _)))))); refine wpQuiet_nil ?_; rintro _ ⟨yr, rfl⟩; have syr := Ext.size yr; (repeat (first | rw [World.size_alloc] at syr | rw [World.size_setCell] at syr | rw [World.size_drew] at syr)); have : w.heap.size < yr.now.heap.size := (by omega); have : w.heap.size ≤ yr.now.heap.size := (by omega); have : w.heap.size < yr.now.heap.size + 1 + 1 := (by omega); have : w.heap.size + 1 < yr.now.heap.size := (by omega); have : w.heap.size + 1 ≤ yr.now.heap.size := (by omega); have : w.heap.size + 1 < yr.now.heap.size + 1 + 1 := (by omega)) | (go_at_call 15; (first | with_reducible refine (Calls.giv2 (SU.out _)).mono ?_ | with_reducible refine (Calls.giv (SU.out _)).mono ?_); rintro _ _ ⟨y1, rfl, rfl⟩; have sy1 := Ext.size y1; (repeat (first | rw [World.size_alloc] at sy1 | rw [World.size_setCell] at sy1 | rw [World.size_drew] at sy1)); have : w.heap.size < y1.now.heap.size := (by omega); have : w.heap.size ≤ y1.now.heap.size := (by omega); have : w.heap.size < y1.now.heap.size + 1 + 1 := (by omega); have : w.heap.size + 1 < y1.now.heap.size := (by omega); have : w.heap.size + 1 ≤ y1.now.heap.size := (by omega); have : w.heap.size + 1 < y1.now.heap.size + 1 + 1 := (by omega)))
  have hBw : Below w.heap.size w y1.now := by repeat' (first | (with_reducible exact Below.refl _ _) | (with_reducible assumption) | (with_reducible refine Ext.below _ ?_ ?_) | (with_reducible refine Below.on ?_ (by with_reducible assumption) ?_) | (with_reducible refine Below.alloc ?_ ?_ _) | (with_reducible refine Below.drew ?_) | (with_reducible refine Below.setCell ?_ ?_ _) | (with_reducible exact Nat.le_refl _) | omega | (simp; done) | (simp [go_sem]; done) | (simp at *; omega))
  have ys1 := y1.size
  simp only [World.size_alloc] at ys1
  have m0 : y1.now.cell? ⟨w.heap.size, 0, none⟩ = some (.int .i64 a) := by rw [y1.cell (by simp only [World.size_alloc]; omega)]; simp [go_sem]
  have m1 : y1.now.cell? ⟨w.heap.size, 1, none⟩ = some (.int .i64 b) := by rw [y1.cell (by simp only [World.size_alloc]; omega)]; simp [go_sem]
  have m2 : y1.now.cell? ⟨w.heap.size, 2, none⟩ = some (.int .i64 c) := by rw [y1.cell (by simp only [World.size_alloc]; omega)]; simp [go_sem]
  have m3 : y1.now.cell? ⟨w.heap.size, 3, none⟩ = some (.int .i64 d) := by rw [y1.cell (by simp only [World.size_alloc]; omega)]; simp [go_sem]
  have n0 : y1.now.cell? ⟨w.heap.size + 1, 0, none⟩ = some (.int .i64 e) := by rw [y1.cell (by simp only [World.size_alloc]; omega)]; simp [go_sem]
  have n1 : y1.now.cell? ⟨w.heap.size + 1, 1, none⟩ = some (.int .i64 f) := by rw [y1.cell (by simp only [World.size_alloc]; omega)]; simp [go_sem]
  have n2 : y1.now.cell? ⟨w.heap.size + 1, 2, none⟩ = some (.int .i64 g) := by rw [y1.cell (by simp only [World.size_alloc]; omega)]; simp [go_sem]
  have n3 : y1.now.cell? ⟨w.heap.size + 1, 3, none⟩ = some (.int .i64 h) := by rw [y1.cell (by simp only [World.size_alloc]; omega)]; simp [go_sem]
  have s0 : w.heap.size < y1.now.heap.size := by omega
  have s1 : w.heap.size + 1 < y1.now.heap.size := by omega
  generalize y1.now = W0 at *
  clear SU
  go_loopw [7] (fun s W => ∃ (i : Int) (x : Ext W0), s = .int .i64 i ∧ W = x.now ∧ Hid (0 ≤ i ∧ i ≤ 9 ∧ ∀ j, 0 ≤ j ∧ j < i → bt j = false)) (fun s _ => 9 - (intOf s).toNat)
  case atStart => exact ⟨0, ⟨W0, Below.refl _ _⟩, rfl, rfl, Go.Lib.hid ⟨by decide, by decide, fun j hj => by omega⟩⟩
  case round =>
    obtain ⟨i, x, rfl, rfl, hi⟩ := hrel
    have xs := x.size
    have hbx := x.below hBw (by omega)
    by_cases hlt : i ≤ 8
    · have i0 : 0 ≤ i := hi.out.1
      have BX := Go.Lib.hid (BX.out i ⟨i0, hlt⟩); have BY := Go.Lib.hid (BY.out i ⟨i0, hlt⟩); have AL := Go.Lib.hid (AL.out i ⟨i0, hlt⟩)
      cases hb : bt i
      · have key : Hid (0 ≤ i + 1 ∧ i + 1 ≤ 9 ∧ ∀ j, 0 ≤ j ∧ j < i + 1 → bt j = false) := Go.Lib.hid ⟨by omega, by omega, fun j hj => by
          rcases Int.lt_or_le j i with h1 | h1
          · exact hi.out.2.2 j ⟨hj.1, h1⟩
          · rw [show j = i by omega]; exact hb⟩
        rw [hb] at AL
        clear hb hi hV hV2
        go_wp2_with (first | ((first | with_reducible refine wp_region_ext2 (by kernel_rfl) (by kernel_rfl) ?_ | with_reducible refine wp_region_ext (by kernel_rfl) (by kernel_rfl) ?_); (repeat (first | go_big_quiet_step ((first | (go_at_call 17; with_reducible exact Calls.ext (BX.out _)) | (go_at_call 17; with_reducible exact Calls.ext (BY.out _)) | (go_at_call 16; with_reducible exact Calls.ext (AL.out _)))) | quiet_step ((first | (go_at_call 17; with_reducible exact Calls.ext (BX.out _)) | (go_at_call 17; with_reducible exact Calls.ext (BY.out _)) | (go_at_call 16; with_reducible exact Calls.ext (AL.out _)))))); refine wpQuiet_nil ?_; rintro _ ⟨yr, rfl⟩; have syr := Ext.size yr; (repeat (first | rw [World.size_alloc] at syr | rw [World.size_setCell] at syr | rw [World.size_drew] at syr)); have : w.heap.size < yr.now.heap.size := (by omega); have : w.heap.size ≤ yr.now.heap.size := (by omega); have : w.heap.size < yr.now.heap.size + 1 + 1 := (by omega); have : w.heap.size + 1 < yr.now.heap.size := (by omega); have : w.heap.size + 1 ≤ yr.now.heap.size := (by omega); have : w.heap.size + 1 < yr.now.heap.size + 1 + 1 := (by omega)) | (go_at_call 17; (first | with_reducible refine (Calls.giv2 (BX.out _)).mono ?_ | with_reducible refine (Calls.giv (BX.out _)).mono ?_); rintro _ _ ⟨y1, rfl, rfl⟩; have sy1 := Ext.size y1; (repeat (first | rw [World.size_alloc] at sy1 | rw [World.size_setCell] at sy1 | rw [World.size_drew] at sy1)); have : w.heap.size < y1.now.heap.size := (by omega); have : w.heap.size ≤ y1.now.heap.size := (by omega); have : w.heap.size < y1.now.heap.size + 1 + 1 := (by omega); have : w.heap.size + 1 < y1.now.heap.size := (by omega); have : w.heap.size + 1 ≤ y1.now.heap.size := (by omega); have : w.heap.size + 1 < y1.now.heap.size + 1 + 1 := (by omega)) | (go_at_call 17; (first | with_reducible refine (Calls.giv2 (BY.out _)).mono ?_ | with_reducible refine (Calls.giv (BY.out _)).mono ?_); rintro _ _ ⟨y2, rfl, rfl⟩; have sy2 := Ext.size y2; (repeat (first | rw [World.size_alloc] at sy2 | rw [World.size_setCell] at sy2 | rw [World.size_drew] at sy2)); have : w.heap.size < y2.now.heap.size := (by omega); have : w.heap.size ≤ y2.now.heap.size := (by omega); have : w.heap.size < y2.now.heap.size + 1 + 1 := (by omega); have : w.heap.size + 1 < y2.now.heap.size := (by omega); have : w.heap.size + 1 ≤ y2.now.heap.size := (by omega); have : w.heap.size + 1 < y2.now.heap.size + 1 + 1 := (by omega)) | (go_at_call 16; (first | with_reducible refine (Calls.giv2 (AL.out _)).mono ?_ | with_reducible refine (Calls.giv (AL.out _)).mono ?_); rintro _ _ ⟨y3, rfl, rfl⟩; have sy3 := Ext.size y3; (repeat (first | rw [World.size_alloc] at sy3 | rw [World.size_setCell] at sy3 | rw [World.size_drew] at sy3)); have : w.heap.size < y3.now.heap.size := (by omega); have : w.heap.size ≤ y3.now.heap.size := (by omega); have : w.heap.size < y3.now.heap.size + 1 + 1 := (by omega); have : w.heap.size + 1 < y3.now.heap.size := (by omega); have : w.heap.size + 1 ≤ y3.now.heap.size := (by omega); have : w.heap.size + 1 < y3.now.heap.size + 1 + 1 := (by omega)))
        exact ⟨⟨i + 1, _, rfl, rfl, key⟩, by simp [intOf]; omega⟩
      · have eV : V = true := hV.out ⟨i, ⟨i0, hlt⟩, hb⟩
        rw [hb] at AL
        clear hb hi hV hV2
        subst eV
        go_wp2_with (first | ((first | with_reducible refine wp_region_ext2 (by kernel_rfl) (by kernel_rfl) ?_ | with_reducible refine wp_region_ext (by kernel_rfl) (by kernel_rfl) ?_); (repeat (first | go_big_quiet_step ((first | (go_at_call 17; with_reducible exact Calls.ext (BX.out _)) | (go_at_call 17; with_reducible exact Calls.ext (BY.out _)) | (go_at_call 16; with_reducible exact Calls.ext (AL.out _)))) | quiet_step ((first | (go_at_call 17; with_reducible exact Calls.ext (BX.out _)) | (go_at_call 17; with_reducible exact Calls.ext (BY.out _)) | (go_at_call 16; with_reducible exact Calls.ext (AL.out _)))))); refine wpQuiet_nil ?_; rintro _ ⟨yr, rfl⟩; have syr := Ext.size yr; (repeat (first | rw [World.size_alloc] at syr | rw [World.size_setCell] at syr | rw [World.size_drew] at syr)); have : w.heap.size < yr.now.heap.size := (by omega); have : w.heap.size ≤ yr.now.heap.size := (by omega); have : w.heap.size < yr.now.heap.size + 1 + 1 := (by omega); have : w.heap.size + 1 < yr.now.heap.size := (by omega); have : w.heap.size + 1 ≤ yr.now.heap.size := (by omega); have : w.heap.size + 1 < yr.now.heap.size + 1 + 1 := (by omega)) | (go_at_call 17; (first | with_reducible refine (Calls.giv2 (BX.out _)).mono ?_ | with_reducible refine (Calls.giv (BX.out _)).mono ?_); rintro _ _ ⟨y1, rfl, rfl⟩; have sy1 := Ext.size y1; (repeat (first | rw [World.size_alloc] at sy1 | rw [World.size_setCell] at sy1 | rw [World.size_drew] at sy1)); have : w.heap.size < y1.now.heap.size := (by omega); have : w.heap.size ≤ y1.now.heap.size := (by omega); have : w.heap.size < y1.now.heap.size + 1 + 1 := (by omega); have : w.heap.size + 1 < y1.now.heap.size := (by omega); have : w.heap.size + 1 ≤ y1.now.heap.size := (by omega); have : w.heap.size + 1 < y1.now.heap.size + 1 + 1 := (by omega)) | (go_at_call 17; (first | with_reducible refine (Calls.giv2 (BY.out _)).mono ?_ | with_reducible refine (Calls.giv (BY.out _)).mono ?_); rintro _ _ ⟨y2, rfl, rfl⟩; have sy2 := Ext.size y2; (repeat (first | rw [World.size_alloc] at sy2 | rw [World.size_setCell] at sy2 | rw [World.size_drew] at sy2)); have : w.heap.size < y2.now.heap.size := (by omega); have : w.heap.size ≤ y2.now.heap.size := (by omega); have : w.heap.size < y2.now.heap.size + 1 + 1 := (by omega); have : w.heap.size + 1 < y2.now.heap.size := (by omega); have : w.heap.size + 1 ≤ y2.now.heap.size := (by omega); have : w.heap.size + 1 < y2.now.heap.size + 1 + 1 := (by omega)) | (go_at_call 16; (first | with_reducible refine (Calls.giv2 (AL.out _)).mono ?_ | with_reducible refine (Calls.giv (AL.out _)).mono ?_); rintro _ _ ⟨y3, rfl, rfl⟩; have sy3 := Ext.size y3; (repeat (first | rw [World.size_alloc] at sy3 | rw [World.size_setCell] at sy3 | rw [World.size_drew] at sy3)); have : w.heap.size < y3.now.heap.size := (by omega); have : w.heap.size ≤ y3.now.heap.size := (by omega); have : w.heap.size < y3.now.heap.size + 1 + 1 := (by omega); have : w.heap.size + 1 < y3.now.heap.size := (by omega); have : w.heap.size + 1 ≤ y3.now.heap.size := (by omega); have : w.heap.size + 1 < y3.now.heap.size + 1 + 1 := (by omega)))
        go_returns
        refine ⟨rfl, ?_⟩
        repeat' (first | (with_reducible exact Below.refl _ _) | (with_reducible assumption) | (with_reducible refine Ext.below _ ?_ ?_) | (with_reducible refine Below.on ?_ (by with_reducible assumption) ?_) | (with_reducible refine Below.alloc ?_ ?_ _) | (with_reducible refine Below.drew ?_) | (with_reducible refine Below.setCell ?_ ?_ _) | (with_reducible exact Nat.le_refl _) | omega | (simp; done) | (simp [go_sem]; done) | (simp at *; omega))
    · have eV := hV2.out (fun j hj => hi.out.2.2 j ⟨hj.1, by omega⟩)
      clear hV hV2 hi BX BY AL
      have m0 := (x.cell s0).trans m0; have m1 := (x.cell s0).trans m1; have m2 := (x.cell s0).trans m2; have m3 := (x.cell s0).trans m3
      have n0 := (x.cell s1).trans n0; have n1 := (x.cell s1).trans n1; have n2 := (x.cell s1).trans n2; have n3 := (x.cell s1).trans n3
      have s0 : w.heap.size < x.now.heap.size := by omega
      have s1 : w.heap.size + 1 < x.now.heap.size := by omega
      generalize x.now = W1 at *
      clear xs x
      go_wp2_with fail
      go_region_held3 (fun W => W.cell? ⟨w.heap.size, 0, none⟩ = some (.int .i64 a) ∧ W.cell? ⟨w.heap.size, 1, none⟩ = some (.int .i64 b) ∧ W.cell? ⟨w.heap.size, 2, none⟩ = some (.int .i64 c) ∧ W.cell? ⟨w.heap.size, 3, none⟩ = some (.int .i64 d) ∧ W.cell? ⟨w.heap.size + 1, 0, none⟩ = some (.int .i64 e) ∧ W.cell? ⟨w.heap.size + 1, 1, none⟩ = some (.int .i64 f) ∧ W.cell? ⟨w.heap.size + 1, 2, none⟩ = some (.int .i64 g) ∧ W.cell? ⟨w.heap.size + 1, 3, none⟩ = some (.int .i64 h)) ((refine ⟨?_, ?_, ?_, ?_, ?_, ?_, ?_, ?_⟩ <;> ((repeat (first | rw [World.cell?_drew] | rw [yp2.cell (by (try simp only [World.size_drew]); omega)] | rw [yp1.cell (by (try simp only [World.size_drew]); omega)])); assumption)))
        (first
          | (have _ := yp1; go_at_call 18; (refine (points_p _ _ _ _ _).mono ?_); (rintro _ _ ⟨yp2, B2, rfl, rfl, hl2, hm2, hP2⟩); have syp2 := Ext.size yp2; have : w.heap.size < yp2.now.heap.size := (by omega); have : w.heap.size + 1 < yp2.now.heap.size := (by omega))
          | (go_at_call 18; (refine (points_p _ _ _ _ _).mono ?_); (rintro _ _ ⟨yp1, B1, rfl, rfl, hl1, hm1, hP1⟩); have syp1 := Ext.size yp1; (try simp only [World.size_drew] at syp1 hl1); have : w.heap.size < yp1.now.heap.size := (by omega); have : w.heap.size + 1 < yp1.now.heap.size := (by omega)))
      have hQ1 := hP1.ext hm1 yp2
      have hbz : Below w.heap.size w yp2.now := by repeat' (first | (with_reducible exact Below.refl _ _) | (with_reducible assumption) | (with_reducible refine Ext.below _ ?_ ?_) | (with_reducible refine Below.on ?_ (by with_reducible assumption) ?_) | (with_reducible refine Below.alloc ?_ ?_ _) | (with_reducible refine Below.drew ?_) | (with_reducible refine Below.setCell ?_ ?_ _) | (with_reducible exact Nat.le_refl _) | omega | (simp; done) | (simp [go_sem]; done) | (simp at *; omega))
      have w1 : B1 < yp2.now.heap.size := by omega
      generalize yp2.now = W2 at *
      obtain ⟨p0, p1⟩ := hQ1 0 (by decide); obtain ⟨p6, p7⟩ := hQ1 3 (by decide)
      obtain ⟨q0, q1⟩ := hP2 0 (by decide); obtain ⟨q6, q7⟩ := hP2 3 (by decide)
      simp only [Nat.reduceMul, Nat.reduceAdd, p4] at p0 p1 p6 p7 q0 q1 q6 q7
      clear hP1 hP2 hQ1 m0 m1 m2 m3 n0 n1 n2 n3
      by_cases u1 : a = b <;> by_cases u2 : c = d <;> by_cases u3 : e = f <;> by_cases u4 : g = h
      all_goals
        simp only [u1, u2, u3, u4, and_true, and_self, and_false, decide_true, decide_false, Bool.true_and, Bool.false_and, Bool.and_false] at eV
        subst eV
        (try subst u1); (try subst u2); (try subst u3); (try subst u4)
        go_wp2_with (first | ((first | with_reducible refine wp_region_ext2 (by kernel_rfl) (by kernel_rfl) ?_ | with_reducible refine wp_region_ext (by kernel_rfl) (by kernel_rfl) ?_); (repeat (first | go_big_quiet_step ((first | (go_at_call 19; with_reducible exact Calls.ext (WI.out _)))) | quiet_step ((first | (go_at_call 19; with_reducible exact Calls.ext (WI.out _)))))); refine wpQuiet_nil ?_; rintro _ ⟨yr, rfl⟩; have syr := Ext.size yr; (repeat (first | rw [World.size_alloc] at syr | rw [World.size_setCell] at syr | rw [World.size_drew] at syr)); have : w.heap.size < yr.now.heap.size := (by omega); have : w.heap.size ≤ yr.now.heap.size := (by omega); have : w.heap.size < yr.now.heap.size + 1 + 1 := (by omega); have : B1 < yr.now.heap.size := (by omega); have : B1 ≤ yr.now.heap.size := (by omega); have : B1 < yr.now.heap.size + 1 + 1 := (by omega); have : B2 < yr.now.heap.size := (by omega); have : B2 ≤ yr.now.heap.size := (by omega); have : B2 < yr.now.heap.size + 1 + 1 := (by omega)) | (go_at_call 19; (first | with_reducible refine (Calls.giv2 (WI.out _)).mono ?_ | with_reducible refine (Calls.giv (WI.out _)).mono ?_); rintro _ _ ⟨y1, rfl, rfl⟩; have sy1 := Ext.size y1; (repeat (first | rw [World.size_alloc] at sy1 | rw [World.size_setCell] at sy1 | rw [World.size_drew] at sy1)); have : w.heap.size < y1.now.heap.size := (by omega); have : w.heap.size ≤ y1.now.heap.size := (by omega); have : w.heap.size < y1.now.heap.size + 1 + 1 := (by omega); have : B1 < y1.now.heap.size := (by omega); have : B1 ≤ y1.now.heap.size := (by omega); have : B1 < y1.now.heap.size + 1 + 1 := (by omega); have : B2 < y1.now.heap.size := (by omega); have : B2 ≤ y1.now.heap.size := (by omega); have : B2 < y1.now.heap.size + 1 + 1 := (by omega)))
        go_returns
        refine ⟨rfl, ?_⟩
        repeat' (first | (with_reducible exact Below.refl _ _) | (with_reducible assumption) | (with_reducible refine Ext.below _ ?_ ?_) | (with_reducible refine Below.on ?_ (by with_reducible assumption) ?_) | (with_reducible refine Below.alloc ?_ ?_ _) | (with_reducible refine Below.drew ?_) | (with_reducible refine Below.setCell ?_ ?_ _) | (with_reducible exact Nat.le_refl _) | omega | (simp; done) | (simp [go_sem]; done) | (simp at *; omega))
theorem refHits_any (a b c d e f g h r : Int) (w : World) : Calls Try.prog 5 #[.agg #[.int .i64 a, .int .i64 b, .int .i64 c, .int .i64 d], .agg #[.int .i64 e, .int .i64 f, .int .i64 g, .int .i64 h], .int .i64 r] w (Gives (.bool (hitsB a b c d e f g h r)) w) := by
  cases hk : canB a b c d e f g h r
  · have e1 : hitsB a b c d e f g h r = false := by unfold hitsB; rw [hk]; rfl
    rw [e1]; exact refHits_no a b c d e f g h r w hk
  have SU := Go.Lib.hid (fun W => sure_any a b c d e f g h r W)
  rw [hk] at SU
  have hk2 := hk
  unfold canB at hk2
  simp only [Bool.and_eq_true, beq_iff_eq] at hk2
  obtain ⟨⟨hA, hB⟩, hr⟩ := hk2
  obtain ⟨fa, fb, fc, fd⟩ := chkA_far hA
  obtain ⟨fe, ff, fg, fh⟩ := chkA_far hB
  have hr' : 0 ≤ r ∧ r ≤ 268435456 := by unfold radB at hr; simpa using hr
  have e0 : ∀ i, (nearB (mixI i a e) (mixI i c g) (8 * r) && nearB (mixI i a e) (mixI i d h) (8 * r) && nearB (mixI i b f) (mixI i c g) (8 * r) && nearB (mixI i b f) (mixI i d h) (8 * r)) = btB a b c d e f g h r i := fun i => by
    unfold btB allB
    cases nearB (mixI i a e) (mixI i c g) (8 * r) <;> cases nearB (mixI i a e) (mixI i d h) (8 * r) <;> cases nearB (mixI i b f) (mixI i c g) (8 * r) <;> cases nearB (mixI i b f) (mixI i d h) (8 * r) <;> rfl
  refine refHits_yes a b c d e f g h r (withinB a c e g r) (hitsB a b c d e f g h r) (fun i => btB a b c d e f g h r i) w SU
    (Go.Lib.hid (fun i hi W => blend_any a b e f i W hi fa fb fe ff)) (Go.Lib.hid (fun i hi W => blend_any c d g h i W hi fc fd fg fh))
    (Go.Lib.hid (fun i hi W => (e0 i) ▸ all_any _ _ _ _ r W (mix_lim hi fa fe) (mix_lim hi fb ff) (mix_lim hi fc fg) (mix_lim hi fd fh) hr'))
    (Go.Lib.hid (fun W => refwithin_any a c e g r W fa fc fe fg hr'.1 (by omega))) (Go.Lib.hid ?_) (Go.Lib.hid ?_)
  · rintro ⟨i, hi, hb⟩
    exact hits_iff.2 ⟨hk, .inr ⟨i, hi, hb⟩⟩
  · intro hall
    rw [Bool.eq_iff_iff, hits_iff]
    simp only [Bool.and_eq_true, decide_eq_true_eq]
    constructor
    · rintro ⟨_, ⟨h1, h2, h3, h4, h5⟩ | ⟨i, hi, hb⟩⟩
      · exact ⟨⟨⟨h1, h2⟩, h3, h4⟩, h5⟩
      · rw [hall i hi] at hb; cases hb
    · rintro ⟨⟨⟨h1, h2⟩, h3, h4⟩, h5⟩
      exact ⟨hk, .inl ⟨h1, h2, h3, h4, h5⟩⟩
end Go.Proofs.Ytagfhekjmkdjkab

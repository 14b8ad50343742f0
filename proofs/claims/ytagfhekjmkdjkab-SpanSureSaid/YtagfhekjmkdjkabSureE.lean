/- Contract of the reference's Clear. No condition. -/
import Derived.Test.YtagfhekjmkdjkabSureC
import Derived.Test.YtagfhekjmkdjkabSureD
import Derived.Test.YtagfhekjmkdjkabSureF
namespace Go.Proofs.Ytagfhekjmkdjkab
open Go.RowKit Go.Shelf
attribute [local go_sem] Ext.cell Ext.frozen Ext.lt Ext.le Ext.lt_add Ext.le_add Ext.ne Ext.ne' lt2 lt3 lt4 lt5 le2 le3 le4
theorem refClear_no (a b c d e f g h r : Int) (w : World) (hk : canB a b c d e f g h r = false) :
    Calls Try.prog 7 #[.agg #[.int .i64 a, .int .i64 b, .int .i64 c, .int .i64 d], .agg #[.int .i64 e, .int .i64 f, .int .i64 g, .int .i64 h], .int .i64 r] w (Gives (.bool false) w) := by
  have SU := Go.Lib.hid (fun W => sure_any a b c d e f g h r W)
  rw [hk] at SU
  go_enter Try.func7, Try.ntmps7
  go_wp2_with (first | ((first | with_reducible refine wp_region_ext2 (by kernel_rfl) (by kernel_rfl) ?_ | with_reducible refine wp_region_ext (by kernel_rfl) (by kernel_rfl) ?_); (repeat (first | go_big_quiet_step ((first | (go_at_call 15; with_reducible exact Calls.ext (SU.out _)))) | quiet_step ((first | (go_at_call 15; with_reducible exact Calls.ext (SU.out _)))))); refine wpQuiet_nil ?_; rintro _ ⟨yr, rfl⟩; have syr := Ext.size yr; (repeat (first | rw [World.size_alloc] at syr | rw [World.size_setCell] at syr | rw [World.size_drew] at syr)); have : w.heap.size < yr.now.heap.size := (by omega); have : w.heap.size ≤ yr.now.heap.size := (by omega); have : w.heap.size < yr.now.heap.size + 1 + 1 := (by omega); have : w.heap.size + 1 < yr.now.heap.size := (by omega); have : w.heap.size + 1 ≤ yr.now.heap.size := (by omega); have : w.heap.size + 1 < yr.now.heap.size + 1 + 1 := (by omega)) | (go_at_call 15; (first | with_reducible refine (Calls.giv2 (SU.out _)).mono ?_ | with_reducible refine (Calls.giv (SU.out _)).mono ?_); rintro _ _ ⟨y1, rfl, rfl⟩; have sy1 := Ext.size y1; (repeat (first | rw [World.size_alloc] at sy1 | rw [World.size_setCell] at sy1 | rw [World.size_drew] at sy1)); have : w.heap.size < y1.now.heap.size := (by omega); have : w.heap.size ≤ y1.now.heap.size := (by omega); have : w.heap.size < y1.now.heap.size + 1 + 1 := (by omega); have : w.heap.size + 1 < y1.now.heap.size := (by omega); have : w.heap.size + 1 ≤ y1.now.heap.size := (by omega); have : w.heap.size + 1 < y1.now.heap.size + 1 + 1 := (by omega)))
  go_returns
  refine ⟨rfl, ?_⟩
  repeat' (first | (with_reducible exact Below.refl _ _) | (with_reducible assumption) | (with_reducible refine Ext.below _ ?_ ?_) | (with_reducible refine Below.on ?_ (by with_reducible assumption) ?_) | (with_reducible refine Below.alloc ?_ ?_ _) | (with_reducible refine Below.drew ?_) | (with_reducible refine Below.setCell ?_ ?_ _) | (with_reducible exact Nat.le_refl _) | omega | (simp; done) | (simp [go_sem]; done) | (simp at *; omega))
/-- The place i and one of the first k places have a segment that comes within r. -/
def rowW (X Y : Nat → Int) (r : Int) (i k : Nat) : Bool := (List.range k).any fun j => withinB (X i) (Y i) (X j) (Y j) r
theorem rowW_succ (X Y : Nat → Int) (r : Int) (i k : Nat) : rowW X Y r i (k + 1) = (rowW X Y r i k || withinB (X i) (Y i) (X k) (Y k) r) := by
  unfold rowW; rw [List.range_succ, List.any_append]; simp
def allW (X Y : Nat → Int) (r : Int) : Bool := (List.range 8).any fun i => rowW X Y r i (i + 1)
set_option maxRecDepth 100000 in
set_option maxHeartbeats 8000000 in
theorem refClear_yes (a b c d e f g h r : Int) (V : Bool) (w : World) (hr : 0 ≤ r ∧ r ≤ 268435456) (hF : ∀ j, Far (p8 (p4 a a b b) (p4 e e f f) j) ∧ Far (p8 (p4 c d c d) (p4 g h g h) j)) (hV : V = (outR (p8 (p4 a a b b) (p4 e e f f)) (p8 (p4 c d c d) (p4 g h g h)) 8 && !allW (p8 (p4 a a b b) (p4 e e f f)) (p8 (p4 c d c d) (p4 g h g h)) r))
    (SU : Hid (∀ W, Calls Try.prog 15 #[.agg #[.int .i64 a, .int .i64 b, .int .i64 c, .int .i64 d], .agg #[.int .i64 e, .int .i64 f, .int .i64 g, .int .i64 h], .int .i64 r] W (Gives (.bool true) W))) :
    Calls Try.prog 7 #[.agg #[.int .i64 a, .int .i64 b, .int .i64 c, .int .i64 d], .agg #[.int .i64 e, .int .i64 f, .int .i64 g, .int .i64 h], .int .i64 r] w (Gives (.bool V) w) := by
  go_enter Try.func7, Try.ntmps7
  go_wp2_with (first | ((first | with_reducible refine wp_region_ext2 (by kernel_rfl) (by kernel_rfl) ?_ | with_reducible refine wp_region_ext (by kernel_rfl) (by kernel_rfl) ?_); (repeat (first | go_big_quiet_step ((first | (go_at_call 15; with_reducible exact Calls.ext (SU.out _)))) | quiet_step ((first | (go_at_call 15; with_reducible exact Calls.ext (SU.out _)))))); refine wpQuiet_nil ?_; rintro _ ⟨yr, rfl⟩; have syr := Ext.size yr; (repeat (first | rw [World.size_alloc] at syr | rw [World.size_setCell] at syr | rw [World.size_drew] at syr)); have : w.heap.size < yr.now.heap.size := (by omega); have : w.heap.size ≤ yr.now.heap.size := (by omega); have : w.heap.size < yr.now.heap.size + 1 + 1 := (by omega); have : w.heap.size + 1 < yr.now.heap.size := (by omega); have : w.heap.size + 1 ≤ yr.now.heap.size := (by omega); have : w.heap.size + 1 < yr.now.heap.size + 1 + 1 := (by omega)) | (go_at_call 15; (first | with_reducible refine (Calls.giv2 (SU.out _)).mono ?_ | with_reducible refine (Calls.giv (SU.out _)).mono ?_); rintro _ _ ⟨y1, rfl, rfl⟩; have sy1 := Ext.size y1; (repeat (first | rw [World.size_alloc] at sy1 | rw [World.size_setCell] at sy1 | rw [World.size_drew] at sy1)); have : w.heap.size < y1.now.heap.size := (by omega); have : w.heap.size ≤ y1.now.heap.size := (by omega); have : w.heap.size < y1.now.heap.size + 1 + 1 := (by omega); have : w.heap.size + 1 < y1.now.heap.size := (by omega); have : w.heap.size + 1 ≤ y1.now.heap.size := (by omega); have : w.heap.size + 1 < y1.now.heap.size + 1 + 1 := (by omega)))
  have hBw : Below w.heap.size w y1.now := by repeat' (first | (with_reducible exact Below.refl _ _) | (with_reducible assumption) | (with_reducible refine Ext.below _ ?_ ?_) | (with_reducible refine Below.on ?_ (by with_reducible assumption) ?_) | (with_reducible refine Below.alloc ?_ ?_ _) | (with_reducible refine Below.drew ?_) | (with_reducible refine Below.setCell ?_ ?_ _) | (with_reducible exact Nat.le_refl _) | omega | (simp; done) | (simp [go_sem]; done) | (simp at *; omega))
  have ys1 := y1.size
  simp only [World.size_alloc] at ys1
  have m0 : y1.now.cell? ⟨w.heap.size, 0, none⟩ = some (.int .i64 a) := by rw [y1.cell (by simp only [World.size_alloc]; omega)]; simp [go_sem]
  have m1 : y1.now.cell? ⟨w.heap.size, 1, none⟩ = some (.int .i64 b) := by rw [y1.cell (by simp only [World.size_alloc]; omega)]; simp [go_sem]
  have m2 : y1.now.cell? ⟨w.heap.size, 2, none⟩ = some (.int .i64 c) := by rw [y1.cell (by simp only [World.size_alloc]; omega)]; simp [go_sem]
  have m3 : y1.now.cell? ⟨w.heap.size, 3, none⟩ = some (.int .i64 d) := by rw [y1.cell (by simp only [World.size_alloc]; omega)]; simp [go_sem]
  have n0 : y1.now.cell? ⟨w.heap.size + 1, 0, none⟩ = some (.int .i64 e) := by rw [y1.cell (by simp only [World.size_alloc]; omega)]; simp [go_sem]
  have n1 : y1.now.cell? ⟨w.heap.size + 1, 1, none⟩ = some (.int .i64 f) := by rw [y1.cell (by simp only [World.size_alloc]; omega)]; simp [go_sem]
  have n2 : y1.now.cell? ⟨w.heap.size + 1, 2, none⟩ = some (.int .i64 g) := by rw [y1.cell (by simp only [World.size_alloc]; omega)]; simp [go_sem]
  have n3 : y1.now.cell? ⟨w.heap.size + 1, 3, none⟩ = some (.int .i64 h) := by rw [y1.cell (by simp only [World.size_alloc]; omega)]; simp [go_sem]
  have s0 : w.heap.size < y1.now.heap.size := by omega
  have s1 : w.heap.size + 1 < y1.now.heap.size := by omega
  generalize y1.now = W1 at *
  clear SU ys1
  go_wp2_with fail
  go_region_held3 (fun W => W.cell? ⟨w.heap.size, 0, none⟩ = some (.int .i64 a) ∧ W.cell? ⟨w.heap.size, 1, none⟩ = some (.int .i64 b) ∧ W.cell? ⟨w.heap.size, 2, none⟩ = some (.int .i64 c) ∧ W.cell? ⟨w.heap.size, 3, none⟩ = some (.int .i64 d) ∧ W.cell? ⟨w.heap.size + 1, 0, none⟩ = some (.int .i64 e) ∧ W.cell? ⟨w.heap.size + 1, 1, none⟩ = some (.int .i64 f) ∧ W.cell? ⟨w.heap.size + 1, 2, none⟩ = some (.int .i64 g) ∧ W.cell? ⟨w.heap.size + 1, 3, none⟩ = some (.int .i64 h)) ((refine ⟨?_, ?_, ?_, ?_, ?_, ?_, ?_, ?_⟩ <;> ((repeat (first | rw [World.cell?_drew] | rw [yz.cell (by (try simp only [World.size_drew]); omega)] | rw [yp2.cell (by (try simp only [World.size_drew]); omega)] | rw [yp1.cell (by (try simp only [World.size_drew]); omega)])); assumption)))
    (first
      | (have _ := yp2; refine step_append8 B1 B2 rfl (.tmp 16) (.tmp 18) rfl (by simp [Act.eval]) (by simp [Act.eval]) (hP1.ext hm1 yp2) hP2 ?_; rintro yz B cc hz1 hz2 hPz; have syz := Ext.size yz; have : w.heap.size < yz.now.heap.size := (by omega); have : w.heap.size + 1 < yz.now.heap.size := (by omega))
      | (have _ := yp1; go_at_call 18; (refine (points_p _ _ _ _ _).mono ?_); (rintro _ _ ⟨yp2, B2, rfl, rfl, hl2, hm2, hP2⟩); have syp2 := Ext.size yp2; have : w.heap.size < yp2.now.heap.size := (by omega); have : w.heap.size + 1 < yp2.now.heap.size := (by omega))
      | (go_at_call 18; (refine (points_p _ _ _ _ _).mono ?_); (rintro _ _ ⟨yp1, B1, rfl, rfl, hl1, hm1, hP1⟩); have syp1 := Ext.size yp1; (try simp only [World.size_drew] at syp1 hl1); have : w.heap.size < yp1.now.heap.size := (by omega); have : w.heap.size + 1 < yp1.now.heap.size := (by omega)))
  have hbz : Below w.heap.size w yz.now := by repeat' (first | (with_reducible exact Below.refl _ _) | (with_reducible assumption) | (with_reducible refine Ext.below _ ?_ ?_) | (with_reducible refine Below.on ?_ (by with_reducible assumption) ?_) | (with_reducible refine Below.alloc ?_ ?_ _) | (with_reducible refine Below.drew ?_) | (with_reducible refine Below.setCell ?_ ?_ _) | (with_reducible exact Nat.le_refl _) | omega | (simp; done) | (simp [go_sem]; done) | (simp at *; omega))
  generalize yz.now = W2 at *
  generalize p8 (p4 a a b b) (p4 e e f f) = X at *
  generalize p8 (p4 c d c d) (p4 g h g h) = Y at *
  clear m0 m1 m2 m3 n0 n1 n2 n3 hP1 hP2 hBw
  obtain ⟨r0, r1⟩ := hr
  have sB : w.heap.size < W2.heap.size := by omega
  have OU := Go.Lib.hid (refoutside_any B 8 cc X Y W2 (by decide) hz2 hPz (fun j _ => by have := hF j; unfold Far at this; unfold I64; omega))
  have hP := Go.Lib.hid hPz
  have hF := Go.Lib.hid hF
  clear hPz
  cases ho : outR X Y 8
  · rw [ho] at OU hV
    rw [Bool.false_and] at hV
    subst hV
    go_wp2_with (first | ((first | with_reducible refine wp_region_ext2 (by kernel_rfl) (by kernel_rfl) ?_ | with_reducible refine wp_region_ext (by kernel_rfl) (by kernel_rfl) ?_); (repeat (first | go_big_quiet_step ((first | (go_at_call 22; with_reducible exact Calls.ext (OU.out)))) | quiet_step ((first | (go_at_call 22; with_reducible exact Calls.ext (OU.out)))))); refine wpQuiet_nil ?_; rintro _ ⟨yr, rfl⟩; have syr := Ext.size yr; (repeat (first | rw [World.size_alloc] at syr | rw [World.size_setCell] at syr | rw [World.size_drew] at syr)); have : w.heap.size < yr.now.heap.size := (by omega); have : w.heap.size ≤ yr.now.heap.size := (by omega); have : w.heap.size < yr.now.heap.size + 1 + 1 := (by omega); have : B < yr.now.heap.size := (by omega); have : B ≤ yr.now.heap.size := (by omega); have : B < yr.now.heap.size + 1 + 1 := (by omega)) | (go_at_call 22; (first | with_reducible refine (Calls.giv2 (OU.out)).mono ?_ | with_reducible refine (Calls.giv (OU.out)).mono ?_); rintro _ _ ⟨y1, rfl, rfl⟩; have sy1 := Ext.size y1; (repeat (first | rw [World.size_alloc] at sy1 | rw [World.size_setCell] at sy1 | rw [World.size_drew] at sy1)); have : w.heap.size < y1.now.heap.size := (by omega); have : w.heap.size ≤ y1.now.heap.size := (by omega); have : w.heap.size < y1.now.heap.size + 1 + 1 := (by omega); have : B < y1.now.heap.size := (by omega); have : B ≤ y1.now.heap.size := (by omega); have : B < y1.now.heap.size + 1 + 1 := (by omega)))
    go_returns
    refine ⟨rfl, ?_⟩
    repeat' (first | (with_reducible exact Below.refl _ _) | (with_reducible assumption) | (with_reducible refine Ext.below _ ?_ ?_) | (with_reducible refine Below.on ?_ (by with_reducible assumption) ?_) | (with_reducible refine Below.alloc ?_ ?_ _) | (with_reducible refine Below.drew ?_) | (with_reducible refine Below.setCell ?_ ?_ _) | (with_reducible exact Nat.le_refl _) | omega | (simp; done) | (simp [go_sem]; done) | (simp at *; omega))
  · rw [ho] at OU hV
    rw [Bool.true_and] at hV
    have hV := Go.Lib.hid hV
    clear ho
    go_wp2_with (first | ((first | with_reducible refine wp_region_ext2 (by kernel_rfl) (by kernel_rfl) ?_ | with_reducible refine wp_region_ext (by kernel_rfl) (by kernel_rfl) ?_); (repeat (first | go_big_quiet_step ((first | (go_at_call 22; with_reducible exact Calls.ext (OU.out)))) | quiet_step ((first | (go_at_call 22; with_reducible exact Calls.ext (OU.out)))))); refine wpQuiet_nil ?_; rintro _ ⟨yr, rfl⟩; have syr := Ext.size yr; (repeat (first | rw [World.size_alloc] at syr | rw [World.size_setCell] at syr | rw [World.size_drew] at syr)); have : w.heap.size < yr.now.heap.size := (by omega); have : w.heap.size ≤ yr.now.heap.size := (by omega); have : w.heap.size < yr.now.heap.size + 1 + 1 := (by omega); have : B < yr.now.heap.size := (by omega); have : B ≤ yr.now.heap.size := (by omega); have : B < yr.now.heap.size + 1 + 1 := (by omega)) | (go_at_call 22; (first | with_reducible refine (Calls.giv2 (OU.out)).mono ?_ | with_reducible refine (Calls.giv (OU.out)).mono ?_); rintro _ _ ⟨y1, rfl, rfl⟩; have sy1 := Ext.size y1; (repeat (first | rw [World.size_alloc] at sy1 | rw [World.size_setCell] at sy1 | rw [World.size_drew] at sy1)); have : w.heap.size < y1.now.heap.size := (by omega); have : w.heap.size ≤ y1.now.heap.size := (by omega); have : w.heap.size < y1.now.heap.size + 1 + 1 := (by omega); have : B < y1.now.heap.size := (by omega); have : B ≤ y1.now.heap.size := (by omega); have : B < y1.now.heap.size + 1 + 1 := (by omega)))
    clear OU
    go_loopw [8] (fun s W => ∃ (i : Nat) (x : Ext W2), s = .int .i64 i ∧ W = x.now ∧ Hid (i ≤ 8 ∧ ∀ j, j < i → rowW X Y r j (j + 1) = false)) (fun s _ => 8 - (intOf s).toNat)
    case atStart => exact ⟨0, _, rfl, rfl, Go.Lib.hid ⟨by decide, fun j hj => by omega⟩⟩
    case round =>
      obtain ⟨i, x, rfl, rfl, hi⟩ := hrel
      have xs := x.size
      by_cases hlt : i < 8
      · have hlt2 : (i : Int) < 8 := by omega
        obtain ⟨p0, p1⟩ := hP.out i hlt
        obtain ⟨i0, i1⟩ := hF.out i
        go_wp2_with fail
        go_loopw [9] (fun s W => ∃ (k : Nat) (y : Ext W2), s = .int .i64 k ∧ W = y.now ∧ Hid (k ≤ i + 1 ∧ rowW X Y r i k = false)) (fun s _ => i + 1 - (intOf s).toNat)
        case atStart => exact ⟨0, x, rfl, rfl, Go.Lib.hid ⟨by omega, rfl⟩⟩
        case round =>
          obtain ⟨k, y, rfl, rfl, hk⟩ := hrel
          have ys := y.size
          by_cases hki : k ≤ i
          · have hki2 : (k : Int) ≤ i := by omega
            have hk8 : k < 8 := by omega
            have hk82 : (k : Int) < 8 := by omega
            obtain ⟨q0, q1⟩ := hP.out k hk8
            obtain ⟨k0, k1⟩ := hF.out k
            have WI := fun W => refwithin_any (X i) (Y i) (X k) (Y k) r W i0 i1 k0 k1 r0 (by omega)
            clear i0 i1 k0 k1
            cases hw : withinB (X i) (Y i) (X k) (Y k) r
            · have key : Hid (k + 1 ≤ i + 1 ∧ rowW X Y r i (k + 1) = false) := Go.Lib.hid ⟨by omega, by rw [rowW_succ, hk.out.2, hw]; rfl⟩
              rw [hw] at WI
              clear hw
              go_wp2_with (first | ((first | with_reducible refine wp_region_ext2 (by kernel_rfl) (by kernel_rfl) ?_ | with_reducible refine wp_region_ext (by kernel_rfl) (by kernel_rfl) ?_); (repeat (first | go_big_quiet_step ((first | (go_at_call 19; with_reducible exact Calls.ext (WI _)))) | quiet_step ((first | (go_at_call 19; with_reducible exact Calls.ext (WI _)))))); refine wpQuiet_nil ?_; rintro _ ⟨yr, rfl⟩; have syr := Ext.size yr; (repeat (first | rw [World.size_alloc] at syr | rw [World.size_setCell] at syr | rw [World.size_drew] at syr)); have : w.heap.size < yr.now.heap.size := (by omega); have : w.heap.size ≤ yr.now.heap.size := (by omega); have : w.heap.size < yr.now.heap.size + 1 + 1 := (by omega); have : B < yr.now.heap.size := (by omega); have : B ≤ yr.now.heap.size := (by omega); have : B < yr.now.heap.size + 1 + 1 := (by omega)) | (go_at_call 19; (first | with_reducible refine (Calls.giv2 (WI _)).mono ?_ | with_reducible refine (Calls.giv (WI _)).mono ?_); rintro _ _ ⟨y1, rfl, rfl⟩; have sy1 := Ext.size y1; (repeat (first | rw [World.size_alloc] at sy1 | rw [World.size_setCell] at sy1 | rw [World.size_drew] at sy1)); have : w.heap.size < y1.now.heap.size := (by omega); have : w.heap.size ≤ y1.now.heap.size := (by omega); have : w.heap.size < y1.now.heap.size + 1 + 1 := (by omega); have : B < y1.now.heap.size := (by omega); have : B ≤ y1.now.heap.size := (by omega); have : B < y1.now.heap.size + 1 + 1 := (by omega)))
              exact ⟨⟨k + 1, _, by simp, rfl, key⟩, by simp [intOf]; omega⟩
            · have eV : V = false := by
                have h1 : rowW X Y r i (i + 1) = true := List.any_eq_true.2 ⟨k, List.mem_range.2 (by omega), hw⟩
                have h2 : allW X Y r = true := List.any_eq_true.2 ⟨i, List.mem_range.2 hlt, h1⟩
                rw [hV.out, h2]; rfl
              rw [hw] at WI
              clear hw hV
              subst eV
              go_wp2_with (first | ((first | with_reducible refine wp_region_ext2 (by kernel_rfl) (by kernel_rfl) ?_ | with_reducible refine wp_region_ext (by kernel_rfl) (by kernel_rfl) ?_); (repeat (first | go_big_quiet_step ((first | (go_at_call 19; with_reducible exact Calls.ext (WI _)))) | quiet_step ((first | (go_at_call 19; with_reducible exact Calls.ext (WI _)))))); refine wpQuiet_nil ?_; rintro _ ⟨yr, rfl⟩; have syr := Ext.size yr; (repeat (first | rw [World.size_alloc] at syr | rw [World.size_setCell] at syr | rw [World.size_drew] at syr)); have : w.heap.size < yr.now.heap.size := (by omega); have : w.heap.size ≤ yr.now.heap.size := (by omega); have : w.heap.size < yr.now.heap.size + 1 + 1 := (by omega); have : B < yr.now.heap.size := (by omega); have : B ≤ yr.now.heap.size := (by omega); have : B < yr.now.heap.size + 1 + 1 := (by omega)) | (go_at_call 19; (first | with_reducible refine (Calls.giv2 (WI _)).mono ?_ | with_reducible refine (Calls.giv (WI _)).mono ?_); rintro _ _ ⟨y1, rfl, rfl⟩; have sy1 := Ext.size y1; (repeat (first | rw [World.size_alloc] at sy1 | rw [World.size_setCell] at sy1 | rw [World.size_drew] at sy1)); have : w.heap.size < y1.now.heap.size := (by omega); have : w.heap.size ≤ y1.now.heap.size := (by omega); have : w.heap.size < y1.now.heap.size + 1 + 1 := (by omega); have : B < y1.now.heap.size := (by omega); have : B ≤ y1.now.heap.size := (by omega); have : B < y1.now.heap.size + 1 + 1 := (by omega)))
              go_returns
              refine ⟨rfl, ?_⟩
              repeat' (first | (with_reducible exact Below.refl _ _) | (with_reducible assumption) | (with_reducible refine Ext.below _ ?_ ?_) | (with_reducible refine Below.on ?_ (by with_reducible assumption) ?_) | (with_reducible refine Below.alloc ?_ ?_ _) | (with_reducible refine Below.drew ?_) | (with_reducible refine Below.setCell ?_ ?_ _) | (with_reducible exact Nat.le_refl _) | omega | (simp; done) | (simp [go_sem]; done) | (simp at *; omega))
          · have hnk : ¬ (k : Int) ≤ i := by omega
            have key : Hid (i + 1 ≤ 8 ∧ ∀ j, j < i + 1 → rowW X Y r j (j + 1) = false) := Go.Lib.hid ⟨hlt, fun j hj => by
              rcases Nat.lt_or_ge j i with h1 | h1
              · exact hi.out.2 j h1
              · have h2 := hk.out
                rw [show j = i by omega, show i + 1 = k by omega]; exact h2.2⟩
            go_wp2_with (first | ((first | with_reducible refine wp_region_ext2 (by kernel_rfl) (by kernel_rfl) ?_ | with_reducible refine wp_region_ext (by kernel_rfl) (by kernel_rfl) ?_); (repeat (first | go_big_quiet_step ((first | fail)) | quiet_step ((first | fail)))); refine wpQuiet_nil ?_; rintro _ ⟨yr, rfl⟩; have syr := Ext.size yr; (repeat (first | rw [World.size_alloc] at syr | rw [World.size_setCell] at syr | rw [World.size_drew] at syr)); have : w.heap.size < yr.now.heap.size := (by omega); have : w.heap.size ≤ yr.now.heap.size := (by omega); have : w.heap.size < yr.now.heap.size + 1 + 1 := (by omega); have : B < yr.now.heap.size := (by omega); have : B ≤ yr.now.heap.size := (by omega); have : B < yr.now.heap.size + 1 + 1 := (by omega)))
            exact ⟨⟨i + 1, _, by simp, rfl, key⟩, by simp [intOf]; omega⟩
      · have hni : ¬ (i : Int) < 8 := by omega
        have eV : V = true := by
          have h2 : allW X Y r = false := by
            rw [Bool.eq_false_iff]; intro h
            obtain ⟨j, hj, h3⟩ := List.any_eq_true.1 h
            rw [hi.out.2 j (by have := List.mem_range.1 hj; omega)] at h3; cases h3
          rw [hV.out, h2]; rfl
        clear hV
        subst eV
        go_wp2_with (first | ((first | with_reducible refine wp_region_ext2 (by kernel_rfl) (by kernel_rfl) ?_ | with_reducible refine wp_region_ext (by kernel_rfl) (by kernel_rfl) ?_); (repeat (first | go_big_quiet_step ((first | fail)) | quiet_step ((first | fail)))); refine wpQuiet_nil ?_; rintro _ ⟨yr, rfl⟩; have syr := Ext.size yr; (repeat (first | rw [World.size_alloc] at syr | rw [World.size_setCell] at syr | rw [World.size_drew] at syr)); have : w.heap.size < yr.now.heap.size := (by omega); have : w.heap.size ≤ yr.now.heap.size := (by omega); have : w.heap.size < yr.now.heap.size + 1 + 1 := (by omega); have : B < yr.now.heap.size := (by omega); have : B ≤ yr.now.heap.size := (by omega); have : B < yr.now.heap.size + 1 + 1 := (by omega)))
        go_returns
        refine ⟨rfl, ?_⟩
        repeat' (first | (with_reducible exact Below.refl _ _) | (with_reducible assumption) | (with_reducible refine Ext.below _ ?_ ?_) | (with_reducible refine Below.on ?_ (by with_reducible assumption) ?_) | (with_reducible refine Below.alloc ?_ ?_ _) | (with_reducible refine Below.drew ?_) | (with_reducible refine Below.setCell ?_ ?_ _) | (with_reducible exact Nat.le_refl _) | omega | (simp; done) | (simp [go_sem]; done) | (simp at *; omega))
end Go.Proofs.Ytagfhekjmkdjkab

/- A walk of SpanCertain: neither. Condition: contracts of what it calls. -/
import Derived.Test.YtagfhekjmkdjkaaLawList
import Derived.Test.YtagfhekjmkdjkaaRingA
import Derived.Test.YtagfhekjmkdjkaaAwake
import Derived.Test.YtagfhekjmkdjkaaCutR
import Derived.Test.YtagfhekjmkdjkaaCutB
import Derived.Test.YtagfhekjmkdjkaaFree
namespace Go.Proofs.Ytagfhekjmkdjkaa
open Go.ChangeShapes Go.WideShapes Go.ChangeAt Go.RowKit Go.Joins
attribute [local go_sem] Ext.cell Ext.frozen Ext.lt Ext.le Ext.lt_add Ext.le_add Ext.ne Ext.ne' lt2 lt3 lt4 lt5 le2 le3 le4
attribute [local go_sem] RExt.cell RExt.frozen RExt.lt RExt.le RExt.lt_add RExt.le_add RExt.ne RExt.ne'
set_option maxRecDepth 100000 in
set_option maxHeartbeats 32000000 in
theorem SpanCertain_N (p : Option Addr) (len cap : Nat) (z : Nat → Int) (a b c d e f g h r r0 : Int) (px py qx qy : Nat → Int) (iN : Nat → Bool) (w : World) (hw : ListIn w p len z)
    (A1 : Hid (∀ b' W, RingAt W b' p len cap z (0) → Calls Try.prog 29 #[.pointer (some ⟨b', 0, none⟩), .int .i64 60, .int .i64 40] W (RGives (.agg #[.int .i64 a, .int .i64 b, .int .i64 c, .int .i64 d]) b' p len cap z (6) W)))
    (A2 : Hid (∀ b' W, RingAt W b' p len cap z (6) → Calls Try.prog 29 #[.pointer (some ⟨b', 0, none⟩), .int .i64 60, .int .i64 40] W (RGives (.agg #[.int .i64 e, .int .i64 f, .int .i64 g, .int .i64 h]) b' p len cap z (12) W)))
    (MO : Hid (∀ W, Calls Try.prog 30 #[.int .i64 r0, .int .i64 90] W (Gives (.int .i64 r) W)))
    (HI : Hid (∀ W, Calls Try.prog 25 #[.agg #[.int .i64 a, .int .i64 b, .int .i64 c, .int .i64 d], .agg #[.int .i64 e, .int .i64 f, .int .i64 g, .int .i64 h], .int .i64 r] W (Gives (.bool false) W)))
    (CL : Hid (∀ W, Calls Try.prog 27 #[.agg #[.int .i64 a, .int .i64 b, .int .i64 c, .int .i64 d], .agg #[.int .i64 e, .int .i64 f, .int .i64 g, .int .i64 h], .int .i64 r] W (Gives (.bool false) W)))
    (CS : Hid (∀ W, Calls Try.prog 27 #[.agg #[.int .i64 e, .int .i64 f, .int .i64 g, .int .i64 h], .agg #[.int .i64 a, .int .i64 b, .int .i64 c, .int .i64 d], .int .i64 r] W (Gives (.bool false) W)))
    (S1 : Hid (∀ n, n < 6 → ∀ b' W, RingAt W b' p len cap z (12 + 4 * n) → Calls Try.prog 31 #[.pointer (some ⟨b', 0, none⟩), .agg #[.int .i64 a, .int .i64 b, .int .i64 c, .int .i64 d]] W (RGives (.agg #[.int .i64 (px n), .int .i64 (py n)]) b' p len cap z (12 + 4 * n + 2) W)))
    (S2 : Hid (∀ n, n < 6 → ∀ b' W, RingAt W b' p len cap z (12 + 4 * n + 2) → Calls Try.prog 31 #[.pointer (some ⟨b', 0, none⟩), .agg #[.int .i64 e, .int .i64 f, .int .i64 g, .int .i64 h]] W (RGives (.agg #[.int .i64 (qx n), .int .i64 (qy n)]) b' p len cap z (12 + 4 * (n + 1)) W)))
    (WI : Hid (∀ n, n < 6 → ∀ W, Calls Try.prog 23 #[.agg #[.int .i64 (px n), .int .i64 (py n)], .agg #[.int .i64 (qx n), .int .i64 (qy n)], .int .i64 r] W (Gives (.bool (iN n)) W)))
    (CT : Hid (∀ n, n < 6 → ∀ W, Calls Try.prog 27 #[.agg #[.int .i64 (px n), .int .i64 (px n), .int .i64 (py n), .int .i64 (py n)], .agg #[.int .i64 (qx n), .int .i64 (qx n), .int .i64 (qy n), .int .i64 (qy n)], .int .i64 r] W (Gives (.bool (!iN n)) W)))
    (HT : Hid (∀ n, n < 6 → ∀ W, Calls Try.prog 25 #[.agg #[.int .i64 (px n), .int .i64 (px n), .int .i64 (py n), .int .i64 (py n)], .agg #[.int .i64 (qx n), .int .i64 (qx n), .int .i64 (qy n), .int .i64 (qy n)], .int .i64 r] W (Gives (.bool (iN n)) W))) :
    Calls Try.prog 4 #[.slice p len cap, .int .i64 r0] w (Gives (.bool true) w) := by
  go_enter Try.func4, Try.ntmps4
  go_wp2_with fail
  (go_at_call 28; refine (NewRing_r p len cap z _ hw).mono ?_; rintro _ _ ⟨y0, rfl, rfl, hs0, hr0⟩)
  have y0s := y0.size
  go_wp2_with (first | ((first | with_reducible refine wp_region_ext2 (by kernel_rfl) (by kernel_rfl) ?_ | with_reducible refine wp_region_ext (by kernel_rfl) (by kernel_rfl) ?_); (repeat (first | go_big_quiet_step ((first | fail)) | quiet_step ((first | fail)))); refine wpQuiet_nil ?_; rintro _ ⟨yr, rfl⟩; have syr := Ext.size yr; (repeat (first | rw [World.size_alloc] at syr | rw [World.size_setCell] at syr | rw [World.size_drew] at syr)); have : w.heap.size < yr.now.heap.size := (by omega); have : w.heap.size ≤ yr.now.heap.size := (by omega); have : w.heap.size < yr.now.heap.size + 1 + 1 := (by omega); (try (have rgxr := RingAt.ext yr (by first | (with_reducible assumption) | (with_reducible exact RingAt.alloc (by assumption) _) | (with_reducible exact RingAt.alloc (RingAt.alloc (by assumption) _) _))))) | (go_at_call 29; (with_reducible refine Calls.mono (Calls.rgiv (A1.out _ _ ?_)) ?_); (focus ((repeat (first | (with_reducible assumption) | (with_reducible refine RingAt.alloc ?_ _) | (with_reducible refine RingAt.drew ?_) | (with_reducible refine RingAt.set ?_ _ (by omega)))); done)); (rintro _ _ ⟨yr1, rfl, rfl, rgr1⟩); have syr1 := RExt.size yr1; (repeat (first | rw [World.size_alloc] at syr1 | rw [World.size_setCell] at syr1 | rw [World.size_drew] at syr1)); have : w.heap.size < yr1.now.heap.size := (by omega); have : w.heap.size ≤ yr1.now.heap.size := (by omega); have : w.heap.size < yr1.now.heap.size + 1 + 1 := (by omega)))
  rename RExt _ w.heap.size => ya
  go_wp2_with (first | ((first | with_reducible refine wp_region_ext2 (by kernel_rfl) (by kernel_rfl) ?_ | with_reducible refine wp_region_ext (by kernel_rfl) (by kernel_rfl) ?_); (repeat (first | go_big_quiet_step ((first | fail)) | quiet_step ((first | fail)))); refine wpQuiet_nil ?_; rintro _ ⟨yr, rfl⟩; have syr := Ext.size yr; (repeat (first | rw [World.size_alloc] at syr | rw [World.size_setCell] at syr | rw [World.size_drew] at syr)); have : w.heap.size < yr.now.heap.size := (by omega); have : w.heap.size ≤ yr.now.heap.size := (by omega); have : w.heap.size < yr.now.heap.size + 1 + 1 := (by omega); (try (have rgxr := RingAt.ext yr (by first | (with_reducible assumption) | (with_reducible exact RingAt.alloc (by assumption) _) | (with_reducible exact RingAt.alloc (RingAt.alloc (by assumption) _) _))))) | (go_at_call 29; (with_reducible refine Calls.mono (Calls.rgiv (A2.out _ _ ?_)) ?_); (focus ((repeat (first | (with_reducible assumption) | (with_reducible refine RingAt.alloc ?_ _) | (with_reducible refine RingAt.drew ?_) | (with_reducible refine RingAt.set ?_ _ (by omega)))); done)); (rintro _ _ ⟨yr1, rfl, rfl, rgr1⟩); have syr1 := RExt.size yr1; (repeat (first | rw [World.size_alloc] at syr1 | rw [World.size_setCell] at syr1 | rw [World.size_drew] at syr1)); have : w.heap.size < yr1.now.heap.size := (by omega); have : w.heap.size ≤ yr1.now.heap.size := (by omega); have : w.heap.size < yr1.now.heap.size + 1 + 1 := (by omega)))
  rename RExt _ w.heap.size => yb
  have nb1 : yb.now.heap.size ≠ w.heap.size := by omega
  have nb2 : yb.now.heap.size + 1 ≠ w.heap.size := by omega
  go_wp2_with (first | ((first | with_reducible refine wp_region_ext2 (by kernel_rfl) (by kernel_rfl) ?_ | with_reducible refine wp_region_ext (by kernel_rfl) (by kernel_rfl) ?_); (repeat (first | go_big_quiet_step ((first | (go_at_call 30; with_reducible exact Calls.ext (MO.out _)) | (go_at_call 25; with_reducible exact Calls.ext (HI.out _)) | (go_at_call 27; with_reducible exact Calls.ext (CL.out _)))) | quiet_step ((first | (go_at_call 30; with_reducible exact Calls.ext (MO.out _)) | (go_at_call 25; with_reducible exact Calls.ext (HI.out _)) | (go_at_call 27; with_reducible exact Calls.ext (CL.out _)))))); refine wpQuiet_nil ?_; rintro _ ⟨yr, rfl⟩; have syr := Ext.size yr; (repeat (first | rw [World.size_alloc] at syr | rw [World.size_setCell] at syr | rw [World.size_drew] at syr)); have : w.heap.size < yr.now.heap.size := (by omega); have : w.heap.size ≤ yr.now.heap.size := (by omega); have : w.heap.size < yr.now.heap.size + 1 + 1 := (by omega); have : yb.now.heap.size < yr.now.heap.size := (by omega); have : yb.now.heap.size ≤ yr.now.heap.size := (by omega); have : yb.now.heap.size < yr.now.heap.size + 1 + 1 := (by omega); have : yb.now.heap.size + 1 < yr.now.heap.size := (by omega); have : yb.now.heap.size + 1 ≤ yr.now.heap.size := (by omega); have : yb.now.heap.size + 1 < yr.now.heap.size + 1 + 1 := (by omega)) | (go_at_call 30; (first | with_reducible refine (Calls.giv2 (MO.out _)).mono ?_ | with_reducible refine (Calls.giv (MO.out _)).mono ?_); rintro _ _ ⟨y1, rfl, rfl⟩; have sy1 := Ext.size y1; (repeat (first | rw [World.size_alloc] at sy1 | rw [World.size_setCell] at sy1 | rw [World.size_drew] at sy1)); have : w.heap.size < y1.now.heap.size := (by omega); have : w.heap.size ≤ y1.now.heap.size := (by omega); have : w.heap.size < y1.now.heap.size + 1 + 1 := (by omega); have : yb.now.heap.size < y1.now.heap.size := (by omega); have : yb.now.heap.size ≤ y1.now.heap.size := (by omega); have : yb.now.heap.size < y1.now.heap.size + 1 + 1 := (by omega); have : yb.now.heap.size + 1 < y1.now.heap.size := (by omega); have : yb.now.heap.size + 1 ≤ y1.now.heap.size := (by omega); have : yb.now.heap.size + 1 < y1.now.heap.size + 1 + 1 := (by omega)) | (go_at_call 25; (first | with_reducible refine (Calls.giv2 (HI.out _)).mono ?_ | with_reducible refine (Calls.giv (HI.out _)).mono ?_); rintro _ _ ⟨y2, rfl, rfl⟩; have sy2 := Ext.size y2; (repeat (first | rw [World.size_alloc] at sy2 | rw [World.size_setCell] at sy2 | rw [World.size_drew] at sy2)); have : w.heap.size < y2.now.heap.size := (by omega); have : w.heap.size ≤ y2.now.heap.size := (by omega); have : w.heap.size < y2.now.heap.size + 1 + 1 := (by omega); have : yb.now.heap.size < y2.now.heap.size := (by omega); have : yb.now.heap.size ≤ y2.now.heap.size := (by omega); have : yb.now.heap.size < y2.now.heap.size + 1 + 1 := (by omega); have : yb.now.heap.size + 1 < y2.now.heap.size := (by omega); have : yb.now.heap.size + 1 ≤ y2.now.heap.size := (by omega); have : yb.now.heap.size + 1 < y2.now.heap.size + 1 + 1 := (by omega)) | (go_at_call 27; (first | with_reducible refine (Calls.giv2 (CL.out _)).mono ?_ | with_reducible refine (Calls.giv (CL.out _)).mono ?_); rintro _ _ ⟨y3, rfl, rfl⟩; have sy3 := Ext.size y3; (repeat (first | rw [World.size_alloc] at sy3 | rw [World.size_setCell] at sy3 | rw [World.size_drew] at sy3)); have : w.heap.size < y3.now.heap.size := (by omega); have : w.heap.size ≤ y3.now.heap.size := (by omega); have : w.heap.size < y3.now.heap.size + 1 + 1 := (by omega); have : yb.now.heap.size < y3.now.heap.size := (by omega); have : yb.now.heap.size ≤ y3.now.heap.size := (by omega); have : yb.now.heap.size < y3.now.heap.size + 1 + 1 := (by omega); have : yb.now.heap.size + 1 < y3.now.heap.size := (by omega); have : yb.now.heap.size + 1 ≤ y3.now.heap.size := (by omega); have : yb.now.heap.size + 1 < y3.now.heap.size + 1 + 1 := (by omega)))
  have hT : w.heap.size < yb.now.heap.size := by omega
  have hS : yb.now.heap.size + 1 < yr.now.heap.size := by omega
  have C0 : CR w yb.now.heap.size (yb.now.heap.size + 1) a b c d e f g h p len cap z 12 yr.now := by
    constructor
    rotate_right
    · repeat' (first | (with_reducible exact Below.refl _ _) | (with_reducible assumption) | (with_reducible refine Ext.below _ ?_ ?_) | (with_reducible refine RExt.below _ ?_ ?_ ?_) | (with_reducible refine Below.on ?_ (by with_reducible assumption) ?_) | (with_reducible refine Below.alloc ?_ ?_ _) | (with_reducible refine Below.drew ?_) | (with_reducible refine Below.setCell ?_ ?_ _) | (with_reducible exact Nat.le_refl _) | omega | (simp; done) | (simp [go_sem]; done) | (simp at *; omega))
    rotate_right
    · refine RingAt.ext yr ?_
      repeat (first | (with_reducible assumption) | (with_reducible refine RingAt.alloc ?_ _) | (with_reducible refine RingAt.set ?_ _ (by (try simp only [World.size_alloc]); omega)))
    all_goals first | omega | (rw [yr.cell (by (repeat (first | rw [World.size_alloc] | rw [World.size_setCell])); omega)]; simp [go_sem]; done)
  clear hw hs0 hr0 A1 A2 MO HI
  generalize yb.now.heap.size = T at *
  generalize yr.now = W0 at *
  clear rgr1 syr1 syr sy1
  go_loopw [10] (fun s W => ∃ (i : Int) (n : Nat), s = .int .i64 i ∧ Hid (i = n ∧ n ≤ 6) ∧ CR w T (T + 1) a b c d e f g h p len cap z (12 + 4 * n) W) (fun s _ => 6 - (intOf s).toNat)
  case atStart => exact ⟨0, 0, rfl, Go.Lib.hid ⟨rfl, by decide⟩, C0⟩
  case round =>
    obtain ⟨i, n, rfl, hi, hC⟩ := hrel
    by_cases hlt : i < 6
    · obtain ⟨a0, a1, a2, a3, b0, b1, b2, b3, lw, lT, lU, hR, hB⟩ := hC
      have hn : n < 6 := by have := hi.out; omega
      have nT : T ≠ w.heap.size := by omega
      have nU : T + 1 ≠ w.heap.size := by omega
      have S1 := Go.Lib.hid (S1.out n hn); have S2 := Go.Lib.hid (S2.out n hn); have WI := Go.Lib.hid (WI.out n hn); have CT := Go.Lib.hid (CT.out n hn); have HT := Go.Lib.hid (HT.out n hn)
      generalize px n = u1 at *
      generalize py n = v1 at *
      generalize qx n = u2 at *
      generalize qy n = v2 at *
      go_wp2_with fail
      refine wp_tell (fun A W A' W' => ∃ (B B' : Nat), A' = sets A [(42, .pointer (some ⟨w.heap.size, 0, none⟩)), (43, .agg #[.int .i64 a, .int .i64 b, .int .i64 c, .int .i64 d]), (44, .agg #[.int .i64 u1, .int .i64 v1]), (45, .pointer (some ⟨w.heap.size, 0, none⟩)), (46, .agg #[.int .i64 e, .int .i64 f, .int .i64 g, .int .i64 h]), (47, .agg #[.int .i64 u2, .int .i64 v2]), (11, .pointer (some ⟨B, 0, none⟩)), (12, .pointer (some ⟨B', 0, none⟩))] ∧ ∃ t : TwoR W w.heap.size p len cap z (12 + 4 * (n + 1)) B B' (.int .i64 u1) (.int .i64 v1) (.int .i64 u2) (.int .i64 v2), W' = t.at_.now) ?_ ?_
      focus
       repeat (rename_i q; clear q)
       try clear CL
       try clear CS
       try clear WI
       try clear CT
       try clear HT
       try clear HP
       try clear C0
       go_region_held3 (fun W => W.cell? ⟨T, 0, none⟩ = some (.int .i64 a) ∧ W.cell? ⟨T, 1, none⟩ = some (.int .i64 b) ∧ W.cell? ⟨T, 2, none⟩ = some (.int .i64 c) ∧ W.cell? ⟨T, 3, none⟩ = some (.int .i64 d) ∧ W.cell? ⟨T + 1, 0, none⟩ = some (.int .i64 e) ∧ W.cell? ⟨T + 1, 1, none⟩ = some (.int .i64 f) ∧ W.cell? ⟨T + 1, 2, none⟩ = some (.int .i64 g) ∧ W.cell? ⟨T + 1, 3, none⟩ = some (.int .i64 h)) ((refine ⟨?_, ?_, ?_, ?_, ?_, ?_, ?_, ?_⟩ <;> ((repeat (first | rw [cell_alloc_lt (by (try simp only [World.size_alloc, World.size_setCell]); omega)] | rw [cell_set_ne (by omega)] | rw [World.cell?_drew])); (try (rw [yt.cell (by (try simp only [World.size_alloc]); omega) (by omega)]; (repeat (first | rw [cell_alloc_lt (by (try simp only [World.size_alloc]); omega)] | rw [cell_set_ne (by omega)] | rw [World.cell?_drew])))); (try (rw [ys.cell (by (try simp only [World.size_alloc, World.size_drew]); omega) (by omega)]; (repeat (first | rw [cell_alloc_lt (by (try simp only [World.size_alloc]); omega)] | rw [cell_set_ne (by omega)] | rw [World.cell?_drew])))); (try simp only [World.cell?_drew]); assumption)))
        (first
          | (have _ := rgs; go_at_call 31; (with_reducible refine Calls.mono (Calls.rgiv (S2.out _ _ ?_)) ?_); (focus ((repeat (first | (with_reducible assumption) | (with_reducible refine RingAt.alloc ?_ _) | (with_reducible refine RingAt.drew ?_))); done)); (rintro _ _ ⟨yt, rfl, rfl, rgt⟩); have syt := RExt.size yt; (try simp only [World.size_alloc] at syt); have : w.heap.size < yt.now.heap.size := (by omega); have : T < yt.now.heap.size := (by omega); have : T + 1 < yt.now.heap.size := (by omega); (try (have : wr.heap.size < yt.now.heap.size := (by omega))); (try (have : wr.heap.size + 1 < yt.now.heap.size := (by omega))); (try (have : ys.now.heap.size < yt.now.heap.size := (by omega))); (try (have : ys.now.heap.size + 1 < yt.now.heap.size := (by omega))); have : ys.now.heap.size ≠ w.heap.size := (by omega); have : ys.now.heap.size + 1 ≠ w.heap.size := (by omega))
          | (go_at_call 31; (with_reducible refine Calls.mono (Calls.rgiv (S1.out _ _ ?_)) ?_); (focus ((repeat (first | (with_reducible assumption) | (with_reducible refine RingAt.alloc ?_ _) | (with_reducible refine RingAt.drew ?_))); done)); (rintro _ _ ⟨ys, rfl, rfl, rgs⟩); have sys := RExt.size ys; (try simp only [World.size_alloc, World.size_drew] at sys); have : w.heap.size < ys.now.heap.size := (by omega); have : T < ys.now.heap.size := (by omega); have : T + 1 < ys.now.heap.size := (by omega); (try (have : wr.heap.size < ys.now.heap.size := (by omega))); (try (have : wr.heap.size + 1 < ys.now.heap.size := (by omega))); have : wr.heap.size ≠ w.heap.size := (by omega); have : wr.heap.size + 1 ≠ w.heap.size := (by omega)))
       all_goals (repeat (rename_i q; clear q))
       all_goals ((try (have z0 : wr.heap.size < yt.now.heap.size := by omega)); (try (have z1 : wr.heap.size + 1 < yt.now.heap.size := by omega)); (try (have z2 : ys.now.heap.size < yt.now.heap.size := by omega)); (try (have z3 : ys.now.heap.size + 1 < yt.now.heap.size := by omega)); (try (have z4 : wr.heap.size < ys.now.heap.size := by omega)); (try (have z5 : wr.heap.size + 1 < ys.now.heap.size := by omega)); (try (have z6 : wr.heap.size ≠ w.heap.size := by omega)); (try (have z7 : wr.heap.size + 1 ≠ w.heap.size := by omega)); (try (have z8 : ys.now.heap.size ≠ w.heap.size := by omega)); (try (have z9 : ys.now.heap.size + 1 ≠ w.heap.size := by omega)); (try (have z10 : wr.heap.size ≠ ys.now.heap.size := by omega)); (try (have z11 : ys.now.heap.size ≠ wr.heap.size := by omega)))
       all_goals refine ⟨rfl, _, _, rfl, twoR_intro ?_ ?_ ?_ ?_ ?_ ?_ ?_ ?_ ?_ ?_ ?_⟩
       all_goals try omega
       all_goals try (simp only [World.size_alloc, World.size_setCell]; omega)
       all_goals try (simp [go_sem, *]; done)
       all_goals try (have hq0 : yt.now.cell? ⟨wr.heap.size, 0, none⟩ = some (.int .i64 0) := (yt.cell (by simp only [World.size_alloc]; omega) (by omega)).trans ((cell_alloc_lt (by omega)).trans ((ys.cell (by simp only [World.size_alloc, World.size_drew]; omega) (by omega)).trans (by simp [go_sem]))); have hq1 : yt.now.cell? ⟨wr.heap.size, 1, none⟩ = some (.int .i64 0) := (yt.cell (by simp only [World.size_alloc]; omega) (by omega)).trans ((cell_alloc_lt (by omega)).trans ((ys.cell (by simp only [World.size_alloc, World.size_drew]; omega) (by omega)).trans (by simp [go_sem]))); simp [go_sem, *]; done)
       all_goals try (repeat' (first | (with_reducible exact BelowX.refl _ _ _) | (with_reducible assumption) | (with_reducible refine RExt.belowX _ ?_ ?_) | (with_reducible refine Ext.belowX _ ?_ ?_) | (with_reducible refine BelowX.alloc ?_ ?_ _) | (with_reducible refine BelowX.drew ?_) | (with_reducible refine BelowX.setCell ?_ ?_ _) | (with_reducible exact Nat.le_refl _) | omega | (simp; done) | (simp [go_sem]; done) | (simp at *; omega)))
       all_goals try ((repeat (first | (with_reducible assumption) | (with_reducible refine RingAt.alloc ?_ _) | (with_reducible refine RingAt.drew ?_) | (with_reducible refine RingAt.set ?_ _ (by omega)))); done)
      rintro _ _ ⟨B, B', rfl, t, rfl⟩
      simp only [sets, List.foldl_cons, List.foldl_nil, List.set_cons_succ, List.set_cons_zero]
      have z1 := t.lo; have z2 := t.lo'; have z3 := t.lt; have z4 := t.lt'; have z5 := t.ne
      have zx := RExt.size t.at_
      have hL : LS w T (T + 1) B B' a b c d e f g h u1 v1 u2 v2 p len cap z (12 + 4 * (n + 1)) t.at_.now :=
        ⟨⟨(t.at_.cell lT nT).trans a0, (t.at_.cell lT nT).trans a1, (t.at_.cell lT nT).trans a2, (t.at_.cell lT nT).trans a3, (t.at_.cell lU nU).trans b0, (t.at_.cell lU nU).trans b1, (t.at_.cell lU nU).trans b2, (t.at_.cell lU nU).trans b3, by omega, by omega, by omega, t.ring, t.at_.below hB (by omega) (Nat.le_refl _)⟩, t.c0, t.c1, t.c0', t.c1', z3, z4⟩
      have wB : w.heap.size < B := by omega
      have wB' : w.heap.size < B' := by omega
      clear zx a0 a1 a2 a3 b0 b1 b2 b3 hR hB lw lT lU
      generalize t.at_.now = W1 at *
      clear t z1 z2 z3 z4
      have i0 : 0 ≤ i := by have := hi.out; omega
      have hL0 := hL
      obtain ⟨⟨a0, a1, a2, a3, b0, b1, b2, b3, lw, lT, lU, hR, hB⟩, p0, p1, q0, q1, lB, lB'⟩ := hL
      go_wp2_with (first | ((first | with_reducible refine wp_region_ext2 (by kernel_rfl) (by kernel_rfl) ?_ | with_reducible refine wp_region_ext (by kernel_rfl) (by kernel_rfl) ?_); (repeat (first | go_big_quiet_step ((first | (go_at_call 23; with_reducible exact Calls.ext (WI.out _)))) | quiet_step ((first | (go_at_call 23; with_reducible exact Calls.ext (WI.out _)))))); refine wpQuiet_nil ?_; rintro _ ⟨yr, rfl⟩; have syr := Ext.size yr; (repeat (first | rw [World.size_alloc] at syr | rw [World.size_setCell] at syr | rw [World.size_drew] at syr)); have : w.heap.size < yr.now.heap.size := (by omega); have : w.heap.size ≤ yr.now.heap.size := (by omega); have : w.heap.size < yr.now.heap.size + 1 + 1 := (by omega); have : T < yr.now.heap.size := (by omega); have : T ≤ yr.now.heap.size := (by omega); have : T < yr.now.heap.size + 1 + 1 := (by omega); have : T + 1 < yr.now.heap.size := (by omega); have : T + 1 ≤ yr.now.heap.size := (by omega); have : T + 1 < yr.now.heap.size + 1 + 1 := (by omega); have : B < yr.now.heap.size := (by omega); have : B ≤ yr.now.heap.size := (by omega); have : B < yr.now.heap.size + 1 + 1 := (by omega); have : B' < yr.now.heap.size := (by omega); have : B' ≤ yr.now.heap.size := (by omega); have : B' < yr.now.heap.size + 1 + 1 := (by omega)) | (go_at_call 23; (first | with_reducible refine (Calls.giv2 (WI.out _)).mono ?_ | with_reducible refine (Calls.giv (WI.out _)).mono ?_); rintro _ _ ⟨y1, rfl, rfl⟩; have sy1 := Ext.size y1; (repeat (first | rw [World.size_alloc] at sy1 | rw [World.size_setCell] at sy1 | rw [World.size_drew] at sy1)); have : w.heap.size < y1.now.heap.size := (by omega); have : w.heap.size ≤ y1.now.heap.size := (by omega); have : w.heap.size < y1.now.heap.size + 1 + 1 := (by omega); have : T < y1.now.heap.size := (by omega); have : T ≤ y1.now.heap.size := (by omega); have : T < y1.now.heap.size + 1 + 1 := (by omega); have : T + 1 < y1.now.heap.size := (by omega); have : T + 1 ≤ y1.now.heap.size := (by omega); have : T + 1 < y1.now.heap.size + 1 + 1 := (by omega); have : B < y1.now.heap.size := (by omega); have : B ≤ y1.now.heap.size := (by omega); have : B < y1.now.heap.size + 1 + 1 := (by omega); have : B' < y1.now.heap.size := (by omega); have : B' ≤ y1.now.heap.size := (by omega); have : B' < y1.now.heap.size + 1 + 1 := (by omega)))
      have hL := LS.ext hL0 y1
      clear hL0 a0 a1 a2 a3 b0 b1 b2 b3 lw lT lU hR hB p0 p1 q0 q1 lB lB'
      generalize y1.now = W2 at *
      have hL0 := hL
      obtain ⟨⟨a0, a1, a2, a3, b0, b1, b2, b3, lw, lT, lU, hR, hB⟩, p0, p1, q0, q1, lB, lB'⟩ := hL
      go_wp2_with fail
      apply wp_region_free 26 14 15 75 88 #[.int .i64 0, .int .i64 0, .int .i64 0, .int .i64 0] #[.int .i64 0, .int .i64 0, .int .i64 0, .int .i64 0] #[.int .i64 u1, .int .i64 b, .int .i64 c, .int .i64 v1] #[.int .i64 e, .int .i64 u2, .int .i64 v2, .int .i64 h] 48 48 (by kernel_rfl) (by kernel_rfl)
      case hal1 => intro a' W' K hk; refine wpOp_step rfl (fun K' hK' => ?_); go_simp; exact hK' _ _ hk
      case hal2 => intro a' W' K hk; refine wpOp_step rfl (fun K' hK' => ?_); go_simp; exact hK' _ _ hk
      case h =>
        intro z
        have sz := z.size
        have zc0 := (z.cell (o := 0) lB).trans p0
        have zc1 := (z.cell (o := 1) lB).trans p1
        have zc2 := (z.cell (o := 1) lT).trans a1
        have zc3 := (z.cell (o := 2) lT).trans a2
        have zc4 := (z.cell (o := 0) lU).trans b0
        have zc5 := (z.cell (o := 3) lU).trans b3
        have zc6 := (z.cell (o := 0) lB').trans q0
        have zc7 := (z.cell (o := 1) lB').trans q1
        have zs0 : B < z.now.heap.size := by omega
        have zs1 : B' < z.now.heap.size := by omega
        have zs2 : T < z.now.heap.size := by omega
        have zs3 : T + 1 < z.now.heap.size := by omega
        (repeat (first | go_big_quiet_step ((go_at_call 7; with_reducible exact Calls.ext (of_any _ _ _))) | quiet_step ((go_at_call 7; with_reducible exact Calls.ext (of_any _ _ _)))))
        exact wpQuiet_nil rfl
      case hfs => exact ⟨Nat.le_of_ble_eq_true rfl, Nat.le_of_ble_eq_true rfl⟩
      case hs1 =>
        intro a' W' K O hp hx hg hk
        refine wpOp_step rfl (fun K' hK' => ?_)
        refine (if_pos (by rfl)).mpr ?_
        exact store_op 48 (.tmp 14) (.tmp 75) rfl O #[.int .i64 u1, .int .i64 b, .int .i64 c, .int .i64 v1] hp (hx.trans rfl) 48 _ hg (by kernel_rfl) rfl (by simp [Value.oneCell']) (hK' _ _ hk)
      case hs2 =>
        intro a' W' K O hp hx hg hk
        refine wpOp_step rfl (fun K' hK' => ?_)
        refine (if_pos (by rfl)).mpr ?_
        exact store_op 48 (.tmp 15) (.tmp 88) rfl O #[.int .i64 e, .int .i64 u2, .int .i64 v2, .int .i64 h] hp (hx.trans rfl) 48 _ hg (by kernel_rfl) rfl (by simp [Value.oneCell']) (hK' _ _ hk)
      case hQ =>
      intro y O O' g1 g2 g3 g4 g5 g6 g7
      have hL := LS.ext hL0 y
      have k0 := cell_of_row y.now O 0 _ _ _ g6; have l0 := cell_of_row y.now O' 0 _ _ _ g7
      have k1 := cell_of_row y.now O 1 _ _ _ g6; have l1 := cell_of_row y.now O' 1 _ _ _ g7
      have k2 := cell_of_row y.now O 2 _ _ _ g6; have l2 := cell_of_row y.now O' 2 _ _ _ g7
      have k3 := cell_of_row y.now O 3 _ _ _ g6; have l3 := cell_of_row y.now O' 3 _ _ _ g7
      simp only [List.getElem?_toArray, List.getElem?_cons_zero, List.getElem?_cons_succ] at k0 k1 k2 k3 l0 l1 l2 l3
      have lO := g3; have lO' := g4
      clear g1 g2 g3 g4 g5 g6 g7 hL0 a0 a1 a2 a3 b0 b1 b2 b3 lw lT lU hR hB p0 p1 q0 q1 lB lB'
      generalize y.now = W3 at *
      clear y
      simp only [Act.put, List.setIfInBounds_toArray, List.set_cons_succ, List.set_cons_zero]
      have hL0 := hL
      obtain ⟨⟨a0, a1, a2, a3, b0, b1, b2, b3, lw, lT, lU, hR, hB⟩, p0, p1, q0, q1, lB, lB'⟩ := hL
      go_wp2_with (first | ((first | with_reducible refine wp_region_ext2 (by kernel_rfl) (by kernel_rfl) ?_ | with_reducible refine wp_region_ext (by kernel_rfl) (by kernel_rfl) ?_); (repeat (first | go_big_quiet_step ((first | fail)) | quiet_step ((first | fail)))); refine wpQuiet_nil ?_; rintro _ ⟨yr, rfl⟩; have syr := Ext.size yr; (repeat (first | rw [World.size_alloc] at syr | rw [World.size_setCell] at syr | rw [World.size_drew] at syr)); have : w.heap.size < yr.now.heap.size := (by omega); have : w.heap.size ≤ yr.now.heap.size := (by omega); have : w.heap.size < yr.now.heap.size + 1 + 1 := (by omega); have : T < yr.now.heap.size := (by omega); have : T ≤ yr.now.heap.size := (by omega); have : T < yr.now.heap.size + 1 + 1 := (by omega); have : T + 1 < yr.now.heap.size := (by omega); have : T + 1 ≤ yr.now.heap.size := (by omega); have : T + 1 < yr.now.heap.size + 1 + 1 := (by omega); have : B < yr.now.heap.size := (by omega); have : B ≤ yr.now.heap.size := (by omega); have : B < yr.now.heap.size + 1 + 1 := (by omega); have : B' < yr.now.heap.size := (by omega); have : B' ≤ yr.now.heap.size := (by omega); have : B' < yr.now.heap.size + 1 + 1 := (by omega); have : O < yr.now.heap.size := (by omega); have : O ≤ yr.now.heap.size := (by omega); have : O < yr.now.heap.size + 1 + 1 := (by omega); have : O' < yr.now.heap.size := (by omega); have : O' ≤ yr.now.heap.size := (by omega); have : O' < yr.now.heap.size + 1 + 1 := (by omega)))
      have hL := hL0
      clear hL0 a0 a1 a2 a3 b0 b1 b2 b3 lw lT lU hR hB p0 p1 q0 q1 lB lB'
      generalize W3 = W4 at *
      have hL0 := hL
      obtain ⟨⟨a0, a1, a2, a3, b0, b1, b2, b3, lw, lT, lU, hR, hB⟩, p0, p1, q0, q1, lB, lB'⟩ := hL
      go_wp2_with fail
      apply wp_region_free 22 16 17 117 128 #[.int .i64 0, .int .i64 0, .int .i64 0, .int .i64 0] #[.int .i64 0, .int .i64 0, .int .i64 0, .int .i64 0] #[.int .i64 u1, .int .i64 u1, .int .i64 v1, .int .i64 v1] #[.int .i64 u2, .int .i64 u2, .int .i64 v2, .int .i64 v2] 48 48 (by kernel_rfl) (by kernel_rfl)
      case hal1 => intro a' W' K hk; refine wpOp_step rfl (fun K' hK' => ?_); go_simp; exact hK' _ _ hk
      case hal2 => intro a' W' K hk; refine wpOp_step rfl (fun K' hK' => ?_); go_simp; exact hK' _ _ hk
      case h =>
        intro z
        have sz := z.size
        have zc0 := (z.cell (o := 0) lB).trans p0
        have zc1 := (z.cell (o := 1) lB).trans p1
        have zc2 := (z.cell (o := 0) lB').trans q0
        have zc3 := (z.cell (o := 1) lB').trans q1
        have zs0 : B < z.now.heap.size := by omega
        have zs1 : B' < z.now.heap.size := by omega
        have zs2 : T < z.now.heap.size := by omega
        have zs3 : T + 1 < z.now.heap.size := by omega
        (repeat (first | go_big_quiet_step ((go_at_call 7; with_reducible exact Calls.ext (of_any _ _ _))) | quiet_step ((go_at_call 7; with_reducible exact Calls.ext (of_any _ _ _)))))
        exact wpQuiet_nil rfl
      case hfs => exact ⟨Nat.le_of_ble_eq_true rfl, Nat.le_of_ble_eq_true rfl⟩
      case hs1 =>
        intro a' W' K O hp hx hg hk
        refine wpOp_step rfl (fun K' hK' => ?_)
        refine (if_pos (by rfl)).mpr ?_
        exact store_op 48 (.tmp 16) (.tmp 117) rfl O #[.int .i64 u1, .int .i64 u1, .int .i64 v1, .int .i64 v1] hp (hx.trans rfl) 48 _ hg (by kernel_rfl) rfl (by simp [Value.oneCell']) (hK' _ _ hk)
      case hs2 =>
        intro a' W' K O hp hx hg hk
        refine wpOp_step rfl (fun K' hK' => ?_)
        refine (if_pos (by rfl)).mpr ?_
        exact store_op 48 (.tmp 17) (.tmp 128) rfl O #[.int .i64 u2, .int .i64 u2, .int .i64 v2, .int .i64 v2] hp (hx.trans rfl) 48 _ hg (by kernel_rfl) rfl (by simp [Value.oneCell']) (hK' _ _ hk)
      case hQ =>
      intro y O O' g1 g2 g3 g4 g5 g6 g7
      have hL := LS.ext hL0 y
      have k0 := cell_of_row y.now O 0 _ _ _ g6; have l0 := cell_of_row y.now O' 0 _ _ _ g7
      have k1 := cell_of_row y.now O 1 _ _ _ g6; have l1 := cell_of_row y.now O' 1 _ _ _ g7
      have k2 := cell_of_row y.now O 2 _ _ _ g6; have l2 := cell_of_row y.now O' 2 _ _ _ g7
      have k3 := cell_of_row y.now O 3 _ _ _ g6; have l3 := cell_of_row y.now O' 3 _ _ _ g7
      simp only [List.getElem?_toArray, List.getElem?_cons_zero, List.getElem?_cons_succ] at k0 k1 k2 k3 l0 l1 l2 l3
      have lO := g3; have lO' := g4
      clear g1 g2 g3 g4 g5 g6 g7 hL0 a0 a1 a2 a3 b0 b1 b2 b3 lw lT lU hR hB p0 p1 q0 q1 lB lB'
      generalize y.now = W5 at *
      clear y
      simp only [Act.put, List.setIfInBounds_toArray, List.set_cons_succ, List.set_cons_zero]
      have hL0 := hL
      obtain ⟨⟨a0, a1, a2, a3, b0, b1, b2, b3, lw, lT, lU, hR, hB⟩, p0, p1, q0, q1, lB, lB'⟩ := hL
      go_wp2_with (first | ((first | with_reducible refine wp_region_ext2 (by kernel_rfl) (by kernel_rfl) ?_ | with_reducible refine wp_region_ext (by kernel_rfl) (by kernel_rfl) ?_); (repeat (first | go_big_quiet_step ((first | (go_at_call 27; with_reducible exact Calls.ext (CT.out _)) | (go_at_call 25; with_reducible exact Calls.ext (HT.out _)))) | quiet_step ((first | (go_at_call 27; with_reducible exact Calls.ext (CT.out _)) | (go_at_call 25; with_reducible exact Calls.ext (HT.out _)))))); refine wpQuiet_nil ?_; rintro _ ⟨yr, rfl⟩; have syr := Ext.size yr; (repeat (first | rw [World.size_alloc] at syr | rw [World.size_setCell] at syr | rw [World.size_drew] at syr)); have : w.heap.size < yr.now.heap.size := (by omega); have : w.heap.size ≤ yr.now.heap.size := (by omega); have : w.heap.size < yr.now.heap.size + 1 + 1 := (by omega); have : T < yr.now.heap.size := (by omega); have : T ≤ yr.now.heap.size := (by omega); have : T < yr.now.heap.size + 1 + 1 := (by omega); have : T + 1 < yr.now.heap.size := (by omega); have : T + 1 ≤ yr.now.heap.size := (by omega); have : T + 1 < yr.now.heap.size + 1 + 1 := (by omega); have : B < yr.now.heap.size := (by omega); have : B ≤ yr.now.heap.size := (by omega); have : B < yr.now.heap.size + 1 + 1 := (by omega); have : B' < yr.now.heap.size := (by omega); have : B' ≤ yr.now.heap.size := (by omega); have : B' < yr.now.heap.size + 1 + 1 := (by omega); have : O < yr.now.heap.size := (by omega); have : O ≤ yr.now.heap.size := (by omega); have : O < yr.now.heap.size + 1 + 1 := (by omega); have : O' < yr.now.heap.size := (by omega); have : O' ≤ yr.now.heap.size := (by omega); have : O' < yr.now.heap.size + 1 + 1 := (by omega)) | (go_at_call 27; (first | with_reducible refine (Calls.giv2 (CT.out _)).mono ?_ | with_reducible refine (Calls.giv (CT.out _)).mono ?_); rintro _ _ ⟨y1, rfl, rfl⟩; have sy1 := Ext.size y1; (repeat (first | rw [World.size_alloc] at sy1 | rw [World.size_setCell] at sy1 | rw [World.size_drew] at sy1)); have : w.heap.size < y1.now.heap.size := (by omega); have : w.heap.size ≤ y1.now.heap.size := (by omega); have : w.heap.size < y1.now.heap.size + 1 + 1 := (by omega); have : T < y1.now.heap.size := (by omega); have : T ≤ y1.now.heap.size := (by omega); have : T < y1.now.heap.size + 1 + 1 := (by omega); have : T + 1 < y1.now.heap.size := (by omega); have : T + 1 ≤ y1.now.heap.size := (by omega); have : T + 1 < y1.now.heap.size + 1 + 1 := (by omega); have : B < y1.now.heap.size := (by omega); have : B ≤ y1.now.heap.size := (by omega); have : B < y1.now.heap.size + 1 + 1 := (by omega); have : B' < y1.now.heap.size := (by omega); have : B' ≤ y1.now.heap.size := (by omega); have : B' < y1.now.heap.size + 1 + 1 := (by omega); have : O < y1.now.heap.size := (by omega); have : O ≤ y1.now.heap.size := (by omega); have : O < y1.now.heap.size + 1 + 1 := (by omega); have : O' < y1.now.heap.size := (by omega); have : O' ≤ y1.now.heap.size := (by omega); have : O' < y1.now.heap.size + 1 + 1 := (by omega)) | (go_at_call 25; (first | with_reducible refine (Calls.giv2 (HT.out _)).mono ?_ | with_reducible refine (Calls.giv (HT.out _)).mono ?_); rintro _ _ ⟨y2, rfl, rfl⟩; have sy2 := Ext.size y2; (repeat (first | rw [World.size_alloc] at sy2 | rw [World.size_setCell] at sy2 | rw [World.size_drew] at sy2)); have : w.heap.size < y2.now.heap.size := (by omega); have : w.heap.size ≤ y2.now.heap.size := (by omega); have : w.heap.size < y2.now.heap.size + 1 + 1 := (by omega); have : T < y2.now.heap.size := (by omega); have : T ≤ y2.now.heap.size := (by omega); have : T < y2.now.heap.size + 1 + 1 := (by omega); have : T + 1 < y2.now.heap.size := (by omega); have : T + 1 ≤ y2.now.heap.size := (by omega); have : T + 1 < y2.now.heap.size + 1 + 1 := (by omega); have : B < y2.now.heap.size := (by omega); have : B ≤ y2.now.heap.size := (by omega); have : B < y2.now.heap.size + 1 + 1 := (by omega); have : B' < y2.now.heap.size := (by omega); have : B' ≤ y2.now.heap.size := (by omega); have : B' < y2.now.heap.size + 1 + 1 := (by omega); have : O < y2.now.heap.size := (by omega); have : O ≤ y2.now.heap.size := (by omega); have : O < y2.now.heap.size + 1 + 1 := (by omega); have : O' < y2.now.heap.size := (by omega); have : O' ≤ y2.now.heap.size := (by omega); have : O' < y2.now.heap.size + 1 + 1 := (by omega)))
      exact ⟨⟨i + 1, n + 1, rfl, Go.Lib.hid ⟨by have := hi.out; omega, by omega⟩, hL0.cr.ext y2⟩, by simp [intOf]; omega⟩
    · obtain ⟨a0, a1, a2, a3, b0, b1, b2, b3, lw, lT, lU, hR, hB⟩ := hC
      have hge : 6 ≤ i := by omega
      go_wp2_with (first | ((first | with_reducible refine wp_region_ext2 (by kernel_rfl) (by kernel_rfl) ?_ | with_reducible refine wp_region_ext (by kernel_rfl) (by kernel_rfl) ?_); (repeat (first | go_big_quiet_step ((first | (go_at_call 27; with_reducible exact Calls.ext (CL.out _)) | (go_at_call 27; with_reducible exact Calls.ext (CS.out _)) | (go_at_call 5; with_reducible exact Calls.ext (awake_any _)))) | quiet_step ((first | (go_at_call 27; with_reducible exact Calls.ext (CL.out _)) | (go_at_call 27; with_reducible exact Calls.ext (CS.out _)) | (go_at_call 5; with_reducible exact Calls.ext (awake_any _)))))); refine wpQuiet_nil ?_; rintro _ ⟨yr, rfl⟩; have syr := Ext.size yr; (repeat (first | rw [World.size_alloc] at syr | rw [World.size_setCell] at syr | rw [World.size_drew] at syr)); have : w.heap.size < yr.now.heap.size := (by omega); have : w.heap.size ≤ yr.now.heap.size := (by omega); have : w.heap.size < yr.now.heap.size + 1 + 1 := (by omega); have : T < yr.now.heap.size := (by omega); have : T ≤ yr.now.heap.size := (by omega); have : T < yr.now.heap.size + 1 + 1 := (by omega); have : T + 1 < yr.now.heap.size := (by omega); have : T + 1 ≤ yr.now.heap.size := (by omega); have : T + 1 < yr.now.heap.size + 1 + 1 := (by omega)) | (go_at_call 27; (first | with_reducible refine (Calls.giv2 (CL.out _)).mono ?_ | with_reducible refine (Calls.giv (CL.out _)).mono ?_); rintro _ _ ⟨y1, rfl, rfl⟩; have sy1 := Ext.size y1; (repeat (first | rw [World.size_alloc] at sy1 | rw [World.size_setCell] at sy1 | rw [World.size_drew] at sy1)); have : w.heap.size < y1.now.heap.size := (by omega); have : w.heap.size ≤ y1.now.heap.size := (by omega); have : w.heap.size < y1.now.heap.size + 1 + 1 := (by omega); have : T < y1.now.heap.size := (by omega); have : T ≤ y1.now.heap.size := (by omega); have : T < y1.now.heap.size + 1 + 1 := (by omega); have : T + 1 < y1.now.heap.size := (by omega); have : T + 1 ≤ y1.now.heap.size := (by omega); have : T + 1 < y1.now.heap.size + 1 + 1 := (by omega)) | (go_at_call 27; (first | with_reducible refine (Calls.giv2 (CS.out _)).mono ?_ | with_reducible refine (Calls.giv (CS.out _)).mono ?_); rintro _ _ ⟨y2, rfl, rfl⟩; have sy2 := Ext.size y2; (repeat (first | rw [World.size_alloc] at sy2 | rw [World.size_setCell] at sy2 | rw [World.size_drew] at sy2)); have : w.heap.size < y2.now.heap.size := (by omega); have : w.heap.size ≤ y2.now.heap.size := (by omega); have : w.heap.size < y2.now.heap.size + 1 + 1 := (by omega); have : T < y2.now.heap.size := (by omega); have : T ≤ y2.now.heap.size := (by omega); have : T < y2.now.heap.size + 1 + 1 := (by omega); have : T + 1 < y2.now.heap.size := (by omega); have : T + 1 ≤ y2.now.heap.size := (by omega); have : T + 1 < y2.now.heap.size + 1 + 1 := (by omega)) | (go_at_call 5; (first | with_reducible refine (Calls.giv2 (awake_any _)).mono ?_ | with_reducible refine (Calls.giv (awake_any _)).mono ?_); rintro _ _ ⟨y3, rfl, rfl⟩; have sy3 := Ext.size y3; (repeat (first | rw [World.size_alloc] at sy3 | rw [World.size_setCell] at sy3 | rw [World.size_drew] at sy3)); have : w.heap.size < y3.now.heap.size := (by omega); have : w.heap.size ≤ y3.now.heap.size := (by omega); have : w.heap.size < y3.now.heap.size + 1 + 1 := (by omega); have : T < y3.now.heap.size := (by omega); have : T ≤ y3.now.heap.size := (by omega); have : T < y3.now.heap.size + 1 + 1 := (by omega); have : T + 1 < y3.now.heap.size := (by omega); have : T + 1 ≤ y3.now.heap.size := (by omega); have : T + 1 < y3.now.heap.size + 1 + 1 := (by omega)))
      go_returns
      refine ⟨rfl, ?_⟩
      repeat' (first | (with_reducible exact Below.refl _ _) | (with_reducible assumption) | (with_reducible refine Ext.below _ ?_ ?_) | (with_reducible refine RExt.below _ ?_ ?_ ?_) | (with_reducible refine Below.on ?_ (by with_reducible assumption) ?_) | (with_reducible refine Below.alloc ?_ ?_ _) | (with_reducible refine Below.drew ?_) | (with_reducible refine Below.setCell ?_ ?_ _) | (with_reducible exact Nat.le_refl _) | omega | (simp; done) | (simp [go_sem]; done) | (simp at *; omega))
end Go.Proofs.Ytagfhekjmkdjkaa

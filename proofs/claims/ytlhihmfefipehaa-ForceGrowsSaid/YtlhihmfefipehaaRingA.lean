/- Contracts of what the statements make of a ring: areas, places of them. No condition. -/
import Derived.Test.YtlhihmfefipehaaRing
namespace Go.Proofs.Ytlhihmfefipehaa
open Go.RowKit
attribute [local go_sem] Ext.cell Ext.frozen Ext.lt Ext.le Ext.lt_add Ext.le_add Ext.ne Ext.ne' lt2 lt3 lt4 lt5 le2 le3 le4
attribute [local go_sem] RExt.cell RExt.frozen RExt.lt RExt.le RExt.lt_add RExt.le_add RExt.ne RExt.ne'
/-- About what the spans of an area lie. -/
def aboutX (z : Nat → Int) (len k : Nat) (most : Int) : Int := -most + ringX z len k % (most - -most + 1)
theorem aboutX_bounds (z : Nat → Int) (len k : Nat) (most : Int) (h : 0 ≤ most) : -most ≤ aboutX z len k most ∧ aboutX z len k most ≤ most := by
  unfold aboutX
  have b1 := Int.emod_nonneg (ringX z len k) (b := most - -most + 1) (by omega)
  have b2 := Int.emod_lt_of_pos (ringX z len k) (b := most - -most + 1) (by omega)
  omega
def arLo (z : Nat → Int) (len k : Nat) (most wide : Int) : Int := spanLo z len (k + 1) (aboutX z len k most) wide
def arHi (z : Nat → Int) (len k : Nat) (most wide : Int) : Int := spanHi z len (k + 1) (aboutX z len k most) wide
theorem ar_bounds (z : Nat → Int) (len k : Nat) (most wide : Int) (h : 0 ≤ most) (hw : 0 ≤ wide) : -most - wide ≤ arLo z len k most wide ∧ arLo z len k most wide ≤ arHi z len k most wide ∧ arHi z len k most wide ≤ most + wide := by
  have := aboutX_bounds z len k most h
  have := spanOf_bounds z len (k + 1) (aboutX z len k most) wide hw
  unfold arLo arHi; omega
theorem AreaOf_r (most wide : Int) (b : Nat) (p : Option Addr) (len cap : Nat) (z : Nat → Int) (k : Nat) (w : World) (hk : k < 10000000) (hm1 : 0 ≤ most) (hm2 : most ≤ 1000000000) (hw1 : 0 ≤ wide) (hw2 : wide ≤ 1000000000) (hr : RingAt w b p len cap z k) :
    Calls Try.prog 30 #[.pointer (some ⟨b, 0, none⟩), .int .i64 most, .int .i64 wide] w (RGives (.agg #[.int .i64 (arLo z len k most wide), .int .i64 (arHi z len k most wide), .int .i64 (arLo z len (k + 3) most wide), .int .i64 (arHi z len (k + 3) most wide)]) b p len cap z (k + 6) w) := by
  obtain ⟨a1, a2⟩ := aboutX_bounds z len k most hm1
  obtain ⟨a3, a4⟩ := aboutX_bounds z len (k + 3) most hm1
  have H1 := Go.Lib.hid (fun W => Range_r (-most) most b p len cap z k W (by omega) (by omega) (by omega) (by omega))
  have H2 := Go.Lib.hid (fun W => SpanOf_r (aboutX z len k most) wide b p len cap z (k + 1) W (by omega) (by omega) (by omega) hw1 hw2)
  have H3 := Go.Lib.hid (fun W => Range_r (-most) most b p len cap z (k + 3) W (by omega) (by omega) (by omega) (by omega))
  have H4 := Go.Lib.hid (fun W => SpanOf_r (aboutX z len (k + 3) most) wide b p len cap z (k + 4) W (by omega) (by omega) (by omega) hw1 hw2)
  unfold arLo arHi
  change Hid (∀ W, _ → Calls _ _ _ _ (RGives (.int .i64 (aboutX z len k most)) _ _ _ _ _ _ _)) at H1
  change Hid (∀ W, _ → Calls _ _ _ _ (RGives (.int .i64 (aboutX z len (k + 3) most)) _ _ _ _ _ _ _)) at H3
  simp only [show k + 3 + 1 = k + 4 from rfl] at H3 ⊢
  generalize aboutX z len k most = x at *
  generalize aboutX z len (k + 3) most = y at *
  generalize spanLo z len (k + 1) x wide = l1' at *
  generalize spanHi z len (k + 1) x wide = h1 at *
  generalize spanLo z len (k + 4) y wide = l2' at *
  generalize spanHi z len (k + 4) y wide = h2 at *
  have hl := hr.lt
  have hne : w.heap.size ≠ b := by omega
  go_enter Try.func30, Try.ntmps30
  go_wp2_with (first | ((first | with_reducible refine wrx2 ?_ | with_reducible refine wrx ?_); (repeat (first | go_big_quiet_step ((first | fail)) | quiet_step ((first | fail)))); refine wpQuiet_nil ?_; rintro _ ⟨yr, rfl⟩; have syr := Ext.size yr; (repeat (first | rw [World.size_alloc] at syr | rw [World.size_setCell] at syr | rw [World.size_drew] at syr)); have : b < yr.now.heap.size := (by omega); have : b ≤ yr.now.heap.size := (by omega); have : b < yr.now.heap.size + 1 + 1 := (by omega); have : w.heap.size < yr.now.heap.size := (by omega); have : w.heap.size ≤ yr.now.heap.size := (by omega); have : w.heap.size < yr.now.heap.size + 1 + 1 := (by omega); (try (have rgxr := RingAt.ext yr (by first | (with_reducible assumption) | (with_reducible exact RingAt.alloc (by assumption) _) | (with_reducible exact RingAt.alloc (RingAt.alloc (by assumption) _) _))))) | (go_at_call 25; (with_reducible refine Calls.mono (Calls.rgiv (H1.out _ ?_)) ?_); (focus ((repeat (first | (with_reducible assumption) | (with_reducible refine RingAt.alloc ?_ _) | (with_reducible refine RingAt.drew ?_) | (with_reducible refine RingAt.set ?_ _ (by omega)))); done)); (rintro _ _ ⟨yr1, rfl, rfl, rgr1⟩); have syr1 := RExt.size yr1; (repeat (first | rw [World.size_alloc] at syr1 | rw [World.size_setCell] at syr1 | rw [World.size_drew] at syr1)); have : b < yr1.now.heap.size := (by omega); have : b ≤ yr1.now.heap.size := (by omega); have : b < yr1.now.heap.size + 1 + 1 := (by omega); have : w.heap.size < yr1.now.heap.size := (by omega); have : w.heap.size ≤ yr1.now.heap.size := (by omega); have : w.heap.size < yr1.now.heap.size + 1 + 1 := (by omega)))
  rename RExt _ b => ya
  go_wp2_with (first | ((first | with_reducible refine wrx2 ?_ | with_reducible refine wrx ?_); (repeat (first | go_big_quiet_step ((first | fail)) | quiet_step ((first | fail)))); refine wpQuiet_nil ?_; rintro _ ⟨yr, rfl⟩; have syr := Ext.size yr; (repeat (first | rw [World.size_alloc] at syr | rw [World.size_setCell] at syr | rw [World.size_drew] at syr)); have : b < yr.now.heap.size := (by omega); have : b ≤ yr.now.heap.size := (by omega); have : b < yr.now.heap.size + 1 + 1 := (by omega); have : w.heap.size < yr.now.heap.size := (by omega); have : w.heap.size ≤ yr.now.heap.size := (by omega); have : w.heap.size < yr.now.heap.size + 1 + 1 := (by omega); (try (have rgxr := RingAt.ext yr (by first | (with_reducible assumption) | (with_reducible exact RingAt.alloc (by assumption) _) | (with_reducible exact RingAt.alloc (RingAt.alloc (by assumption) _) _))))) | (go_at_call 62; (with_reducible refine Calls.mono (Calls.rgiv (H2.out _ ?_)) ?_); (focus ((repeat (first | (with_reducible assumption) | (with_reducible refine RingAt.alloc ?_ _) | (with_reducible refine RingAt.drew ?_) | (with_reducible refine RingAt.set ?_ _ (by omega)))); done)); (rintro _ _ ⟨yr1, rfl, rfl, rgr1⟩); have syr1 := RExt.size yr1; (repeat (first | rw [World.size_alloc] at syr1 | rw [World.size_setCell] at syr1 | rw [World.size_drew] at syr1)); have : b < yr1.now.heap.size := (by omega); have : b ≤ yr1.now.heap.size := (by omega); have : b < yr1.now.heap.size + 1 + 1 := (by omega); have : w.heap.size < yr1.now.heap.size := (by omega); have : w.heap.size ≤ yr1.now.heap.size := (by omega); have : w.heap.size < yr1.now.heap.size + 1 + 1 := (by omega)))
  rename RExt _ b => yb
  go_wp2_with (first | ((first | with_reducible refine wrx2 ?_ | with_reducible refine wrx ?_); (repeat (first | go_big_quiet_step ((first | fail)) | quiet_step ((first | fail)))); refine wpQuiet_nil ?_; rintro _ ⟨yr, rfl⟩; have syr := Ext.size yr; (repeat (first | rw [World.size_alloc] at syr | rw [World.size_setCell] at syr | rw [World.size_drew] at syr)); have : b < yr.now.heap.size := (by omega); have : b ≤ yr.now.heap.size := (by omega); have : b < yr.now.heap.size + 1 + 1 := (by omega); have : w.heap.size < yr.now.heap.size := (by omega); have : w.heap.size ≤ yr.now.heap.size := (by omega); have : w.heap.size < yr.now.heap.size + 1 + 1 := (by omega); (try (have rgxr := RingAt.ext yr (by first | (with_reducible assumption) | (with_reducible exact RingAt.alloc (by assumption) _) | (with_reducible exact RingAt.alloc (RingAt.alloc (by assumption) _) _))))) | (go_at_call 25; (with_reducible refine Calls.mono (Calls.rgiv (H3.out _ ?_)) ?_); (focus ((repeat (first | (with_reducible assumption) | (with_reducible refine RingAt.alloc ?_ _) | (with_reducible refine RingAt.drew ?_) | (with_reducible refine RingAt.set ?_ _ (by omega)))); done)); (rintro _ _ ⟨yr1, rfl, rfl, rgr1⟩); have syr1 := RExt.size yr1; (repeat (first | rw [World.size_alloc] at syr1 | rw [World.size_setCell] at syr1 | rw [World.size_drew] at syr1)); have : b < yr1.now.heap.size := (by omega); have : b ≤ yr1.now.heap.size := (by omega); have : b < yr1.now.heap.size + 1 + 1 := (by omega); have : w.heap.size < yr1.now.heap.size := (by omega); have : w.heap.size ≤ yr1.now.heap.size := (by omega); have : w.heap.size < yr1.now.heap.size + 1 + 1 := (by omega)))
  rename RExt _ b => yc
  go_wp2_with (first | ((first | with_reducible refine wrx2 ?_ | with_reducible refine wrx ?_); (repeat (first | go_big_quiet_step ((first | fail)) | quiet_step ((first | fail)))); refine wpQuiet_nil ?_; rintro _ ⟨yr, rfl⟩; have syr := Ext.size yr; (repeat (first | rw [World.size_alloc] at syr | rw [World.size_setCell] at syr | rw [World.size_drew] at syr)); have : b < yr.now.heap.size := (by omega); have : b ≤ yr.now.heap.size := (by omega); have : b < yr.now.heap.size + 1 + 1 := (by omega); have : w.heap.size < yr.now.heap.size := (by omega); have : w.heap.size ≤ yr.now.heap.size := (by omega); have : w.heap.size < yr.now.heap.size + 1 + 1 := (by omega); (try (have rgxr := RingAt.ext yr (by first | (with_reducible assumption) | (with_reducible exact RingAt.alloc (by assumption) _) | (with_reducible exact RingAt.alloc (RingAt.alloc (by assumption) _) _))))) | (go_at_call 62; (with_reducible refine Calls.mono (Calls.rgiv (H4.out _ ?_)) ?_); (focus ((repeat (first | (with_reducible assumption) | (with_reducible refine RingAt.alloc ?_ _) | (with_reducible refine RingAt.drew ?_) | (with_reducible refine RingAt.set ?_ _ (by omega)))); done)); (rintro _ _ ⟨yr1, rfl, rfl, rgr1⟩); have syr1 := RExt.size yr1; (repeat (first | rw [World.size_alloc] at syr1 | rw [World.size_setCell] at syr1 | rw [World.size_drew] at syr1)); have : b < yr1.now.heap.size := (by omega); have : b ≤ yr1.now.heap.size := (by omega); have : b < yr1.now.heap.size + 1 + 1 := (by omega); have : w.heap.size < yr1.now.heap.size := (by omega); have : w.heap.size ≤ yr1.now.heap.size := (by omega); have : w.heap.size < yr1.now.heap.size + 1 + 1 := (by omega)))
  have l : ∀ o, yr1.now.cell? ⟨w.heap.size, o, none⟩ = (w.alloc (.cells #[.int .i64 0, .int .i64 0, .int .i64 0, .int .i64 0] 33)).cell? ⟨w.heap.size, o, none⟩ := fun o => by
    rw [yr1.cell (by omega) hne, yc.cell (by omega) hne, yb.cell (by omega) hne, ya.cell (by simp) hne]
  have l0 : yr1.now.cell? ⟨w.heap.size, 0, none⟩ = some (.int .i64 0) := by rw [l]; simp [go_sem]
  have l1 : yr1.now.cell? ⟨w.heap.size, 1, none⟩ = some (.int .i64 0) := by rw [l]; simp [go_sem]
  have l2 : yr1.now.cell? ⟨w.heap.size, 2, none⟩ = some (.int .i64 0) := by rw [l]; simp [go_sem]
  have l3 : yr1.now.cell? ⟨w.heap.size, 3, none⟩ = some (.int .i64 0) := by rw [l]; simp [go_sem]
  refine bodyPost_ret (v := .agg #[.int .i64 l1', .int .i64 h1, .int .i64 l2', .int .i64 h2]) (by simp [results, Try.results30, go_sem, l0, l1, l2, l3]) rfl ?_
  refine ⟨rfl, ?_, (((rgr1.set _ (by omega)).set _ (by omega)).set _ (by omega)).set _ (by omega)⟩
  repeat' (first | (with_reducible exact BelowX.refl _ _ _) | (with_reducible assumption) | (with_reducible refine RExt.belowX _ ?_ ?_) | (with_reducible refine Ext.belowX _ ?_ ?_) | (with_reducible refine BelowX.alloc ?_ ?_ _) | (with_reducible refine BelowX.drew ?_) | (with_reducible refine BelowX.setCell ?_ ?_ _) | (with_reducible exact Nat.le_refl _) | omega | (simp; done) | (simp [go_sem]; done) | (simp at *; omega))
/-- A number of a span, made of a number of the ring. -/
def someX (z : Nat → Int) (len k : Nat) (lo hi : Int) : Int := lo + ringX z len k % (hi - lo + 1)
theorem someX_bounds (z : Nat → Int) (len k : Nat) (lo hi : Int) (h : lo ≤ hi) : lo ≤ someX z len k lo hi ∧ someX z len k lo hi ≤ hi := by
  unfold someX
  have b1 := Int.emod_nonneg (ringX z len k) (b := hi - lo + 1) (by omega)
  have b2 := Int.emod_lt_of_pos (ringX z len k) (b := hi - lo + 1) (by omega)
  omega
theorem SomeIn_r (a1 a2 c1 c2 : Int) (b : Nat) (p : Option Addr) (len cap : Nat) (z : Nat → Int) (k : Nat) (w : World) (hk : k < 10000000) (h1 : -1000000000 ≤ a1) (h2 : a1 ≤ a2) (h3 : a2 ≤ 1000000000) (h4 : -1000000000 ≤ c1) (h5 : c1 ≤ c2) (h6 : c2 ≤ 1000000000) (hr : RingAt w b p len cap z k) :
    Calls Try.prog 34 #[.pointer (some ⟨b, 0, none⟩), .agg #[.int .i64 a1, .int .i64 a2, .int .i64 c1, .int .i64 c2]] w (RGives (.agg #[.int .i64 (someX z len k a1 a2), .int .i64 (someX z len (k + 1) c1 c2)]) b p len cap z (k + 2) w) := by
  have H1 := Go.Lib.hid (fun W => Range_r a1 a2 b p len cap z k W (by omega) (by omega) (by omega) (by omega))
  have H2 := Go.Lib.hid (fun W => Range_r c1 c2 b p len cap z (k + 1) W (by omega) (by omega) (by omega) (by omega))
  change Hid (∀ W, _ → Calls _ _ _ _ (RGives (.int .i64 (someX z len k a1 a2)) _ _ _ _ _ _ _)) at H1
  change Hid (∀ W, _ → Calls _ _ _ _ (RGives (.int .i64 (someX z len (k + 1) c1 c2)) _ _ _ _ _ _ _)) at H2
  generalize someX z len k a1 a2 = x at *
  generalize someX z len (k + 1) c1 c2 = y at *
  have hl := hr.lt
  have hne : w.heap.size ≠ b := by omega
  have hne1 : w.heap.size + 1 ≠ b := by omega
  go_enter Try.func34, Try.ntmps34
  go_wp2_with fail
  go_region_held3 (fun W => W.cell? ⟨w.heap.size, 0, none⟩ = some (.int .i64 a1) ∧ W.cell? ⟨w.heap.size, 1, none⟩ = some (.int .i64 a2) ∧ W.cell? ⟨w.heap.size, 2, none⟩ = some (.int .i64 c1) ∧ W.cell? ⟨w.heap.size, 3, none⟩ = some (.int .i64 c2)) ((simp [go_sem, *]; done))
    (first
      | (go_at_call 25; (with_reducible refine Calls.mono (Calls.rgiv (H1.out _ ?_)) ?_); (focus ((repeat (first | (with_reducible assumption) | (with_reducible refine RingAt.alloc ?_ _) | (with_reducible refine RingAt.drew ?_))); done)); (rintro _ _ ⟨ya, rfl, rfl, rga⟩); have sya := RExt.size ya; simp only [World.size_alloc, World.size_drew] at sya; have : w.heap.size < ya.now.heap.size := (by omega); have : w.heap.size + 1 < ya.now.heap.size := (by omega))
      | (go_at_call 25; (with_reducible refine Calls.mono (Calls.rgiv (H2.out _ rga)) ?_); (rintro _ _ ⟨yb, rfl, rfl, rgb⟩); have syb := RExt.size yb; have : w.heap.size < yb.now.heap.size := (by omega); have : w.heap.size + 1 < yb.now.heap.size := (by omega)))
  go_wp2_with (first | ((first | with_reducible refine wrx2 ?_ | with_reducible refine wrx ?_); (repeat (first | go_big_quiet_step ((first | fail)) | quiet_step ((first | fail)))); refine wpQuiet_nil ?_; rintro _ ⟨yr, rfl⟩; have syr := Ext.size yr; (repeat (first | rw [World.size_alloc] at syr | rw [World.size_setCell] at syr | rw [World.size_drew] at syr))))
  have l : ∀ o, yb.now.cell? ⟨w.heap.size + 1, o, none⟩ = ((w.alloc (.cells #[.int .i64 a1, .int .i64 a2, .int .i64 c1, .int .i64 c2] 33)).alloc (.cells #[.int .i64 0, .int .i64 0] 43)).cell? ⟨w.heap.size + 1, o, none⟩ := fun o => by
    rw [yb.cell (by omega) hne1, ya.cell (by simp) hne1]; simp [go_sem]
  have l0 : yb.now.cell? ⟨w.heap.size + 1, 0, none⟩ = some (.int .i64 0) := by rw [l]; simp [go_sem]
  have l1 : yb.now.cell? ⟨w.heap.size + 1, 1, none⟩ = some (.int .i64 0) := by rw [l]; simp [go_sem]
  refine bodyPost_ret (v := .agg #[.int .i64 x, .int .i64 y]) (by simp [results, Try.results34, go_sem, l0, l1]) rfl ?_
  refine ⟨rfl, ?_, (rgb.set _ (by omega)).set _ (by omega)⟩
  repeat' (first | (with_reducible exact BelowX.refl _ _ _) | (with_reducible assumption) | (with_reducible refine RExt.belowX _ ?_ ?_) | (with_reducible refine Ext.belowX _ ?_ ?_) | (with_reducible refine BelowX.alloc ?_ ?_ _) | (with_reducible refine BelowX.drew ?_) | (with_reducible refine BelowX.setCell ?_ ?_ _) | (with_reducible exact Nat.le_refl _) | omega | (simp; done) | (simp [go_sem]; done) | (simp at *; omega))
end Go.Proofs.Ytlhihmfefipehaa

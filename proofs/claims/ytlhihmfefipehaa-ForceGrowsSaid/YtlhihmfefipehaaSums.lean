/- Contracts of package span's sums, differences and squares of spans. No condition. -/
import Derived.Test.YtlhihmfefipehaaMulB
namespace Go.Proofs.Ytlhihmfefipehaa
open Go.RowKit Go.Shelf
attribute [local go_sem] Ext.cell Ext.frozen Ext.lt Ext.le Ext.lt_add Ext.le_add Ext.ne Ext.ne' lt2 lt3 lt4 lt5 le2 le3 le4
theorem sum_any (p q : Int) (w : World) (hp : I64 p) (hq : I64 q) : Calls Try.prog 83 #[.int .i64 p, .int .i64 q] w (Gives (.agg #[.int .i64 (whi (p + q)), .int .u64 (wlo (p + q))]) w) := by
  have h3 : I64 (whi (p + q)) := by unfold I64 whi at *; omega
  go_enter Try.func83, Try.ntmps83
  go_wp2_with (first | ((first | with_reducible refine wrx2 ?_ | with_reducible refine wrx ?_); (repeat (first | go_big_quiet_step ((first | (go_at_call 104; with_reducible exact Calls.ext (widen_any _ _ (by assumption))) | (go_at_call 105; with_reducible exact Calls.ext (plus_any _ _ _ h3)))) | quiet_step ((first | (go_at_call 104; with_reducible exact Calls.ext (widen_any _ _ (by assumption))) | (go_at_call 105; with_reducible exact Calls.ext (plus_any _ _ _ h3)))))); refine wpQuiet_nil ?_; rintro _ ⟨yr, rfl⟩; have syr := Ext.size yr; (repeat (first | rw [World.size_alloc] at syr | rw [World.size_setCell] at syr | rw [World.size_drew] at syr)); have : w.heap.size < yr.now.heap.size := (by omega); have : w.heap.size ≤ yr.now.heap.size := (by omega); have : w.heap.size < yr.now.heap.size + 1 + 1 := (by omega)) | (go_at_call 104; (first | with_reducible refine (Calls.giv2 (widen_any _ _ (by assumption))).mono ?_ | with_reducible refine (Calls.giv (widen_any _ _ (by assumption))).mono ?_); rintro _ _ ⟨y1, rfl, rfl⟩; have sy1 := Ext.size y1; (repeat (first | rw [World.size_alloc] at sy1 | rw [World.size_setCell] at sy1 | rw [World.size_drew] at sy1)); have : w.heap.size < y1.now.heap.size := (by omega); have : w.heap.size ≤ y1.now.heap.size := (by omega); have : w.heap.size < y1.now.heap.size + 1 + 1 := (by omega)) | (go_at_call 105; (first | with_reducible refine (Calls.giv2 (plus_any _ _ _ h3)).mono ?_ | with_reducible refine (Calls.giv (plus_any _ _ _ h3)).mono ?_); rintro _ _ ⟨y2, rfl, rfl⟩; have sy2 := Ext.size y2; (repeat (first | rw [World.size_alloc] at sy2 | rw [World.size_setCell] at sy2 | rw [World.size_drew] at sy2)); have : w.heap.size < y2.now.heap.size := (by omega); have : w.heap.size ≤ y2.now.heap.size := (by omega); have : w.heap.size < y2.now.heap.size + 1 + 1 := (by omega)))
  go_returns
  refine ⟨rfl, ?_⟩
  repeat' (first | (with_reducible exact Below.refl _ _) | (with_reducible assumption) | (with_reducible refine Ext.below _ ?_ ?_) | (with_reducible refine Below.on ?_ (by with_reducible assumption) ?_) | (with_reducible refine Below.alloc ?_ ?_ _) | (with_reducible refine Below.drew ?_) | (with_reducible refine Below.setCell ?_ ?_ _) | (with_reducible exact Nat.le_refl _) | omega | (simp; done) | (simp [go_sem]; done) | (simp at *; omega))
theorem difference_any (p q : Int) (w : World) (hp : I64 p) (hq : I64 q) : Calls Try.prog 82 #[.int .i64 p, .int .i64 q] w (Gives (.agg #[.int .i64 (whi (p - q)), .int .u64 (wlo (p - q))]) w) := by
  have h2 : I64 (whi (-q)) := by unfold I64 whi at *; omega
  have h3 : I64 (whi (p + -q)) := by unfold I64 whi at *; omega
  rw [show p - q = p + -q by omega]
  go_enter Try.func82, Try.ntmps82
  go_wp2_with (first | ((first | with_reducible refine wrx2 ?_ | with_reducible refine wrx ?_); (repeat (first | go_big_quiet_step ((first | (go_at_call 104; with_reducible exact Calls.ext (widen_any _ _ (by assumption))) | (go_at_call 106; with_reducible exact Calls.ext (negative_any _ _ h2)) | (go_at_call 105; with_reducible exact Calls.ext (plus_any _ _ _ h3)))) | quiet_step ((first | (go_at_call 104; with_reducible exact Calls.ext (widen_any _ _ (by assumption))) | (go_at_call 106; with_reducible exact Calls.ext (negative_any _ _ h2)) | (go_at_call 105; with_reducible exact Calls.ext (plus_any _ _ _ h3)))))); refine wpQuiet_nil ?_; rintro _ ⟨yr, rfl⟩; have syr := Ext.size yr; (repeat (first | rw [World.size_alloc] at syr | rw [World.size_setCell] at syr | rw [World.size_drew] at syr)); have : w.heap.size < yr.now.heap.size := (by omega); have : w.heap.size ≤ yr.now.heap.size := (by omega); have : w.heap.size < yr.now.heap.size + 1 + 1 := (by omega)) | (go_at_call 104; (first | with_reducible refine (Calls.giv2 (widen_any _ _ (by assumption))).mono ?_ | with_reducible refine (Calls.giv (widen_any _ _ (by assumption))).mono ?_); rintro _ _ ⟨y1, rfl, rfl⟩; have sy1 := Ext.size y1; (repeat (first | rw [World.size_alloc] at sy1 | rw [World.size_setCell] at sy1 | rw [World.size_drew] at sy1)); have : w.heap.size < y1.now.heap.size := (by omega); have : w.heap.size ≤ y1.now.heap.size := (by omega); have : w.heap.size < y1.now.heap.size + 1 + 1 := (by omega)) | (go_at_call 106; (first | with_reducible refine (Calls.giv2 (negative_any _ _ h2)).mono ?_ | with_reducible refine (Calls.giv (negative_any _ _ h2)).mono ?_); rintro _ _ ⟨y2, rfl, rfl⟩; have sy2 := Ext.size y2; (repeat (first | rw [World.size_alloc] at sy2 | rw [World.size_setCell] at sy2 | rw [World.size_drew] at sy2)); have : w.heap.size < y2.now.heap.size := (by omega); have : w.heap.size ≤ y2.now.heap.size := (by omega); have : w.heap.size < y2.now.heap.size + 1 + 1 := (by omega)) | (go_at_call 105; (first | with_reducible refine (Calls.giv2 (plus_any _ _ _ h3)).mono ?_ | with_reducible refine (Calls.giv (plus_any _ _ _ h3)).mono ?_); rintro _ _ ⟨y3, rfl, rfl⟩; have sy3 := Ext.size y3; (repeat (first | rw [World.size_alloc] at sy3 | rw [World.size_setCell] at sy3 | rw [World.size_drew] at sy3)); have : w.heap.size < y3.now.heap.size := (by omega); have : w.heap.size ≤ y3.now.heap.size := (by omega); have : w.heap.size < y3.now.heap.size + 1 + 1 := (by omega)))
  go_returns
  refine ⟨rfl, ?_⟩
  repeat' (first | (with_reducible exact Below.refl _ _) | (with_reducible assumption) | (with_reducible refine Ext.below _ ?_ ?_) | (with_reducible refine Below.on ?_ (by with_reducible assumption) ?_) | (with_reducible refine Below.alloc ?_ ?_ _) | (with_reducible refine Below.drew ?_) | (with_reducible refine Below.setCell ?_ ?_ _) | (with_reducible exact Nat.le_refl _) | omega | (simp; done) | (simp [go_sem]; done) | (simp at *; omega))
theorem exactly_add (w : World) : Calls Try.prog 81 #[.func (.func 83) #[] #[]] w fun e w' => e = .returned (.func (.func 103) #[] #[.pointer (some ⟨w.heap.size, 0, none⟩)]) ∧ w' = w.alloc (.cells #[.func (.func 83) #[] #[]] 125) := by
  go_enter Try.func81, Try.ntmps81
  go_wp2_with (first | ((first | with_reducible refine wrx2 ?_ | with_reducible refine wrx ?_); (repeat (first | go_big_quiet_step ((first | fail)) | quiet_step ((first | fail)))); refine wpQuiet_nil ?_; rintro _ ⟨yr, rfl⟩; have syr := Ext.size yr; (repeat (first | rw [World.size_alloc] at syr | rw [World.size_setCell] at syr | rw [World.size_drew] at syr))))
  go_returns
  exact ⟨rfl, rfl⟩
theorem exactly1_add (p q : Int) (b : Nat) (w : World) (hp : I64 p) (hq : I64 q) (hb : w.cell? ⟨b, 0, none⟩ = some (.func (.func 83) #[] #[])) :
    Calls Try.prog 103 #[.int .i64 p, .int .i64 q, .pointer (some ⟨b, 0, none⟩)] w (Gives (.tuple #[.agg #[.int .i64 (whi (p + q)), .int .u64 (wlo (p + q))], .agg #[.int .i64 (whi (p + q)), .int .u64 (wlo (p + q))]]) w) := by
  have hlt := World.block_lt_of_cell? w ⟨b, 0, none⟩ hb
  simp at hlt
  go_enter Try.func103, Try.ntmps103
  go_wp2_with (first | ((first | with_reducible refine wrx2 ?_ | with_reducible refine wrx ?_); (repeat (first | go_big_quiet_step ((first | (go_at_call 83; with_reducible exact Calls.ext (sum_any _ _ _ hp hq)))) | quiet_step ((first | (go_at_call 83; with_reducible exact Calls.ext (sum_any _ _ _ hp hq)))))); refine wpQuiet_nil ?_; rintro _ ⟨yr, rfl⟩; have syr := Ext.size yr; (repeat (first | rw [World.size_alloc] at syr | rw [World.size_setCell] at syr | rw [World.size_drew] at syr))) | (go_at_call 83; (first | with_reducible refine (Calls.giv2 (sum_any _ _ _ hp hq)).mono ?_ | with_reducible refine (Calls.giv (sum_any _ _ _ hp hq)).mono ?_); rintro _ _ ⟨y1, rfl, rfl⟩; have sy1 := Ext.size y1; (repeat (first | rw [World.size_alloc] at sy1 | rw [World.size_setCell] at sy1 | rw [World.size_drew] at sy1))))
  have l1 : y1.now.cell? ⟨w.heap.size, 0, none⟩ = some (.int .i64 0) := by rw [y1.cell (by simp only [World.size_alloc]; omega)]; simp [go_sem]
  have l2 : y1.now.cell? ⟨w.heap.size, 1, none⟩ = some (.int .u64 0) := by rw [y1.cell (by simp only [World.size_alloc]; omega)]; simp [go_sem]
  have l3 : y1.now.cell? ⟨w.heap.size + 1, 0, none⟩ = some (.int .i64 0) := by rw [y1.cell (by simp only [World.size_alloc]; omega)]; simp [go_sem]
  have l4 : y1.now.cell? ⟨w.heap.size + 1, 1, none⟩ = some (.int .u64 0) := by rw [y1.cell (by simp only [World.size_alloc]; omega)]; simp [go_sem]
  have f1 : y1.now.frozen? ⟨w.heap.size, 0, none⟩ = false := by rw [y1.frozen (by simp only [World.size_alloc]; omega)]; simp [go_sem]
  have f2 : y1.now.frozen? ⟨w.heap.size, 1, none⟩ = false := by rw [y1.frozen (by simp only [World.size_alloc]; omega)]; simp [go_sem]
  have f3 : y1.now.frozen? ⟨w.heap.size + 1, 0, none⟩ = false := by rw [y1.frozen (by simp only [World.size_alloc]; omega)]; simp [go_sem]
  have f4 : y1.now.frozen? ⟨w.heap.size + 1, 1, none⟩ = false := by rw [y1.frozen (by simp only [World.size_alloc]; omega)]; simp [go_sem]
  have z1 : w.heap.size < y1.now.heap.size := by have := y1.size; simp only [World.size_alloc] at this; omega
  have z2 : w.heap.size + 1 < y1.now.heap.size := by have := y1.size; simp only [World.size_alloc] at this; omega
  have z3 : w.heap.size ≤ y1.now.heap.size := by omega
  go_region
  go_wp2_with fail
  refine bodyPost_ret (v := .tuple #[.agg #[.int .i64 (whi (p + q)), .int .u64 (wlo (p + q))], .agg #[.int .i64 (whi (p + q)), .int .u64 (wlo (p + q))]]) (by simp [results, Try.results103, go_sem, l1, l2, l3, l4, z1, z2]) rfl ?_
  refine ⟨rfl, ?_⟩
  repeat' (first | (with_reducible exact Below.refl _ _) | (with_reducible assumption) | (with_reducible refine Ext.below _ ?_ ?_) | (with_reducible refine Below.on ?_ (by with_reducible assumption) ?_) | (with_reducible refine Below.alloc ?_ ?_ _) | (with_reducible refine Below.drew ?_) | (with_reducible refine Below.setCell ?_ ?_ _) | (with_reducible exact Nat.le_refl _) | omega | (simp; done) | (simp [go_sem]; done) | (simp at *; omega))
/-- The ends of a sum, and its error. -/
def addL (al ah bl bh : Int) : Int := cmbL (· + ·) (· + ·) al ah bl bh
def addH (al ah bl bh : Int) : Int := cmbH (· + ·) (· + ·) al ah bl bh
def addE (al ah bl bh : Int) : Int := cmbE (· + ·) (· + ·) al ah bl bh
theorem combine_add (al ah bl bh : Int) (b : Nat) (w : World) (hb : w.cell? ⟨b, 0, none⟩ = some (.func (.func 83) #[] #[])) :
    Calls Try.prog 80 #[.agg #[.int .i64 al, .int .i64 ah], .agg #[.int .i64 bl, .int .i64 bh], .func (.func 103) #[] #[.pointer (some ⟨b, 0, none⟩)]] w
      (Gives (.tuple #[.agg #[.int .i64 (addL al ah bl bh), .int .i64 (addH al ah bl bh)], .int .i64 (addE al ah bl bh)]) w) := by
  have hlt := World.block_lt_of_cell? w ⟨b, 0, none⟩ hb
  refine combine_any 103 #[.pointer (some ⟨b, 0, none⟩)] (· + ·) (· + ·) al ah bl bh w (fun args W => by simp [go_sem]) ?_
  intro W p q hB hp hq he
  unfold chkB at he
  split at he
  · rename_i h1
    rw [chk_ok] at h1 he
    exact exactly1_add p q b W (by unfold I64; rcases hp with rfl | rfl <;> omega) (by unfold I64; rcases hq with rfl | rfl <;> omega) ((hB.cell (p := ⟨b, 0, none⟩) hlt).trans hb)
  · contradiction
set_option maxHeartbeats 2000000 in
/-- What is left of the ends. -/
theorem Add_any (al ah bl bh : Int) (w : World) :
    Calls Try.prog 55 #[.agg #[.int .i64 al, .int .i64 ah], .agg #[.int .i64 bl, .int .i64 bh]] w
      (Gives (.tuple #[.agg #[.int .i64 (addL al ah bl bh), .int .i64 (addH al ah bl bh)], .int .i64 (addE al ah bl bh)]) w) := by
  have C := fun (W : World) hb => combine_add al ah bl bh (w.heap.size + 1 + 1 + 1) W hb
  have HC := Go.Lib.hid C
  clear C
  go_enter Try.func55, Try.ntmps55
  go_wp2_with fail
  go_region_with (first
    | (go_at_call 81; (with_reducible refine (exactly_add _).mono ?_); rintro e w' ⟨rfl, rfl⟩)
    | (go_at_call 80; (with_reducible refine Calls.mono (Calls.giv (HC.out _ ?_)) ?_); (focus (simp [go_sem]; done)); (intro e w' hh; obtain ⟨y1, he, hw⟩ := hh; rw [he, hw]; clear he hw e w'); have l1 : y1.now.cell? ⟨w.heap.size + 1 + 1, 0, none⟩ = some (.int .i64 0) := (by rw [y1.cell (by simp only [World.size_alloc, World.size_drew]; omega)]; simp [go_sem]); have l2 : y1.now.cell? ⟨w.heap.size + 1 + 1, 1, none⟩ = some (.int .i64 0) := (by rw [y1.cell (by simp only [World.size_alloc, World.size_drew]; omega)]; simp [go_sem]); have f1 : y1.now.frozen? ⟨w.heap.size + 1 + 1, 0, none⟩ = false := (by rw [y1.frozen (by simp only [World.size_alloc, World.size_drew]; omega)]; simp [go_sem]); have f2 : y1.now.frozen? ⟨w.heap.size + 1 + 1, 1, none⟩ = false := (by rw [y1.frozen (by simp only [World.size_alloc, World.size_drew]; omega)]; simp [go_sem])))
  all_goals
    go_wp2_with fail
    refine bodyPost_ret (v := .tuple #[.agg #[.int .i64 (addL al ah bl bh), .int .i64 (addH al ah bl bh)], .int .i64 (addE al ah bl bh)]) (by simp [results, Try.results55, go_sem, l1, l2]) rfl ?_
    refine ⟨rfl, ?_⟩
    repeat' (first | (with_reducible exact Below.refl _ _) | (with_reducible assumption) | (with_reducible refine Ext.below _ ?_ ?_) | (with_reducible refine Below.on ?_ (by with_reducible assumption) ?_) | (with_reducible refine Below.alloc ?_ ?_ _) | (with_reducible refine Below.drew ?_) | (with_reducible refine Below.setCell ?_ ?_ _) | (with_reducible exact Nat.le_refl _) | omega | (simp; done) | (simp [go_sem]; done) | (simp at *; omega))
theorem exactly_sub (w : World) : Calls Try.prog 81 #[.func (.func 82) #[] #[]] w fun e w' => e = .returned (.func (.func 103) #[] #[.pointer (some ⟨w.heap.size, 0, none⟩)]) ∧ w' = w.alloc (.cells #[.func (.func 82) #[] #[]] 125) := by
  go_enter Try.func81, Try.ntmps81
  go_wp2_with (first | ((first | with_reducible refine wrx2 ?_ | with_reducible refine wrx ?_); (repeat (first | go_big_quiet_step ((first | fail)) | quiet_step ((first | fail)))); refine wpQuiet_nil ?_; rintro _ ⟨yr, rfl⟩; have syr := Ext.size yr; (repeat (first | rw [World.size_alloc] at syr | rw [World.size_setCell] at syr | rw [World.size_drew] at syr))))
  go_returns
  exact ⟨rfl, rfl⟩
theorem exactly1_sub (p q : Int) (b : Nat) (w : World) (hp : I64 p) (hq : I64 q) (hb : w.cell? ⟨b, 0, none⟩ = some (.func (.func 82) #[] #[])) :
    Calls Try.prog 103 #[.int .i64 p, .int .i64 q, .pointer (some ⟨b, 0, none⟩)] w (Gives (.tuple #[.agg #[.int .i64 (whi (p - q)), .int .u64 (wlo (p - q))], .agg #[.int .i64 (whi (p - q)), .int .u64 (wlo (p - q))]]) w) := by
  have hlt := World.block_lt_of_cell? w ⟨b, 0, none⟩ hb
  simp at hlt
  go_enter Try.func103, Try.ntmps103
  go_wp2_with (first | ((first | with_reducible refine wrx2 ?_ | with_reducible refine wrx ?_); (repeat (first | go_big_quiet_step ((first | (go_at_call 82; with_reducible exact Calls.ext (difference_any _ _ _ hp hq)))) | quiet_step ((first | (go_at_call 82; with_reducible exact Calls.ext (difference_any _ _ _ hp hq)))))); refine wpQuiet_nil ?_; rintro _ ⟨yr, rfl⟩; have syr := Ext.size yr; (repeat (first | rw [World.size_alloc] at syr | rw [World.size_setCell] at syr | rw [World.size_drew] at syr))) | (go_at_call 82; (first | with_reducible refine (Calls.giv2 (difference_any _ _ _ hp hq)).mono ?_ | with_reducible refine (Calls.giv (difference_any _ _ _ hp hq)).mono ?_); rintro _ _ ⟨y1, rfl, rfl⟩; have sy1 := Ext.size y1; (repeat (first | rw [World.size_alloc] at sy1 | rw [World.size_setCell] at sy1 | rw [World.size_drew] at sy1))))
  have l1 : y1.now.cell? ⟨w.heap.size, 0, none⟩ = some (.int .i64 0) := by rw [y1.cell (by simp only [World.size_alloc]; omega)]; simp [go_sem]
  have l2 : y1.now.cell? ⟨w.heap.size, 1, none⟩ = some (.int .u64 0) := by rw [y1.cell (by simp only [World.size_alloc]; omega)]; simp [go_sem]
  have l3 : y1.now.cell? ⟨w.heap.size + 1, 0, none⟩ = some (.int .i64 0) := by rw [y1.cell (by simp only [World.size_alloc]; omega)]; simp [go_sem]
  have l4 : y1.now.cell? ⟨w.heap.size + 1, 1, none⟩ = some (.int .u64 0) := by rw [y1.cell (by simp only [World.size_alloc]; omega)]; simp [go_sem]
  have f1 : y1.now.frozen? ⟨w.heap.size, 0, none⟩ = false := by rw [y1.frozen (by simp only [World.size_alloc]; omega)]; simp [go_sem]
  have f2 : y1.now.frozen? ⟨w.heap.size, 1, none⟩ = false := by rw [y1.frozen (by simp only [World.size_alloc]; omega)]; simp [go_sem]
  have f3 : y1.now.frozen? ⟨w.heap.size + 1, 0, none⟩ = false := by rw [y1.frozen (by simp only [World.size_alloc]; omega)]; simp [go_sem]
  have f4 : y1.now.frozen? ⟨w.heap.size + 1, 1, none⟩ = false := by rw [y1.frozen (by simp only [World.size_alloc]; omega)]; simp [go_sem]
  have z1 : w.heap.size < y1.now.heap.size := by have := y1.size; simp only [World.size_alloc] at this; omega
  have z2 : w.heap.size + 1 < y1.now.heap.size := by have := y1.size; simp only [World.size_alloc] at this; omega
  have z3 : w.heap.size ≤ y1.now.heap.size := by omega
  go_region
  go_wp2_with fail
  refine bodyPost_ret (v := .tuple #[.agg #[.int .i64 (whi (p - q)), .int .u64 (wlo (p - q))], .agg #[.int .i64 (whi (p - q)), .int .u64 (wlo (p - q))]]) (by simp [results, Try.results103, go_sem, l1, l2, l3, l4, z1, z2]) rfl ?_
  refine ⟨rfl, ?_⟩
  repeat' (first | (with_reducible exact Below.refl _ _) | (with_reducible assumption) | (with_reducible refine Ext.below _ ?_ ?_) | (with_reducible refine Below.on ?_ (by with_reducible assumption) ?_) | (with_reducible refine Below.alloc ?_ ?_ _) | (with_reducible refine Below.drew ?_) | (with_reducible refine Below.setCell ?_ ?_ _) | (with_reducible exact Nat.le_refl _) | omega | (simp; done) | (simp [go_sem]; done) | (simp at *; omega))
/-- The ends of a difference, and its error. -/
def subL (al ah bl bh : Int) : Int := cmbL (· - ·) (· - ·) al ah bl bh
def subH (al ah bl bh : Int) : Int := cmbH (· - ·) (· - ·) al ah bl bh
def subE (al ah bl bh : Int) : Int := cmbE (· - ·) (· - ·) al ah bl bh
theorem combine_sub (al ah bl bh : Int) (b : Nat) (w : World) (hb : w.cell? ⟨b, 0, none⟩ = some (.func (.func 82) #[] #[])) :
    Calls Try.prog 80 #[.agg #[.int .i64 al, .int .i64 ah], .agg #[.int .i64 bl, .int .i64 bh], .func (.func 103) #[] #[.pointer (some ⟨b, 0, none⟩)]] w
      (Gives (.tuple #[.agg #[.int .i64 (subL al ah bl bh), .int .i64 (subH al ah bl bh)], .int .i64 (subE al ah bl bh)]) w) := by
  have hlt := World.block_lt_of_cell? w ⟨b, 0, none⟩ hb
  refine combine_any 103 #[.pointer (some ⟨b, 0, none⟩)] (· - ·) (· - ·) al ah bl bh w (fun args W => by simp [go_sem]) ?_
  intro W p q hB hp hq he
  unfold chkB at he
  split at he
  · rename_i h1
    rw [chk_ok] at h1 he
    exact exactly1_sub p q b W (by unfold I64; rcases hp with rfl | rfl <;> omega) (by unfold I64; rcases hq with rfl | rfl <;> omega) ((hB.cell (p := ⟨b, 0, none⟩) hlt).trans hb)
  · contradiction
set_option maxHeartbeats 2000000 in
/-- What is left of the ends. -/
theorem Sub_any (al ah bl bh : Int) (w : World) :
    Calls Try.prog 54 #[.agg #[.int .i64 al, .int .i64 ah], .agg #[.int .i64 bl, .int .i64 bh]] w
      (Gives (.tuple #[.agg #[.int .i64 (subL al ah bl bh), .int .i64 (subH al ah bl bh)], .int .i64 (subE al ah bl bh)]) w) := by
  have C := fun (W : World) hb => combine_sub al ah bl bh (w.heap.size + 1 + 1 + 1) W hb
  have HC := Go.Lib.hid C
  clear C
  go_enter Try.func54, Try.ntmps54
  go_wp2_with fail
  go_region_with (first
    | (go_at_call 81; (with_reducible refine (exactly_sub _).mono ?_); rintro e w' ⟨rfl, rfl⟩)
    | (go_at_call 80; (with_reducible refine Calls.mono (Calls.giv (HC.out _ ?_)) ?_); (focus (simp [go_sem]; done)); (intro e w' hh; obtain ⟨y1, he, hw⟩ := hh; rw [he, hw]; clear he hw e w'); have l1 : y1.now.cell? ⟨w.heap.size + 1 + 1, 0, none⟩ = some (.int .i64 0) := (by rw [y1.cell (by simp only [World.size_alloc, World.size_drew]; omega)]; simp [go_sem]); have l2 : y1.now.cell? ⟨w.heap.size + 1 + 1, 1, none⟩ = some (.int .i64 0) := (by rw [y1.cell (by simp only [World.size_alloc, World.size_drew]; omega)]; simp [go_sem]); have f1 : y1.now.frozen? ⟨w.heap.size + 1 + 1, 0, none⟩ = false := (by rw [y1.frozen (by simp only [World.size_alloc, World.size_drew]; omega)]; simp [go_sem]); have f2 : y1.now.frozen? ⟨w.heap.size + 1 + 1, 1, none⟩ = false := (by rw [y1.frozen (by simp only [World.size_alloc, World.size_drew]; omega)]; simp [go_sem])))
  all_goals
    go_wp2_with fail
    refine bodyPost_ret (v := .tuple #[.agg #[.int .i64 (subL al ah bl bh), .int .i64 (subH al ah bl bh)], .int .i64 (subE al ah bl bh)]) (by simp [results, Try.results54, go_sem, l1, l2]) rfl ?_
    refine ⟨rfl, ?_⟩
    repeat' (first | (with_reducible exact Below.refl _ _) | (with_reducible assumption) | (with_reducible refine Ext.below _ ?_ ?_) | (with_reducible refine Below.on ?_ (by with_reducible assumption) ?_) | (with_reducible refine Below.alloc ?_ ?_ _) | (with_reducible refine Below.drew ?_) | (with_reducible refine Below.setCell ?_ ?_ _) | (with_reducible exact Nat.le_refl _) | omega | (simp; done) | (simp [go_sem]; done) | (simp at *; omega))
/-- The absolute values of a span's numbers. -/
def absL (a b : Int) : Int := if 0 ≤ a then a else if b ≤ 0 then -b else 0
def absH (a b : Int) : Int := if 0 ≤ a then b else if b ≤ 0 then -a else max (-a) b
theorem absolute_any (a b : Int) (w : World) (ha : -1152921504606846976 ≤ a) (_hb : b ≤ 1152921504606846976) (hab : a ≤ b) : Calls Try.prog 86 #[.agg #[.int .i64 a, .int .i64 b]] w (Gives (.agg #[.int .i64 (absL a b), .int .i64 (absH a b)]) w) := by
  unfold absL absH
  by_cases h1 : 0 ≤ a
  · simp only [h1, if_true]
    go_enter Try.func86, Try.ntmps86
    go_wp2_with (first | ((first | with_reducible refine wrx2 ?_ | with_reducible refine wrx ?_); (repeat (first | go_big_quiet_step ((first | fail)) | quiet_step ((first | fail)))); refine wpQuiet_nil ?_; rintro _ ⟨yr, rfl⟩; have syr := Ext.size yr; (repeat (first | rw [World.size_alloc] at syr | rw [World.size_setCell] at syr | rw [World.size_drew] at syr))))
    go_returns
    refine ⟨rfl, ?_⟩
    repeat' (first | (with_reducible exact Below.refl _ _) | (with_reducible assumption) | (with_reducible refine Ext.below _ ?_ ?_) | (with_reducible refine Below.on ?_ (by with_reducible assumption) ?_) | (with_reducible refine Below.alloc ?_ ?_ _) | (with_reducible refine Below.drew ?_) | (with_reducible refine Below.setCell ?_ ?_ _) | (with_reducible exact Nat.le_refl _) | omega | (simp; done) | (simp [go_sem]; done) | (simp at *; omega))
  · simp only [h1, if_false]
    by_cases h2 : b ≤ 0
    · simp only [h2, if_true]
      go_enter Try.func86, Try.ntmps86
      go_wp2_with (first | ((first | with_reducible refine wrx2 ?_ | with_reducible refine wrx ?_); (repeat (first | go_big_quiet_step ((first | fail)) | quiet_step ((first | fail)))); refine wpQuiet_nil ?_; rintro _ ⟨yr, rfl⟩; have syr := Ext.size yr; (repeat (first | rw [World.size_alloc] at syr | rw [World.size_setCell] at syr | rw [World.size_drew] at syr))))
      go_returns
      refine ⟨rfl, ?_⟩
      repeat' (first | (with_reducible exact Below.refl _ _) | (with_reducible assumption) | (with_reducible refine Ext.below _ ?_ ?_) | (with_reducible refine Below.on ?_ (by with_reducible assumption) ?_) | (with_reducible refine Below.alloc ?_ ?_ _) | (with_reducible refine Below.drew ?_) | (with_reducible refine Below.setCell ?_ ?_ _) | (with_reducible exact Nat.le_refl _) | omega | (simp; done) | (simp [go_sem]; done) | (simp at *; omega))
    · simp only [h2, if_false]
      go_enter Try.func86, Try.ntmps86
      go_wp2_with (first | ((first | with_reducible refine wrx2 ?_ | with_reducible refine wrx ?_); (repeat (first | go_big_quiet_step ((first | fail)) | quiet_step ((first | fail)))); refine wpQuiet_nil ?_; rintro _ ⟨yr, rfl⟩; have syr := Ext.size yr; (repeat (first | rw [World.size_alloc] at syr | rw [World.size_setCell] at syr | rw [World.size_drew] at syr))))
      go_returns
      refine ⟨rfl, ?_⟩
      repeat' (first | (with_reducible exact Below.refl _ _) | (with_reducible assumption) | (with_reducible refine Ext.below _ ?_ ?_) | (with_reducible refine Below.on ?_ (by with_reducible assumption) ?_) | (with_reducible refine Below.alloc ?_ ?_ _) | (with_reducible refine Below.drew ?_) | (with_reducible refine Below.setCell ?_ ?_ _) | (with_reducible exact Nat.le_refl _) | omega | (simp; done) | (simp [go_sem]; done) | (simp at *; omega))
def sqE (a b : Int) : Int := if chk a b = 0 then mulE (absL a b) (absH a b) (absL a b) (absH a b) else chk a b
def sqL (a b : Int) : Int := if chk a b = 0 then mulL (absL a b) (absH a b) (absL a b) (absH a b) else 0
def sqH (a b : Int) : Int := if chk a b = 0 then mulH (absL a b) (absH a b) (absL a b) (absH a b) else 0
theorem Square_any (a b : Int) (w : World) : Calls Try.prog 65 #[.agg #[.int .i64 a, .int .i64 b]] w (Gives (.tuple #[.agg #[.int .i64 (sqL a b), .int .i64 (sqH a b)], .int .i64 (sqE a b)]) w) := by
  unfold sqL sqH sqE
  by_cases h : chk a b = 0
  · simp only [h, if_true]
    obtain ⟨c1, c2, c3⟩ := (chk_ok a b).1 h
    have AB := Go.Lib.hid (fun W => absolute_any a b W c1 c2 c3)
    generalize absL a b = x at *
    generalize absH a b = y at *
    go_enter Try.func65, Try.ntmps65
    go_wp2_with (first | ((first | with_reducible refine wrx2 ?_ | with_reducible refine wrx ?_); (repeat (first | go_big_quiet_step ((first | (go_at_call 85; with_reducible exact Calls.ext (Check_any _ _ _)) | (go_at_call 86; with_reducible exact Calls.ext (AB.out _)) | (go_at_call 87; with_reducible exact Calls.ext (Mul_any _ _ _ _ _)))) | quiet_step ((first | (go_at_call 85; with_reducible exact Calls.ext (Check_any _ _ _)) | (go_at_call 86; with_reducible exact Calls.ext (AB.out _)) | (go_at_call 87; with_reducible exact Calls.ext (Mul_any _ _ _ _ _)))))); refine wpQuiet_nil ?_; rintro _ ⟨yr, rfl⟩; have syr := Ext.size yr; (repeat (first | rw [World.size_alloc] at syr | rw [World.size_setCell] at syr | rw [World.size_drew] at syr)); have : w.heap.size < yr.now.heap.size := (by omega); have : w.heap.size ≤ yr.now.heap.size := (by omega); have : w.heap.size < yr.now.heap.size + 1 + 1 := (by omega); have : w.heap.size + 1 < yr.now.heap.size := (by omega); have : w.heap.size + 1 ≤ yr.now.heap.size := (by omega); have : w.heap.size + 1 < yr.now.heap.size + 1 + 1 := (by omega)) | (go_at_call 85; (first | with_reducible refine (Calls.giv2 (Check_any _ _ _)).mono ?_ | with_reducible refine (Calls.giv (Check_any _ _ _)).mono ?_); rintro _ _ ⟨y1, rfl, rfl⟩; have sy1 := Ext.size y1; (repeat (first | rw [World.size_alloc] at sy1 | rw [World.size_setCell] at sy1 | rw [World.size_drew] at sy1)); have : w.heap.size < y1.now.heap.size := (by omega); have : w.heap.size ≤ y1.now.heap.size := (by omega); have : w.heap.size < y1.now.heap.size + 1 + 1 := (by omega); have : w.heap.size + 1 < y1.now.heap.size := (by omega); have : w.heap.size + 1 ≤ y1.now.heap.size := (by omega); have : w.heap.size + 1 < y1.now.heap.size + 1 + 1 := (by omega)) | (go_at_call 86; (first | with_reducible refine (Calls.giv2 (AB.out _)).mono ?_ | with_reducible refine (Calls.giv (AB.out _)).mono ?_); rintro _ _ ⟨y2, rfl, rfl⟩; have sy2 := Ext.size y2; (repeat (first | rw [World.size_alloc] at sy2 | rw [World.size_setCell] at sy2 | rw [World.size_drew] at sy2)); have : w.heap.size < y2.now.heap.size := (by omega); have : w.heap.size ≤ y2.now.heap.size := (by omega); have : w.heap.size < y2.now.heap.size + 1 + 1 := (by omega); have : w.heap.size + 1 < y2.now.heap.size := (by omega); have : w.heap.size + 1 ≤ y2.now.heap.size := (by omega); have : w.heap.size + 1 < y2.now.heap.size + 1 + 1 := (by omega)) | (go_at_call 87; (first | with_reducible refine (Calls.giv2 (Mul_any _ _ _ _ _)).mono ?_ | with_reducible refine (Calls.giv (Mul_any _ _ _ _ _)).mono ?_); rintro _ _ ⟨y3, rfl, rfl⟩; have sy3 := Ext.size y3; (repeat (first | rw [World.size_alloc] at sy3 | rw [World.size_setCell] at sy3 | rw [World.size_drew] at sy3)); have : w.heap.size < y3.now.heap.size := (by omega); have : w.heap.size ≤ y3.now.heap.size := (by omega); have : w.heap.size < y3.now.heap.size + 1 + 1 := (by omega); have : w.heap.size + 1 < y3.now.heap.size := (by omega); have : w.heap.size + 1 ≤ y3.now.heap.size := (by omega); have : w.heap.size + 1 < y3.now.heap.size + 1 + 1 := (by omega)))
    have z2 : w.heap.size + 1 < y2.now.heap.size := by omega
    have l0 : y3.now.cell? ⟨w.heap.size + 1, 0, none⟩ = some (.int .i64 0) := (y3.cell (by simp only [World.size_alloc]; omega)).trans (by simp [go_sem, z2])
    have l1 : y3.now.cell? ⟨w.heap.size + 1, 1, none⟩ = some (.int .i64 0) := (y3.cell (by simp only [World.size_alloc]; omega)).trans (by simp [go_sem, z2])
    refine bodyPost_ret (v := .tuple #[.agg #[.int .i64 (mulL x y x y), .int .i64 (mulH x y x y)], .int .i64 (mulE x y x y)]) (by simp [results, Try.results65, go_sem, l0, l1]) rfl ?_
    refine ⟨rfl, ?_⟩
    repeat' (first | (with_reducible exact Below.refl _ _) | (with_reducible assumption) | (with_reducible refine Ext.below _ ?_ ?_) | (with_reducible refine Below.on ?_ (by with_reducible assumption) ?_) | (with_reducible refine Below.alloc ?_ ?_ _) | (with_reducible refine Below.drew ?_) | (with_reducible refine Below.setCell ?_ ?_ _) | (with_reducible exact Nat.le_refl _) | omega | (simp; done) | (simp [go_sem]; done) | (simp at *; omega))
  · simp only [h, if_false]
    have h' : (chk a b != 0) = true := by simpa using h
    go_enter Try.func65, Try.ntmps65
    go_wp2_with (first | ((first | with_reducible refine wrx2 ?_ | with_reducible refine wrx ?_); (repeat (first | go_big_quiet_step ((first | (go_at_call 85; with_reducible exact Calls.ext (Check_any _ _ _)))) | quiet_step ((first | (go_at_call 85; with_reducible exact Calls.ext (Check_any _ _ _)))))); refine wpQuiet_nil ?_; rintro _ ⟨yr, rfl⟩; have syr := Ext.size yr; (repeat (first | rw [World.size_alloc] at syr | rw [World.size_setCell] at syr | rw [World.size_drew] at syr)); have : w.heap.size < yr.now.heap.size := (by omega); have : w.heap.size ≤ yr.now.heap.size := (by omega); have : w.heap.size < yr.now.heap.size + 1 + 1 := (by omega); have : w.heap.size + 1 < yr.now.heap.size := (by omega); have : w.heap.size + 1 ≤ yr.now.heap.size := (by omega); have : w.heap.size + 1 < yr.now.heap.size + 1 + 1 := (by omega)) | (go_at_call 85; (first | with_reducible refine (Calls.giv2 (Check_any _ _ _)).mono ?_ | with_reducible refine (Calls.giv (Check_any _ _ _)).mono ?_); rintro _ _ ⟨y1, rfl, rfl⟩; have sy1 := Ext.size y1; (repeat (first | rw [World.size_alloc] at sy1 | rw [World.size_setCell] at sy1 | rw [World.size_drew] at sy1)); have : w.heap.size < y1.now.heap.size := (by omega); have : w.heap.size ≤ y1.now.heap.size := (by omega); have : w.heap.size < y1.now.heap.size + 1 + 1 := (by omega); have : w.heap.size + 1 < y1.now.heap.size := (by omega); have : w.heap.size + 1 ≤ y1.now.heap.size := (by omega); have : w.heap.size + 1 < y1.now.heap.size + 1 + 1 := (by omega)))
    go_returns
    refine ⟨rfl, ?_⟩
    repeat' (first | (with_reducible exact Below.refl _ _) | (with_reducible assumption) | (with_reducible refine Ext.below _ ?_ ?_) | (with_reducible refine Below.on ?_ (by with_reducible assumption) ?_) | (with_reducible refine Below.alloc ?_ ?_ _) | (with_reducible refine Below.drew ?_) | (with_reducible refine Below.setCell ?_ ?_ _) | (with_reducible exact Nat.le_refl _) | omega | (simp; done) | (simp [go_sem]; done) | (simp at *; omega))
end Go.Proofs.Ytlhihmfefipehaa

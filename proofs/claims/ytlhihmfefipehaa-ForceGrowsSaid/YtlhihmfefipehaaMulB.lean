/- Contract of package span's product of two spans. No condition. -/
import Derived.Test.YtlhihmfefipehaaMul
namespace Go.Proofs.Ytlhihmfefipehaa
open Go.RowKit Go.Shelf
attribute [local go_sem] Ext.cell Ext.frozen Ext.lt Ext.le Ext.lt_add Ext.le_add Ext.ne Ext.ne' lt2 lt3 lt4 lt5 le2 le3 le4
theorem exactly_any (w : World) : Calls Try.prog 81 #[.func (.func 108) #[] #[]] w fun e w' => e = .returned (.func (.func 103) #[] #[.pointer (some ⟨w.heap.size, 0, none⟩)]) ∧ w' = w.alloc (.cells #[.func (.func 108) #[] #[]] 125) := by
  go_enter Try.func81, Try.ntmps81
  go_wp2_with (first | ((first | with_reducible refine wrx2 ?_ | with_reducible refine wrx ?_); (repeat (first | go_big_quiet_step ((first | fail)) | quiet_step ((first | fail)))); refine wpQuiet_nil ?_; rintro _ ⟨yr, rfl⟩; have syr := Ext.size yr; (repeat (first | rw [World.size_alloc] at syr | rw [World.size_setCell] at syr | rw [World.size_drew] at syr))))
  go_returns
  exact ⟨rfl, rfl⟩
theorem exactly1_mul (p q : Int) (b : Nat) (w : World) (hp : I64 p) (hq : I64 q) (hb : w.cell? ⟨b, 0, none⟩ = some (.func (.func 108) #[] #[])) :
    Calls Try.prog 103 #[.int .i64 p, .int .i64 q, .pointer (some ⟨b, 0, none⟩)] w (Gives (.tuple #[.agg #[.int .i64 (whi (p * q)), .int .u64 (wlo (p * q))], .agg #[.int .i64 (whi (p * q)), .int .u64 (wlo (p * q))]]) w) := by
  have hlt := World.block_lt_of_cell? w ⟨b, 0, none⟩ hb
  simp at hlt
  go_enter Try.func103, Try.ntmps103
  go_wp2_with (first | ((first | with_reducible refine wrx2 ?_ | with_reducible refine wrx ?_); (repeat (first | go_big_quiet_step ((first | (go_at_call 108; with_reducible exact Calls.ext (product_any _ _ _ hp hq)))) | quiet_step ((first | (go_at_call 108; with_reducible exact Calls.ext (product_any _ _ _ hp hq)))))); refine wpQuiet_nil ?_; rintro _ ⟨yr, rfl⟩; have syr := Ext.size yr; (repeat (first | rw [World.size_alloc] at syr | rw [World.size_setCell] at syr | rw [World.size_drew] at syr))) | (go_at_call 108; (first | with_reducible refine (Calls.giv2 (product_any _ _ _ hp hq)).mono ?_ | with_reducible refine (Calls.giv (product_any _ _ _ hp hq)).mono ?_); rintro _ _ ⟨y1, rfl, rfl⟩; have sy1 := Ext.size y1; (repeat (first | rw [World.size_alloc] at sy1 | rw [World.size_setCell] at sy1 | rw [World.size_drew] at sy1))))
  have l1 : y1.now.cell? ⟨w.heap.size, 0, none⟩ = some (.int .i64 0) := by rw [y1.cell (by simp only [World.size_alloc]; omega)]; simp [go_sem]
  have l2 : y1.now.cell? ⟨w.heap.size, 1, none⟩ = some (.int .u64 0) := by rw [y1.cell (by simp only [World.size_alloc]; omega)]; simp [go_sem]
  have l3 : y1.now.cell? ⟨w.heap.size + 1, 0, none⟩ = some (.int .i64 0) := by rw [y1.cell (by simp only [World.size_alloc]; omega)]; simp [go_sem]
  have l4 : y1.now.cell? ⟨w.heap.size + 1, 1, none⟩ = some (.int .u64 0) := by rw [y1.cell (by simp only [World.size_alloc]; omega)]; simp [go_sem]
  have f1 : y1.now.frozen? ⟨w.heap.size, 0, none⟩ = false := by rw [y1.frozen (by simp only [World.size_alloc]; omega)]; simp [go_sem]
  have f2 : y1.now.frozen? ⟨w.heap.size, 1, none⟩ = false := by rw [y1.frozen (by simp only [World.size_alloc]; omega)]; simp [go_sem]
  have f3 : y1.now.frozen? ⟨w.heap.size + 1, 0, none⟩ = false := by rw [y1.frozen (by simp only [World.size_alloc]; omega)]; simp [go_sem]
  have f4 : y1.now.frozen? ⟨w.heap.size + 1, 1, none⟩ = false := by rw [y1.frozen (by simp only [World.size_alloc]; omega)]; simp [go_sem]
  have z1 : w.heap.size < y1.now.heap.size := by have := y1.size; simp only [World.size_alloc] at this; omega
  have z2 : w.heap.size + 1 < y1.now.heap.size := by have := y1.size; simp only [World.size_alloc] at this; omega
  have z3 : w.heap.size ≤ y1.now.heap.size := by omega
  go_region
  go_wp2_with fail
  refine bodyPost_ret (v := .tuple #[.agg #[.int .i64 (whi (p * q)), .int .u64 (wlo (p * q))], .agg #[.int .i64 (whi (p * q)), .int .u64 (wlo (p * q))]]) (by simp [results, Try.results103, go_sem, l1, l2, l3, l4, z1, z2]) rfl ?_
  refine ⟨rfl, ?_⟩
  repeat' (first | (with_reducible exact Below.refl _ _) | (with_reducible assumption) | (with_reducible refine Ext.below _ ?_ ?_) | (with_reducible refine Below.on ?_ (by with_reducible assumption) ?_) | (with_reducible refine Below.alloc ?_ ?_ _) | (with_reducible refine Below.drew ?_) | (with_reducible refine Below.setCell ?_ ?_ _) | (with_reducible exact Nat.le_refl _) | omega | (simp; done) | (simp [go_sem]; done) | (simp at *; omega))
/-- The ends of a product, and its error. -/
def mulL (al ah bl bh : Int) : Int := cmbL (· * ·) (· * ·) al ah bl bh
def mulH (al ah bl bh : Int) : Int := cmbH (· * ·) (· * ·) al ah bl bh
def mulE (al ah bl bh : Int) : Int := cmbE (· * ·) (· * ·) al ah bl bh
theorem combine_mul (al ah bl bh : Int) (b : Nat) (w : World) (hb : w.cell? ⟨b, 0, none⟩ = some (.func (.func 108) #[] #[])) :
    Calls Try.prog 80 #[.agg #[.int .i64 al, .int .i64 ah], .agg #[.int .i64 bl, .int .i64 bh], .func (.func 103) #[] #[.pointer (some ⟨b, 0, none⟩)]] w
      (Gives (.tuple #[.agg #[.int .i64 (mulL al ah bl bh), .int .i64 (mulH al ah bl bh)], .int .i64 (mulE al ah bl bh)]) w) := by
  have hlt := World.block_lt_of_cell? w ⟨b, 0, none⟩ hb
  refine combine_any 103 #[.pointer (some ⟨b, 0, none⟩)] (· * ·) (· * ·) al ah bl bh w (fun args W => by simp [go_sem]) ?_
  intro W p q hB hp hq he
  unfold chkB at he
  split at he
  · rename_i h1
    rw [chk_ok] at h1 he
    exact exactly1_mul p q b W (by unfold I64; rcases hp with rfl | rfl <;> omega) (by unfold I64; rcases hq with rfl | rfl <;> omega) ((hB.cell (p := ⟨b, 0, none⟩) hlt).trans hb)
  · contradiction
set_option maxHeartbeats 2000000 in
/-- The products of the ends. -/
theorem Mul_any (al ah bl bh : Int) (w : World) :
    Calls Try.prog 87 #[.agg #[.int .i64 al, .int .i64 ah], .agg #[.int .i64 bl, .int .i64 bh]] w
      (Gives (.tuple #[.agg #[.int .i64 (mulL al ah bl bh), .int .i64 (mulH al ah bl bh)], .int .i64 (mulE al ah bl bh)]) w) := by
  have C := fun (W : World) hb => combine_mul al ah bl bh (w.heap.size + 1 + 1 + 1) W hb
  have HC := Go.Lib.hid C
  clear C
  go_enter Try.func87, Try.ntmps87
  go_wp2_with fail
  go_region_with (first
    | (go_at_call 81; (with_reducible refine (exactly_any _).mono ?_); rintro e w' ⟨rfl, rfl⟩)
    | (go_at_call 80; (with_reducible refine Calls.mono (Calls.giv (HC.out _ ?_)) ?_); (focus (simp [go_sem]; done)); (intro e w' hh; obtain ⟨y1, he, hw⟩ := hh; rw [he, hw]; clear he hw e w'); have l1 : y1.now.cell? ⟨w.heap.size + 1 + 1, 0, none⟩ = some (.int .i64 0) := (by rw [y1.cell (by simp only [World.size_alloc, World.size_drew]; omega)]; simp [go_sem]); have l2 : y1.now.cell? ⟨w.heap.size + 1 + 1, 1, none⟩ = some (.int .i64 0) := (by rw [y1.cell (by simp only [World.size_alloc, World.size_drew]; omega)]; simp [go_sem]); have f1 : y1.now.frozen? ⟨w.heap.size + 1 + 1, 0, none⟩ = false := (by rw [y1.frozen (by simp only [World.size_alloc, World.size_drew]; omega)]; simp [go_sem]); have f2 : y1.now.frozen? ⟨w.heap.size + 1 + 1, 1, none⟩ = false := (by rw [y1.frozen (by simp only [World.size_alloc, World.size_drew]; omega)]; simp [go_sem])))
  all_goals
    go_wp2_with fail
    refine bodyPost_ret (v := .tuple #[.agg #[.int .i64 (mulL al ah bl bh), .int .i64 (mulH al ah bl bh)], .int .i64 (mulE al ah bl bh)]) (by simp [results, Try.results87, go_sem, l1, l2]) rfl ?_
    refine ⟨rfl, ?_⟩
    repeat' (first | (with_reducible exact Below.refl _ _) | (with_reducible assumption) | (with_reducible refine Ext.below _ ?_ ?_) | (with_reducible refine Below.on ?_ (by with_reducible assumption) ?_) | (with_reducible refine Below.alloc ?_ ?_ _) | (with_reducible refine Below.drew ?_) | (with_reducible refine Below.setCell ?_ ?_ _) | (with_reducible exact Nat.le_refl _) | omega | (simp; done) | (simp [go_sem]; done) | (simp at *; omega))
end Go.Proofs.Ytlhihmfefipehaa

/- BigGround; rows of two lands, of two numbers. No condition. -/
import Derived.Test.YtfjieblihbnmjaaDoorBlLG
import Derived.Test.YtfjieblihbnmjaaDoorBlLo
namespace Go.Proofs.YtfjieblihbnmjaaDoor
open Go.RowKit Go.Shelf
attribute [local go_sem] Option.isSome_some Ext.cell Ext.frozen Ext.lt Ext.le Ext.lt_add Ext.le_add Ext.ne Ext.ne' lt2 lt3 lt4 lt5 le2 le3 le4
/-- Whether the ground is too great for a statement. -/
def bigB (n m : Nat) (x : LandR) : Bool := decide (40 < n ∨ 40 < m ∨ 410 < x.pl.length ∨ 410 < x.wl.length)
theorem BigGround_any (p q : Option Addr) (n m c d : Nat) (x : LandR) (w : World) : Calls Tryd.prog 17 #[.slice p n c, .slice q m d, x.val] w (Gives (.bool (bigB n m x)) w) := by
  unfold bigB LandR.val
  generalize x.pl.length = k at *
  generalize x.wl.length = j at *
  by_cases h1 : 40 < n
  · rw [decide_eq_true (.inl h1)]
    have h1' : 40 < (n : Int) := by omega
    go_enter Tryd.func17, Tryd.ntmps17
    go_wp2_with (first | ((first | with_reducible refine wp_region_ext2 (by kernel_rfl) (by kernel_rfl) ?_ | with_reducible refine wp_region_ext (by kernel_rfl) (by kernel_rfl) ?_); (repeat (first | go_big_quiet_step ((first | fail)) | quiet_step ((first | fail)))); refine wpQuiet_nil ?_; rintro _ ⟨yr, rfl⟩; have syr := Ext.size yr; (repeat (first | rw [World.size_alloc] at syr | rw [World.size_setCell] at syr | rw [World.size_drew] at syr)); have : w.heap.size < yr.now.heap.size := (by omega); have : w.heap.size ≤ yr.now.heap.size := (by omega); have : w.heap.size < yr.now.heap.size + 1 + 1 := (by omega)))
    go_returns
    refine ⟨rfl, ?_⟩
    repeat' (first | (with_reducible exact Below.refl _ _) | (with_reducible assumption) | (with_reducible refine Ext.below _ ?_ ?_) | (with_reducible refine Below.on ?_ (by with_reducible assumption) ?_) | (with_reducible refine Below.alloc ?_ ?_ _) | (with_reducible refine Below.drew ?_) | (with_reducible refine Below.setCell ?_ ?_ _) | (with_reducible exact Nat.le_refl _) | omega | (simp; done) | (simp [go_sem]; done) | (simp at *; omega))
  have h1' : ¬ 40 < (n : Int) := by omega
  by_cases h2 : 40 < m
  · rw [decide_eq_true (.inr (.inl h2))]
    have h2' : 40 < (m : Int) := by omega
    go_enter Tryd.func17, Tryd.ntmps17
    go_wp2_with (first | ((first | with_reducible refine wp_region_ext2 (by kernel_rfl) (by kernel_rfl) ?_ | with_reducible refine wp_region_ext (by kernel_rfl) (by kernel_rfl) ?_); (repeat (first | go_big_quiet_step ((first | fail)) | quiet_step ((first | fail)))); refine wpQuiet_nil ?_; rintro _ ⟨yr, rfl⟩; have syr := Ext.size yr; (repeat (first | rw [World.size_alloc] at syr | rw [World.size_setCell] at syr | rw [World.size_drew] at syr)); have : w.heap.size < yr.now.heap.size := (by omega); have : w.heap.size ≤ yr.now.heap.size := (by omega); have : w.heap.size < yr.now.heap.size + 1 + 1 := (by omega)))
    go_returns
    refine ⟨rfl, ?_⟩
    repeat' (first | (with_reducible exact Below.refl _ _) | (with_reducible assumption) | (with_reducible refine Ext.below _ ?_ ?_) | (with_reducible refine Below.on ?_ (by with_reducible assumption) ?_) | (with_reducible refine Below.alloc ?_ ?_ _) | (with_reducible refine Below.drew ?_) | (with_reducible refine Below.setCell ?_ ?_ _) | (with_reducible exact Nat.le_refl _) | omega | (simp; done) | (simp [go_sem]; done) | (simp at *; omega))
  have h2' : ¬ 40 < (m : Int) := by omega
  by_cases h3 : 410 < k
  · rw [decide_eq_true (.inr (.inr (.inl h3)))]
    have h3' : 410 < (k : Int) := by omega
    go_enter Tryd.func17, Tryd.ntmps17
    go_wp2_with (first | ((first | with_reducible refine wp_region_ext2 (by kernel_rfl) (by kernel_rfl) ?_ | with_reducible refine wp_region_ext (by kernel_rfl) (by kernel_rfl) ?_); (repeat (first | go_big_quiet_step ((first | fail)) | quiet_step ((first | fail)))); refine wpQuiet_nil ?_; rintro _ ⟨yr, rfl⟩; have syr := Ext.size yr; (repeat (first | rw [World.size_alloc] at syr | rw [World.size_setCell] at syr | rw [World.size_drew] at syr)); have : w.heap.size < yr.now.heap.size := (by omega); have : w.heap.size ≤ yr.now.heap.size := (by omega); have : w.heap.size < yr.now.heap.size + 1 + 1 := (by omega)))
    go_returns
    refine ⟨rfl, ?_⟩
    repeat' (first | (with_reducible exact Below.refl _ _) | (with_reducible assumption) | (with_reducible refine Ext.below _ ?_ ?_) | (with_reducible refine Below.on ?_ (by with_reducible assumption) ?_) | (with_reducible refine Below.alloc ?_ ?_ _) | (with_reducible refine Below.drew ?_) | (with_reducible refine Below.setCell ?_ ?_ _) | (with_reducible exact Nat.le_refl _) | omega | (simp; done) | (simp [go_sem]; done) | (simp at *; omega))
  have h3' : ¬ 410 < (k : Int) := by omega
  by_cases h4 : 410 < j
  · rw [decide_eq_true (.inr (.inr (.inr h4)))]
    have h4' : 410 < (j : Int) := by omega
    go_enter Tryd.func17, Tryd.ntmps17
    go_wp2_with (first | ((first | with_reducible refine wp_region_ext2 (by kernel_rfl) (by kernel_rfl) ?_ | with_reducible refine wp_region_ext (by kernel_rfl) (by kernel_rfl) ?_); (repeat (first | go_big_quiet_step ((first | fail)) | quiet_step ((first | fail)))); refine wpQuiet_nil ?_; rintro _ ⟨yr, rfl⟩; have syr := Ext.size yr; (repeat (first | rw [World.size_alloc] at syr | rw [World.size_setCell] at syr | rw [World.size_drew] at syr)); have : w.heap.size < yr.now.heap.size := (by omega); have : w.heap.size ≤ yr.now.heap.size := (by omega); have : w.heap.size < yr.now.heap.size + 1 + 1 := (by omega)))
    go_returns
    refine ⟨ret_bool (by simp <;> omega), ?_⟩
    repeat' (first | (with_reducible exact Below.refl _ _) | (with_reducible assumption) | (with_reducible refine Ext.below _ ?_ ?_) | (with_reducible refine Below.on ?_ (by with_reducible assumption) ?_) | (with_reducible refine Below.alloc ?_ ?_ _) | (with_reducible refine Below.drew ?_) | (with_reducible refine Below.setCell ?_ ?_ _) | (with_reducible exact Nat.le_refl _) | omega | (simp; done) | (simp [go_sem]; done) | (simp at *; omega))
  have h4' : ¬ 410 < (j : Int) := by omega
  rw [decide_eq_false (by omega)]
  go_enter Tryd.func17, Tryd.ntmps17
  go_wp2_with (first | ((first | with_reducible refine wp_region_ext2 (by kernel_rfl) (by kernel_rfl) ?_ | with_reducible refine wp_region_ext (by kernel_rfl) (by kernel_rfl) ?_); (repeat (first | go_big_quiet_step ((first | fail)) | quiet_step ((first | fail)))); refine wpQuiet_nil ?_; rintro _ ⟨yr, rfl⟩; have syr := Ext.size yr; (repeat (first | rw [World.size_alloc] at syr | rw [World.size_setCell] at syr | rw [World.size_drew] at syr)); have : w.heap.size < yr.now.heap.size := (by omega); have : w.heap.size ≤ yr.now.heap.size := (by omega); have : w.heap.size < yr.now.heap.size + 1 + 1 := (by omega)))
  go_returns
  refine ⟨ret_bool (by simp <;> omega), ?_⟩
  repeat' (first | (with_reducible exact Below.refl _ _) | (with_reducible assumption) | (with_reducible refine Ext.below _ ?_ ?_) | (with_reducible refine Below.on ?_ (by with_reducible assumption) ?_) | (with_reducible refine Below.alloc ?_ ?_ _) | (with_reducible refine Below.drew ?_) | (with_reducible refine Below.setCell ?_ ?_ _) | (with_reducible exact Nat.le_refl _) | omega | (simp; done) | (simp [go_sem]; done) | (simp at *; omega))
/-- Rows of two lands, of two numbers, each row in one block. -/
def LandsAt (W : World) (G : Nat) (l : List LandR) : Prop := G < W.heap.size ∧ ∀ i (h : i < l.length), W.cell? ⟨G, i * 2, none⟩ = some (.slice l[i].pp l[i].pl.length l[i].pc) ∧ W.cell? ⟨G, i * 2 + 1, none⟩ = some (.slice l[i].wp l[i].wl.length l[i].wc) ∧ l[i].At W
theorem lands2_row {W : World} {G : Nat} {T : TypeId} (a b : LandR) (h : W.heap[G]? = some (.cells #[.slice a.pp a.pl.length a.pc, .slice a.wp a.wl.length a.wc, .slice b.pp b.pl.length b.pc, .slice b.wp b.wl.length b.wc] T (0, 0))) (h1 : a.At W) (h2 : b.At W) : LandsAt W G [a, b] := by
  refine ⟨row_lt h, fun i hi => ?_⟩
  have hi3 : i < 2 := hi
  rcases (show i = 0 ∨ i = 1 by omega) with rfl | rfl
  · exact ⟨(cell_of_row W _ _ _ _ _ h).trans rfl, (cell_of_row W _ _ _ _ _ h).trans rfl, h1⟩
  · exact ⟨(cell_of_row W _ _ _ _ _ h).trans rfl, (cell_of_row W _ _ _ _ _ h).trans rfl, h2⟩
def IntsAt (W : World) (G : Nat) (l : List Int) : Prop := G < W.heap.size ∧ ∀ i (h : i < l.length), W.cell? ⟨G, i, none⟩ = some (.int .i64 l[i]) ∧ I64 l[i]
theorem ints2_row {W : World} {G : Nat} (a b : Int) (hG : G < W.heap.size) (h0 : W.cell? ⟨G, 0, none⟩ = some (.int .i64 a)) (h1 : W.cell? ⟨G, 1, none⟩ = some (.int .i64 b)) (ha : I64 a) (hb : I64 b) : IntsAt W G [a, b] := by
  refine ⟨hG, fun i hi => ?_⟩
  have hi3 : i < 2 := hi
  rcases (show i = 0 ∨ i = 1 by omega) with rfl | rfl
  · exact ⟨h0, ha⟩
  · exact ⟨h1, hb⟩
theorem ints2_rowW {W : World} {G : Nat} {T : TypeId} (a b : Int) (h : W.heap[G]? = some (.cells #[.int .i64 a, .int .i64 b] T (0, 0))) (ha : I64 a) (hb : I64 b) : IntsAt W G [a, b] :=
  ints2_row a b (row_lt h) ((cell_of_row W _ 0 _ _ _ h).trans rfl) ((cell_of_row W _ 1 _ _ _ h).trans rfl) ha hb
theorem LandOwn.belowX {W W' : World} {base b : Nat} {x : LandR} (h : LandOwn W base x) (hb : b < base) (k : BelowX b W.heap.size W W') : LandOwn W' base x := ⟨owns_belowX h.n hb k, owns_belowX h.b hb k, h.len⟩
end Go.Proofs.YtfjieblihbnmjaaDoor

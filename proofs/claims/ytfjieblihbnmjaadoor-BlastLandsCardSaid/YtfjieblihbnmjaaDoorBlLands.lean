/- For BlastLands: grades, lands, how far blows reach, whom they and waves harm, and craters are as the reference says, for any arguments. Written by gen_lands.py. Condition: none beyond the statement's own. -/
import Derived.Test.YtfjieblihbnmjaaDoorBlRwG
import Derived.Test.YtfjieblihbnmjaaDoorBlGo
import Derived.Test.YtfjieblihbnmjaaDoorBlLo
import Derived.Test.YtfjieblihbnmjaaDoorBlQ2
import Derived.Test.YtfjieblihbnmjaaDoorBlQ5
import Derived.Test.YtfjieblihbnmjaaDoorBlA
import Derived.Test.YtfjieblihbnmjaaDoorPairG
namespace Go.Proofs.YtfjieblihbnmjaaDoor
open Go.RowKit Go.Shelf
attribute [local go_sem] Option.isSome_some Ext.cell Ext.frozen Ext.lt Ext.le Ext.lt_add Ext.le_add Ext.ne Ext.ne' lt2 lt3 lt4 lt5 le2 le3 le4
attribute [local go_sem] RExt.cell RExt.frozen RExt.lt RExt.le RExt.lt_add RExt.le_add RExt.ne RExt.ne'
/-- Whether the ground is too great for a statement. -/
def bigB (n m : Nat) (x : LandR) : Bool := decide (40 < n ∨ 40 < m ∨ 410 < x.pl.length ∨ 410 < x.wl.length)
theorem BigGround_any (p q : Option Addr) (n m c d : Nat) (x : LandR) (w : World) : Calls Tryd.prog 17 #[.slice p n c, .slice q m d, x.val] w (Gives (.bool (bigB n m x)) w) := by
  unfold bigB LandR.val
  generalize x.pl.length = k at *
  generalize x.wl.length = j at *
  by_cases h1 : 40 < n
  · rw [decide_eq_true (.inl h1)]
    have h1' : 40 < (n : Int) := by omega
    go_enter Tryd.func17, Tryd.ntmps17
    go_wp2_with (first | ((first | with_reducible refine wp_region_ext2 (by kernel_rfl) (by kernel_rfl) ?_ | with_reducible refine wp_region_ext (by kernel_rfl) (by kernel_rfl) ?_); (repeat (first | go_big_quiet_step ((first | fail)) | quiet_step ((first | fail)))); refine wpQuiet_nil ?_; rintro _ ⟨yr, rfl⟩; have syr := Ext.size yr; (repeat (first | rw [World.size_alloc] at syr | rw [World.size_setCell] at syr | rw [World.size_drew] at syr)); have : w.heap.size < yr.now.heap.size := (by omega); have : w.heap.size ≤ yr.now.heap.size := (by omega); have : w.heap.size < yr.now.heap.size + 1 + 1 := (by omega)))
    go_returns
    refine ⟨rfl, ?_⟩
    repeat' (first | (with_reducible exact Below.refl _ _) | (with_reducible assumption) | (with_reducible refine Ext.below _ ?_ ?_) | (with_reducible refine Below.on ?_ (by with_reducible assumption) ?_) | (with_reducible refine Below.alloc ?_ ?_ _) | (with_reducible refine Below.drew ?_) | (with_reducible refine Below.setCell ?_ ?_ _) | (with_reducible exact Nat.le_refl _) | omega | (simp; done) | (simp [go_sem]; done) | (simp at *; omega))
  have h1' : ¬ 40 < (n : Int) := by omega
  by_cases h2 : 40 < m
  · rw [decide_eq_true (.inr (.inl h2))]
    have h2' : 40 < (m : Int) := by omega
    go_enter Tryd.func17, Tryd.ntmps17
    go_wp2_with (first | ((first | with_reducible refine wp_region_ext2 (by kernel_rfl) (by kernel_rfl) ?_ | with_reducible refine wp_region_ext (by kernel_rfl) (by kernel_rfl) ?_); (repeat (first | go_big_quiet_step ((first | fail)) | quiet_step ((first | fail)))); refine wpQuiet_nil ?_; rintro _ ⟨yr, rfl⟩; have syr := Ext.size yr; (repeat (first | rw [World.size_alloc] at syr | rw [World.size_setCell] at syr | rw [World.size_drew] at syr)); have : w.heap.size < yr.now.heap.size := (by omega); have : w.heap.size ≤ yr.now.heap.size := (by omega); have : w.heap.size < yr.now.heap.size + 1 + 1 := (by omega)))
    go_returns
    refine ⟨rfl, ?_⟩
    repeat' (first | (with_reducible exact Below.refl _ _) | (with_reducible assumption) | (with_reducible refine Ext.below _ ?_ ?_) | (with_reducible refine Below.on ?_ (by with_reducible assumption) ?_) | (with_reducible refine Below.alloc ?_ ?_ _) | (with_reducible refine Below.drew ?_) | (with_reducible refine Below.setCell ?_ ?_ _) | (with_reducible exact Nat.le_refl _) | omega | (simp; done) | (simp [go_sem]; done) | (simp at *; omega))
  have h2' : ¬ 40 < (m : Int) := by omega
  by_cases h3 : 410 < k
  · rw [decide_eq_true (.inr (.inr (.inl h3)))]
    have h3' : 410 < (k : Int) := by omega
    go_enter Tryd.func17, Tryd.ntmps17
    go_wp2_with (first | ((first | with_reducible refine wp_region_ext2 (by kernel_rfl) (by kernel_rfl) ?_ | with_reducible refine wp_region_ext (by kernel_rfl) (by kernel_rfl) ?_); (repeat (first | go_big_quiet_step ((first | fail)) | quiet_step ((first | fail)))); refine wpQuiet_nil ?_; rintro _ ⟨yr, rfl⟩; have syr := Ext.size yr; (repeat (first | rw [World.size_alloc] at syr | rw [World.size_setCell] at syr | rw [World.size_drew] at syr)); have : w.heap.size < yr.now.heap.size := (by omega); have : w.heap.size ≤ yr.now.heap.size := (by omega); have : w.heap.size < yr.now.heap.size + 1 + 1 := (by omega)))
    go_returns
    refine ⟨rfl, ?_⟩
    repeat' (first | (with_reducible exact Below.refl _ _) | (with_reducible assumption) | (with_reducible refine Ext.below _ ?_ ?_) | (with_reducible refine Below.on ?_ (by with_reducible assumption) ?_) | (with_reducible refine Below.alloc ?_ ?_ _) | (with_reducible refine Below.drew ?_) | (with_reducible refine Below.setCell ?_ ?_ _) | (with_reducible exact Nat.le_refl _) | omega | (simp; done) | (simp [go_sem]; done) | (simp at *; omega))
  have h3' : ¬ 410 < (k : Int) := by omega
  by_cases h4 : 410 < j
  · rw [decide_eq_true (.inr (.inr (.inr h4)))]
    have h4' : 410 < (j : Int) := by omega
    go_enter Tryd.func17, Tryd.ntmps17
    go_wp2_with (first | ((first | with_reducible refine wp_region_ext2 (by kernel_rfl) (by kernel_rfl) ?_ | with_reducible refine wp_region_ext (by kernel_rfl) (by kernel_rfl) ?_); (repeat (first | go_big_quiet_step ((first | fail)) | quiet_step ((first | fail)))); refine wpQuiet_nil ?_; rintro _ ⟨yr, rfl⟩; have syr := Ext.size yr; (repeat (first | rw [World.size_alloc] at syr | rw [World.size_setCell] at syr | rw [World.size_drew] at syr)); have : w.heap.size < yr.now.heap.size := (by omega); have : w.heap.size ≤ yr.now.heap.size := (by omega); have : w.heap.size < yr.now.heap.size + 1 + 1 := (by omega)))
    go_returns
    refine ⟨ret_bool (by simp <;> omega), ?_⟩
    repeat' (first | (with_reducible exact Below.refl _ _) | (with_reducible assumption) | (with_reducible refine Ext.below _ ?_ ?_) | (with_reducible refine Below.on ?_ (by with_reducible assumption) ?_) | (with_reducible refine Below.alloc ?_ ?_ _) | (with_reducible refine Below.drew ?_) | (with_reducible refine Below.setCell ?_ ?_ _) | (with_reducible exact Nat.le_refl _) | omega | (simp; done) | (simp [go_sem]; done) | (simp at *; omega))
  have h4' : ¬ 410 < (j : Int) := by omega
  rw [decide_eq_false (by omega)]
  go_enter Tryd.func17, Tryd.ntmps17
  go_wp2_with (first | ((first | with_reducible refine wp_region_ext2 (by kernel_rfl) (by kernel_rfl) ?_ | with_reducible refine wp_region_ext (by kernel_rfl) (by kernel_rfl) ?_); (repeat (first | go_big_quiet_step ((first | fail)) | quiet_step ((first | fail)))); refine wpQuiet_nil ?_; rintro _ ⟨yr, rfl⟩; have syr := Ext.size yr; (repeat (first | rw [World.size_alloc] at syr | rw [World.size_setCell] at syr | rw [World.size_drew] at syr)); have : w.heap.size < yr.now.heap.size := (by omega); have : w.heap.size ≤ yr.now.heap.size := (by omega); have : w.heap.size < yr.now.heap.size + 1 + 1 := (by omega)))
  go_returns
  refine ⟨ret_bool (by simp <;> omega), ?_⟩
  repeat' (first | (with_reducible exact Below.refl _ _) | (with_reducible assumption) | (with_reducible refine Ext.below _ ?_ ?_) | (with_reducible refine Below.on ?_ (by with_reducible assumption) ?_) | (with_reducible refine Below.alloc ?_ ?_ _) | (with_reducible refine Below.drew ?_) | (with_reducible refine Below.setCell ?_ ?_ _) | (with_reducible exact Nat.le_refl _) | omega | (simp; done) | (simp [go_sem]; done) | (simp at *; omega))
/-- Rows of two lands, of two numbers, each row in one block. -/
def LandsAt (W : World) (G : Nat) (l : List LandR) : Prop := G < W.heap.size ∧ ∀ i (h : i < l.length), W.cell? ⟨G, i * 2, none⟩ = some (.slice l[i].pp l[i].pl.length l[i].pc) ∧ W.cell? ⟨G, i * 2 + 1, none⟩ = some (.slice l[i].wp l[i].wl.length l[i].wc) ∧ l[i].At W
theorem lands2_row {W : World} {G : Nat} {T : TypeId} (a b : LandR) (h : W.heap[G]? = some (.cells #[.slice a.pp a.pl.length a.pc, .slice a.wp a.wl.length a.wc, .slice b.pp b.pl.length b.pc, .slice b.wp b.wl.length b.wc] T (0, 0))) (h1 : a.At W) (h2 : b.At W) : LandsAt W G [a, b] := by
  refine ⟨row_lt h, fun i hi => ?_⟩
  have hi3 : i < 2 := hi
  rcases (show i = 0 ∨ i = 1 by omega) with rfl | rfl
  · exact ⟨(cell_of_row W _ _ _ _ _ h).trans rfl, (cell_of_row W _ _ _ _ _ h).trans rfl, h1⟩
  · exact ⟨(cell_of_row W _ _ _ _ _ h).trans rfl, (cell_of_row W _ _ _ _ _ h).trans rfl, h2⟩
def IntsAt (W : World) (G : Nat) (l : List Int) : Prop := G < W.heap.size ∧ ∀ i (h : i < l.length), W.cell? ⟨G, i, none⟩ = some (.int .i64 l[i]) ∧ I64 l[i]
theorem ints2_row {W : World} {G : Nat} (a b : Int) (hG : G < W.heap.size) (h0 : W.cell? ⟨G, 0, none⟩ = some (.int .i64 a)) (h1 : W.cell? ⟨G, 1, none⟩ = some (.int .i64 b)) (ha : I64 a) (hb : I64 b) : IntsAt W G [a, b] := by
  refine ⟨hG, fun i hi => ?_⟩
  have hi3 : i < 2 := hi
  rcases (show i = 0 ∨ i = 1 by omega) with rfl | rfl
  · exact ⟨h0, ha⟩
  · exact ⟨h1, hb⟩
theorem list10 {α : Type} {l : List α} (h : l.length = 10) : ∃ b0 b1 b2 b3 b4 b5 b6 b7 b8 b9, l = [b0, b1, b2, b3, b4, b5, b6, b7, b8, b9] := by
  match l, h with
  | [b0, b1, b2, b3, b4, b5, b6, b7, b8, b9], _ => exact ⟨_, _, _, _, _, _, _, _, _, _, rfl⟩
def ldsDeps : List (List Nat) := [[], [], [1], [0, 2], [], [], [5], [4, 6], [3], [7]]
def ldsInv (b m : Nat) (gp : Option Addr) (nl gc : Nat) (x : LandR) (a0 : Act) (X : World) (l : List Bool) (fr : Act) (W : World) : Prop :=
  ∃ s14 s15 s25 s26 s27 s28 s29 s30 s31 s32 : Value, fr = sets a0 [(14, s14), (15, s15), (25, s25), (26, s26), (27, s27), (28, s28), (29, s29), (30, s30), (31, s31), (32, s32)] ∧ BelowX b X.heap.size X W ∧
    (RingM W b (m + (15 * (l.getD 2 false).toNat + 50 * (l.getD 6 false).toNat))) ∧
    (l.getD 0 false = true → s25 = .slice gp nl gc) ∧
    (l.getD 1 false = true → s26 = .pointer (some ⟨b, 0, none⟩)) ∧
    (l.getD 2 false = true → ∃ (lv : Value) (gs : List V2), s27 = lv ∧ GradesOk gs ∧ W.ownsRow X.heap.size 102 2 lv gs.length (vrows gs)) ∧
    (l.getD 3 false = true → ∃ (g : Nat) (lv : Value) (gs : List V2), s28 = .slice (some ⟨g, 0, none⟩) 2 2 ∧ X.heap.size ≤ g ∧ g < W.heap.size ∧ W.heap[g]? = some (.cells #[.slice gp nl gc, lv] 51 (0, 0)) ∧ GradesOk gs ∧ W.ownsRow X.heap.size 102 2 lv gs.length (vrows gs)) ∧
    (l.getD 4 false = true → s29 = .agg #[.slice x.pp x.pl.length x.pc, .slice x.wp x.wl.length x.wc]) ∧
    (l.getD 5 false = true → s30 = .pointer (some ⟨b, 0, none⟩)) ∧
    (l.getD 6 false = true → ∃ y : LandR, s31 = .agg #[.slice y.pp y.pl.length y.pc, .slice y.wp y.wl.length y.wc] ∧ (y.Ok ∧ y.pl.length ≤ 16) ∧ LandOwn W X.heap.size y) ∧
    (l.getD 7 false = true → ∃ (g : Nat) (y : LandR), s32 = .slice (some ⟨g, 0, none⟩) 2 2 ∧ X.heap.size ≤ g ∧ g < W.heap.size ∧ W.heap[g]? = some (.cells #[.slice x.pp x.pl.length x.pc, .slice x.wp x.wl.length x.wc, .slice y.pp y.pl.length y.pc, .slice y.wp y.wl.length y.wc] 55 (0, 0)) ∧ (y.Ok ∧ y.pl.length ≤ 16) ∧ LandOwn W X.heap.size y) ∧
    (l.getD 8 false = true → ∃ (g : Nat) (lv : Value) (gs : List V2), s14 = .slice (some ⟨g, 0, none⟩) 2 2 ∧ X.heap.size ≤ g ∧ g < W.heap.size ∧ W.heap[g]? = some (.cells #[.slice gp nl gc, lv] 51 (0, 0)) ∧ GradesOk gs ∧ W.ownsRow X.heap.size 102 2 lv gs.length (vrows gs)) ∧
    (l.getD 9 false = true → ∃ (g : Nat) (y : LandR), s15 = .slice (some ⟨g, 0, none⟩) 2 2 ∧ X.heap.size ≤ g ∧ g < W.heap.size ∧ W.heap[g]? = some (.cells #[.slice x.pp x.pl.length x.pc, .slice x.wp x.wl.length x.wc, .slice y.pp y.pl.length y.pc, .slice y.wp y.wl.length y.wc] 55 (0, 0)) ∧ (y.Ok ∧ y.pl.length ≤ 16) ∧ LandOwn W X.heap.size y)
def ldsTold (b m : Nat) (gp : Option Addr) (nl gc : Nat) (x : LandR) : Act → World → Act → World → Prop := fun a X a' W => ∃ (g0 g1 : Nat) (lv : Value) (gs : List V2) (y : LandR), a' = sets a [(14, .slice (some ⟨g0, 0, none⟩) 2 2), (15, .slice (some ⟨g1, 0, none⟩) 2 2), (25, a'.tmps.getD 25 undef), (26, a'.tmps.getD 26 undef), (27, a'.tmps.getD 27 undef), (28, a'.tmps.getD 28 undef), (29, a'.tmps.getD 29 undef), (30, a'.tmps.getD 30 undef), (31, a'.tmps.getD 31 undef), (32, a'.tmps.getD 32 undef)] ∧ GradesOk gs ∧ W.ownsRow X.heap.size 102 2 lv gs.length (vrows gs) ∧ (y.Ok ∧ y.pl.length ≤ 16) ∧ LandOwn W X.heap.size y ∧ BelowX b X.heap.size X W ∧ RingM W b (m + 65) ∧ (X.heap.size ≤ g0 ∧ X.heap.size ≤ g1) ∧ W.heap[g0]? = some (.cells #[.slice gp nl gc, lv] 51 (0, 0)) ∧ W.heap[g1]? = some (.cells #[.slice x.pp x.pl.length x.pc, .slice x.wp x.wl.length x.wc, .slice y.pp y.pl.length y.pc, .slice y.wp y.wl.length y.wc] 55 (0, 0))
set_option maxRecDepth 100000 in
set_option maxHeartbeats 16000000 in
theorem BlastLands_any (gp : Option Addr) (gc : Nat) (gl : List V2) (x : LandR) (en a r : Int) (sp : Option Addr) (sl sc : Nat) (sz : Nat → Int) (w : World) (hlim : LimAt w) (hg : VecsAt w gp gl) (hx : x.At w) (hen : I64 en) (hat : I64 a) (hre : I64 r) (hw : ListIn w sp sl sz) : Calls Tryd.prog 4 #[.slice gp gl.length gc, x.val, .int .i64 en, .int .i64 a, .int .i64 r, .slice sp sl sc] w (Gives (.bool true) w) := by
  have ca := fun W (y : LimAt W) => blastAwake_any W y
  have cb := fun W => BigGround_any none gp 0 gl.length 0 gc x W
  have hl0 := hlim.lt
  unfold LandR.val at *
  cases hbig : bigB 0 gl.length x
  rotate_left
  · rw [hbig] at cb
    clear hbig hx hg hw
    generalize gl.length = m1 at *
    generalize x.pl.length = m2 at *
    generalize x.wl.length = m3 at *
    go_enter Tryd.func4, Tryd.ntmps4
    go_wp2_with (first | ((first | with_reducible refine wp_region_ext2 (by kernel_rfl) (by kernel_rfl) ?_ | with_reducible refine wp_region_ext (by kernel_rfl) (by kernel_rfl) ?_); (repeat (first | go_big_quiet_step ((first | (go_at_call 17; with_reducible exact Calls.ext (cb _)) | (go_at_call 7; with_reducible exact Calls.ext (ca _ (by repeat (first | exact hlim | (with_reducible refine LimAt.ext ?_ _) | (with_reducible refine LimAt.alloc ?_ _) | (with_reducible refine LimAt.drew ?_) | (with_reducible refine LimAt.rext ?_ (by omega) _) | (with_reducible refine LimAt.set ?_ (by omega) _))))))) | quiet_step ((first | (go_at_call 17; with_reducible exact Calls.ext (cb _)) | (go_at_call 7; with_reducible exact Calls.ext (ca _ (by repeat (first | exact hlim | (with_reducible refine LimAt.ext ?_ _) | (with_reducible refine LimAt.alloc ?_ _) | (with_reducible refine LimAt.drew ?_) | (with_reducible refine LimAt.rext ?_ (by omega) _) | (with_reducible refine LimAt.set ?_ (by omega) _))))))))); refine wpQuiet_nil ?_; rintro _ ⟨yr, rfl⟩; have syr := Ext.size yr; (repeat (first | rw [World.size_alloc] at syr | rw [World.size_setCell] at syr | rw [World.size_drew] at syr)); have : w.heap.size < yr.now.heap.size := (by omega); have : w.heap.size ≤ yr.now.heap.size := (by omega); have : w.heap.size < yr.now.heap.size + 1 + 1 := (by omega)) | (go_at_call 17; (first | with_reducible refine (Calls.giv2 (cb _)).mono ?_ | with_reducible refine (Calls.giv (cb _)).mono ?_); rintro _ _ ⟨y1, rfl, rfl⟩; have sy1 := Ext.size y1; (repeat (first | rw [World.size_alloc] at sy1 | rw [World.size_setCell] at sy1 | rw [World.size_drew] at sy1)); have : w.heap.size < y1.now.heap.size := (by omega); have : w.heap.size ≤ y1.now.heap.size := (by omega); have : w.heap.size < y1.now.heap.size + 1 + 1 := (by omega)) | (go_at_call 7; (first | with_reducible refine (Calls.giv2 (ca _ (by repeat (first | exact hlim | (with_reducible refine LimAt.ext ?_ _) | (with_reducible refine LimAt.alloc ?_ _) | (with_reducible refine LimAt.drew ?_) | (with_reducible refine LimAt.rext ?_ (by omega) _) | (with_reducible refine LimAt.set ?_ (by omega) _))))).mono ?_ | with_reducible refine (Calls.giv (ca _ (by repeat (first | exact hlim | (with_reducible refine LimAt.ext ?_ _) | (with_reducible refine LimAt.alloc ?_ _) | (with_reducible refine LimAt.drew ?_) | (with_reducible refine LimAt.rext ?_ (by omega) _) | (with_reducible refine LimAt.set ?_ (by omega) _))))).mono ?_); rintro _ _ ⟨y2, rfl, rfl⟩; have sy2 := Ext.size y2; (repeat (first | rw [World.size_alloc] at sy2 | rw [World.size_setCell] at sy2 | rw [World.size_drew] at sy2)); have : w.heap.size < y2.now.heap.size := (by omega); have : w.heap.size ≤ y2.now.heap.size := (by omega); have : w.heap.size < y2.now.heap.size + 1 + 1 := (by omega)))
    go_returns
    refine ⟨rfl, ?_⟩
    repeat' (first | (with_reducible exact Below.refl _ _) | (with_reducible assumption) | (with_reducible refine Ext.below _ ?_ ?_) | (with_reducible refine Below.on ?_ (by with_reducible assumption) ?_) | (with_reducible refine Below.alloc ?_ ?_ _) | (with_reducible refine Below.drew ?_) | (with_reducible refine Below.setCell ?_ ?_ _) | (with_reducible exact Nat.le_refl _) | omega | (simp; done) | (simp [go_sem]; done) | (simp at *; omega))
  rw [hbig] at cb
  have hsm : gl.length ≤ 40 ∧ x.pl.length ≤ 410 ∧ x.wl.length ≤ 410 := by
    unfold bigB at hbig
    rw [decide_eq_false_iff_not] at hbig
    omega
  clear hbig
  go_enter Tryd.func4, Tryd.ntmps4
  go_upto_region 3 with (first | ((first | with_reducible refine wp_region_ext2 (by kernel_rfl) (by kernel_rfl) ?_ | with_reducible refine wp_region_ext (by kernel_rfl) (by kernel_rfl) ?_); (repeat (first | go_big_quiet_step ((first | (go_at_call 17; with_reducible exact Calls.ext (cb _)))) | quiet_step ((first | (go_at_call 17; with_reducible exact Calls.ext (cb _)))))); refine wpQuiet_nil ?_; rintro _ ⟨yr, rfl⟩; have syr := Ext.size yr; (repeat (first | rw [World.size_alloc] at syr | rw [World.size_setCell] at syr | rw [World.size_drew] at syr)); have : w.heap.size < yr.now.heap.size := (by omega); have : w.heap.size ≤ yr.now.heap.size := (by omega); have : w.heap.size < yr.now.heap.size + 1 + 1 := (by omega)) | (go_at_call 17; (first | with_reducible refine (Calls.giv2 (cb _)).mono ?_ | with_reducible refine (Calls.giv (cb _)).mono ?_); rintro _ _ ⟨y1, rfl, rfl⟩; have sy1 := Ext.size y1; (repeat (first | rw [World.size_alloc] at sy1 | rw [World.size_setCell] at sy1 | rw [World.size_drew] at sy1)); have : w.heap.size < y1.now.heap.size := (by omega); have : w.heap.size ≤ y1.now.heap.size := (by omega); have : w.heap.size < y1.now.heap.size + 1 + 1 := (by omega)))
  refine wp_named (fun W0 hW => ?_)
  have hB0 : Below w.heap.size w W0 := by rw [← hW]; repeat' (first | (with_reducible exact Below.refl _ _) | (with_reducible assumption) | (with_reducible refine Ext.below _ ?_ ?_) | (with_reducible refine Below.on ?_ (by with_reducible assumption) ?_) | (with_reducible refine Below.alloc ?_ ?_ _) | (with_reducible refine Below.drew ?_) | (with_reducible refine Below.setCell ?_ ?_ _) | (with_reducible exact Nat.le_refl _) | omega | (simp; done) | (simp [go_sem]; done) | (simp at *; omega))
  have lX0 : w.heap.size < W0.heap.size := by rw [← hW]; assumption
  have a0 : W0.cell? ⟨w.heap.size, 0, none⟩ = some (.slice x.pp x.pl.length x.pc) := by rw [← hW]; simp [go_sem]
  have a1 : W0.cell? ⟨w.heap.size, 1, none⟩ = some (.slice x.wp x.wl.length x.wc) := by rw [← hW]; simp [go_sem]
  have hlim0 : LimAt W0 := hlim.on hB0
  have hw0 : ListIn W0 sp sl sz := listIn_on hw hB0
  clear hW cb
  go_upto_region 4 with (first | ((first | with_reducible refine wp_region_ext2 (by kernel_rfl) (by kernel_rfl) ?_ | with_reducible refine wp_region_ext (by kernel_rfl) (by kernel_rfl) ?_); (repeat (first | go_big_quiet_step ((first | fail)) | quiet_step ((first | fail)))); refine wpQuiet_nil ?_; rintro _ ⟨yr, rfl⟩; have syr := Ext.size yr; (repeat (first | rw [World.size_alloc] at syr | rw [World.size_setCell] at syr | rw [World.size_drew] at syr))) | (go_at_call 8; refine (NewRing_r sp sl sc sz _ hw0).mono ?_; rintro _ _ ⟨y0, rfl, rfl, hs0, hr0⟩))
  have hRr : RingM y0.now W0.heap.size 0 := ⟨_, _, _, _, _, hr0, Nat.le_refl _⟩
  have hlr : LimAt y0.now := hlim0.ext y0
  have hnew : Below w.heap.size w y0.now := hB0.trans (y0.grew.mono (by omega))
  obtain ⟨RB, hRB⟩ : ∃ n, W0.heap.size = n := ⟨_, rfl⟩
  replace a0 := (y0.cell lX0).trans a0
  replace a1 := (y0.cell lX0).trans a1
  rw [hRB] at hRr hs0 lX0
  rw [hRB]
  have e0 := hs0
  generalize y0.now = Wr at *
  have lX : w.heap.size < Wr.heap.size := by omega
  have nX : w.heap.size ≠ RB := by omega
  clear hr0 hB0 hlim0 hw0 hs0 y0
  refine wp_tell (ldsTold RB 0 gp gl.length gc x) ?_ ?_
  focus
    have hbX := hRr.lt
    clear hlim hx hg hw hnew
    repeat (rename_i zz; clear zz)
    generalize RB = b at *
    clear e0 hl0 ca hRB
    generalize w.heap.size = KB at *
    generalize gl.length = nl at *
    refine region_dep (by kernel_rfl) ldsDeps (by kernel_rfl) (ldsInv b 0 gp nl gc x) ?h0 ?hstep ?hend
    case h0 =>
      refine ⟨?z14, ?z15, ?z25, ?z26, ?z27, ?z28, ?z29, ?z30, ?z31, ?z32, ?fr, (BelowX.refl _ _ _).drew, (by simpa using hRr.drew), by simp, by simp, by simp, by simp, by simp, by simp, by simp, by simp, by simp, by simp⟩
      case fr =>
        simp only [sets, List.foldl_cons, List.foldl_nil, List.set_cons_succ, List.set_cons_zero]
        rfl
    case hend =>
      intro l' fr W hl hall hInv
      unfold ldsInv at hInv
      obtain ⟨s14, s15, s25, s26, s27, s28, s29, s30, s31, s32, hInv⟩ := hInv
      obtain ⟨hfr, hB, g0, f0, f1, f2, f3, f4, f5, f6, f7, f8, f9⟩ := hInv
      subst hfr
      obtain ⟨b0, b1, b2, b3, b4, b5, b6, b7, b8, b9, rfl⟩ := list10 hl
      simp only [List.getD_cons_zero, List.getD_cons_succ] at g0 f0 f1 f2 f3 f4 f5 f6 f7 f8 f9
      simp only [List.all_cons, id, Bool.and_eq_true] at hall
      obtain ⟨e0, e1, e2, e3, e4, e5, e6, e7, e8, e9, -⟩ := hall
      obtain ⟨g0', lv, gs, rfl, k1, -, r0, hgok, ho⟩ := f8 e8
      obtain ⟨g1, y, rfl, k2, -, r1, hyok, hyo⟩ := f9 e9
      have hg : RingM W b (0 + 65) := by simpa only [e2, e6, Bool.toNat_true] using g0
      exact ⟨rfl, g0', g1, lv, gs, y, by kernel_rfl, hgok, ho, hyok, hyo, hB, hg, ⟨k1, k2⟩, r0, r1⟩
    case hstep =>
      intro l' fr W ii hl hInv hr hi
      unfold ldsInv at hInv
      obtain ⟨s14, s15, s25, s26, s27, s28, s29, s30, s31, s32, hInv⟩ := hInv
      obtain ⟨hfr, hB, g0, f0, f1, f2, f3, f4, f5, f6, f7, f8, f9⟩ := hInv
      subst hfr
      obtain ⟨b0, b1, b2, b3, b4, b5, b6, b7, b8, b9, rfl⟩ := list10 hl
      have sW := hB.size
      replace a0 := (hB.cell lX nX).trans a0
      replace a1 := (hB.cell lX nX).trans a1
      have hflags : b2.toNat ≤ 1 ∧ b6.toNat ≤ 1 := ⟨Bool.toNat_le _, Bool.toNat_le _⟩
      simp only [List.getD_cons_zero, List.getD_cons_succ] at g0 f0 f1 f2 f3 f4 f5 f6 f7 f8 f9
      replace hB := Go.Lib.hid hB
      replace hi := Go.Lib.hid hi
      replace g0 := Go.Lib.hid g0
      replace f0 := Go.Lib.hid f0
      replace f1 := Go.Lib.hid f1
      replace f2 := Go.Lib.hid f2
      replace f3 := Go.Lib.hid f3
      replace f4 := Go.Lib.hid f4
      replace f5 := Go.Lib.hid f5
      replace f6 := Go.Lib.hid f6
      replace f7 := Go.Lib.hid f7
      replace f8 := Go.Lib.hid f8
      replace f9 := Go.Lib.hid f9
      rcases ii with _ | _ | _ | _ | _ | _ | _ | _ | _ | _ | ii
      · refine wpOp_step rfl (fun K hK => ?_)
        simp only [sets, List.foldl_cons, List.foldl_nil, List.set_cons_succ, List.set_cons_zero]
        go_simp
        exact hK _ _ ⟨s14, s15, (.slice gp nl gc), s26, s27, s28, s29, s30, s31, s32, by kernel_rfl, hB.out, g0.out, fun _ => rfl, f1.out, f2.out, f3.out, f4.out, f5.out, f6.out, f7.out, f8.out, f9.out⟩
      · refine wpOp_step rfl (fun K hK => ?_)
        simp only [sets, List.foldl_cons, List.foldl_nil, List.set_cons_succ, List.set_cons_zero]
        go_simp
        exact hK _ _ ⟨s14, s15, s25, (.pointer (some ⟨b, 0, none⟩)), s27, s28, s29, s30, s31, s32, by kernel_rfl, hB.out, g0.out, f0.out, fun _ => rfl, f2.out, f3.out, f4.out, f5.out, f6.out, f7.out, f8.out, f9.out⟩
      · simp only [ldsDeps, List.getD_cons_zero, List.getD_cons_succ, List.all_cons, List.all_nil, Bool.and_true] at hr
        have hd1 := hr
        obtain rfl := f1.out hd1
        have hi := hi.out
        simp only [List.getElem?_cons_zero, List.getElem?_cons_succ, Option.some.injEq] at hi
        subst hi
        refine wpOp_step rfl (fun K hK => ?_)
        simp only [sets, List.foldl_cons, List.foldl_nil, List.set_cons_succ, List.set_cons_zero]
        go_simp
        refine (GradesOf_y b (0 + (15 * false.toNat + 50 * b6.toNat)) W (by have := hflags; simp only [Bool.toNat_false] at *; omega) g0.out).mono ?_
        rintro _ W6 ⟨z, lv, gs, rfl, ho, hgok, rfl, hr⟩
        exact hK _ _ ⟨s14, s15, s25, (.pointer (some ⟨b, 0, none⟩)), (lv), s28, s29, s30, s31, s32, by kernel_rfl, hB.out.trans (z.grew.mono (by omega)), (hr.mono (by simp only [List.set_cons_succ, List.set_cons_zero, List.getD_cons_zero, List.getD_cons_succ, Bool.toNat_true, Bool.toNat_false]; omega)), f0.out, f1.out, (fun _ => ⟨lv, gs, rfl, hgok, owns_base ho (by omega)⟩), (fun h => by obtain ⟨g, lv, gs, e, h1, h2, h3, h4, ho⟩ := f3.out h; exact ⟨g, lv, gs, e, h1, Nat.lt_of_lt_of_le h2 z.size, z.row h3 h2 (by omega), h4, owns_belowX ho (by omega) z.grew⟩), f4.out, f5.out, (fun h => by obtain ⟨y', e, h1, ho⟩ := f6.out h; exact ⟨y', e, h1, ho.rext (by omega) z⟩), (fun h => by obtain ⟨g, y', e, h1, h2, h3, h4, ho⟩ := f7.out h; exact ⟨g, y', e, h1, Nat.lt_of_lt_of_le h2 z.size, z.row h3 h2 (by omega), h4, ho.rext (by omega) z⟩), (fun h => by obtain ⟨g, lv, gs, e, h1, h2, h3, h4, ho⟩ := f8.out h; exact ⟨g, lv, gs, e, h1, Nat.lt_of_lt_of_le h2 z.size, z.row h3 h2 (by omega), h4, owns_belowX ho (by omega) z.grew⟩), (fun h => by obtain ⟨g, y', e, h1, h2, h3, h4, ho⟩ := f9.out h; exact ⟨g, y', e, h1, Nat.lt_of_lt_of_le h2 z.size, z.row h3 h2 (by omega), h4, ho.rext (by omega) z⟩)⟩
      · simp only [ldsDeps, List.getD_cons_zero, List.getD_cons_succ, List.all_cons, List.all_nil, Bool.and_true, Bool.and_eq_true] at hr
        obtain ⟨hd0, hd2⟩ := hr
        obtain rfl := f0.out hd0
        obtain ⟨lv, gs, rfl, h1, ho⟩ := f2.out hd2
        obtain ⟨q2, d2, rfl⟩ := owns_form ho
        refine wpOp_step rfl (fun K hK => ?_)
        simp only [sets, List.foldl_cons, List.foldl_nil, List.set_cons_succ, List.set_cons_zero]
        go_simp
        exact hK _ _ ⟨s14, s15, (.slice gp nl gc), s26, (.slice q2 gs.length d2), (.slice (some ⟨W.heap.size, 0, none⟩) 2 2), s29, s30, s31, s32, by kernel_rfl, hB.out.alloc (by omega) _, (g0.out.alloc _), f0.out, f1.out, (fun _ => ⟨_, gs, rfl, h1, ho.alloc _⟩), (fun _ => ⟨W.heap.size, _, gs, rfl, by omega, by simp only [World.size_alloc]; omega, heap_alloc_new _ _, h1, ho.alloc _⟩), f4.out, f5.out, (fun h => by obtain ⟨y', e, h1, ho⟩ := f6.out h; exact ⟨y', e, h1, ho.alloc _⟩), (fun h => by obtain ⟨g, y', e, h1, h2, h3, h4, ho⟩ := f7.out h; exact ⟨g, y', e, h1, by simp only [World.size_alloc]; omega, (heap_alloc_old _ _ h2).trans h3, h4, ho.alloc _⟩), (fun h => by obtain ⟨g, lv, gs, e, h1, h2, h3, h4, ho⟩ := f8.out h; exact ⟨g, lv, gs, e, h1, by simp only [World.size_alloc]; omega, (heap_alloc_old _ _ h2).trans h3, h4, ho.alloc _⟩), (fun h => by obtain ⟨g, y', e, h1, h2, h3, h4, ho⟩ := f9.out h; exact ⟨g, y', e, h1, by simp only [World.size_alloc]; omega, (heap_alloc_old _ _ h2).trans h3, h4, ho.alloc _⟩)⟩
      · refine wpOp_step rfl (fun K hK => ?_)
        simp only [sets, List.foldl_cons, List.foldl_nil, List.set_cons_succ, List.set_cons_zero]
        go_simp
        exact hK _ _ ⟨s14, s15, s25, s26, s27, s28, (.agg #[.slice x.pp x.pl.length x.pc, .slice x.wp x.wl.length x.wc]), s30, s31, s32, by kernel_rfl, hB.out, g0.out, f0.out, f1.out, f2.out, f3.out, fun _ => rfl, f5.out, f6.out, f7.out, f8.out, f9.out⟩
      · refine wpOp_step rfl (fun K hK => ?_)
        simp only [sets, List.foldl_cons, List.foldl_nil, List.set_cons_succ, List.set_cons_zero]
        go_simp
        exact hK _ _ ⟨s14, s15, s25, s26, s27, s28, s29, (.pointer (some ⟨b, 0, none⟩)), s31, s32, by kernel_rfl, hB.out, g0.out, f0.out, f1.out, f2.out, f3.out, f4.out, fun _ => rfl, f6.out, f7.out, f8.out, f9.out⟩
      · simp only [ldsDeps, List.getD_cons_zero, List.getD_cons_succ, List.all_cons, List.all_nil, Bool.and_true] at hr
        have hd5 := hr
        obtain rfl := f5.out hd5
        have hi := hi.out
        simp only [List.getElem?_cons_zero, List.getElem?_cons_succ, Option.some.injEq] at hi
        subst hi
        refine wpOp_step rfl (fun K hK => ?_)
        simp only [sets, List.foldl_cons, List.foldl_nil, List.set_cons_succ, List.set_cons_zero]
        go_simp
        refine (LandOf_z b (0 + (15 * b2.toNat + 50 * false.toNat)) W (by have := hflags; simp only [Bool.toNat_false] at *; omega) g0.out).mono ?_
        rintro _ W6 ⟨z, y, rfl, ho, hyok, ⟨hy16, -⟩, rfl, hr⟩
        exact hK _ _ ⟨s14, s15, s25, s26, s27, s28, s29, (.pointer (some ⟨b, 0, none⟩)), (.agg #[.slice y.pp y.pl.length y.pc, .slice y.wp y.wl.length y.wc]), s32, by kernel_rfl, hB.out.trans (z.grew.mono (by omega)), (hr.mono (by simp only [List.set_cons_succ, List.set_cons_zero, List.getD_cons_zero, List.getD_cons_succ, Bool.toNat_true, Bool.toNat_false]; omega)), f0.out, f1.out, (fun h => by obtain ⟨lv, gs, e, h1, ho⟩ := f2.out h; exact ⟨lv, gs, e, h1, owns_belowX ho (by omega) z.grew⟩), (fun h => by obtain ⟨g, lv, gs, e, h1, h2, h3, h4, ho⟩ := f3.out h; exact ⟨g, lv, gs, e, h1, Nat.lt_of_lt_of_le h2 z.size, z.row h3 h2 (by omega), h4, owns_belowX ho (by omega) z.grew⟩), f4.out, f5.out, (fun _ => ⟨y, rfl, ⟨hyok, hy16⟩, ho.base (by omega)⟩), (fun h => by obtain ⟨g, y', e, h1, h2, h3, h4, ho⟩ := f7.out h; exact ⟨g, y', e, h1, Nat.lt_of_lt_of_le h2 z.size, z.row h3 h2 (by omega), h4, ho.rext (by omega) z⟩), (fun h => by obtain ⟨g, lv, gs, e, h1, h2, h3, h4, ho⟩ := f8.out h; exact ⟨g, lv, gs, e, h1, Nat.lt_of_lt_of_le h2 z.size, z.row h3 h2 (by omega), h4, owns_belowX ho (by omega) z.grew⟩), (fun h => by obtain ⟨g, y', e, h1, h2, h3, h4, ho⟩ := f9.out h; exact ⟨g, y', e, h1, Nat.lt_of_lt_of_le h2 z.size, z.row h3 h2 (by omega), h4, ho.rext (by omega) z⟩)⟩
      · simp only [ldsDeps, List.getD_cons_zero, List.getD_cons_succ, List.all_cons, List.all_nil, Bool.and_true, Bool.and_eq_true] at hr
        obtain ⟨hd4, hd6⟩ := hr
        obtain rfl := f4.out hd4
        obtain ⟨y, rfl, h1, ho⟩ := f6.out hd6
        refine wpOp_step rfl (fun K hK => ?_)
        simp only [sets, List.foldl_cons, List.foldl_nil, List.set_cons_succ, List.set_cons_zero]
        go_simp
        exact hK _ _ ⟨s14, s15, s25, s26, s27, s28, (.agg #[.slice x.pp x.pl.length x.pc, .slice x.wp x.wl.length x.wc]), s30, (.agg #[.slice y.pp y.pl.length y.pc, .slice y.wp y.wl.length y.wc]), (.slice (some ⟨W.heap.size, 0, none⟩) 2 2), by kernel_rfl, hB.out.alloc (by omega) _, (g0.out.alloc _), f0.out, f1.out, (fun h => by obtain ⟨lv, gs, e, h1, ho⟩ := f2.out h; exact ⟨lv, gs, e, h1, ho.alloc _⟩), (fun h => by obtain ⟨g, lv, gs, e, h1, h2, h3, h4, ho⟩ := f3.out h; exact ⟨g, lv, gs, e, h1, by simp only [World.size_alloc]; omega, (heap_alloc_old _ _ h2).trans h3, h4, ho.alloc _⟩), f4.out, f5.out, (fun _ => ⟨y, rfl, h1, ho.alloc _⟩), (fun _ => ⟨W.heap.size, y, rfl, by omega, by simp only [World.size_alloc]; omega, heap_alloc_new _ _, h1, ho.alloc _⟩), (fun h => by obtain ⟨g, lv, gs, e, h1, h2, h3, h4, ho⟩ := f8.out h; exact ⟨g, lv, gs, e, h1, by simp only [World.size_alloc]; omega, (heap_alloc_old _ _ h2).trans h3, h4, ho.alloc _⟩), (fun h => by obtain ⟨g, y', e, h1, h2, h3, h4, ho⟩ := f9.out h; exact ⟨g, y', e, h1, by simp only [World.size_alloc]; omega, (heap_alloc_old _ _ h2).trans h3, h4, ho.alloc _⟩)⟩
      · simp only [ldsDeps, List.getD_cons_zero, List.getD_cons_succ, List.all_cons, List.all_nil, Bool.and_true] at hr
        have hd3 := hr
        obtain ⟨g, lv, gs, rfl, h1, h2, h3, h4, ho⟩ := f3.out hd3
        refine wpOp_step rfl (fun K hK => ?_)
        simp only [sets, List.foldl_cons, List.foldl_nil, List.set_cons_succ, List.set_cons_zero]
        go_simp
        exact hK _ _ ⟨(.slice (some ⟨g, 0, none⟩) 2 2), s15, s25, s26, s27, (.slice (some ⟨g, 0, none⟩) 2 2), s29, s30, s31, s32, by kernel_rfl, hB.out, g0.out, f0.out, f1.out, f2.out, (fun _ => ⟨g, lv, gs, rfl, h1, h2, h3, h4, ho⟩), f4.out, f5.out, f6.out, f7.out, (fun _ => ⟨g, lv, gs, rfl, h1, h2, h3, h4, ho⟩), f9.out⟩
      · simp only [ldsDeps, List.getD_cons_zero, List.getD_cons_succ, List.all_cons, List.all_nil, Bool.and_true] at hr
        have hd7 := hr
        obtain ⟨g, y, rfl, h1, h2, h3, h4, ho⟩ := f7.out hd7
        refine wpOp_step rfl (fun K hK => ?_)
        simp only [sets, List.foldl_cons, List.foldl_nil, List.set_cons_succ, List.set_cons_zero]
        go_simp
        exact hK _ _ ⟨s14, (.slice (some ⟨g, 0, none⟩) 2 2), s25, s26, s27, s28, s29, s30, s31, (.slice (some ⟨g, 0, none⟩) 2 2), by kernel_rfl, hB.out, g0.out, f0.out, f1.out, f2.out, f3.out, f4.out, f5.out, f6.out, (fun _ => ⟨g, y, rfl, h1, h2, h3, h4, ho⟩), f8.out, (fun _ => ⟨g, y, rfl, h1, h2, h3, h4, ho⟩)⟩
      · have hi := hi.out; simp at hi
  rintro a4 W4 ⟨g0, g1, lv, gs, y, ha4, hgok, hown, ⟨hyok, hy16⟩, hyown, hB4, hR4, ⟨k1, k2⟩, r0, r1⟩
  generalize a4.tmps.getD 14 undef = s14 at ha4
  generalize a4.tmps.getD 15 undef = s15 at ha4
  generalize a4.tmps.getD 25 undef = s25 at ha4
  generalize a4.tmps.getD 26 undef = s26 at ha4
  generalize a4.tmps.getD 27 undef = s27 at ha4
  generalize a4.tmps.getD 28 undef = s28 at ha4
  generalize a4.tmps.getD 29 undef = s29 at ha4
  generalize a4.tmps.getD 30 undef = s30 at ha4
  generalize a4.tmps.getD 31 undef = s31 at ha4
  generalize a4.tmps.getD 32 undef = s32 at ha4
  subst ha4
  simp only [sets, List.foldl_cons, List.foldl_nil, List.set_cons_succ, List.set_cons_zero]
  have sB4 := hB4.size
  have hB5 : Below w.heap.size w W4 := ((BelowX.of hnew).trans (hB4.mono (by omega))).below (by omega)
  have lRB : RB < Wr.heap.size := by omega
  have c10 : W4.cell? ⟨g1, 0, none⟩ = some (.slice x.pp x.pl.length x.pc) := (cell_of_row W4 _ 0 _ _ _ r1).trans rfl
  have c11 : W4.cell? ⟨g1, 1, none⟩ = some (.slice x.wp x.wl.length x.wc) := (cell_of_row W4 _ 1 _ _ _ r1).trans rfl
  have c12 : W4.cell? ⟨g1, 2, none⟩ = some (.slice y.pp y.pl.length y.pc) := (cell_of_row W4 _ 2 _ _ _ r1).trans rfl
  have c13 : W4.cell? ⟨g1, 3, none⟩ = some (.slice y.wp y.wl.length y.wc) := (cell_of_row W4 _ 3 _ _ _ r1).trans rfl
  have l0 : g0 < W4.heap.size := row_lt r0
  have l1 : g1 < W4.heap.size := row_lt r1
  have n0 : g0 ≠ RB := by omega
  have n1 : g1 ≠ RB := by omega
  have ypos := hyok.pos
  have lR4 : RB < W4.heap.size := by omega
  have ylen : (0 : Int) < y.pl.length ∧ (y.pl.length : Int) ≤ 16 := by omega
  replace hyok := Go.Lib.hid hyok
  clear hnew a0 a1 lX nX
  go_upto_region 6 with (first | ((first | with_reducible refine wp_region_ext2 (by kernel_rfl) (by kernel_rfl) ?_ | with_reducible refine wp_region_ext (by kernel_rfl) (by kernel_rfl) ?_); (repeat (first | go_big_quiet_step ((first | fail)) | quiet_step ((first | fail)))); refine wpQuiet_nil ?_; rintro _ ⟨yr, rfl⟩; have syr := Ext.size yr; (repeat (first | rw [World.size_alloc] at syr | rw [World.size_setCell] at syr | rw [World.size_drew] at syr)); have : RB < yr.now.heap.size := (by omega); have : RB ≤ yr.now.heap.size := (by omega); have : RB < yr.now.heap.size + 1 + 1 := (by omega); have : g0 < yr.now.heap.size := (by omega); have : g0 ≤ yr.now.heap.size := (by omega); have : g0 < yr.now.heap.size + 1 + 1 := (by omega); have : g1 < yr.now.heap.size := (by omega); have : g1 ≤ yr.now.heap.size := (by omega); have : g1 < yr.now.heap.size + 1 + 1 := (by omega)) | (go_at_call 20; (with_reducible refine Calls.mono (Next_y y.pl.length RB 65 _ (by omega) (by omega) (by omega) ?_) ?_); (focus ((repeat (first | (with_reducible assumption) | (with_reducible refine RingM.alloc ?_ _) | (with_reducible refine RingM.drew ?_) | (with_reducible refine RingM.ext ?_ _) | (with_reducible refine RingM.set ?_ _ (by omega)))); done)); (rintro _ _ ⟨yx1, vx1, rfl, hvx1, rfl, rgx1⟩); have syx1 := RExt.size yx1; (repeat (first | rw [World.size_alloc] at syx1 | rw [World.size_setCell] at syx1 | rw [World.size_drew] at syx1)); have : RB < yx1.now.heap.size := (by omega); have : RB ≤ yx1.now.heap.size := (by omega); have : RB < yx1.now.heap.size + 1 + 1 := (by omega); have : g0 < yx1.now.heap.size := (by omega); have : g0 ≤ yx1.now.heap.size := (by omega); have : g0 < yx1.now.heap.size + 1 + 1 := (by omega); have : g1 < yx1.now.heap.size := (by omega); have : g1 ≤ yx1.now.heap.size := (by omega); have : g1 < yx1.now.heap.size + 1 + 1 := (by omega)) | (go_at_call 21; (with_reducible refine Calls.mono (Range_y 0 9 RB 66 _ (by omega) (by omega) (by omega) (by omega) ?_) ?_); (focus ((repeat (first | (with_reducible assumption) | (with_reducible refine RingM.alloc ?_ _) | (with_reducible refine RingM.drew ?_) | (with_reducible refine RingM.ext ?_ _) | (with_reducible refine RingM.set ?_ _ (by omega)))); done)); (rintro _ _ ⟨yx2, vx2, rfl, hvx2, rfl, rgx2⟩); have syx2 := RExt.size yx2; (repeat (first | rw [World.size_alloc] at syx2 | rw [World.size_setCell] at syx2 | rw [World.size_drew] at syx2)); have : RB < yx2.now.heap.size := (by omega); have : RB ≤ yx2.now.heap.size := (by omega); have : RB < yx2.now.heap.size + 1 + 1 := (by omega); have : g0 < yx2.now.heap.size := (by omega); have : g0 ≤ yx2.now.heap.size := (by omega); have : g0 < yx2.now.heap.size + 1 + 1 := (by omega); have : g1 < yx2.now.heap.size := (by omega); have : g1 ≤ yx2.now.heap.size := (by omega); have : g1 < yx2.now.heap.size + 1 + 1 := (by omega)))
  obtain ⟨hv10, hv11⟩ := hvx1
  obtain ⟨hv20, hv21⟩ := hvx2
  obtain ⟨IC, hIC⟩ : ∃ n, yx1.now.heap.size = n := ⟨_, rfl⟩
  obtain ⟨JC, hJC⟩ : ∃ n, yx2.now.heap.size = n := ⟨_, rfl⟩
  refine wp_named (fun W5 hW => ?_)
  have s1 := yx1.size
  have s2 := yx2.size
  rw [World.size_alloc] at s2
  have hb45 : BelowX RB W4.heap.size W4 W5 := by
    rw [← hW]
    exact ((yx1.grew.alloc yx1.size _).trans (yx2.grew.mono (by simp only [World.size_alloc]; omega))).alloc (by omega) _
  have hI0 : W5.cell? ⟨IC, 0, none⟩ = some (.int .i64 a) := by
    have q : yx1.now.heap.size ≠ RB := by omega
    have q2 : yx1.now.heap.size < yx2.now.heap.size := by omega
    have h8 : yx2.now.cell? ⟨yx1.now.heap.size, 0, none⟩ = some (.int .i64 a) := (yx2.cell (by simp) q).trans (by simp [go_sem])
    rw [← hW, ← hIC]
    simp [go_sem, h8]
  have hI1 : W5.cell? ⟨IC, 1, none⟩ = some (.int .i64 vx1) := by
    have q : yx1.now.heap.size ≠ RB := by omega
    have q2 : yx1.now.heap.size < yx2.now.heap.size := by omega
    have h8 : yx2.now.cell? ⟨yx1.now.heap.size, 1, none⟩ = some (.int .i64 vx1) := (yx2.cell (by simp) q).trans (by simp [go_sem])
    rw [← hW, ← hIC]
    simp [go_sem, h8]
  have hJ0 : W5.cell? ⟨JC, 0, none⟩ = some (.int .i64 r) := by rw [← hW, ← hJC]; simp [go_sem]
  have hJ1 : W5.cell? ⟨JC, 1, none⟩ = some (.int .i64 vx2) := by rw [← hW, ← hJC]; simp [go_sem]
  have lI : IC < W5.heap.size := by rw [← hW]; simp; omega
  have lJ : JC < W5.heap.size := by rw [← hW]; simp; omega
  rw [hIC, hJC]
  clear hW hIC hJC s1 s2
  have hwRB : w.heap.size ≤ RB := by omega
  have hB6 : Below w.heap.size w W5 := ((BelowX.of hB5).trans (hb45.mono hB5.size)).below hwRB
  have hlim5 : LimAt W5 := hlim.on hB6
  obtain ⟨p2, cc2, rfl, hv2, -⟩ := vecs_of (owns_belowX hown lRB hb45)
  have hyAt : y.At W5 := (LandOwn.mk (owns_belowX hyown.n lRB hb45) (owns_belowX hyown.b lRB hb45) hyown.len).at'
  have hA := airs2_row ⟨gp, gc, gl⟩ ⟨p2, cc2, gs⟩ ((hb45.block g0 l0 n0).trans r0) (hg.on hB6) hv2 (by simp only; omega) (by have := hgok.le; simp only; omega)
  have hL := lands2_row x y ((hb45.block g1 l1 n1).trans r1) (hx.on hB6) hyAt
  have hI := ints2_row a vx1 lI hI0 hI1 hat (by unfold I64; omega)
  have hJ := ints2_row r vx2 lJ hJ0 hJ1 hre (by unfold I64; omega)
  replace l0 : g0 < W5.heap.size := hA.1
  replace l1 : g1 < W5.heap.size := hL.1
  have hal : ([⟨gp, gc, gl⟩, ⟨p2, cc2, gs⟩] : List AirR).length = 2 := rfl
  have hll : [x, y].length = 2 := rfl
  have hil : [a, vx1].length = 2 := rfl
  have hjl : [r, vx2].length = 2 := rfl
  generalize ([⟨gp, gc, gl⟩, ⟨p2, cc2, gs⟩] : List AirR) = AL at *
  generalize [x, y] = LL at *
  generalize [a, vx1] = IL at *
  generalize [r, vx2] = JL at *
  have k1 := fun W => Crater_any en W hen
  have k2 := fun W => rCrater_any en W hen
  generalize craterV en = CV at *
  clear hI0 hI1 hJ0 hJ1 hyAt hv2 hyown hown hb45 r0 r1 hR4 hB4 hB5 sB4 c10 c11 c12 c13 n0 n1 ypos lR4 ylen hyok hgok rgx1 rgx2 hlr hRr e0 lRB hRB lX0 hwRB hv10 hv11 hv20 hv21 hg hx hw hsm hy16 hl0 hen hre hat
  replace hA := Go.Lib.hid hA
  replace hL := Go.Lib.hid hL
  replace hI := Go.Lib.hid hI
  replace hJ := Go.Lib.hid hJ
  go_wp2_with (first | ((first | with_reducible refine wp_region_ext2 (by kernel_rfl) (by kernel_rfl) ?_ | with_reducible refine wp_region_ext (by kernel_rfl) (by kernel_rfl) ?_); (repeat (first | go_big_quiet_step ((first | fail)) | quiet_step ((first | fail)))); refine wpQuiet_nil ?_; rintro _ ⟨yr, rfl⟩; have syr := Ext.size yr; (repeat (first | rw [World.size_alloc] at syr | rw [World.size_setCell] at syr | rw [World.size_drew] at syr))))
  go_loopw [18] (fun s W => ∃ (i : Nat) (x : Ext W5), s = .int .i64 i ∧ W = x.now ∧ i ≤ 2) (fun s _ => 2 - (intOf s).toNat)
  case atStart => exact ⟨0, ⟨W5, Below.refl _ _⟩, rfl, rfl, by omega⟩
  case round =>
    obtain ⟨i, z, rfl, rfl, hi⟩ := hrel
    have xs := z.size
    have sB6 := hB6.size
    by_cases hlt : i < 2
    ·
        have hlt2 : (i : Int) < 2 := by omega
        obtain ⟨a0, hav, h40⟩ := hA.out.2 i (by omega)
        obtain ⟨u0, u1, hlx⟩ := hL.out.2 i (by omega)
        obtain ⟨v0, hv0⟩ := hI.out.2 i (by omega)
        obtain ⟨t0, ht0⟩ := hJ.out.2 i (by omega)
        generalize AL[i]'(by omega) = ai at *
        generalize LL[i]'(by omega) = li at *
        generalize IL[i]'(by omega) = ii at *
        generalize JL[i]'(by omega) = ji at *
        obtain ⟨ap, ac, al⟩ := ai
        simp only at a0 hav h40
        have p1 := fun W (y : Below W5.heap.size W5 W) => CheckGrades_any ap ac al W (hav.on y)
        have p2 := fun W (y : Below W5.heap.size W5 W) => rCheckGrades_any ap ac al W (hav.on y)
        have p3 := fun W (y : Below W5.heap.size W5 W) => Reach_any ap ac al en W (hav.on y) (by omega)
        have p4 := fun W (y : Below W5.heap.size W5 W) => rReach_any ap ac al en W (hav.on y) (by omega)
        have p5 := fun W (y : Below W5.heap.size W5 W) => CheckLand_any li W (hlx.on y).nums
        have p6 := fun W (y : Below W5.heap.size W5 W) => rCheckLand_any li W (hlx.on y).nums
        have p7 := fun W (y : Below W5.heap.size W5 W) => Harm_any li ii ji W (hlx.on y) ht0
        have p8 := fun W (y : Below W5.heap.size W5 W) => rHarm_any li ii ji W (hlx.on y) ht0
        have p9 := fun W (y : Below W5.heap.size W5 W) => Wave_any li ii ji W (hlx.on y) ht0
        have p10 := fun W (y : Below W5.heap.size W5 W) => rWave_any li ii ji W (hlx.on y) ht0
        generalize gradesE al = E1 at *
        generalize reachV al en = E2 at *
        generalize landE li = E3 at *
        generalize harmA li ii ji = E4 at *
        generalize waveA li ii ji = E5 at *
        unfold LandR.val at *
        clear hA hL hI hJ hal hll hil hjl ca k1 k2 hB6 sB6 hlx hav h40 hv0 ht0
        generalize al.length = n1 at *
        generalize li.pl.length = n2 at *
        generalize li.wl.length = n3 at *
        go_upto_region 9 with (first | ((first | with_reducible refine wp_region_ext2 (by kernel_rfl) (by kernel_rfl) ?_ | with_reducible refine wp_region_ext (by kernel_rfl) (by kernel_rfl) ?_); (repeat (first | go_big_quiet_step ((first | fail)) | quiet_step ((first | fail)))); refine wpQuiet_nil ?_; rintro _ ⟨yr, rfl⟩; have syr := Ext.size yr; (repeat (first | rw [World.size_alloc] at syr | rw [World.size_setCell] at syr | rw [World.size_drew] at syr))))
        with_reducible refine wp_region_ext2 (by kernel_rfl) (by as_aux_lemma => kernel_rfl) ?_
        repeat (first | go_big_quiet_step ((first | (go_at_call 22; with_reducible exact Calls.ext (p1 _ (by repeat' (first | (with_reducible exact Below.refl _ _) | (with_reducible assumption) | (with_reducible refine Ext.below _ ?_ ?_) | (with_reducible refine Below.on ?_ (by with_reducible assumption) ?_) | (with_reducible refine Below.alloc ?_ ?_ _) | (with_reducible refine Below.drew ?_) | (with_reducible refine Below.setCell ?_ ?_ _) | (with_reducible exact Nat.le_refl _) | omega | (simp; done) | (simp [go_sem]; done) | (simp at *; omega))))) | (go_at_call 23; with_reducible exact Calls.ext (p2 _ (by repeat' (first | (with_reducible exact Below.refl _ _) | (with_reducible assumption) | (with_reducible refine Ext.below _ ?_ ?_) | (with_reducible refine Below.on ?_ (by with_reducible assumption) ?_) | (with_reducible refine Below.alloc ?_ ?_ _) | (with_reducible refine Below.drew ?_) | (with_reducible refine Below.setCell ?_ ?_ _) | (with_reducible exact Nat.le_refl _) | omega | (simp; done) | (simp [go_sem]; done) | (simp at *; omega))))) | (go_at_call 24; with_reducible exact Calls.ext (p3 _ (by repeat' (first | (with_reducible exact Below.refl _ _) | (with_reducible assumption) | (with_reducible refine Ext.below _ ?_ ?_) | (with_reducible refine Below.on ?_ (by with_reducible assumption) ?_) | (with_reducible refine Below.alloc ?_ ?_ _) | (with_reducible refine Below.drew ?_) | (with_reducible refine Below.setCell ?_ ?_ _) | (with_reducible exact Nat.le_refl _) | omega | (simp; done) | (simp [go_sem]; done) | (simp at *; omega))))) | (go_at_call 25; with_reducible exact Calls.ext (p4 _ (by repeat' (first | (with_reducible exact Below.refl _ _) | (with_reducible assumption) | (with_reducible refine Ext.below _ ?_ ?_) | (with_reducible refine Below.on ?_ (by with_reducible assumption) ?_) | (with_reducible refine Below.alloc ?_ ?_ _) | (with_reducible refine Below.drew ?_) | (with_reducible refine Below.setCell ?_ ?_ _) | (with_reducible exact Nat.le_refl _) | omega | (simp; done) | (simp [go_sem]; done) | (simp at *; omega))))) | (go_at_call 26; with_reducible exact Calls.ext (p5 _ (by repeat' (first | (with_reducible exact Below.refl _ _) | (with_reducible assumption) | (with_reducible refine Ext.below _ ?_ ?_) | (with_reducible refine Below.on ?_ (by with_reducible assumption) ?_) | (with_reducible refine Below.alloc ?_ ?_ _) | (with_reducible refine Below.drew ?_) | (with_reducible refine Below.setCell ?_ ?_ _) | (with_reducible exact Nat.le_refl _) | omega | (simp; done) | (simp [go_sem]; done) | (simp at *; omega))))) | (go_at_call 27; with_reducible exact Calls.ext (p6 _ (by repeat' (first | (with_reducible exact Below.refl _ _) | (with_reducible assumption) | (with_reducible refine Ext.below _ ?_ ?_) | (with_reducible refine Below.on ?_ (by with_reducible assumption) ?_) | (with_reducible refine Below.alloc ?_ ?_ _) | (with_reducible refine Below.drew ?_) | (with_reducible refine Below.setCell ?_ ?_ _) | (with_reducible exact Nat.le_refl _) | omega | (simp; done) | (simp [go_sem]; done) | (simp at *; omega))))))) | quiet_step ((first | (go_at_call 22; with_reducible exact Calls.ext (p1 _ (by repeat' (first | (with_reducible exact Below.refl _ _) | (with_reducible assumption) | (with_reducible refine Ext.below _ ?_ ?_) | (with_reducible refine Below.on ?_ (by with_reducible assumption) ?_) | (with_reducible refine Below.alloc ?_ ?_ _) | (with_reducible refine Below.drew ?_) | (with_reducible refine Below.setCell ?_ ?_ _) | (with_reducible exact Nat.le_refl _) | omega | (simp; done) | (simp [go_sem]; done) | (simp at *; omega))))) | (go_at_call 23; with_reducible exact Calls.ext (p2 _ (by repeat' (first | (with_reducible exact Below.refl _ _) | (with_reducible assumption) | (with_reducible refine Ext.below _ ?_ ?_) | (with_reducible refine Below.on ?_ (by with_reducible assumption) ?_) | (with_reducible refine Below.alloc ?_ ?_ _) | (with_reducible refine Below.drew ?_) | (with_reducible refine Below.setCell ?_ ?_ _) | (with_reducible exact Nat.le_refl _) | omega | (simp; done) | (simp [go_sem]; done) | (simp at *; omega))))) | (go_at_call 24; with_reducible exact Calls.ext (p3 _ (by repeat' (first | (with_reducible exact Below.refl _ _) | (with_reducible assumption) | (with_reducible refine Ext.below _ ?_ ?_) | (with_reducible refine Below.on ?_ (by with_reducible assumption) ?_) | (with_reducible refine Below.alloc ?_ ?_ _) | (with_reducible refine Below.drew ?_) | (with_reducible refine Below.setCell ?_ ?_ _) | (with_reducible exact Nat.le_refl _) | omega | (simp; done) | (simp [go_sem]; done) | (simp at *; omega))))) | (go_at_call 25; with_reducible exact Calls.ext (p4 _ (by repeat' (first | (with_reducible exact Below.refl _ _) | (with_reducible assumption) | (with_reducible refine Ext.below _ ?_ ?_) | (with_reducible refine Below.on ?_ (by with_reducible assumption) ?_) | (with_reducible refine Below.alloc ?_ ?_ _) | (with_reducible refine Below.drew ?_) | (with_reducible refine Below.setCell ?_ ?_ _) | (with_reducible exact Nat.le_refl _) | omega | (simp; done) | (simp [go_sem]; done) | (simp at *; omega))))) | (go_at_call 26; with_reducible exact Calls.ext (p5 _ (by repeat' (first | (with_reducible exact Below.refl _ _) | (with_reducible assumption) | (with_reducible refine Ext.below _ ?_ ?_) | (with_reducible refine Below.on ?_ (by with_reducible assumption) ?_) | (with_reducible refine Below.alloc ?_ ?_ _) | (with_reducible refine Below.drew ?_) | (with_reducible refine Below.setCell ?_ ?_ _) | (with_reducible exact Nat.le_refl _) | omega | (simp; done) | (simp [go_sem]; done) | (simp at *; omega))))) | (go_at_call 27; with_reducible exact Calls.ext (p6 _ (by repeat' (first | (with_reducible exact Below.refl _ _) | (with_reducible assumption) | (with_reducible refine Ext.below _ ?_ ?_) | (with_reducible refine Below.on ?_ (by with_reducible assumption) ?_) | (with_reducible refine Below.alloc ?_ ?_ _) | (with_reducible refine Below.drew ?_) | (with_reducible refine Below.setCell ?_ ?_ _) | (with_reducible exact Nat.le_refl _) | omega | (simp; done) | (simp [go_sem]; done) | (simp at *; omega))))))))
        refine wpQuiet_nil ?_
        rintro _ ⟨yr, rfl⟩
        have syr := yr.size
        have l0r : g0 < yr.now.heap.size := by omega
        have l1r : g1 < yr.now.heap.size := by omega
        have lIr : IC < yr.now.heap.size := by omega
        have lJr : JC < yr.now.heap.size := by omega
        go_upto_region 11 with (first | ((first | with_reducible refine wp_region_ext2 (by kernel_rfl) (by kernel_rfl) ?_ | with_reducible refine wp_region_ext (by kernel_rfl) (by kernel_rfl) ?_); (repeat (first | go_big_quiet_step ((first | fail)) | quiet_step ((first | fail)))); refine wpQuiet_nil ?_; rintro _ ⟨yr, rfl⟩; have syr := Ext.size yr; (repeat (first | rw [World.size_alloc] at syr | rw [World.size_setCell] at syr | rw [World.size_drew] at syr))))
        with_reducible refine wp_region_ext2 (by kernel_rfl) (by as_aux_lemma => kernel_rfl) ?_
        repeat (first | go_big_quiet_step ((first | (go_at_call 28; with_reducible exact Calls.ext (p7 _ (by repeat' (first | (with_reducible exact Below.refl _ _) | (with_reducible assumption) | (with_reducible refine Ext.below _ ?_ ?_) | (with_reducible refine Below.on ?_ (by with_reducible assumption) ?_) | (with_reducible refine Below.alloc ?_ ?_ _) | (with_reducible refine Below.drew ?_) | (with_reducible refine Below.setCell ?_ ?_ _) | (with_reducible exact Nat.le_refl _) | omega | (simp; done) | (simp [go_sem]; done) | (simp at *; omega))))) | (go_at_call 29; with_reducible exact Calls.ext (p8 _ (by repeat' (first | (with_reducible exact Below.refl _ _) | (with_reducible assumption) | (with_reducible refine Ext.below _ ?_ ?_) | (with_reducible refine Below.on ?_ (by with_reducible assumption) ?_) | (with_reducible refine Below.alloc ?_ ?_ _) | (with_reducible refine Below.drew ?_) | (with_reducible refine Below.setCell ?_ ?_ _) | (with_reducible exact Nat.le_refl _) | omega | (simp; done) | (simp [go_sem]; done) | (simp at *; omega))))) | (go_at_call 30; with_reducible exact Calls.ext (p9 _ (by repeat' (first | (with_reducible exact Below.refl _ _) | (with_reducible assumption) | (with_reducible refine Ext.below _ ?_ ?_) | (with_reducible refine Below.on ?_ (by with_reducible assumption) ?_) | (with_reducible refine Below.alloc ?_ ?_ _) | (with_reducible refine Below.drew ?_) | (with_reducible refine Below.setCell ?_ ?_ _) | (with_reducible exact Nat.le_refl _) | omega | (simp; done) | (simp [go_sem]; done) | (simp at *; omega))))) | (go_at_call 31; with_reducible exact Calls.ext (p10 _ (by repeat' (first | (with_reducible exact Below.refl _ _) | (with_reducible assumption) | (with_reducible refine Ext.below _ ?_ ?_) | (with_reducible refine Below.on ?_ (by with_reducible assumption) ?_) | (with_reducible refine Below.alloc ?_ ?_ _) | (with_reducible refine Below.drew ?_) | (with_reducible refine Below.setCell ?_ ?_ _) | (with_reducible exact Nat.le_refl _) | omega | (simp; done) | (simp [go_sem]; done) | (simp at *; omega))))))) | quiet_step ((first | (go_at_call 28; with_reducible exact Calls.ext (p7 _ (by repeat' (first | (with_reducible exact Below.refl _ _) | (with_reducible assumption) | (with_reducible refine Ext.below _ ?_ ?_) | (with_reducible refine Below.on ?_ (by with_reducible assumption) ?_) | (with_reducible refine Below.alloc ?_ ?_ _) | (with_reducible refine Below.drew ?_) | (with_reducible refine Below.setCell ?_ ?_ _) | (with_reducible exact Nat.le_refl _) | omega | (simp; done) | (simp [go_sem]; done) | (simp at *; omega))))) | (go_at_call 29; with_reducible exact Calls.ext (p8 _ (by repeat' (first | (with_reducible exact Below.refl _ _) | (with_reducible assumption) | (with_reducible refine Ext.below _ ?_ ?_) | (with_reducible refine Below.on ?_ (by with_reducible assumption) ?_) | (with_reducible refine Below.alloc ?_ ?_ _) | (with_reducible refine Below.drew ?_) | (with_reducible refine Below.setCell ?_ ?_ _) | (with_reducible exact Nat.le_refl _) | omega | (simp; done) | (simp [go_sem]; done) | (simp at *; omega))))) | (go_at_call 30; with_reducible exact Calls.ext (p9 _ (by repeat' (first | (with_reducible exact Below.refl _ _) | (with_reducible assumption) | (with_reducible refine Ext.below _ ?_ ?_) | (with_reducible refine Below.on ?_ (by with_reducible assumption) ?_) | (with_reducible refine Below.alloc ?_ ?_ _) | (with_reducible refine Below.drew ?_) | (with_reducible refine Below.setCell ?_ ?_ _) | (with_reducible exact Nat.le_refl _) | omega | (simp; done) | (simp [go_sem]; done) | (simp at *; omega))))) | (go_at_call 31; with_reducible exact Calls.ext (p10 _ (by repeat' (first | (with_reducible exact Below.refl _ _) | (with_reducible assumption) | (with_reducible refine Ext.below _ ?_ ?_) | (with_reducible refine Below.on ?_ (by with_reducible assumption) ?_) | (with_reducible refine Below.alloc ?_ ?_ _) | (with_reducible refine Below.drew ?_) | (with_reducible refine Below.setCell ?_ ?_ _) | (with_reducible exact Nat.le_refl _) | omega | (simp; done) | (simp [go_sem]; done) | (simp at *; omega))))))))
        refine wpQuiet_nil ?_
        rintro _ ⟨yr, rfl⟩
        have syr := yr.size
        have l0r : g0 < yr.now.heap.size := by omega
        have l1r : g1 < yr.now.heap.size := by omega
        have lIr : IC < yr.now.heap.size := by omega
        have lJr : JC < yr.now.heap.size := by omega
        go_wp2_with (first | ((first | with_reducible refine wp_region_ext2 (by kernel_rfl) (by kernel_rfl) ?_ | with_reducible refine wp_region_ext (by kernel_rfl) (by kernel_rfl) ?_); (repeat (first | go_big_quiet_step ((first | fail)) | quiet_step ((first | fail)))); refine wpQuiet_nil ?_; rintro _ ⟨yr, rfl⟩; have syr := Ext.size yr; (repeat (first | rw [World.size_alloc] at syr | rw [World.size_setCell] at syr | rw [World.size_drew] at syr))))
        exact ⟨⟨i + 1, ⟨_, by repeat' (first | (with_reducible exact Below.refl _ _) | (with_reducible assumption) | (with_reducible refine Ext.below _ ?_ ?_) | (with_reducible refine Below.on ?_ (by with_reducible assumption) ?_) | (with_reducible refine Below.alloc ?_ ?_ _) | (with_reducible refine Below.drew ?_) | (with_reducible refine Below.setCell ?_ ?_ _) | (with_reducible exact Nat.le_refl _) | omega | (simp; done) | (simp [go_sem]; done) | (simp at *; omega))⟩, by simp, rfl, by omega⟩, by simp [intOf]; omega⟩
    ·
        have hge : i = 2 := by omega
        subst hge
        have hlim := hlim5
        go_wp2_with (first | ((first | with_reducible refine wp_region_ext2 (by kernel_rfl) (by kernel_rfl) ?_ | with_reducible refine wp_region_ext (by kernel_rfl) (by kernel_rfl) ?_); (repeat (first | go_big_quiet_step ((first | (go_at_call 32; with_reducible exact Calls.ext (k1 _)) | (go_at_call 33; with_reducible exact Calls.ext (k2 _)) | (go_at_call 7; with_reducible exact Calls.ext (ca _ (by repeat (first | exact hlim | (with_reducible refine LimAt.ext ?_ _) | (with_reducible refine LimAt.alloc ?_ _) | (with_reducible refine LimAt.drew ?_) | (with_reducible refine LimAt.rext ?_ (by omega) _) | (with_reducible refine LimAt.set ?_ (by omega) _))))))) | quiet_step ((first | (go_at_call 32; with_reducible exact Calls.ext (k1 _)) | (go_at_call 33; with_reducible exact Calls.ext (k2 _)) | (go_at_call 7; with_reducible exact Calls.ext (ca _ (by repeat (first | exact hlim | (with_reducible refine LimAt.ext ?_ _) | (with_reducible refine LimAt.alloc ?_ _) | (with_reducible refine LimAt.drew ?_) | (with_reducible refine LimAt.rext ?_ (by omega) _) | (with_reducible refine LimAt.set ?_ (by omega) _))))))))); refine wpQuiet_nil ?_; rintro _ ⟨yr, rfl⟩; have syr := Ext.size yr; (repeat (first | rw [World.size_alloc] at syr | rw [World.size_setCell] at syr | rw [World.size_drew] at syr))) | (go_at_call 32; (first | with_reducible refine (Calls.giv2 (k1 _)).mono ?_ | with_reducible refine (Calls.giv (k1 _)).mono ?_); rintro _ _ ⟨y1, rfl, rfl⟩; have sy1 := Ext.size y1; (repeat (first | rw [World.size_alloc] at sy1 | rw [World.size_setCell] at sy1 | rw [World.size_drew] at sy1))) | (go_at_call 33; (first | with_reducible refine (Calls.giv2 (k2 _)).mono ?_ | with_reducible refine (Calls.giv (k2 _)).mono ?_); rintro _ _ ⟨y2, rfl, rfl⟩; have sy2 := Ext.size y2; (repeat (first | rw [World.size_alloc] at sy2 | rw [World.size_setCell] at sy2 | rw [World.size_drew] at sy2))) | (go_at_call 7; (first | with_reducible refine (Calls.giv2 (ca _ (by repeat (first | exact hlim | (with_reducible refine LimAt.ext ?_ _) | (with_reducible refine LimAt.alloc ?_ _) | (with_reducible refine LimAt.drew ?_) | (with_reducible refine LimAt.rext ?_ (by omega) _) | (with_reducible refine LimAt.set ?_ (by omega) _))))).mono ?_ | with_reducible refine (Calls.giv (ca _ (by repeat (first | exact hlim | (with_reducible refine LimAt.ext ?_ _) | (with_reducible refine LimAt.alloc ?_ _) | (with_reducible refine LimAt.drew ?_) | (with_reducible refine LimAt.rext ?_ (by omega) _) | (with_reducible refine LimAt.set ?_ (by omega) _))))).mono ?_); rintro _ _ ⟨y3, rfl, rfl⟩; have sy3 := Ext.size y3; (repeat (first | rw [World.size_alloc] at sy3 | rw [World.size_setCell] at sy3 | rw [World.size_drew] at sy3))))
        go_returns
        refine ⟨rfl, ?_⟩
        repeat' (first | (with_reducible exact Below.refl _ _) | (with_reducible assumption) | (with_reducible refine Ext.below _ ?_ ?_) | (with_reducible refine Below.on ?_ (by with_reducible assumption) ?_) | (with_reducible refine Below.alloc ?_ ?_ _) | (with_reducible refine Below.drew ?_) | (with_reducible refine Below.setCell ?_ ?_ _) | (with_reducible exact Nat.le_refl _) | omega | (simp; done) | (simp [go_sem]; done) | (simp at *; omega))
end Go.Proofs.YtfjieblihbnmjaaDoor

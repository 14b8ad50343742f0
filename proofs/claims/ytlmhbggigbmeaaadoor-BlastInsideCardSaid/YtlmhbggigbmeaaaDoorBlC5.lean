/- Of of the program: whether a stone is one of a rock with a fall. Written by gen_of.py. Condition: the table of limits stands as it was laid. -/
import Derived.Test.YtlmhbggigbmeaaaDoorFreeAG
namespace Go.Proofs.YtlmhbggigbmeaaaDoor
open Go.RowKit Go.Shelf
attribute [local go_sem] Option.isSome_some Ext.cell Ext.frozen Ext.lt Ext.le Ext.lt_add Ext.le_add Ext.ne Ext.ne' lt2 lt3 lt4 lt5 le2 le3 le4
theorem rows7 {W : World} {B : Nat} (k : RockR) (f : FallR) (h0 : W.cell? ⟨B, 0, none⟩ = some (.int .i64 k.size.x)) (h1 : W.cell? ⟨B, 1, none⟩ = some (.int .i64 k.size.y)) (h2 : W.cell? ⟨B, 2, none⟩ = some (.int .i64 k.dens.x)) (h3 : W.cell? ⟨B, 3, none⟩ = some (.int .i64 k.dens.y)) (h4 : W.cell? ⟨B, 4, none⟩ = some (.int .i64 k.strong.x)) (h5 : W.cell? ⟨B, 5, none⟩ = some (.int .i64 k.strong.y)) (h6 : W.cell? ⟨B, 6, none⟩ = some (.int .i64 k.spin.x)) (h7 : W.cell? ⟨B, 7, none⟩ = some (.int .i64 k.spin.y)) (h8 : W.cell? ⟨B, 8, none⟩ = some (.int .i64 k.shape.x)) (h9 : W.cell? ⟨B, 9, none⟩ = some (.int .i64 k.shape.y)) (h10 : W.cell? ⟨B, 10, none⟩ = some (.int .i64 f.speed.x)) (h11 : W.cell? ⟨B, 11, none⟩ = some (.int .i64 f.speed.y)) (h12 : W.cell? ⟨B, 12, none⟩ = some (.int .i64 f.slope.x)) (h13 : W.cell? ⟨B, 13, none⟩ = some (.int .i64 f.slope.y)) : ∀ (i : Nat) (h : i < (spansL k f).length), W.cell? ⟨B, i * 2, none⟩ = some (.int .i64 (spansL k f)[i].x) ∧ W.cell? ⟨B, i * 2 + 1, none⟩ = some (.int .i64 (spansL k f)[i].y) := by
  intro i hi
  have hi7 : i < 7 := hi
  rcases (show i = 0 ∨ i = 1 ∨ i = 2 ∨ i = 3 ∨ i = 4 ∨ i = 5 ∨ i = 6 by omega) with rfl | rfl | rfl | rfl | rfl | rfl | rfl
  · exact ⟨h0, h1⟩
  · exact ⟨h2, h3⟩
  · exact ⟨h4, h5⟩
  · exact ⟨h6, h7⟩
  · exact ⟨h8, h9⟩
  · exact ⟨h10, h11⟩
  · exact ⟨h12, h13⟩
set_option maxRecDepth 100000 in
set_option maxHeartbeats 8000000 in
theorem Of_any (s : StoneR) (k : RockR) (f : FallR) (w : World) (hlim : LimAt w) : Calls Tryd.prog 37 #[s.val, k.val, f.val] w (Gives (.bool (ofB s k f)) w) := by
  have cst := fun W (y : LimAt W) => CheckStone_any s W y
  have crk := fun W (y : LimAt W) => CheckRock_any k f W y
  have csp := fun W => spansOf_any k f W
  unfold ofB
  cases hb : stoneB s
  · rw [stoneE_ne hb] at cst
    clear hb crk csp
    simp only [Bool.false_and]
    unfold StoneR.val StoneR.vals RockR.val FallR.val at *
    go_enter Tryd.func37, Tryd.ntmps37
    go_wp2_with (first | ((first | with_reducible refine wrx2 ?_ | with_reducible refine wrx ?_); (repeat (first | go_big_quiet_step ((first | (go_at_call 47; with_reducible exact Calls.ext (cst _ (by repeat (first | exact hlim | (with_reducible refine LimAt.ext ?_ _) | (with_reducible refine LimAt.alloc ?_ _) | (with_reducible refine LimAt.drew ?_) | (with_reducible refine LimAt.rext ?_ (by omega) _) | (with_reducible refine LimAt.set ?_ (by omega) _))))))) | quiet_step ((first | (go_at_call 47; with_reducible exact Calls.ext (cst _ (by repeat (first | exact hlim | (with_reducible refine LimAt.ext ?_ _) | (with_reducible refine LimAt.alloc ?_ _) | (with_reducible refine LimAt.drew ?_) | (with_reducible refine LimAt.rext ?_ (by omega) _) | (with_reducible refine LimAt.set ?_ (by omega) _))))))))); refine wpQuiet_nil ?_; rintro _ ⟨yr, rfl⟩; have syr := Ext.size yr; (repeat (first | rw [World.size_alloc] at syr | rw [World.size_setCell] at syr | rw [World.size_drew] at syr))) | (go_at_call 47; (first | with_reducible refine (Calls.giv2 (cst _ (by repeat (first | exact hlim | (with_reducible refine LimAt.ext ?_ _) | (with_reducible refine LimAt.alloc ?_ _) | (with_reducible refine LimAt.drew ?_) | (with_reducible refine LimAt.rext ?_ (by omega) _) | (with_reducible refine LimAt.set ?_ (by omega) _))))).mono ?_ | with_reducible refine (Calls.giv (cst _ (by repeat (first | exact hlim | (with_reducible refine LimAt.ext ?_ _) | (with_reducible refine LimAt.alloc ?_ _) | (with_reducible refine LimAt.drew ?_) | (with_reducible refine LimAt.rext ?_ (by omega) _) | (with_reducible refine LimAt.set ?_ (by omega) _))))).mono ?_); rintro _ _ ⟨y1, rfl, rfl⟩; have sy1 := Ext.size y1; (repeat (first | rw [World.size_alloc] at sy1 | rw [World.size_setCell] at sy1 | rw [World.size_drew] at sy1))))
    go_returns
    refine ⟨rfl, ?_⟩
    repeat' (first | (with_reducible exact Below.refl _ _) | (with_reducible assumption) | (with_reducible refine Ext.below _ ?_ ?_) | (with_reducible refine Below.on ?_ (by with_reducible assumption) ?_) | (with_reducible refine Below.alloc ?_ ?_ _) | (with_reducible refine Below.drew ?_) | (with_reducible refine Below.setCell ?_ ?_ _) | (with_reducible exact Nat.le_refl _) | omega | (simp; done) | (simp [go_sem]; done) | (simp at *; omega))
  rw [stoneE_eq hb] at cst
  clear hb
  cases hr : (rockE k f == 0)
  · have hr2 : rockE k f ≠ 0 := by simpa using hr
    simp only [Bool.and_false, Bool.false_and]
    generalize rockE k f = R at *
    clear csp
    unfold StoneR.val StoneR.vals RockR.val FallR.val at *
    go_enter Tryd.func37, Tryd.ntmps37
    go_wp2_with (first | ((first | with_reducible refine wrx2 ?_ | with_reducible refine wrx ?_); (repeat (first | go_big_quiet_step ((first | (go_at_call 47; with_reducible exact Calls.ext (cst _ (by repeat (first | exact hlim | (with_reducible refine LimAt.ext ?_ _) | (with_reducible refine LimAt.alloc ?_ _) | (with_reducible refine LimAt.drew ?_) | (with_reducible refine LimAt.rext ?_ (by omega) _) | (with_reducible refine LimAt.set ?_ (by omega) _))))) | (go_at_call 53; with_reducible exact Calls.ext (crk _ (by repeat (first | exact hlim | (with_reducible refine LimAt.ext ?_ _) | (with_reducible refine LimAt.alloc ?_ _) | (with_reducible refine LimAt.drew ?_) | (with_reducible refine LimAt.rext ?_ (by omega) _) | (with_reducible refine LimAt.set ?_ (by omega) _))))))) | quiet_step ((first | (go_at_call 47; with_reducible exact Calls.ext (cst _ (by repeat (first | exact hlim | (with_reducible refine LimAt.ext ?_ _) | (with_reducible refine LimAt.alloc ?_ _) | (with_reducible refine LimAt.drew ?_) | (with_reducible refine LimAt.rext ?_ (by omega) _) | (with_reducible refine LimAt.set ?_ (by omega) _))))) | (go_at_call 53; with_reducible exact Calls.ext (crk _ (by repeat (first | exact hlim | (with_reducible refine LimAt.ext ?_ _) | (with_reducible refine LimAt.alloc ?_ _) | (with_reducible refine LimAt.drew ?_) | (with_reducible refine LimAt.rext ?_ (by omega) _) | (with_reducible refine LimAt.set ?_ (by omega) _))))))))); refine wpQuiet_nil ?_; rintro _ ⟨yr, rfl⟩; have syr := Ext.size yr; (repeat (first | rw [World.size_alloc] at syr | rw [World.size_setCell] at syr | rw [World.size_drew] at syr))) | (go_at_call 47; (first | with_reducible refine (Calls.giv2 (cst _ (by repeat (first | exact hlim | (with_reducible refine LimAt.ext ?_ _) | (with_reducible refine LimAt.alloc ?_ _) | (with_reducible refine LimAt.drew ?_) | (with_reducible refine LimAt.rext ?_ (by omega) _) | (with_reducible refine LimAt.set ?_ (by omega) _))))).mono ?_ | with_reducible refine (Calls.giv (cst _ (by repeat (first | exact hlim | (with_reducible refine LimAt.ext ?_ _) | (with_reducible refine LimAt.alloc ?_ _) | (with_reducible refine LimAt.drew ?_) | (with_reducible refine LimAt.rext ?_ (by omega) _) | (with_reducible refine LimAt.set ?_ (by omega) _))))).mono ?_); rintro _ _ ⟨y1, rfl, rfl⟩; have sy1 := Ext.size y1; (repeat (first | rw [World.size_alloc] at sy1 | rw [World.size_setCell] at sy1 | rw [World.size_drew] at sy1))) | (go_at_call 53; (first | with_reducible refine (Calls.giv2 (crk _ (by repeat (first | exact hlim | (with_reducible refine LimAt.ext ?_ _) | (with_reducible refine LimAt.alloc ?_ _) | (with_reducible refine LimAt.drew ?_) | (with_reducible refine LimAt.rext ?_ (by omega) _) | (with_reducible refine LimAt.set ?_ (by omega) _))))).mono ?_ | with_reducible refine (Calls.giv (crk _ (by repeat (first | exact hlim | (with_reducible refine LimAt.ext ?_ _) | (with_reducible refine LimAt.alloc ?_ _) | (with_reducible refine LimAt.drew ?_) | (with_reducible refine LimAt.rext ?_ (by omega) _) | (with_reducible refine LimAt.set ?_ (by omega) _))))).mono ?_); rintro _ _ ⟨y2, rfl, rfl⟩; have sy2 := Ext.size y2; (repeat (first | rw [World.size_alloc] at sy2 | rw [World.size_setCell] at sy2 | rw [World.size_drew] at sy2))))
    go_returns
    refine ⟨rfl, ?_⟩
    repeat' (first | (with_reducible exact Below.refl _ _) | (with_reducible assumption) | (with_reducible refine Ext.below _ ?_ ?_) | (with_reducible refine Below.on ?_ (by with_reducible assumption) ?_) | (with_reducible refine Below.alloc ?_ ?_ _) | (with_reducible refine Below.drew ?_) | (with_reducible refine Below.setCell ?_ ?_ _) | (with_reducible exact Nat.le_refl _) | omega | (simp; done) | (simp [go_sem]; done) | (simp at *; omega))
  have hr2 : rockE k f = 0 := by simpa using hr
  rw [hr2] at crk
  clear hr
  cases hp : (s.pile == k.pile)
  · simp only [Bool.and_false, Bool.false_and]
    clear csp hr2
    unfold StoneR.val StoneR.vals RockR.val FallR.val at *
    generalize s.pile = sp at *
    generalize k.pile = kp at *
    go_enter Tryd.func37, Tryd.ntmps37
    go_wp2_with (first | ((first | with_reducible refine wrx2 ?_ | with_reducible refine wrx ?_); (repeat (first | go_big_quiet_step ((first | (go_at_call 47; with_reducible exact Calls.ext (cst _ (by repeat (first | exact hlim | (with_reducible refine LimAt.ext ?_ _) | (with_reducible refine LimAt.alloc ?_ _) | (with_reducible refine LimAt.drew ?_) | (with_reducible refine LimAt.rext ?_ (by omega) _) | (with_reducible refine LimAt.set ?_ (by omega) _))))) | (go_at_call 53; with_reducible exact Calls.ext (crk _ (by repeat (first | exact hlim | (with_reducible refine LimAt.ext ?_ _) | (with_reducible refine LimAt.alloc ?_ _) | (with_reducible refine LimAt.drew ?_) | (with_reducible refine LimAt.rext ?_ (by omega) _) | (with_reducible refine LimAt.set ?_ (by omega) _))))))) | quiet_step ((first | (go_at_call 47; with_reducible exact Calls.ext (cst _ (by repeat (first | exact hlim | (with_reducible refine LimAt.ext ?_ _) | (with_reducible refine LimAt.alloc ?_ _) | (with_reducible refine LimAt.drew ?_) | (with_reducible refine LimAt.rext ?_ (by omega) _) | (with_reducible refine LimAt.set ?_ (by omega) _))))) | (go_at_call 53; with_reducible exact Calls.ext (crk _ (by repeat (first | exact hlim | (with_reducible refine LimAt.ext ?_ _) | (with_reducible refine LimAt.alloc ?_ _) | (with_reducible refine LimAt.drew ?_) | (with_reducible refine LimAt.rext ?_ (by omega) _) | (with_reducible refine LimAt.set ?_ (by omega) _))))))))); refine wpQuiet_nil ?_; rintro _ ⟨yr, rfl⟩; have syr := Ext.size yr; (repeat (first | rw [World.size_alloc] at syr | rw [World.size_setCell] at syr | rw [World.size_drew] at syr))) | (go_at_call 47; (first | with_reducible refine (Calls.giv2 (cst _ (by repeat (first | exact hlim | (with_reducible refine LimAt.ext ?_ _) | (with_reducible refine LimAt.alloc ?_ _) | (with_reducible refine LimAt.drew ?_) | (with_reducible refine LimAt.rext ?_ (by omega) _) | (with_reducible refine LimAt.set ?_ (by omega) _))))).mono ?_ | with_reducible refine (Calls.giv (cst _ (by repeat (first | exact hlim | (with_reducible refine LimAt.ext ?_ _) | (with_reducible refine LimAt.alloc ?_ _) | (with_reducible refine LimAt.drew ?_) | (with_reducible refine LimAt.rext ?_ (by omega) _) | (with_reducible refine LimAt.set ?_ (by omega) _))))).mono ?_); rintro _ _ ⟨y1, rfl, rfl⟩; have sy1 := Ext.size y1; (repeat (first | rw [World.size_alloc] at sy1 | rw [World.size_setCell] at sy1 | rw [World.size_drew] at sy1))) | (go_at_call 53; (first | with_reducible refine (Calls.giv2 (crk _ (by repeat (first | exact hlim | (with_reducible refine LimAt.ext ?_ _) | (with_reducible refine LimAt.alloc ?_ _) | (with_reducible refine LimAt.drew ?_) | (with_reducible refine LimAt.rext ?_ (by omega) _) | (with_reducible refine LimAt.set ?_ (by omega) _))))).mono ?_ | with_reducible refine (Calls.giv (crk _ (by repeat (first | exact hlim | (with_reducible refine LimAt.ext ?_ _) | (with_reducible refine LimAt.alloc ?_ _) | (with_reducible refine LimAt.drew ?_) | (with_reducible refine LimAt.rext ?_ (by omega) _) | (with_reducible refine LimAt.set ?_ (by omega) _))))).mono ?_); rintro _ _ ⟨y2, rfl, rfl⟩; have sy2 := Ext.size y2; (repeat (first | rw [World.size_alloc] at sy2 | rw [World.size_setCell] at sy2 | rw [World.size_drew] at sy2))))
    all_goals go_returns
    all_goals refine ⟨rfl, ?_⟩
    repeat' (first | (with_reducible exact Below.refl _ _) | (with_reducible assumption) | (with_reducible refine Ext.below _ ?_ ?_) | (with_reducible refine Below.on ?_ (by with_reducible assumption) ?_) | (with_reducible refine Below.alloc ?_ ?_ _) | (with_reducible refine Below.drew ?_) | (with_reducible refine Below.setCell ?_ ?_ _) | (with_reducible exact Nat.le_refl _) | omega | (simp; done) | (simp [go_sem]; done) | (simp at *; omega))
  · simp only [Bool.true_and]
    obtain ⟨V, hV⟩ : ∃ V, insE (numsL s) (spansL k f) = V := ⟨_, rfl⟩
    rw [hV]
    replace hV := Go.Lib.hid hV
    have hin := Go.Lib.hid (spans_in hr2)
    clear hr2
    unfold StoneR.val StoneR.vals RockR.val FallR.val at *
    go_enter Tryd.func37, Tryd.ntmps37
    go_wp2_with (first | ((first | with_reducible refine wrx2 ?_ | with_reducible refine wrx ?_); (repeat (first | go_big_quiet_step ((first | (go_at_call 47; with_reducible exact Calls.ext (cst _ (by repeat (first | exact hlim | (with_reducible refine LimAt.ext ?_ _) | (with_reducible refine LimAt.alloc ?_ _) | (with_reducible refine LimAt.drew ?_) | (with_reducible refine LimAt.rext ?_ (by omega) _) | (with_reducible refine LimAt.set ?_ (by omega) _))))) | (go_at_call 53; with_reducible exact Calls.ext (crk _ (by repeat (first | exact hlim | (with_reducible refine LimAt.ext ?_ _) | (with_reducible refine LimAt.alloc ?_ _) | (with_reducible refine LimAt.drew ?_) | (with_reducible refine LimAt.rext ?_ (by omega) _) | (with_reducible refine LimAt.set ?_ (by omega) _))))) | (go_at_call 65; with_reducible exact Calls.ext (csp _)) | (go_at_call 66; with_reducible exact Calls.ext (numbersOf_any _ _ _ _ _ _ _ _ _)))) | quiet_step ((first | (go_at_call 47; with_reducible exact Calls.ext (cst _ (by repeat (first | exact hlim | (with_reducible refine LimAt.ext ?_ _) | (with_reducible refine LimAt.alloc ?_ _) | (with_reducible refine LimAt.drew ?_) | (with_reducible refine LimAt.rext ?_ (by omega) _) | (with_reducible refine LimAt.set ?_ (by omega) _))))) | (go_at_call 53; with_reducible exact Calls.ext (crk _ (by repeat (first | exact hlim | (with_reducible refine LimAt.ext ?_ _) | (with_reducible refine LimAt.alloc ?_ _) | (with_reducible refine LimAt.drew ?_) | (with_reducible refine LimAt.rext ?_ (by omega) _) | (with_reducible refine LimAt.set ?_ (by omega) _))))) | (go_at_call 65; with_reducible exact Calls.ext (csp _)) | (go_at_call 66; with_reducible exact Calls.ext (numbersOf_any _ _ _ _ _ _ _ _ _)))))); refine wpQuiet_nil ?_; rintro _ ⟨yr, rfl⟩; have syr := Ext.size yr; (repeat (first | rw [World.size_alloc] at syr | rw [World.size_setCell] at syr | rw [World.size_drew] at syr)); have : w.heap.size < yr.now.heap.size := (by omega); have : w.heap.size ≤ yr.now.heap.size := (by omega); have : w.heap.size < yr.now.heap.size + 1 + 1 := (by omega); have : w.heap.size + 1 < yr.now.heap.size := (by omega); have : w.heap.size + 1 ≤ yr.now.heap.size := (by omega); have : w.heap.size + 1 < yr.now.heap.size + 1 + 1 := (by omega); have : w.heap.size + 1 + 1 < yr.now.heap.size := (by omega); have : w.heap.size + 1 + 1 ≤ yr.now.heap.size := (by omega); have : w.heap.size + 1 + 1 < yr.now.heap.size + 1 + 1 := (by omega)) | (go_at_call 47; (first | with_reducible refine (Calls.giv2 (cst _ (by repeat (first | exact hlim | (with_reducible refine LimAt.ext ?_ _) | (with_reducible refine LimAt.alloc ?_ _) | (with_reducible refine LimAt.drew ?_) | (with_reducible refine LimAt.rext ?_ (by omega) _) | (with_reducible refine LimAt.set ?_ (by omega) _))))).mono ?_ | with_reducible refine (Calls.giv (cst _ (by repeat (first | exact hlim | (with_reducible refine LimAt.ext ?_ _) | (with_reducible refine LimAt.alloc ?_ _) | (with_reducible refine LimAt.drew ?_) | (with_reducible refine LimAt.rext ?_ (by omega) _) | (with_reducible refine LimAt.set ?_ (by omega) _))))).mono ?_); rintro _ _ ⟨y1, rfl, rfl⟩; have sy1 := Ext.size y1; (repeat (first | rw [World.size_alloc] at sy1 | rw [World.size_setCell] at sy1 | rw [World.size_drew] at sy1)); have : w.heap.size < y1.now.heap.size := (by omega); have : w.heap.size ≤ y1.now.heap.size := (by omega); have : w.heap.size < y1.now.heap.size + 1 + 1 := (by omega); have : w.heap.size + 1 < y1.now.heap.size := (by omega); have : w.heap.size + 1 ≤ y1.now.heap.size := (by omega); have : w.heap.size + 1 < y1.now.heap.size + 1 + 1 := (by omega); have : w.heap.size + 1 + 1 < y1.now.heap.size := (by omega); have : w.heap.size + 1 + 1 ≤ y1.now.heap.size := (by omega); have : w.heap.size + 1 + 1 < y1.now.heap.size + 1 + 1 := (by omega)) | (go_at_call 53; (first | with_reducible refine (Calls.giv2 (crk _ (by repeat (first | exact hlim | (with_reducible refine LimAt.ext ?_ _) | (with_reducible refine LimAt.alloc ?_ _) | (with_reducible refine LimAt.drew ?_) | (with_reducible refine LimAt.rext ?_ (by omega) _) | (with_reducible refine LimAt.set ?_ (by omega) _))))).mono ?_ | with_reducible refine (Calls.giv (crk _ (by repeat (first | exact hlim | (with_reducible refine LimAt.ext ?_ _) | (with_reducible refine LimAt.alloc ?_ _) | (with_reducible refine LimAt.drew ?_) | (with_reducible refine LimAt.rext ?_ (by omega) _) | (with_reducible refine LimAt.set ?_ (by omega) _))))).mono ?_); rintro _ _ ⟨y2, rfl, rfl⟩; have sy2 := Ext.size y2; (repeat (first | rw [World.size_alloc] at sy2 | rw [World.size_setCell] at sy2 | rw [World.size_drew] at sy2)); have : w.heap.size < y2.now.heap.size := (by omega); have : w.heap.size ≤ y2.now.heap.size := (by omega); have : w.heap.size < y2.now.heap.size + 1 + 1 := (by omega); have : w.heap.size + 1 < y2.now.heap.size := (by omega); have : w.heap.size + 1 ≤ y2.now.heap.size := (by omega); have : w.heap.size + 1 < y2.now.heap.size + 1 + 1 := (by omega); have : w.heap.size + 1 + 1 < y2.now.heap.size := (by omega); have : w.heap.size + 1 + 1 ≤ y2.now.heap.size := (by omega); have : w.heap.size + 1 + 1 < y2.now.heap.size + 1 + 1 := (by omega)) | (go_at_call 65; (first | with_reducible refine (Calls.giv2 (csp _)).mono ?_ | with_reducible refine (Calls.giv (csp _)).mono ?_); rintro _ _ ⟨y3, rfl, rfl⟩; have sy3 := Ext.size y3; (repeat (first | rw [World.size_alloc] at sy3 | rw [World.size_setCell] at sy3 | rw [World.size_drew] at sy3)); have : w.heap.size < y3.now.heap.size := (by omega); have : w.heap.size ≤ y3.now.heap.size := (by omega); have : w.heap.size < y3.now.heap.size + 1 + 1 := (by omega); have : w.heap.size + 1 < y3.now.heap.size := (by omega); have : w.heap.size + 1 ≤ y3.now.heap.size := (by omega); have : w.heap.size + 1 < y3.now.heap.size + 1 + 1 := (by omega); have : w.heap.size + 1 + 1 < y3.now.heap.size := (by omega); have : w.heap.size + 1 + 1 ≤ y3.now.heap.size := (by omega); have : w.heap.size + 1 + 1 < y3.now.heap.size + 1 + 1 := (by omega)) | (go_at_call 66; (first | with_reducible refine (Calls.giv2 (numbersOf_any _ _ _ _ _ _ _ _ _)).mono ?_ | with_reducible refine (Calls.giv (numbersOf_any _ _ _ _ _ _ _ _ _)).mono ?_); rintro _ _ ⟨y4, rfl, rfl⟩; have sy4 := Ext.size y4; (repeat (first | rw [World.size_alloc] at sy4 | rw [World.size_setCell] at sy4 | rw [World.size_drew] at sy4)); have : w.heap.size < y4.now.heap.size := (by omega); have : w.heap.size ≤ y4.now.heap.size := (by omega); have : w.heap.size < y4.now.heap.size + 1 + 1 := (by omega); have : w.heap.size + 1 < y4.now.heap.size := (by omega); have : w.heap.size + 1 ≤ y4.now.heap.size := (by omega); have : w.heap.size + 1 < y4.now.heap.size + 1 + 1 := (by omega); have : w.heap.size + 1 + 1 < y4.now.heap.size := (by omega); have : w.heap.size + 1 + 1 ≤ y4.now.heap.size := (by omega); have : w.heap.size + 1 + 1 < y4.now.heap.size + 1 + 1 := (by omega)))
    clear cst crk csp
    refine wp_named (fun W0 hW => ?_)
    have hB5 : Below w.heap.size w W0 := by rw [← hW]; repeat' (first | (with_reducible exact Below.refl _ _) | (with_reducible assumption) | (with_reducible refine Ext.below _ ?_ ?_) | (with_reducible refine Below.on ?_ (by with_reducible assumption) ?_) | (with_reducible refine Below.alloc ?_ ?_ _) | (with_reducible refine Below.drew ?_) | (with_reducible refine Below.setCell ?_ ?_ _) | (with_reducible exact Nat.le_refl _) | omega | (simp; done) | (simp [go_sem]; done) | (simp at *; omega))
    obtain ⟨BV, hBV⟩ : ∃ n, y3.now.heap.size = n := ⟨_, rfl⟩
    have sB5 : BV < W0.heap.size := by rw [← hW, ← hBV]; omega
    have kv0 : W0.cell? ⟨BV, 0, none⟩ = some (.int .i64 k.size.x) := by rw [← hW, ← hBV]; rw [y4.cell (by simp)]; simp [go_sem]
    have kv1 : W0.cell? ⟨BV, 1, none⟩ = some (.int .i64 k.size.y) := by rw [← hW, ← hBV]; rw [y4.cell (by simp)]; simp [go_sem]
    have kv2 : W0.cell? ⟨BV, 2, none⟩ = some (.int .i64 k.dens.x) := by rw [← hW, ← hBV]; rw [y4.cell (by simp)]; simp [go_sem]
    have kv3 : W0.cell? ⟨BV, 3, none⟩ = some (.int .i64 k.dens.y) := by rw [← hW, ← hBV]; rw [y4.cell (by simp)]; simp [go_sem]
    have kv4 : W0.cell? ⟨BV, 4, none⟩ = some (.int .i64 k.strong.x) := by rw [← hW, ← hBV]; rw [y4.cell (by simp)]; simp [go_sem]
    have kv5 : W0.cell? ⟨BV, 5, none⟩ = some (.int .i64 k.strong.y) := by rw [← hW, ← hBV]; rw [y4.cell (by simp)]; simp [go_sem]
    have kv6 : W0.cell? ⟨BV, 6, none⟩ = some (.int .i64 k.spin.x) := by rw [← hW, ← hBV]; rw [y4.cell (by simp)]; simp [go_sem]
    have kv7 : W0.cell? ⟨BV, 7, none⟩ = some (.int .i64 k.spin.y) := by rw [← hW, ← hBV]; rw [y4.cell (by simp)]; simp [go_sem]
    have kv8 : W0.cell? ⟨BV, 8, none⟩ = some (.int .i64 k.shape.x) := by rw [← hW, ← hBV]; rw [y4.cell (by simp)]; simp [go_sem]
    have kv9 : W0.cell? ⟨BV, 9, none⟩ = some (.int .i64 k.shape.y) := by rw [← hW, ← hBV]; rw [y4.cell (by simp)]; simp [go_sem]
    have kv10 : W0.cell? ⟨BV, 10, none⟩ = some (.int .i64 f.speed.x) := by rw [← hW, ← hBV]; rw [y4.cell (by simp)]; simp [go_sem]
    have kv11 : W0.cell? ⟨BV, 11, none⟩ = some (.int .i64 f.speed.y) := by rw [← hW, ← hBV]; rw [y4.cell (by simp)]; simp [go_sem]
    have kv12 : W0.cell? ⟨BV, 12, none⟩ = some (.int .i64 f.slope.x) := by rw [← hW, ← hBV]; rw [y4.cell (by simp)]; simp [go_sem]
    have kv13 : W0.cell? ⟨BV, 13, none⟩ = some (.int .i64 f.slope.y) := by rw [← hW, ← hBV]; rw [y4.cell (by simp)]; simp [go_sem]
    clear hW
    rw [hBV]
    have hrow := Go.Lib.hid (rows7 k f kv0 kv1 kv2 kv3 kv4 kv5 kv6 kv7 kv8 kv9 kv10 kv11 kv12 kv13)
    clear kv0 kv1 kv2 kv3 kv4 kv5 kv6 kv7 kv8 kv9 kv10 kv11 kv12 kv13
    have hnum := Go.Lib.hid (fun (i : Nat) (hi : i < (numsL s).length) (W : World) => n7_at s i hi W)
    have hsl : (numsL s).length = 7 := rfl
    have hll : (spansL k f).length = 7 := rfl
    generalize numsL s = SL at *
    generalize spansL k f = ML at *
    clear hlim hp
    go_loopw [31] (fun s W => ∃ (i : Nat) (x : Ext W0), s = .int .i64 i ∧ W = x.now ∧ Hid (i ≤ 7 ∧ insE (SL.drop i) (ML.drop i) = V)) (fun s _ => 7 - (intOf s).toNat)
    case atStart => exact ⟨0, ⟨W0, Below.refl _ _⟩, rfl, rfl, Go.Lib.hid ⟨by omega, by simpa using hV.out⟩⟩
    case round =>
      obtain ⟨i, x, rfl, rfl, hi⟩ := hrel
      have xs := x.size
      have sB6 := hB5.size
      by_cases hlt : i < 7
      · have hlt2 : (i : Int) < 7 := by omega
        have hs2 : i < SL.length := by omega
        have hm2 : i < ML.length := by omega
        have ii := fun W => hnum.out i hs2 W
        obtain ⟨l0, l1⟩ := hrow.out i hm2
        obtain ⟨⟨m0, m1⟩, m2⟩ := hin.out ML[i] (List.getElem_mem _)
        have hE := hi.out.2
        rw [drop_at hs2, drop_at hm2, insE] at hE
        generalize SL[i] = v at *
        generalize ML[i] = m at *
        obtain ⟨mx, my⟩ := m
        simp only at l0 l1 hE m0 m1 m2
        have cb := fun W => In_any mx my v W
        rw [inB_lim _ _ _ m0 m1 m2] at cb
        clear hi
        by_cases hin : mx ≤ v ∧ v ≤ my
        · rw [decide_eq_true hin] at cb
          rw [if_pos hin] at hE
          have key : Hid (i + 1 ≤ 7 ∧ insE (SL.drop (i + 1)) (ML.drop (i + 1)) = V) := Go.Lib.hid ⟨hlt, hE⟩
          clear hE hin
          go_wp2_with (first | ((first | with_reducible refine wrx2 ?_ | with_reducible refine wrx ?_); (repeat (first | go_big_quiet_step ((first | (go_at_call 67; with_reducible exact Calls.ext (cb _)))) | quiet_step ((first | (go_at_call 67; with_reducible exact Calls.ext (cb _)))))); refine wpQuiet_nil ?_; rintro _ ⟨yr, rfl⟩; have syr := Ext.size yr; (repeat (first | rw [World.size_alloc] at syr | rw [World.size_setCell] at syr | rw [World.size_drew] at syr)); have : BV < yr.now.heap.size := (by omega); have : BV ≤ yr.now.heap.size := (by omega); have : BV < yr.now.heap.size + 1 + 1 := (by omega)) | (go_at_call 67; (first | with_reducible refine (Calls.giv2 (cb _)).mono ?_ | with_reducible refine (Calls.giv (cb _)).mono ?_); rintro _ _ ⟨y1, rfl, rfl⟩; have sy1 := Ext.size y1; (repeat (first | rw [World.size_alloc] at sy1 | rw [World.size_setCell] at sy1 | rw [World.size_drew] at sy1)); have : BV < y1.now.heap.size := (by omega); have : BV ≤ y1.now.heap.size := (by omega); have : BV < y1.now.heap.size + 1 + 1 := (by omega)))
          exact ⟨⟨i + 1, ⟨_, by repeat' (first | (with_reducible exact Below.refl _ _) | (with_reducible assumption) | (with_reducible refine Ext.below _ ?_ ?_) | (with_reducible refine Below.on ?_ (by with_reducible assumption) ?_) | (with_reducible refine Below.alloc ?_ ?_ _) | (with_reducible refine Below.drew ?_) | (with_reducible refine Below.setCell ?_ ?_ _) | (with_reducible exact Nat.le_refl _) | omega | (simp; done) | (simp [go_sem]; done) | (simp at *; omega))⟩, by simp, rfl, key⟩, by simp [intOf]; omega⟩
        · rw [decide_eq_false hin] at cb
          rw [if_neg hin] at hE
          subst hE
          clear hin
          go_wp2_with (first | ((first | with_reducible refine wrx2 ?_ | with_reducible refine wrx ?_); (repeat (first | go_big_quiet_step ((first | (go_at_call 67; with_reducible exact Calls.ext (cb _)))) | quiet_step ((first | (go_at_call 67; with_reducible exact Calls.ext (cb _)))))); refine wpQuiet_nil ?_; rintro _ ⟨yr, rfl⟩; have syr := Ext.size yr; (repeat (first | rw [World.size_alloc] at syr | rw [World.size_setCell] at syr | rw [World.size_drew] at syr)); have : BV < yr.now.heap.size := (by omega); have : BV ≤ yr.now.heap.size := (by omega); have : BV < yr.now.heap.size + 1 + 1 := (by omega)) | (go_at_call 67; (first | with_reducible refine (Calls.giv2 (cb _)).mono ?_ | with_reducible refine (Calls.giv (cb _)).mono ?_); rintro _ _ ⟨y1, rfl, rfl⟩; have sy1 := Ext.size y1; (repeat (first | rw [World.size_alloc] at sy1 | rw [World.size_setCell] at sy1 | rw [World.size_drew] at sy1)); have : BV < y1.now.heap.size := (by omega); have : BV ≤ y1.now.heap.size := (by omega); have : BV < y1.now.heap.size + 1 + 1 := (by omega)))
          go_returns
          refine ⟨rfl, ?_⟩
          repeat' (first | (with_reducible exact Below.refl _ _) | (with_reducible assumption) | (with_reducible refine Ext.below _ ?_ ?_) | (with_reducible refine Below.on ?_ (by with_reducible assumption) ?_) | (with_reducible refine Below.alloc ?_ ?_ _) | (with_reducible refine Below.drew ?_) | (with_reducible refine Below.setCell ?_ ?_ _) | (with_reducible exact Nat.le_refl _) | omega | (simp; done) | (simp [go_sem]; done) | (simp at *; omega))
      · have hge : i = 7 := by have := hi.out.1; omega
        subst hge
        have eV : V = true := by have hE := hi.out.2; rw [List.drop_of_length_le (by omega), insE] at hE; exact hE.symm; intro v l m q e; cases e
        clear hi hV
        subst eV
        go_wp2_with (first | ((first | with_reducible refine wrx2 ?_ | with_reducible refine wrx ?_); (repeat (first | go_big_quiet_step ((first | fail)) | quiet_step ((first | fail)))); refine wpQuiet_nil ?_; rintro _ ⟨yr, rfl⟩; have syr := Ext.size yr; (repeat (first | rw [World.size_alloc] at syr | rw [World.size_setCell] at syr | rw [World.size_drew] at syr))))
        go_returns
        refine ⟨rfl, ?_⟩
        repeat' (first | (with_reducible exact Below.refl _ _) | (with_reducible assumption) | (with_reducible refine Ext.below _ ?_ ?_) | (with_reducible refine Below.on ?_ (by with_reducible assumption) ?_) | (with_reducible refine Below.alloc ?_ ?_ _) | (with_reducible refine Below.drew ?_) | (with_reducible refine Below.setCell ?_ ?_ _) | (with_reducible exact Nat.le_refl _) | omega | (simp; done) | (simp [go_sem]; done) | (simp at *; omega))
end Go.Proofs.YtlmhbggigbmeaaaDoor

/- The reference's Ends, for any air and stone. Condition: the air in memory, of at most 1000 layers. Contracts of first and last (the stones of a rock that bound all others), of sole and SoleRock. No condition. The first region of blowsOf's iterator: what holds between its operations, and what it leaves. Written by gen_sole.py. No condition. -/
import Derived.Test.YtfjieblihbnmjaaDoorBlN5
import Derived.Test.YtfjieblihbnmjaaDoorBlN1
import Derived.Test.YtfjieblihbnmjaaDoorBlM
import Derived.Test.YtfjieblihbnmjaaDoorBlEnds
namespace Go.Proofs.YtfjieblihbnmjaaDoor
open Go.RowKit Go.Shelf
attribute [local go_sem] Option.isSome_some Ext.cell Ext.frozen Ext.lt Ext.le Ext.lt_add Ext.le_add Ext.ne Ext.ne' lt2 lt3 lt4 lt5 le2 le3 le4
set_option maxRecDepth 100000 in
set_option maxHeartbeats 8000000 in
theorem rEnds_any (p : Option Addr) (cap : Nat) (l : List V2) (s : StoneR) (w : World) (hP : VecsAt w p l) (hn : l.length ≤ 1000) :
    Calls Tryd.prog 13 #[.slice p l.length cap, s.val] w (Gives (.tuple #[.int .i64 (endsV l s).1, .int .i64 (endsV l s).2.1, .int .i64 (endsV l s).2.2]) w) := by
  unfold endsV
  by_cases ha : airE l = 0
  · rw [if_neg (by simpa using ha)]
    cases hb : stoneB s
    · rw [if_pos rfl]
      have ca := fun (W : World) (y : Below w.heap.size w W) => rCheckAir_any p cap l W (hP.on y) hn
      rw [ha] at ca
      have cs := fun (W : World) => rCheckStone_any s W
      rw [show stoneE s = 2 by unfold stoneE; rw [hb]; rfl] at cs
      unfold StoneR.val StoneR.vals at *
      clear hb ha
      go_enter Tryd.func13, Tryd.ntmps13
      go_wp2_with (first | ((first | with_reducible refine wp_region_ext2 (by kernel_rfl) (by kernel_rfl) ?_ | with_reducible refine wp_region_ext (by kernel_rfl) (by kernel_rfl) ?_); (repeat (first | go_big_quiet_step ((first | (go_at_call 50; with_reducible exact Calls.ext (ca _ (by repeat' (first | (with_reducible exact Below.refl _ _) | (with_reducible assumption) | (with_reducible refine Ext.below _ ?_ ?_) | (with_reducible refine Below.on ?_ (by with_reducible assumption) ?_) | (with_reducible refine Below.alloc ?_ ?_ _) | (with_reducible refine Below.drew ?_) | (with_reducible refine Below.setCell ?_ ?_ _) | (with_reducible exact Nat.le_refl _) | omega | (simp; done) | (simp [go_sem]; done) | (simp at *; omega))))) | (go_at_call 51; with_reducible exact Calls.ext (cs _)))) | quiet_step ((first | (go_at_call 50; with_reducible exact Calls.ext (ca _ (by repeat' (first | (with_reducible exact Below.refl _ _) | (with_reducible assumption) | (with_reducible refine Ext.below _ ?_ ?_) | (with_reducible refine Below.on ?_ (by with_reducible assumption) ?_) | (with_reducible refine Below.alloc ?_ ?_ _) | (with_reducible refine Below.drew ?_) | (with_reducible refine Below.setCell ?_ ?_ _) | (with_reducible exact Nat.le_refl _) | omega | (simp; done) | (simp [go_sem]; done) | (simp at *; omega))))) | (go_at_call 51; with_reducible exact Calls.ext (cs _)))))); refine wpQuiet_nil ?_; rintro _ ⟨yr, rfl⟩; have syr := Ext.size yr; (repeat (first | rw [World.size_alloc] at syr | rw [World.size_setCell] at syr | rw [World.size_drew] at syr))) | (go_at_call 50; (first | with_reducible refine (Calls.giv2 (ca _ (by repeat' (first | (with_reducible exact Below.refl _ _) | (with_reducible assumption) | (with_reducible refine Ext.below _ ?_ ?_) | (with_reducible refine Below.on ?_ (by with_reducible assumption) ?_) | (with_reducible refine Below.alloc ?_ ?_ _) | (with_reducible refine Below.drew ?_) | (with_reducible refine Below.setCell ?_ ?_ _) | (with_reducible exact Nat.le_refl _) | omega | (simp; done) | (simp [go_sem]; done) | (simp at *; omega))))).mono ?_ | with_reducible refine (Calls.giv (ca _ (by repeat' (first | (with_reducible exact Below.refl _ _) | (with_reducible assumption) | (with_reducible refine Ext.below _ ?_ ?_) | (with_reducible refine Below.on ?_ (by with_reducible assumption) ?_) | (with_reducible refine Below.alloc ?_ ?_ _) | (with_reducible refine Below.drew ?_) | (with_reducible refine Below.setCell ?_ ?_ _) | (with_reducible exact Nat.le_refl _) | omega | (simp; done) | (simp [go_sem]; done) | (simp at *; omega))))).mono ?_); rintro _ _ ⟨y1, rfl, rfl⟩; have sy1 := Ext.size y1; (repeat (first | rw [World.size_alloc] at sy1 | rw [World.size_setCell] at sy1 | rw [World.size_drew] at sy1))) | (go_at_call 51; (first | with_reducible refine (Calls.giv2 (cs _)).mono ?_ | with_reducible refine (Calls.giv (cs _)).mono ?_); rintro _ _ ⟨y2, rfl, rfl⟩; have sy2 := Ext.size y2; (repeat (first | rw [World.size_alloc] at sy2 | rw [World.size_setCell] at sy2 | rw [World.size_drew] at sy2))))
      go_returns
      refine ⟨rfl, ?_⟩
      repeat' (first | (with_reducible exact Below.refl _ _) | (with_reducible assumption) | (with_reducible refine Ext.below _ ?_ ?_) | (with_reducible refine Below.on ?_ (by with_reducible assumption) ?_) | (with_reducible refine Below.alloc ?_ ?_ _) | (with_reducible refine Below.drew ?_) | (with_reducible refine Below.setCell ?_ ?_ _) | (with_reducible exact Nat.le_refl _) | omega | (simp; done) | (simp [go_sem]; done) | (simp at *; omega))
    · rw [if_neg (by simp)]
      exact rEnds_ok p cap l s w hP ha (stoneB_ok.1 hb)
  · rw [if_pos ha]
    have ca := fun (W : World) (y : Below w.heap.size w W) => rCheckAir_any p cap l W (hP.on y) hn
    generalize airE l = E at *
    unfold StoneR.val StoneR.vals at *
    go_enter Tryd.func13, Tryd.ntmps13
    go_wp2_with (first | ((first | with_reducible refine wp_region_ext2 (by kernel_rfl) (by kernel_rfl) ?_ | with_reducible refine wp_region_ext (by kernel_rfl) (by kernel_rfl) ?_); (repeat (first | go_big_quiet_step ((first | (go_at_call 50; with_reducible exact Calls.ext (ca _ (by repeat' (first | (with_reducible exact Below.refl _ _) | (with_reducible assumption) | (with_reducible refine Ext.below _ ?_ ?_) | (with_reducible refine Below.on ?_ (by with_reducible assumption) ?_) | (with_reducible refine Below.alloc ?_ ?_ _) | (with_reducible refine Below.drew ?_) | (with_reducible refine Below.setCell ?_ ?_ _) | (with_reducible exact Nat.le_refl _) | omega | (simp; done) | (simp [go_sem]; done) | (simp at *; omega))))))) | quiet_step ((first | (go_at_call 50; with_reducible exact Calls.ext (ca _ (by repeat' (first | (with_reducible exact Below.refl _ _) | (with_reducible assumption) | (with_reducible refine Ext.below _ ?_ ?_) | (with_reducible refine Below.on ?_ (by with_reducible assumption) ?_) | (with_reducible refine Below.alloc ?_ ?_ _) | (with_reducible refine Below.drew ?_) | (with_reducible refine Below.setCell ?_ ?_ _) | (with_reducible exact Nat.le_refl _) | omega | (simp; done) | (simp [go_sem]; done) | (simp at *; omega))))))))); refine wpQuiet_nil ?_; rintro _ ⟨yr, rfl⟩; have syr := Ext.size yr; (repeat (first | rw [World.size_alloc] at syr | rw [World.size_setCell] at syr | rw [World.size_drew] at syr))) | (go_at_call 50; (first | with_reducible refine (Calls.giv2 (ca _ (by repeat' (first | (with_reducible exact Below.refl _ _) | (with_reducible assumption) | (with_reducible refine Ext.below _ ?_ ?_) | (with_reducible refine Below.on ?_ (by with_reducible assumption) ?_) | (with_reducible refine Below.alloc ?_ ?_ _) | (with_reducible refine Below.drew ?_) | (with_reducible refine Below.setCell ?_ ?_ _) | (with_reducible exact Nat.le_refl _) | omega | (simp; done) | (simp [go_sem]; done) | (simp at *; omega))))).mono ?_ | with_reducible refine (Calls.giv (ca _ (by repeat' (first | (with_reducible exact Below.refl _ _) | (with_reducible assumption) | (with_reducible refine Ext.below _ ?_ ?_) | (with_reducible refine Below.on ?_ (by with_reducible assumption) ?_) | (with_reducible refine Below.alloc ?_ ?_ _) | (with_reducible refine Below.drew ?_) | (with_reducible refine Below.setCell ?_ ?_ _) | (with_reducible exact Nat.le_refl _) | omega | (simp; done) | (simp [go_sem]; done) | (simp at *; omega))))).mono ?_); rintro _ _ ⟨y1, rfl, rfl⟩; have sy1 := Ext.size y1; (repeat (first | rw [World.size_alloc] at sy1 | rw [World.size_setCell] at sy1 | rw [World.size_drew] at sy1))))
    all_goals go_returns
    all_goals refine ⟨rfl, ?_⟩
    repeat' (first | (with_reducible exact Below.refl _ _) | (with_reducible assumption) | (with_reducible refine Ext.below _ ?_ ?_) | (with_reducible refine Below.on ?_ (by with_reducible assumption) ?_) | (with_reducible refine Below.alloc ?_ ?_ _) | (with_reducible refine Below.drew ?_) | (with_reducible refine Below.setCell ?_ ?_ _) | (with_reducible exact Nat.le_refl _) | omega | (simp; done) | (simp [go_sem]; done) | (simp at *; omega))
end Go.Proofs.YtfjieblihbnmjaaDoor
namespace Go.Proofs.YtfjieblihbnmjaaDoor
open Go.RowKit Go.Shelf
attribute [local go_sem] Option.isSome_some Ext.cell Ext.frozen Ext.lt Ext.le Ext.lt_add Ext.le_add Ext.ne Ext.ne' lt2 lt3 lt4 lt5 le2 le3 le4
def firstS (k : RockR) (f : FallR) : StoneR := ⟨k.size.y, k.dens.y, k.strong.x, k.spin.y, k.shape.x, k.pile, f.speed.y, f.slope.y⟩
def lastS (k : RockR) (f : FallR) : StoneR := ⟨k.size.x, k.dens.x, k.strong.y, k.spin.x, k.shape.y, k.pile, f.speed.x, f.slope.x⟩
theorem first_any (k : RockR) (f : FallR) (w : World) : Calls Tryd.prog 88 #[k.val, f.val] w (Gives (firstS k f).val w) := by
  unfold RockR.val FallR.val StoneR.val StoneR.vals firstS
  go_enter Tryd.func88, Tryd.ntmps88
  go_wp2_with (first | ((first | with_reducible refine wp_region_ext2 (by kernel_rfl) (by kernel_rfl) ?_ | with_reducible refine wp_region_ext (by kernel_rfl) (by kernel_rfl) ?_); (repeat (first | go_big_quiet_step ((first | fail)) | quiet_step ((first | fail)))); refine wpQuiet_nil ?_; rintro _ ⟨yr, rfl⟩; have syr := Ext.size yr; (repeat (first | rw [World.size_alloc] at syr | rw [World.size_setCell] at syr | rw [World.size_drew] at syr))))
  refine bodyPost_ret (v := .agg #[.int .i64 k.size.y, .int .i64 k.dens.y, .int .i64 k.strong.x, .int .i64 k.spin.y, .int .i64 k.shape.x, .bool k.pile, .int .i64 f.speed.y, .int .i64 f.slope.y]) (by simp (maxDischargeDepth := 9) [results, Tryd.results88, go_sem]) rfl ?_
  refine ⟨rfl, ?_⟩
  repeat' (first | (with_reducible exact Below.refl _ _) | (with_reducible assumption) | (with_reducible refine Ext.below _ ?_ ?_) | (with_reducible refine Below.on ?_ (by with_reducible assumption) ?_) | (with_reducible refine Below.alloc ?_ ?_ _) | (with_reducible refine Below.drew ?_) | (with_reducible refine Below.setCell ?_ ?_ _) | (with_reducible exact Nat.le_refl _) | omega | (simp; done) | (simp [go_sem]; done) | (simp at *; omega))
theorem last_any (k : RockR) (f : FallR) (w : World) : Calls Tryd.prog 89 #[k.val, f.val] w (Gives (lastS k f).val w) := by
  unfold RockR.val FallR.val StoneR.val StoneR.vals lastS
  go_enter Tryd.func89, Tryd.ntmps89
  go_wp2_with (first | ((first | with_reducible refine wp_region_ext2 (by kernel_rfl) (by kernel_rfl) ?_ | with_reducible refine wp_region_ext (by kernel_rfl) (by kernel_rfl) ?_); (repeat (first | go_big_quiet_step ((first | fail)) | quiet_step ((first | fail)))); refine wpQuiet_nil ?_; rintro _ ⟨yr, rfl⟩; have syr := Ext.size yr; (repeat (first | rw [World.size_alloc] at syr | rw [World.size_setCell] at syr | rw [World.size_drew] at syr))))
  refine bodyPost_ret (v := .agg #[.int .i64 k.size.x, .int .i64 k.dens.x, .int .i64 k.strong.y, .int .i64 k.spin.x, .int .i64 k.shape.y, .bool k.pile, .int .i64 f.speed.x, .int .i64 f.slope.x]) (by simp (maxDischargeDepth := 9) [results, Tryd.results89, go_sem]) rfl ?_
  refine ⟨rfl, ?_⟩
  repeat' (first | (with_reducible exact Below.refl _ _) | (with_reducible assumption) | (with_reducible refine Ext.below _ ?_ ?_) | (with_reducible refine Below.on ?_ (by with_reducible assumption) ?_) | (with_reducible refine Below.alloc ?_ ?_ _) | (with_reducible refine Below.drew ?_) | (with_reducible refine Below.setCell ?_ ?_ _) | (with_reducible exact Nat.le_refl _) | omega | (simp; done) | (simp [go_sem]; done) | (simp at *; omega))
def soleK (s : StoneR) : RockR := ⟨⟨s.size, s.size⟩, ⟨s.dens, s.dens⟩, ⟨s.strong, s.strong⟩, ⟨s.spin, s.spin⟩, ⟨s.shape, s.shape⟩, s.pile⟩
def soleF (s : StoneR) : FallR := ⟨⟨s.speed, s.speed⟩, ⟨s.slope, s.slope⟩⟩
theorem first_sole (s : StoneR) : firstS (soleK s) (soleF s) = s ∧ lastS (soleK s) (soleF s) = s := ⟨rfl, rfl⟩
end Go.Proofs.YtfjieblihbnmjaaDoor
namespace Go.Proofs.YtfjieblihbnmjaaDoor
open Go.RowKit Go.Shelf
attribute [local go_sem] Option.isSome_some Ext.cell Ext.frozen Ext.lt Ext.le Ext.lt_add Ext.le_add Ext.ne Ext.ne' lt2 lt3 lt4 lt5 le2 le3 le4
theorem size_setRow2 (W : World) (g : Nat) (cs : Array Value) : (W.setRow g cs).heap.size = W.heap.size := by simp [World.setRow]
theorem below_row {n g : Nat} {w W : World} (h : Below n w W) (hg : n ≤ g) (cs : Array Value) : Below n w (W.setRow g cs) := below_setRow h hg cs
def blwDeps : List (List Nat) := [[], [], [], [1, 2], [0, 3], [], [], [], [6, 7, 4], [5, 8], [], [], [10, 4, 9], [11, 9, 12]]
def blwInv (k : RockR) (f : FallR) (s t : StoneR) (p : Option Addr) (cap n : Nat) (a0 : Act) (X : World) (l : List Bool) (fr : Act) (W : World) : Prop :=
  ∃ s5 s6 s8 s9 s10 s11 s12 s13 s14 s15 s16 s17 : Value, fr = sets a0 [(5, s5), (6, s6), (8, s8), (9, s9), (10, s10), (11, s11), (12, s12), (13, s13), (14, s14), (15, s15), (16, s16), (17, s17)] ∧ Below X.heap.size X W ∧
    (l.getD 10 false = true → l.getD 11 false = true → s5 ≠ s6) ∧
    (l.getD 12 false = true → l.getD 10 false = true) ∧
    (l.getD 13 false = true → l.getD 11 false = true) ∧
    (l.getD 0 false = true → s8 = .slice p n cap) ∧
    (l.getD 1 false = true → s9 = .agg #[.int .i64 k.size.x, .int .i64 k.size.y, .int .i64 k.dens.x, .int .i64 k.dens.y, .int .i64 k.strong.x, .int .i64 k.strong.y, .int .i64 k.spin.x, .int .i64 k.spin.y, .int .i64 k.shape.x, .int .i64 k.shape.y, .bool k.pile]) ∧
    (l.getD 2 false = true → s10 = .agg #[.int .i64 f.speed.x, .int .i64 f.speed.y, .int .i64 f.slope.x, .int .i64 f.slope.y]) ∧
    (l.getD 3 false = true → s11 = .agg #[.int .i64 s.size, .int .i64 s.dens, .int .i64 s.strong, .int .i64 s.spin, .int .i64 s.shape, .bool s.pile, .int .i64 s.speed, .int .i64 s.slope]) ∧
    (l.getD 4 false = true → s12 = .agg #[.slice p n cap, .int .i64 s.size, .int .i64 s.dens, .int .i64 s.strong, .int .i64 s.spin, .int .i64 s.shape, .bool s.pile, .int .i64 s.speed, .int .i64 s.slope, .int .i64 0, .int .i64 (s.speed * s.speed)]) ∧
    (l.getD 5 false = true → s13 = .slice p n cap) ∧
    (l.getD 6 false = true → s14 = .agg #[.int .i64 k.size.x, .int .i64 k.size.y, .int .i64 k.dens.x, .int .i64 k.dens.y, .int .i64 k.strong.x, .int .i64 k.strong.y, .int .i64 k.spin.x, .int .i64 k.spin.y, .int .i64 k.shape.x, .int .i64 k.shape.y, .bool k.pile]) ∧
    (l.getD 7 false = true → s15 = .agg #[.int .i64 f.speed.x, .int .i64 f.speed.y, .int .i64 f.slope.x, .int .i64 f.slope.y]) ∧
    (l.getD 8 false = true → s16 = .agg #[.int .i64 t.size, .int .i64 t.dens, .int .i64 t.strong, .int .i64 t.spin, .int .i64 t.shape, .bool t.pile, .int .i64 t.speed, .int .i64 t.slope]) ∧
    (l.getD 9 false = true → s17 = .agg #[.slice p n cap, .int .i64 t.size, .int .i64 t.dens, .int .i64 t.strong, .int .i64 t.spin, .int .i64 t.shape, .bool t.pile, .int .i64 t.speed, .int .i64 t.slope, .int .i64 0, .int .i64 (t.speed * t.speed)]) ∧
    (l.getD 10 false = true → ∃ g : Nat, s5 = .pointer (some ⟨g, 0, none⟩) ∧ X.heap.size ≤ g ∧ g < W.heap.size ∧ (l.getD 12 false = false → W.heap[g]? = some (.cells #[.slice none 0 0, .int .i64 0, .int .i64 0, .int .i64 0, .int .i64 0, .int .i64 0, .bool false, .int .i64 0, .int .i64 0, .int .i64 0, .int .i64 0] 90 (0, 0))) ∧ (l.getD 12 false = true → W.heap[g]? = some (.cells #[.slice p n cap, .int .i64 s.size, .int .i64 s.dens, .int .i64 s.strong, .int .i64 s.spin, .int .i64 s.shape, .bool s.pile, .int .i64 s.speed, .int .i64 s.slope, .int .i64 0, .int .i64 (s.speed * s.speed)] 90 (0, 0)))) ∧
    (l.getD 11 false = true → ∃ g : Nat, s6 = .pointer (some ⟨g, 0, none⟩) ∧ X.heap.size ≤ g ∧ g < W.heap.size ∧ (l.getD 13 false = false → W.heap[g]? = some (.cells #[.slice none 0 0, .int .i64 0, .int .i64 0, .int .i64 0, .int .i64 0, .int .i64 0, .bool false, .int .i64 0, .int .i64 0, .int .i64 0, .int .i64 0] 90 (0, 0))) ∧ (l.getD 13 false = true → W.heap[g]? = some (.cells #[.slice p n cap, .int .i64 t.size, .int .i64 t.dens, .int .i64 t.strong, .int .i64 t.spin, .int .i64 t.shape, .bool t.pile, .int .i64 t.speed, .int .i64 t.slope, .int .i64 0, .int .i64 (t.speed * t.speed)] 90 (0, 0))))
def blwTold (s t : StoneR) (p : Option Addr) (cap n : Nat) : Act → World → Act → World → Prop := fun a X a' W => ∃ (g h : Nat), a' = sets a [(5, .pointer (some ⟨g, 0, none⟩)), (6, .pointer (some ⟨h, 0, none⟩)), (8, a'.tmps.getD 8 undef), (9, a'.tmps.getD 9 undef), (10, a'.tmps.getD 10 undef), (11, a'.tmps.getD 11 undef), (12, a'.tmps.getD 12 undef), (13, a'.tmps.getD 13 undef), (14, a'.tmps.getD 14 undef), (15, a'.tmps.getD 15 undef), (16, a'.tmps.getD 16 undef), (17, a'.tmps.getD 17 undef)] ∧ Below X.heap.size X W ∧ X.heap.size ≤ g ∧ X.heap.size ≤ h ∧ g ≠ h ∧ g < W.heap.size ∧ h < W.heap.size ∧ W.heap[g]? = some (.cells #[.slice p n cap, .int .i64 s.size, .int .i64 s.dens, .int .i64 s.strong, .int .i64 s.spin, .int .i64 s.shape, .bool s.pile, .int .i64 s.speed, .int .i64 s.slope, .int .i64 0, .int .i64 (s.speed * s.speed)] 90 (0, 0)) ∧ W.heap[h]? = some (.cells #[.slice p n cap, .int .i64 t.size, .int .i64 t.dens, .int .i64 t.strong, .int .i64 t.spin, .int .i64 t.shape, .bool t.pile, .int .i64 t.speed, .int .i64 t.slope, .int .i64 0, .int .i64 (t.speed * t.speed)] 90 (0, 0))
end Go.Proofs.YtfjieblihbnmjaaDoor

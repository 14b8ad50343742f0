/- For BlastFalls: where stones end and the blows of rocks are as the reference says, for any arguments. Written by gen_falls.py. Condition: none beyond the statement's own. -/
import Derived.Test.YtfjieblihbnmjaaDoorBlRwG
import Derived.Test.YtfjieblihbnmjaaDoorBlBgG
import Derived.Test.YtfjieblihbnmjaaDoorBlLG
import Derived.Test.YtfjieblihbnmjaaDoorBlHolds
import Derived.Test.YtfjieblihbnmjaaDoorPairG
namespace Go.Proofs.YtfjieblihbnmjaaDoor
open Go.RowKit Go.Shelf
attribute [local go_sem] Option.isSome_some Ext.cell Ext.frozen Ext.lt Ext.le Ext.lt_add Ext.le_add Ext.ne Ext.ne' lt2 lt3 lt4 lt5 le2 le3 le4
attribute [local go_sem] RExt.cell RExt.frozen RExt.lt RExt.le RExt.lt_add RExt.le_add RExt.ne RExt.ne'
theorem list20 {α : Type} {l : List α} (h : l.length = 20) : ∃ b0 b1 b2 b3 b4 b5 b6 b7 b8 b9 b10 b11 b12 b13 b14 b15 b16 b17 b18 b19, l = [b0, b1, b2, b3, b4, b5, b6, b7, b8, b9, b10, b11, b12, b13, b14, b15, b16, b17, b18, b19] := by
  match l, h with
  | [b0, b1, b2, b3, b4, b5, b6, b7, b8, b9, b10, b11, b12, b13, b14, b15, b16, b17, b18, b19], _ => exact ⟨_, _, _, _, _, _, _, _, _, _, _, _, _, _, _, _, _, _, _, _, rfl⟩
def flsDeps : List (List Nat) := [[], [], [1], [0, 2], [], [], [], [], [5, 6, 7], [4, 8], [], [], [10, 11], [], [], [13, 14], [3], [9], [12], [15]]
def flsInv (b m : Nat) (lp : Option Addr) (nl lc : Nat) (J k : RockR) (F f : FallR) (s : StoneR) (a0 : Act) (X : World) (l : List Bool) (fr : Act) (W : World) : Prop :=
  ∃ s14 s15 s16 s17 s40 s41 s42 s43 s44 s45 s46 s47 s48 s49 s50 s51 s52 s53 s54 s55 : Value, fr = sets a0 [(14, s14), (15, s15), (16, s16), (17, s17), (40, s40), (41, s41), (42, s42), (43, s43), (44, s44), (45, s45), (46, s46), (47, s47), (48, s48), (49, s49), (50, s50), (51, s51), (52, s52), (53, s53), (54, s54), (55, s55)] ∧ BelowX b X.heap.size X W ∧
    (RingM W b (m + (20 * (l.getD 2 false).toNat + 14 * (l.getD 8 false).toNat))) ∧
    (l.getD 0 false = true → s40 = .slice lp nl lc) ∧
    (l.getD 1 false = true → s41 = .pointer (some ⟨b, 0, none⟩)) ∧
    (l.getD 2 false = true → ∃ (lv : Value) (ls : List V2), s42 = lv ∧ LaysOk ls ∧ W.ownsRow X.heap.size 85 2 lv ls.length (vrows ls)) ∧
    (l.getD 3 false = true → ∃ (g : Nat) (lv : Value) (ls : List V2), s43 = .slice (some ⟨g, 0, none⟩) 2 2 ∧ X.heap.size ≤ g ∧ g < W.heap.size ∧ W.heap[g]? = some (.cells #[.slice lp nl lc, lv] 22 (0, 0)) ∧ LaysOk ls ∧ W.ownsRow X.heap.size 85 2 lv ls.length (vrows ls)) ∧
    (l.getD 4 false = true → s44 = .agg #[.int .i64 s.size, .int .i64 s.dens, .int .i64 s.strong, .int .i64 s.spin, .int .i64 s.shape, .bool s.pile, .int .i64 s.speed, .int .i64 s.slope]) ∧
    (l.getD 5 false = true → s45 = .pointer (some ⟨b, 0, none⟩)) ∧
    (l.getD 6 false = true → s46 = .agg #[.int .i64 k.size.x, .int .i64 k.size.y, .int .i64 k.dens.x, .int .i64 k.dens.y, .int .i64 k.strong.x, .int .i64 k.strong.y, .int .i64 k.spin.x, .int .i64 k.spin.y, .int .i64 k.shape.x, .int .i64 k.shape.y, .bool k.pile]) ∧
    (l.getD 7 false = true → s47 = .agg #[.int .i64 f.speed.x, .int .i64 f.speed.y, .int .i64 f.slope.x, .int .i64 f.slope.y]) ∧
    (l.getD 8 false = true → ∃ x : StoneR, StoneIn x k f ∧ s48 = .agg x.vals) ∧
    (l.getD 9 false = true → ∃ (g : Nat) (x : StoneR), StoneIn x k f ∧ s49 = .slice (some ⟨g, 0, none⟩) 2 2 ∧ X.heap.size ≤ g ∧ g < W.heap.size ∧ W.heap[g]? = some (.cells #[.int .i64 s.size, .int .i64 s.dens, .int .i64 s.strong, .int .i64 s.spin, .int .i64 s.shape, .bool s.pile, .int .i64 s.speed, .int .i64 s.slope, .int .i64 x.size, .int .i64 x.dens, .int .i64 x.strong, .int .i64 x.spin, .int .i64 x.shape, .bool x.pile, .int .i64 x.speed, .int .i64 x.slope] 30 (0, 0))) ∧
    (l.getD 10 false = true → s50 = .agg #[.int .i64 J.size.x, .int .i64 J.size.y, .int .i64 J.dens.x, .int .i64 J.dens.y, .int .i64 J.strong.x, .int .i64 J.strong.y, .int .i64 J.spin.x, .int .i64 J.spin.y, .int .i64 J.shape.x, .int .i64 J.shape.y, .bool J.pile]) ∧
    (l.getD 11 false = true → s51 = .agg #[.int .i64 k.size.x, .int .i64 k.size.y, .int .i64 k.dens.x, .int .i64 k.dens.y, .int .i64 k.strong.x, .int .i64 k.strong.y, .int .i64 k.spin.x, .int .i64 k.spin.y, .int .i64 k.shape.x, .int .i64 k.shape.y, .bool k.pile]) ∧
    (l.getD 12 false = true → ∃ (g : Nat), s52 = .slice (some ⟨g, 0, none⟩) 2 2 ∧ X.heap.size ≤ g ∧ g < W.heap.size ∧ W.heap[g]? = some (.cells #[.int .i64 J.size.x, .int .i64 J.size.y, .int .i64 J.dens.x, .int .i64 J.dens.y, .int .i64 J.strong.x, .int .i64 J.strong.y, .int .i64 J.spin.x, .int .i64 J.spin.y, .int .i64 J.shape.x, .int .i64 J.shape.y, .bool J.pile, .int .i64 k.size.x, .int .i64 k.size.y, .int .i64 k.dens.x, .int .i64 k.dens.y, .int .i64 k.strong.x, .int .i64 k.strong.y, .int .i64 k.spin.x, .int .i64 k.spin.y, .int .i64 k.shape.x, .int .i64 k.shape.y, .bool k.pile] 26 (0, 0))) ∧
    (l.getD 13 false = true → s53 = .agg #[.int .i64 F.speed.x, .int .i64 F.speed.y, .int .i64 F.slope.x, .int .i64 F.slope.y]) ∧
    (l.getD 14 false = true → s54 = .agg #[.int .i64 f.speed.x, .int .i64 f.speed.y, .int .i64 f.slope.x, .int .i64 f.slope.y]) ∧
    (l.getD 15 false = true → ∃ (g : Nat), s55 = .slice (some ⟨g, 0, none⟩) 2 2 ∧ X.heap.size ≤ g ∧ g < W.heap.size ∧ W.heap[g]? = some (.cells #[.int .i64 F.speed.x, .int .i64 F.speed.y, .int .i64 F.slope.x, .int .i64 F.slope.y, .int .i64 f.speed.x, .int .i64 f.speed.y, .int .i64 f.slope.x, .int .i64 f.slope.y] 28 (0, 0))) ∧
    (l.getD 16 false = true → ∃ (g : Nat) (lv : Value) (ls : List V2), s14 = .slice (some ⟨g, 0, none⟩) 2 2 ∧ X.heap.size ≤ g ∧ g < W.heap.size ∧ W.heap[g]? = some (.cells #[.slice lp nl lc, lv] 22 (0, 0)) ∧ LaysOk ls ∧ W.ownsRow X.heap.size 85 2 lv ls.length (vrows ls)) ∧
    (l.getD 17 false = true → ∃ (g : Nat) (x : StoneR), StoneIn x k f ∧ s15 = .slice (some ⟨g, 0, none⟩) 2 2 ∧ X.heap.size ≤ g ∧ g < W.heap.size ∧ W.heap[g]? = some (.cells #[.int .i64 s.size, .int .i64 s.dens, .int .i64 s.strong, .int .i64 s.spin, .int .i64 s.shape, .bool s.pile, .int .i64 s.speed, .int .i64 s.slope, .int .i64 x.size, .int .i64 x.dens, .int .i64 x.strong, .int .i64 x.spin, .int .i64 x.shape, .bool x.pile, .int .i64 x.speed, .int .i64 x.slope] 30 (0, 0))) ∧
    (l.getD 18 false = true → ∃ (g : Nat), s16 = .slice (some ⟨g, 0, none⟩) 2 2 ∧ X.heap.size ≤ g ∧ g < W.heap.size ∧ W.heap[g]? = some (.cells #[.int .i64 J.size.x, .int .i64 J.size.y, .int .i64 J.dens.x, .int .i64 J.dens.y, .int .i64 J.strong.x, .int .i64 J.strong.y, .int .i64 J.spin.x, .int .i64 J.spin.y, .int .i64 J.shape.x, .int .i64 J.shape.y, .bool J.pile, .int .i64 k.size.x, .int .i64 k.size.y, .int .i64 k.dens.x, .int .i64 k.dens.y, .int .i64 k.strong.x, .int .i64 k.strong.y, .int .i64 k.spin.x, .int .i64 k.spin.y, .int .i64 k.shape.x, .int .i64 k.shape.y, .bool k.pile] 26 (0, 0))) ∧
    (l.getD 19 false = true → ∃ (g : Nat), s17 = .slice (some ⟨g, 0, none⟩) 2 2 ∧ X.heap.size ≤ g ∧ g < W.heap.size ∧ W.heap[g]? = some (.cells #[.int .i64 F.speed.x, .int .i64 F.speed.y, .int .i64 F.slope.x, .int .i64 F.slope.y, .int .i64 f.speed.x, .int .i64 f.speed.y, .int .i64 f.slope.x, .int .i64 f.slope.y] 28 (0, 0)))
def flsTold (b : Nat) (lp : Option Addr) (nl lc : Nat) (J k : RockR) (F f : FallR) (s : StoneR) : Act → World → Act → World → Prop := fun a X a' W => ∃ (g0 g1 g2 g3 : Nat) (lv : Value) (ls : List V2) (x : StoneR), a' = sets a [(14, .slice (some ⟨g0, 0, none⟩) 2 2), (15, .slice (some ⟨g1, 0, none⟩) 2 2), (16, .slice (some ⟨g2, 0, none⟩) 2 2), (17, .slice (some ⟨g3, 0, none⟩) 2 2), (40, a'.tmps.getD 40 undef), (41, a'.tmps.getD 41 undef), (42, a'.tmps.getD 42 undef), (43, a'.tmps.getD 43 undef), (44, a'.tmps.getD 44 undef), (45, a'.tmps.getD 45 undef), (46, a'.tmps.getD 46 undef), (47, a'.tmps.getD 47 undef), (48, a'.tmps.getD 48 undef), (49, a'.tmps.getD 49 undef), (50, a'.tmps.getD 50 undef), (51, a'.tmps.getD 51 undef), (52, a'.tmps.getD 52 undef), (53, a'.tmps.getD 53 undef), (54, a'.tmps.getD 54 undef), (55, a'.tmps.getD 55 undef)] ∧ LaysOk ls ∧ W.ownsRow X.heap.size 85 2 lv ls.length (vrows ls) ∧ StoneIn x k f ∧ BelowX b X.heap.size X W ∧ W.heap[g0]? = some (.cells #[.slice lp nl lc, lv] 22 (0, 0)) ∧ W.heap[g1]? = some (.cells #[.int .i64 s.size, .int .i64 s.dens, .int .i64 s.strong, .int .i64 s.spin, .int .i64 s.shape, .bool s.pile, .int .i64 s.speed, .int .i64 s.slope, .int .i64 x.size, .int .i64 x.dens, .int .i64 x.strong, .int .i64 x.spin, .int .i64 x.shape, .bool x.pile, .int .i64 x.speed, .int .i64 x.slope] 30 (0, 0)) ∧ W.heap[g2]? = some (.cells #[.int .i64 J.size.x, .int .i64 J.size.y, .int .i64 J.dens.x, .int .i64 J.dens.y, .int .i64 J.strong.x, .int .i64 J.strong.y, .int .i64 J.spin.x, .int .i64 J.spin.y, .int .i64 J.shape.x, .int .i64 J.shape.y, .bool J.pile, .int .i64 k.size.x, .int .i64 k.size.y, .int .i64 k.dens.x, .int .i64 k.dens.y, .int .i64 k.strong.x, .int .i64 k.strong.y, .int .i64 k.spin.x, .int .i64 k.spin.y, .int .i64 k.shape.x, .int .i64 k.shape.y, .bool k.pile] 26 (0, 0)) ∧ W.heap[g3]? = some (.cells #[.int .i64 F.speed.x, .int .i64 F.speed.y, .int .i64 F.slope.x, .int .i64 F.slope.y, .int .i64 f.speed.x, .int .i64 f.speed.y, .int .i64 f.slope.x, .int .i64 f.slope.y] 28 (0, 0))
set_option maxRecDepth 100000 in
set_option maxHeartbeats 16000000 in
theorem BlastFalls_any (lp : Option Addr) (lc : Nat) (ls : List V2) (J : RockR) (F : FallR) (s : StoneR) (sp : Option Addr) (sl sc : Nat) (sz : Nat → Int) (w : World) (hlim : LimAt w) (hP : VecsAt w lp ls) (hw : ListIn w sp sl sz) : Calls Tryd.prog 3 #[.slice lp ls.length lc, J.val, F.val, s.val, .slice sp sl sc] w (Gives (.bool true) w) := by
  have ca := fun W (y : LimAt W) => blastAwake_any W y
  have hl0 := hlim.lt
  unfold StoneR.val StoneR.vals RockR.val FallR.val
  by_cases h40 : 40 < ls.length
  · have h40' : 40 < (ls.length : Int) := by omega
    go_enter Tryd.func3, Tryd.ntmps3
    go_wp2_with (first | ((first | with_reducible refine wp_region_ext2 (by kernel_rfl) (by kernel_rfl) ?_ | with_reducible refine wp_region_ext (by kernel_rfl) (by kernel_rfl) ?_); (repeat (first | go_big_quiet_step ((first | (go_at_call 7; with_reducible exact Calls.ext (ca _ (by repeat (first | exact hlim | (with_reducible refine LimAt.ext ?_ _) | (with_reducible refine LimAt.alloc ?_ _) | (with_reducible refine LimAt.drew ?_) | (with_reducible refine LimAt.rext ?_ (by omega) _) | (with_reducible refine LimAt.set ?_ (by omega) _))))))) | quiet_step ((first | (go_at_call 7; with_reducible exact Calls.ext (ca _ (by repeat (first | exact hlim | (with_reducible refine LimAt.ext ?_ _) | (with_reducible refine LimAt.alloc ?_ _) | (with_reducible refine LimAt.drew ?_) | (with_reducible refine LimAt.rext ?_ (by omega) _) | (with_reducible refine LimAt.set ?_ (by omega) _))))))))); refine wpQuiet_nil ?_; rintro _ ⟨yr, rfl⟩; have syr := Ext.size yr; (repeat (first | rw [World.size_alloc] at syr | rw [World.size_setCell] at syr | rw [World.size_drew] at syr))) | (go_at_call 7; (first | with_reducible refine (Calls.giv2 (ca _ (by repeat (first | exact hlim | (with_reducible refine LimAt.ext ?_ _) | (with_reducible refine LimAt.alloc ?_ _) | (with_reducible refine LimAt.drew ?_) | (with_reducible refine LimAt.rext ?_ (by omega) _) | (with_reducible refine LimAt.set ?_ (by omega) _))))).mono ?_ | with_reducible refine (Calls.giv (ca _ (by repeat (first | exact hlim | (with_reducible refine LimAt.ext ?_ _) | (with_reducible refine LimAt.alloc ?_ _) | (with_reducible refine LimAt.drew ?_) | (with_reducible refine LimAt.rext ?_ (by omega) _) | (with_reducible refine LimAt.set ?_ (by omega) _))))).mono ?_); rintro _ _ ⟨y1, rfl, rfl⟩; have sy1 := Ext.size y1; (repeat (first | rw [World.size_alloc] at sy1 | rw [World.size_setCell] at sy1 | rw [World.size_drew] at sy1))))
    go_returns
    refine ⟨rfl, ?_⟩
    repeat' (first | (with_reducible exact Below.refl _ _) | (with_reducible assumption) | (with_reducible refine Ext.below _ ?_ ?_) | (with_reducible refine Below.on ?_ (by with_reducible assumption) ?_) | (with_reducible refine Below.alloc ?_ ?_ _) | (with_reducible refine Below.drew ?_) | (with_reducible refine Below.setCell ?_ ?_ _) | (with_reducible exact Nat.le_refl _) | omega | (simp; done) | (simp [go_sem]; done) | (simp at *; omega))
  have h40' : ¬ 40 < (ls.length : Int) := by omega
  have hn9 : ls.length ≤ 40 := by omega
  clear h40
  go_enter Tryd.func3, Tryd.ntmps3
  go_upto_region 3 with (first | ((first | with_reducible refine wp_region_ext2 (by kernel_rfl) (by kernel_rfl) ?_ | with_reducible refine wp_region_ext (by kernel_rfl) (by kernel_rfl) ?_); (repeat (first | go_big_quiet_step ((first | fail)) | quiet_step ((first | fail)))); refine wpQuiet_nil ?_; rintro _ ⟨yr, rfl⟩; have syr := Ext.size yr; (repeat (first | rw [World.size_alloc] at syr | rw [World.size_setCell] at syr | rw [World.size_drew] at syr))))
  refine wp_named (fun W0 hW => ?_)
  have e0 : W0.heap.size = w.heap.size + 1 + 1 + 1 := by rw [← hW]; simp
  have hB0 : Below w.heap.size w W0 := by rw [← hW]; repeat' (first | (with_reducible exact Below.refl _ _) | (with_reducible assumption) | (with_reducible refine Ext.below _ ?_ ?_) | (with_reducible refine Below.on ?_ (by with_reducible assumption) ?_) | (with_reducible refine Below.alloc ?_ ?_ _) | (with_reducible refine Below.drew ?_) | (with_reducible refine Below.setCell ?_ ?_ _) | (with_reducible exact Nat.le_refl _) | omega | (simp; done) | (simp [go_sem]; done) | (simp at *; omega))
  obtain ⟨rK, rF, rS⟩ := alloc3_rows hW
  have hlim0 : LimAt W0 := hlim.on hB0
  have hw0 : ListIn W0 sp sl sz := listIn_on hw hB0
  have hP0 : VecsAt W0 lp ls := hP.on hB0
  clear hW h40'
  go_upto_region 4 with (first | ((first | with_reducible refine wp_region_ext2 (by kernel_rfl) (by kernel_rfl) ?_ | with_reducible refine wp_region_ext (by kernel_rfl) (by kernel_rfl) ?_); (repeat (first | go_big_quiet_step ((first | fail)) | quiet_step ((first | fail)))); refine wpQuiet_nil ?_; rintro _ ⟨yr, rfl⟩; have syr := Ext.size yr; (repeat (first | rw [World.size_alloc] at syr | rw [World.size_setCell] at syr | rw [World.size_drew] at syr))) | (go_at_call 8; refine (NewRing_r sp sl sc sz _ hw0).mono ?_; rintro _ _ ⟨y0, rfl, rfl, hs0, hr0⟩))
  have hR0 : RingM y0.now W0.heap.size 0 := ⟨_, _, _, _, _, hr0, Nat.le_refl _⟩
  have hlim1 : LimAt y0.now := hlim0.ext y0
  have hb0 : Below w.heap.size w y0.now := hB0.trans (y0.grew.mono (by omega))
  have hb1 := y0.grew
  obtain ⟨RB, hRB⟩ : ∃ n, w.heap.size + 1 + 1 + 1 = n := ⟨_, rfl⟩
  rw [e0, hRB] at hR0 hb1 hs0
  rw [hRB]
  replace rK := (hb1.block w.heap.size (by omega)).trans rK
  replace rF := (hb1.block (w.heap.size + 1) (by omega)).trans rF
  replace rS := (hb1.block (w.heap.size + 1 + 1) (by omega)).trans rS
  generalize y0.now = W1 at *
  clear hr0
  have hlW1 := hR0.lt
  go_upto_region 5 with (first | ((first | with_reducible refine wp_region_ext2 (by kernel_rfl) (by kernel_rfl) ?_ | with_reducible refine wp_region_ext (by kernel_rfl) (by kernel_rfl) ?_); (repeat (first | go_big_quiet_step ((first | fail)) | quiet_step ((first | fail)))); refine wpQuiet_nil ?_; rintro _ ⟨yr, rfl⟩; have syr := Ext.size yr; (repeat (first | rw [World.size_alloc] at syr | rw [World.size_setCell] at syr | rw [World.size_drew] at syr))) | (go_at_call 9; refine (RockOf_y RB 0 _ (by omega) hR0).mono ?_; rintro _ _ ⟨y1, k, f, rfl, hok, rfl, hr1⟩; unfold RockR.val FallR.val; have sy1 := y1.size))
  obtain ⟨m0, hm0⟩ : ∃ m0, 0 + 16 = m0 := ⟨_, rfl⟩
  refine wp_named (fun Wr hW => ?_)
  have hRr : RingM Wr RB m0 := by rw [← hW, ← hm0]; exact (hr1.alloc _).alloc _
  have hBr : BelowX RB W1.heap.size W1 Wr := by
    rw [← hW]
    have h6 := y1.grew
    repeat' (first | (with_reducible exact BelowX.refl _ _ _) | (with_reducible assumption) | (with_reducible refine RExt.belowX _ ?_ ?_) | (with_reducible refine Ext.belowX _ ?_ ?_) | (with_reducible refine BelowX.alloc ?_ ?_ _) | (with_reducible refine BelowX.drew ?_) | (with_reducible refine BelowX.setCell ?_ ?_ _) | (with_reducible exact Nat.le_refl _) | omega | (simp; done) | (simp [go_sem]; done) | (simp at *; omega))
  obtain ⟨rk, rf⟩ := alloc2_rows hW
  have e1 : Wr.heap.size = y1.now.heap.size + 1 + 1 := by rw [← hW]; simp
  have hlr : LimAt Wr := by
    rw [← hW]
    have hlim : LimAt y1.now := hlim1.rext (by omega) y1
    exact (by repeat (first | exact hlim | (with_reducible refine LimAt.ext ?_ _) | (with_reducible refine LimAt.alloc ?_ _) | (with_reducible refine LimAt.drew ?_) | (with_reducible refine LimAt.rext ?_ (by omega) _) | (with_reducible refine LimAt.set ?_ (by omega) _)))
  replace rK := (hBr.block w.heap.size (by omega) (by omega)).trans rK
  replace rF := (hBr.block (w.heap.size + 1) (by omega) (by omega)).trans rF
  replace rS := (hBr.block (w.heap.size + 1 + 1) (by omega) (by omega)).trans rS
  have hnew : Below w.heap.size w Wr := ((BelowX.of hb0).trans (hBr.mono (by omega))).below (by omega)
  have hm9 : m0 = 16 := hm0.symm
  clear hW hr1 hm0 hR0 hlim1 hlim0 hw0 hP0 hw hB0 hb0 hb1 hBr y0
  have lK : w.heap.size < Wr.heap.size := by omega
  have lF : w.heap.size + 1 < Wr.heap.size := by omega
  have lS : w.heap.size + 1 + 1 < Wr.heap.size := by omega
  have lk : y1.now.heap.size < Wr.heap.size := by omega
  have lf : y1.now.heap.size + 1 < Wr.heap.size := by omega
  have nK : w.heap.size ≠ RB := by omega
  have nF : w.heap.size + 1 ≠ RB := by omega
  have nS : w.heap.size + 1 + 1 ≠ RB := by omega
  have nk : y1.now.heap.size ≠ RB := by omega
  have nf : y1.now.heap.size + 1 ≠ RB := by omega
  refine wp_tell (flsTold RB lp ls.length lc J k F f s) ?_ ?_
  focus
    have hbX := hRr.lt
    clear hlim hP hlr hnew
    repeat (rename_i zz; clear zz)
    subst hm9
    generalize RB = b at *
    clear e0 e1 hlW1 hs0 sy1 hRB hl0 ca
    generalize w.heap.size = KB at *
    generalize y1.now.heap.size = OB at *
    clear y1
    generalize ls.length = nl at *
    refine region_dep (by kernel_rfl) flsDeps (by kernel_rfl) (flsInv b 16 lp nl lc J k F f s) ?h0 ?hstep ?hend
    case h0 =>
      refine ⟨?z14, ?z15, ?z16, ?z17, ?z40, ?z41, ?z42, ?z43, ?z44, ?z45, ?z46, ?z47, ?z48, ?z49, ?z50, ?z51, ?z52, ?z53, ?z54, ?z55, ?fr, (BelowX.refl _ _ _).drew, (by simpa using hRr.drew), by simp, by simp, by simp, by simp, by simp, by simp, by simp, by simp, by simp, by simp, by simp, by simp, by simp, by simp, by simp, by simp, by simp, by simp, by simp, by simp⟩
      case fr =>
        simp only [sets, List.foldl_cons, List.foldl_nil, List.set_cons_succ, List.set_cons_zero]
        rfl
    case hend =>
      intro l' fr W hl hall hInv
      unfold flsInv at hInv
      obtain ⟨s14, s15, s16, s17, s40, s41, s42, s43, s44, s45, s46, s47, s48, s49, s50, s51, s52, s53, s54, s55, hInv⟩ := hInv
      obtain ⟨hfr, hB, g0, f0, f1, f2, f3, f4, f5, f6, f7, f8, f9, f10, f11, f12, f13, f14, f15, f16, f17, f18, f19⟩ := hInv
      subst hfr
      obtain ⟨b0, b1, b2, b3, b4, b5, b6, b7, b8, b9, b10, b11, b12, b13, b14, b15, b16, b17, b18, b19, rfl⟩ := list20 hl
      simp only [List.getD_cons_zero, List.getD_cons_succ] at g0 f0 f1 f2 f3 f4 f5 f6 f7 f8 f9 f10 f11 f12 f13 f14 f15 f16 f17 f18 f19
      simp only [List.all_cons, id, Bool.and_eq_true] at hall
      obtain ⟨e0, e1, e2, e3, e4, e5, e6, e7, e8, e9, e10, e11, e12, e13, e14, e15, e16, e17, e18, e19, -⟩ := hall
      obtain ⟨g0', lv, ls', rfl, -, -, r0, hlo, ho⟩ := f16 e16
      obtain ⟨g1, x, hx, rfl, -, -, r1⟩ := f17 e17
      obtain ⟨g2, rfl, -, -, r2⟩ := f18 e18
      obtain ⟨g3, rfl, -, -, r3⟩ := f19 e19
      exact ⟨rfl, g0', g1, g2, g3, lv, ls', x, by kernel_rfl, hlo, ho, hx, hB, r0, r1, r2, r3⟩
    case hstep =>
      intro l' fr W ii hl hInv hr hi
      unfold flsInv at hInv
      obtain ⟨s14, s15, s16, s17, s40, s41, s42, s43, s44, s45, s46, s47, s48, s49, s50, s51, s52, s53, s54, s55, hInv⟩ := hInv
      obtain ⟨hfr, hB, g0, f0, f1, f2, f3, f4, f5, f6, f7, f8, f9, f10, f11, f12, f13, f14, f15, f16, f17, f18, f19⟩ := hInv
      subst hfr
      obtain ⟨b0, b1, b2, b3, b4, b5, b6, b7, b8, b9, b10, b11, b12, b13, b14, b15, b16, b17, b18, b19, rfl⟩ := list20 hl
      have sW := hB.size
      replace rK := (hB.block KB lK nK).trans rK
      replace rF := (hB.block (KB + 1) lF nF).trans rF
      replace rS := (hB.block (KB + 1 + 1) lS nS).trans rS
      replace rk := (hB.block OB lk nk).trans rk
      replace rf := (hB.block (OB + 1) lf nf).trans rf
      have c0 : W.cell? ⟨KB, 0, none⟩ = some (.int .i64 J.size.x) := (cell_of_row W _ 0 _ _ _ rK).trans rfl
      have c1 : W.cell? ⟨KB, 1, none⟩ = some (.int .i64 J.size.y) := (cell_of_row W _ 1 _ _ _ rK).trans rfl
      have c2 : W.cell? ⟨KB, 2, none⟩ = some (.int .i64 J.dens.x) := (cell_of_row W _ 2 _ _ _ rK).trans rfl
      have c3 : W.cell? ⟨KB, 3, none⟩ = some (.int .i64 J.dens.y) := (cell_of_row W _ 3 _ _ _ rK).trans rfl
      have c4 : W.cell? ⟨KB, 4, none⟩ = some (.int .i64 J.strong.x) := (cell_of_row W _ 4 _ _ _ rK).trans rfl
      have c5 : W.cell? ⟨KB, 5, none⟩ = some (.int .i64 J.strong.y) := (cell_of_row W _ 5 _ _ _ rK).trans rfl
      have c6 : W.cell? ⟨KB, 6, none⟩ = some (.int .i64 J.spin.x) := (cell_of_row W _ 6 _ _ _ rK).trans rfl
      have c7 : W.cell? ⟨KB, 7, none⟩ = some (.int .i64 J.spin.y) := (cell_of_row W _ 7 _ _ _ rK).trans rfl
      have c8 : W.cell? ⟨KB, 8, none⟩ = some (.int .i64 J.shape.x) := (cell_of_row W _ 8 _ _ _ rK).trans rfl
      have c9 : W.cell? ⟨KB, 9, none⟩ = some (.int .i64 J.shape.y) := (cell_of_row W _ 9 _ _ _ rK).trans rfl
      have c10 : W.cell? ⟨KB, 10, none⟩ = some (.bool J.pile) := (cell_of_row W _ 10 _ _ _ rK).trans rfl
      have d0 : W.cell? ⟨KB + 1, 0, none⟩ = some (.int .i64 F.speed.x) := (cell_of_row W _ 0 _ _ _ rF).trans rfl
      have d1 : W.cell? ⟨KB + 1, 1, none⟩ = some (.int .i64 F.speed.y) := (cell_of_row W _ 1 _ _ _ rF).trans rfl
      have d2 : W.cell? ⟨KB + 1, 2, none⟩ = some (.int .i64 F.slope.x) := (cell_of_row W _ 2 _ _ _ rF).trans rfl
      have d3 : W.cell? ⟨KB + 1, 3, none⟩ = some (.int .i64 F.slope.y) := (cell_of_row W _ 3 _ _ _ rF).trans rfl
      have q0 : W.cell? ⟨KB + 1 + 1, 0, none⟩ = some (.int .i64 s.size) := (cell_of_row W _ 0 _ _ _ rS).trans rfl
      have q1 : W.cell? ⟨KB + 1 + 1, 1, none⟩ = some (.int .i64 s.dens) := (cell_of_row W _ 1 _ _ _ rS).trans rfl
      have q2 : W.cell? ⟨KB + 1 + 1, 2, none⟩ = some (.int .i64 s.strong) := (cell_of_row W _ 2 _ _ _ rS).trans rfl
      have q3 : W.cell? ⟨KB + 1 + 1, 3, none⟩ = some (.int .i64 s.spin) := (cell_of_row W _ 3 _ _ _ rS).trans rfl
      have q4 : W.cell? ⟨KB + 1 + 1, 4, none⟩ = some (.int .i64 s.shape) := (cell_of_row W _ 4 _ _ _ rS).trans rfl
      have q5 : W.cell? ⟨KB + 1 + 1, 5, none⟩ = some (.bool s.pile) := (cell_of_row W _ 5 _ _ _ rS).trans rfl
      have q6 : W.cell? ⟨KB + 1 + 1, 6, none⟩ = some (.int .i64 s.speed) := (cell_of_row W _ 6 _ _ _ rS).trans rfl
      have q7 : W.cell? ⟨KB + 1 + 1, 7, none⟩ = some (.int .i64 s.slope) := (cell_of_row W _ 7 _ _ _ rS).trans rfl
      have u0 : W.cell? ⟨OB, 0, none⟩ = some (.int .i64 k.size.x) := (cell_of_row W _ 0 _ _ _ rk).trans rfl
      have u1 : W.cell? ⟨OB, 1, none⟩ = some (.int .i64 k.size.y) := (cell_of_row W _ 1 _ _ _ rk).trans rfl
      have u2 : W.cell? ⟨OB, 2, none⟩ = some (.int .i64 k.dens.x) := (cell_of_row W _ 2 _ _ _ rk).trans rfl
      have u3 : W.cell? ⟨OB, 3, none⟩ = some (.int .i64 k.dens.y) := (cell_of_row W _ 3 _ _ _ rk).trans rfl
      have u4 : W.cell? ⟨OB, 4, none⟩ = some (.int .i64 k.strong.x) := (cell_of_row W _ 4 _ _ _ rk).trans rfl
      have u5 : W.cell? ⟨OB, 5, none⟩ = some (.int .i64 k.strong.y) := (cell_of_row W _ 5 _ _ _ rk).trans rfl
      have u6 : W.cell? ⟨OB, 6, none⟩ = some (.int .i64 k.spin.x) := (cell_of_row W _ 6 _ _ _ rk).trans rfl
      have u7 : W.cell? ⟨OB, 7, none⟩ = some (.int .i64 k.spin.y) := (cell_of_row W _ 7 _ _ _ rk).trans rfl
      have u8 : W.cell? ⟨OB, 8, none⟩ = some (.int .i64 k.shape.x) := (cell_of_row W _ 8 _ _ _ rk).trans rfl
      have u9 : W.cell? ⟨OB, 9, none⟩ = some (.int .i64 k.shape.y) := (cell_of_row W _ 9 _ _ _ rk).trans rfl
      have u10 : W.cell? ⟨OB, 10, none⟩ = some (.bool k.pile) := (cell_of_row W _ 10 _ _ _ rk).trans rfl
      have v0 : W.cell? ⟨OB + 1, 0, none⟩ = some (.int .i64 f.speed.x) := (cell_of_row W _ 0 _ _ _ rf).trans rfl
      have v1 : W.cell? ⟨OB + 1, 1, none⟩ = some (.int .i64 f.speed.y) := (cell_of_row W _ 1 _ _ _ rf).trans rfl
      have v2 : W.cell? ⟨OB + 1, 2, none⟩ = some (.int .i64 f.slope.x) := (cell_of_row W _ 2 _ _ _ rf).trans rfl
      have v3 : W.cell? ⟨OB + 1, 3, none⟩ = some (.int .i64 f.slope.y) := (cell_of_row W _ 3 _ _ _ rf).trans rfl
      clear rK rF rS rk rf
      have hflags : b2.toNat ≤ 1 ∧ b8.toNat ≤ 1 := ⟨Bool.toNat_le _, Bool.toNat_le _⟩
      simp only [List.getD_cons_zero, List.getD_cons_succ] at g0 f0 f1 f2 f3 f4 f5 f6 f7 f8 f9 f10 f11 f12 f13 f14 f15 f16 f17 f18 f19
      replace hB := Go.Lib.hid hB
      replace hi := Go.Lib.hid hi
      replace g0 := Go.Lib.hid g0
      replace f0 := Go.Lib.hid f0
      replace f1 := Go.Lib.hid f1
      replace f2 := Go.Lib.hid f2
      replace f3 := Go.Lib.hid f3
      replace f4 := Go.Lib.hid f4
      replace f5 := Go.Lib.hid f5
      replace f6 := Go.Lib.hid f6
      replace f7 := Go.Lib.hid f7
      replace f8 := Go.Lib.hid f8
      replace f9 := Go.Lib.hid f9
      replace f10 := Go.Lib.hid f10
      replace f11 := Go.Lib.hid f11
      replace f12 := Go.Lib.hid f12
      replace f13 := Go.Lib.hid f13
      replace f14 := Go.Lib.hid f14
      replace f15 := Go.Lib.hid f15
      replace f16 := Go.Lib.hid f16
      replace f17 := Go.Lib.hid f17
      replace f18 := Go.Lib.hid f18
      replace f19 := Go.Lib.hid f19
      rcases ii with _ | _ | _ | _ | _ | _ | _ | _ | _ | _ | _ | _ | _ | _ | _ | _ | _ | _ | _ | _ | ii
      · refine wpOp_step rfl (fun K hK => ?_)
        simp only [sets, List.foldl_cons, List.foldl_nil, List.set_cons_succ, List.set_cons_zero]
        go_simp
        exact hK _ _ ⟨s14, s15, s16, s17, (.slice lp nl lc), s41, s42, s43, s44, s45, s46, s47, s48, s49, s50, s51, s52, s53, s54, s55, by kernel_rfl, hB.out, g0.out, fun _ => rfl, f1.out, f2.out, f3.out, f4.out, f5.out, f6.out, f7.out, f8.out, f9.out, f10.out, f11.out, f12.out, f13.out, f14.out, f15.out, f16.out, f17.out, f18.out, f19.out⟩
      · refine wpOp_step rfl (fun K hK => ?_)
        simp only [sets, List.foldl_cons, List.foldl_nil, List.set_cons_succ, List.set_cons_zero]
        go_simp
        exact hK _ _ ⟨s14, s15, s16, s17, s40, (.pointer (some ⟨b, 0, none⟩)), s42, s43, s44, s45, s46, s47, s48, s49, s50, s51, s52, s53, s54, s55, by kernel_rfl, hB.out, g0.out, f0.out, fun _ => rfl, f2.out, f3.out, f4.out, f5.out, f6.out, f7.out, f8.out, f9.out, f10.out, f11.out, f12.out, f13.out, f14.out, f15.out, f16.out, f17.out, f18.out, f19.out⟩
      · simp only [flsDeps, List.getD_cons_zero, List.getD_cons_succ, List.all_cons, List.all_nil, Bool.and_true] at hr
        have hd1 := hr
        obtain rfl := f1.out hd1
        have hi := hi.out
        simp only [List.getElem?_cons_zero, List.getElem?_cons_succ, Option.some.injEq] at hi
        subst hi
        refine wpOp_step rfl (fun K hK => ?_)
        simp only [sets, List.foldl_cons, List.foldl_nil, List.set_cons_succ, List.set_cons_zero]
        go_simp
        refine (LayersOf_y b (16 + (20 * false.toNat + 14 * b8.toNat)) W (by have := hflags; simp only [Bool.toNat_false] at *; omega) g0.out).mono ?_
        rintro _ W6 ⟨y, lv, ls, rfl, ho, hn, hall, rfl, hr⟩
        exact hK _ _ ⟨s14, s15, s16, s17, s40, (.pointer (some ⟨b, 0, none⟩)), (lv), s43, s44, s45, s46, s47, s48, s49, s50, s51, s52, s53, s54, s55, by kernel_rfl, hB.out.trans (y.grew.mono (by omega)), (hr.mono (by simp only [List.set_cons_succ, List.set_cons_zero, List.getD_cons_zero, List.getD_cons_succ, Bool.toNat_true, Bool.toNat_false]; omega)), f0.out, f1.out, (fun _ => ⟨lv, ls, rfl, ⟨hn, hall⟩, owns_base ho (by omega)⟩), (fun h => by obtain ⟨g, lv, ls, e, h1, h2, h3, h4, ho⟩ := f3.out h; exact ⟨g, lv, ls, e, h1, Nat.lt_of_lt_of_le h2 y.size, y.row h3 h2 (by omega), h4, owns_belowX ho (by omega) y.grew⟩), f4.out, f5.out, f6.out, f7.out, f8.out, (fun h => by obtain ⟨g, x, hx, e, h1, h2, h3⟩ := f9.out h; exact ⟨g, x, hx, e, h1, Nat.lt_of_lt_of_le h2 y.size, y.row h3 h2 (by omega)⟩), f10.out, f11.out, (fun h => by obtain ⟨g, e, h1, h2, h3⟩ := f12.out h; exact ⟨g, e, h1, Nat.lt_of_lt_of_le h2 y.size, y.row h3 h2 (by omega)⟩), f13.out, f14.out, (fun h => by obtain ⟨g, e, h1, h2, h3⟩ := f15.out h; exact ⟨g, e, h1, Nat.lt_of_lt_of_le h2 y.size, y.row h3 h2 (by omega)⟩), (fun h => by obtain ⟨g, lv, ls, e, h1, h2, h3, h4, ho⟩ := f16.out h; exact ⟨g, lv, ls, e, h1, Nat.lt_of_lt_of_le h2 y.size, y.row h3 h2 (by omega), h4, owns_belowX ho (by omega) y.grew⟩), (fun h => by obtain ⟨g, x, hx, e, h1, h2, h3⟩ := f17.out h; exact ⟨g, x, hx, e, h1, Nat.lt_of_lt_of_le h2 y.size, y.row h3 h2 (by omega)⟩), (fun h => by obtain ⟨g, e, h1, h2, h3⟩ := f18.out h; exact ⟨g, e, h1, Nat.lt_of_lt_of_le h2 y.size, y.row h3 h2 (by omega)⟩), (fun h => by obtain ⟨g, e, h1, h2, h3⟩ := f19.out h; exact ⟨g, e, h1, Nat.lt_of_lt_of_le h2 y.size, y.row h3 h2 (by omega)⟩)⟩
      · simp only [flsDeps, List.getD_cons_zero, List.getD_cons_succ, List.all_cons, List.all_nil, Bool.and_true, Bool.and_eq_true] at hr
        obtain ⟨hd0, hd2⟩ := hr
        obtain rfl := f0.out hd0
        obtain ⟨lv, ls, rfl, h1, ho⟩ := f2.out hd2
        obtain ⟨q2, d2, rfl⟩ := owns_form ho
        refine wpOp_step rfl (fun K hK => ?_)
        simp only [sets, List.foldl_cons, List.foldl_nil, List.set_cons_succ, List.set_cons_zero]
        go_simp
        exact hK _ _ ⟨s14, s15, s16, s17, (.slice lp nl lc), s41, (.slice q2 ls.length d2), (.slice (some ⟨W.heap.size, 0, none⟩) 2 2), s44, s45, s46, s47, s48, s49, s50, s51, s52, s53, s54, s55, by kernel_rfl, hB.out.alloc (by omega) _, (g0.out.alloc _), f0.out, f1.out, (fun _ => ⟨_, ls, rfl, h1, ho.alloc _⟩), (fun _ => ⟨W.heap.size, _, ls, rfl, by omega, by simp only [World.size_alloc]; omega, heap_alloc_new _ _, h1, ho.alloc _⟩), f4.out, f5.out, f6.out, f7.out, f8.out, (fun h => by obtain ⟨g, x, hx, e, h1, h2, h3⟩ := f9.out h; exact ⟨g, x, hx, e, h1, by simp only [World.size_alloc]; omega, (heap_alloc_old _ _ h2).trans h3⟩), f10.out, f11.out, (fun h => by obtain ⟨g, e, h1, h2, h3⟩ := f12.out h; exact ⟨g, e, h1, by simp only [World.size_alloc]; omega, (heap_alloc_old _ _ h2).trans h3⟩), f13.out, f14.out, (fun h => by obtain ⟨g, e, h1, h2, h3⟩ := f15.out h; exact ⟨g, e, h1, by simp only [World.size_alloc]; omega, (heap_alloc_old _ _ h2).trans h3⟩), (fun h => by obtain ⟨g, lv, ls, e, h1, h2, h3, h4, ho⟩ := f16.out h; exact ⟨g, lv, ls, e, h1, by simp only [World.size_alloc]; omega, (heap_alloc_old _ _ h2).trans h3, h4, ho.alloc _⟩), (fun h => by obtain ⟨g, x, hx, e, h1, h2, h3⟩ := f17.out h; exact ⟨g, x, hx, e, h1, by simp only [World.size_alloc]; omega, (heap_alloc_old _ _ h2).trans h3⟩), (fun h => by obtain ⟨g, e, h1, h2, h3⟩ := f18.out h; exact ⟨g, e, h1, by simp only [World.size_alloc]; omega, (heap_alloc_old _ _ h2).trans h3⟩), (fun h => by obtain ⟨g, e, h1, h2, h3⟩ := f19.out h; exact ⟨g, e, h1, by simp only [World.size_alloc]; omega, (heap_alloc_old _ _ h2).trans h3⟩)⟩
      · refine wpOp_step rfl (fun K hK => ?_)
        simp only [sets, List.foldl_cons, List.foldl_nil, List.set_cons_succ, List.set_cons_zero]
        go_simp
        exact hK _ _ ⟨s14, s15, s16, s17, s40, s41, s42, s43, (.agg #[.int .i64 s.size, .int .i64 s.dens, .int .i64 s.strong, .int .i64 s.spin, .int .i64 s.shape, .bool s.pile, .int .i64 s.speed, .int .i64 s.slope]), s45, s46, s47, s48, s49, s50, s51, s52, s53, s54, s55, by kernel_rfl, hB.out, g0.out, f0.out, f1.out, f2.out, f3.out, fun _ => rfl, f5.out, f6.out, f7.out, f8.out, f9.out, f10.out, f11.out, f12.out, f13.out, f14.out, f15.out, f16.out, f17.out, f18.out, f19.out⟩
      · refine wpOp_step rfl (fun K hK => ?_)
        simp only [sets, List.foldl_cons, List.foldl_nil, List.set_cons_succ, List.set_cons_zero]
        go_simp
        exact hK _ _ ⟨s14, s15, s16, s17, s40, s41, s42, s43, s44, (.pointer (some ⟨b, 0, none⟩)), s46, s47, s48, s49, s50, s51, s52, s53, s54, s55, by kernel_rfl, hB.out, g0.out, f0.out, f1.out, f2.out, f3.out, f4.out, fun _ => rfl, f6.out, f7.out, f8.out, f9.out, f10.out, f11.out, f12.out, f13.out, f14.out, f15.out, f16.out, f17.out, f18.out, f19.out⟩
      · refine wpOp_step rfl (fun K hK => ?_)
        simp only [sets, List.foldl_cons, List.foldl_nil, List.set_cons_succ, List.set_cons_zero]
        go_simp
        exact hK _ _ ⟨s14, s15, s16, s17, s40, s41, s42, s43, s44, s45, (.agg #[.int .i64 k.size.x, .int .i64 k.size.y, .int .i64 k.dens.x, .int .i64 k.dens.y, .int .i64 k.strong.x, .int .i64 k.strong.y, .int .i64 k.spin.x, .int .i64 k.spin.y, .int .i64 k.shape.x, .int .i64 k.shape.y, .bool k.pile]), s47, s48, s49, s50, s51, s52, s53, s54, s55, by kernel_rfl, hB.out, g0.out, f0.out, f1.out, f2.out, f3.out, f4.out, f5.out, fun _ => rfl, f7.out, f8.out, f9.out, f10.out, f11.out, f12.out, f13.out, f14.out, f15.out, f16.out, f17.out, f18.out, f19.out⟩
      · refine wpOp_step rfl (fun K hK => ?_)
        simp only [sets, List.foldl_cons, List.foldl_nil, List.set_cons_succ, List.set_cons_zero]
        go_simp
        exact hK _ _ ⟨s14, s15, s16, s17, s40, s41, s42, s43, s44, s45, s46, (.agg #[.int .i64 f.speed.x, .int .i64 f.speed.y, .int .i64 f.slope.x, .int .i64 f.slope.y]), s48, s49, s50, s51, s52, s53, s54, s55, by kernel_rfl, hB.out, g0.out, f0.out, f1.out, f2.out, f3.out, f4.out, f5.out, f6.out, fun _ => rfl, f8.out, f9.out, f10.out, f11.out, f12.out, f13.out, f14.out, f15.out, f16.out, f17.out, f18.out, f19.out⟩
      · simp only [flsDeps, List.getD_cons_zero, List.getD_cons_succ, List.all_cons, List.all_nil, Bool.and_true, Bool.and_eq_true] at hr
        obtain ⟨hd5, hd6, hd7⟩ := hr
        obtain rfl := f5.out hd5
        obtain rfl := f6.out hd6
        obtain rfl := f7.out hd7
        have hi := hi.out
        simp only [List.getElem?_cons_zero, List.getElem?_cons_succ, Option.some.injEq] at hi
        subst hi
        refine wpOp_step rfl (fun K hK => ?_)
        simp only [sets, List.foldl_cons, List.foldl_nil, List.set_cons_succ, List.set_cons_zero]
        go_simp
        refine (StoneOf_y b (16 + (20 * b2.toNat + 14 * false.toNat)) k f W (by have := hflags; simp only [Bool.toNat_false] at *; omega) hok g0.out).mono ?_
        rintro _ W6 ⟨y, x, rfl, hin, rfl, hr⟩
        exact hK _ _ ⟨s14, s15, s16, s17, s40, s41, s42, s43, s44, (.pointer (some ⟨b, 0, none⟩)), (.agg #[.int .i64 k.size.x, .int .i64 k.size.y, .int .i64 k.dens.x, .int .i64 k.dens.y, .int .i64 k.strong.x, .int .i64 k.strong.y, .int .i64 k.spin.x, .int .i64 k.spin.y, .int .i64 k.shape.x, .int .i64 k.shape.y, .bool k.pile]), (.agg #[.int .i64 f.speed.x, .int .i64 f.speed.y, .int .i64 f.slope.x, .int .i64 f.slope.y]), (.agg x.vals), s49, s50, s51, s52, s53, s54, s55, by kernel_rfl, hB.out.trans (y.grew.mono (by omega)), (hr.mono (by simp only [List.set_cons_succ, List.set_cons_zero, List.getD_cons_zero, List.getD_cons_succ, Bool.toNat_true, Bool.toNat_false]; omega)), f0.out, f1.out, (fun h => by obtain ⟨lv, ls, e, h1, ho⟩ := f2.out h; exact ⟨lv, ls, e, h1, owns_belowX ho (by omega) y.grew⟩), (fun h => by obtain ⟨g, lv, ls, e, h1, h2, h3, h4, ho⟩ := f3.out h; exact ⟨g, lv, ls, e, h1, Nat.lt_of_lt_of_le h2 y.size, y.row h3 h2 (by omega), h4, owns_belowX ho (by omega) y.grew⟩), f4.out, f5.out, f6.out, f7.out, (fun _ => ⟨x, hin, rfl⟩), (fun h => by obtain ⟨g, x, hx, e, h1, h2, h3⟩ := f9.out h; exact ⟨g, x, hx, e, h1, Nat.lt_of_lt_of_le h2 y.size, y.row h3 h2 (by omega)⟩), f10.out, f11.out, (fun h => by obtain ⟨g, e, h1, h2, h3⟩ := f12.out h; exact ⟨g, e, h1, Nat.lt_of_lt_of_le h2 y.size, y.row h3 h2 (by omega)⟩), f13.out, f14.out, (fun h => by obtain ⟨g, e, h1, h2, h3⟩ := f15.out h; exact ⟨g, e, h1, Nat.lt_of_lt_of_le h2 y.size, y.row h3 h2 (by omega)⟩), (fun h => by obtain ⟨g, lv, ls, e, h1, h2, h3, h4, ho⟩ := f16.out h; exact ⟨g, lv, ls, e, h1, Nat.lt_of_lt_of_le h2 y.size, y.row h3 h2 (by omega), h4, owns_belowX ho (by omega) y.grew⟩), (fun h => by obtain ⟨g, x, hx, e, h1, h2, h3⟩ := f17.out h; exact ⟨g, x, hx, e, h1, Nat.lt_of_lt_of_le h2 y.size, y.row h3 h2 (by omega)⟩), (fun h => by obtain ⟨g, e, h1, h2, h3⟩ := f18.out h; exact ⟨g, e, h1, Nat.lt_of_lt_of_le h2 y.size, y.row h3 h2 (by omega)⟩), (fun h => by obtain ⟨g, e, h1, h2, h3⟩ := f19.out h; exact ⟨g, e, h1, Nat.lt_of_lt_of_le h2 y.size, y.row h3 h2 (by omega)⟩)⟩
      · simp only [flsDeps, List.getD_cons_zero, List.getD_cons_succ, List.all_cons, List.all_nil, Bool.and_true, Bool.and_eq_true] at hr
        obtain ⟨hd4, hd8⟩ := hr
        obtain rfl := f4.out hd4
        obtain ⟨x, hx, rfl⟩ := f8.out hd8
        refine wpOp_step rfl (fun K hK => ?_)
        simp only [sets, List.foldl_cons, List.foldl_nil, List.set_cons_succ, List.set_cons_zero]
        unfold StoneR.vals
        go_simp
        exact hK _ _ ⟨s14, s15, s16, s17, s40, s41, s42, s43, (.agg #[.int .i64 s.size, .int .i64 s.dens, .int .i64 s.strong, .int .i64 s.spin, .int .i64 s.shape, .bool s.pile, .int .i64 s.speed, .int .i64 s.slope]), s45, s46, s47, (.agg x.vals), (.slice (some ⟨W.heap.size, 0, none⟩) 2 2), s50, s51, s52, s53, s54, s55, by kernel_rfl, hB.out.alloc (by omega) _, (g0.out.alloc _), f0.out, f1.out, (fun h => by obtain ⟨lv, ls, e, h1, ho⟩ := f2.out h; exact ⟨lv, ls, e, h1, ho.alloc _⟩), (fun h => by obtain ⟨g, lv, ls, e, h1, h2, h3, h4, ho⟩ := f3.out h; exact ⟨g, lv, ls, e, h1, by simp only [World.size_alloc]; omega, (heap_alloc_old _ _ h2).trans h3, h4, ho.alloc _⟩), f4.out, f5.out, f6.out, f7.out, (fun _ => ⟨x, hx, rfl⟩), (fun _ => ⟨W.heap.size, x, hx, rfl, by omega, by simp only [World.size_alloc]; omega, heap_alloc_new _ _⟩), f10.out, f11.out, (fun h => by obtain ⟨g, e, h1, h2, h3⟩ := f12.out h; exact ⟨g, e, h1, by simp only [World.size_alloc]; omega, (heap_alloc_old _ _ h2).trans h3⟩), f13.out, f14.out, (fun h => by obtain ⟨g, e, h1, h2, h3⟩ := f15.out h; exact ⟨g, e, h1, by simp only [World.size_alloc]; omega, (heap_alloc_old _ _ h2).trans h3⟩), (fun h => by obtain ⟨g, lv, ls, e, h1, h2, h3, h4, ho⟩ := f16.out h; exact ⟨g, lv, ls, e, h1, by simp only [World.size_alloc]; omega, (heap_alloc_old _ _ h2).trans h3, h4, ho.alloc _⟩), (fun h => by obtain ⟨g, x, hx, e, h1, h2, h3⟩ := f17.out h; exact ⟨g, x, hx, e, h1, by simp only [World.size_alloc]; omega, (heap_alloc_old _ _ h2).trans h3⟩), (fun h => by obtain ⟨g, e, h1, h2, h3⟩ := f18.out h; exact ⟨g, e, h1, by simp only [World.size_alloc]; omega, (heap_alloc_old _ _ h2).trans h3⟩), (fun h => by obtain ⟨g, e, h1, h2, h3⟩ := f19.out h; exact ⟨g, e, h1, by simp only [World.size_alloc]; omega, (heap_alloc_old _ _ h2).trans h3⟩)⟩
      · refine wpOp_step rfl (fun K hK => ?_)
        simp only [sets, List.foldl_cons, List.foldl_nil, List.set_cons_succ, List.set_cons_zero]
        go_simp
        exact hK _ _ ⟨s14, s15, s16, s17, s40, s41, s42, s43, s44, s45, s46, s47, s48, s49, (.agg #[.int .i64 J.size.x, .int .i64 J.size.y, .int .i64 J.dens.x, .int .i64 J.dens.y, .int .i64 J.strong.x, .int .i64 J.strong.y, .int .i64 J.spin.x, .int .i64 J.spin.y, .int .i64 J.shape.x, .int .i64 J.shape.y, .bool J.pile]), s51, s52, s53, s54, s55, by kernel_rfl, hB.out, g0.out, f0.out, f1.out, f2.out, f3.out, f4.out, f5.out, f6.out, f7.out, f8.out, f9.out, fun _ => rfl, f11.out, f12.out, f13.out, f14.out, f15.out, f16.out, f17.out, f18.out, f19.out⟩
      · refine wpOp_step rfl (fun K hK => ?_)
        simp only [sets, List.foldl_cons, List.foldl_nil, List.set_cons_succ, List.set_cons_zero]
        go_simp
        exact hK _ _ ⟨s14, s15, s16, s17, s40, s41, s42, s43, s44, s45, s46, s47, s48, s49, s50, (.agg #[.int .i64 k.size.x, .int .i64 k.size.y, .int .i64 k.dens.x, .int .i64 k.dens.y, .int .i64 k.strong.x, .int .i64 k.strong.y, .int .i64 k.spin.x, .int .i64 k.spin.y, .int .i64 k.shape.x, .int .i64 k.shape.y, .bool k.pile]), s52, s53, s54, s55, by kernel_rfl, hB.out, g0.out, f0.out, f1.out, f2.out, f3.out, f4.out, f5.out, f6.out, f7.out, f8.out, f9.out, f10.out, fun _ => rfl, f12.out, f13.out, f14.out, f15.out, f16.out, f17.out, f18.out, f19.out⟩
      · simp only [flsDeps, List.getD_cons_zero, List.getD_cons_succ, List.all_cons, List.all_nil, Bool.and_true, Bool.and_eq_true] at hr
        obtain ⟨hd10, hd11⟩ := hr
        obtain rfl := f10.out hd10
        obtain rfl := f11.out hd11
        refine wpOp_step rfl (fun K hK => ?_)
        simp only [sets, List.foldl_cons, List.foldl_nil, List.set_cons_succ, List.set_cons_zero]
        go_simp
        exact hK _ _ ⟨s14, s15, s16, s17, s40, s41, s42, s43, s44, s45, s46, s47, s48, s49, (.agg #[.int .i64 J.size.x, .int .i64 J.size.y, .int .i64 J.dens.x, .int .i64 J.dens.y, .int .i64 J.strong.x, .int .i64 J.strong.y, .int .i64 J.spin.x, .int .i64 J.spin.y, .int .i64 J.shape.x, .int .i64 J.shape.y, .bool J.pile]), (.agg #[.int .i64 k.size.x, .int .i64 k.size.y, .int .i64 k.dens.x, .int .i64 k.dens.y, .int .i64 k.strong.x, .int .i64 k.strong.y, .int .i64 k.spin.x, .int .i64 k.spin.y, .int .i64 k.shape.x, .int .i64 k.shape.y, .bool k.pile]), (.slice (some ⟨W.heap.size, 0, none⟩) 2 2), s53, s54, s55, by kernel_rfl, hB.out.alloc (by omega) _, (g0.out.alloc _), f0.out, f1.out, (fun h => by obtain ⟨lv, ls, e, h1, ho⟩ := f2.out h; exact ⟨lv, ls, e, h1, ho.alloc _⟩), (fun h => by obtain ⟨g, lv, ls, e, h1, h2, h3, h4, ho⟩ := f3.out h; exact ⟨g, lv, ls, e, h1, by simp only [World.size_alloc]; omega, (heap_alloc_old _ _ h2).trans h3, h4, ho.alloc _⟩), f4.out, f5.out, f6.out, f7.out, f8.out, (fun h => by obtain ⟨g, x, hx, e, h1, h2, h3⟩ := f9.out h; exact ⟨g, x, hx, e, h1, by simp only [World.size_alloc]; omega, (heap_alloc_old _ _ h2).trans h3⟩), f10.out, f11.out, (fun _ => ⟨W.heap.size, rfl, by omega, by simp only [World.size_alloc]; omega, heap_alloc_new _ _⟩), f13.out, f14.out, (fun h => by obtain ⟨g, e, h1, h2, h3⟩ := f15.out h; exact ⟨g, e, h1, by simp only [World.size_alloc]; omega, (heap_alloc_old _ _ h2).trans h3⟩), (fun h => by obtain ⟨g, lv, ls, e, h1, h2, h3, h4, ho⟩ := f16.out h; exact ⟨g, lv, ls, e, h1, by simp only [World.size_alloc]; omega, (heap_alloc_old _ _ h2).trans h3, h4, ho.alloc _⟩), (fun h => by obtain ⟨g, x, hx, e, h1, h2, h3⟩ := f17.out h; exact ⟨g, x, hx, e, h1, by simp only [World.size_alloc]; omega, (heap_alloc_old _ _ h2).trans h3⟩), (fun h => by obtain ⟨g, e, h1, h2, h3⟩ := f18.out h; exact ⟨g, e, h1, by simp only [World.size_alloc]; omega, (heap_alloc_old _ _ h2).trans h3⟩), (fun h => by obtain ⟨g, e, h1, h2, h3⟩ := f19.out h; exact ⟨g, e, h1, by simp only [World.size_alloc]; omega, (heap_alloc_old _ _ h2).trans h3⟩)⟩
      · refine wpOp_step rfl (fun K hK => ?_)
        simp only [sets, List.foldl_cons, List.foldl_nil, List.set_cons_succ, List.set_cons_zero]
        go_simp
        exact hK _ _ ⟨s14, s15, s16, s17, s40, s41, s42, s43, s44, s45, s46, s47, s48, s49, s50, s51, s52, (.agg #[.int .i64 F.speed.x, .int .i64 F.speed.y, .int .i64 F.slope.x, .int .i64 F.slope.y]), s54, s55, by kernel_rfl, hB.out, g0.out, f0.out, f1.out, f2.out, f3.out, f4.out, f5.out, f6.out, f7.out, f8.out, f9.out, f10.out, f11.out, f12.out, fun _ => rfl, f14.out, f15.out, f16.out, f17.out, f18.out, f19.out⟩
      · refine wpOp_step rfl (fun K hK => ?_)
        simp only [sets, List.foldl_cons, List.foldl_nil, List.set_cons_succ, List.set_cons_zero]
        go_simp
        exact hK _ _ ⟨s14, s15, s16, s17, s40, s41, s42, s43, s44, s45, s46, s47, s48, s49, s50, s51, s52, s53, (.agg #[.int .i64 f.speed.x, .int .i64 f.speed.y, .int .i64 f.slope.x, .int .i64 f.slope.y]), s55, by kernel_rfl, hB.out, g0.out, f0.out, f1.out, f2.out, f3.out, f4.out, f5.out, f6.out, f7.out, f8.out, f9.out, f10.out, f11.out, f12.out, f13.out, fun _ => rfl, f15.out, f16.out, f17.out, f18.out, f19.out⟩
      · simp only [flsDeps, List.getD_cons_zero, List.getD_cons_succ, List.all_cons, List.all_nil, Bool.and_true, Bool.and_eq_true] at hr
        obtain ⟨hd13, hd14⟩ := hr
        obtain rfl := f13.out hd13
        obtain rfl := f14.out hd14
        refine wpOp_step rfl (fun K hK => ?_)
        simp only [sets, List.foldl_cons, List.foldl_nil, List.set_cons_succ, List.set_cons_zero]
        go_simp
        exact hK _ _ ⟨s14, s15, s16, s17, s40, s41, s42, s43, s44, s45, s46, s47, s48, s49, s50, s51, s52, (.agg #[.int .i64 F.speed.x, .int .i64 F.speed.y, .int .i64 F.slope.x, .int .i64 F.slope.y]), (.agg #[.int .i64 f.speed.x, .int .i64 f.speed.y, .int .i64 f.slope.x, .int .i64 f.slope.y]), (.slice (some ⟨W.heap.size, 0, none⟩) 2 2), by kernel_rfl, hB.out.alloc (by omega) _, (g0.out.alloc _), f0.out, f1.out, (fun h => by obtain ⟨lv, ls, e, h1, ho⟩ := f2.out h; exact ⟨lv, ls, e, h1, ho.alloc _⟩), (fun h => by obtain ⟨g, lv, ls, e, h1, h2, h3, h4, ho⟩ := f3.out h; exact ⟨g, lv, ls, e, h1, by simp only [World.size_alloc]; omega, (heap_alloc_old _ _ h2).trans h3, h4, ho.alloc _⟩), f4.out, f5.out, f6.out, f7.out, f8.out, (fun h => by obtain ⟨g, x, hx, e, h1, h2, h3⟩ := f9.out h; exact ⟨g, x, hx, e, h1, by simp only [World.size_alloc]; omega, (heap_alloc_old _ _ h2).trans h3⟩), f10.out, f11.out, (fun h => by obtain ⟨g, e, h1, h2, h3⟩ := f12.out h; exact ⟨g, e, h1, by simp only [World.size_alloc]; omega, (heap_alloc_old _ _ h2).trans h3⟩), f13.out, f14.out, (fun _ => ⟨W.heap.size, rfl, by omega, by simp only [World.size_alloc]; omega, heap_alloc_new _ _⟩), (fun h => by obtain ⟨g, lv, ls, e, h1, h2, h3, h4, ho⟩ := f16.out h; exact ⟨g, lv, ls, e, h1, by simp only [World.size_alloc]; omega, (heap_alloc_old _ _ h2).trans h3, h4, ho.alloc _⟩), (fun h => by obtain ⟨g, x, hx, e, h1, h2, h3⟩ := f17.out h; exact ⟨g, x, hx, e, h1, by simp only [World.size_alloc]; omega, (heap_alloc_old _ _ h2).trans h3⟩), (fun h => by obtain ⟨g, e, h1, h2, h3⟩ := f18.out h; exact ⟨g, e, h1, by simp only [World.size_alloc]; omega, (heap_alloc_old _ _ h2).trans h3⟩), (fun h => by obtain ⟨g, e, h1, h2, h3⟩ := f19.out h; exact ⟨g, e, h1, by simp only [World.size_alloc]; omega, (heap_alloc_old _ _ h2).trans h3⟩)⟩
      · simp only [flsDeps, List.getD_cons_zero, List.getD_cons_succ, List.all_cons, List.all_nil, Bool.and_true] at hr
        have hd3 := hr
        obtain ⟨g, lv, ls, rfl, h1, h2, h3, h4, ho⟩ := f3.out hd3
        refine wpOp_step rfl (fun K hK => ?_)
        simp only [sets, List.foldl_cons, List.foldl_nil, List.set_cons_succ, List.set_cons_zero]
        go_simp
        exact hK _ _ ⟨(.slice (some ⟨g, 0, none⟩) 2 2), s15, s16, s17, s40, s41, s42, (.slice (some ⟨g, 0, none⟩) 2 2), s44, s45, s46, s47, s48, s49, s50, s51, s52, s53, s54, s55, by kernel_rfl, hB.out, g0.out, f0.out, f1.out, f2.out, (fun _ => ⟨g, lv, ls, rfl, h1, h2, h3, h4, ho⟩), f4.out, f5.out, f6.out, f7.out, f8.out, f9.out, f10.out, f11.out, f12.out, f13.out, f14.out, f15.out, (fun _ => ⟨g, lv, ls, rfl, h1, h2, h3, h4, ho⟩), f17.out, f18.out, f19.out⟩
      · simp only [flsDeps, List.getD_cons_zero, List.getD_cons_succ, List.all_cons, List.all_nil, Bool.and_true] at hr
        have hd9 := hr
        obtain ⟨g, x, hx, rfl, h1, h2, h3⟩ := f9.out hd9
        refine wpOp_step rfl (fun K hK => ?_)
        simp only [sets, List.foldl_cons, List.foldl_nil, List.set_cons_succ, List.set_cons_zero]
        go_simp
        exact hK _ _ ⟨s14, (.slice (some ⟨g, 0, none⟩) 2 2), s16, s17, s40, s41, s42, s43, s44, s45, s46, s47, s48, (.slice (some ⟨g, 0, none⟩) 2 2), s50, s51, s52, s53, s54, s55, by kernel_rfl, hB.out, g0.out, f0.out, f1.out, f2.out, f3.out, f4.out, f5.out, f6.out, f7.out, f8.out, (fun _ => ⟨g, x, hx, rfl, h1, h2, h3⟩), f10.out, f11.out, f12.out, f13.out, f14.out, f15.out, f16.out, (fun _ => ⟨g, x, hx, rfl, h1, h2, h3⟩), f18.out, f19.out⟩
      · simp only [flsDeps, List.getD_cons_zero, List.getD_cons_succ, List.all_cons, List.all_nil, Bool.and_true] at hr
        have hd12 := hr
        obtain ⟨g, rfl, h1, h2, h3⟩ := f12.out hd12
        refine wpOp_step rfl (fun K hK => ?_)
        simp only [sets, List.foldl_cons, List.foldl_nil, List.set_cons_succ, List.set_cons_zero]
        go_simp
        exact hK _ _ ⟨s14, s15, (.slice (some ⟨g, 0, none⟩) 2 2), s17, s40, s41, s42, s43, s44, s45, s46, s47, s48, s49, s50, s51, (.slice (some ⟨g, 0, none⟩) 2 2), s53, s54, s55, by kernel_rfl, hB.out, g0.out, f0.out, f1.out, f2.out, f3.out, f4.out, f5.out, f6.out, f7.out, f8.out, f9.out, f10.out, f11.out, (fun _ => ⟨g, rfl, h1, h2, h3⟩), f13.out, f14.out, f15.out, f16.out, f17.out, (fun _ => ⟨g, rfl, h1, h2, h3⟩), f19.out⟩
      · simp only [flsDeps, List.getD_cons_zero, List.getD_cons_succ, List.all_cons, List.all_nil, Bool.and_true] at hr
        have hd15 := hr
        obtain ⟨g, rfl, h1, h2, h3⟩ := f15.out hd15
        refine wpOp_step rfl (fun K hK => ?_)
        simp only [sets, List.foldl_cons, List.foldl_nil, List.set_cons_succ, List.set_cons_zero]
        go_simp
        exact hK _ _ ⟨s14, s15, s16, (.slice (some ⟨g, 0, none⟩) 2 2), s40, s41, s42, s43, s44, s45, s46, s47, s48, s49, s50, s51, s52, s53, s54, (.slice (some ⟨g, 0, none⟩) 2 2), by kernel_rfl, hB.out, g0.out, f0.out, f1.out, f2.out, f3.out, f4.out, f5.out, f6.out, f7.out, f8.out, f9.out, f10.out, f11.out, f12.out, f13.out, f14.out, (fun _ => ⟨g, rfl, h1, h2, h3⟩), f16.out, f17.out, f18.out, (fun _ => ⟨g, rfl, h1, h2, h3⟩)⟩
      · have hi := hi.out; simp at hi
  rintro a4 W4 ⟨g0, g1, g2, g3, lv, ls2, x, ha4, hlo, hown, hx, hB4, r0, r1, r2, r3⟩
  generalize a4.tmps.getD 14 undef = s14 at ha4
  generalize a4.tmps.getD 15 undef = s15 at ha4
  generalize a4.tmps.getD 16 undef = s16 at ha4
  generalize a4.tmps.getD 17 undef = s17 at ha4
  generalize a4.tmps.getD 40 undef = s40 at ha4
  generalize a4.tmps.getD 41 undef = s41 at ha4
  generalize a4.tmps.getD 42 undef = s42 at ha4
  generalize a4.tmps.getD 43 undef = s43 at ha4
  generalize a4.tmps.getD 44 undef = s44 at ha4
  generalize a4.tmps.getD 45 undef = s45 at ha4
  generalize a4.tmps.getD 46 undef = s46 at ha4
  generalize a4.tmps.getD 47 undef = s47 at ha4
  generalize a4.tmps.getD 48 undef = s48 at ha4
  generalize a4.tmps.getD 49 undef = s49 at ha4
  generalize a4.tmps.getD 50 undef = s50 at ha4
  generalize a4.tmps.getD 51 undef = s51 at ha4
  generalize a4.tmps.getD 52 undef = s52 at ha4
  generalize a4.tmps.getD 53 undef = s53 at ha4
  generalize a4.tmps.getD 54 undef = s54 at ha4
  generalize a4.tmps.getD 55 undef = s55 at ha4
  subst ha4
  simp only [sets, List.foldl_cons, List.foldl_nil, List.set_cons_succ, List.set_cons_zero]
  have sB4 := hB4.size
  have hB5 : Below w.heap.size w W4 := ((BelowX.of hnew).trans (hB4.mono (by omega))).below (by omega)
  have hlim4 : LimAt W4 := hlim.on hB5
  have hP4 : VecsAt W4 lp ls := hP.on hB5
  obtain ⟨p2, cc2, rfl, hv2, -⟩ := vecs_of hown
  have hA := airs2_row ⟨lp, lc, ls⟩ ⟨p2, cc2, ls2⟩ r0 hP4 hv2 (by simp only; omega) (by have := hlo.len; simp only; omega)
  have hS := stones2_row s x r1
  have hR := rocks2_row J k r2
  have hF := falls2_row F f r3
  have l0 : g0 < W4.heap.size := hA.1
  have l1 : g1 < W4.heap.size := hS.1
  have l2 : g2 < W4.heap.size := hR.1
  have l3 : g3 < W4.heap.size := hF.1
  have hall : ([⟨lp, lc, ls⟩, ⟨p2, cc2, ls2⟩] : List AirR).length = 2 := rfl
  have hsl : [s, x].length = 2 := rfl
  have hrl : [J, k].length = 2 := rfl
  have hfl : [F, f].length = 2 := rfl
  generalize ([⟨lp, lc, ls⟩, ⟨p2, cc2, ls2⟩] : List AirR) = AL at *
  generalize [s, x] = SL at *
  generalize [J, k] = RL at *
  generalize [F, f] = FL at *
  clear r0 r1 r2 r3 lK lF lS lk lf nK nF nS nk nf rK rF rS rk rf hnew hlim hP hRr hlr hB4 hx hm9 hown hv2 hlo hP4
  replace hA := Go.Lib.hid hA
  replace hS := Go.Lib.hid hS
  replace hR := Go.Lib.hid hR
  replace hF := Go.Lib.hid hF
  go_wp2_with (first | ((first | with_reducible refine wp_region_ext2 (by kernel_rfl) (by kernel_rfl) ?_ | with_reducible refine wp_region_ext (by kernel_rfl) (by kernel_rfl) ?_); (repeat (first | go_big_quiet_step ((first | fail)) | quiet_step ((first | fail)))); refine wpQuiet_nil ?_; rintro _ ⟨yr, rfl⟩; have syr := Ext.size yr; (repeat (first | rw [World.size_alloc] at syr | rw [World.size_setCell] at syr | rw [World.size_drew] at syr))))
  go_loopw [18] (fun s W => ∃ (i : Nat) (x : Ext W4), s = .int .i64 i ∧ W = x.now ∧ i ≤ 2) (fun s _ => 2 - (intOf s).toNat)
  case atStart => exact ⟨0, ⟨W4, Below.refl _ _⟩, rfl, rfl, by omega⟩
  case round =>
    obtain ⟨i, z, rfl, rfl, hi⟩ := hrel
    have xs := z.size
    have sB5 := hB5.size
    by_cases hlt : i < 2
    · have hlt2 : (i : Int) < 2 := by omega
      have ha2 : i < AL.length := by omega
      have hs2 : i < SL.length := by omega
      have hr2 : i < RL.length := by omega
      have hf2 : i < FL.length := by omega
      obtain ⟨a0, hav, h40⟩ := hA.out.2 i ha2
      obtain ⟨q0, q1, q2, q3, q4, q5, q6, q7⟩ := hS.out.2 i hs2
      obtain ⟨u0, u1, u2, u3, u4, u5, u6, u7, u8, u9, u10⟩ := hR.out.2 i hr2
      obtain ⟨v0, v1, v2, v3⟩ := hF.out.2 i hf2
      generalize AL[i] = ai at *
      generalize SL[i] = si at *
      generalize RL[i] = ki at *
      generalize FL[i] = fi at *
      obtain ⟨ap, ac, al⟩ := ai
      simp only at a0 hav h40
      have e1 := fun W (y : Below W4.heap.size W4 W) => Ends_any ap ac al si W (hlim4.on y) (hav.on y)
      have e2 := fun W (y : Below W4.heap.size W4 W) => rEnds_any ap ac al si W (hav.on y) (by omega)
      have b1 := fun W (y : Below W4.heap.size W4 W) => Blows_any ap ac al ki fi W (hlim4.on y) (hav.on y)
      have b2 := fun W (y : Below W4.heap.size W4 W) => rBlows_any ap ac al ki fi W (hav.on y) (by omega)
      have hLen := blowsA_len ki fi h40
      generalize endsV al si = E1 at *
      generalize blowsE al ki fi = E2 at *
      generalize blowsA al ki fi = BL at *
      unfold StoneR.val StoneR.vals RockR.val FallR.val at *
      clear hS hR hF hA ha2 hs2 hr2 hf2 hsl hrl hfl hall ca hlim4
      clear hB5 sB5 sB4 sy1 hlW1 hs0 hRB hl0 hn9
      go_upto_region 11 with (first | ((first | with_reducible refine wp_region_ext2 (by kernel_rfl) (by kernel_rfl) ?_ | with_reducible refine wp_region_ext (by kernel_rfl) (by kernel_rfl) ?_); (repeat (first | go_big_quiet_step ((first | (go_at_call 12; with_reducible exact Calls.ext (e1 _ (by repeat' (first | (with_reducible exact Below.refl _ _) | (with_reducible assumption) | (with_reducible refine Ext.below _ ?_ ?_) | (with_reducible refine Below.on ?_ (by with_reducible assumption) ?_) | (with_reducible refine Below.alloc ?_ ?_ _) | (with_reducible refine Below.drew ?_) | (with_reducible refine Below.setCell ?_ ?_ _) | (with_reducible exact Nat.le_refl _) | omega | (simp; done) | (simp [go_sem]; done) | (simp at *; omega))))) | (go_at_call 13; with_reducible exact Calls.ext (e2 _ (by repeat' (first | (with_reducible exact Below.refl _ _) | (with_reducible assumption) | (with_reducible refine Ext.below _ ?_ ?_) | (with_reducible refine Below.on ?_ (by with_reducible assumption) ?_) | (with_reducible refine Below.alloc ?_ ?_ _) | (with_reducible refine Below.drew ?_) | (with_reducible refine Below.setCell ?_ ?_ _) | (with_reducible exact Nat.le_refl _) | omega | (simp; done) | (simp [go_sem]; done) | (simp at *; omega))))))) | quiet_step ((first | (go_at_call 12; with_reducible exact Calls.ext (e1 _ (by repeat' (first | (with_reducible exact Below.refl _ _) | (with_reducible assumption) | (with_reducible refine Ext.below _ ?_ ?_) | (with_reducible refine Below.on ?_ (by with_reducible assumption) ?_) | (with_reducible refine Below.alloc ?_ ?_ _) | (with_reducible refine Below.drew ?_) | (with_reducible refine Below.setCell ?_ ?_ _) | (with_reducible exact Nat.le_refl _) | omega | (simp; done) | (simp [go_sem]; done) | (simp at *; omega))))) | (go_at_call 13; with_reducible exact Calls.ext (e2 _ (by repeat' (first | (with_reducible exact Below.refl _ _) | (with_reducible assumption) | (with_reducible refine Ext.below _ ?_ ?_) | (with_reducible refine Below.on ?_ (by with_reducible assumption) ?_) | (with_reducible refine Below.alloc ?_ ?_ _) | (with_reducible refine Below.drew ?_) | (with_reducible refine Below.setCell ?_ ?_ _) | (with_reducible exact Nat.le_refl _) | omega | (simp; done) | (simp [go_sem]; done) | (simp at *; omega))))))))); refine wpQuiet_nil ?_; rintro _ ⟨yr, rfl⟩; have syr := Ext.size yr; (repeat (first | rw [World.size_alloc] at syr | rw [World.size_setCell] at syr | rw [World.size_drew] at syr)); have : g0 < yr.now.heap.size := (by omega); have : g0 ≤ yr.now.heap.size := (by omega); have : g0 < yr.now.heap.size + 1 + 1 := (by omega); have : g1 < yr.now.heap.size := (by omega); have : g1 ≤ yr.now.heap.size := (by omega); have : g1 < yr.now.heap.size + 1 + 1 := (by omega); have : g2 < yr.now.heap.size := (by omega); have : g2 ≤ yr.now.heap.size := (by omega); have : g2 < yr.now.heap.size + 1 + 1 := (by omega); have : g3 < yr.now.heap.size := (by omega); have : g3 ≤ yr.now.heap.size := (by omega); have : g3 < yr.now.heap.size + 1 + 1 := (by omega)) | (go_at_call 12; (first | with_reducible refine (Calls.giv2 (e1 _ (by repeat' (first | (with_reducible exact Below.refl _ _) | (with_reducible assumption) | (with_reducible refine Ext.below _ ?_ ?_) | (with_reducible refine Below.on ?_ (by with_reducible assumption) ?_) | (with_reducible refine Below.alloc ?_ ?_ _) | (with_reducible refine Below.drew ?_) | (with_reducible refine Below.setCell ?_ ?_ _) | (with_reducible exact Nat.le_refl _) | omega | (simp; done) | (simp [go_sem]; done) | (simp at *; omega))))).mono ?_ | with_reducible refine (Calls.giv (e1 _ (by repeat' (first | (with_reducible exact Below.refl _ _) | (with_reducible assumption) | (with_reducible refine Ext.below _ ?_ ?_) | (with_reducible refine Below.on ?_ (by with_reducible assumption) ?_) | (with_reducible refine Below.alloc ?_ ?_ _) | (with_reducible refine Below.drew ?_) | (with_reducible refine Below.setCell ?_ ?_ _) | (with_reducible exact Nat.le_refl _) | omega | (simp; done) | (simp [go_sem]; done) | (simp at *; omega))))).mono ?_); rintro _ _ ⟨y1, rfl, rfl⟩; have sy1 := Ext.size y1; (repeat (first | rw [World.size_alloc] at sy1 | rw [World.size_setCell] at sy1 | rw [World.size_drew] at sy1)); have : g0 < y1.now.heap.size := (by omega); have : g0 ≤ y1.now.heap.size := (by omega); have : g0 < y1.now.heap.size + 1 + 1 := (by omega); have : g1 < y1.now.heap.size := (by omega); have : g1 ≤ y1.now.heap.size := (by omega); have : g1 < y1.now.heap.size + 1 + 1 := (by omega); have : g2 < y1.now.heap.size := (by omega); have : g2 ≤ y1.now.heap.size := (by omega); have : g2 < y1.now.heap.size + 1 + 1 := (by omega); have : g3 < y1.now.heap.size := (by omega); have : g3 ≤ y1.now.heap.size := (by omega); have : g3 < y1.now.heap.size + 1 + 1 := (by omega)) | (go_at_call 13; (first | with_reducible refine (Calls.giv2 (e2 _ (by repeat' (first | (with_reducible exact Below.refl _ _) | (with_reducible assumption) | (with_reducible refine Ext.below _ ?_ ?_) | (with_reducible refine Below.on ?_ (by with_reducible assumption) ?_) | (with_reducible refine Below.alloc ?_ ?_ _) | (with_reducible refine Below.drew ?_) | (with_reducible refine Below.setCell ?_ ?_ _) | (with_reducible exact Nat.le_refl _) | omega | (simp; done) | (simp [go_sem]; done) | (simp at *; omega))))).mono ?_ | with_reducible refine (Calls.giv (e2 _ (by repeat' (first | (with_reducible exact Below.refl _ _) | (with_reducible assumption) | (with_reducible refine Ext.below _ ?_ ?_) | (with_reducible refine Below.on ?_ (by with_reducible assumption) ?_) | (with_reducible refine Below.alloc ?_ ?_ _) | (with_reducible refine Below.drew ?_) | (with_reducible refine Below.setCell ?_ ?_ _) | (with_reducible exact Nat.le_refl _) | omega | (simp; done) | (simp [go_sem]; done) | (simp at *; omega))))).mono ?_); rintro _ _ ⟨y2, rfl, rfl⟩; have sy2 := Ext.size y2; (repeat (first | rw [World.size_alloc] at sy2 | rw [World.size_setCell] at sy2 | rw [World.size_drew] at sy2)); have : g0 < y2.now.heap.size := (by omega); have : g0 ≤ y2.now.heap.size := (by omega); have : g0 < y2.now.heap.size + 1 + 1 := (by omega); have : g1 < y2.now.heap.size := (by omega); have : g1 ≤ y2.now.heap.size := (by omega); have : g1 < y2.now.heap.size + 1 + 1 := (by omega); have : g2 < y2.now.heap.size := (by omega); have : g2 ≤ y2.now.heap.size := (by omega); have : g2 < y2.now.heap.size + 1 + 1 := (by omega); have : g3 < y2.now.heap.size := (by omega); have : g3 ≤ y2.now.heap.size := (by omega); have : g3 < y2.now.heap.size + 1 + 1 := (by omega)))
      clear q0 q1 q2 q3 q4 q5 q6 q7 e1 e2
      refine wp_tell (fun a X a' W => ∃ (q : Option Addr) (c : Nat), Below W4.heap.size W4 W ∧ V3At W q (v3s BL) ∧ a' = sets a [(25, .slice q (v3s BL).length c), (26, .int .i64 E2), (86, a'.tmps.getD 86 undef), (87, a'.tmps.getD 87 undef), (88, a'.tmps.getD 88 undef), (89, a'.tmps.getD 89 undef), (90, a'.tmps.getD 90 undef), (91, a'.tmps.getD 91 undef), (92, a'.tmps.getD 92 undef), (93, a'.tmps.getD 93 undef), (94, a'.tmps.getD 94 undef), (95, a'.tmps.getD 95 undef), (96, a'.tmps.getD 96 undef), (97, a'.tmps.getD 97 undef), (98, a'.tmps.getD 98 undef), (99, a'.tmps.getD 99 undef), (100, a'.tmps.getD 100 undef), (101, a'.tmps.getD 101 undef)]) ?_ ?_
      focus
        (first | with_reducible refine wp_region_ext2_heads 12 (by kernel_rfl) (by kernel_rfl) ?_ | with_reducible refine wp_region_ext_heads 12 (by kernel_rfl) (by kernel_rfl) ?_)
        simp only [List.take_succ_cons, List.take_zero, List.length_cons, List.length_nil, Nat.reduceAdd, Nat.reduceSub]
        repeat (first | go_big_quiet_step (fail) | quiet_step (fail))
        refine wpQuiet_nil ?_
        rintro _ ⟨yr, rfl⟩
        have syr := Ext.size yr
        refine wpAny_ready (rs := [12]) (by kernel_rfl) (by simp) ?_
        refine AllReady.cons rfl (fun K hK => ?_) AllReady.nil
        go_simp
        refine (b1 _ (by repeat' (first | (with_reducible exact Below.refl _ _) | (with_reducible assumption) | (with_reducible refine Ext.below _ ?_ ?_) | (with_reducible refine Below.on ?_ (by with_reducible assumption) ?_) | (with_reducible refine Below.alloc ?_ ?_ _) | (with_reducible refine Below.drew ?_) | (with_reducible refine Below.setCell ?_ ?_ _) | (with_reducible exact Nat.le_refl _) | omega | (simp; done) | (simp [go_sem]; done) | (simp at *; omega)))).mono ?_
        rintro _ W6 ⟨v, rfl, hb6, hrows⟩
        obtain ⟨q, cb, rfl, hv3⟩ := v3_of hrows
        have hbW : Below W4.heap.size W4 W6 := yr.grew.trans (hb6.mono yr.size)
        refine hK _ _ ?_
        clear hK K
        refine wpAny_ready (rs := [13]) (by kernel_rfl) (by simp) ?_
        refine AllReady.cons rfl (fun K hK => ?_) AllReady.nil
        go_simp
        refine hK _ _ ?_
        clear hK K
        refine wpAny_ready (rs := [14, 15]) (by kernel_rfl) (by simp) ?_
        refine AllReady.cons rfl (fun K hK => ?_) (AllReady.cons rfl (fun K hK => ?_) AllReady.nil)
        ·
          go_simp
          refine hK _ _ ?_
          clear hK K
          refine wpAny_ready (rs := [15, 16]) (by kernel_rfl) (by simp) ?_
          refine AllReady.cons rfl (fun K hK => ?_) (AllReady.cons rfl (fun K hK => ?_) AllReady.nil)
          ·
            go_simp
            refine hK _ _ ?_
            clear hK K
            refine wpAny_ready (rs := [16]) (by kernel_rfl) (by simp) ?_
            refine AllReady.cons rfl (fun K hK => ?_) AllReady.nil
            go_simp
            refine hK _ _ ?_
            clear hK K
            refine wpAny_ready (rs := [17]) (by kernel_rfl) (by simp) ?_
            refine AllReady.cons rfl (fun K hK => ?_) AllReady.nil
            go_simp
            refine hK _ _ ?_
            clear hK K
            refine wpAny_done (by kernel_rfl) ?_ _
            exact ⟨rfl, q, cb, hbW, hv3, by kernel_rfl⟩
          ·
            go_simp
            refine hK _ _ ?_
            clear hK K
            refine wpAny_ready (rs := [15]) (by kernel_rfl) (by simp) ?_
            refine AllReady.cons rfl (fun K hK => ?_) AllReady.nil
            go_simp
            refine hK _ _ ?_
            clear hK K
            refine wpAny_ready (rs := [17]) (by kernel_rfl) (by simp) ?_
            refine AllReady.cons rfl (fun K hK => ?_) AllReady.nil
            go_simp
            refine hK _ _ ?_
            clear hK K
            refine wpAny_done (by kernel_rfl) ?_ _
            exact ⟨rfl, q, cb, hbW, hv3, by kernel_rfl⟩
        ·
          go_simp
          refine hK _ _ ?_
          clear hK K
          refine wpAny_ready (rs := [14]) (by kernel_rfl) (by simp) ?_
          refine AllReady.cons rfl (fun K hK => ?_) AllReady.nil
          go_simp
          refine hK _ _ ?_
          clear hK K
          refine wpAny_ready (rs := [16]) (by kernel_rfl) (by simp) ?_
          refine AllReady.cons rfl (fun K hK => ?_) AllReady.nil
          go_simp
          refine hK _ _ ?_
          clear hK K
          refine wpAny_ready (rs := [17]) (by kernel_rfl) (by simp) ?_
          refine AllReady.cons rfl (fun K hK => ?_) AllReady.nil
          go_simp
          refine hK _ _ ?_
          clear hK K
          refine wpAny_done (by kernel_rfl) ?_ _
          exact ⟨rfl, q, cb, hbW, hv3, by kernel_rfl⟩
      rintro a5 W5 ⟨q5, c5, hb5, hv5, ha5⟩
      generalize a5.tmps.getD 86 undef = t86 at ha5
      generalize a5.tmps.getD 87 undef = t87 at ha5
      generalize a5.tmps.getD 88 undef = t88 at ha5
      generalize a5.tmps.getD 89 undef = t89 at ha5
      generalize a5.tmps.getD 90 undef = t90 at ha5
      generalize a5.tmps.getD 91 undef = t91 at ha5
      generalize a5.tmps.getD 92 undef = t92 at ha5
      generalize a5.tmps.getD 93 undef = t93 at ha5
      generalize a5.tmps.getD 94 undef = t94 at ha5
      generalize a5.tmps.getD 95 undef = t95 at ha5
      generalize a5.tmps.getD 96 undef = t96 at ha5
      generalize a5.tmps.getD 97 undef = t97 at ha5
      generalize a5.tmps.getD 98 undef = t98 at ha5
      generalize a5.tmps.getD 99 undef = t99 at ha5
      generalize a5.tmps.getD 100 undef = t100 at ha5
      generalize a5.tmps.getD 101 undef = t101 at ha5
      subst ha5
      simp only [sets, List.foldl_cons, List.foldl_nil, List.set_cons_succ, List.set_cons_zero]
      replace a0 := (hb5.cell (p := ⟨g0, i, none⟩) l0).trans a0
      replace u0 := (hb5.cell (p := ⟨g2, i * 11, none⟩) l2).trans u0
      replace u1 := (hb5.cell (p := ⟨g2, i * 11 + 1, none⟩) l2).trans u1
      replace u2 := (hb5.cell (p := ⟨g2, i * 11 + 2, none⟩) l2).trans u2
      replace u3 := (hb5.cell (p := ⟨g2, i * 11 + 3, none⟩) l2).trans u3
      replace u4 := (hb5.cell (p := ⟨g2, i * 11 + 4, none⟩) l2).trans u4
      replace u5 := (hb5.cell (p := ⟨g2, i * 11 + 5, none⟩) l2).trans u5
      replace u6 := (hb5.cell (p := ⟨g2, i * 11 + 6, none⟩) l2).trans u6
      replace u7 := (hb5.cell (p := ⟨g2, i * 11 + 7, none⟩) l2).trans u7
      replace u8 := (hb5.cell (p := ⟨g2, i * 11 + 8, none⟩) l2).trans u8
      replace u9 := (hb5.cell (p := ⟨g2, i * 11 + 9, none⟩) l2).trans u9
      replace u10 := (hb5.cell (p := ⟨g2, i * 11 + 10, none⟩) l2).trans u10
      replace v0 := (hb5.cell (p := ⟨g3, i * 4, none⟩) l3).trans v0
      replace v1 := (hb5.cell (p := ⟨g3, i * 4 + 1, none⟩) l3).trans v1
      replace v2 := (hb5.cell (p := ⟨g3, i * 4 + 2, none⟩) l3).trans v2
      replace v3 := (hb5.cell (p := ⟨g3, i * 4 + 3, none⟩) l3).trans v3
      have s5 := hb5.size
      have b5 := fun W (y : Below W5.heap.size W5 W) => b2 W (hb5.trans (y.mono s5))
      replace l0 : g0 < W5.heap.size := by omega
      replace l2 : g2 < W5.heap.size := by omega
      replace l3 : g3 < W5.heap.size := by omega
      clear b1 b2
      go_upto_region 12 with (first | ((first | with_reducible refine wp_region_ext2 (by kernel_rfl) (by kernel_rfl) ?_ | with_reducible refine wp_region_ext (by kernel_rfl) (by kernel_rfl) ?_); (repeat (first | go_big_quiet_step ((first | fail)) | quiet_step ((first | fail)))); refine wpQuiet_nil ?_; rintro _ ⟨yr, rfl⟩; have syr := Ext.size yr; (repeat (first | rw [World.size_alloc] at syr | rw [World.size_setCell] at syr | rw [World.size_drew] at syr))))
      refine wp_tell (fun a X a' W => ∃ (q : Option Addr) (c : Nat), Below W5.heap.size W5 W ∧ V3At W q (v3s BL) ∧ a' = sets a [(27, .slice q (v3s BL).length c), (28, .int .i64 E2), (102, a'.tmps.getD 102 undef), (103, a'.tmps.getD 103 undef), (104, a'.tmps.getD 104 undef), (105, a'.tmps.getD 105 undef), (106, a'.tmps.getD 106 undef), (107, a'.tmps.getD 107 undef), (108, a'.tmps.getD 108 undef), (109, a'.tmps.getD 109 undef), (110, a'.tmps.getD 110 undef), (111, a'.tmps.getD 111 undef), (112, a'.tmps.getD 112 undef), (113, a'.tmps.getD 113 undef), (114, a'.tmps.getD 114 undef), (115, a'.tmps.getD 115 undef), (116, a'.tmps.getD 116 undef), (117, a'.tmps.getD 117 undef)]) ?_ ?_
      focus
        (first | with_reducible refine wp_region_ext2_heads 12 (by kernel_rfl) (by kernel_rfl) ?_ | with_reducible refine wp_region_ext_heads 12 (by kernel_rfl) (by kernel_rfl) ?_)
        simp only [List.take_succ_cons, List.take_zero, List.length_cons, List.length_nil, Nat.reduceAdd, Nat.reduceSub]
        repeat (first | go_big_quiet_step (fail) | quiet_step (fail))
        refine wpQuiet_nil ?_
        rintro _ ⟨yr, rfl⟩
        have syr := Ext.size yr
        refine wpAny_ready (rs := [12]) (by kernel_rfl) (by simp) ?_
        refine AllReady.cons rfl (fun K hK => ?_) AllReady.nil
        go_simp
        refine (b5 _ (by repeat' (first | (with_reducible exact Below.refl _ _) | (with_reducible assumption) | (with_reducible refine Ext.below _ ?_ ?_) | (with_reducible refine Below.on ?_ (by with_reducible assumption) ?_) | (with_reducible refine Below.alloc ?_ ?_ _) | (with_reducible refine Below.drew ?_) | (with_reducible refine Below.setCell ?_ ?_ _) | (with_reducible exact Nat.le_refl _) | omega | (simp; done) | (simp [go_sem]; done) | (simp at *; omega)))).mono ?_
        rintro _ W6 ⟨v, rfl, hb6, hrows⟩
        obtain ⟨q, cb, rfl, hv3⟩ := v3_of hrows
        have hbW : Below W5.heap.size W5 W6 := yr.grew.trans (hb6.mono yr.size)
        refine hK _ _ ?_
        clear hK K
        refine wpAny_ready (rs := [13]) (by kernel_rfl) (by simp) ?_
        refine AllReady.cons rfl (fun K hK => ?_) AllReady.nil
        go_simp
        refine hK _ _ ?_
        clear hK K
        refine wpAny_ready (rs := [14, 15]) (by kernel_rfl) (by simp) ?_
        refine AllReady.cons rfl (fun K hK => ?_) (AllReady.cons rfl (fun K hK => ?_) AllReady.nil)
        ·
          go_simp
          refine hK _ _ ?_
          clear hK K
          refine wpAny_ready (rs := [15, 16]) (by kernel_rfl) (by simp) ?_
          refine AllReady.cons rfl (fun K hK => ?_) (AllReady.cons rfl (fun K hK => ?_) AllReady.nil)
          ·
            go_simp
            refine hK _ _ ?_
            clear hK K
            refine wpAny_ready (rs := [16]) (by kernel_rfl) (by simp) ?_
            refine AllReady.cons rfl (fun K hK => ?_) AllReady.nil
            go_simp
            refine hK _ _ ?_
            clear hK K
            refine wpAny_ready (rs := [17]) (by kernel_rfl) (by simp) ?_
            refine AllReady.cons rfl (fun K hK => ?_) AllReady.nil
            go_simp
            refine hK _ _ ?_
            clear hK K
            refine wpAny_done (by kernel_rfl) ?_ _
            exact ⟨rfl, q, cb, hbW, hv3, by kernel_rfl⟩
          ·
            go_simp
            refine hK _ _ ?_
            clear hK K
            refine wpAny_ready (rs := [15]) (by kernel_rfl) (by simp) ?_
            refine AllReady.cons rfl (fun K hK => ?_) AllReady.nil
            go_simp
            refine hK _ _ ?_
            clear hK K
            refine wpAny_ready (rs := [17]) (by kernel_rfl) (by simp) ?_
            refine AllReady.cons rfl (fun K hK => ?_) AllReady.nil
            go_simp
            refine hK _ _ ?_
            clear hK K
            refine wpAny_done (by kernel_rfl) ?_ _
            exact ⟨rfl, q, cb, hbW, hv3, by kernel_rfl⟩
        ·
          go_simp
          refine hK _ _ ?_
          clear hK K
          refine wpAny_ready (rs := [14]) (by kernel_rfl) (by simp) ?_
          refine AllReady.cons rfl (fun K hK => ?_) AllReady.nil
          go_simp
          refine hK _ _ ?_
          clear hK K
          refine wpAny_ready (rs := [16]) (by kernel_rfl) (by simp) ?_
          refine AllReady.cons rfl (fun K hK => ?_) AllReady.nil
          go_simp
          refine hK _ _ ?_
          clear hK K
          refine wpAny_ready (rs := [17]) (by kernel_rfl) (by simp) ?_
          refine AllReady.cons rfl (fun K hK => ?_) AllReady.nil
          go_simp
          refine hK _ _ ?_
          clear hK K
          refine wpAny_done (by kernel_rfl) ?_ _
          exact ⟨rfl, q, cb, hbW, hv3, by kernel_rfl⟩
      rintro a6 W6 ⟨q6, c6, hb6, hv6, ha6⟩
      generalize a6.tmps.getD 102 undef = t102 at ha6
      generalize a6.tmps.getD 103 undef = t103 at ha6
      generalize a6.tmps.getD 104 undef = t104 at ha6
      generalize a6.tmps.getD 105 undef = t105 at ha6
      generalize a6.tmps.getD 106 undef = t106 at ha6
      generalize a6.tmps.getD 107 undef = t107 at ha6
      generalize a6.tmps.getD 108 undef = t108 at ha6
      generalize a6.tmps.getD 109 undef = t109 at ha6
      generalize a6.tmps.getD 110 undef = t110 at ha6
      generalize a6.tmps.getD 111 undef = t111 at ha6
      generalize a6.tmps.getD 112 undef = t112 at ha6
      generalize a6.tmps.getD 113 undef = t113 at ha6
      generalize a6.tmps.getD 114 undef = t114 at ha6
      generalize a6.tmps.getD 115 undef = t115 at ha6
      generalize a6.tmps.getD 116 undef = t116 at ha6
      generalize a6.tmps.getD 117 undef = t117 at ha6
      subst ha6
      simp only [sets, List.foldl_cons, List.foldl_nil, List.set_cons_succ, List.set_cons_zero]
      have s6 := hb6.size
      have csb := fun W (y : Below W6.heap.size W6 W) => SameBlows_eq q5 q6 c5 c6 (v3s BL) W (hv5.on (hb6.trans (y.mono s6))) (hv6.on y) hLen
      clear u0 u1 u2 u3 u4 u5 u6 u7 u8 u9 u10 v0 v1 v2 v3 a0 b5
      have hB6 : Below W4.heap.size W4 W6 := hb5.trans (hb6.mono s5)
      go_wp2_with (first | ((first | with_reducible refine wp_region_ext2 (by kernel_rfl) (by kernel_rfl) ?_ | with_reducible refine wp_region_ext (by kernel_rfl) (by kernel_rfl) ?_); (repeat (first | go_big_quiet_step ((first | (go_at_call 16; with_reducible exact Calls.ext (csb _ (by repeat' (first | (with_reducible exact Below.refl _ _) | (with_reducible assumption) | (with_reducible refine Ext.below _ ?_ ?_) | (with_reducible refine Below.on ?_ (by with_reducible assumption) ?_) | (with_reducible refine Below.alloc ?_ ?_ _) | (with_reducible refine Below.drew ?_) | (with_reducible refine Below.setCell ?_ ?_ _) | (with_reducible exact Nat.le_refl _) | omega | (simp; done) | (simp [go_sem]; done) | (simp at *; omega))))))) | quiet_step ((first | (go_at_call 16; with_reducible exact Calls.ext (csb _ (by repeat' (first | (with_reducible exact Below.refl _ _) | (with_reducible assumption) | (with_reducible refine Ext.below _ ?_ ?_) | (with_reducible refine Below.on ?_ (by with_reducible assumption) ?_) | (with_reducible refine Below.alloc ?_ ?_ _) | (with_reducible refine Below.drew ?_) | (with_reducible refine Below.setCell ?_ ?_ _) | (with_reducible exact Nat.le_refl _) | omega | (simp; done) | (simp [go_sem]; done) | (simp at *; omega))))))))); refine wpQuiet_nil ?_; rintro _ ⟨yr, rfl⟩; have syr := Ext.size yr; (repeat (first | rw [World.size_alloc] at syr | rw [World.size_setCell] at syr | rw [World.size_drew] at syr))) | (go_at_call 16; (first | with_reducible refine (Calls.giv2 (csb _ (by repeat' (first | (with_reducible exact Below.refl _ _) | (with_reducible assumption) | (with_reducible refine Ext.below _ ?_ ?_) | (with_reducible refine Below.on ?_ (by with_reducible assumption) ?_) | (with_reducible refine Below.alloc ?_ ?_ _) | (with_reducible refine Below.drew ?_) | (with_reducible refine Below.setCell ?_ ?_ _) | (with_reducible exact Nat.le_refl _) | omega | (simp; done) | (simp [go_sem]; done) | (simp at *; omega))))).mono ?_ | with_reducible refine (Calls.giv (csb _ (by repeat' (first | (with_reducible exact Below.refl _ _) | (with_reducible assumption) | (with_reducible refine Ext.below _ ?_ ?_) | (with_reducible refine Below.on ?_ (by with_reducible assumption) ?_) | (with_reducible refine Below.alloc ?_ ?_ _) | (with_reducible refine Below.drew ?_) | (with_reducible refine Below.setCell ?_ ?_ _) | (with_reducible exact Nat.le_refl _) | omega | (simp; done) | (simp [go_sem]; done) | (simp at *; omega))))).mono ?_); rintro _ _ ⟨y1, rfl, rfl⟩; have sy1 := Ext.size y1; (repeat (first | rw [World.size_alloc] at sy1 | rw [World.size_setCell] at sy1 | rw [World.size_drew] at sy1))))
      exact ⟨⟨i + 1, ⟨y1.now, hB6.trans (y1.grew.mono hB6.size)⟩, by simp, rfl, by omega⟩, by simp [intOf]; omega⟩
    · have hge : i = 2 := by omega
      subst hge
      have hlim := hlim4
      go_wp2_with (first | ((first | with_reducible refine wp_region_ext2 (by kernel_rfl) (by kernel_rfl) ?_ | with_reducible refine wp_region_ext (by kernel_rfl) (by kernel_rfl) ?_); (repeat (first | go_big_quiet_step ((first | (go_at_call 7; with_reducible exact Calls.ext (ca _ (by repeat (first | exact hlim | (with_reducible refine LimAt.ext ?_ _) | (with_reducible refine LimAt.alloc ?_ _) | (with_reducible refine LimAt.drew ?_) | (with_reducible refine LimAt.rext ?_ (by omega) _) | (with_reducible refine LimAt.set ?_ (by omega) _))))))) | quiet_step ((first | (go_at_call 7; with_reducible exact Calls.ext (ca _ (by repeat (first | exact hlim | (with_reducible refine LimAt.ext ?_ _) | (with_reducible refine LimAt.alloc ?_ _) | (with_reducible refine LimAt.drew ?_) | (with_reducible refine LimAt.rext ?_ (by omega) _) | (with_reducible refine LimAt.set ?_ (by omega) _))))))))); refine wpQuiet_nil ?_; rintro _ ⟨yr, rfl⟩; have syr := Ext.size yr; (repeat (first | rw [World.size_alloc] at syr | rw [World.size_setCell] at syr | rw [World.size_drew] at syr))) | (go_at_call 7; (first | with_reducible refine (Calls.giv2 (ca _ (by repeat (first | exact hlim | (with_reducible refine LimAt.ext ?_ _) | (with_reducible refine LimAt.alloc ?_ _) | (with_reducible refine LimAt.drew ?_) | (with_reducible refine LimAt.rext ?_ (by omega) _) | (with_reducible refine LimAt.set ?_ (by omega) _))))).mono ?_ | with_reducible refine (Calls.giv (ca _ (by repeat (first | exact hlim | (with_reducible refine LimAt.ext ?_ _) | (with_reducible refine LimAt.alloc ?_ _) | (with_reducible refine LimAt.drew ?_) | (with_reducible refine LimAt.rext ?_ (by omega) _) | (with_reducible refine LimAt.set ?_ (by omega) _))))).mono ?_); rintro _ _ ⟨y1, rfl, rfl⟩; have sy1 := Ext.size y1; (repeat (first | rw [World.size_alloc] at sy1 | rw [World.size_setCell] at sy1 | rw [World.size_drew] at sy1))))
      go_returns
      refine ⟨rfl, ?_⟩
      repeat' (first | (with_reducible exact Below.refl _ _) | (with_reducible assumption) | (with_reducible refine Ext.below _ ?_ ?_) | (with_reducible refine Below.on ?_ (by with_reducible assumption) ?_) | (with_reducible refine Below.alloc ?_ ?_ _) | (with_reducible refine Below.drew ?_) | (with_reducible refine Below.setCell ?_ ?_ _) | (with_reducible exact Nat.le_refl _) | omega | (simp; done) | (simp [go_sem]; done) | (simp at *; omega))
end Go.Proofs.YtfjieblihbnmjaaDoor

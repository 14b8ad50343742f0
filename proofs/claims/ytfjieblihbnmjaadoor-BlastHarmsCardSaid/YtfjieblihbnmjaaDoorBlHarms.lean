/- For BlastHarms: whom a blow in a layer, or on the ground, harms, is as the reference says, for any arguments. Written by gen_harms.py. Condition: none beyond the statement's own. -/
import Derived.Test.YtfjieblihbnmjaaDoorBlGd
import Derived.Test.YtfjieblihbnmjaaDoorBlGo
import Derived.Test.YtfjieblihbnmjaaDoorBlU3
import Derived.Test.YtfjieblihbnmjaaDoorBlA
import Derived.Test.YtfjieblihbnmjaaDoorPairG
namespace Go.Proofs.YtfjieblihbnmjaaDoor
open Go.RowKit Go.Shelf
attribute [local go_sem] Option.isSome_some Ext.cell Ext.frozen Ext.lt Ext.le Ext.lt_add Ext.le_add Ext.ne Ext.ne' lt2 lt3 lt4 lt5 le2 le3 le4
attribute [local go_sem] RExt.cell RExt.frozen RExt.lt RExt.le RExt.lt_add RExt.le_add RExt.ne RExt.ne'
theorem list15 {α : Type} {l : List α} (h : l.length = 15) : ∃ b0 b1 b2 b3 b4 b5 b6 b7 b8 b9 b10 b11 b12 b13 b14, l = [b0, b1, b2, b3, b4, b5, b6, b7, b8, b9, b10, b11, b12, b13, b14] := by
  match l, h with
  | [b0, b1, b2, b3, b4, b5, b6, b7, b8, b9, b10, b11, b12, b13, b14], _ => exact ⟨_, _, _, _, _, _, _, _, _, _, _, _, _, _, _, rfl⟩
def hmsDeps : List (List Nat) := [[], [], [1], [0, 2], [], [], [5], [4, 6], [], [], [9], [8, 10], [3], [7], [11]]
def hmsInv (b m : Nat) (lp : Option Addr) (nl lc : Nat) (gp : Option Addr) (ng gc : Nat) (x : LandR) (a0 : Act) (X : World) (l : List Bool) (fr : Act) (W : World) : Prop :=
  ∃ s16 s17 s18 s33 s34 s35 s36 s37 s38 s39 s40 s41 s42 s43 s44 : Value, fr = sets a0 [(16, s16), (17, s17), (18, s18), (33, s33), (34, s34), (35, s35), (36, s36), (37, s37), (38, s38), (39, s39), (40, s40), (41, s41), (42, s42), (43, s43), (44, s44)] ∧ BelowX b X.heap.size X W ∧
    (RingM W b (m + (20 * (l.getD 2 false).toNat + 15 * (l.getD 6 false).toNat + 50 * (l.getD 10 false).toNat))) ∧
    (l.getD 0 false = true → s33 = .slice lp nl lc) ∧
    (l.getD 1 false = true → s34 = .pointer (some ⟨b, 0, none⟩)) ∧
    (l.getD 2 false = true → ∃ (lv : Value) (ls : List V2), s35 = lv ∧ LaysOk ls ∧ W.ownsRow X.heap.size 85 2 lv ls.length (vrows ls)) ∧
    (l.getD 3 false = true → ∃ (g : Nat) (lv : Value) (ls : List V2), s36 = .slice (some ⟨g, 0, none⟩) 2 2 ∧ X.heap.size ≤ g ∧ g < W.heap.size ∧ W.heap[g]? = some (.cells #[.slice lp nl lc, lv] 22 (0, 0)) ∧ LaysOk ls ∧ W.ownsRow X.heap.size 85 2 lv ls.length (vrows ls)) ∧
    (l.getD 4 false = true → s37 = .slice gp ng gc) ∧
    (l.getD 5 false = true → s38 = .pointer (some ⟨b, 0, none⟩)) ∧
    (l.getD 6 false = true → ∃ (lv : Value) (ls : List V2), s39 = lv ∧ GradesOk ls ∧ W.ownsRow X.heap.size 102 2 lv ls.length (vrows ls)) ∧
    (l.getD 7 false = true → ∃ (g : Nat) (lv : Value) (ls : List V2), s40 = .slice (some ⟨g, 0, none⟩) 2 2 ∧ X.heap.size ≤ g ∧ g < W.heap.size ∧ W.heap[g]? = some (.cells #[.slice gp ng gc, lv] 51 (0, 0)) ∧ GradesOk ls ∧ W.ownsRow X.heap.size 102 2 lv ls.length (vrows ls)) ∧
    (l.getD 8 false = true → s41 = .agg #[.slice x.pp x.pl.length x.pc, .slice x.wp x.wl.length x.wc]) ∧
    (l.getD 9 false = true → s42 = .pointer (some ⟨b, 0, none⟩)) ∧
    (l.getD 10 false = true → ∃ y : LandR, s43 = .agg #[.slice y.pp y.pl.length y.pc, .slice y.wp y.wl.length y.wc] ∧ (y.Ok ∧ y.pl.length ≤ 16) ∧ LandOwn W X.heap.size y) ∧
    (l.getD 11 false = true → ∃ (g : Nat) (y : LandR), s44 = .slice (some ⟨g, 0, none⟩) 2 2 ∧ X.heap.size ≤ g ∧ g < W.heap.size ∧ W.heap[g]? = some (.cells #[.slice x.pp x.pl.length x.pc, .slice x.wp x.wl.length x.wc, .slice y.pp y.pl.length y.pc, .slice y.wp y.wl.length y.wc] 55 (0, 0)) ∧ (y.Ok ∧ y.pl.length ≤ 16) ∧ LandOwn W X.heap.size y) ∧
    (l.getD 12 false = true → ∃ (g : Nat) (lv : Value) (ls : List V2), s16 = .slice (some ⟨g, 0, none⟩) 2 2 ∧ X.heap.size ≤ g ∧ g < W.heap.size ∧ W.heap[g]? = some (.cells #[.slice lp nl lc, lv] 22 (0, 0)) ∧ LaysOk ls ∧ W.ownsRow X.heap.size 85 2 lv ls.length (vrows ls)) ∧
    (l.getD 13 false = true → ∃ (g : Nat) (lv : Value) (ls : List V2), s17 = .slice (some ⟨g, 0, none⟩) 2 2 ∧ X.heap.size ≤ g ∧ g < W.heap.size ∧ W.heap[g]? = some (.cells #[.slice gp ng gc, lv] 51 (0, 0)) ∧ GradesOk ls ∧ W.ownsRow X.heap.size 102 2 lv ls.length (vrows ls)) ∧
    (l.getD 14 false = true → ∃ (g : Nat) (y : LandR), s18 = .slice (some ⟨g, 0, none⟩) 2 2 ∧ X.heap.size ≤ g ∧ g < W.heap.size ∧ W.heap[g]? = some (.cells #[.slice x.pp x.pl.length x.pc, .slice x.wp x.wl.length x.wc, .slice y.pp y.pl.length y.pc, .slice y.wp y.wl.length y.wc] 55 (0, 0)) ∧ (y.Ok ∧ y.pl.length ≤ 16) ∧ LandOwn W X.heap.size y)
def hmsTold (b m : Nat) (lp : Option Addr) (nl lc : Nat) (gp : Option Addr) (ng gc : Nat) (x : LandR) : Act → World → Act → World → Prop := fun a X a' W => ∃ (gA : Nat) (gG : Nat) (gL : Nat) (lvA lvG : Value) (lsA lsG : List V2) (y : LandR), a' = sets a [(16, .slice (some ⟨gA, 0, none⟩) 2 2), (17, .slice (some ⟨gG, 0, none⟩) 2 2), (18, .slice (some ⟨gL, 0, none⟩) 2 2), (33, a'.tmps.getD 33 undef), (34, a'.tmps.getD 34 undef), (35, a'.tmps.getD 35 undef), (36, a'.tmps.getD 36 undef), (37, a'.tmps.getD 37 undef), (38, a'.tmps.getD 38 undef), (39, a'.tmps.getD 39 undef), (40, a'.tmps.getD 40 undef), (41, a'.tmps.getD 41 undef), (42, a'.tmps.getD 42 undef), (43, a'.tmps.getD 43 undef), (44, a'.tmps.getD 44 undef)] ∧ LaysOk lsA ∧ GradesOk lsG ∧ (y.Ok ∧ y.pl.length ≤ 16) ∧ W.ownsRow X.heap.size 85 2 lvA lsA.length (vrows lsA) ∧ W.ownsRow X.heap.size 102 2 lvG lsG.length (vrows lsG) ∧ LandOwn W X.heap.size y ∧ BelowX b X.heap.size X W ∧ RingM W b (m + 85) ∧ (X.heap.size ≤ gA ∧ X.heap.size ≤ gG ∧ X.heap.size ≤ gL) ∧ W.heap[gA]? = some (.cells #[.slice lp nl lc, lvA] 22 (0, 0)) ∧ W.heap[gG]? = some (.cells #[.slice gp ng gc, lvG] 51 (0, 0)) ∧ W.heap[gL]? = some (.cells #[.slice x.pp x.pl.length x.pc, .slice x.wp x.wl.length x.wc, .slice y.pp y.pl.length y.pc, .slice y.wp y.wl.length y.wc] 55 (0, 0))
theorem list20 {α : Type} {l : List α} (h : l.length = 20) : ∃ b0 b1 b2 b3 b4 b5 b6 b7 b8 b9 b10 b11 b12 b13 b14 b15 b16 b17 b18 b19, l = [b0, b1, b2, b3, b4, b5, b6, b7, b8, b9, b10, b11, b12, b13, b14, b15, b16, b17, b18, b19] := by
  match l, h with
  | [b0, b1, b2, b3, b4, b5, b6, b7, b8, b9, b10, b11, b12, b13, b14, b15, b16, b17, b18, b19], _ => exact ⟨_, _, _, _, _, _, _, _, _, _, _, _, _, _, _, _, _, _, _, _, rfl⟩
def hm5Deps : List (List Nat) := [[], [], [], [2], [3], [4], [5], [1, 6], [0, 7], [], [], [], [11], [12], [13], [14], [10, 15], [9, 16], [8], [17]]
def hm5Inv (b m : Nat) (la a : Int) (gA gL n2 c2 : Nat) (p2 : Option Addr) (y : LandR) (a0 : Act) (X : World) (l : List Bool) (fr : Act) (W : World) : Prop :=
  ∃ s19 s20 s45 s46 s47 s48 s49 s50 s51 s52 s53 s54 s55 s56 s57 s58 s59 s60 s61 s62 : Value, fr = sets a0 [(19, s19), (20, s20), (45, s45), (46, s46), (47, s47), (48, s48), (49, s49), (50, s50), (51, s51), (52, s52), (53, s53), (54, s54), (55, s55), (56, s56), (57, s57), (58, s58), (59, s59), (60, s60), (61, s61), (62, s62)] ∧ BelowX b X.heap.size X W ∧
    (RingM W b (m + (1 * (l.getD 7 false).toNat + 1 * (l.getD 16 false).toNat))) ∧
    (l.getD 0 false = true → s45 = .int .i64 la) ∧
    (l.getD 1 false = true → s46 = .pointer (some ⟨b, 0, none⟩)) ∧
    (l.getD 2 false = true → s47 = .slice (some ⟨gA, 0, none⟩) 2 2) ∧
    (l.getD 3 false = true → s48 = .pointer (some ⟨gA, 1, none⟩)) ∧
    (l.getD 4 false = true → s49 = .slice p2 n2 c2) ∧
    (l.getD 5 false = true → s50 = .int .i64 n2) ∧
    (l.getD 6 false = true → s51 = .int .i64 ((n2 : Int) + 1)) ∧
    (l.getD 7 false = true → ∃ v : Int, s52 = .int .i64 v ∧ 0 ≤ v ∧ v < (n2 : Int) + 1) ∧
    (l.getD 8 false = true → ∃ (g : Nat) (v : Int), s53 = .slice (some ⟨g, 0, none⟩) 2 2 ∧ X.heap.size ≤ g ∧ g < W.heap.size ∧ W.heap[g]? = some (.cells #[.int .i64 la, .int .i64 v] 3 (0, 0)) ∧ (0 ≤ v ∧ v < (n2 : Int) + 1)) ∧
    (l.getD 9 false = true → s54 = .int .i64 a) ∧
    (l.getD 10 false = true → s55 = .pointer (some ⟨b, 0, none⟩)) ∧
    (l.getD 11 false = true → s56 = .slice (some ⟨gL, 0, none⟩) 2 2) ∧
    (l.getD 12 false = true → s57 = .pointer (some ⟨gL, 2, none⟩)) ∧
    (l.getD 13 false = true → s58 = .pointer (some ⟨gL, 2, none⟩)) ∧
    (l.getD 14 false = true → s59 = .slice y.pp y.pl.length y.pc) ∧
    (l.getD 15 false = true → s60 = .int .i64 y.pl.length) ∧
    (l.getD 16 false = true → ∃ v : Int, s61 = .int .i64 v ∧ 0 ≤ v ∧ v < (y.pl.length : Int)) ∧
    (l.getD 17 false = true → ∃ (g : Nat) (v : Int), s62 = .slice (some ⟨g, 0, none⟩) 2 2 ∧ X.heap.size ≤ g ∧ g < W.heap.size ∧ W.heap[g]? = some (.cells #[.int .i64 a, .int .i64 v] 3 (0, 0)) ∧ (0 ≤ v ∧ v < (y.pl.length : Int))) ∧
    (l.getD 18 false = true → ∃ (g : Nat) (v : Int), s19 = .slice (some ⟨g, 0, none⟩) 2 2 ∧ X.heap.size ≤ g ∧ g < W.heap.size ∧ W.heap[g]? = some (.cells #[.int .i64 la, .int .i64 v] 3 (0, 0)) ∧ (0 ≤ v ∧ v < (n2 : Int) + 1)) ∧
    (l.getD 19 false = true → ∃ (g : Nat) (v : Int), s20 = .slice (some ⟨g, 0, none⟩) 2 2 ∧ X.heap.size ≤ g ∧ g < W.heap.size ∧ W.heap[g]? = some (.cells #[.int .i64 a, .int .i64 v] 3 (0, 0)) ∧ (0 ≤ v ∧ v < (y.pl.length : Int)))
def hm5Told (b : Nat) (la a : Int) (n2 : Nat) (y : LandR) : Act → World → Act → World → Prop := fun a9 X a' W => ∃ (g1 g2 : Nat) (v1 v2 : Int), a' = sets a9 [(19, .slice (some ⟨g1, 0, none⟩) 2 2), (20, .slice (some ⟨g2, 0, none⟩) 2 2), (45, a'.tmps.getD 45 undef), (46, a'.tmps.getD 46 undef), (47, a'.tmps.getD 47 undef), (48, a'.tmps.getD 48 undef), (49, a'.tmps.getD 49 undef), (50, a'.tmps.getD 50 undef), (51, a'.tmps.getD 51 undef), (52, a'.tmps.getD 52 undef), (53, a'.tmps.getD 53 undef), (54, a'.tmps.getD 54 undef), (55, a'.tmps.getD 55 undef), (56, a'.tmps.getD 56 undef), (57, a'.tmps.getD 57 undef), (58, a'.tmps.getD 58 undef), (59, a'.tmps.getD 59 undef), (60, a'.tmps.getD 60 undef), (61, a'.tmps.getD 61 undef), (62, a'.tmps.getD 62 undef)] ∧ BelowX b X.heap.size X W ∧ W.heap[g1]? = some (.cells #[.int .i64 la, .int .i64 v1] 3 (0, 0)) ∧ W.heap[g2]? = some (.cells #[.int .i64 a, .int .i64 v2] 3 (0, 0)) ∧ (0 ≤ v1 ∧ v1 < (n2 : Int) + 1) ∧ (0 ≤ v2 ∧ v2 < (y.pl.length : Int))
set_option maxRecDepth 100000 in
set_option maxHeartbeats 16000000 in
theorem BlastHarms_any (lp : Option Addr) (lc : Nat) (ll : List V2) (gp : Option Addr) (gc : Nat) (gl : List V2) (x : LandR) (la en a : Int) (sp : Option Addr) (sl sc : Nat) (sz : Nat → Int) (w : World) (hlim : LimAt w) (hl : VecsAt w lp ll) (hg : VecsAt w gp gl) (hx : x.At w) (hla : I64 la) (_hen : I64 en) (hat : I64 a) (hw : ListIn w sp sl sz) : Calls Tryd.prog 5 #[.slice lp ll.length lc, .slice gp gl.length gc, x.val, .int .i64 la, .int .i64 en, .int .i64 a, .slice sp sl sc] w (Gives (.bool true) w) := by
  have ca := fun W (y : LimAt W) => blastAwake_any W y
  have cb := fun W => BigGround_any lp gp ll.length gl.length lc gc x W
  have hl0 := hlim.lt
  unfold LandR.val at *
  cases hbig : bigB ll.length gl.length x
  rotate_left
  · rw [hbig] at cb
    clear hbig hx hg hw hl
    generalize ll.length = m0 at *
    generalize gl.length = m1 at *
    generalize x.pl.length = m2 at *
    generalize x.wl.length = m3 at *
    go_enter Tryd.func5, Tryd.ntmps5
    go_wp2_with (first | ((first | with_reducible refine wp_region_ext2 (by kernel_rfl) (by kernel_rfl) ?_ | with_reducible refine wp_region_ext (by kernel_rfl) (by kernel_rfl) ?_); (repeat (first | go_big_quiet_step ((first | (go_at_call 17; with_reducible exact Calls.ext (cb _)) | (go_at_call 7; with_reducible exact Calls.ext (ca _ (by repeat (first | exact hlim | (with_reducible refine LimAt.ext ?_ _) | (with_reducible refine LimAt.alloc ?_ _) | (with_reducible refine LimAt.drew ?_) | (with_reducible refine LimAt.rext ?_ (by omega) _) | (with_reducible refine LimAt.set ?_ (by omega) _))))))) | quiet_step ((first | (go_at_call 17; with_reducible exact Calls.ext (cb _)) | (go_at_call 7; with_reducible exact Calls.ext (ca _ (by repeat (first | exact hlim | (with_reducible refine LimAt.ext ?_ _) | (with_reducible refine LimAt.alloc ?_ _) | (with_reducible refine LimAt.drew ?_) | (with_reducible refine LimAt.rext ?_ (by omega) _) | (with_reducible refine LimAt.set ?_ (by omega) _))))))))); refine wpQuiet_nil ?_; rintro _ ⟨yr, rfl⟩; have syr := Ext.size yr; (repeat (first | rw [World.size_alloc] at syr | rw [World.size_setCell] at syr | rw [World.size_drew] at syr)); have : w.heap.size < yr.now.heap.size := (by omega); have : w.heap.size ≤ yr.now.heap.size := (by omega); have : w.heap.size < yr.now.heap.size + 1 + 1 := (by omega)) | (go_at_call 17; (first | with_reducible refine (Calls.giv2 (cb _)).mono ?_ | with_reducible refine (Calls.giv (cb _)).mono ?_); rintro _ _ ⟨y1, rfl, rfl⟩; have sy1 := Ext.size y1; (repeat (first | rw [World.size_alloc] at sy1 | rw [World.size_setCell] at sy1 | rw [World.size_drew] at sy1)); have : w.heap.size < y1.now.heap.size := (by omega); have : w.heap.size ≤ y1.now.heap.size := (by omega); have : w.heap.size < y1.now.heap.size + 1 + 1 := (by omega)) | (go_at_call 7; (first | with_reducible refine (Calls.giv2 (ca _ (by repeat (first | exact hlim | (with_reducible refine LimAt.ext ?_ _) | (with_reducible refine LimAt.alloc ?_ _) | (with_reducible refine LimAt.drew ?_) | (with_reducible refine LimAt.rext ?_ (by omega) _) | (with_reducible refine LimAt.set ?_ (by omega) _))))).mono ?_ | with_reducible refine (Calls.giv (ca _ (by repeat (first | exact hlim | (with_reducible refine LimAt.ext ?_ _) | (with_reducible refine LimAt.alloc ?_ _) | (with_reducible refine LimAt.drew ?_) | (with_reducible refine LimAt.rext ?_ (by omega) _) | (with_reducible refine LimAt.set ?_ (by omega) _))))).mono ?_); rintro _ _ ⟨y2, rfl, rfl⟩; have sy2 := Ext.size y2; (repeat (first | rw [World.size_alloc] at sy2 | rw [World.size_setCell] at sy2 | rw [World.size_drew] at sy2)); have : w.heap.size < y2.now.heap.size := (by omega); have : w.heap.size ≤ y2.now.heap.size := (by omega); have : w.heap.size < y2.now.heap.size + 1 + 1 := (by omega)))
    go_returns
    refine ⟨rfl, ?_⟩
    repeat' (first | (with_reducible exact Below.refl _ _) | (with_reducible assumption) | (with_reducible refine Ext.below _ ?_ ?_) | (with_reducible refine Below.on ?_ (by with_reducible assumption) ?_) | (with_reducible refine Below.alloc ?_ ?_ _) | (with_reducible refine Below.drew ?_) | (with_reducible refine Below.setCell ?_ ?_ _) | (with_reducible exact Nat.le_refl _) | omega | (simp; done) | (simp [go_sem]; done) | (simp at *; omega))
  rw [hbig] at cb
  have hsm : ll.length ≤ 40 ∧ gl.length ≤ 40 ∧ x.pl.length ≤ 410 ∧ x.wl.length ≤ 410 := by
    unfold bigB at hbig
    rw [decide_eq_false_iff_not] at hbig
    omega
  clear hbig
  go_enter Tryd.func5, Tryd.ntmps5
  go_upto_region 3 with (first | ((first | with_reducible refine wp_region_ext2 (by kernel_rfl) (by kernel_rfl) ?_ | with_reducible refine wp_region_ext (by kernel_rfl) (by kernel_rfl) ?_); (repeat (first | go_big_quiet_step ((first | (go_at_call 17; with_reducible exact Calls.ext (cb _)))) | quiet_step ((first | (go_at_call 17; with_reducible exact Calls.ext (cb _)))))); refine wpQuiet_nil ?_; rintro _ ⟨yr, rfl⟩; have syr := Ext.size yr; (repeat (first | rw [World.size_alloc] at syr | rw [World.size_setCell] at syr | rw [World.size_drew] at syr)); have : w.heap.size < yr.now.heap.size := (by omega); have : w.heap.size ≤ yr.now.heap.size := (by omega); have : w.heap.size < yr.now.heap.size + 1 + 1 := (by omega)) | (go_at_call 17; (first | with_reducible refine (Calls.giv2 (cb _)).mono ?_ | with_reducible refine (Calls.giv (cb _)).mono ?_); rintro _ _ ⟨y1, rfl, rfl⟩; have sy1 := Ext.size y1; (repeat (first | rw [World.size_alloc] at sy1 | rw [World.size_setCell] at sy1 | rw [World.size_drew] at sy1)); have : w.heap.size < y1.now.heap.size := (by omega); have : w.heap.size ≤ y1.now.heap.size := (by omega); have : w.heap.size < y1.now.heap.size + 1 + 1 := (by omega)))
  refine wp_named (fun W0 hW => ?_)
  have hB0 : Below w.heap.size w W0 := by rw [← hW]; repeat' (first | (with_reducible exact Below.refl _ _) | (with_reducible assumption) | (with_reducible refine Ext.below _ ?_ ?_) | (with_reducible refine Below.on ?_ (by with_reducible assumption) ?_) | (with_reducible refine Below.alloc ?_ ?_ _) | (with_reducible refine Below.drew ?_) | (with_reducible refine Below.setCell ?_ ?_ _) | (with_reducible exact Nat.le_refl _) | omega | (simp; done) | (simp [go_sem]; done) | (simp at *; omega))
  have lX0 : w.heap.size < W0.heap.size := by rw [← hW]; assumption
  have a0 : W0.cell? ⟨w.heap.size, 0, none⟩ = some (.slice x.pp x.pl.length x.pc) := by rw [← hW]; simp [go_sem]
  have a1 : W0.cell? ⟨w.heap.size, 1, none⟩ = some (.slice x.wp x.wl.length x.wc) := by rw [← hW]; simp [go_sem]
  have hlim0 : LimAt W0 := hlim.on hB0
  have hw0 : ListIn W0 sp sl sz := listIn_on hw hB0
  clear hW cb
  go_upto_region 4 with (first | ((first | with_reducible refine wp_region_ext2 (by kernel_rfl) (by kernel_rfl) ?_ | with_reducible refine wp_region_ext (by kernel_rfl) (by kernel_rfl) ?_); (repeat (first | go_big_quiet_step ((first | fail)) | quiet_step ((first | fail)))); refine wpQuiet_nil ?_; rintro _ ⟨yr, rfl⟩; have syr := Ext.size yr; (repeat (first | rw [World.size_alloc] at syr | rw [World.size_setCell] at syr | rw [World.size_drew] at syr))) | (go_at_call 8; refine (NewRing_r sp sl sc sz _ hw0).mono ?_; rintro _ _ ⟨y0, rfl, rfl, hs0, hr0⟩))
  have hRr : RingM y0.now W0.heap.size 0 := ⟨_, _, _, _, _, hr0, Nat.le_refl _⟩
  have hlr : LimAt y0.now := hlim0.ext y0
  have hnew : Below w.heap.size w y0.now := hB0.trans (y0.grew.mono (by omega))
  obtain ⟨RB, hRB⟩ : ∃ n, W0.heap.size = n := ⟨_, rfl⟩
  replace a0 := (y0.cell lX0).trans a0
  replace a1 := (y0.cell lX0).trans a1
  rw [hRB] at hRr hs0 lX0
  rw [hRB]
  have e0 := hs0
  generalize y0.now = Wr at *
  have lX : w.heap.size < Wr.heap.size := by omega
  have nX : w.heap.size ≠ RB := by omega
  clear hr0 hB0 hlim0 hw0 hs0 y0
  refine wp_tell (hmsTold RB 0 lp ll.length lc gp gl.length gc x) ?_ ?_
  focus
    have hbX := hRr.lt
    clear hlim hl hx hg hw hnew
    repeat (rename_i zz; clear zz)
    generalize RB = b at *
    clear e0 hl0 ca hRB
    generalize w.heap.size = KB at *
    generalize gl.length = ng at *
    generalize ll.length = nl at *
    refine region_dep (by kernel_rfl) hmsDeps (by kernel_rfl) (hmsInv b 0 lp nl lc gp ng gc x) ?h0 ?hstep ?hend
    case h0 =>
      refine ⟨?z16, ?z17, ?z18, ?z33, ?z34, ?z35, ?z36, ?z37, ?z38, ?z39, ?z40, ?z41, ?z42, ?z43, ?z44, ?fr, (BelowX.refl _ _ _).drew, (by simpa using hRr.drew), by simp, by simp, by simp, by simp, by simp, by simp, by simp, by simp, by simp, by simp, by simp, by simp, by simp, by simp, by simp⟩
      case fr =>
        simp only [sets, List.foldl_cons, List.foldl_nil, List.set_cons_succ, List.set_cons_zero]
        rfl
    case hend =>
      intro l' fr W hl hall hInv
      unfold hmsInv at hInv
      obtain ⟨s16, s17, s18, s33, s34, s35, s36, s37, s38, s39, s40, s41, s42, s43, s44, hInv⟩ := hInv
      obtain ⟨hfr, hB, g0, f0, f1, f2, f3, f4, f5, f6, f7, f8, f9, f10, f11, f12, f13, f14⟩ := hInv
      subst hfr
      obtain ⟨b0, b1, b2, b3, b4, b5, b6, b7, b8, b9, b10, b11, b12, b13, b14, rfl⟩ := list15 hl
      simp only [List.getD_cons_zero, List.getD_cons_succ] at g0 f0 f1 f2 f3 f4 f5 f6 f7 f8 f9 f10 f11 f12 f13 f14
      simp only [List.all_cons, id, Bool.and_eq_true] at hall
      obtain ⟨e0, e1, e2, e3, e4, e5, e6, e7, e8, e9, e10, e11, e12, e13, e14, -⟩ := hall
      obtain ⟨gA, lvA, lsA, rfl, kA, -, rA, tA, hoA⟩ := f12 e12
      obtain ⟨gG, lvG, lsG, rfl, kG, -, rG, tG, hoG⟩ := f13 e13
      obtain ⟨gL, y, rfl, kL, -, rL, tL, hoL⟩ := f14 e14
      have hg : RingM W b (0 + 85) := by simpa only [e2, e6, e10, Bool.toNat_true] using g0
      exact ⟨rfl, gA, gG, gL, lvA, lvG, lsA, lsG, y, by kernel_rfl, tA, tG, tL, hoA, hoG, hoL, hB, hg, ⟨kA, kG, kL⟩, rA, rG, rL⟩
    case hstep =>
      intro l' fr W ii hl hInv hr hi
      unfold hmsInv at hInv
      obtain ⟨s16, s17, s18, s33, s34, s35, s36, s37, s38, s39, s40, s41, s42, s43, s44, hInv⟩ := hInv
      obtain ⟨hfr, hB, g0, f0, f1, f2, f3, f4, f5, f6, f7, f8, f9, f10, f11, f12, f13, f14⟩ := hInv
      subst hfr
      obtain ⟨b0, b1, b2, b3, b4, b5, b6, b7, b8, b9, b10, b11, b12, b13, b14, rfl⟩ := list15 hl
      have sW := hB.size
      replace a0 := (hB.cell lX nX).trans a0
      replace a1 := (hB.cell lX nX).trans a1
      have hflags : b2.toNat ≤ 1 ∧ b6.toNat ≤ 1 ∧ b10.toNat ≤ 1 := ⟨Bool.toNat_le _, Bool.toNat_le _, Bool.toNat_le _⟩
      simp only [List.getD_cons_zero, List.getD_cons_succ] at g0 f0 f1 f2 f3 f4 f5 f6 f7 f8 f9 f10 f11 f12 f13 f14
      replace hB := Go.Lib.hid hB
      replace hi := Go.Lib.hid hi
      replace g0 := Go.Lib.hid g0
      replace f0 := Go.Lib.hid f0
      replace f1 := Go.Lib.hid f1
      replace f2 := Go.Lib.hid f2
      replace f3 := Go.Lib.hid f3
      replace f4 := Go.Lib.hid f4
      replace f5 := Go.Lib.hid f5
      replace f6 := Go.Lib.hid f6
      replace f7 := Go.Lib.hid f7
      replace f8 := Go.Lib.hid f8
      replace f9 := Go.Lib.hid f9
      replace f10 := Go.Lib.hid f10
      replace f11 := Go.Lib.hid f11
      replace f12 := Go.Lib.hid f12
      replace f13 := Go.Lib.hid f13
      replace f14 := Go.Lib.hid f14
      rcases ii with _ | _ | _ | _ | _ | _ | _ | _ | _ | _ | _ | _ | _ | _ | _ | ii
      · refine wpOp_step rfl (fun K hK => ?_)
        simp only [sets, List.foldl_cons, List.foldl_nil, List.set_cons_succ, List.set_cons_zero]
        go_simp
        exact hK _ _ ⟨s16, s17, s18, (.slice lp nl lc), s34, s35, s36, s37, s38, s39, s40, s41, s42, s43, s44, by kernel_rfl, hB.out, g0.out, fun _ => rfl, f1.out, f2.out, f3.out, f4.out, f5.out, f6.out, f7.out, f8.out, f9.out, f10.out, f11.out, f12.out, f13.out, f14.out⟩
      · refine wpOp_step rfl (fun K hK => ?_)
        simp only [sets, List.foldl_cons, List.foldl_nil, List.set_cons_succ, List.set_cons_zero]
        go_simp
        exact hK _ _ ⟨s16, s17, s18, s33, (.pointer (some ⟨b, 0, none⟩)), s35, s36, s37, s38, s39, s40, s41, s42, s43, s44, by kernel_rfl, hB.out, g0.out, f0.out, fun _ => rfl, f2.out, f3.out, f4.out, f5.out, f6.out, f7.out, f8.out, f9.out, f10.out, f11.out, f12.out, f13.out, f14.out⟩
      · simp only [hmsDeps, List.getD_cons_zero, List.getD_cons_succ, List.all_cons, List.all_nil, Bool.and_true] at hr
        have hd1 := hr
        obtain rfl := f1.out hd1
        have hi := hi.out
        simp only [List.getElem?_cons_zero, List.getElem?_cons_succ, Option.some.injEq] at hi
        subst hi
        refine wpOp_step rfl (fun K hK => ?_)
        simp only [sets, List.foldl_cons, List.foldl_nil, List.set_cons_succ, List.set_cons_zero]
        go_simp
        refine (LayersOf_y b (0 + (20 * false.toNat + 15 * b6.toNat + 50 * b10.toNat)) W (by have := hflags; simp only [Bool.toNat_false] at *; omega) g0.out).mono ?_
        rintro _ W6 ⟨z, lv, ls, rfl, ho, hn, hall, rfl, hr⟩
        exact hK _ _ ⟨s16, s17, s18, s33, (.pointer (some ⟨b, 0, none⟩)), (lv), s36, s37, s38, s39, s40, s41, s42, s43, s44, by kernel_rfl, hB.out.trans (z.grew.mono (by omega)), (hr.mono (by simp only [List.set_cons_succ, List.set_cons_zero, List.getD_cons_zero, List.getD_cons_succ, Bool.toNat_true, Bool.toNat_false]; omega)), f0.out, f1.out, (fun _ => ⟨lv, ls, rfl, ⟨hn, hall⟩, owns_base ho (by omega)⟩), (fun h => by obtain ⟨g, lv, ls, e, h1, h2, h3, h4, ho⟩ := f3.out h; exact ⟨g, lv, ls, e, h1, Nat.lt_of_lt_of_le h2 z.size, z.row h3 h2 (by omega), h4, owns_belowX ho (by omega) z.grew⟩), f4.out, f5.out, (fun h => by obtain ⟨lv, ls, e, h1, ho⟩ := f6.out h; exact ⟨lv, ls, e, h1, owns_belowX ho (by omega) z.grew⟩), (fun h => by obtain ⟨g, lv, ls, e, h1, h2, h3, h4, ho⟩ := f7.out h; exact ⟨g, lv, ls, e, h1, Nat.lt_of_lt_of_le h2 z.size, z.row h3 h2 (by omega), h4, owns_belowX ho (by omega) z.grew⟩), f8.out, f9.out, (fun h => by obtain ⟨y', e, h1, ho⟩ := f10.out h; exact ⟨y', e, h1, ho.rext (by omega) z⟩), (fun h => by obtain ⟨g, y', e, h1, h2, h3, h4, ho⟩ := f11.out h; exact ⟨g, y', e, h1, Nat.lt_of_lt_of_le h2 z.size, z.row h3 h2 (by omega), h4, ho.rext (by omega) z⟩), (fun h => by obtain ⟨g, lv, ls, e, h1, h2, h3, h4, ho⟩ := f12.out h; exact ⟨g, lv, ls, e, h1, Nat.lt_of_lt_of_le h2 z.size, z.row h3 h2 (by omega), h4, owns_belowX ho (by omega) z.grew⟩), (fun h => by obtain ⟨g, lv, ls, e, h1, h2, h3, h4, ho⟩ := f13.out h; exact ⟨g, lv, ls, e, h1, Nat.lt_of_lt_of_le h2 z.size, z.row h3 h2 (by omega), h4, owns_belowX ho (by omega) z.grew⟩), (fun h => by obtain ⟨g, y', e, h1, h2, h3, h4, ho⟩ := f14.out h; exact ⟨g, y', e, h1, Nat.lt_of_lt_of_le h2 z.size, z.row h3 h2 (by omega), h4, ho.rext (by omega) z⟩)⟩
      · simp only [hmsDeps, List.getD_cons_zero, List.getD_cons_succ, List.all_cons, List.all_nil, Bool.and_true, Bool.and_eq_true] at hr
        obtain ⟨hd0, hd2⟩ := hr
        obtain rfl := f0.out hd0
        obtain ⟨lv, ls, rfl, h1, ho⟩ := f2.out hd2
        obtain ⟨q2, d2, rfl⟩ := owns_form ho
        refine wpOp_step rfl (fun K hK => ?_)
        simp only [sets, List.foldl_cons, List.foldl_nil, List.set_cons_succ, List.set_cons_zero]
        go_simp
        exact hK _ _ ⟨s16, s17, s18, (.slice lp nl lc), s34, (.slice q2 ls.length d2), (.slice (some ⟨W.heap.size, 0, none⟩) 2 2), s37, s38, s39, s40, s41, s42, s43, s44, by kernel_rfl, hB.out.alloc (by omega) _, (g0.out.alloc _), f0.out, f1.out, (fun _ => ⟨_, ls, rfl, h1, ho.alloc _⟩), (fun _ => ⟨W.heap.size, _, ls, rfl, by omega, by simp only [World.size_alloc]; omega, heap_alloc_new _ _, h1, ho.alloc _⟩), f4.out, f5.out, (fun h => by obtain ⟨lv, ls, e, h1, ho⟩ := f6.out h; exact ⟨lv, ls, e, h1, ho.alloc _⟩), (fun h => by obtain ⟨g, lv, ls, e, h1, h2, h3, h4, ho⟩ := f7.out h; exact ⟨g, lv, ls, e, h1, by simp only [World.size_alloc]; omega, (heap_alloc_old _ _ h2).trans h3, h4, ho.alloc _⟩), f8.out, f9.out, (fun h => by obtain ⟨y', e, h1, ho⟩ := f10.out h; exact ⟨y', e, h1, ho.alloc _⟩), (fun h => by obtain ⟨g, y', e, h1, h2, h3, h4, ho⟩ := f11.out h; exact ⟨g, y', e, h1, by simp only [World.size_alloc]; omega, (heap_alloc_old _ _ h2).trans h3, h4, ho.alloc _⟩), (fun h => by obtain ⟨g, lv, ls, e, h1, h2, h3, h4, ho⟩ := f12.out h; exact ⟨g, lv, ls, e, h1, by simp only [World.size_alloc]; omega, (heap_alloc_old _ _ h2).trans h3, h4, ho.alloc _⟩), (fun h => by obtain ⟨g, lv, ls, e, h1, h2, h3, h4, ho⟩ := f13.out h; exact ⟨g, lv, ls, e, h1, by simp only [World.size_alloc]; omega, (heap_alloc_old _ _ h2).trans h3, h4, ho.alloc _⟩), (fun h => by obtain ⟨g, y', e, h1, h2, h3, h4, ho⟩ := f14.out h; exact ⟨g, y', e, h1, by simp only [World.size_alloc]; omega, (heap_alloc_old _ _ h2).trans h3, h4, ho.alloc _⟩)⟩
      · refine wpOp_step rfl (fun K hK => ?_)
        simp only [sets, List.foldl_cons, List.foldl_nil, List.set_cons_succ, List.set_cons_zero]
        go_simp
        exact hK _ _ ⟨s16, s17, s18, s33, s34, s35, s36, (.slice gp ng gc), s38, s39, s40, s41, s42, s43, s44, by kernel_rfl, hB.out, g0.out, f0.out, f1.out, f2.out, f3.out, fun _ => rfl, f5.out, f6.out, f7.out, f8.out, f9.out, f10.out, f11.out, f12.out, f13.out, f14.out⟩
      · refine wpOp_step rfl (fun K hK => ?_)
        simp only [sets, List.foldl_cons, List.foldl_nil, List.set_cons_succ, List.set_cons_zero]
        go_simp
        exact hK _ _ ⟨s16, s17, s18, s33, s34, s35, s36, s37, (.pointer (some ⟨b, 0, none⟩)), s39, s40, s41, s42, s43, s44, by kernel_rfl, hB.out, g0.out, f0.out, f1.out, f2.out, f3.out, f4.out, fun _ => rfl, f6.out, f7.out, f8.out, f9.out, f10.out, f11.out, f12.out, f13.out, f14.out⟩
      · simp only [hmsDeps, List.getD_cons_zero, List.getD_cons_succ, List.all_cons, List.all_nil, Bool.and_true] at hr
        have hd5 := hr
        obtain rfl := f5.out hd5
        have hi := hi.out
        simp only [List.getElem?_cons_zero, List.getElem?_cons_succ, Option.some.injEq] at hi
        subst hi
        refine wpOp_step rfl (fun K hK => ?_)
        simp only [sets, List.foldl_cons, List.foldl_nil, List.set_cons_succ, List.set_cons_zero]
        go_simp
        refine (GradesOf_y b (0 + (20 * b2.toNat + 15 * false.toNat + 50 * b10.toNat)) W (by have := hflags; simp only [Bool.toNat_false] at *; omega) g0.out).mono ?_
        rintro _ W6 ⟨z, lv, ls, rfl, ho, hgok, rfl, hr⟩
        exact hK _ _ ⟨s16, s17, s18, s33, s34, s35, s36, s37, (.pointer (some ⟨b, 0, none⟩)), (lv), s40, s41, s42, s43, s44, by kernel_rfl, hB.out.trans (z.grew.mono (by omega)), (hr.mono (by simp only [List.set_cons_succ, List.set_cons_zero, List.getD_cons_zero, List.getD_cons_succ, Bool.toNat_true, Bool.toNat_false]; omega)), f0.out, f1.out, (fun h => by obtain ⟨lv, ls, e, h1, ho⟩ := f2.out h; exact ⟨lv, ls, e, h1, owns_belowX ho (by omega) z.grew⟩), (fun h => by obtain ⟨g, lv, ls, e, h1, h2, h3, h4, ho⟩ := f3.out h; exact ⟨g, lv, ls, e, h1, Nat.lt_of_lt_of_le h2 z.size, z.row h3 h2 (by omega), h4, owns_belowX ho (by omega) z.grew⟩), f4.out, f5.out, (fun _ => ⟨lv, ls, rfl, hgok, owns_base ho (by omega)⟩), (fun h => by obtain ⟨g, lv, ls, e, h1, h2, h3, h4, ho⟩ := f7.out h; exact ⟨g, lv, ls, e, h1, Nat.lt_of_lt_of_le h2 z.size, z.row h3 h2 (by omega), h4, owns_belowX ho (by omega) z.grew⟩), f8.out, f9.out, (fun h => by obtain ⟨y', e, h1, ho⟩ := f10.out h; exact ⟨y', e, h1, ho.rext (by omega) z⟩), (fun h => by obtain ⟨g, y', e, h1, h2, h3, h4, ho⟩ := f11.out h; exact ⟨g, y', e, h1, Nat.lt_of_lt_of_le h2 z.size, z.row h3 h2 (by omega), h4, ho.rext (by omega) z⟩), (fun h => by obtain ⟨g, lv, ls, e, h1, h2, h3, h4, ho⟩ := f12.out h; exact ⟨g, lv, ls, e, h1, Nat.lt_of_lt_of_le h2 z.size, z.row h3 h2 (by omega), h4, owns_belowX ho (by omega) z.grew⟩), (fun h => by obtain ⟨g, lv, ls, e, h1, h2, h3, h4, ho⟩ := f13.out h; exact ⟨g, lv, ls, e, h1, Nat.lt_of_lt_of_le h2 z.size, z.row h3 h2 (by omega), h4, owns_belowX ho (by omega) z.grew⟩), (fun h => by obtain ⟨g, y', e, h1, h2, h3, h4, ho⟩ := f14.out h; exact ⟨g, y', e, h1, Nat.lt_of_lt_of_le h2 z.size, z.row h3 h2 (by omega), h4, ho.rext (by omega) z⟩)⟩
      · simp only [hmsDeps, List.getD_cons_zero, List.getD_cons_succ, List.all_cons, List.all_nil, Bool.and_true, Bool.and_eq_true] at hr
        obtain ⟨hd4, hd6⟩ := hr
        obtain rfl := f4.out hd4
        obtain ⟨lv, ls, rfl, h1, ho⟩ := f6.out hd6
        obtain ⟨q2, d2, rfl⟩ := owns_form ho
        refine wpOp_step rfl (fun K hK => ?_)
        simp only [sets, List.foldl_cons, List.foldl_nil, List.set_cons_succ, List.set_cons_zero]
        go_simp
        exact hK _ _ ⟨s16, s17, s18, s33, s34, s35, s36, (.slice gp ng gc), s38, (.slice q2 ls.length d2), (.slice (some ⟨W.heap.size, 0, none⟩) 2 2), s41, s42, s43, s44, by kernel_rfl, hB.out.alloc (by omega) _, (g0.out.alloc _), f0.out, f1.out, (fun h => by obtain ⟨lv, ls, e, h1, ho⟩ := f2.out h; exact ⟨lv, ls, e, h1, ho.alloc _⟩), (fun h => by obtain ⟨g, lv, ls, e, h1, h2, h3, h4, ho⟩ := f3.out h; exact ⟨g, lv, ls, e, h1, by simp only [World.size_alloc]; omega, (heap_alloc_old _ _ h2).trans h3, h4, ho.alloc _⟩), f4.out, f5.out, (fun _ => ⟨_, ls, rfl, h1, ho.alloc _⟩), (fun _ => ⟨W.heap.size, _, ls, rfl, by omega, by simp only [World.size_alloc]; omega, heap_alloc_new _ _, h1, ho.alloc _⟩), f8.out, f9.out, (fun h => by obtain ⟨y', e, h1, ho⟩ := f10.out h; exact ⟨y', e, h1, ho.alloc _⟩), (fun h => by obtain ⟨g, y', e, h1, h2, h3, h4, ho⟩ := f11.out h; exact ⟨g, y', e, h1, by simp only [World.size_alloc]; omega, (heap_alloc_old _ _ h2).trans h3, h4, ho.alloc _⟩), (fun h => by obtain ⟨g, lv, ls, e, h1, h2, h3, h4, ho⟩ := f12.out h; exact ⟨g, lv, ls, e, h1, by simp only [World.size_alloc]; omega, (heap_alloc_old _ _ h2).trans h3, h4, ho.alloc _⟩), (fun h => by obtain ⟨g, lv, ls, e, h1, h2, h3, h4, ho⟩ := f13.out h; exact ⟨g, lv, ls, e, h1, by simp only [World.size_alloc]; omega, (heap_alloc_old _ _ h2).trans h3, h4, ho.alloc _⟩), (fun h => by obtain ⟨g, y', e, h1, h2, h3, h4, ho⟩ := f14.out h; exact ⟨g, y', e, h1, by simp only [World.size_alloc]; omega, (heap_alloc_old _ _ h2).trans h3, h4, ho.alloc _⟩)⟩
      · refine wpOp_step rfl (fun K hK => ?_)
        simp only [sets, List.foldl_cons, List.foldl_nil, List.set_cons_succ, List.set_cons_zero]
        go_simp
        exact hK _ _ ⟨s16, s17, s18, s33, s34, s35, s36, s37, s38, s39, s40, (.agg #[.slice x.pp x.pl.length x.pc, .slice x.wp x.wl.length x.wc]), s42, s43, s44, by kernel_rfl, hB.out, g0.out, f0.out, f1.out, f2.out, f3.out, f4.out, f5.out, f6.out, f7.out, fun _ => rfl, f9.out, f10.out, f11.out, f12.out, f13.out, f14.out⟩
      · refine wpOp_step rfl (fun K hK => ?_)
        simp only [sets, List.foldl_cons, List.foldl_nil, List.set_cons_succ, List.set_cons_zero]
        go_simp
        exact hK _ _ ⟨s16, s17, s18, s33, s34, s35, s36, s37, s38, s39, s40, s41, (.pointer (some ⟨b, 0, none⟩)), s43, s44, by kernel_rfl, hB.out, g0.out, f0.out, f1.out, f2.out, f3.out, f4.out, f5.out, f6.out, f7.out, f8.out, fun _ => rfl, f10.out, f11.out, f12.out, f13.out, f14.out⟩
      · simp only [hmsDeps, List.getD_cons_zero, List.getD_cons_succ, List.all_cons, List.all_nil, Bool.and_true] at hr
        have hd9 := hr
        obtain rfl := f9.out hd9
        have hi := hi.out
        simp only [List.getElem?_cons_zero, List.getElem?_cons_succ, Option.some.injEq] at hi
        subst hi
        refine wpOp_step rfl (fun K hK => ?_)
        simp only [sets, List.foldl_cons, List.foldl_nil, List.set_cons_succ, List.set_cons_zero]
        go_simp
        refine (LandOf_z b (0 + (20 * b2.toNat + 15 * b6.toNat + 50 * false.toNat)) W (by have := hflags; simp only [Bool.toNat_false] at *; omega) g0.out).mono ?_
        rintro _ W6 ⟨z, y, rfl, ho, hyok, ⟨hy16, -⟩, rfl, hr⟩
        exact hK _ _ ⟨s16, s17, s18, s33, s34, s35, s36, s37, s38, s39, s40, s41, (.pointer (some ⟨b, 0, none⟩)), (.agg #[.slice y.pp y.pl.length y.pc, .slice y.wp y.wl.length y.wc]), s44, by kernel_rfl, hB.out.trans (z.grew.mono (by omega)), (hr.mono (by simp only [List.set_cons_succ, List.set_cons_zero, List.getD_cons_zero, List.getD_cons_succ, Bool.toNat_true, Bool.toNat_false]; omega)), f0.out, f1.out, (fun h => by obtain ⟨lv, ls, e, h1, ho⟩ := f2.out h; exact ⟨lv, ls, e, h1, owns_belowX ho (by omega) z.grew⟩), (fun h => by obtain ⟨g, lv, ls, e, h1, h2, h3, h4, ho⟩ := f3.out h; exact ⟨g, lv, ls, e, h1, Nat.lt_of_lt_of_le h2 z.size, z.row h3 h2 (by omega), h4, owns_belowX ho (by omega) z.grew⟩), f4.out, f5.out, (fun h => by obtain ⟨lv, ls, e, h1, ho⟩ := f6.out h; exact ⟨lv, ls, e, h1, owns_belowX ho (by omega) z.grew⟩), (fun h => by obtain ⟨g, lv, ls, e, h1, h2, h3, h4, ho⟩ := f7.out h; exact ⟨g, lv, ls, e, h1, Nat.lt_of_lt_of_le h2 z.size, z.row h3 h2 (by omega), h4, owns_belowX ho (by omega) z.grew⟩), f8.out, f9.out, (fun _ => ⟨y, rfl, ⟨hyok, hy16⟩, ho.base (by omega)⟩), (fun h => by obtain ⟨g, y', e, h1, h2, h3, h4, ho⟩ := f11.out h; exact ⟨g, y', e, h1, Nat.lt_of_lt_of_le h2 z.size, z.row h3 h2 (by omega), h4, ho.rext (by omega) z⟩), (fun h => by obtain ⟨g, lv, ls, e, h1, h2, h3, h4, ho⟩ := f12.out h; exact ⟨g, lv, ls, e, h1, Nat.lt_of_lt_of_le h2 z.size, z.row h3 h2 (by omega), h4, owns_belowX ho (by omega) z.grew⟩), (fun h => by obtain ⟨g, lv, ls, e, h1, h2, h3, h4, ho⟩ := f13.out h; exact ⟨g, lv, ls, e, h1, Nat.lt_of_lt_of_le h2 z.size, z.row h3 h2 (by omega), h4, owns_belowX ho (by omega) z.grew⟩), (fun h => by obtain ⟨g, y', e, h1, h2, h3, h4, ho⟩ := f14.out h; exact ⟨g, y', e, h1, Nat.lt_of_lt_of_le h2 z.size, z.row h3 h2 (by omega), h4, ho.rext (by omega) z⟩)⟩
      · simp only [hmsDeps, List.getD_cons_zero, List.getD_cons_succ, List.all_cons, List.all_nil, Bool.and_true, Bool.and_eq_true] at hr
        obtain ⟨hd8, hd10⟩ := hr
        obtain rfl := f8.out hd8
        obtain ⟨y, rfl, h1, ho⟩ := f10.out hd10
        refine wpOp_step rfl (fun K hK => ?_)
        simp only [sets, List.foldl_cons, List.foldl_nil, List.set_cons_succ, List.set_cons_zero]
        go_simp
        exact hK _ _ ⟨s16, s17, s18, s33, s34, s35, s36, s37, s38, s39, s40, (.agg #[.slice x.pp x.pl.length x.pc, .slice x.wp x.wl.length x.wc]), s42, (.agg #[.slice y.pp y.pl.length y.pc, .slice y.wp y.wl.length y.wc]), (.slice (some ⟨W.heap.size, 0, none⟩) 2 2), by kernel_rfl, hB.out.alloc (by omega) _, (g0.out.alloc _), f0.out, f1.out, (fun h => by obtain ⟨lv, ls, e, h1, ho⟩ := f2.out h; exact ⟨lv, ls, e, h1, ho.alloc _⟩), (fun h => by obtain ⟨g, lv, ls, e, h1, h2, h3, h4, ho⟩ := f3.out h; exact ⟨g, lv, ls, e, h1, by simp only [World.size_alloc]; omega, (heap_alloc_old _ _ h2).trans h3, h4, ho.alloc _⟩), f4.out, f5.out, (fun h => by obtain ⟨lv, ls, e, h1, ho⟩ := f6.out h; exact ⟨lv, ls, e, h1, ho.alloc _⟩), (fun h => by obtain ⟨g, lv, ls, e, h1, h2, h3, h4, ho⟩ := f7.out h; exact ⟨g, lv, ls, e, h1, by simp only [World.size_alloc]; omega, (heap_alloc_old _ _ h2).trans h3, h4, ho.alloc _⟩), f8.out, f9.out, (fun _ => ⟨y, rfl, h1, ho.alloc _⟩), (fun _ => ⟨W.heap.size, y, rfl, by omega, by simp only [World.size_alloc]; omega, heap_alloc_new _ _, h1, ho.alloc _⟩), (fun h => by obtain ⟨g, lv, ls, e, h1, h2, h3, h4, ho⟩ := f12.out h; exact ⟨g, lv, ls, e, h1, by simp only [World.size_alloc]; omega, (heap_alloc_old _ _ h2).trans h3, h4, ho.alloc _⟩), (fun h => by obtain ⟨g, lv, ls, e, h1, h2, h3, h4, ho⟩ := f13.out h; exact ⟨g, lv, ls, e, h1, by simp only [World.size_alloc]; omega, (heap_alloc_old _ _ h2).trans h3, h4, ho.alloc _⟩), (fun h => by obtain ⟨g, y', e, h1, h2, h3, h4, ho⟩ := f14.out h; exact ⟨g, y', e, h1, by simp only [World.size_alloc]; omega, (heap_alloc_old _ _ h2).trans h3, h4, ho.alloc _⟩)⟩
      · simp only [hmsDeps, List.getD_cons_zero, List.getD_cons_succ, List.all_cons, List.all_nil, Bool.and_true] at hr
        have hd3 := hr
        obtain ⟨g, lv, ls, rfl, h1, h2, h3, h4, ho⟩ := f3.out hd3
        refine wpOp_step rfl (fun K hK => ?_)
        simp only [sets, List.foldl_cons, List.foldl_nil, List.set_cons_succ, List.set_cons_zero]
        go_simp
        exact hK _ _ ⟨(.slice (some ⟨g, 0, none⟩) 2 2), s17, s18, s33, s34, s35, (.slice (some ⟨g, 0, none⟩) 2 2), s37, s38, s39, s40, s41, s42, s43, s44, by kernel_rfl, hB.out, g0.out, f0.out, f1.out, f2.out, (fun _ => ⟨g, lv, ls, rfl, h1, h2, h3, h4, ho⟩), f4.out, f5.out, f6.out, f7.out, f8.out, f9.out, f10.out, f11.out, (fun _ => ⟨g, lv, ls, rfl, h1, h2, h3, h4, ho⟩), f13.out, f14.out⟩
      · simp only [hmsDeps, List.getD_cons_zero, List.getD_cons_succ, List.all_cons, List.all_nil, Bool.and_true] at hr
        have hd7 := hr
        obtain ⟨g, lv, ls, rfl, h1, h2, h3, h4, ho⟩ := f7.out hd7
        refine wpOp_step rfl (fun K hK => ?_)
        simp only [sets, List.foldl_cons, List.foldl_nil, List.set_cons_succ, List.set_cons_zero]
        go_simp
        exact hK _ _ ⟨s16, (.slice (some ⟨g, 0, none⟩) 2 2), s18, s33, s34, s35, s36, s37, s38, s39, (.slice (some ⟨g, 0, none⟩) 2 2), s41, s42, s43, s44, by kernel_rfl, hB.out, g0.out, f0.out, f1.out, f2.out, f3.out, f4.out, f5.out, f6.out, (fun _ => ⟨g, lv, ls, rfl, h1, h2, h3, h4, ho⟩), f8.out, f9.out, f10.out, f11.out, f12.out, (fun _ => ⟨g, lv, ls, rfl, h1, h2, h3, h4, ho⟩), f14.out⟩
      · simp only [hmsDeps, List.getD_cons_zero, List.getD_cons_succ, List.all_cons, List.all_nil, Bool.and_true] at hr
        have hd11 := hr
        obtain ⟨g, y, rfl, h1, h2, h3, h4, ho⟩ := f11.out hd11
        refine wpOp_step rfl (fun K hK => ?_)
        simp only [sets, List.foldl_cons, List.foldl_nil, List.set_cons_succ, List.set_cons_zero]
        go_simp
        exact hK _ _ ⟨s16, s17, (.slice (some ⟨g, 0, none⟩) 2 2), s33, s34, s35, s36, s37, s38, s39, s40, s41, s42, s43, (.slice (some ⟨g, 0, none⟩) 2 2), by kernel_rfl, hB.out, g0.out, f0.out, f1.out, f2.out, f3.out, f4.out, f5.out, f6.out, f7.out, f8.out, f9.out, f10.out, (fun _ => ⟨g, y, rfl, h1, h2, h3, h4, ho⟩), f12.out, f13.out, (fun _ => ⟨g, y, rfl, h1, h2, h3, h4, ho⟩)⟩
      · have hi := hi.out; simp at hi
  rintro a4 W4 ⟨gA, gG, gL, lvA, lvG, lsA, lsG, y, ha4, tA, tG, ⟨hyok, hy16⟩, hoA, hoG, hoL, hB4, hR4, ⟨kA, kG, kL⟩, rA, rG, rL⟩
  generalize a4.tmps.getD 16 undef = s16 at ha4
  generalize a4.tmps.getD 17 undef = s17 at ha4
  generalize a4.tmps.getD 18 undef = s18 at ha4
  generalize a4.tmps.getD 33 undef = s33 at ha4
  generalize a4.tmps.getD 34 undef = s34 at ha4
  generalize a4.tmps.getD 35 undef = s35 at ha4
  generalize a4.tmps.getD 36 undef = s36 at ha4
  generalize a4.tmps.getD 37 undef = s37 at ha4
  generalize a4.tmps.getD 38 undef = s38 at ha4
  generalize a4.tmps.getD 39 undef = s39 at ha4
  generalize a4.tmps.getD 40 undef = s40 at ha4
  generalize a4.tmps.getD 41 undef = s41 at ha4
  generalize a4.tmps.getD 42 undef = s42 at ha4
  generalize a4.tmps.getD 43 undef = s43 at ha4
  generalize a4.tmps.getD 44 undef = s44 at ha4
  subst ha4
  simp only [sets, List.foldl_cons, List.foldl_nil, List.set_cons_succ, List.set_cons_zero]
  have sB4 := hB4.size
  have hB5 : Below w.heap.size w W4 := ((BelowX.of hnew).trans (hB4.mono (by omega))).below (by omega)
  have lRB : RB < Wr.heap.size := by omega
  obtain ⟨p2, c2, rfl⟩ := owns_form hoA
  have c0 : W4.cell? ⟨gA, 1, none⟩ = some (.slice p2 lsA.length c2) := (cell_of_row W4 _ 1 _ _ _ rA).trans rfl
  have c1 : W4.cell? ⟨gL, 2, none⟩ = some (.slice y.pp y.pl.length y.pc) := (cell_of_row W4 _ 2 _ _ _ rL).trans rfl
  have lA : gA < W4.heap.size := row_lt rA
  have lL : gL < W4.heap.size := row_lt rL
  have lG : gG < W4.heap.size := row_lt rG
  have nA : gA ≠ RB := by omega
  have nL : gL ≠ RB := by omega
  have nG : gG ≠ RB := by omega
  have ypos : (0 : Int) < y.pl.length ∧ (y.pl.length : Int) ≤ 16 := by have := hyok.pos; omega
  have apos : (lsA.length : Int) ≤ 6 := by have := tA.len; omega
  clear a0 a1 lX nX
  go_upto_region 5 with (first | ((first | with_reducible refine wp_region_ext2 (by kernel_rfl) (by kernel_rfl) ?_ | with_reducible refine wp_region_ext (by kernel_rfl) (by kernel_rfl) ?_); (repeat (first | go_big_quiet_step ((first | fail)) | quiet_step ((first | fail)))); refine wpQuiet_nil ?_; rintro _ ⟨yr, rfl⟩; have syr := Ext.size yr; (repeat (first | rw [World.size_alloc] at syr | rw [World.size_setCell] at syr | rw [World.size_drew] at syr))))
  refine wp_tell (hm5Told RB la a lsA.length y) ?_ ?_
  focus
    have hRr := hR4
    have hbX := hR4.lt
    clear hlim hl hg hx hw ca hoA hoG hoL rA rL rG hB4 hB5 hlr tA tG hyok hR4 hnew
    repeat (rename_i zz; clear zz)
    generalize RB = b at *
    generalize lsA.length = n2 at *
    refine region_dep (by kernel_rfl) hm5Deps (by kernel_rfl) (hm5Inv b 85 la a gA gL n2 c2 p2 y) ?h0 ?hstep ?hend
    case h0 =>
      refine ⟨?z19, ?z20, ?z45, ?z46, ?z47, ?z48, ?z49, ?z50, ?z51, ?z52, ?z53, ?z54, ?z55, ?z56, ?z57, ?z58, ?z59, ?z60, ?z61, ?z62, ?fr, (BelowX.refl _ _ _).drew, (by simpa using hRr.drew), by simp, by simp, by simp, by simp, by simp, by simp, by simp, by simp, by simp, by simp, by simp, by simp, by simp, by simp, by simp, by simp, by simp, by simp, by simp, by simp⟩
      case fr =>
        simp only [sets, List.foldl_cons, List.foldl_nil, List.set_cons_succ, List.set_cons_zero]
        rfl
    case hend =>
      intro l' fr W hl hall hInv
      unfold hm5Inv at hInv
      obtain ⟨s19, s20, s45, s46, s47, s48, s49, s50, s51, s52, s53, s54, s55, s56, s57, s58, s59, s60, s61, s62, hInv⟩ := hInv
      obtain ⟨hfr, hB, g0, f0, f1, f2, f3, f4, f5, f6, f7, f8, f9, f10, f11, f12, f13, f14, f15, f16, f17, f18, f19⟩ := hInv
      subst hfr
      obtain ⟨b0, b1, b2, b3, b4, b5, b6, b7, b8, b9, b10, b11, b12, b13, b14, b15, b16, b17, b18, b19, rfl⟩ := list20 hl
      simp only [List.getD_cons_zero, List.getD_cons_succ] at g0 f0 f1 f2 f3 f4 f5 f6 f7 f8 f9 f10 f11 f12 f13 f14 f15 f16 f17 f18 f19
      simp only [List.all_cons, id, Bool.and_eq_true] at hall
      obtain ⟨e0, e1, e2, e3, e4, e5, e6, e7, e8, e9, e10, e11, e12, e13, e14, e15, e16, e17, e18, e19, -⟩ := hall
      obtain ⟨g1, v1, rfl, -, -, r1, w1⟩ := f18 e18
      obtain ⟨g2, v2, rfl, -, -, r2, w2⟩ := f19 e19
      exact ⟨rfl, g1, g2, v1, v2, by kernel_rfl, hB, r1, r2, w1, w2⟩
    case hstep =>
      intro l' fr W ii hl hInv hr hi
      unfold hm5Inv at hInv
      obtain ⟨s19, s20, s45, s46, s47, s48, s49, s50, s51, s52, s53, s54, s55, s56, s57, s58, s59, s60, s61, s62, hInv⟩ := hInv
      obtain ⟨hfr, hB, g0, f0, f1, f2, f3, f4, f5, f6, f7, f8, f9, f10, f11, f12, f13, f14, f15, f16, f17, f18, f19⟩ := hInv
      subst hfr
      obtain ⟨b0, b1, b2, b3, b4, b5, b6, b7, b8, b9, b10, b11, b12, b13, b14, b15, b16, b17, b18, b19, rfl⟩ := list20 hl
      have sW := hB.size
      have wr := Go.Lib.hid (IntWalk.i64_in ((n2 : Int) + 1) ⟨by omega, by omega⟩)
      replace c0 := (hB.cell lA nA).trans c0
      replace c1 := (hB.cell lL nL).trans c1
      have hflags : b7.toNat ≤ 1 ∧ b16.toNat ≤ 1 := ⟨Bool.toNat_le _, Bool.toNat_le _⟩
      simp only [List.getD_cons_zero, List.getD_cons_succ] at g0 f0 f1 f2 f3 f4 f5 f6 f7 f8 f9 f10 f11 f12 f13 f14 f15 f16 f17 f18 f19
      replace hB := Go.Lib.hid hB
      replace hi := Go.Lib.hid hi
      replace g0 := Go.Lib.hid g0
      replace f0 := Go.Lib.hid f0
      replace f1 := Go.Lib.hid f1
      replace f2 := Go.Lib.hid f2
      replace f3 := Go.Lib.hid f3
      replace f4 := Go.Lib.hid f4
      replace f5 := Go.Lib.hid f5
      replace f6 := Go.Lib.hid f6
      replace f7 := Go.Lib.hid f7
      replace f8 := Go.Lib.hid f8
      replace f9 := Go.Lib.hid f9
      replace f10 := Go.Lib.hid f10
      replace f11 := Go.Lib.hid f11
      replace f12 := Go.Lib.hid f12
      replace f13 := Go.Lib.hid f13
      replace f14 := Go.Lib.hid f14
      replace f15 := Go.Lib.hid f15
      replace f16 := Go.Lib.hid f16
      replace f17 := Go.Lib.hid f17
      replace f18 := Go.Lib.hid f18
      replace f19 := Go.Lib.hid f19
      rcases ii with _ | _ | _ | _ | _ | _ | _ | _ | _ | _ | _ | _ | _ | _ | _ | _ | _ | _ | _ | _ | ii
      · refine wpOp_step rfl (fun K hK => ?_)
        simp only [sets, List.foldl_cons, List.foldl_nil, List.set_cons_succ, List.set_cons_zero]
        go_simp
        exact hK _ _ ⟨s19, s20, (.int .i64 la), s46, s47, s48, s49, s50, s51, s52, s53, s54, s55, s56, s57, s58, s59, s60, s61, s62, by kernel_rfl, hB.out, g0.out, fun _ => rfl, f1.out, f2.out, f3.out, f4.out, f5.out, f6.out, f7.out, f8.out, f9.out, f10.out, f11.out, f12.out, f13.out, f14.out, f15.out, f16.out, f17.out, f18.out, f19.out⟩
      · refine wpOp_step rfl (fun K hK => ?_)
        simp only [sets, List.foldl_cons, List.foldl_nil, List.set_cons_succ, List.set_cons_zero]
        go_simp
        exact hK _ _ ⟨s19, s20, s45, (.pointer (some ⟨b, 0, none⟩)), s47, s48, s49, s50, s51, s52, s53, s54, s55, s56, s57, s58, s59, s60, s61, s62, by kernel_rfl, hB.out, g0.out, f0.out, fun _ => rfl, f2.out, f3.out, f4.out, f5.out, f6.out, f7.out, f8.out, f9.out, f10.out, f11.out, f12.out, f13.out, f14.out, f15.out, f16.out, f17.out, f18.out, f19.out⟩
      · refine wpOp_step rfl (fun K hK => ?_)
        simp only [sets, List.foldl_cons, List.foldl_nil, List.set_cons_succ, List.set_cons_zero]
        go_simp
        exact hK _ _ ⟨s19, s20, s45, s46, (.slice (some ⟨gA, 0, none⟩) 2 2), s48, s49, s50, s51, s52, s53, s54, s55, s56, s57, s58, s59, s60, s61, s62, by kernel_rfl, hB.out, g0.out, f0.out, f1.out, fun _ => rfl, f3.out, f4.out, f5.out, f6.out, f7.out, f8.out, f9.out, f10.out, f11.out, f12.out, f13.out, f14.out, f15.out, f16.out, f17.out, f18.out, f19.out⟩
      · simp only [hm5Deps, List.getD_cons_zero, List.getD_cons_succ, List.all_cons, List.all_nil, Bool.and_true] at hr
        have hd2 := hr
        obtain rfl := f2.out hd2
        refine wpOp_step rfl (fun K hK => ?_)
        simp only [sets, List.foldl_cons, List.foldl_nil, List.set_cons_succ, List.set_cons_zero]
        go_simp
        exact hK _ _ ⟨s19, s20, s45, s46, (.slice (some ⟨gA, 0, none⟩) 2 2), (.pointer (some ⟨gA, 1, none⟩)), s49, s50, s51, s52, s53, s54, s55, s56, s57, s58, s59, s60, s61, s62, by kernel_rfl, hB.out, g0.out, f0.out, f1.out, f2.out, fun _ => rfl, f4.out, f5.out, f6.out, f7.out, f8.out, f9.out, f10.out, f11.out, f12.out, f13.out, f14.out, f15.out, f16.out, f17.out, f18.out, f19.out⟩
      · simp only [hm5Deps, List.getD_cons_zero, List.getD_cons_succ, List.all_cons, List.all_nil, Bool.and_true] at hr
        have hd3 := hr
        obtain rfl := f3.out hd3
        refine wpOp_step rfl (fun K hK => ?_)
        simp only [sets, List.foldl_cons, List.foldl_nil, List.set_cons_succ, List.set_cons_zero]
        go_simp
        exact hK _ _ ⟨s19, s20, s45, s46, s47, (.pointer (some ⟨gA, 1, none⟩)), (.slice p2 n2 c2), s50, s51, s52, s53, s54, s55, s56, s57, s58, s59, s60, s61, s62, by kernel_rfl, hB.out, g0.out, f0.out, f1.out, f2.out, f3.out, fun _ => rfl, f5.out, f6.out, f7.out, f8.out, f9.out, f10.out, f11.out, f12.out, f13.out, f14.out, f15.out, f16.out, f17.out, f18.out, f19.out⟩
      · simp only [hm5Deps, List.getD_cons_zero, List.getD_cons_succ, List.all_cons, List.all_nil, Bool.and_true] at hr
        have hd4 := hr
        obtain rfl := f4.out hd4
        refine wpOp_step rfl (fun K hK => ?_)
        simp only [sets, List.foldl_cons, List.foldl_nil, List.set_cons_succ, List.set_cons_zero]
        go_simp
        exact hK _ _ ⟨s19, s20, s45, s46, s47, s48, (.slice p2 n2 c2), (.int .i64 n2), s51, s52, s53, s54, s55, s56, s57, s58, s59, s60, s61, s62, by kernel_rfl, hB.out, g0.out, f0.out, f1.out, f2.out, f3.out, f4.out, fun _ => rfl, f6.out, f7.out, f8.out, f9.out, f10.out, f11.out, f12.out, f13.out, f14.out, f15.out, f16.out, f17.out, f18.out, f19.out⟩
      · simp only [hm5Deps, List.getD_cons_zero, List.getD_cons_succ, List.all_cons, List.all_nil, Bool.and_true] at hr
        have hd5 := hr
        obtain rfl := f5.out hd5
        refine wpOp_step rfl (fun K hK => ?_)
        simp only [sets, List.foldl_cons, List.foldl_nil, List.set_cons_succ, List.set_cons_zero]
        go_simp
        rw [wr.out]
        exact hK _ _ ⟨s19, s20, s45, s46, s47, s48, s49, (.int .i64 n2), (.int .i64 ((n2 : Int) + 1)), s52, s53, s54, s55, s56, s57, s58, s59, s60, s61, s62, by kernel_rfl, hB.out, g0.out, f0.out, f1.out, f2.out, f3.out, f4.out, f5.out, fun _ => rfl, f7.out, f8.out, f9.out, f10.out, f11.out, f12.out, f13.out, f14.out, f15.out, f16.out, f17.out, f18.out, f19.out⟩
      · simp only [hm5Deps, List.getD_cons_zero, List.getD_cons_succ, List.all_cons, List.all_nil, Bool.and_true, Bool.and_eq_true] at hr
        obtain ⟨hd1, hd6⟩ := hr
        obtain rfl := f1.out hd1
        obtain rfl := f6.out hd6
        have hi := hi.out
        simp only [List.getElem?_cons_zero, List.getElem?_cons_succ, Option.some.injEq] at hi
        subst hi
        refine wpOp_step rfl (fun K hK => ?_)
        simp only [sets, List.foldl_cons, List.foldl_nil, List.set_cons_succ, List.set_cons_zero]
        go_simp
        refine (Next_y ((n2 : Int) + 1) b (85 + (1 * false.toNat + 1 * b16.toNat)) W (by have := hflags; simp only [Bool.toNat_false] at *; omega) (by omega) (by omega) g0.out).mono ?_
        rintro _ W6 ⟨z, v, rfl, hv, rfl, hr⟩
        exact hK _ _ ⟨s19, s20, s45, (.pointer (some ⟨b, 0, none⟩)), s47, s48, s49, s50, (.int .i64 ((n2 : Int) + 1)), (.int .i64 v), s53, s54, s55, s56, s57, s58, s59, s60, s61, s62, by kernel_rfl, hB.out.trans (z.grew.mono (by omega)), (hr.mono (by simp only [List.set_cons_succ, List.set_cons_zero, List.getD_cons_zero, List.getD_cons_succ, Bool.toNat_true, Bool.toNat_false]; omega)), f0.out, f1.out, f2.out, f3.out, f4.out, f5.out, f6.out, (fun _ => ⟨v, rfl, hv⟩), (fun h => by obtain ⟨g, v, e, h1, h2, h3, h4⟩ := f8.out h; exact ⟨g, v, e, h1, Nat.lt_of_lt_of_le h2 z.size, z.row h3 h2 (by omega), h4⟩), f9.out, f10.out, f11.out, f12.out, f13.out, f14.out, f15.out, f16.out, (fun h => by obtain ⟨g, v, e, h1, h2, h3, h4⟩ := f17.out h; exact ⟨g, v, e, h1, Nat.lt_of_lt_of_le h2 z.size, z.row h3 h2 (by omega), h4⟩), (fun h => by obtain ⟨g, v, e, h1, h2, h3, h4⟩ := f18.out h; exact ⟨g, v, e, h1, Nat.lt_of_lt_of_le h2 z.size, z.row h3 h2 (by omega), h4⟩), (fun h => by obtain ⟨g, v, e, h1, h2, h3, h4⟩ := f19.out h; exact ⟨g, v, e, h1, Nat.lt_of_lt_of_le h2 z.size, z.row h3 h2 (by omega), h4⟩)⟩
      · simp only [hm5Deps, List.getD_cons_zero, List.getD_cons_succ, List.all_cons, List.all_nil, Bool.and_true, Bool.and_eq_true] at hr
        obtain ⟨hd0, hd7⟩ := hr
        obtain rfl := f0.out hd0
        obtain ⟨v, rfl, hv⟩ := f7.out hd7
        refine wpOp_step rfl (fun K hK => ?_)
        simp only [sets, List.foldl_cons, List.foldl_nil, List.set_cons_succ, List.set_cons_zero]
        go_simp
        exact hK _ _ ⟨s19, s20, (.int .i64 la), s46, s47, s48, s49, s50, s51, (.int .i64 v), (.slice (some ⟨W.heap.size, 0, none⟩) 2 2), s54, s55, s56, s57, s58, s59, s60, s61, s62, by kernel_rfl, hB.out.alloc (by omega) _, (g0.out.alloc _), f0.out, f1.out, f2.out, f3.out, f4.out, f5.out, f6.out, (fun _ => ⟨v, rfl, hv⟩), (fun _ => ⟨W.heap.size, v, rfl, by omega, by simp only [World.size_alloc]; omega, heap_alloc_new _ _, hv⟩), f9.out, f10.out, f11.out, f12.out, f13.out, f14.out, f15.out, f16.out, (fun h => by obtain ⟨g, v, e, h1, h2, h3, h4⟩ := f17.out h; exact ⟨g, v, e, h1, by simp only [World.size_alloc]; omega, (heap_alloc_old _ _ h2).trans h3, h4⟩), (fun h => by obtain ⟨g, v, e, h1, h2, h3, h4⟩ := f18.out h; exact ⟨g, v, e, h1, by simp only [World.size_alloc]; omega, (heap_alloc_old _ _ h2).trans h3, h4⟩), (fun h => by obtain ⟨g, v, e, h1, h2, h3, h4⟩ := f19.out h; exact ⟨g, v, e, h1, by simp only [World.size_alloc]; omega, (heap_alloc_old _ _ h2).trans h3, h4⟩)⟩
      · refine wpOp_step rfl (fun K hK => ?_)
        simp only [sets, List.foldl_cons, List.foldl_nil, List.set_cons_succ, List.set_cons_zero]
        go_simp
        exact hK _ _ ⟨s19, s20, s45, s46, s47, s48, s49, s50, s51, s52, s53, (.int .i64 a), s55, s56, s57, s58, s59, s60, s61, s62, by kernel_rfl, hB.out, g0.out, f0.out, f1.out, f2.out, f3.out, f4.out, f5.out, f6.out, f7.out, f8.out, fun _ => rfl, f10.out, f11.out, f12.out, f13.out, f14.out, f15.out, f16.out, f17.out, f18.out, f19.out⟩
      · refine wpOp_step rfl (fun K hK => ?_)
        simp only [sets, List.foldl_cons, List.foldl_nil, List.set_cons_succ, List.set_cons_zero]
        go_simp
        exact hK _ _ ⟨s19, s20, s45, s46, s47, s48, s49, s50, s51, s52, s53, s54, (.pointer (some ⟨b, 0, none⟩)), s56, s57, s58, s59, s60, s61, s62, by kernel_rfl, hB.out, g0.out, f0.out, f1.out, f2.out, f3.out, f4.out, f5.out, f6.out, f7.out, f8.out, f9.out, fun _ => rfl, f11.out, f12.out, f13.out, f14.out, f15.out, f16.out, f17.out, f18.out, f19.out⟩
      · refine wpOp_step rfl (fun K hK => ?_)
        simp only [sets, List.foldl_cons, List.foldl_nil, List.set_cons_succ, List.set_cons_zero]
        go_simp
        exact hK _ _ ⟨s19, s20, s45, s46, s47, s48, s49, s50, s51, s52, s53, s54, s55, (.slice (some ⟨gL, 0, none⟩) 2 2), s57, s58, s59, s60, s61, s62, by kernel_rfl, hB.out, g0.out, f0.out, f1.out, f2.out, f3.out, f4.out, f5.out, f6.out, f7.out, f8.out, f9.out, f10.out, fun _ => rfl, f12.out, f13.out, f14.out, f15.out, f16.out, f17.out, f18.out, f19.out⟩
      · simp only [hm5Deps, List.getD_cons_zero, List.getD_cons_succ, List.all_cons, List.all_nil, Bool.and_true] at hr
        have hd11 := hr
        obtain rfl := f11.out hd11
        refine wpOp_step rfl (fun K hK => ?_)
        simp only [sets, List.foldl_cons, List.foldl_nil, List.set_cons_succ, List.set_cons_zero]
        go_simp
        exact hK _ _ ⟨s19, s20, s45, s46, s47, s48, s49, s50, s51, s52, s53, s54, s55, (.slice (some ⟨gL, 0, none⟩) 2 2), (.pointer (some ⟨gL, 2, none⟩)), s58, s59, s60, s61, s62, by kernel_rfl, hB.out, g0.out, f0.out, f1.out, f2.out, f3.out, f4.out, f5.out, f6.out, f7.out, f8.out, f9.out, f10.out, f11.out, fun _ => rfl, f13.out, f14.out, f15.out, f16.out, f17.out, f18.out, f19.out⟩
      · simp only [hm5Deps, List.getD_cons_zero, List.getD_cons_succ, List.all_cons, List.all_nil, Bool.and_true] at hr
        have hd12 := hr
        obtain rfl := f12.out hd12
        refine wpOp_step rfl (fun K hK => ?_)
        simp only [sets, List.foldl_cons, List.foldl_nil, List.set_cons_succ, List.set_cons_zero]
        go_simp
        exact hK _ _ ⟨s19, s20, s45, s46, s47, s48, s49, s50, s51, s52, s53, s54, s55, s56, (.pointer (some ⟨gL, 2, none⟩)), (.pointer (some ⟨gL, 2, none⟩)), s59, s60, s61, s62, by kernel_rfl, hB.out, g0.out, f0.out, f1.out, f2.out, f3.out, f4.out, f5.out, f6.out, f7.out, f8.out, f9.out, f10.out, f11.out, f12.out, fun _ => rfl, f14.out, f15.out, f16.out, f17.out, f18.out, f19.out⟩
      · simp only [hm5Deps, List.getD_cons_zero, List.getD_cons_succ, List.all_cons, List.all_nil, Bool.and_true] at hr
        have hd13 := hr
        obtain rfl := f13.out hd13
        refine wpOp_step rfl (fun K hK => ?_)
        simp only [sets, List.foldl_cons, List.foldl_nil, List.set_cons_succ, List.set_cons_zero]
        go_simp
        exact hK _ _ ⟨s19, s20, s45, s46, s47, s48, s49, s50, s51, s52, s53, s54, s55, s56, s57, (.pointer (some ⟨gL, 2, none⟩)), (.slice y.pp y.pl.length y.pc), s60, s61, s62, by kernel_rfl, hB.out, g0.out, f0.out, f1.out, f2.out, f3.out, f4.out, f5.out, f6.out, f7.out, f8.out, f9.out, f10.out, f11.out, f12.out, f13.out, fun _ => rfl, f15.out, f16.out, f17.out, f18.out, f19.out⟩
      · simp only [hm5Deps, List.getD_cons_zero, List.getD_cons_succ, List.all_cons, List.all_nil, Bool.and_true] at hr
        have hd14 := hr
        obtain rfl := f14.out hd14
        refine wpOp_step rfl (fun K hK => ?_)
        simp only [sets, List.foldl_cons, List.foldl_nil, List.set_cons_succ, List.set_cons_zero]
        go_simp
        exact hK _ _ ⟨s19, s20, s45, s46, s47, s48, s49, s50, s51, s52, s53, s54, s55, s56, s57, s58, (.slice y.pp y.pl.length y.pc), (.int .i64 y.pl.length), s61, s62, by kernel_rfl, hB.out, g0.out, f0.out, f1.out, f2.out, f3.out, f4.out, f5.out, f6.out, f7.out, f8.out, f9.out, f10.out, f11.out, f12.out, f13.out, f14.out, fun _ => rfl, f16.out, f17.out, f18.out, f19.out⟩
      · simp only [hm5Deps, List.getD_cons_zero, List.getD_cons_succ, List.all_cons, List.all_nil, Bool.and_true, Bool.and_eq_true] at hr
        obtain ⟨hd10, hd15⟩ := hr
        obtain rfl := f10.out hd10
        obtain rfl := f15.out hd15
        have hi := hi.out
        simp only [List.getElem?_cons_zero, List.getElem?_cons_succ, Option.some.injEq] at hi
        subst hi
        refine wpOp_step rfl (fun K hK => ?_)
        simp only [sets, List.foldl_cons, List.foldl_nil, List.set_cons_succ, List.set_cons_zero]
        go_simp
        refine (Next_y y.pl.length b (85 + (1 * b7.toNat + 1 * false.toNat)) W (by have := hflags; simp only [Bool.toNat_false] at *; omega) (by omega) (by omega) g0.out).mono ?_
        rintro _ W6 ⟨z, v, rfl, hv, rfl, hr⟩
        exact hK _ _ ⟨s19, s20, s45, s46, s47, s48, s49, s50, s51, s52, s53, s54, (.pointer (some ⟨b, 0, none⟩)), s56, s57, s58, s59, (.int .i64 y.pl.length), (.int .i64 v), s62, by kernel_rfl, hB.out.trans (z.grew.mono (by omega)), (hr.mono (by simp only [List.set_cons_succ, List.set_cons_zero, List.getD_cons_zero, List.getD_cons_succ, Bool.toNat_true, Bool.toNat_false]; omega)), f0.out, f1.out, f2.out, f3.out, f4.out, f5.out, f6.out, f7.out, (fun h => by obtain ⟨g, v, e, h1, h2, h3, h4⟩ := f8.out h; exact ⟨g, v, e, h1, Nat.lt_of_lt_of_le h2 z.size, z.row h3 h2 (by omega), h4⟩), f9.out, f10.out, f11.out, f12.out, f13.out, f14.out, f15.out, (fun _ => ⟨v, rfl, hv⟩), (fun h => by obtain ⟨g, v, e, h1, h2, h3, h4⟩ := f17.out h; exact ⟨g, v, e, h1, Nat.lt_of_lt_of_le h2 z.size, z.row h3 h2 (by omega), h4⟩), (fun h => by obtain ⟨g, v, e, h1, h2, h3, h4⟩ := f18.out h; exact ⟨g, v, e, h1, Nat.lt_of_lt_of_le h2 z.size, z.row h3 h2 (by omega), h4⟩), (fun h => by obtain ⟨g, v, e, h1, h2, h3, h4⟩ := f19.out h; exact ⟨g, v, e, h1, Nat.lt_of_lt_of_le h2 z.size, z.row h3 h2 (by omega), h4⟩)⟩
      · simp only [hm5Deps, List.getD_cons_zero, List.getD_cons_succ, List.all_cons, List.all_nil, Bool.and_true, Bool.and_eq_true] at hr
        obtain ⟨hd9, hd16⟩ := hr
        obtain rfl := f9.out hd9
        obtain ⟨v, rfl, hv⟩ := f16.out hd16
        refine wpOp_step rfl (fun K hK => ?_)
        simp only [sets, List.foldl_cons, List.foldl_nil, List.set_cons_succ, List.set_cons_zero]
        go_simp
        exact hK _ _ ⟨s19, s20, s45, s46, s47, s48, s49, s50, s51, s52, s53, (.int .i64 a), s55, s56, s57, s58, s59, s60, (.int .i64 v), (.slice (some ⟨W.heap.size, 0, none⟩) 2 2), by kernel_rfl, hB.out.alloc (by omega) _, (g0.out.alloc _), f0.out, f1.out, f2.out, f3.out, f4.out, f5.out, f6.out, f7.out, (fun h => by obtain ⟨g, v, e, h1, h2, h3, h4⟩ := f8.out h; exact ⟨g, v, e, h1, by simp only [World.size_alloc]; omega, (heap_alloc_old _ _ h2).trans h3, h4⟩), f9.out, f10.out, f11.out, f12.out, f13.out, f14.out, f15.out, (fun _ => ⟨v, rfl, hv⟩), (fun _ => ⟨W.heap.size, v, rfl, by omega, by simp only [World.size_alloc]; omega, heap_alloc_new _ _, hv⟩), (fun h => by obtain ⟨g, v, e, h1, h2, h3, h4⟩ := f18.out h; exact ⟨g, v, e, h1, by simp only [World.size_alloc]; omega, (heap_alloc_old _ _ h2).trans h3, h4⟩), (fun h => by obtain ⟨g, v, e, h1, h2, h3, h4⟩ := f19.out h; exact ⟨g, v, e, h1, by simp only [World.size_alloc]; omega, (heap_alloc_old _ _ h2).trans h3, h4⟩)⟩
      · simp only [hm5Deps, List.getD_cons_zero, List.getD_cons_succ, List.all_cons, List.all_nil, Bool.and_true] at hr
        have hd8 := hr
        obtain ⟨g, v, rfl, h1, h2, h3, h4⟩ := f8.out hd8
        refine wpOp_step rfl (fun K hK => ?_)
        simp only [sets, List.foldl_cons, List.foldl_nil, List.set_cons_succ, List.set_cons_zero]
        go_simp
        exact hK _ _ ⟨(.slice (some ⟨g, 0, none⟩) 2 2), s20, s45, s46, s47, s48, s49, s50, s51, s52, (.slice (some ⟨g, 0, none⟩) 2 2), s54, s55, s56, s57, s58, s59, s60, s61, s62, by kernel_rfl, hB.out, g0.out, f0.out, f1.out, f2.out, f3.out, f4.out, f5.out, f6.out, f7.out, (fun _ => ⟨g, v, rfl, h1, h2, h3, h4⟩), f9.out, f10.out, f11.out, f12.out, f13.out, f14.out, f15.out, f16.out, f17.out, (fun _ => ⟨g, v, rfl, h1, h2, h3, h4⟩), f19.out⟩
      · simp only [hm5Deps, List.getD_cons_zero, List.getD_cons_succ, List.all_cons, List.all_nil, Bool.and_true] at hr
        have hd17 := hr
        obtain ⟨g, v, rfl, h1, h2, h3, h4⟩ := f17.out hd17
        refine wpOp_step rfl (fun K hK => ?_)
        simp only [sets, List.foldl_cons, List.foldl_nil, List.set_cons_succ, List.set_cons_zero]
        go_simp
        exact hK _ _ ⟨s19, (.slice (some ⟨g, 0, none⟩) 2 2), s45, s46, s47, s48, s49, s50, s51, s52, s53, s54, s55, s56, s57, s58, s59, s60, s61, (.slice (some ⟨g, 0, none⟩) 2 2), by kernel_rfl, hB.out, g0.out, f0.out, f1.out, f2.out, f3.out, f4.out, f5.out, f6.out, f7.out, f8.out, f9.out, f10.out, f11.out, f12.out, f13.out, f14.out, f15.out, f16.out, (fun _ => ⟨g, v, rfl, h1, h2, h3, h4⟩), f18.out, (fun _ => ⟨g, v, rfl, h1, h2, h3, h4⟩)⟩
      · have hi := hi.out; simp at hi
  rintro a5 W5 ⟨g1, g2, v1, v2, ha5, hB45, r1, r2, hv1, hv2⟩
  generalize a5.tmps.getD 19 undef = t19 at ha5
  generalize a5.tmps.getD 20 undef = t20 at ha5
  generalize a5.tmps.getD 45 undef = t45 at ha5
  generalize a5.tmps.getD 46 undef = t46 at ha5
  generalize a5.tmps.getD 47 undef = t47 at ha5
  generalize a5.tmps.getD 48 undef = t48 at ha5
  generalize a5.tmps.getD 49 undef = t49 at ha5
  generalize a5.tmps.getD 50 undef = t50 at ha5
  generalize a5.tmps.getD 51 undef = t51 at ha5
  generalize a5.tmps.getD 52 undef = t52 at ha5
  generalize a5.tmps.getD 53 undef = t53 at ha5
  generalize a5.tmps.getD 54 undef = t54 at ha5
  generalize a5.tmps.getD 55 undef = t55 at ha5
  generalize a5.tmps.getD 56 undef = t56 at ha5
  generalize a5.tmps.getD 57 undef = t57 at ha5
  generalize a5.tmps.getD 58 undef = t58 at ha5
  generalize a5.tmps.getD 59 undef = t59 at ha5
  generalize a5.tmps.getD 60 undef = t60 at ha5
  generalize a5.tmps.getD 61 undef = t61 at ha5
  generalize a5.tmps.getD 62 undef = t62 at ha5
  subst ha5
  simp only [sets, List.foldl_cons, List.foldl_nil, List.set_cons_succ, List.set_cons_zero]
  have sB5 := hB45.size
  have lR4 : RB < W4.heap.size := by omega
  have hwRB : w.heap.size ≤ RB := by omega
  have hB6 : Below w.heap.size w W5 := ((BelowX.of hB5).trans (hB45.mono hB5.size)).below hwRB
  have hlim5 : LimAt W5 := hlim.on hB6
  obtain ⟨p2', cc2, e2, hvA, -⟩ := vecs_of (owns_belowX hoA lRB hB45)
  have e21 := (Value.slice.inj e2).1
  clear e2
  subst e21
  obtain ⟨p3, cc3, rfl, hvG, -⟩ := vecs_of (owns_belowX hoG lRB hB45)
  have hyAt : y.At W5 := (hoL.belowX lRB hB45).at'
  have hA := airs2_row ⟨lp, lc, ll⟩ ⟨p2, c2, lsA⟩ ((hB45.block gA lA nA).trans rA) (hl.on hB6) hvA (by simp only; omega) (by have := tA.len; simp only; omega)
  have hG := airs2_row ⟨gp, gc, gl⟩ ⟨p3, cc3, lsG⟩ ((hB45.block gG lG nG).trans rG) (hg.on hB6) hvG (by simp only; omega) (by have := tG.le; simp only; omega)
  have hL := lands2_row x y ((hB45.block gL lL nL).trans rL) (hx.on hB6) hyAt
  have hI := ints2_rowW la v1 r1 hla (by unfold I64; omega)
  have hJ := ints2_rowW a v2 r2 hat (by unfold I64; omega)
  have l0 : gA < W5.heap.size := hA.1
  have l1 : gG < W5.heap.size := hG.1
  have l2 : gL < W5.heap.size := hL.1
  have l3 : g1 < W5.heap.size := hI.1
  have l4 : g2 < W5.heap.size := hJ.1
  have hal : ([⟨lp, lc, ll⟩, ⟨p2, c2, lsA⟩] : List AirR).length = 2 := rfl
  have hgl : ([⟨gp, gc, gl⟩, ⟨p3, cc3, lsG⟩] : List AirR).length = 2 := rfl
  have hll : [x, y].length = 2 := rfl
  have hil : [la, v1].length = 2 := rfl
  have hjl : [a, v2].length = 2 := rfl
  generalize ([⟨lp, lc, ll⟩, ⟨p2, c2, lsA⟩] : List AirR) = AL at *
  generalize ([⟨gp, gc, gl⟩, ⟨p3, cc3, lsG⟩] : List AirR) = GL at *
  generalize [x, y] = LL at *
  generalize [la, v1] = IL at *
  generalize [a, v2] = JL at *
  clear hyAt hvA hvG hoA hoG hoL hB45 hB4 hB5 sB4 sB5 rA rG rL r1 r2 hv1 hv2 c0 c1 lA lL lG nA nL nG ypos apos lR4 lRB hR4 hlr hRr e0 hRB lX0 hl hg hx hw hsm hy16 hyok hl0 hla hat _hen tA tG hnew kA kG kL hwRB
  replace hA := Go.Lib.hid hA
  replace hG := Go.Lib.hid hG
  replace hL := Go.Lib.hid hL
  replace hI := Go.Lib.hid hI
  replace hJ := Go.Lib.hid hJ
  go_wp2_with (first | ((first | with_reducible refine wp_region_ext2 (by kernel_rfl) (by kernel_rfl) ?_ | with_reducible refine wp_region_ext (by kernel_rfl) (by kernel_rfl) ?_); (repeat (first | go_big_quiet_step ((first | fail)) | quiet_step ((first | fail)))); refine wpQuiet_nil ?_; rintro _ ⟨yr, rfl⟩; have syr := Ext.size yr; (repeat (first | rw [World.size_alloc] at syr | rw [World.size_setCell] at syr | rw [World.size_drew] at syr))))
  go_loopw [21] (fun s W => ∃ (i : Nat) (x : Ext W5), s = .int .i64 i ∧ W = x.now ∧ i ≤ 2) (fun s _ => 2 - (intOf s).toNat)
  case atStart => exact ⟨0, ⟨W5, Below.refl _ _⟩, rfl, rfl, by omega⟩
  case round =>
    obtain ⟨i, z, rfl, rfl, hi⟩ := hrel
    have xs := z.size
    have sB6 := hB6.size
    by_cases hlt : i < 2
    ·
        have hlt2 : (i : Int) < 2 := by omega
        obtain ⟨a0, hav, h40⟩ := hA.out.2 i (by omega)
        obtain ⟨b0, hbv, h41⟩ := hG.out.2 i (by omega)
        obtain ⟨u0, u1, hlx⟩ := hL.out.2 i (by omega)
        obtain ⟨v0, hv0⟩ := hI.out.2 i (by omega)
        obtain ⟨t0, ht0⟩ := hJ.out.2 i (by omega)
        generalize AL[i]'(by omega) = ai at *
        generalize GL[i]'(by omega) = bi at *
        generalize LL[i]'(by omega) = li at *
        generalize IL[i]'(by omega) = ii at *
        generalize JL[i]'(by omega) = ji at *
        obtain ⟨ap, ac, al⟩ := ai
        obtain ⟨bp, bc, bl⟩ := bi
        simp only at a0 hav h40 b0 hbv h41
        have p1 := fun W (y : Below W5.heap.size W5 W) => Harms_any ap ac al bp bc bl li ii en ji W (hav.on y) (hbv.on y) (hlx.on y)
        have p2 := fun W (y : Below W5.heap.size W5 W) => rHarms_any ap ac al bp bc bl li ii en ji W (hav.on y) (hbv.on y) (hlx.on y) (by omega)
        generalize harmsA al bl li ii en ji = E1 at *
        generalize harmsE al bl li ii ji = E2 at *
        unfold LandR.val at *
        clear hA hG hL hI hJ hal hgl hll hil hjl ca hB6 sB6 hlx hav hbv h40 h41 hv0 ht0
        generalize al.length = n1 at *
        generalize bl.length = n4 at *
        generalize li.pl.length = n2 at *
        generalize li.wl.length = n3 at *
        go_wp2_with (first | ((first | with_reducible refine wp_region_ext2 (by kernel_rfl) (by kernel_rfl) ?_ | with_reducible refine wp_region_ext (by kernel_rfl) (by kernel_rfl) ?_); (repeat (first | go_big_quiet_step ((first | (go_at_call 34; with_reducible exact Calls.ext (p1 _ (by repeat' (first | (with_reducible exact Below.refl _ _) | (with_reducible assumption) | (with_reducible refine Ext.below _ ?_ ?_) | (with_reducible refine Below.on ?_ (by with_reducible assumption) ?_) | (with_reducible refine Below.alloc ?_ ?_ _) | (with_reducible refine Below.drew ?_) | (with_reducible refine Below.setCell ?_ ?_ _) | (with_reducible exact Nat.le_refl _) | omega | (simp; done) | (simp [go_sem]; done) | (simp at *; omega))))) | (go_at_call 35; with_reducible exact Calls.ext (p2 _ (by repeat' (first | (with_reducible exact Below.refl _ _) | (with_reducible assumption) | (with_reducible refine Ext.below _ ?_ ?_) | (with_reducible refine Below.on ?_ (by with_reducible assumption) ?_) | (with_reducible refine Below.alloc ?_ ?_ _) | (with_reducible refine Below.drew ?_) | (with_reducible refine Below.setCell ?_ ?_ _) | (with_reducible exact Nat.le_refl _) | omega | (simp; done) | (simp [go_sem]; done) | (simp at *; omega))))))) | quiet_step ((first | (go_at_call 34; with_reducible exact Calls.ext (p1 _ (by repeat' (first | (with_reducible exact Below.refl _ _) | (with_reducible assumption) | (with_reducible refine Ext.below _ ?_ ?_) | (with_reducible refine Below.on ?_ (by with_reducible assumption) ?_) | (with_reducible refine Below.alloc ?_ ?_ _) | (with_reducible refine Below.drew ?_) | (with_reducible refine Below.setCell ?_ ?_ _) | (with_reducible exact Nat.le_refl _) | omega | (simp; done) | (simp [go_sem]; done) | (simp at *; omega))))) | (go_at_call 35; with_reducible exact Calls.ext (p2 _ (by repeat' (first | (with_reducible exact Below.refl _ _) | (with_reducible assumption) | (with_reducible refine Ext.below _ ?_ ?_) | (with_reducible refine Below.on ?_ (by with_reducible assumption) ?_) | (with_reducible refine Below.alloc ?_ ?_ _) | (with_reducible refine Below.drew ?_) | (with_reducible refine Below.setCell ?_ ?_ _) | (with_reducible exact Nat.le_refl _) | omega | (simp; done) | (simp [go_sem]; done) | (simp at *; omega))))))))); refine wpQuiet_nil ?_; rintro _ ⟨yr, rfl⟩; have syr := Ext.size yr; (repeat (first | rw [World.size_alloc] at syr | rw [World.size_setCell] at syr | rw [World.size_drew] at syr)); have : gA < yr.now.heap.size := (by omega); have : gA ≤ yr.now.heap.size := (by omega); have : gA < yr.now.heap.size + 1 + 1 := (by omega); have : gG < yr.now.heap.size := (by omega); have : gG ≤ yr.now.heap.size := (by omega); have : gG < yr.now.heap.size + 1 + 1 := (by omega); have : gL < yr.now.heap.size := (by omega); have : gL ≤ yr.now.heap.size := (by omega); have : gL < yr.now.heap.size + 1 + 1 := (by omega); have : g1 < yr.now.heap.size := (by omega); have : g1 ≤ yr.now.heap.size := (by omega); have : g1 < yr.now.heap.size + 1 + 1 := (by omega); have : g2 < yr.now.heap.size := (by omega); have : g2 ≤ yr.now.heap.size := (by omega); have : g2 < yr.now.heap.size + 1 + 1 := (by omega)) | (go_at_call 34; (first | with_reducible refine (Calls.giv2 (p1 _ (by repeat' (first | (with_reducible exact Below.refl _ _) | (with_reducible assumption) | (with_reducible refine Ext.below _ ?_ ?_) | (with_reducible refine Below.on ?_ (by with_reducible assumption) ?_) | (with_reducible refine Below.alloc ?_ ?_ _) | (with_reducible refine Below.drew ?_) | (with_reducible refine Below.setCell ?_ ?_ _) | (with_reducible exact Nat.le_refl _) | omega | (simp; done) | (simp [go_sem]; done) | (simp at *; omega))))).mono ?_ | with_reducible refine (Calls.giv (p1 _ (by repeat' (first | (with_reducible exact Below.refl _ _) | (with_reducible assumption) | (with_reducible refine Ext.below _ ?_ ?_) | (with_reducible refine Below.on ?_ (by with_reducible assumption) ?_) | (with_reducible refine Below.alloc ?_ ?_ _) | (with_reducible refine Below.drew ?_) | (with_reducible refine Below.setCell ?_ ?_ _) | (with_reducible exact Nat.le_refl _) | omega | (simp; done) | (simp [go_sem]; done) | (simp at *; omega))))).mono ?_); rintro _ _ ⟨y1, rfl, rfl⟩; have sy1 := Ext.size y1; (repeat (first | rw [World.size_alloc] at sy1 | rw [World.size_setCell] at sy1 | rw [World.size_drew] at sy1)); have : gA < y1.now.heap.size := (by omega); have : gA ≤ y1.now.heap.size := (by omega); have : gA < y1.now.heap.size + 1 + 1 := (by omega); have : gG < y1.now.heap.size := (by omega); have : gG ≤ y1.now.heap.size := (by omega); have : gG < y1.now.heap.size + 1 + 1 := (by omega); have : gL < y1.now.heap.size := (by omega); have : gL ≤ y1.now.heap.size := (by omega); have : gL < y1.now.heap.size + 1 + 1 := (by omega); have : g1 < y1.now.heap.size := (by omega); have : g1 ≤ y1.now.heap.size := (by omega); have : g1 < y1.now.heap.size + 1 + 1 := (by omega); have : g2 < y1.now.heap.size := (by omega); have : g2 ≤ y1.now.heap.size := (by omega); have : g2 < y1.now.heap.size + 1 + 1 := (by omega)) | (go_at_call 35; (first | with_reducible refine (Calls.giv2 (p2 _ (by repeat' (first | (with_reducible exact Below.refl _ _) | (with_reducible assumption) | (with_reducible refine Ext.below _ ?_ ?_) | (with_reducible refine Below.on ?_ (by with_reducible assumption) ?_) | (with_reducible refine Below.alloc ?_ ?_ _) | (with_reducible refine Below.drew ?_) | (with_reducible refine Below.setCell ?_ ?_ _) | (with_reducible exact Nat.le_refl _) | omega | (simp; done) | (simp [go_sem]; done) | (simp at *; omega))))).mono ?_ | with_reducible refine (Calls.giv (p2 _ (by repeat' (first | (with_reducible exact Below.refl _ _) | (with_reducible assumption) | (with_reducible refine Ext.below _ ?_ ?_) | (with_reducible refine Below.on ?_ (by with_reducible assumption) ?_) | (with_reducible refine Below.alloc ?_ ?_ _) | (with_reducible refine Below.drew ?_) | (with_reducible refine Below.setCell ?_ ?_ _) | (with_reducible exact Nat.le_refl _) | omega | (simp; done) | (simp [go_sem]; done) | (simp at *; omega))))).mono ?_); rintro _ _ ⟨y2, rfl, rfl⟩; have sy2 := Ext.size y2; (repeat (first | rw [World.size_alloc] at sy2 | rw [World.size_setCell] at sy2 | rw [World.size_drew] at sy2)); have : gA < y2.now.heap.size := (by omega); have : gA ≤ y2.now.heap.size := (by omega); have : gA < y2.now.heap.size + 1 + 1 := (by omega); have : gG < y2.now.heap.size := (by omega); have : gG ≤ y2.now.heap.size := (by omega); have : gG < y2.now.heap.size + 1 + 1 := (by omega); have : gL < y2.now.heap.size := (by omega); have : gL ≤ y2.now.heap.size := (by omega); have : gL < y2.now.heap.size + 1 + 1 := (by omega); have : g1 < y2.now.heap.size := (by omega); have : g1 ≤ y2.now.heap.size := (by omega); have : g1 < y2.now.heap.size + 1 + 1 := (by omega); have : g2 < y2.now.heap.size := (by omega); have : g2 ≤ y2.now.heap.size := (by omega); have : g2 < y2.now.heap.size + 1 + 1 := (by omega)))
        exact ⟨⟨i + 1, ⟨_, by repeat' (first | (with_reducible exact Below.refl _ _) | (with_reducible assumption) | (with_reducible refine Ext.below _ ?_ ?_) | (with_reducible refine Below.on ?_ (by with_reducible assumption) ?_) | (with_reducible refine Below.alloc ?_ ?_ _) | (with_reducible refine Below.drew ?_) | (with_reducible refine Below.setCell ?_ ?_ _) | (with_reducible exact Nat.le_refl _) | omega | (simp; done) | (simp [go_sem]; done) | (simp at *; omega))⟩, by simp, rfl, by omega⟩, by simp [intOf]; omega⟩
    ·
        have hge : i = 2 := by omega
        subst hge
        have hlim := hlim5
        go_wp2_with (first | ((first | with_reducible refine wp_region_ext2 (by kernel_rfl) (by kernel_rfl) ?_ | with_reducible refine wp_region_ext (by kernel_rfl) (by kernel_rfl) ?_); (repeat (first | go_big_quiet_step ((first | (go_at_call 7; with_reducible exact Calls.ext (ca _ (by repeat (first | exact hlim | (with_reducible refine LimAt.ext ?_ _) | (with_reducible refine LimAt.alloc ?_ _) | (with_reducible refine LimAt.drew ?_) | (with_reducible refine LimAt.rext ?_ (by omega) _) | (with_reducible refine LimAt.set ?_ (by omega) _))))))) | quiet_step ((first | (go_at_call 7; with_reducible exact Calls.ext (ca _ (by repeat (first | exact hlim | (with_reducible refine LimAt.ext ?_ _) | (with_reducible refine LimAt.alloc ?_ _) | (with_reducible refine LimAt.drew ?_) | (with_reducible refine LimAt.rext ?_ (by omega) _) | (with_reducible refine LimAt.set ?_ (by omega) _))))))))); refine wpQuiet_nil ?_; rintro _ ⟨yr, rfl⟩; have syr := Ext.size yr; (repeat (first | rw [World.size_alloc] at syr | rw [World.size_setCell] at syr | rw [World.size_drew] at syr))) | (go_at_call 7; (first | with_reducible refine (Calls.giv2 (ca _ (by repeat (first | exact hlim | (with_reducible refine LimAt.ext ?_ _) | (with_reducible refine LimAt.alloc ?_ _) | (with_reducible refine LimAt.drew ?_) | (with_reducible refine LimAt.rext ?_ (by omega) _) | (with_reducible refine LimAt.set ?_ (by omega) _))))).mono ?_ | with_reducible refine (Calls.giv (ca _ (by repeat (first | exact hlim | (with_reducible refine LimAt.ext ?_ _) | (with_reducible refine LimAt.alloc ?_ _) | (with_reducible refine LimAt.drew ?_) | (with_reducible refine LimAt.rext ?_ (by omega) _) | (with_reducible refine LimAt.set ?_ (by omega) _))))).mono ?_); rintro _ _ ⟨y1, rfl, rfl⟩; have sy1 := Ext.size y1; (repeat (first | rw [World.size_alloc] at sy1 | rw [World.size_setCell] at sy1 | rw [World.size_drew] at sy1))))
        go_returns
        refine ⟨rfl, ?_⟩
        repeat' (first | (with_reducible exact Below.refl _ _) | (with_reducible assumption) | (with_reducible refine Ext.below _ ?_ ?_) | (with_reducible refine Below.on ?_ (by with_reducible assumption) ?_) | (with_reducible refine Below.alloc ?_ ?_ _) | (with_reducible refine Below.drew ?_) | (with_reducible refine Below.setCell ?_ ?_ _) | (with_reducible exact Nat.le_refl _) | omega | (simp; done) | (simp [go_sem]; done) | (simp at *; omega))
end Go.Proofs.YtfjieblihbnmjaaDoor

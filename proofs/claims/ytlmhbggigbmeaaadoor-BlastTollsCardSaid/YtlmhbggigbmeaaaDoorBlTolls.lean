/- For BlastTolls: the toll of a rock with a fall on a stretch, and its worst cell, are as the reference says, for any arguments. Written by gen_tolls.py. Condition: none beyond the statement's own. -/
import Derived.Test.YtlmhbggigbmeaaaDoorBlGoG
import Derived.Test.YtlmhbggigbmeaaaDoorBlRock
import Derived.Test.YtlmhbggigbmeaaaDoorFreeBG
import Derived.Test.YtlmhbggigbmeaaaDoorPairG
namespace Go.Proofs.YtlmhbggigbmeaaaDoor
open Go.RowKit Go.Shelf
attribute [local go_sem] Option.isSome_some Ext.cell Ext.frozen Ext.lt Ext.le Ext.lt_add Ext.le_add Ext.ne Ext.ne' lt2 lt3 lt4 lt5 le2 le3 le4
attribute [local go_sem] RExt.cell RExt.frozen RExt.lt RExt.le RExt.lt_add RExt.le_add RExt.ne RExt.ne'
theorem list23 {α : Type} {l : List α} (h : l.length = 23) : ∃ b0 b1 b2 b3 b4 b5 b6 b7 b8 b9 b10 b11 b12 b13 b14 b15 b16 b17 b18 b19 b20 b21 b22, l = [b0, b1, b2, b3, b4, b5, b6, b7, b8, b9, b10, b11, b12, b13, b14, b15, b16, b17, b18, b19, b20, b21, b22] := by
  match l, h with
  | [b0, b1, b2, b3, b4, b5, b6, b7, b8, b9, b10, b11, b12, b13, b14, b15, b16, b17, b18, b19, b20, b21, b22], _ => exact ⟨_, _, _, _, _, _, _, _, _, _, _, _, _, _, _, _, _, _, _, _, _, _, _, rfl⟩
def tlsDeps : List (List Nat) := [[], [], [1], [0, 2], [], [], [5], [4, 6], [], [], [9], [8, 10], [], [], [12, 13], [], [], [15, 16], [3], [7], [11], [14], [17]]
def tlsInv (b m : Nat) (lp : Option Addr) (nl lc : Nat) (gp : Option Addr) (ng gc : Nat) (x : LandR) (J k : RockR) (F f : FallR) (a0 : Act) (X : World) (l : List Bool) (fr : Act) (W : World) : Prop :=
  ∃ s20 s21 s22 s23 s24 s50 s51 s52 s53 s54 s55 s56 s57 s58 s59 s60 s61 s62 s63 s64 s65 s66 s67 : Value, fr = sets a0 [(20, s20), (21, s21), (22, s22), (23, s23), (24, s24), (50, s50), (51, s51), (52, s52), (53, s53), (54, s54), (55, s55), (56, s56), (57, s57), (58, s58), (59, s59), (60, s60), (61, s61), (62, s62), (63, s63), (64, s64), (65, s65), (66, s66), (67, s67)] ∧ BelowX b X.heap.size X W ∧
    (RingM W b (m + (20 * (l.getD 2 false).toNat + 15 * (l.getD 6 false).toNat + 50 * (l.getD 10 false).toNat))) ∧
    (l.getD 0 false = true → s50 = .slice lp nl lc) ∧
    (l.getD 1 false = true → s51 = .pointer (some ⟨b, 0, none⟩)) ∧
    (l.getD 2 false = true → ∃ (lv : Value) (ls : List V2), s52 = lv ∧ LaysOk ls ∧ W.ownsRow X.heap.size 90 2 lv ls.length (vrows ls)) ∧
    (l.getD 3 false = true → ∃ (g : Nat) (lv : Value) (ls : List V2), s53 = .slice (some ⟨g, 0, none⟩) 2 2 ∧ X.heap.size ≤ g ∧ g < W.heap.size ∧ W.heap[g]? = some (.cells #[.slice lp nl lc, lv] 22 (0, 0)) ∧ LaysOk ls ∧ W.ownsRow X.heap.size 90 2 lv ls.length (vrows ls)) ∧
    (l.getD 4 false = true → s54 = .slice gp ng gc) ∧
    (l.getD 5 false = true → s55 = .pointer (some ⟨b, 0, none⟩)) ∧
    (l.getD 6 false = true → ∃ (lv : Value) (ls : List V2), s56 = lv ∧ GradesOk ls ∧ W.ownsRow X.heap.size 92 2 lv ls.length (vrows ls)) ∧
    (l.getD 7 false = true → ∃ (g : Nat) (lv : Value) (ls : List V2), s57 = .slice (some ⟨g, 0, none⟩) 2 2 ∧ X.heap.size ≤ g ∧ g < W.heap.size ∧ W.heap[g]? = some (.cells #[.slice gp ng gc, lv] 23 (0, 0)) ∧ GradesOk ls ∧ W.ownsRow X.heap.size 92 2 lv ls.length (vrows ls)) ∧
    (l.getD 8 false = true → s58 = .agg #[.slice x.pp x.pl.length x.pc, .slice x.wp x.wl.length x.wc]) ∧
    (l.getD 9 false = true → s59 = .pointer (some ⟨b, 0, none⟩)) ∧
    (l.getD 10 false = true → ∃ y : LandR, s60 = .agg #[.slice y.pp y.pl.length y.pc, .slice y.wp y.wl.length y.wc] ∧ (y.Ok ∧ y.pl.length ≤ 16) ∧ LandOwn W X.heap.size y) ∧
    (l.getD 11 false = true → ∃ (g : Nat) (y : LandR), s61 = .slice (some ⟨g, 0, none⟩) 2 2 ∧ X.heap.size ≤ g ∧ g < W.heap.size ∧ W.heap[g]? = some (.cells #[.slice x.pp x.pl.length x.pc, .slice x.wp x.wl.length x.wc, .slice y.pp y.pl.length y.pc, .slice y.wp y.wl.length y.wc] 27 (0, 0)) ∧ (y.Ok ∧ y.pl.length ≤ 16) ∧ LandOwn W X.heap.size y) ∧
    (l.getD 12 false = true → s62 = .agg #[.int .i64 J.size.x, .int .i64 J.size.y, .int .i64 J.dens.x, .int .i64 J.dens.y, .int .i64 J.strong.x, .int .i64 J.strong.y, .int .i64 J.spin.x, .int .i64 J.spin.y, .int .i64 J.shape.x, .int .i64 J.shape.y, .bool J.pile]) ∧
    (l.getD 13 false = true → s63 = .agg #[.int .i64 k.size.x, .int .i64 k.size.y, .int .i64 k.dens.x, .int .i64 k.dens.y, .int .i64 k.strong.x, .int .i64 k.strong.y, .int .i64 k.spin.x, .int .i64 k.spin.y, .int .i64 k.shape.x, .int .i64 k.shape.y, .bool k.pile]) ∧
    (l.getD 14 false = true → ∃ (g : Nat), s64 = .slice (some ⟨g, 0, none⟩) 2 2 ∧ X.heap.size ≤ g ∧ g < W.heap.size ∧ W.heap[g]? = some (.cells #[.int .i64 J.size.x, .int .i64 J.size.y, .int .i64 J.dens.x, .int .i64 J.dens.y, .int .i64 J.strong.x, .int .i64 J.strong.y, .int .i64 J.spin.x, .int .i64 J.spin.y, .int .i64 J.shape.x, .int .i64 J.shape.y, .bool J.pile, .int .i64 k.size.x, .int .i64 k.size.y, .int .i64 k.dens.x, .int .i64 k.dens.y, .int .i64 k.strong.x, .int .i64 k.strong.y, .int .i64 k.spin.x, .int .i64 k.spin.y, .int .i64 k.shape.x, .int .i64 k.shape.y, .bool k.pile] 31 (0, 0))) ∧
    (l.getD 15 false = true → s65 = .agg #[.int .i64 F.speed.x, .int .i64 F.speed.y, .int .i64 F.slope.x, .int .i64 F.slope.y]) ∧
    (l.getD 16 false = true → s66 = .agg #[.int .i64 f.speed.x, .int .i64 f.speed.y, .int .i64 f.slope.x, .int .i64 f.slope.y]) ∧
    (l.getD 17 false = true → ∃ (g : Nat), s67 = .slice (some ⟨g, 0, none⟩) 2 2 ∧ X.heap.size ≤ g ∧ g < W.heap.size ∧ W.heap[g]? = some (.cells #[.int .i64 F.speed.x, .int .i64 F.speed.y, .int .i64 F.slope.x, .int .i64 F.slope.y, .int .i64 f.speed.x, .int .i64 f.speed.y, .int .i64 f.slope.x, .int .i64 f.slope.y] 33 (0, 0))) ∧
    (l.getD 18 false = true → ∃ (g : Nat) (lv : Value) (ls : List V2), s20 = .slice (some ⟨g, 0, none⟩) 2 2 ∧ X.heap.size ≤ g ∧ g < W.heap.size ∧ W.heap[g]? = some (.cells #[.slice lp nl lc, lv] 22 (0, 0)) ∧ LaysOk ls ∧ W.ownsRow X.heap.size 90 2 lv ls.length (vrows ls)) ∧
    (l.getD 19 false = true → ∃ (g : Nat) (lv : Value) (ls : List V2), s21 = .slice (some ⟨g, 0, none⟩) 2 2 ∧ X.heap.size ≤ g ∧ g < W.heap.size ∧ W.heap[g]? = some (.cells #[.slice gp ng gc, lv] 23 (0, 0)) ∧ GradesOk ls ∧ W.ownsRow X.heap.size 92 2 lv ls.length (vrows ls)) ∧
    (l.getD 20 false = true → ∃ (g : Nat) (y : LandR), s22 = .slice (some ⟨g, 0, none⟩) 2 2 ∧ X.heap.size ≤ g ∧ g < W.heap.size ∧ W.heap[g]? = some (.cells #[.slice x.pp x.pl.length x.pc, .slice x.wp x.wl.length x.wc, .slice y.pp y.pl.length y.pc, .slice y.wp y.wl.length y.wc] 27 (0, 0)) ∧ (y.Ok ∧ y.pl.length ≤ 16) ∧ LandOwn W X.heap.size y) ∧
    (l.getD 21 false = true → ∃ (g : Nat), s23 = .slice (some ⟨g, 0, none⟩) 2 2 ∧ X.heap.size ≤ g ∧ g < W.heap.size ∧ W.heap[g]? = some (.cells #[.int .i64 J.size.x, .int .i64 J.size.y, .int .i64 J.dens.x, .int .i64 J.dens.y, .int .i64 J.strong.x, .int .i64 J.strong.y, .int .i64 J.spin.x, .int .i64 J.spin.y, .int .i64 J.shape.x, .int .i64 J.shape.y, .bool J.pile, .int .i64 k.size.x, .int .i64 k.size.y, .int .i64 k.dens.x, .int .i64 k.dens.y, .int .i64 k.strong.x, .int .i64 k.strong.y, .int .i64 k.spin.x, .int .i64 k.spin.y, .int .i64 k.shape.x, .int .i64 k.shape.y, .bool k.pile] 31 (0, 0))) ∧
    (l.getD 22 false = true → ∃ (g : Nat), s24 = .slice (some ⟨g, 0, none⟩) 2 2 ∧ X.heap.size ≤ g ∧ g < W.heap.size ∧ W.heap[g]? = some (.cells #[.int .i64 F.speed.x, .int .i64 F.speed.y, .int .i64 F.slope.x, .int .i64 F.slope.y, .int .i64 f.speed.x, .int .i64 f.speed.y, .int .i64 f.slope.x, .int .i64 f.slope.y] 33 (0, 0)))
def tlsTold (b m : Nat) (lp : Option Addr) (nl lc : Nat) (gp : Option Addr) (ng gc : Nat) (x : LandR) (J k : RockR) (F f : FallR) : Act → World → Act → World → Prop := fun a X a' W => ∃ (gA : Nat) (gG : Nat) (gL : Nat) (gR : Nat) (gF : Nat) (lvA lvG : Value) (lsA lsG : List V2) (y : LandR), a' = sets a [(20, .slice (some ⟨gA, 0, none⟩) 2 2), (21, .slice (some ⟨gG, 0, none⟩) 2 2), (22, .slice (some ⟨gL, 0, none⟩) 2 2), (23, .slice (some ⟨gR, 0, none⟩) 2 2), (24, .slice (some ⟨gF, 0, none⟩) 2 2), (50, a'.tmps.getD 50 undef), (51, a'.tmps.getD 51 undef), (52, a'.tmps.getD 52 undef), (53, a'.tmps.getD 53 undef), (54, a'.tmps.getD 54 undef), (55, a'.tmps.getD 55 undef), (56, a'.tmps.getD 56 undef), (57, a'.tmps.getD 57 undef), (58, a'.tmps.getD 58 undef), (59, a'.tmps.getD 59 undef), (60, a'.tmps.getD 60 undef), (61, a'.tmps.getD 61 undef), (62, a'.tmps.getD 62 undef), (63, a'.tmps.getD 63 undef), (64, a'.tmps.getD 64 undef), (65, a'.tmps.getD 65 undef), (66, a'.tmps.getD 66 undef), (67, a'.tmps.getD 67 undef)] ∧ LaysOk lsA ∧ GradesOk lsG ∧ (y.Ok ∧ y.pl.length ≤ 16) ∧ W.ownsRow X.heap.size 90 2 lvA lsA.length (vrows lsA) ∧ W.ownsRow X.heap.size 92 2 lvG lsG.length (vrows lsG) ∧ LandOwn W X.heap.size y ∧ BelowX b X.heap.size X W ∧ RingM W b (m + 85) ∧ (X.heap.size ≤ gA ∧ X.heap.size ≤ gG ∧ X.heap.size ≤ gL ∧ X.heap.size ≤ gR ∧ X.heap.size ≤ gF) ∧ W.heap[gA]? = some (.cells #[.slice lp nl lc, lvA] 22 (0, 0)) ∧ W.heap[gG]? = some (.cells #[.slice gp ng gc, lvG] 23 (0, 0)) ∧ W.heap[gL]? = some (.cells #[.slice x.pp x.pl.length x.pc, .slice x.wp x.wl.length x.wc, .slice y.pp y.pl.length y.pc, .slice y.wp y.wl.length y.wc] 27 (0, 0)) ∧ W.heap[gR]? = some (.cells #[.int .i64 J.size.x, .int .i64 J.size.y, .int .i64 J.dens.x, .int .i64 J.dens.y, .int .i64 J.strong.x, .int .i64 J.strong.y, .int .i64 J.spin.x, .int .i64 J.spin.y, .int .i64 J.shape.x, .int .i64 J.shape.y, .bool J.pile, .int .i64 k.size.x, .int .i64 k.size.y, .int .i64 k.dens.x, .int .i64 k.dens.y, .int .i64 k.strong.x, .int .i64 k.strong.y, .int .i64 k.spin.x, .int .i64 k.spin.y, .int .i64 k.shape.x, .int .i64 k.shape.y, .bool k.pile] 31 (0, 0)) ∧ W.heap[gF]? = some (.cells #[.int .i64 F.speed.x, .int .i64 F.speed.y, .int .i64 F.slope.x, .int .i64 F.slope.y, .int .i64 f.speed.x, .int .i64 f.speed.y, .int .i64 f.slope.x, .int .i64 f.slope.y] 33 (0, 0))
theorem list16 {α : Type} {l : List α} (h : l.length = 16) : ∃ b0 b1 b2 b3 b4 b5 b6 b7 b8 b9 b10 b11 b12 b13 b14 b15, l = [b0, b1, b2, b3, b4, b5, b6, b7, b8, b9, b10, b11, b12, b13, b14, b15] := by
  match l, h with
  | [b0, b1, b2, b3, b4, b5, b6, b7, b8, b9, b10, b11, b12, b13, b14, b15], _ => exact ⟨_, _, _, _, _, _, _, _, _, _, _, _, _, _, _, _, rfl⟩
def tl6Deps : List (List Nat) := [[], [], [1], [2], [3], [4], [0, 5], [], [], [8], [9], [10], [11], [7, 12], [6], [13]]
def tl6Inv (b m : Nat) (gL : Nat) (y : LandR) (a0 : Act) (X : World) (l : List Bool) (fr : Act) (W : World) : Prop :=
  ∃ s25 s26 s68 s69 s70 s71 s72 s73 s74 s75 s76 s77 s78 s79 s80 s81 : Value, fr = sets a0 [(25, s25), (26, s26), (68, s68), (69, s69), (70, s70), (71, s71), (72, s72), (73, s73), (74, s74), (75, s75), (76, s76), (77, s77), (78, s78), (79, s79), (80, s80), (81, s81)] ∧ BelowX b X.heap.size X W ∧
    (RingM W b (m + (1 * (l.getD 6 false).toNat + 1 * (l.getD 13 false).toNat))) ∧
    (l.getD 0 false = true → s68 = .pointer (some ⟨b, 0, none⟩)) ∧
    (l.getD 1 false = true → s69 = .slice (some ⟨gL, 0, none⟩) 2 2) ∧
    (l.getD 2 false = true → s70 = .pointer (some ⟨gL, 2, none⟩)) ∧
    (l.getD 3 false = true → s71 = .pointer (some ⟨gL, 2, none⟩)) ∧
    (l.getD 4 false = true → s72 = .slice y.pp y.pl.length y.pc) ∧
    (l.getD 5 false = true → s73 = .int .i64 y.pl.length) ∧
    (l.getD 6 false = true → ∃ v : Int, s74 = .int .i64 v ∧ 0 ≤ v ∧ v < (y.pl.length : Int)) ∧
    (l.getD 7 false = true → s75 = .pointer (some ⟨b, 0, none⟩)) ∧
    (l.getD 8 false = true → s76 = .slice (some ⟨gL, 0, none⟩) 2 2) ∧
    (l.getD 9 false = true → s77 = .pointer (some ⟨gL, 2, none⟩)) ∧
    (l.getD 10 false = true → s78 = .pointer (some ⟨gL, 2, none⟩)) ∧
    (l.getD 11 false = true → s79 = .slice y.pp y.pl.length y.pc) ∧
    (l.getD 12 false = true → s80 = .int .i64 y.pl.length) ∧
    (l.getD 13 false = true → ∃ v : Int, s81 = .int .i64 v ∧ 0 ≤ v ∧ v < (y.pl.length : Int)) ∧
    (l.getD 14 false = true → ∃ v : Int, s25 = .int .i64 v ∧ 0 ≤ v ∧ v < (y.pl.length : Int)) ∧
    (l.getD 15 false = true → ∃ v : Int, s26 = .int .i64 v ∧ 0 ≤ v ∧ v < (y.pl.length : Int))
def tl6Told (b : Nat) (y : LandR) : Act → World → Act → World → Prop := fun a9 X a' W => ∃ (v1 v2 : Int), a' = sets a9 [(25, .int .i64 v1), (26, .int .i64 v2), (68, a'.tmps.getD 68 undef), (69, a'.tmps.getD 69 undef), (70, a'.tmps.getD 70 undef), (71, a'.tmps.getD 71 undef), (72, a'.tmps.getD 72 undef), (73, a'.tmps.getD 73 undef), (74, a'.tmps.getD 74 undef), (75, a'.tmps.getD 75 undef), (76, a'.tmps.getD 76 undef), (77, a'.tmps.getD 77 undef), (78, a'.tmps.getD 78 undef), (79, a'.tmps.getD 79 undef), (80, a'.tmps.getD 80 undef), (81, a'.tmps.getD 81 undef)] ∧ BelowX b X.heap.size X W ∧ (0 ≤ v1 ∧ v1 < (y.pl.length : Int)) ∧ (0 ≤ v2 ∧ v2 < (y.pl.length : Int))
set_option maxRecDepth 100000 in
set_option maxHeartbeats 16000000 in
theorem BlastTolls_any (lp : Option Addr) (lc : Nat) (ll : List V2) (gp : Option Addr) (gc : Nat) (gl : List V2) (x : LandR) (J : RockR) (F : FallR) (fa ta : Int) (sp : Option Addr) (sl sc : Nat) (sz : Nat → Int) (w : World) (hlim : LimAt w) (hl : VecsAt w lp ll) (hg : VecsAt w gp gl) (hx : x.At w) (hfa : I64 fa) (hta : I64 ta) (hw : ListIn w sp sl sz) : Calls Tryd.prog 3 #[.slice lp ll.length lc, .slice gp gl.length gc, x.val, J.val, F.val, .int .i64 fa, .int .i64 ta, .slice sp sl sc] w (Gives (.bool true) w) := by
  have ca := fun W (y : LimAt W) => blastAwake_any W y
  have cb := fun W => BigGround_any lp gp ll.length gl.length lc gc x W
  have hl0 := hlim.lt
  unfold LandR.val RockR.val FallR.val at *
  cases hbig : bigB ll.length gl.length x
  rotate_left
  · rw [hbig] at cb
    clear hbig hx hg hw hl
    generalize ll.length = m0 at *
    generalize gl.length = m1 at *
    generalize x.pl.length = m2 at *
    generalize x.wl.length = m3 at *
    go_enter Tryd.func3, Tryd.ntmps3
    go_wp2_with (first | ((first | with_reducible refine wrx2 ?_ | with_reducible refine wrx ?_); (repeat (first | go_big_quiet_step ((first | (go_at_call 8; with_reducible exact Calls.ext (cb _)) | (go_at_call 9; with_reducible exact Calls.ext (ca _ (by repeat (first | exact hlim | (with_reducible refine LimAt.ext ?_ _) | (with_reducible refine LimAt.alloc ?_ _) | (with_reducible refine LimAt.drew ?_) | (with_reducible refine LimAt.rext ?_ (by omega) _) | (with_reducible refine LimAt.set ?_ (by omega) _))))))) | quiet_step ((first | (go_at_call 8; with_reducible exact Calls.ext (cb _)) | (go_at_call 9; with_reducible exact Calls.ext (ca _ (by repeat (first | exact hlim | (with_reducible refine LimAt.ext ?_ _) | (with_reducible refine LimAt.alloc ?_ _) | (with_reducible refine LimAt.drew ?_) | (with_reducible refine LimAt.rext ?_ (by omega) _) | (with_reducible refine LimAt.set ?_ (by omega) _))))))))); refine wpQuiet_nil ?_; rintro _ ⟨yr, rfl⟩; have syr := Ext.size yr; (repeat (first | rw [World.size_alloc] at syr | rw [World.size_setCell] at syr | rw [World.size_drew] at syr)); have : w.heap.size < yr.now.heap.size := (by omega); have : w.heap.size ≤ yr.now.heap.size := (by omega); have : w.heap.size < yr.now.heap.size + 1 + 1 := (by omega)) | (go_at_call 8; (first | with_reducible refine (Calls.giv2 (cb _)).mono ?_ | with_reducible refine (Calls.giv (cb _)).mono ?_); rintro _ _ ⟨y1, rfl, rfl⟩; have sy1 := Ext.size y1; (repeat (first | rw [World.size_alloc] at sy1 | rw [World.size_setCell] at sy1 | rw [World.size_drew] at sy1)); have : w.heap.size < y1.now.heap.size := (by omega); have : w.heap.size ≤ y1.now.heap.size := (by omega); have : w.heap.size < y1.now.heap.size + 1 + 1 := (by omega)) | (go_at_call 9; (first | with_reducible refine (Calls.giv2 (ca _ (by repeat (first | exact hlim | (with_reducible refine LimAt.ext ?_ _) | (with_reducible refine LimAt.alloc ?_ _) | (with_reducible refine LimAt.drew ?_) | (with_reducible refine LimAt.rext ?_ (by omega) _) | (with_reducible refine LimAt.set ?_ (by omega) _))))).mono ?_ | with_reducible refine (Calls.giv (ca _ (by repeat (first | exact hlim | (with_reducible refine LimAt.ext ?_ _) | (with_reducible refine LimAt.alloc ?_ _) | (with_reducible refine LimAt.drew ?_) | (with_reducible refine LimAt.rext ?_ (by omega) _) | (with_reducible refine LimAt.set ?_ (by omega) _))))).mono ?_); rintro _ _ ⟨y2, rfl, rfl⟩; have sy2 := Ext.size y2; (repeat (first | rw [World.size_alloc] at sy2 | rw [World.size_setCell] at sy2 | rw [World.size_drew] at sy2)); have : w.heap.size < y2.now.heap.size := (by omega); have : w.heap.size ≤ y2.now.heap.size := (by omega); have : w.heap.size < y2.now.heap.size + 1 + 1 := (by omega)))
    go_returns
    refine ⟨rfl, ?_⟩
    repeat' (first | (with_reducible exact Below.refl _ _) | (with_reducible assumption) | (with_reducible refine Ext.below _ ?_ ?_) | (with_reducible refine Below.on ?_ (by with_reducible assumption) ?_) | (with_reducible refine Below.alloc ?_ ?_ _) | (with_reducible refine Below.drew ?_) | (with_reducible refine Below.setCell ?_ ?_ _) | (with_reducible exact Nat.le_refl _) | omega | (simp; done) | (simp [go_sem]; done) | (simp at *; omega))
  rw [hbig] at cb
  have hsm : ll.length ≤ 40 ∧ gl.length ≤ 40 ∧ x.pl.length ≤ 410 ∧ x.wl.length ≤ 410 := by
    unfold bigB at hbig
    rw [decide_eq_false_iff_not] at hbig
    omega
  clear hbig
  go_enter Tryd.func3, Tryd.ntmps3
  go_upto_region 1 with (first | ((first | with_reducible refine wrx2 ?_ | with_reducible refine wrx ?_); (repeat (first | go_big_quiet_step ((first | fail)) | quiet_step ((first | fail)))); refine wpQuiet_nil ?_; rintro _ ⟨yr, rfl⟩; have syr := Ext.size yr; (repeat (first | rw [World.size_alloc] at syr | rw [World.size_setCell] at syr | rw [World.size_drew] at syr))))
  refine wp_named (fun W9 hW => ?_)
  have e9 : W9.heap.size = w.heap.size + 1 + 1 + 1 := by rw [← hW]; simp
  have hB9 : Below w.heap.size w W9 := by rw [← hW]; repeat' (first | (with_reducible exact Below.refl _ _) | (with_reducible assumption) | (with_reducible refine Ext.below _ ?_ ?_) | (with_reducible refine Below.on ?_ (by with_reducible assumption) ?_) | (with_reducible refine Below.alloc ?_ ?_ _) | (with_reducible refine Below.drew ?_) | (with_reducible refine Below.setCell ?_ ?_ _) | (with_reducible exact Nat.le_refl _) | omega | (simp; done) | (simp [go_sem]; done) | (simp at *; omega))
  obtain ⟨rX, rK, rF⟩ := alloc3_rows hW
  clear hW
  have a0 : W9.cell? ⟨w.heap.size, 0, none⟩ = some (.slice x.pp x.pl.length x.pc) := (cell_of_row W9 _ 0 _ _ _ rX).trans rfl
  have a1 : W9.cell? ⟨w.heap.size, 1, none⟩ = some (.slice x.wp x.wl.length x.wc) := (cell_of_row W9 _ 1 _ _ _ rX).trans rfl
  have lX9 : w.heap.size < W9.heap.size := by omega
  go_upto_region 3 with (first | ((first | with_reducible refine wrx2 ?_ | with_reducible refine wrx ?_); (repeat (first | go_big_quiet_step ((first | (go_at_call 8; with_reducible exact Calls.ext (cb _)))) | quiet_step ((first | (go_at_call 8; with_reducible exact Calls.ext (cb _)))))); refine wpQuiet_nil ?_; rintro _ ⟨yr, rfl⟩; have syr := Ext.size yr; (repeat (first | rw [World.size_alloc] at syr | rw [World.size_setCell] at syr | rw [World.size_drew] at syr)); have : w.heap.size < yr.now.heap.size := (by omega); have : w.heap.size ≤ yr.now.heap.size := (by omega); have : w.heap.size < yr.now.heap.size + 1 + 1 := (by omega)) | (go_at_call 8; (first | with_reducible refine (Calls.giv2 (cb _)).mono ?_ | with_reducible refine (Calls.giv (cb _)).mono ?_); rintro _ _ ⟨y1, rfl, rfl⟩; have sy1 := Ext.size y1; (repeat (first | rw [World.size_alloc] at sy1 | rw [World.size_setCell] at sy1 | rw [World.size_drew] at sy1)); have : w.heap.size < y1.now.heap.size := (by omega); have : w.heap.size ≤ y1.now.heap.size := (by omega); have : w.heap.size < y1.now.heap.size + 1 + 1 := (by omega)))
  have hB0 : Below w.heap.size w y1.now := hB9.trans (y1.grew.mono (by omega))
  replace rX := (y1.grew.block _ (by omega)).trans rX
  replace rK := (y1.grew.block _ (by omega)).trans rK
  replace rF := (y1.grew.block _ (by omega)).trans rF
  have s9 := y1.grew.size
  have lX0 : w.heap.size + 1 + 1 < y1.now.heap.size := by omega
  have hlim0 : LimAt y1.now := hlim.on hB0
  have hw0 : ListIn y1.now sp sl sz := listIn_on hw hB0
  generalize y1.now = W0 at *
  clear cb hB9 a0 a1 lX9 s9 e9
  go_upto_region 4 with (first | ((first | with_reducible refine wrx2 ?_ | with_reducible refine wrx ?_); (repeat (first | go_big_quiet_step ((first | fail)) | quiet_step ((first | fail)))); refine wpQuiet_nil ?_; rintro _ ⟨yr, rfl⟩; have syr := Ext.size yr; (repeat (first | rw [World.size_alloc] at syr | rw [World.size_setCell] at syr | rw [World.size_drew] at syr))) | (go_at_call 10; refine (NewRing_r sp sl sc sz _ hw0).mono ?_; rintro _ _ ⟨y0, rfl, rfl, hs0, hr0⟩))
  have hR0 : RingM y0.now W0.heap.size 0 := ⟨_, _, _, _, _, hr0, Nat.le_refl _⟩
  have hlim1 : LimAt y0.now := hlim0.ext y0
  have hb0 : Below w.heap.size w y0.now := hB0.trans (y0.grew.mono (by omega))
  replace rX := (y0.grew.block _ (by omega)).trans rX
  replace rK := (y0.grew.block _ (by omega)).trans rK
  replace rF := (y0.grew.block _ (by omega)).trans rF
  obtain ⟨RB, hRB⟩ : ∃ n, W0.heap.size = n := ⟨_, rfl⟩
  rw [hRB] at hR0 hs0 lX0
  rw [hRB]
  generalize y0.now = W1 at *
  clear hr0
  have hlW1 := hR0.lt
  go_upto_region 5 with (first | ((first | with_reducible refine wrx2 ?_ | with_reducible refine wrx ?_); (repeat (first | go_big_quiet_step ((first | fail)) | quiet_step ((first | fail)))); refine wpQuiet_nil ?_; rintro _ ⟨yr, rfl⟩; have syr := Ext.size yr; (repeat (first | rw [World.size_alloc] at syr | rw [World.size_setCell] at syr | rw [World.size_drew] at syr))) | (go_at_call 11; refine (RockOf_y RB 0 _ (by omega) hR0).mono ?_; rintro _ _ ⟨y1, k, f, rfl, hok, rfl, hr1⟩; unfold RockR.val FallR.val; have sy1 := y1.size))
  obtain ⟨m0, hm0⟩ : ∃ m0, 0 + 16 = m0 := ⟨_, rfl⟩
  refine wp_named (fun Wr hW => ?_)
  have hRr : RingM Wr RB m0 := by rw [← hW, ← hm0]; exact (hr1.alloc _).alloc _
  have hBr : BelowX RB W1.heap.size W1 Wr := by
    rw [← hW]
    have h6 := y1.grew
    repeat' (first | (with_reducible exact BelowX.refl _ _ _) | (with_reducible assumption) | (with_reducible refine RExt.belowX _ ?_ ?_) | (with_reducible refine Ext.belowX _ ?_ ?_) | (with_reducible refine BelowX.alloc ?_ ?_ _) | (with_reducible refine BelowX.drew ?_) | (with_reducible refine BelowX.setCell ?_ ?_ _) | (with_reducible exact Nat.le_refl _) | omega | (simp; done) | (simp [go_sem]; done) | (simp at *; omega))
  obtain ⟨rk, rf⟩ := alloc2_rows hW
  have e1 : Wr.heap.size = y1.now.heap.size + 1 + 1 := by rw [← hW]; simp
  replace rX := (hBr.block w.heap.size (by omega) (by omega)).trans rX
  replace rK := (hBr.block (w.heap.size + 1) (by omega) (by omega)).trans rK
  replace rF := (hBr.block (w.heap.size + 1 + 1) (by omega) (by omega)).trans rF
  have hnew : Below w.heap.size w Wr := ((BelowX.of hb0).trans (hBr.mono (by omega))).below (by omega)
  have hm9 : m0 = 16 := hm0.symm
  clear hW hr1 hm0 hR0 hlim1 hlim0 hw0 hw hB0 hb0 hBr y0
  have lX : w.heap.size < Wr.heap.size := by omega
  have lK : w.heap.size + 1 < Wr.heap.size := by omega
  have lF : w.heap.size + 1 + 1 < Wr.heap.size := by omega
  have lk : y1.now.heap.size < Wr.heap.size := by omega
  have lf : y1.now.heap.size + 1 < Wr.heap.size := by omega
  have nX : w.heap.size ≠ RB := by omega
  have nK : w.heap.size + 1 ≠ RB := by omega
  have nF : w.heap.size + 1 + 1 ≠ RB := by omega
  have nk : y1.now.heap.size ≠ RB := by omega
  have nf : y1.now.heap.size + 1 ≠ RB := by omega
  refine wp_tell (tlsTold RB 16 lp ll.length lc gp gl.length gc x J k F f) ?_ ?_
  focus
    have hbX := hRr.lt
    clear hlim hl hx hg hnew
    subst hm9
    repeat (rename_i zz; clear zz)
    generalize RB = b at *
    clear e1 hlW1 hs0 sy1 hRB hl0 ca
    generalize w.heap.size = KB at *
    generalize y1.now.heap.size = OB at *
    clear y1
    generalize gl.length = ng at *
    generalize ll.length = nl at *
    refine region_dep (by kernel_rfl) tlsDeps (by kernel_rfl) (tlsInv b 16 lp nl lc gp ng gc x J k F f) ?h0 ?hstep ?hend
    case h0 =>
      refine ⟨?z20, ?z21, ?z22, ?z23, ?z24, ?z50, ?z51, ?z52, ?z53, ?z54, ?z55, ?z56, ?z57, ?z58, ?z59, ?z60, ?z61, ?z62, ?z63, ?z64, ?z65, ?z66, ?z67, ?fr, (BelowX.refl _ _ _).drew, (by simpa using hRr.drew), by simp, by simp, by simp, by simp, by simp, by simp, by simp, by simp, by simp, by simp, by simp, by simp, by simp, by simp, by simp, by simp, by simp, by simp, by simp, by simp, by simp, by simp, by simp⟩
      case fr =>
        simp only [sets, List.foldl_cons, List.foldl_nil, List.set_cons_succ, List.set_cons_zero]
        rfl
    case hend =>
      intro l' fr W hl hall hInv
      unfold tlsInv at hInv
      obtain ⟨s20, s21, s22, s23, s24, s50, s51, s52, s53, s54, s55, s56, s57, s58, s59, s60, s61, s62, s63, s64, s65, s66, s67, hInv⟩ := hInv
      obtain ⟨hfr, hB, g0, f0, f1, f2, f3, f4, f5, f6, f7, f8, f9, f10, f11, f12, f13, f14, f15, f16, f17, f18, f19, f20, f21, f22⟩ := hInv
      subst hfr
      obtain ⟨b0, b1, b2, b3, b4, b5, b6, b7, b8, b9, b10, b11, b12, b13, b14, b15, b16, b17, b18, b19, b20, b21, b22, rfl⟩ := list23 hl
      simp only [List.getD_cons_zero, List.getD_cons_succ] at g0 f0 f1 f2 f3 f4 f5 f6 f7 f8 f9 f10 f11 f12 f13 f14 f15 f16 f17 f18 f19 f20 f21 f22
      simp only [List.all_cons, id, Bool.and_eq_true] at hall
      obtain ⟨e0, e1, e2, e3, e4, e5, e6, e7, e8, e9, e10, e11, e12, e13, e14, e15, e16, e17, e18, e19, e20, e21, e22, -⟩ := hall
      obtain ⟨gA, lvA, lsA, rfl, kA, -, rA, tA, hoA⟩ := f18 e18
      obtain ⟨gG, lvG, lsG, rfl, kG, -, rG, tG, hoG⟩ := f19 e19
      obtain ⟨gL, y, rfl, kL, -, rL, tL, hoL⟩ := f20 e20
      obtain ⟨gR, rfl, kR, -, rR⟩ := f21 e21
      obtain ⟨gF, rfl, kF, -, rF⟩ := f22 e22
      have hg : RingM W b (16 + 85) := by simpa only [e2, e6, e10, Bool.toNat_true] using g0
      exact ⟨rfl, gA, gG, gL, gR, gF, lvA, lvG, lsA, lsG, y, by kernel_rfl, tA, tG, tL, hoA, hoG, hoL, hB, hg, ⟨kA, kG, kL, kR, kF⟩, rA, rG, rL, rR, rF⟩
    case hstep =>
      intro l' fr W ii hl hInv hr hi
      unfold tlsInv at hInv
      obtain ⟨s20, s21, s22, s23, s24, s50, s51, s52, s53, s54, s55, s56, s57, s58, s59, s60, s61, s62, s63, s64, s65, s66, s67, hInv⟩ := hInv
      obtain ⟨hfr, hB, g0, f0, f1, f2, f3, f4, f5, f6, f7, f8, f9, f10, f11, f12, f13, f14, f15, f16, f17, f18, f19, f20, f21, f22⟩ := hInv
      subst hfr
      obtain ⟨b0, b1, b2, b3, b4, b5, b6, b7, b8, b9, b10, b11, b12, b13, b14, b15, b16, b17, b18, b19, b20, b21, b22, rfl⟩ := list23 hl
      have sW := hB.size
      replace rX := (hB.block KB lX nX).trans rX
      replace rK := (hB.block (KB + 1) lK nK).trans rK
      replace rF := (hB.block (KB + 1 + 1) lF nF).trans rF
      replace rk := (hB.block OB lk nk).trans rk
      replace rf := (hB.block (OB + 1) lf nf).trans rf
      have a0 : W.cell? ⟨KB, 0, none⟩ = some (.slice x.pp x.pl.length x.pc) := (cell_of_row W _ 0 _ _ _ rX).trans rfl
      have a1 : W.cell? ⟨KB, 1, none⟩ = some (.slice x.wp x.wl.length x.wc) := (cell_of_row W _ 1 _ _ _ rX).trans rfl
      have c0 : W.cell? ⟨KB + 1, 0, none⟩ = some (.int .i64 J.size.x) := (cell_of_row W _ 0 _ _ _ rK).trans rfl
      have c1 : W.cell? ⟨KB + 1, 1, none⟩ = some (.int .i64 J.size.y) := (cell_of_row W _ 1 _ _ _ rK).trans rfl
      have c2 : W.cell? ⟨KB + 1, 2, none⟩ = some (.int .i64 J.dens.x) := (cell_of_row W _ 2 _ _ _ rK).trans rfl
      have c3 : W.cell? ⟨KB + 1, 3, none⟩ = some (.int .i64 J.dens.y) := (cell_of_row W _ 3 _ _ _ rK).trans rfl
      have c4 : W.cell? ⟨KB + 1, 4, none⟩ = some (.int .i64 J.strong.x) := (cell_of_row W _ 4 _ _ _ rK).trans rfl
      have c5 : W.cell? ⟨KB + 1, 5, none⟩ = some (.int .i64 J.strong.y) := (cell_of_row W _ 5 _ _ _ rK).trans rfl
      have c6 : W.cell? ⟨KB + 1, 6, none⟩ = some (.int .i64 J.spin.x) := (cell_of_row W _ 6 _ _ _ rK).trans rfl
      have c7 : W.cell? ⟨KB + 1, 7, none⟩ = some (.int .i64 J.spin.y) := (cell_of_row W _ 7 _ _ _ rK).trans rfl
      have c8 : W.cell? ⟨KB + 1, 8, none⟩ = some (.int .i64 J.shape.x) := (cell_of_row W _ 8 _ _ _ rK).trans rfl
      have c9 : W.cell? ⟨KB + 1, 9, none⟩ = some (.int .i64 J.shape.y) := (cell_of_row W _ 9 _ _ _ rK).trans rfl
      have c10 : W.cell? ⟨KB + 1, 10, none⟩ = some (.bool J.pile) := (cell_of_row W _ 10 _ _ _ rK).trans rfl
      have d0 : W.cell? ⟨KB + 1 + 1, 0, none⟩ = some (.int .i64 F.speed.x) := (cell_of_row W _ 0 _ _ _ rF).trans rfl
      have d1 : W.cell? ⟨KB + 1 + 1, 1, none⟩ = some (.int .i64 F.speed.y) := (cell_of_row W _ 1 _ _ _ rF).trans rfl
      have d2 : W.cell? ⟨KB + 1 + 1, 2, none⟩ = some (.int .i64 F.slope.x) := (cell_of_row W _ 2 _ _ _ rF).trans rfl
      have d3 : W.cell? ⟨KB + 1 + 1, 3, none⟩ = some (.int .i64 F.slope.y) := (cell_of_row W _ 3 _ _ _ rF).trans rfl
      have u0 : W.cell? ⟨OB, 0, none⟩ = some (.int .i64 k.size.x) := (cell_of_row W _ 0 _ _ _ rk).trans rfl
      have u1 : W.cell? ⟨OB, 1, none⟩ = some (.int .i64 k.size.y) := (cell_of_row W _ 1 _ _ _ rk).trans rfl
      have u2 : W.cell? ⟨OB, 2, none⟩ = some (.int .i64 k.dens.x) := (cell_of_row W _ 2 _ _ _ rk).trans rfl
      have u3 : W.cell? ⟨OB, 3, none⟩ = some (.int .i64 k.dens.y) := (cell_of_row W _ 3 _ _ _ rk).trans rfl
      have u4 : W.cell? ⟨OB, 4, none⟩ = some (.int .i64 k.strong.x) := (cell_of_row W _ 4 _ _ _ rk).trans rfl
      have u5 : W.cell? ⟨OB, 5, none⟩ = some (.int .i64 k.strong.y) := (cell_of_row W _ 5 _ _ _ rk).trans rfl
      have u6 : W.cell? ⟨OB, 6, none⟩ = some (.int .i64 k.spin.x) := (cell_of_row W _ 6 _ _ _ rk).trans rfl
      have u7 : W.cell? ⟨OB, 7, none⟩ = some (.int .i64 k.spin.y) := (cell_of_row W _ 7 _ _ _ rk).trans rfl
      have u8 : W.cell? ⟨OB, 8, none⟩ = some (.int .i64 k.shape.x) := (cell_of_row W _ 8 _ _ _ rk).trans rfl
      have u9 : W.cell? ⟨OB, 9, none⟩ = some (.int .i64 k.shape.y) := (cell_of_row W _ 9 _ _ _ rk).trans rfl
      have u10 : W.cell? ⟨OB, 10, none⟩ = some (.bool k.pile) := (cell_of_row W _ 10 _ _ _ rk).trans rfl
      have v0 : W.cell? ⟨OB + 1, 0, none⟩ = some (.int .i64 f.speed.x) := (cell_of_row W _ 0 _ _ _ rf).trans rfl
      have v1 : W.cell? ⟨OB + 1, 1, none⟩ = some (.int .i64 f.speed.y) := (cell_of_row W _ 1 _ _ _ rf).trans rfl
      have v2 : W.cell? ⟨OB + 1, 2, none⟩ = some (.int .i64 f.slope.x) := (cell_of_row W _ 2 _ _ _ rf).trans rfl
      have v3 : W.cell? ⟨OB + 1, 3, none⟩ = some (.int .i64 f.slope.y) := (cell_of_row W _ 3 _ _ _ rf).trans rfl
      clear rX rK rF rk rf
      have hflags : b2.toNat ≤ 1 ∧ b6.toNat ≤ 1 ∧ b10.toNat ≤ 1 := ⟨Bool.toNat_le _, Bool.toNat_le _, Bool.toNat_le _⟩
      simp only [List.getD_cons_zero, List.getD_cons_succ] at g0 f0 f1 f2 f3 f4 f5 f6 f7 f8 f9 f10 f11 f12 f13 f14 f15 f16 f17 f18 f19 f20 f21 f22
      replace hB := Go.Lib.hid hB
      replace hi := Go.Lib.hid hi
      replace g0 := Go.Lib.hid g0
      replace f0 := Go.Lib.hid f0
      replace f1 := Go.Lib.hid f1
      replace f2 := Go.Lib.hid f2
      replace f3 := Go.Lib.hid f3
      replace f4 := Go.Lib.hid f4
      replace f5 := Go.Lib.hid f5
      replace f6 := Go.Lib.hid f6
      replace f7 := Go.Lib.hid f7
      replace f8 := Go.Lib.hid f8
      replace f9 := Go.Lib.hid f9
      replace f10 := Go.Lib.hid f10
      replace f11 := Go.Lib.hid f11
      replace f12 := Go.Lib.hid f12
      replace f13 := Go.Lib.hid f13
      replace f14 := Go.Lib.hid f14
      replace f15 := Go.Lib.hid f15
      replace f16 := Go.Lib.hid f16
      replace f17 := Go.Lib.hid f17
      replace f18 := Go.Lib.hid f18
      replace f19 := Go.Lib.hid f19
      replace f20 := Go.Lib.hid f20
      replace f21 := Go.Lib.hid f21
      replace f22 := Go.Lib.hid f22
      rcases ii with _ | _ | _ | _ | _ | _ | _ | _ | _ | _ | _ | _ | _ | _ | _ | _ | _ | _ | _ | _ | _ | _ | _ | ii
      · refine wpOp_step rfl (fun K hK => ?_)
        simp only [sets, List.foldl_cons, List.foldl_nil, List.set_cons_succ, List.set_cons_zero]
        go_simp
        exact hK _ _ ⟨s20, s21, s22, s23, s24, (.slice lp nl lc), s51, s52, s53, s54, s55, s56, s57, s58, s59, s60, s61, s62, s63, s64, s65, s66, s67, by kernel_rfl, hB.out, g0.out, fun _ => rfl, f1.out, f2.out, f3.out, f4.out, f5.out, f6.out, f7.out, f8.out, f9.out, f10.out, f11.out, f12.out, f13.out, f14.out, f15.out, f16.out, f17.out, f18.out, f19.out, f20.out, f21.out, f22.out⟩
      · refine wpOp_step rfl (fun K hK => ?_)
        simp only [sets, List.foldl_cons, List.foldl_nil, List.set_cons_succ, List.set_cons_zero]
        go_simp
        exact hK _ _ ⟨s20, s21, s22, s23, s24, s50, (.pointer (some ⟨b, 0, none⟩)), s52, s53, s54, s55, s56, s57, s58, s59, s60, s61, s62, s63, s64, s65, s66, s67, by kernel_rfl, hB.out, g0.out, f0.out, fun _ => rfl, f2.out, f3.out, f4.out, f5.out, f6.out, f7.out, f8.out, f9.out, f10.out, f11.out, f12.out, f13.out, f14.out, f15.out, f16.out, f17.out, f18.out, f19.out, f20.out, f21.out, f22.out⟩
      · simp only [tlsDeps, List.getD_cons_zero, List.getD_cons_succ, List.all_cons, List.all_nil, Bool.and_true] at hr
        have hd1 := hr
        obtain rfl := f1.out hd1
        have hi := hi.out
        simp only [List.getElem?_cons_zero, List.getElem?_cons_succ, Option.some.injEq] at hi
        subst hi
        refine wpOp_step rfl (fun K hK => ?_)
        simp only [sets, List.foldl_cons, List.foldl_nil, List.set_cons_succ, List.set_cons_zero]
        go_simp
        refine (LayersOf_y b (16 + (20 * false.toNat + 15 * b6.toNat + 50 * b10.toNat)) W (by have := hflags; simp only [Bool.toNat_false] at *; omega) g0.out).mono ?_
        rintro _ W6 ⟨z, lv, ls, rfl, ho, hn, hall, rfl, hr⟩
        exact hK _ _ ⟨s20, s21, s22, s23, s24, s50, (.pointer (some ⟨b, 0, none⟩)), (lv), s53, s54, s55, s56, s57, s58, s59, s60, s61, s62, s63, s64, s65, s66, s67, by kernel_rfl, hB.out.trans (z.grew.mono (by omega)), (hr.mono (by simp only [List.set_cons_succ, List.set_cons_zero, List.getD_cons_zero, List.getD_cons_succ, Bool.toNat_true, Bool.toNat_false]; omega)), f0.out, f1.out, (fun _ => ⟨lv, ls, rfl, ⟨hn, hall⟩, owns_base ho (by omega)⟩), (fun h => by obtain ⟨g, lv, ls, e, h1, h2, h3, h4, ho⟩ := f3.out h; exact ⟨g, lv, ls, e, h1, Nat.lt_of_lt_of_le h2 z.size, z.row h3 h2 (by omega), h4, owns_belowX ho (by omega) z.grew⟩), f4.out, f5.out, (fun h => by obtain ⟨lv, ls, e, h1, ho⟩ := f6.out h; exact ⟨lv, ls, e, h1, owns_belowX ho (by omega) z.grew⟩), (fun h => by obtain ⟨g, lv, ls, e, h1, h2, h3, h4, ho⟩ := f7.out h; exact ⟨g, lv, ls, e, h1, Nat.lt_of_lt_of_le h2 z.size, z.row h3 h2 (by omega), h4, owns_belowX ho (by omega) z.grew⟩), f8.out, f9.out, (fun h => by obtain ⟨y', e, h1, ho⟩ := f10.out h; exact ⟨y', e, h1, ho.rext (by omega) z⟩), (fun h => by obtain ⟨g, y', e, h1, h2, h3, h4, ho⟩ := f11.out h; exact ⟨g, y', e, h1, Nat.lt_of_lt_of_le h2 z.size, z.row h3 h2 (by omega), h4, ho.rext (by omega) z⟩), f12.out, f13.out, (fun h => by obtain ⟨g, e, h1, h2, h3⟩ := f14.out h; exact ⟨g, e, h1, Nat.lt_of_lt_of_le h2 z.size, z.row h3 h2 (by omega)⟩), f15.out, f16.out, (fun h => by obtain ⟨g, e, h1, h2, h3⟩ := f17.out h; exact ⟨g, e, h1, Nat.lt_of_lt_of_le h2 z.size, z.row h3 h2 (by omega)⟩), (fun h => by obtain ⟨g, lv, ls, e, h1, h2, h3, h4, ho⟩ := f18.out h; exact ⟨g, lv, ls, e, h1, Nat.lt_of_lt_of_le h2 z.size, z.row h3 h2 (by omega), h4, owns_belowX ho (by omega) z.grew⟩), (fun h => by obtain ⟨g, lv, ls, e, h1, h2, h3, h4, ho⟩ := f19.out h; exact ⟨g, lv, ls, e, h1, Nat.lt_of_lt_of_le h2 z.size, z.row h3 h2 (by omega), h4, owns_belowX ho (by omega) z.grew⟩), (fun h => by obtain ⟨g, y', e, h1, h2, h3, h4, ho⟩ := f20.out h; exact ⟨g, y', e, h1, Nat.lt_of_lt_of_le h2 z.size, z.row h3 h2 (by omega), h4, ho.rext (by omega) z⟩), (fun h => by obtain ⟨g, e, h1, h2, h3⟩ := f21.out h; exact ⟨g, e, h1, Nat.lt_of_lt_of_le h2 z.size, z.row h3 h2 (by omega)⟩), (fun h => by obtain ⟨g, e, h1, h2, h3⟩ := f22.out h; exact ⟨g, e, h1, Nat.lt_of_lt_of_le h2 z.size, z.row h3 h2 (by omega)⟩)⟩
      · simp only [tlsDeps, List.getD_cons_zero, List.getD_cons_succ, List.all_cons, List.all_nil, Bool.and_true, Bool.and_eq_true] at hr
        obtain ⟨hd0, hd2⟩ := hr
        obtain rfl := f0.out hd0
        obtain ⟨lv, ls, rfl, h1, ho⟩ := f2.out hd2
        obtain ⟨q2, d2, rfl⟩ := owns_form ho
        refine wpOp_step rfl (fun K hK => ?_)
        simp only [sets, List.foldl_cons, List.foldl_nil, List.set_cons_succ, List.set_cons_zero]
        go_simp
        exact hK _ _ ⟨s20, s21, s22, s23, s24, (.slice lp nl lc), s51, (.slice q2 ls.length d2), (.slice (some ⟨W.heap.size, 0, none⟩) 2 2), s54, s55, s56, s57, s58, s59, s60, s61, s62, s63, s64, s65, s66, s67, by kernel_rfl, hB.out.alloc (by omega) _, (g0.out.alloc _), f0.out, f1.out, (fun _ => ⟨_, ls, rfl, h1, ho.alloc _⟩), (fun _ => ⟨W.heap.size, _, ls, rfl, by omega, by simp only [World.size_alloc]; omega, heap_alloc_new _ _, h1, ho.alloc _⟩), f4.out, f5.out, (fun h => by obtain ⟨lv, ls, e, h1, ho⟩ := f6.out h; exact ⟨lv, ls, e, h1, ho.alloc _⟩), (fun h => by obtain ⟨g, lv, ls, e, h1, h2, h3, h4, ho⟩ := f7.out h; exact ⟨g, lv, ls, e, h1, by simp only [World.size_alloc]; omega, (heap_alloc_old _ _ h2).trans h3, h4, ho.alloc _⟩), f8.out, f9.out, (fun h => by obtain ⟨y', e, h1, ho⟩ := f10.out h; exact ⟨y', e, h1, ho.alloc _⟩), (fun h => by obtain ⟨g, y', e, h1, h2, h3, h4, ho⟩ := f11.out h; exact ⟨g, y', e, h1, by simp only [World.size_alloc]; omega, (heap_alloc_old _ _ h2).trans h3, h4, ho.alloc _⟩), f12.out, f13.out, (fun h => by obtain ⟨g, e, h1, h2, h3⟩ := f14.out h; exact ⟨g, e, h1, by simp only [World.size_alloc]; omega, (heap_alloc_old _ _ h2).trans h3⟩), f15.out, f16.out, (fun h => by obtain ⟨g, e, h1, h2, h3⟩ := f17.out h; exact ⟨g, e, h1, by simp only [World.size_alloc]; omega, (heap_alloc_old _ _ h2).trans h3⟩), (fun h => by obtain ⟨g, lv, ls, e, h1, h2, h3, h4, ho⟩ := f18.out h; exact ⟨g, lv, ls, e, h1, by simp only [World.size_alloc]; omega, (heap_alloc_old _ _ h2).trans h3, h4, ho.alloc _⟩), (fun h => by obtain ⟨g, lv, ls, e, h1, h2, h3, h4, ho⟩ := f19.out h; exact ⟨g, lv, ls, e, h1, by simp only [World.size_alloc]; omega, (heap_alloc_old _ _ h2).trans h3, h4, ho.alloc _⟩), (fun h => by obtain ⟨g, y', e, h1, h2, h3, h4, ho⟩ := f20.out h; exact ⟨g, y', e, h1, by simp only [World.size_alloc]; omega, (heap_alloc_old _ _ h2).trans h3, h4, ho.alloc _⟩), (fun h => by obtain ⟨g, e, h1, h2, h3⟩ := f21.out h; exact ⟨g, e, h1, by simp only [World.size_alloc]; omega, (heap_alloc_old _ _ h2).trans h3⟩), (fun h => by obtain ⟨g, e, h1, h2, h3⟩ := f22.out h; exact ⟨g, e, h1, by simp only [World.size_alloc]; omega, (heap_alloc_old _ _ h2).trans h3⟩)⟩
      · refine wpOp_step rfl (fun K hK => ?_)
        simp only [sets, List.foldl_cons, List.foldl_nil, List.set_cons_succ, List.set_cons_zero]
        go_simp
        exact hK _ _ ⟨s20, s21, s22, s23, s24, s50, s51, s52, s53, (.slice gp ng gc), s55, s56, s57, s58, s59, s60, s61, s62, s63, s64, s65, s66, s67, by kernel_rfl, hB.out, g0.out, f0.out, f1.out, f2.out, f3.out, fun _ => rfl, f5.out, f6.out, f7.out, f8.out, f9.out, f10.out, f11.out, f12.out, f13.out, f14.out, f15.out, f16.out, f17.out, f18.out, f19.out, f20.out, f21.out, f22.out⟩
      · refine wpOp_step rfl (fun K hK => ?_)
        simp only [sets, List.foldl_cons, List.foldl_nil, List.set_cons_succ, List.set_cons_zero]
        go_simp
        exact hK _ _ ⟨s20, s21, s22, s23, s24, s50, s51, s52, s53, s54, (.pointer (some ⟨b, 0, none⟩)), s56, s57, s58, s59, s60, s61, s62, s63, s64, s65, s66, s67, by kernel_rfl, hB.out, g0.out, f0.out, f1.out, f2.out, f3.out, f4.out, fun _ => rfl, f6.out, f7.out, f8.out, f9.out, f10.out, f11.out, f12.out, f13.out, f14.out, f15.out, f16.out, f17.out, f18.out, f19.out, f20.out, f21.out, f22.out⟩
      · simp only [tlsDeps, List.getD_cons_zero, List.getD_cons_succ, List.all_cons, List.all_nil, Bool.and_true] at hr
        have hd5 := hr
        obtain rfl := f5.out hd5
        have hi := hi.out
        simp only [List.getElem?_cons_zero, List.getElem?_cons_succ, Option.some.injEq] at hi
        subst hi
        refine wpOp_step rfl (fun K hK => ?_)
        simp only [sets, List.foldl_cons, List.foldl_nil, List.set_cons_succ, List.set_cons_zero]
        go_simp
        refine (GradesOf_y b (16 + (20 * b2.toNat + 15 * false.toNat + 50 * b10.toNat)) W (by have := hflags; simp only [Bool.toNat_false] at *; omega) g0.out).mono ?_
        rintro _ W6 ⟨z, lv, ls, rfl, ho, hgok, rfl, hr⟩
        exact hK _ _ ⟨s20, s21, s22, s23, s24, s50, s51, s52, s53, s54, (.pointer (some ⟨b, 0, none⟩)), (lv), s57, s58, s59, s60, s61, s62, s63, s64, s65, s66, s67, by kernel_rfl, hB.out.trans (z.grew.mono (by omega)), (hr.mono (by simp only [List.set_cons_succ, List.set_cons_zero, List.getD_cons_zero, List.getD_cons_succ, Bool.toNat_true, Bool.toNat_false]; omega)), f0.out, f1.out, (fun h => by obtain ⟨lv, ls, e, h1, ho⟩ := f2.out h; exact ⟨lv, ls, e, h1, owns_belowX ho (by omega) z.grew⟩), (fun h => by obtain ⟨g, lv, ls, e, h1, h2, h3, h4, ho⟩ := f3.out h; exact ⟨g, lv, ls, e, h1, Nat.lt_of_lt_of_le h2 z.size, z.row h3 h2 (by omega), h4, owns_belowX ho (by omega) z.grew⟩), f4.out, f5.out, (fun _ => ⟨lv, ls, rfl, hgok, owns_base ho (by omega)⟩), (fun h => by obtain ⟨g, lv, ls, e, h1, h2, h3, h4, ho⟩ := f7.out h; exact ⟨g, lv, ls, e, h1, Nat.lt_of_lt_of_le h2 z.size, z.row h3 h2 (by omega), h4, owns_belowX ho (by omega) z.grew⟩), f8.out, f9.out, (fun h => by obtain ⟨y', e, h1, ho⟩ := f10.out h; exact ⟨y', e, h1, ho.rext (by omega) z⟩), (fun h => by obtain ⟨g, y', e, h1, h2, h3, h4, ho⟩ := f11.out h; exact ⟨g, y', e, h1, Nat.lt_of_lt_of_le h2 z.size, z.row h3 h2 (by omega), h4, ho.rext (by omega) z⟩), f12.out, f13.out, (fun h => by obtain ⟨g, e, h1, h2, h3⟩ := f14.out h; exact ⟨g, e, h1, Nat.lt_of_lt_of_le h2 z.size, z.row h3 h2 (by omega)⟩), f15.out, f16.out, (fun h => by obtain ⟨g, e, h1, h2, h3⟩ := f17.out h; exact ⟨g, e, h1, Nat.lt_of_lt_of_le h2 z.size, z.row h3 h2 (by omega)⟩), (fun h => by obtain ⟨g, lv, ls, e, h1, h2, h3, h4, ho⟩ := f18.out h; exact ⟨g, lv, ls, e, h1, Nat.lt_of_lt_of_le h2 z.size, z.row h3 h2 (by omega), h4, owns_belowX ho (by omega) z.grew⟩), (fun h => by obtain ⟨g, lv, ls, e, h1, h2, h3, h4, ho⟩ := f19.out h; exact ⟨g, lv, ls, e, h1, Nat.lt_of_lt_of_le h2 z.size, z.row h3 h2 (by omega), h4, owns_belowX ho (by omega) z.grew⟩), (fun h => by obtain ⟨g, y', e, h1, h2, h3, h4, ho⟩ := f20.out h; exact ⟨g, y', e, h1, Nat.lt_of_lt_of_le h2 z.size, z.row h3 h2 (by omega), h4, ho.rext (by omega) z⟩), (fun h => by obtain ⟨g, e, h1, h2, h3⟩ := f21.out h; exact ⟨g, e, h1, Nat.lt_of_lt_of_le h2 z.size, z.row h3 h2 (by omega)⟩), (fun h => by obtain ⟨g, e, h1, h2, h3⟩ := f22.out h; exact ⟨g, e, h1, Nat.lt_of_lt_of_le h2 z.size, z.row h3 h2 (by omega)⟩)⟩
      · simp only [tlsDeps, List.getD_cons_zero, List.getD_cons_succ, List.all_cons, List.all_nil, Bool.and_true, Bool.and_eq_true] at hr
        obtain ⟨hd4, hd6⟩ := hr
        obtain rfl := f4.out hd4
        obtain ⟨lv, ls, rfl, h1, ho⟩ := f6.out hd6
        obtain ⟨q2, d2, rfl⟩ := owns_form ho
        refine wpOp_step rfl (fun K hK => ?_)
        simp only [sets, List.foldl_cons, List.foldl_nil, List.set_cons_succ, List.set_cons_zero]
        go_simp
        exact hK _ _ ⟨s20, s21, s22, s23, s24, s50, s51, s52, s53, (.slice gp ng gc), s55, (.slice q2 ls.length d2), (.slice (some ⟨W.heap.size, 0, none⟩) 2 2), s58, s59, s60, s61, s62, s63, s64, s65, s66, s67, by kernel_rfl, hB.out.alloc (by omega) _, (g0.out.alloc _), f0.out, f1.out, (fun h => by obtain ⟨lv, ls, e, h1, ho⟩ := f2.out h; exact ⟨lv, ls, e, h1, ho.alloc _⟩), (fun h => by obtain ⟨g, lv, ls, e, h1, h2, h3, h4, ho⟩ := f3.out h; exact ⟨g, lv, ls, e, h1, by simp only [World.size_alloc]; omega, (heap_alloc_old _ _ h2).trans h3, h4, ho.alloc _⟩), f4.out, f5.out, (fun _ => ⟨_, ls, rfl, h1, ho.alloc _⟩), (fun _ => ⟨W.heap.size, _, ls, rfl, by omega, by simp only [World.size_alloc]; omega, heap_alloc_new _ _, h1, ho.alloc _⟩), f8.out, f9.out, (fun h => by obtain ⟨y', e, h1, ho⟩ := f10.out h; exact ⟨y', e, h1, ho.alloc _⟩), (fun h => by obtain ⟨g, y', e, h1, h2, h3, h4, ho⟩ := f11.out h; exact ⟨g, y', e, h1, by simp only [World.size_alloc]; omega, (heap_alloc_old _ _ h2).trans h3, h4, ho.alloc _⟩), f12.out, f13.out, (fun h => by obtain ⟨g, e, h1, h2, h3⟩ := f14.out h; exact ⟨g, e, h1, by simp only [World.size_alloc]; omega, (heap_alloc_old _ _ h2).trans h3⟩), f15.out, f16.out, (fun h => by obtain ⟨g, e, h1, h2, h3⟩ := f17.out h; exact ⟨g, e, h1, by simp only [World.size_alloc]; omega, (heap_alloc_old _ _ h2).trans h3⟩), (fun h => by obtain ⟨g, lv, ls, e, h1, h2, h3, h4, ho⟩ := f18.out h; exact ⟨g, lv, ls, e, h1, by simp only [World.size_alloc]; omega, (heap_alloc_old _ _ h2).trans h3, h4, ho.alloc _⟩), (fun h => by obtain ⟨g, lv, ls, e, h1, h2, h3, h4, ho⟩ := f19.out h; exact ⟨g, lv, ls, e, h1, by simp only [World.size_alloc]; omega, (heap_alloc_old _ _ h2).trans h3, h4, ho.alloc _⟩), (fun h => by obtain ⟨g, y', e, h1, h2, h3, h4, ho⟩ := f20.out h; exact ⟨g, y', e, h1, by simp only [World.size_alloc]; omega, (heap_alloc_old _ _ h2).trans h3, h4, ho.alloc _⟩), (fun h => by obtain ⟨g, e, h1, h2, h3⟩ := f21.out h; exact ⟨g, e, h1, by simp only [World.size_alloc]; omega, (heap_alloc_old _ _ h2).trans h3⟩), (fun h => by obtain ⟨g, e, h1, h2, h3⟩ := f22.out h; exact ⟨g, e, h1, by simp only [World.size_alloc]; omega, (heap_alloc_old _ _ h2).trans h3⟩)⟩
      · refine wpOp_step rfl (fun K hK => ?_)
        simp only [sets, List.foldl_cons, List.foldl_nil, List.set_cons_succ, List.set_cons_zero]
        go_simp
        exact hK _ _ ⟨s20, s21, s22, s23, s24, s50, s51, s52, s53, s54, s55, s56, s57, (.agg #[.slice x.pp x.pl.length x.pc, .slice x.wp x.wl.length x.wc]), s59, s60, s61, s62, s63, s64, s65, s66, s67, by kernel_rfl, hB.out, g0.out, f0.out, f1.out, f2.out, f3.out, f4.out, f5.out, f6.out, f7.out, fun _ => rfl, f9.out, f10.out, f11.out, f12.out, f13.out, f14.out, f15.out, f16.out, f17.out, f18.out, f19.out, f20.out, f21.out, f22.out⟩
      · refine wpOp_step rfl (fun K hK => ?_)
        simp only [sets, List.foldl_cons, List.foldl_nil, List.set_cons_succ, List.set_cons_zero]
        go_simp
        exact hK _ _ ⟨s20, s21, s22, s23, s24, s50, s51, s52, s53, s54, s55, s56, s57, s58, (.pointer (some ⟨b, 0, none⟩)), s60, s61, s62, s63, s64, s65, s66, s67, by kernel_rfl, hB.out, g0.out, f0.out, f1.out, f2.out, f3.out, f4.out, f5.out, f6.out, f7.out, f8.out, fun _ => rfl, f10.out, f11.out, f12.out, f13.out, f14.out, f15.out, f16.out, f17.out, f18.out, f19.out, f20.out, f21.out, f22.out⟩
      · simp only [tlsDeps, List.getD_cons_zero, List.getD_cons_succ, List.all_cons, List.all_nil, Bool.and_true] at hr
        have hd9 := hr
        obtain rfl := f9.out hd9
        have hi := hi.out
        simp only [List.getElem?_cons_zero, List.getElem?_cons_succ, Option.some.injEq] at hi
        subst hi
        refine wpOp_step rfl (fun K hK => ?_)
        simp only [sets, List.foldl_cons, List.foldl_nil, List.set_cons_succ, List.set_cons_zero]
        go_simp
        refine (LandOf_z b (16 + (20 * b2.toNat + 15 * b6.toNat + 50 * false.toNat)) W (by have := hflags; simp only [Bool.toNat_false] at *; omega) g0.out).mono ?_
        rintro _ W6 ⟨z, y, rfl, ho, hyok, ⟨hy16, -⟩, rfl, hr⟩
        exact hK _ _ ⟨s20, s21, s22, s23, s24, s50, s51, s52, s53, s54, s55, s56, s57, s58, (.pointer (some ⟨b, 0, none⟩)), (.agg #[.slice y.pp y.pl.length y.pc, .slice y.wp y.wl.length y.wc]), s61, s62, s63, s64, s65, s66, s67, by kernel_rfl, hB.out.trans (z.grew.mono (by omega)), (hr.mono (by simp only [List.set_cons_succ, List.set_cons_zero, List.getD_cons_zero, List.getD_cons_succ, Bool.toNat_true, Bool.toNat_false]; omega)), f0.out, f1.out, (fun h => by obtain ⟨lv, ls, e, h1, ho⟩ := f2.out h; exact ⟨lv, ls, e, h1, owns_belowX ho (by omega) z.grew⟩), (fun h => by obtain ⟨g, lv, ls, e, h1, h2, h3, h4, ho⟩ := f3.out h; exact ⟨g, lv, ls, e, h1, Nat.lt_of_lt_of_le h2 z.size, z.row h3 h2 (by omega), h4, owns_belowX ho (by omega) z.grew⟩), f4.out, f5.out, (fun h => by obtain ⟨lv, ls, e, h1, ho⟩ := f6.out h; exact ⟨lv, ls, e, h1, owns_belowX ho (by omega) z.grew⟩), (fun h => by obtain ⟨g, lv, ls, e, h1, h2, h3, h4, ho⟩ := f7.out h; exact ⟨g, lv, ls, e, h1, Nat.lt_of_lt_of_le h2 z.size, z.row h3 h2 (by omega), h4, owns_belowX ho (by omega) z.grew⟩), f8.out, f9.out, (fun _ => ⟨y, rfl, ⟨hyok, hy16⟩, ho.base (by omega)⟩), (fun h => by obtain ⟨g, y', e, h1, h2, h3, h4, ho⟩ := f11.out h; exact ⟨g, y', e, h1, Nat.lt_of_lt_of_le h2 z.size, z.row h3 h2 (by omega), h4, ho.rext (by omega) z⟩), f12.out, f13.out, (fun h => by obtain ⟨g, e, h1, h2, h3⟩ := f14.out h; exact ⟨g, e, h1, Nat.lt_of_lt_of_le h2 z.size, z.row h3 h2 (by omega)⟩), f15.out, f16.out, (fun h => by obtain ⟨g, e, h1, h2, h3⟩ := f17.out h; exact ⟨g, e, h1, Nat.lt_of_lt_of_le h2 z.size, z.row h3 h2 (by omega)⟩), (fun h => by obtain ⟨g, lv, ls, e, h1, h2, h3, h4, ho⟩ := f18.out h; exact ⟨g, lv, ls, e, h1, Nat.lt_of_lt_of_le h2 z.size, z.row h3 h2 (by omega), h4, owns_belowX ho (by omega) z.grew⟩), (fun h => by obtain ⟨g, lv, ls, e, h1, h2, h3, h4, ho⟩ := f19.out h; exact ⟨g, lv, ls, e, h1, Nat.lt_of_lt_of_le h2 z.size, z.row h3 h2 (by omega), h4, owns_belowX ho (by omega) z.grew⟩), (fun h => by obtain ⟨g, y', e, h1, h2, h3, h4, ho⟩ := f20.out h; exact ⟨g, y', e, h1, Nat.lt_of_lt_of_le h2 z.size, z.row h3 h2 (by omega), h4, ho.rext (by omega) z⟩), (fun h => by obtain ⟨g, e, h1, h2, h3⟩ := f21.out h; exact ⟨g, e, h1, Nat.lt_of_lt_of_le h2 z.size, z.row h3 h2 (by omega)⟩), (fun h => by obtain ⟨g, e, h1, h2, h3⟩ := f22.out h; exact ⟨g, e, h1, Nat.lt_of_lt_of_le h2 z.size, z.row h3 h2 (by omega)⟩)⟩
      · simp only [tlsDeps, List.getD_cons_zero, List.getD_cons_succ, List.all_cons, List.all_nil, Bool.and_true, Bool.and_eq_true] at hr
        obtain ⟨hd8, hd10⟩ := hr
        obtain rfl := f8.out hd8
        obtain ⟨y, rfl, h1, ho⟩ := f10.out hd10
        refine wpOp_step rfl (fun K hK => ?_)
        simp only [sets, List.foldl_cons, List.foldl_nil, List.set_cons_succ, List.set_cons_zero]
        go_simp
        exact hK _ _ ⟨s20, s21, s22, s23, s24, s50, s51, s52, s53, s54, s55, s56, s57, (.agg #[.slice x.pp x.pl.length x.pc, .slice x.wp x.wl.length x.wc]), s59, (.agg #[.slice y.pp y.pl.length y.pc, .slice y.wp y.wl.length y.wc]), (.slice (some ⟨W.heap.size, 0, none⟩) 2 2), s62, s63, s64, s65, s66, s67, by kernel_rfl, hB.out.alloc (by omega) _, (g0.out.alloc _), f0.out, f1.out, (fun h => by obtain ⟨lv, ls, e, h1, ho⟩ := f2.out h; exact ⟨lv, ls, e, h1, ho.alloc _⟩), (fun h => by obtain ⟨g, lv, ls, e, h1, h2, h3, h4, ho⟩ := f3.out h; exact ⟨g, lv, ls, e, h1, by simp only [World.size_alloc]; omega, (heap_alloc_old _ _ h2).trans h3, h4, ho.alloc _⟩), f4.out, f5.out, (fun h => by obtain ⟨lv, ls, e, h1, ho⟩ := f6.out h; exact ⟨lv, ls, e, h1, ho.alloc _⟩), (fun h => by obtain ⟨g, lv, ls, e, h1, h2, h3, h4, ho⟩ := f7.out h; exact ⟨g, lv, ls, e, h1, by simp only [World.size_alloc]; omega, (heap_alloc_old _ _ h2).trans h3, h4, ho.alloc _⟩), f8.out, f9.out, (fun _ => ⟨y, rfl, h1, ho.alloc _⟩), (fun _ => ⟨W.heap.size, y, rfl, by omega, by simp only [World.size_alloc]; omega, heap_alloc_new _ _, h1, ho.alloc _⟩), f12.out, f13.out, (fun h => by obtain ⟨g, e, h1, h2, h3⟩ := f14.out h; exact ⟨g, e, h1, by simp only [World.size_alloc]; omega, (heap_alloc_old _ _ h2).trans h3⟩), f15.out, f16.out, (fun h => by obtain ⟨g, e, h1, h2, h3⟩ := f17.out h; exact ⟨g, e, h1, by simp only [World.size_alloc]; omega, (heap_alloc_old _ _ h2).trans h3⟩), (fun h => by obtain ⟨g, lv, ls, e, h1, h2, h3, h4, ho⟩ := f18.out h; exact ⟨g, lv, ls, e, h1, by simp only [World.size_alloc]; omega, (heap_alloc_old _ _ h2).trans h3, h4, ho.alloc _⟩), (fun h => by obtain ⟨g, lv, ls, e, h1, h2, h3, h4, ho⟩ := f19.out h; exact ⟨g, lv, ls, e, h1, by simp only [World.size_alloc]; omega, (heap_alloc_old _ _ h2).trans h3, h4, ho.alloc _⟩), (fun h => by obtain ⟨g, y', e, h1, h2, h3, h4, ho⟩ := f20.out h; exact ⟨g, y', e, h1, by simp only [World.size_alloc]; omega, (heap_alloc_old _ _ h2).trans h3, h4, ho.alloc _⟩), (fun h => by obtain ⟨g, e, h1, h2, h3⟩ := f21.out h; exact ⟨g, e, h1, by simp only [World.size_alloc]; omega, (heap_alloc_old _ _ h2).trans h3⟩), (fun h => by obtain ⟨g, e, h1, h2, h3⟩ := f22.out h; exact ⟨g, e, h1, by simp only [World.size_alloc]; omega, (heap_alloc_old _ _ h2).trans h3⟩)⟩
      · refine wpOp_step rfl (fun K hK => ?_)
        simp only [sets, List.foldl_cons, List.foldl_nil, List.set_cons_succ, List.set_cons_zero]
        go_simp
        exact hK _ _ ⟨s20, s21, s22, s23, s24, s50, s51, s52, s53, s54, s55, s56, s57, s58, s59, s60, s61, (.agg #[.int .i64 J.size.x, .int .i64 J.size.y, .int .i64 J.dens.x, .int .i64 J.dens.y, .int .i64 J.strong.x, .int .i64 J.strong.y, .int .i64 J.spin.x, .int .i64 J.spin.y, .int .i64 J.shape.x, .int .i64 J.shape.y, .bool J.pile]), s63, s64, s65, s66, s67, by kernel_rfl, hB.out, g0.out, f0.out, f1.out, f2.out, f3.out, f4.out, f5.out, f6.out, f7.out, f8.out, f9.out, f10.out, f11.out, fun _ => rfl, f13.out, f14.out, f15.out, f16.out, f17.out, f18.out, f19.out, f20.out, f21.out, f22.out⟩
      · refine wpOp_step rfl (fun K hK => ?_)
        simp only [sets, List.foldl_cons, List.foldl_nil, List.set_cons_succ, List.set_cons_zero]
        go_simp
        exact hK _ _ ⟨s20, s21, s22, s23, s24, s50, s51, s52, s53, s54, s55, s56, s57, s58, s59, s60, s61, s62, (.agg #[.int .i64 k.size.x, .int .i64 k.size.y, .int .i64 k.dens.x, .int .i64 k.dens.y, .int .i64 k.strong.x, .int .i64 k.strong.y, .int .i64 k.spin.x, .int .i64 k.spin.y, .int .i64 k.shape.x, .int .i64 k.shape.y, .bool k.pile]), s64, s65, s66, s67, by kernel_rfl, hB.out, g0.out, f0.out, f1.out, f2.out, f3.out, f4.out, f5.out, f6.out, f7.out, f8.out, f9.out, f10.out, f11.out, f12.out, fun _ => rfl, f14.out, f15.out, f16.out, f17.out, f18.out, f19.out, f20.out, f21.out, f22.out⟩
      · simp only [tlsDeps, List.getD_cons_zero, List.getD_cons_succ, List.all_cons, List.all_nil, Bool.and_true, Bool.and_eq_true] at hr
        obtain ⟨hd12, hd13⟩ := hr
        obtain rfl := f12.out hd12
        obtain rfl := f13.out hd13
        refine wpOp_step rfl (fun K hK => ?_)
        simp only [sets, List.foldl_cons, List.foldl_nil, List.set_cons_succ, List.set_cons_zero]
        go_simp
        exact hK _ _ ⟨s20, s21, s22, s23, s24, s50, s51, s52, s53, s54, s55, s56, s57, s58, s59, s60, s61, (.agg #[.int .i64 J.size.x, .int .i64 J.size.y, .int .i64 J.dens.x, .int .i64 J.dens.y, .int .i64 J.strong.x, .int .i64 J.strong.y, .int .i64 J.spin.x, .int .i64 J.spin.y, .int .i64 J.shape.x, .int .i64 J.shape.y, .bool J.pile]), (.agg #[.int .i64 k.size.x, .int .i64 k.size.y, .int .i64 k.dens.x, .int .i64 k.dens.y, .int .i64 k.strong.x, .int .i64 k.strong.y, .int .i64 k.spin.x, .int .i64 k.spin.y, .int .i64 k.shape.x, .int .i64 k.shape.y, .bool k.pile]), (.slice (some ⟨W.heap.size, 0, none⟩) 2 2), s65, s66, s67, by kernel_rfl, hB.out.alloc (by omega) _, (g0.out.alloc _), f0.out, f1.out, (fun h => by obtain ⟨lv, ls, e, h1, ho⟩ := f2.out h; exact ⟨lv, ls, e, h1, ho.alloc _⟩), (fun h => by obtain ⟨g, lv, ls, e, h1, h2, h3, h4, ho⟩ := f3.out h; exact ⟨g, lv, ls, e, h1, by simp only [World.size_alloc]; omega, (heap_alloc_old _ _ h2).trans h3, h4, ho.alloc _⟩), f4.out, f5.out, (fun h => by obtain ⟨lv, ls, e, h1, ho⟩ := f6.out h; exact ⟨lv, ls, e, h1, ho.alloc _⟩), (fun h => by obtain ⟨g, lv, ls, e, h1, h2, h3, h4, ho⟩ := f7.out h; exact ⟨g, lv, ls, e, h1, by simp only [World.size_alloc]; omega, (heap_alloc_old _ _ h2).trans h3, h4, ho.alloc _⟩), f8.out, f9.out, (fun h => by obtain ⟨y', e, h1, ho⟩ := f10.out h; exact ⟨y', e, h1, ho.alloc _⟩), (fun h => by obtain ⟨g, y', e, h1, h2, h3, h4, ho⟩ := f11.out h; exact ⟨g, y', e, h1, by simp only [World.size_alloc]; omega, (heap_alloc_old _ _ h2).trans h3, h4, ho.alloc _⟩), f12.out, f13.out, (fun _ => ⟨W.heap.size, rfl, by omega, by simp only [World.size_alloc]; omega, heap_alloc_new _ _⟩), f15.out, f16.out, (fun h => by obtain ⟨g, e, h1, h2, h3⟩ := f17.out h; exact ⟨g, e, h1, by simp only [World.size_alloc]; omega, (heap_alloc_old _ _ h2).trans h3⟩), (fun h => by obtain ⟨g, lv, ls, e, h1, h2, h3, h4, ho⟩ := f18.out h; exact ⟨g, lv, ls, e, h1, by simp only [World.size_alloc]; omega, (heap_alloc_old _ _ h2).trans h3, h4, ho.alloc _⟩), (fun h => by obtain ⟨g, lv, ls, e, h1, h2, h3, h4, ho⟩ := f19.out h; exact ⟨g, lv, ls, e, h1, by simp only [World.size_alloc]; omega, (heap_alloc_old _ _ h2).trans h3, h4, ho.alloc _⟩), (fun h => by obtain ⟨g, y', e, h1, h2, h3, h4, ho⟩ := f20.out h; exact ⟨g, y', e, h1, by simp only [World.size_alloc]; omega, (heap_alloc_old _ _ h2).trans h3, h4, ho.alloc _⟩), (fun h => by obtain ⟨g, e, h1, h2, h3⟩ := f21.out h; exact ⟨g, e, h1, by simp only [World.size_alloc]; omega, (heap_alloc_old _ _ h2).trans h3⟩), (fun h => by obtain ⟨g, e, h1, h2, h3⟩ := f22.out h; exact ⟨g, e, h1, by simp only [World.size_alloc]; omega, (heap_alloc_old _ _ h2).trans h3⟩)⟩
      · refine wpOp_step rfl (fun K hK => ?_)
        simp only [sets, List.foldl_cons, List.foldl_nil, List.set_cons_succ, List.set_cons_zero]
        go_simp
        exact hK _ _ ⟨s20, s21, s22, s23, s24, s50, s51, s52, s53, s54, s55, s56, s57, s58, s59, s60, s61, s62, s63, s64, (.agg #[.int .i64 F.speed.x, .int .i64 F.speed.y, .int .i64 F.slope.x, .int .i64 F.slope.y]), s66, s67, by kernel_rfl, hB.out, g0.out, f0.out, f1.out, f2.out, f3.out, f4.out, f5.out, f6.out, f7.out, f8.out, f9.out, f10.out, f11.out, f12.out, f13.out, f14.out, fun _ => rfl, f16.out, f17.out, f18.out, f19.out, f20.out, f21.out, f22.out⟩
      · refine wpOp_step rfl (fun K hK => ?_)
        simp only [sets, List.foldl_cons, List.foldl_nil, List.set_cons_succ, List.set_cons_zero]
        go_simp
        exact hK _ _ ⟨s20, s21, s22, s23, s24, s50, s51, s52, s53, s54, s55, s56, s57, s58, s59, s60, s61, s62, s63, s64, s65, (.agg #[.int .i64 f.speed.x, .int .i64 f.speed.y, .int .i64 f.slope.x, .int .i64 f.slope.y]), s67, by kernel_rfl, hB.out, g0.out, f0.out, f1.out, f2.out, f3.out, f4.out, f5.out, f6.out, f7.out, f8.out, f9.out, f10.out, f11.out, f12.out, f13.out, f14.out, f15.out, fun _ => rfl, f17.out, f18.out, f19.out, f20.out, f21.out, f22.out⟩
      · simp only [tlsDeps, List.getD_cons_zero, List.getD_cons_succ, List.all_cons, List.all_nil, Bool.and_true, Bool.and_eq_true] at hr
        obtain ⟨hd15, hd16⟩ := hr
        obtain rfl := f15.out hd15
        obtain rfl := f16.out hd16
        refine wpOp_step rfl (fun K hK => ?_)
        simp only [sets, List.foldl_cons, List.foldl_nil, List.set_cons_succ, List.set_cons_zero]
        go_simp
        exact hK _ _ ⟨s20, s21, s22, s23, s24, s50, s51, s52, s53, s54, s55, s56, s57, s58, s59, s60, s61, s62, s63, s64, (.agg #[.int .i64 F.speed.x, .int .i64 F.speed.y, .int .i64 F.slope.x, .int .i64 F.slope.y]), (.agg #[.int .i64 f.speed.x, .int .i64 f.speed.y, .int .i64 f.slope.x, .int .i64 f.slope.y]), (.slice (some ⟨W.heap.size, 0, none⟩) 2 2), by kernel_rfl, hB.out.alloc (by omega) _, (g0.out.alloc _), f0.out, f1.out, (fun h => by obtain ⟨lv, ls, e, h1, ho⟩ := f2.out h; exact ⟨lv, ls, e, h1, ho.alloc _⟩), (fun h => by obtain ⟨g, lv, ls, e, h1, h2, h3, h4, ho⟩ := f3.out h; exact ⟨g, lv, ls, e, h1, by simp only [World.size_alloc]; omega, (heap_alloc_old _ _ h2).trans h3, h4, ho.alloc _⟩), f4.out, f5.out, (fun h => by obtain ⟨lv, ls, e, h1, ho⟩ := f6.out h; exact ⟨lv, ls, e, h1, ho.alloc _⟩), (fun h => by obtain ⟨g, lv, ls, e, h1, h2, h3, h4, ho⟩ := f7.out h; exact ⟨g, lv, ls, e, h1, by simp only [World.size_alloc]; omega, (heap_alloc_old _ _ h2).trans h3, h4, ho.alloc _⟩), f8.out, f9.out, (fun h => by obtain ⟨y', e, h1, ho⟩ := f10.out h; exact ⟨y', e, h1, ho.alloc _⟩), (fun h => by obtain ⟨g, y', e, h1, h2, h3, h4, ho⟩ := f11.out h; exact ⟨g, y', e, h1, by simp only [World.size_alloc]; omega, (heap_alloc_old _ _ h2).trans h3, h4, ho.alloc _⟩), f12.out, f13.out, (fun h => by obtain ⟨g, e, h1, h2, h3⟩ := f14.out h; exact ⟨g, e, h1, by simp only [World.size_alloc]; omega, (heap_alloc_old _ _ h2).trans h3⟩), f15.out, f16.out, (fun _ => ⟨W.heap.size, rfl, by omega, by simp only [World.size_alloc]; omega, heap_alloc_new _ _⟩), (fun h => by obtain ⟨g, lv, ls, e, h1, h2, h3, h4, ho⟩ := f18.out h; exact ⟨g, lv, ls, e, h1, by simp only [World.size_alloc]; omega, (heap_alloc_old _ _ h2).trans h3, h4, ho.alloc _⟩), (fun h => by obtain ⟨g, lv, ls, e, h1, h2, h3, h4, ho⟩ := f19.out h; exact ⟨g, lv, ls, e, h1, by simp only [World.size_alloc]; omega, (heap_alloc_old _ _ h2).trans h3, h4, ho.alloc _⟩), (fun h => by obtain ⟨g, y', e, h1, h2, h3, h4, ho⟩ := f20.out h; exact ⟨g, y', e, h1, by simp only [World.size_alloc]; omega, (heap_alloc_old _ _ h2).trans h3, h4, ho.alloc _⟩), (fun h => by obtain ⟨g, e, h1, h2, h3⟩ := f21.out h; exact ⟨g, e, h1, by simp only [World.size_alloc]; omega, (heap_alloc_old _ _ h2).trans h3⟩), (fun h => by obtain ⟨g, e, h1, h2, h3⟩ := f22.out h; exact ⟨g, e, h1, by simp only [World.size_alloc]; omega, (heap_alloc_old _ _ h2).trans h3⟩)⟩
      · simp only [tlsDeps, List.getD_cons_zero, List.getD_cons_succ, List.all_cons, List.all_nil, Bool.and_true] at hr
        have hd3 := hr
        obtain ⟨g, lv, ls, rfl, h1, h2, h3, h4, ho⟩ := f3.out hd3
        refine wpOp_step rfl (fun K hK => ?_)
        simp only [sets, List.foldl_cons, List.foldl_nil, List.set_cons_succ, List.set_cons_zero]
        go_simp
        exact hK _ _ ⟨(.slice (some ⟨g, 0, none⟩) 2 2), s21, s22, s23, s24, s50, s51, s52, (.slice (some ⟨g, 0, none⟩) 2 2), s54, s55, s56, s57, s58, s59, s60, s61, s62, s63, s64, s65, s66, s67, by kernel_rfl, hB.out, g0.out, f0.out, f1.out, f2.out, (fun _ => ⟨g, lv, ls, rfl, h1, h2, h3, h4, ho⟩), f4.out, f5.out, f6.out, f7.out, f8.out, f9.out, f10.out, f11.out, f12.out, f13.out, f14.out, f15.out, f16.out, f17.out, (fun _ => ⟨g, lv, ls, rfl, h1, h2, h3, h4, ho⟩), f19.out, f20.out, f21.out, f22.out⟩
      · simp only [tlsDeps, List.getD_cons_zero, List.getD_cons_succ, List.all_cons, List.all_nil, Bool.and_true] at hr
        have hd7 := hr
        obtain ⟨g, lv, ls, rfl, h1, h2, h3, h4, ho⟩ := f7.out hd7
        refine wpOp_step rfl (fun K hK => ?_)
        simp only [sets, List.foldl_cons, List.foldl_nil, List.set_cons_succ, List.set_cons_zero]
        go_simp
        exact hK _ _ ⟨s20, (.slice (some ⟨g, 0, none⟩) 2 2), s22, s23, s24, s50, s51, s52, s53, s54, s55, s56, (.slice (some ⟨g, 0, none⟩) 2 2), s58, s59, s60, s61, s62, s63, s64, s65, s66, s67, by kernel_rfl, hB.out, g0.out, f0.out, f1.out, f2.out, f3.out, f4.out, f5.out, f6.out, (fun _ => ⟨g, lv, ls, rfl, h1, h2, h3, h4, ho⟩), f8.out, f9.out, f10.out, f11.out, f12.out, f13.out, f14.out, f15.out, f16.out, f17.out, f18.out, (fun _ => ⟨g, lv, ls, rfl, h1, h2, h3, h4, ho⟩), f20.out, f21.out, f22.out⟩
      · simp only [tlsDeps, List.getD_cons_zero, List.getD_cons_succ, List.all_cons, List.all_nil, Bool.and_true] at hr
        have hd11 := hr
        obtain ⟨g, y, rfl, h1, h2, h3, h4, ho⟩ := f11.out hd11
        refine wpOp_step rfl (fun K hK => ?_)
        simp only [sets, List.foldl_cons, List.foldl_nil, List.set_cons_succ, List.set_cons_zero]
        go_simp
        exact hK _ _ ⟨s20, s21, (.slice (some ⟨g, 0, none⟩) 2 2), s23, s24, s50, s51, s52, s53, s54, s55, s56, s57, s58, s59, s60, (.slice (some ⟨g, 0, none⟩) 2 2), s62, s63, s64, s65, s66, s67, by kernel_rfl, hB.out, g0.out, f0.out, f1.out, f2.out, f3.out, f4.out, f5.out, f6.out, f7.out, f8.out, f9.out, f10.out, (fun _ => ⟨g, y, rfl, h1, h2, h3, h4, ho⟩), f12.out, f13.out, f14.out, f15.out, f16.out, f17.out, f18.out, f19.out, (fun _ => ⟨g, y, rfl, h1, h2, h3, h4, ho⟩), f21.out, f22.out⟩
      · simp only [tlsDeps, List.getD_cons_zero, List.getD_cons_succ, List.all_cons, List.all_nil, Bool.and_true] at hr
        have hd14 := hr
        obtain ⟨g, rfl, h1, h2, h3⟩ := f14.out hd14
        refine wpOp_step rfl (fun K hK => ?_)
        simp only [sets, List.foldl_cons, List.foldl_nil, List.set_cons_succ, List.set_cons_zero]
        go_simp
        exact hK _ _ ⟨s20, s21, s22, (.slice (some ⟨g, 0, none⟩) 2 2), s24, s50, s51, s52, s53, s54, s55, s56, s57, s58, s59, s60, s61, s62, s63, (.slice (some ⟨g, 0, none⟩) 2 2), s65, s66, s67, by kernel_rfl, hB.out, g0.out, f0.out, f1.out, f2.out, f3.out, f4.out, f5.out, f6.out, f7.out, f8.out, f9.out, f10.out, f11.out, f12.out, f13.out, (fun _ => ⟨g, rfl, h1, h2, h3⟩), f15.out, f16.out, f17.out, f18.out, f19.out, f20.out, (fun _ => ⟨g, rfl, h1, h2, h3⟩), f22.out⟩
      · simp only [tlsDeps, List.getD_cons_zero, List.getD_cons_succ, List.all_cons, List.all_nil, Bool.and_true] at hr
        have hd17 := hr
        obtain ⟨g, rfl, h1, h2, h3⟩ := f17.out hd17
        refine wpOp_step rfl (fun K hK => ?_)
        simp only [sets, List.foldl_cons, List.foldl_nil, List.set_cons_succ, List.set_cons_zero]
        go_simp
        exact hK _ _ ⟨s20, s21, s22, s23, (.slice (some ⟨g, 0, none⟩) 2 2), s50, s51, s52, s53, s54, s55, s56, s57, s58, s59, s60, s61, s62, s63, s64, s65, s66, (.slice (some ⟨g, 0, none⟩) 2 2), by kernel_rfl, hB.out, g0.out, f0.out, f1.out, f2.out, f3.out, f4.out, f5.out, f6.out, f7.out, f8.out, f9.out, f10.out, f11.out, f12.out, f13.out, f14.out, f15.out, f16.out, (fun _ => ⟨g, rfl, h1, h2, h3⟩), f18.out, f19.out, f20.out, f21.out, (fun _ => ⟨g, rfl, h1, h2, h3⟩)⟩
      · have hi := hi.out; simp at hi
  rintro a4 W4 ⟨gA, gG, gL, gR, gF, lvA, lvG, lsA, lsG, y, ha4, tA, tG, ⟨hyok, hy16⟩, hoA, hoG, hoL, hB4, hR4, ⟨kA, kG, kL, kR, kFF⟩, rA, rG, rL, rR, rFF⟩
  generalize a4.tmps.getD 20 undef = s20 at ha4
  generalize a4.tmps.getD 21 undef = s21 at ha4
  generalize a4.tmps.getD 22 undef = s22 at ha4
  generalize a4.tmps.getD 23 undef = s23 at ha4
  generalize a4.tmps.getD 24 undef = s24 at ha4
  generalize a4.tmps.getD 50 undef = s50 at ha4
  generalize a4.tmps.getD 51 undef = s51 at ha4
  generalize a4.tmps.getD 52 undef = s52 at ha4
  generalize a4.tmps.getD 53 undef = s53 at ha4
  generalize a4.tmps.getD 54 undef = s54 at ha4
  generalize a4.tmps.getD 55 undef = s55 at ha4
  generalize a4.tmps.getD 56 undef = s56 at ha4
  generalize a4.tmps.getD 57 undef = s57 at ha4
  generalize a4.tmps.getD 58 undef = s58 at ha4
  generalize a4.tmps.getD 59 undef = s59 at ha4
  generalize a4.tmps.getD 60 undef = s60 at ha4
  generalize a4.tmps.getD 61 undef = s61 at ha4
  generalize a4.tmps.getD 62 undef = s62 at ha4
  generalize a4.tmps.getD 63 undef = s63 at ha4
  generalize a4.tmps.getD 64 undef = s64 at ha4
  generalize a4.tmps.getD 65 undef = s65 at ha4
  generalize a4.tmps.getD 66 undef = s66 at ha4
  generalize a4.tmps.getD 67 undef = s67 at ha4
  subst ha4
  simp only [sets, List.foldl_cons, List.foldl_nil, List.set_cons_succ, List.set_cons_zero]
  have sB4 := hB4.size
  have hB5 : Below w.heap.size w W4 := ((BelowX.of hnew).trans (hB4.mono (by omega))).below (by omega)
  have lRB : RB < Wr.heap.size := by omega
  obtain ⟨p2, c2, rfl⟩ := owns_form hoA
  have c1 : W4.cell? ⟨gL, 2, none⟩ = some (.slice y.pp y.pl.length y.pc) := (cell_of_row W4 _ 2 _ _ _ rL).trans rfl
  have lL : gL < W4.heap.size := row_lt rL
  have nL : gL ≠ RB := by omega
  have ypos : (0 : Int) < y.pl.length ∧ (y.pl.length : Int) ≤ 16 := by have := hyok.pos; omega
  clear rX rK rF rk rf lX lK lF lk lf nX nK nF nk nf
  go_upto_region 6 with (first | ((first | with_reducible refine wrx2 ?_ | with_reducible refine wrx ?_); (repeat (first | go_big_quiet_step ((first | fail)) | quiet_step ((first | fail)))); refine wpQuiet_nil ?_; rintro _ ⟨yr, rfl⟩; have syr := Ext.size yr; (repeat (first | rw [World.size_alloc] at syr | rw [World.size_setCell] at syr | rw [World.size_drew] at syr))))
  refine wp_tell (tl6Told RB y) ?_ ?_
  focus
    have hRr := hR4
    have hbX := hR4.lt
    clear hlim hl hg hx ca hoA hoG hoL rA rG rL rR rFF hB4 hB5 tA tG hyok hR4 hnew
    repeat (rename_i zz; clear zz)
    generalize RB = b at *
    refine region_dep (by kernel_rfl) tl6Deps (by kernel_rfl) (tl6Inv b 101 gL y) ?h0 ?hstep ?hend
    case h0 =>
      refine ⟨?z25, ?z26, ?z68, ?z69, ?z70, ?z71, ?z72, ?z73, ?z74, ?z75, ?z76, ?z77, ?z78, ?z79, ?z80, ?z81, ?fr, (BelowX.refl _ _ _).drew, (by simpa using hRr.drew), by simp, by simp, by simp, by simp, by simp, by simp, by simp, by simp, by simp, by simp, by simp, by simp, by simp, by simp, by simp, by simp⟩
      case fr =>
        simp only [sets, List.foldl_cons, List.foldl_nil, List.set_cons_succ, List.set_cons_zero]
        rfl
    case hend =>
      intro l' fr W hl hall hInv
      unfold tl6Inv at hInv
      obtain ⟨s25, s26, s68, s69, s70, s71, s72, s73, s74, s75, s76, s77, s78, s79, s80, s81, hInv⟩ := hInv
      obtain ⟨hfr, hB, g0, f0, f1, f2, f3, f4, f5, f6, f7, f8, f9, f10, f11, f12, f13, f14, f15⟩ := hInv
      subst hfr
      obtain ⟨b0, b1, b2, b3, b4, b5, b6, b7, b8, b9, b10, b11, b12, b13, b14, b15, rfl⟩ := list16 hl
      simp only [List.getD_cons_zero, List.getD_cons_succ] at g0 f0 f1 f2 f3 f4 f5 f6 f7 f8 f9 f10 f11 f12 f13 f14 f15
      simp only [List.all_cons, id, Bool.and_eq_true] at hall
      obtain ⟨e0, e1, e2, e3, e4, e5, e6, e7, e8, e9, e10, e11, e12, e13, e14, e15, -⟩ := hall
      obtain ⟨v1, rfl, w1⟩ := f14 e14
      obtain ⟨v2, rfl, w2⟩ := f15 e15
      exact ⟨rfl, v1, v2, by kernel_rfl, hB, w1, w2⟩
    case hstep =>
      intro l' fr W ii hl hInv hr hi
      unfold tl6Inv at hInv
      obtain ⟨s25, s26, s68, s69, s70, s71, s72, s73, s74, s75, s76, s77, s78, s79, s80, s81, hInv⟩ := hInv
      obtain ⟨hfr, hB, g0, f0, f1, f2, f3, f4, f5, f6, f7, f8, f9, f10, f11, f12, f13, f14, f15⟩ := hInv
      subst hfr
      obtain ⟨b0, b1, b2, b3, b4, b5, b6, b7, b8, b9, b10, b11, b12, b13, b14, b15, rfl⟩ := list16 hl
      have sW := hB.size
      replace c1 := (hB.cell lL nL).trans c1
      have hflags : b6.toNat ≤ 1 ∧ b13.toNat ≤ 1 := ⟨Bool.toNat_le _, Bool.toNat_le _⟩
      simp only [List.getD_cons_zero, List.getD_cons_succ] at g0 f0 f1 f2 f3 f4 f5 f6 f7 f8 f9 f10 f11 f12 f13 f14 f15
      replace hB := Go.Lib.hid hB
      replace hi := Go.Lib.hid hi
      replace g0 := Go.Lib.hid g0
      replace f0 := Go.Lib.hid f0
      replace f1 := Go.Lib.hid f1
      replace f2 := Go.Lib.hid f2
      replace f3 := Go.Lib.hid f3
      replace f4 := Go.Lib.hid f4
      replace f5 := Go.Lib.hid f5
      replace f6 := Go.Lib.hid f6
      replace f7 := Go.Lib.hid f7
      replace f8 := Go.Lib.hid f8
      replace f9 := Go.Lib.hid f9
      replace f10 := Go.Lib.hid f10
      replace f11 := Go.Lib.hid f11
      replace f12 := Go.Lib.hid f12
      replace f13 := Go.Lib.hid f13
      replace f14 := Go.Lib.hid f14
      replace f15 := Go.Lib.hid f15
      rcases ii with _ | _ | _ | _ | _ | _ | _ | _ | _ | _ | _ | _ | _ | _ | _ | _ | ii
      · refine wpOp_step rfl (fun K hK => ?_)
        simp only [sets, List.foldl_cons, List.foldl_nil, List.set_cons_succ, List.set_cons_zero]
        go_simp
        exact hK _ _ ⟨s25, s26, (.pointer (some ⟨b, 0, none⟩)), s69, s70, s71, s72, s73, s74, s75, s76, s77, s78, s79, s80, s81, by kernel_rfl, hB.out, g0.out, fun _ => rfl, f1.out, f2.out, f3.out, f4.out, f5.out, f6.out, f7.out, f8.out, f9.out, f10.out, f11.out, f12.out, f13.out, f14.out, f15.out⟩
      · refine wpOp_step rfl (fun K hK => ?_)
        simp only [sets, List.foldl_cons, List.foldl_nil, List.set_cons_succ, List.set_cons_zero]
        go_simp
        exact hK _ _ ⟨s25, s26, s68, (.slice (some ⟨gL, 0, none⟩) 2 2), s70, s71, s72, s73, s74, s75, s76, s77, s78, s79, s80, s81, by kernel_rfl, hB.out, g0.out, f0.out, fun _ => rfl, f2.out, f3.out, f4.out, f5.out, f6.out, f7.out, f8.out, f9.out, f10.out, f11.out, f12.out, f13.out, f14.out, f15.out⟩
      · simp only [tl6Deps, List.getD_cons_zero, List.getD_cons_succ, List.all_cons, List.all_nil, Bool.and_true] at hr
        have hd1 := hr
        obtain rfl := f1.out hd1
        refine wpOp_step rfl (fun K hK => ?_)
        simp only [sets, List.foldl_cons, List.foldl_nil, List.set_cons_succ, List.set_cons_zero]
        go_simp
        exact hK _ _ ⟨s25, s26, s68, (.slice (some ⟨gL, 0, none⟩) 2 2), (.pointer (some ⟨gL, 2, none⟩)), s71, s72, s73, s74, s75, s76, s77, s78, s79, s80, s81, by kernel_rfl, hB.out, g0.out, f0.out, f1.out, fun _ => rfl, f3.out, f4.out, f5.out, f6.out, f7.out, f8.out, f9.out, f10.out, f11.out, f12.out, f13.out, f14.out, f15.out⟩
      · simp only [tl6Deps, List.getD_cons_zero, List.getD_cons_succ, List.all_cons, List.all_nil, Bool.and_true] at hr
        have hd2 := hr
        obtain rfl := f2.out hd2
        refine wpOp_step rfl (fun K hK => ?_)
        simp only [sets, List.foldl_cons, List.foldl_nil, List.set_cons_succ, List.set_cons_zero]
        go_simp
        exact hK _ _ ⟨s25, s26, s68, s69, (.pointer (some ⟨gL, 2, none⟩)), (.pointer (some ⟨gL, 2, none⟩)), s72, s73, s74, s75, s76, s77, s78, s79, s80, s81, by kernel_rfl, hB.out, g0.out, f0.out, f1.out, f2.out, fun _ => rfl, f4.out, f5.out, f6.out, f7.out, f8.out, f9.out, f10.out, f11.out, f12.out, f13.out, f14.out, f15.out⟩
      · simp only [tl6Deps, List.getD_cons_zero, List.getD_cons_succ, List.all_cons, List.all_nil, Bool.and_true] at hr
        have hd3 := hr
        obtain rfl := f3.out hd3
        refine wpOp_step rfl (fun K hK => ?_)
        simp only [sets, List.foldl_cons, List.foldl_nil, List.set_cons_succ, List.set_cons_zero]
        go_simp
        exact hK _ _ ⟨s25, s26, s68, s69, s70, (.pointer (some ⟨gL, 2, none⟩)), (.slice y.pp y.pl.length y.pc), s73, s74, s75, s76, s77, s78, s79, s80, s81, by kernel_rfl, hB.out, g0.out, f0.out, f1.out, f2.out, f3.out, fun _ => rfl, f5.out, f6.out, f7.out, f8.out, f9.out, f10.out, f11.out, f12.out, f13.out, f14.out, f15.out⟩
      · simp only [tl6Deps, List.getD_cons_zero, List.getD_cons_succ, List.all_cons, List.all_nil, Bool.and_true] at hr
        have hd4 := hr
        obtain rfl := f4.out hd4
        refine wpOp_step rfl (fun K hK => ?_)
        simp only [sets, List.foldl_cons, List.foldl_nil, List.set_cons_succ, List.set_cons_zero]
        go_simp
        exact hK _ _ ⟨s25, s26, s68, s69, s70, s71, (.slice y.pp y.pl.length y.pc), (.int .i64 y.pl.length), s74, s75, s76, s77, s78, s79, s80, s81, by kernel_rfl, hB.out, g0.out, f0.out, f1.out, f2.out, f3.out, f4.out, fun _ => rfl, f6.out, f7.out, f8.out, f9.out, f10.out, f11.out, f12.out, f13.out, f14.out, f15.out⟩
      · simp only [tl6Deps, List.getD_cons_zero, List.getD_cons_succ, List.all_cons, List.all_nil, Bool.and_true, Bool.and_eq_true] at hr
        obtain ⟨hd0, hd5⟩ := hr
        obtain rfl := f0.out hd0
        obtain rfl := f5.out hd5
        have hi := hi.out
        simp only [List.getElem?_cons_zero, List.getElem?_cons_succ, Option.some.injEq] at hi
        subst hi
        refine wpOp_step rfl (fun K hK => ?_)
        simp only [sets, List.foldl_cons, List.foldl_nil, List.set_cons_succ, List.set_cons_zero]
        go_simp
        refine (Next_y y.pl.length b (101 + (1 * false.toNat + 1 * b13.toNat)) W (by have := hflags; simp only [Bool.toNat_false] at *; omega) (by omega) (by omega) g0.out).mono ?_
        rintro _ W6 ⟨z, v, rfl, hv, rfl, hr⟩
        exact hK _ _ ⟨s25, s26, (.pointer (some ⟨b, 0, none⟩)), s69, s70, s71, s72, (.int .i64 y.pl.length), (.int .i64 v), s75, s76, s77, s78, s79, s80, s81, by kernel_rfl, hB.out.trans (z.grew.mono (by omega)), (hr.mono (by simp only [List.set_cons_succ, List.set_cons_zero, List.getD_cons_zero, List.getD_cons_succ, Bool.toNat_true, Bool.toNat_false]; omega)), f0.out, f1.out, f2.out, f3.out, f4.out, f5.out, (fun _ => ⟨v, rfl, hv⟩), f7.out, f8.out, f9.out, f10.out, f11.out, f12.out, (fun h => by obtain ⟨v, e, hv⟩ := f13.out h; exact ⟨v, e, hv⟩), (fun h => by obtain ⟨v, e, hv⟩ := f14.out h; exact ⟨v, e, hv⟩), (fun h => by obtain ⟨v, e, hv⟩ := f15.out h; exact ⟨v, e, hv⟩)⟩
      · refine wpOp_step rfl (fun K hK => ?_)
        simp only [sets, List.foldl_cons, List.foldl_nil, List.set_cons_succ, List.set_cons_zero]
        go_simp
        exact hK _ _ ⟨s25, s26, s68, s69, s70, s71, s72, s73, s74, (.pointer (some ⟨b, 0, none⟩)), s76, s77, s78, s79, s80, s81, by kernel_rfl, hB.out, g0.out, f0.out, f1.out, f2.out, f3.out, f4.out, f5.out, f6.out, fun _ => rfl, f8.out, f9.out, f10.out, f11.out, f12.out, f13.out, f14.out, f15.out⟩
      · refine wpOp_step rfl (fun K hK => ?_)
        simp only [sets, List.foldl_cons, List.foldl_nil, List.set_cons_succ, List.set_cons_zero]
        go_simp
        exact hK _ _ ⟨s25, s26, s68, s69, s70, s71, s72, s73, s74, s75, (.slice (some ⟨gL, 0, none⟩) 2 2), s77, s78, s79, s80, s81, by kernel_rfl, hB.out, g0.out, f0.out, f1.out, f2.out, f3.out, f4.out, f5.out, f6.out, f7.out, fun _ => rfl, f9.out, f10.out, f11.out, f12.out, f13.out, f14.out, f15.out⟩
      · simp only [tl6Deps, List.getD_cons_zero, List.getD_cons_succ, List.all_cons, List.all_nil, Bool.and_true] at hr
        have hd8 := hr
        obtain rfl := f8.out hd8
        refine wpOp_step rfl (fun K hK => ?_)
        simp only [sets, List.foldl_cons, List.foldl_nil, List.set_cons_succ, List.set_cons_zero]
        go_simp
        exact hK _ _ ⟨s25, s26, s68, s69, s70, s71, s72, s73, s74, s75, (.slice (some ⟨gL, 0, none⟩) 2 2), (.pointer (some ⟨gL, 2, none⟩)), s78, s79, s80, s81, by kernel_rfl, hB.out, g0.out, f0.out, f1.out, f2.out, f3.out, f4.out, f5.out, f6.out, f7.out, f8.out, fun _ => rfl, f10.out, f11.out, f12.out, f13.out, f14.out, f15.out⟩
      · simp only [tl6Deps, List.getD_cons_zero, List.getD_cons_succ, List.all_cons, List.all_nil, Bool.and_true] at hr
        have hd9 := hr
        obtain rfl := f9.out hd9
        refine wpOp_step rfl (fun K hK => ?_)
        simp only [sets, List.foldl_cons, List.foldl_nil, List.set_cons_succ, List.set_cons_zero]
        go_simp
        exact hK _ _ ⟨s25, s26, s68, s69, s70, s71, s72, s73, s74, s75, s76, (.pointer (some ⟨gL, 2, none⟩)), (.pointer (some ⟨gL, 2, none⟩)), s79, s80, s81, by kernel_rfl, hB.out, g0.out, f0.out, f1.out, f2.out, f3.out, f4.out, f5.out, f6.out, f7.out, f8.out, f9.out, fun _ => rfl, f11.out, f12.out, f13.out, f14.out, f15.out⟩
      · simp only [tl6Deps, List.getD_cons_zero, List.getD_cons_succ, List.all_cons, List.all_nil, Bool.and_true] at hr
        have hd10 := hr
        obtain rfl := f10.out hd10
        refine wpOp_step rfl (fun K hK => ?_)
        simp only [sets, List.foldl_cons, List.foldl_nil, List.set_cons_succ, List.set_cons_zero]
        go_simp
        exact hK _ _ ⟨s25, s26, s68, s69, s70, s71, s72, s73, s74, s75, s76, s77, (.pointer (some ⟨gL, 2, none⟩)), (.slice y.pp y.pl.length y.pc), s80, s81, by kernel_rfl, hB.out, g0.out, f0.out, f1.out, f2.out, f3.out, f4.out, f5.out, f6.out, f7.out, f8.out, f9.out, f10.out, fun _ => rfl, f12.out, f13.out, f14.out, f15.out⟩
      · simp only [tl6Deps, List.getD_cons_zero, List.getD_cons_succ, List.all_cons, List.all_nil, Bool.and_true] at hr
        have hd11 := hr
        obtain rfl := f11.out hd11
        refine wpOp_step rfl (fun K hK => ?_)
        simp only [sets, List.foldl_cons, List.foldl_nil, List.set_cons_succ, List.set_cons_zero]
        go_simp
        exact hK _ _ ⟨s25, s26, s68, s69, s70, s71, s72, s73, s74, s75, s76, s77, s78, (.slice y.pp y.pl.length y.pc), (.int .i64 y.pl.length), s81, by kernel_rfl, hB.out, g0.out, f0.out, f1.out, f2.out, f3.out, f4.out, f5.out, f6.out, f7.out, f8.out, f9.out, f10.out, f11.out, fun _ => rfl, f13.out, f14.out, f15.out⟩
      · simp only [tl6Deps, List.getD_cons_zero, List.getD_cons_succ, List.all_cons, List.all_nil, Bool.and_true, Bool.and_eq_true] at hr
        obtain ⟨hd7, hd12⟩ := hr
        obtain rfl := f7.out hd7
        obtain rfl := f12.out hd12
        have hi := hi.out
        simp only [List.getElem?_cons_zero, List.getElem?_cons_succ, Option.some.injEq] at hi
        subst hi
        refine wpOp_step rfl (fun K hK => ?_)
        simp only [sets, List.foldl_cons, List.foldl_nil, List.set_cons_succ, List.set_cons_zero]
        go_simp
        refine (Next_y y.pl.length b (101 + (1 * b6.toNat + 1 * false.toNat)) W (by have := hflags; simp only [Bool.toNat_false] at *; omega) (by omega) (by omega) g0.out).mono ?_
        rintro _ W6 ⟨z, v, rfl, hv, rfl, hr⟩
        exact hK _ _ ⟨s25, s26, s68, s69, s70, s71, s72, s73, s74, (.pointer (some ⟨b, 0, none⟩)), s76, s77, s78, s79, (.int .i64 y.pl.length), (.int .i64 v), by kernel_rfl, hB.out.trans (z.grew.mono (by omega)), (hr.mono (by simp only [List.set_cons_succ, List.set_cons_zero, List.getD_cons_zero, List.getD_cons_succ, Bool.toNat_true, Bool.toNat_false]; omega)), f0.out, f1.out, f2.out, f3.out, f4.out, f5.out, (fun h => by obtain ⟨v, e, hv⟩ := f6.out h; exact ⟨v, e, hv⟩), f7.out, f8.out, f9.out, f10.out, f11.out, f12.out, (fun _ => ⟨v, rfl, hv⟩), (fun h => by obtain ⟨v, e, hv⟩ := f14.out h; exact ⟨v, e, hv⟩), (fun h => by obtain ⟨v, e, hv⟩ := f15.out h; exact ⟨v, e, hv⟩)⟩
      · simp only [tl6Deps, List.getD_cons_zero, List.getD_cons_succ, List.all_cons, List.all_nil, Bool.and_true] at hr
        have hd6 := hr
        obtain ⟨v, rfl, hv⟩ := f6.out hd6
        refine wpOp_step rfl (fun K hK => ?_)
        simp only [sets, List.foldl_cons, List.foldl_nil, List.set_cons_succ, List.set_cons_zero]
        go_simp
        exact hK _ _ ⟨(.int .i64 v), s26, s68, s69, s70, s71, s72, s73, (.int .i64 v), s75, s76, s77, s78, s79, s80, s81, by kernel_rfl, hB.out, g0.out, f0.out, f1.out, f2.out, f3.out, f4.out, f5.out, (fun _ => ⟨v, rfl, hv⟩), f7.out, f8.out, f9.out, f10.out, f11.out, f12.out, f13.out, (fun _ => ⟨v, rfl, hv⟩), f15.out⟩
      · simp only [tl6Deps, List.getD_cons_zero, List.getD_cons_succ, List.all_cons, List.all_nil, Bool.and_true] at hr
        have hd13 := hr
        obtain ⟨v, rfl, hv⟩ := f13.out hd13
        refine wpOp_step rfl (fun K hK => ?_)
        simp only [sets, List.foldl_cons, List.foldl_nil, List.set_cons_succ, List.set_cons_zero]
        go_simp
        exact hK _ _ ⟨s25, (.int .i64 v), s68, s69, s70, s71, s72, s73, s74, s75, s76, s77, s78, s79, s80, (.int .i64 v), by kernel_rfl, hB.out, g0.out, f0.out, f1.out, f2.out, f3.out, f4.out, f5.out, f6.out, f7.out, f8.out, f9.out, f10.out, f11.out, f12.out, (fun _ => ⟨v, rfl, hv⟩), f14.out, (fun _ => ⟨v, rfl, hv⟩)⟩
      · have hi := hi.out; simp at hi
  rintro a5 W5 ⟨v1, v2, ha5, hB45, hv1, hv2⟩
  generalize a5.tmps.getD 68 undef = t68 at ha5
  generalize a5.tmps.getD 69 undef = t69 at ha5
  generalize a5.tmps.getD 70 undef = t70 at ha5
  generalize a5.tmps.getD 71 undef = t71 at ha5
  generalize a5.tmps.getD 72 undef = t72 at ha5
  generalize a5.tmps.getD 73 undef = t73 at ha5
  generalize a5.tmps.getD 74 undef = t74 at ha5
  generalize a5.tmps.getD 75 undef = t75 at ha5
  generalize a5.tmps.getD 76 undef = t76 at ha5
  generalize a5.tmps.getD 77 undef = t77 at ha5
  generalize a5.tmps.getD 78 undef = t78 at ha5
  generalize a5.tmps.getD 79 undef = t79 at ha5
  generalize a5.tmps.getD 80 undef = t80 at ha5
  generalize a5.tmps.getD 81 undef = t81 at ha5
  subst ha5
  simp only [sets, List.foldl_cons, List.foldl_nil, List.set_cons_succ, List.set_cons_zero]
  have sB5 := hB45.size
  have lR4 : RB < W4.heap.size := by omega
  have hwRB : w.heap.size ≤ RB := by omega
  have hB6 : Below w.heap.size w W5 := ((BelowX.of hB5).trans (hB45.mono hB5.size)).below hwRB
  obtain ⟨p2', cc2, e2, hvA, -⟩ := vecs_of (owns_belowX hoA lRB hB45)
  have e21 := (Value.slice.inj e2).1
  clear e2
  subst e21
  obtain ⟨p3, cc3, rfl, hvG, -⟩ := vecs_of (owns_belowX hoG lRB hB45)
  have hyAt : y.At W5 := (hoL.belowX lRB hB45).at'
  have qA := (hB45.block gA (row_lt rA) (by omega)).trans rA
  have qG := (hB45.block gG (row_lt rG) (by omega)).trans rG
  have qL := (hB45.block gL lL nL).trans rL
  have qR := (hB45.block gR (row_lt rR) (by omega)).trans rR
  have qF := (hB45.block gF (row_lt rFF) (by omega)).trans rFF
  clear rA rG rL rR rFF
  obtain ⟨M1, hM1⟩ : ∃ M, min v1 v2 = M := ⟨_, rfl⟩
  obtain ⟨M2, hM2⟩ : ∃ M, max v1 v2 = M := ⟨_, rfl⟩
  have hI1 : I64 M1 := by unfold I64; omega
  have hI2 : I64 M2 := by unfold I64; omega
  go_upto_region 8 with (first | ((first | with_reducible refine wrx2 ?_ | with_reducible refine wrx ?_); (repeat (first | go_big_quiet_step ((first | fail)) | quiet_step ((first | fail)))); refine wpQuiet_nil ?_; rintro _ ⟨yr, rfl⟩; have syr := Ext.size yr; (repeat (first | rw [World.size_alloc] at syr | rw [World.size_setCell] at syr | rw [World.size_drew] at syr))))
  refine wp_named (fun W6 hW => ?_)
  have hB7 : Below W5.heap.size W5 W6 := by rw [← hW]; repeat' (first | (with_reducible exact Below.refl _ _) | (with_reducible assumption) | (with_reducible refine Ext.below _ ?_ ?_) | (with_reducible refine Below.on ?_ (by with_reducible assumption) ?_) | (with_reducible refine Below.alloc ?_ ?_ _) | (with_reducible refine Below.drew ?_) | (with_reducible refine Below.setCell ?_ ?_ _) | (with_reducible exact Nat.le_refl _) | omega | (simp; done) | (simp [go_sem]; done) | (simp at *; omega))
  obtain ⟨r1, r2⟩ := alloc2_rows hW
  clear hW
  have sB7 := hB7.size
  have hB8 : Below w.heap.size w W6 := hB6.trans (hB7.mono hB6.size)
  have hlim6 : LimAt W6 := hlim.on hB8
  have hA := airs2_row ⟨lp, lc, ll⟩ ⟨p2, c2, lsA⟩ ((hB7.block gA (row_lt qA)).trans qA) (hl.on hB8) (hvA.on hB7) (by simp only; omega) (by have := tA.len; simp only; omega)
  have hG := airs2_row ⟨gp, gc, gl⟩ ⟨p3, cc3, lsG⟩ ((hB7.block gG (row_lt qG)).trans qG) (hg.on hB8) (hvG.on hB7) (by simp only; omega) (by have := tG.le; simp only; omega)
  have hL := lands2_row x y ((hB7.block gL (row_lt qL)).trans qL) (hx.on hB8) (hyAt.on hB7)
  have hR := rocks2_row J k ((hB7.block gR (row_lt qR)).trans qR)
  have hF := falls2_row F f ((hB7.block gF (row_lt qF)).trans qF)
  have hI := ints2_rowW fa M1 r1 hfa hI1
  have hJ := ints2_rowW ta M2 r2 hta hI2
  have l0 : gA < W6.heap.size := hA.1
  have l1 : gG < W6.heap.size := hG.1
  have l2 : gL < W6.heap.size := hL.1
  have l3 : gR < W6.heap.size := hR.1
  have l4 : gF < W6.heap.size := hF.1
  have l5 := hI.1
  have l6 := hJ.1
  have sAL : ([⟨lp, lc, ll⟩, ⟨p2, c2, lsA⟩] : List AirR).length = 2 := rfl
  have sGL : ([⟨gp, gc, gl⟩, ⟨p3, cc3, lsG⟩] : List AirR).length = 2 := rfl
  have sLL : [x, y].length = 2 := rfl
  have sRL : [J, k].length = 2 := rfl
  have sFL : [F, f].length = 2 := rfl
  have sIL : [fa, M1].length = 2 := rfl
  have sJL : [ta, M2].length = 2 := rfl
  generalize ([⟨lp, lc, ll⟩, ⟨p2, c2, lsA⟩] : List AirR) = AL at *
  generalize ([⟨gp, gc, gl⟩, ⟨p3, cc3, lsG⟩] : List AirR) = GL at *
  generalize [x, y] = LL at *
  generalize [J, k] = RL at *
  generalize [F, f] = FL at *
  generalize [fa, M1] = IL at *
  generalize [ta, M2] = JL at *
  clear hyAt hvA hvG hoA hoG hoL hB45 hB4 hB5 sB4 sB5 qA qG qL qR qF r1 r2 hv1 hv2 c1 lL nL ypos lR4 lRB hR4 hRr hRB hl hg hx hsm hy16 hyok hl0 hfa hta tA tG hnew kA kG kL kR kFF hwRB hI1 hI2 hM1 hM2 hm9 hlim hok sy1 hlW1 lX0 hB6 hB7 sB7
  replace hA := Go.Lib.hid hA
  replace hG := Go.Lib.hid hG
  replace hL := Go.Lib.hid hL
  replace hR := Go.Lib.hid hR
  replace hF := Go.Lib.hid hF
  replace hI := Go.Lib.hid hI
  replace hJ := Go.Lib.hid hJ
  obtain ⟨g1, hg1⟩ : ∃ g, W5.heap.size = g := ⟨_, rfl⟩
  rw [hg1] at hI hJ l5 l6
  rw [hg1]
  clear hg1
  go_wp2_with (first | ((first | with_reducible refine wrx2 ?_ | with_reducible refine wrx ?_); (repeat (first | go_big_quiet_step ((first | fail)) | quiet_step ((first | fail)))); refine wpQuiet_nil ?_; rintro _ ⟨yr, rfl⟩; have syr := Ext.size yr; (repeat (first | rw [World.size_alloc] at syr | rw [World.size_setCell] at syr | rw [World.size_drew] at syr))))
  go_loopw [29] (fun s W => ∃ (i : Nat) (x : Ext W6), s = .int .i64 i ∧ W = x.now ∧ i ≤ 2) (fun s _ => 2 - (intOf s).toNat)
  case atStart => exact ⟨0, ⟨W6, Below.refl _ _⟩, rfl, rfl, by omega⟩
  case round =>
    obtain ⟨i, z, rfl, rfl, hi⟩ := hrel
    have xs := z.size
    have sB8 := hB8.size
    by_cases hlt : i < 2
    ·
        have hlt2 : (i : Int) < 2 := by omega
        obtain ⟨a0, hav, h40⟩ := hA.out.2 i (by omega)
        obtain ⟨b0, hbv, h41⟩ := hG.out.2 i (by omega)
        obtain ⟨u0, u1, hlx⟩ := hL.out.2 i (by omega)
        obtain ⟨q0, q1, q2, q3, q4, q5, q6, q7, q8, q9, q10⟩ := hR.out.2 i (by omega)
        obtain ⟨v0, v1, v2, v3⟩ := hF.out.2 i (by omega)
        obtain ⟨m0, hm0⟩ := hI.out.2 i (by omega)
        obtain ⟨n0, hn0⟩ := hJ.out.2 i (by omega)
        generalize AL[i]'(by omega) = ai at *
        generalize GL[i]'(by omega) = bi at *
        generalize LL[i]'(by omega) = li at *
        generalize RL[i]'(by omega) = ki at *
        generalize FL[i]'(by omega) = fi at *
        generalize IL[i]'(by omega) = ii at *
        generalize JL[i]'(by omega) = ji at *
        obtain ⟨ap, ac, al⟩ := ai
        obtain ⟨bp, bc, bl⟩ := bi
        simp only at a0 hav h40 b0 hbv h41
        have p1 := fun W (y : Below W6.heap.size W6 W) => Toll_any ap ac al bp bc bl li ki fi ii ji W (hlim6.on y) (hav.on y) (hbv.on y) (hlx.on y)
        have p2 := fun W (y : Below W6.heap.size W6 W) => rToll_any ap ac al bp bc bl li ki fi ii ji W (hav.on y) (hbv.on y) (hlx.on y) (by omega)
        have p3 := fun W (y : Below W6.heap.size W6 W) => Worst_any ap ac al bp bc bl li ki fi ii ji W (hlim6.on y) (hav.on y) (hbv.on y) (hlx.on y)
        have p4 := fun W (y : Below W6.heap.size W6 W) => rWorst_any ap ac al bp bc bl li ki fi ii ji W (hav.on y) (hbv.on y) (hlx.on y) (by omega)
        generalize minsV (tollsV al bl li ki fi ii ji) = E1 at *
        generalize maxsV (tollsV al bl li ki fi ii ji) = E2 at *
        generalize tollE al bl li ki fi ii ji = E3 at *
        generalize worstV al bl li ki fi ii ji = E4 at *
        unfold LandR.val RockR.val FallR.val at *
        clear hA hG hL hR hF hI hJ sAL sGL sLL sRL sFL sIL sJL ca hB8 sB8 hlx hav hbv h40 h41 hm0 hn0 hlim6
        generalize al.length = n1 at *
        generalize bl.length = n4 at *
        generalize li.pl.length = n2 at *
        generalize li.wl.length = n3 at *
        go_upto_region 11 with (first | ((first | with_reducible refine wrx2 ?_ | with_reducible refine wrx ?_); (repeat (first | go_big_quiet_step ((first | fail)) | quiet_step ((first | fail)))); refine wpQuiet_nil ?_; rintro _ ⟨yr, rfl⟩; have syr := Ext.size yr; (repeat (first | rw [World.size_alloc] at syr | rw [World.size_setCell] at syr | rw [World.size_drew] at syr))))
        (apply wp_region_free1s 32 30 126 31 127 #[.int .i64 0, .int .i64 0] #[.int .i64 E1, .int .i64 E2] 29 (by kernel_rfl) (by kernel_rfl)); (case hal1 => (intro a' W' K hk; refine wpOp_step rfl (fun K' hK' => ?_); go_simp; exact hK' _ _ hk)); (case h => (intro z; have sz := z.size; (repeat (first | rw [World.size_alloc] at sz | rw [World.size_setCell] at sz | rw [World.size_drew] at sz)); have : gA < z.now.heap.size := (by omega); have : gA ≤ z.now.heap.size := (by omega); have : gG < z.now.heap.size := (by omega); have : gG ≤ z.now.heap.size := (by omega); have : gL < z.now.heap.size := (by omega); have : gL ≤ z.now.heap.size := (by omega); have : gR < z.now.heap.size := (by omega); have : gR ≤ z.now.heap.size := (by omega); have : gF < z.now.heap.size := (by omega); have : gF ≤ z.now.heap.size := (by omega); have : g1 < z.now.heap.size := (by omega); have : g1 ≤ z.now.heap.size := (by omega); have : g1 + 1 < z.now.heap.size := (by omega); have : g1 + 1 ≤ z.now.heap.size := (by omega); (repeat (first | go_big_quiet_step ((first | (go_at_call 16; with_reducible exact Calls.ext (p1 _ bcl)))) | quiet_step ((first | (go_at_call 16; with_reducible exact Calls.ext (p1 _ bcl)))))); exact wpQuiet_nil rfl)); (case hfs => exact Nat.le_of_ble_eq_true rfl); (case hs1 => (intro a' W' K O hp hx hg hk; refine wpOp_step rfl (fun K' hK' => ?_); refine (if_pos (by rfl)).mpr ?_; exact store_op 29 (.tmp 30) (.tmp 126) rfl O #[.int .i64 E1, .int .i64 E2] hp (hx.trans rfl) 29 _ hg (by kernel_rfl) rfl (by simp [Value.oneCell']) (hK' _ _ hk))); (case hs2 => (intro a' W' K hx hk; refine wpOp_step rfl (fun K' hK' => ?_); have hk9 : K (a'.put (some 31) (a'.eval (.tmp 127))) W' := (by rw [hx]; exact hk); go_simp; first | exact hK' _ _ hk9 | (simp [Act.put, Act.eval] at hk9; exact hK' _ _ hk9))); intro yr BV gB1 gB2 gB3; have syr := yr.size; (repeat (first | rw [World.size_alloc] at syr | rw [World.size_setCell] at syr | rw [World.size_drew] at syr)); (repeat (first | rw [World.size_alloc] at gB1 | rw [World.size_setCell] at gB1 | rw [World.size_drew] at gB1)); have : gA < yr.now.heap.size := (by omega); have : gA ≤ yr.now.heap.size := (by omega); have : gA < yr.now.heap.size + 1 := (by omega); have : gG < yr.now.heap.size := (by omega); have : gG ≤ yr.now.heap.size := (by omega); have : gG < yr.now.heap.size + 1 := (by omega); have : gL < yr.now.heap.size := (by omega); have : gL ≤ yr.now.heap.size := (by omega); have : gL < yr.now.heap.size + 1 := (by omega); have : gR < yr.now.heap.size := (by omega); have : gR ≤ yr.now.heap.size := (by omega); have : gR < yr.now.heap.size + 1 := (by omega); have : gF < yr.now.heap.size := (by omega); have : gF ≤ yr.now.heap.size := (by omega); have : gF < yr.now.heap.size + 1 := (by omega); have : g1 < yr.now.heap.size := (by omega); have : g1 ≤ yr.now.heap.size := (by omega); have : g1 < yr.now.heap.size + 1 := (by omega); have : g1 + 1 < yr.now.heap.size := (by omega); have : g1 + 1 ≤ yr.now.heap.size := (by omega); have : g1 + 1 < yr.now.heap.size + 1 := (by omega); have kv0 := one_row yr gB3 0; have kv1 := one_row yr gB3 1; simp only [List.getElem?_toArray, List.getElem?_cons_zero, List.getElem?_cons_succ] at kv0 kv1; clear gB3
        obtain ⟨x7, hx7⟩ : ∃ x7 : Ext W6, x7.now = yr.now := ⟨⟨yr.now, z.grew.trans (yr.grew.mono z.size)⟩, rfl⟩
        obtain ⟨B1, hB1⟩ : ∃ B, BV = B := ⟨_, rfl⟩
        have k0 := kv0
        have k1 := kv1
        have lB1 := gB2
        rw [← hx7] at k0 k1 lB1
        rw [hB1] at k0 k1 lB1
        rw [← hx7, hB1]
        clear kv0 kv1 gB1 gB2 hx7 hB1 p1
        have x7s := x7.size
        go_wp2_with fail
        (apply wp_region_free1s 32 32 158 33 159 #[.int .i64 0, .int .i64 0] #[.int .i64 E1, .int .i64 E2] 29 (by kernel_rfl) (by kernel_rfl)); (case hal1 => (intro a' W' K hk; refine wpOp_step rfl (fun K' hK' => ?_); go_simp; exact hK' _ _ hk)); (case h => (intro z; have sz := z.size; (repeat (first | rw [World.size_alloc] at sz | rw [World.size_setCell] at sz | rw [World.size_drew] at sz)); have : gA < z.now.heap.size := (by omega); have : gA ≤ z.now.heap.size := (by omega); have : gG < z.now.heap.size := (by omega); have : gG ≤ z.now.heap.size := (by omega); have : gL < z.now.heap.size := (by omega); have : gL ≤ z.now.heap.size := (by omega); have : gR < z.now.heap.size := (by omega); have : gR ≤ z.now.heap.size := (by omega); have : gF < z.now.heap.size := (by omega); have : gF ≤ z.now.heap.size := (by omega); have : g1 < z.now.heap.size := (by omega); have : g1 ≤ z.now.heap.size := (by omega); have : g1 + 1 < z.now.heap.size := (by omega); have : g1 + 1 ≤ z.now.heap.size := (by omega); have : B1 < z.now.heap.size := (by omega); have : B1 ≤ z.now.heap.size := (by omega); (repeat (first | go_big_quiet_step ((first | (go_at_call 17; with_reducible exact Calls.ext (p2 _ bcl)))) | quiet_step ((first | (go_at_call 17; with_reducible exact Calls.ext (p2 _ bcl)))))); exact wpQuiet_nil rfl)); (case hfs => exact Nat.le_of_ble_eq_true rfl); (case hs1 => (intro a' W' K O hp hx hg hk; refine wpOp_step rfl (fun K' hK' => ?_); refine (if_pos (by rfl)).mpr ?_; exact store_op 29 (.tmp 32) (.tmp 158) rfl O #[.int .i64 E1, .int .i64 E2] hp (hx.trans rfl) 29 _ hg (by kernel_rfl) rfl (by simp [Value.oneCell']) (hK' _ _ hk))); (case hs2 => (intro a' W' K hx hk; refine wpOp_step rfl (fun K' hK' => ?_); have hk9 : K (a'.put (some 33) (a'.eval (.tmp 159))) W' := (by rw [hx]; exact hk); go_simp; first | exact hK' _ _ hk9 | (simp [Act.put, Act.eval] at hk9; exact hK' _ _ hk9))); intro yr BV gB1 gB2 gB3; have syr := yr.size; (repeat (first | rw [World.size_alloc] at syr | rw [World.size_setCell] at syr | rw [World.size_drew] at syr)); (repeat (first | rw [World.size_alloc] at gB1 | rw [World.size_setCell] at gB1 | rw [World.size_drew] at gB1)); have : gA < yr.now.heap.size := (by omega); have : gA ≤ yr.now.heap.size := (by omega); have : gA < yr.now.heap.size + 1 := (by omega); have : gG < yr.now.heap.size := (by omega); have : gG ≤ yr.now.heap.size := (by omega); have : gG < yr.now.heap.size + 1 := (by omega); have : gL < yr.now.heap.size := (by omega); have : gL ≤ yr.now.heap.size := (by omega); have : gL < yr.now.heap.size + 1 := (by omega); have : gR < yr.now.heap.size := (by omega); have : gR ≤ yr.now.heap.size := (by omega); have : gR < yr.now.heap.size + 1 := (by omega); have : gF < yr.now.heap.size := (by omega); have : gF ≤ yr.now.heap.size := (by omega); have : gF < yr.now.heap.size + 1 := (by omega); have : g1 < yr.now.heap.size := (by omega); have : g1 ≤ yr.now.heap.size := (by omega); have : g1 < yr.now.heap.size + 1 := (by omega); have : g1 + 1 < yr.now.heap.size := (by omega); have : g1 + 1 ≤ yr.now.heap.size := (by omega); have : g1 + 1 < yr.now.heap.size + 1 := (by omega); have : B1 < yr.now.heap.size := (by omega); have : B1 ≤ yr.now.heap.size := (by omega); have : B1 < yr.now.heap.size + 1 := (by omega); have kv0 := one_row yr gB3 0; have kv1 := one_row yr gB3 1; simp only [List.getElem?_toArray, List.getElem?_cons_zero, List.getElem?_cons_succ] at kv0 kv1; clear gB3
        have hb8 : Below W6.heap.size W6 yr.now := x7.grew.trans (yr.grew.mono x7.size)
        replace k0 := (yr.cell lB1).trans k0
        replace k1 := (yr.cell lB1).trans k1
        have s8 := yr.size
        replace lB1 : B1 < yr.now.heap.size := by omega
        have lB2 := gB2
        obtain ⟨B2, hB2⟩ : ∃ B, BV = B := ⟨_, rfl⟩
        rw [hB2] at kv0 kv1 lB2
        rw [hB2]
        clear gB1 gB2 p2
        generalize yr.now = W8 at *
        replace a0 := (hb8.cell (p := ⟨gA, i, none⟩) l0).trans a0
        replace b0 := (hb8.cell (p := ⟨gG, i, none⟩) l1).trans b0
        replace u0 := (hb8.cell (p := ⟨gL, i * 2, none⟩) l2).trans u0
        replace u1 := (hb8.cell (p := ⟨gL, i * 2 + 1, none⟩) l2).trans u1
        replace q0 := (hb8.cell (p := ⟨gR, i * 11, none⟩) l3).trans q0
        replace q1 := (hb8.cell (p := ⟨gR, i * 11 + 1, none⟩) l3).trans q1
        replace q2 := (hb8.cell (p := ⟨gR, i * 11 + 2, none⟩) l3).trans q2
        replace q3 := (hb8.cell (p := ⟨gR, i * 11 + 3, none⟩) l3).trans q3
        replace q4 := (hb8.cell (p := ⟨gR, i * 11 + 4, none⟩) l3).trans q4
        replace q5 := (hb8.cell (p := ⟨gR, i * 11 + 5, none⟩) l3).trans q5
        replace q6 := (hb8.cell (p := ⟨gR, i * 11 + 6, none⟩) l3).trans q6
        replace q7 := (hb8.cell (p := ⟨gR, i * 11 + 7, none⟩) l3).trans q7
        replace q8 := (hb8.cell (p := ⟨gR, i * 11 + 8, none⟩) l3).trans q8
        replace q9 := (hb8.cell (p := ⟨gR, i * 11 + 9, none⟩) l3).trans q9
        replace q10 := (hb8.cell (p := ⟨gR, i * 11 + 10, none⟩) l3).trans q10
        replace v0 := (hb8.cell (p := ⟨gF, i * 4, none⟩) l4).trans v0
        replace v1 := (hb8.cell (p := ⟨gF, i * 4 + 1, none⟩) l4).trans v1
        replace v2 := (hb8.cell (p := ⟨gF, i * 4 + 2, none⟩) l4).trans v2
        replace v3 := (hb8.cell (p := ⟨gF, i * 4 + 3, none⟩) l4).trans v3
        replace m0 := (hb8.cell (p := ⟨g1, i, none⟩) l5).trans m0
        replace n0 := (hb8.cell (p := ⟨(g1 + 1), i, none⟩) l6).trans n0
        have s68 := hb8.size
        have p5 := fun W (y : Below W8.heap.size W8 W) => p3 W (hb8.trans (y.mono s68))
        have p6 := fun W (y : Below W8.heap.size W8 W) => p4 W (hb8.trans (y.mono s68))
        replace l0 : gA < W8.heap.size := by omega
        replace l1 : gG < W8.heap.size := by omega
        replace l2 : gL < W8.heap.size := by omega
        replace l3 : gR < W8.heap.size := by omega
        replace l4 : gF < W8.heap.size := by omega
        replace l5 : g1 < W8.heap.size := by omega
        replace l6 : g1 + 1 < W8.heap.size := by omega
        clear p3 p4
        go_wp2_with (first | ((first | with_reducible refine wrx2 ?_ | with_reducible refine wrx ?_); (repeat (first | go_big_quiet_step ((first | (go_at_call 18; with_reducible exact Calls.ext (p5 _ bcl)) | (go_at_call 19; with_reducible exact Calls.ext (p6 _ bcl)))) | quiet_step ((first | (go_at_call 18; with_reducible exact Calls.ext (p5 _ bcl)) | (go_at_call 19; with_reducible exact Calls.ext (p6 _ bcl)))))); refine wpQuiet_nil ?_; rintro _ ⟨yr, rfl⟩; have syr := Ext.size yr; (repeat (first | rw [World.size_alloc] at syr | rw [World.size_setCell] at syr | rw [World.size_drew] at syr)); have : gA < yr.now.heap.size := (by omega); have : gA ≤ yr.now.heap.size := (by omega); have : gA < yr.now.heap.size + 1 + 1 := (by omega); have : gG < yr.now.heap.size := (by omega); have : gG ≤ yr.now.heap.size := (by omega); have : gG < yr.now.heap.size + 1 + 1 := (by omega); have : gL < yr.now.heap.size := (by omega); have : gL ≤ yr.now.heap.size := (by omega); have : gL < yr.now.heap.size + 1 + 1 := (by omega); have : gR < yr.now.heap.size := (by omega); have : gR ≤ yr.now.heap.size := (by omega); have : gR < yr.now.heap.size + 1 + 1 := (by omega); have : gF < yr.now.heap.size := (by omega); have : gF ≤ yr.now.heap.size := (by omega); have : gF < yr.now.heap.size + 1 + 1 := (by omega); have : g1 < yr.now.heap.size := (by omega); have : g1 ≤ yr.now.heap.size := (by omega); have : g1 < yr.now.heap.size + 1 + 1 := (by omega); have : g1 + 1 < yr.now.heap.size := (by omega); have : g1 + 1 ≤ yr.now.heap.size := (by omega); have : g1 + 1 < yr.now.heap.size + 1 + 1 := (by omega); have : B1 < yr.now.heap.size := (by omega); have : B1 ≤ yr.now.heap.size := (by omega); have : B1 < yr.now.heap.size + 1 + 1 := (by omega); have : B2 < yr.now.heap.size := (by omega); have : B2 ≤ yr.now.heap.size := (by omega); have : B2 < yr.now.heap.size + 1 + 1 := (by omega)) | (go_at_call 18; (first | with_reducible refine (Calls.giv2 (p5 _ bcl)).mono ?_ | with_reducible refine (Calls.giv (p5 _ bcl)).mono ?_); rintro _ _ ⟨y1, rfl, rfl⟩; have sy1 := Ext.size y1; (repeat (first | rw [World.size_alloc] at sy1 | rw [World.size_setCell] at sy1 | rw [World.size_drew] at sy1)); have : gA < y1.now.heap.size := (by omega); have : gA ≤ y1.now.heap.size := (by omega); have : gA < y1.now.heap.size + 1 + 1 := (by omega); have : gG < y1.now.heap.size := (by omega); have : gG ≤ y1.now.heap.size := (by omega); have : gG < y1.now.heap.size + 1 + 1 := (by omega); have : gL < y1.now.heap.size := (by omega); have : gL ≤ y1.now.heap.size := (by omega); have : gL < y1.now.heap.size + 1 + 1 := (by omega); have : gR < y1.now.heap.size := (by omega); have : gR ≤ y1.now.heap.size := (by omega); have : gR < y1.now.heap.size + 1 + 1 := (by omega); have : gF < y1.now.heap.size := (by omega); have : gF ≤ y1.now.heap.size := (by omega); have : gF < y1.now.heap.size + 1 + 1 := (by omega); have : g1 < y1.now.heap.size := (by omega); have : g1 ≤ y1.now.heap.size := (by omega); have : g1 < y1.now.heap.size + 1 + 1 := (by omega); have : g1 + 1 < y1.now.heap.size := (by omega); have : g1 + 1 ≤ y1.now.heap.size := (by omega); have : g1 + 1 < y1.now.heap.size + 1 + 1 := (by omega); have : B1 < y1.now.heap.size := (by omega); have : B1 ≤ y1.now.heap.size := (by omega); have : B1 < y1.now.heap.size + 1 + 1 := (by omega); have : B2 < y1.now.heap.size := (by omega); have : B2 ≤ y1.now.heap.size := (by omega); have : B2 < y1.now.heap.size + 1 + 1 := (by omega)) | (go_at_call 19; (first | with_reducible refine (Calls.giv2 (p6 _ bcl)).mono ?_ | with_reducible refine (Calls.giv (p6 _ bcl)).mono ?_); rintro _ _ ⟨y2, rfl, rfl⟩; have sy2 := Ext.size y2; (repeat (first | rw [World.size_alloc] at sy2 | rw [World.size_setCell] at sy2 | rw [World.size_drew] at sy2)); have : gA < y2.now.heap.size := (by omega); have : gA ≤ y2.now.heap.size := (by omega); have : gA < y2.now.heap.size + 1 + 1 := (by omega); have : gG < y2.now.heap.size := (by omega); have : gG ≤ y2.now.heap.size := (by omega); have : gG < y2.now.heap.size + 1 + 1 := (by omega); have : gL < y2.now.heap.size := (by omega); have : gL ≤ y2.now.heap.size := (by omega); have : gL < y2.now.heap.size + 1 + 1 := (by omega); have : gR < y2.now.heap.size := (by omega); have : gR ≤ y2.now.heap.size := (by omega); have : gR < y2.now.heap.size + 1 + 1 := (by omega); have : gF < y2.now.heap.size := (by omega); have : gF ≤ y2.now.heap.size := (by omega); have : gF < y2.now.heap.size + 1 + 1 := (by omega); have : g1 < y2.now.heap.size := (by omega); have : g1 ≤ y2.now.heap.size := (by omega); have : g1 < y2.now.heap.size + 1 + 1 := (by omega); have : g1 + 1 < y2.now.heap.size := (by omega); have : g1 + 1 ≤ y2.now.heap.size := (by omega); have : g1 + 1 < y2.now.heap.size + 1 + 1 := (by omega); have : B1 < y2.now.heap.size := (by omega); have : B1 ≤ y2.now.heap.size := (by omega); have : B1 < y2.now.heap.size + 1 + 1 := (by omega); have : B2 < y2.now.heap.size := (by omega); have : B2 ≤ y2.now.heap.size := (by omega); have : B2 < y2.now.heap.size + 1 + 1 := (by omega)))
        exact ⟨⟨i + 1, ⟨_, hb8.trans (yr.grew.mono s68)⟩, by simp, rfl, by omega⟩, by simp [intOf]; omega⟩
    ·
        have hge : i = 2 := by omega
        subst hge
        have hlim := hlim6
        go_wp2_with (first | ((first | with_reducible refine wrx2 ?_ | with_reducible refine wrx ?_); (repeat (first | go_big_quiet_step ((first | (go_at_call 9; with_reducible exact Calls.ext (ca _ (by repeat (first | exact hlim | (with_reducible refine LimAt.ext ?_ _) | (with_reducible refine LimAt.alloc ?_ _) | (with_reducible refine LimAt.drew ?_) | (with_reducible refine LimAt.rext ?_ (by omega) _) | (with_reducible refine LimAt.set ?_ (by omega) _))))))) | quiet_step ((first | (go_at_call 9; with_reducible exact Calls.ext (ca _ (by repeat (first | exact hlim | (with_reducible refine LimAt.ext ?_ _) | (with_reducible refine LimAt.alloc ?_ _) | (with_reducible refine LimAt.drew ?_) | (with_reducible refine LimAt.rext ?_ (by omega) _) | (with_reducible refine LimAt.set ?_ (by omega) _))))))))); refine wpQuiet_nil ?_; rintro _ ⟨yr, rfl⟩; have syr := Ext.size yr; (repeat (first | rw [World.size_alloc] at syr | rw [World.size_setCell] at syr | rw [World.size_drew] at syr))) | (go_at_call 9; (first | with_reducible refine (Calls.giv2 (ca _ (by repeat (first | exact hlim | (with_reducible refine LimAt.ext ?_ _) | (with_reducible refine LimAt.alloc ?_ _) | (with_reducible refine LimAt.drew ?_) | (with_reducible refine LimAt.rext ?_ (by omega) _) | (with_reducible refine LimAt.set ?_ (by omega) _))))).mono ?_ | with_reducible refine (Calls.giv (ca _ (by repeat (first | exact hlim | (with_reducible refine LimAt.ext ?_ _) | (with_reducible refine LimAt.alloc ?_ _) | (with_reducible refine LimAt.drew ?_) | (with_reducible refine LimAt.rext ?_ (by omega) _) | (with_reducible refine LimAt.set ?_ (by omega) _))))).mono ?_); rintro _ _ ⟨y1, rfl, rfl⟩; have sy1 := Ext.size y1; (repeat (first | rw [World.size_alloc] at sy1 | rw [World.size_setCell] at sy1 | rw [World.size_drew] at sy1))))
        go_returns
        refine ⟨rfl, ?_⟩
        repeat' (first | (with_reducible exact Below.refl _ _) | (with_reducible assumption) | (with_reducible refine Ext.below _ ?_ ?_) | (with_reducible refine Below.on ?_ (by with_reducible assumption) ?_) | (with_reducible refine Below.alloc ?_ ?_ _) | (with_reducible refine Below.drew ?_) | (with_reducible refine Below.setCell ?_ ?_ _) | (with_reducible exact Nat.le_refl _) | omega | (simp; done) | (simp [go_sem]; done) | (simp at *; omega))
end Go.Proofs.YtlmhbggigbmeaaaDoor

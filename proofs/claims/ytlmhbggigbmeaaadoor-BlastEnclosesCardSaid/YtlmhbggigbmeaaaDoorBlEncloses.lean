/- For BlastEncloses: each stone of a rock ends in a layer of one of its blows, with an energy of it; its harm lies in the toll. Written by gen_out.py. Condition: none beyond the statement's own. -/
import Derived.Test.YtlmhbggigbmeaaaDoorBlX1
import Derived.Test.YtlmhbggigbmeaaaDoorBlAlG
import Derived.Test.YtlmhbggigbmeaaaDoorBlLo
import Derived.Test.YtlmhbggigbmeaaaDoorBlGo
import Derived.Test.YtlmhbggigbmeaaaDoorBlAG
import Derived.Test.YtlmhbggigbmeaaaDoorBlRock
import Derived.Test.YtlmhbggigbmeaaaDoorBlX2
import Derived.Test.YtlmhbggigbmeaaaDoorBlV1G
import Derived.Test.YtlmhbggigbmeaaaDoorPairG
namespace Go.Proofs.YtlmhbggigbmeaaaDoor
open Go.RowKit Go.Shelf
attribute [local go_sem] Option.isSome_some Ext.cell Ext.frozen Ext.lt Ext.le Ext.lt_add Ext.le_add Ext.ne Ext.ne' lt2 lt3 lt4 lt5 le2 le3 le4
attribute [local go_sem] RExt.cell RExt.frozen RExt.lt RExt.le RExt.lt_add RExt.le_add RExt.ne RExt.ne'
theorem rows_ne {W : World} {g : Nat} {c c' : Array Value} {T T' : TypeId} {f f' : Nat × Nat} (hne : T ≠ T') (h : W.heap[g]? = some (.cells c T f)) (h' : W.heap[g]? = some (.cells c' T' f')) : False := by
  have e := Option.some.inj (h.symm.trans h')
  injection e with e1 e2
  exact hne e2
theorem list16 {α : Type} {l : List α} (h : l.length = 16) : ∃ b0 b1 b2 b3 b4 b5 b6 b7 b8 b9 b10 b11 b12 b13 b14 b15, l = [b0, b1, b2, b3, b4, b5, b6, b7, b8, b9, b10, b11, b12, b13, b14, b15] := by
  match l, h with
  | [b0, b1, b2, b3, b4, b5, b6, b7, b8, b9, b10, b11, b12, b13, b14, b15], _ => exact ⟨_, _, _, _, _, _, _, _, _, _, _, _, _, _, _, _, rfl⟩
def encDeps : List (List Nat) := [[], [0], [], [2], [], [4], [], [], [], [6, 7, 8], [], [], [1], [3], [10, 5], [11, 9]]
def encInv (b m : Nat) (k : RockR) (f : FallR) (a0 : Act) (X : World) (l : List Bool) (fr : Act) (W : World) : Prop :=
  ∃ s6 s7 s8 s9 s30 s31 s32 s33 s34 s35 s36 s37 s38 s39 : Value, fr = sets a0 [(6, s6), (7, s7), (8, s8), (9, s9), (30, s30), (31, s31), (32, s32), (33, s33), (34, s34), (35, s35), (36, s36), (37, s37), (38, s38), (39, s39)] ∧ BelowX b X.heap.size X W ∧
    (RingM W b (m + (20 * (l.getD 1 false).toNat + 15 * (l.getD 3 false).toNat + 50 * (l.getD 5 false).toNat + 14 * (l.getD 9 false).toNat))) ∧
    (l.getD 14 false = true → l.getD 10 false = true) ∧
    (l.getD 15 false = true → l.getD 11 false = true) ∧
    (l.getD 0 false = true → s30 = .pointer (some ⟨b, 0, none⟩)) ∧
    (l.getD 1 false = true → ∃ (lv : Value) (ls : List V2), s31 = lv ∧ LaysOk ls ∧ W.ownsRow X.heap.size 90 2 lv ls.length (vrows ls)) ∧
    (l.getD 2 false = true → s32 = .pointer (some ⟨b, 0, none⟩)) ∧
    (l.getD 3 false = true → ∃ (lv : Value) (ls : List V2), s33 = lv ∧ GradesOk ls ∧ W.ownsRow X.heap.size 92 2 lv ls.length (vrows ls)) ∧
    (l.getD 4 false = true → s34 = .pointer (some ⟨b, 0, none⟩)) ∧
    (l.getD 5 false = true → ∃ y : LandR, s35 = .agg #[.slice y.pp y.pl.length y.pc, .slice y.wp y.wl.length y.wc] ∧ (y.Ok ∧ y.pl.length ≤ 16) ∧ LandOwn W X.heap.size y) ∧
    (l.getD 6 false = true → s36 = .pointer (some ⟨b, 0, none⟩)) ∧
    (l.getD 7 false = true → s37 = .agg #[.int .i64 k.size.x, .int .i64 k.size.y, .int .i64 k.dens.x, .int .i64 k.dens.y, .int .i64 k.strong.x, .int .i64 k.strong.y, .int .i64 k.spin.x, .int .i64 k.spin.y, .int .i64 k.shape.x, .int .i64 k.shape.y, .bool k.pile]) ∧
    (l.getD 8 false = true → s38 = .agg #[.int .i64 f.speed.x, .int .i64 f.speed.y, .int .i64 f.slope.x, .int .i64 f.slope.y]) ∧
    (l.getD 9 false = true → ∃ s : StoneR, StoneIn s k f ∧ s39 = .agg s.vals) ∧
    (l.getD 10 false = true → ∃ g : Nat, s8 = .pointer (some ⟨g, 0, none⟩) ∧ X.heap.size ≤ g ∧ g < W.heap.size ∧ (l.getD 14 false = false → W.heap[g]? = some (.cells #[.slice none 0 0, .slice none 0 0] 27 (0, 0))) ∧ (l.getD 14 false = true → ∃ y : LandR, (y.Ok ∧ y.pl.length ≤ 16) ∧ LandOwn W X.heap.size y ∧ W.heap[g]? = some (.cells #[.slice y.pp y.pl.length y.pc, .slice y.wp y.wl.length y.wc] 27 (0, 0)))) ∧
    (l.getD 11 false = true → ∃ g : Nat, s9 = .pointer (some ⟨g, 0, none⟩) ∧ X.heap.size ≤ g ∧ g < W.heap.size ∧ (l.getD 15 false = false → W.heap[g]? = some (.cells #[.int .i64 0, .int .i64 0, .int .i64 0, .int .i64 0, .int .i64 0, .bool false, .int .i64 0, .int .i64 0] 57 (0, 0))) ∧ (l.getD 15 false = true → ∃ s : StoneR, StoneIn s k f ∧ W.heap[g]? = some (.cells s.vals 57 (0, 0)))) ∧
    (l.getD 12 false = true → ∃ (lv : Value) (ls : List V2), s6 = lv ∧ LaysOk ls ∧ W.ownsRow X.heap.size 90 2 lv ls.length (vrows ls)) ∧
    (l.getD 13 false = true → ∃ (lv : Value) (ls : List V2), s7 = lv ∧ GradesOk ls ∧ W.ownsRow X.heap.size 92 2 lv ls.length (vrows ls))
def encTold (b m : Nat) (k : RockR) (f : FallR) : Act → World → Act → World → Prop := fun a X a' W => ∃ (XB SB : Nat) (lv gv : Value) (ls gl : List V2) (x : LandR) (s : StoneR), LaysOk ls ∧ GradesOk gl ∧ (x.Ok ∧ x.pl.length ≤ 16) ∧ StoneIn s k f ∧ a' = sets a [(6, lv), (7, gv), (8, .pointer (some ⟨XB, 0, none⟩)), (9, .pointer (some ⟨SB, 0, none⟩)), (30, a'.tmps.getD 30 undef), (31, a'.tmps.getD 31 undef), (32, a'.tmps.getD 32 undef), (33, a'.tmps.getD 33 undef), (34, a'.tmps.getD 34 undef), (35, a'.tmps.getD 35 undef), (36, a'.tmps.getD 36 undef), (37, a'.tmps.getD 37 undef), (38, a'.tmps.getD 38 undef), (39, a'.tmps.getD 39 undef)] ∧ X.heap.size ≤ XB ∧ X.heap.size ≤ SB ∧ BelowX b X.heap.size X W ∧ RingM W b (m + 99) ∧ W.ownsRow X.heap.size 90 2 lv ls.length (vrows ls) ∧ W.ownsRow X.heap.size 92 2 gv gl.length (vrows gl) ∧ LandOwn W X.heap.size x ∧ W.heap[XB]? = some (.cells #[.slice x.pp x.pl.length x.pc, .slice x.wp x.wl.length x.wc] 27 (0, 0)) ∧ W.heap[SB]? = some (.cells s.vals 57 (0, 0))
theorem list12 {α : Type} {l : List α} (h : l.length = 12) : ∃ b0 b1 b2 b3 b4 b5 b6 b7 b8 b9 b10 b11, l = [b0, b1, b2, b3, b4, b5, b6, b7, b8, b9, b10, b11] := by
  match l, h with
  | [b0, b1, b2, b3, b4, b5, b6, b7, b8, b9, b10, b11], _ => exact ⟨_, _, _, _, _, _, _, _, _, _, _, _, rfl⟩
def en5Deps : List (List Nat) := [[], [], [1], [2], [0, 3], [], [], [6], [7], [5, 8], [4], [9]]
def en5Inv (b m : Nat) (XB : Nat) (x : LandR) (a0 : Act) (X : World) (l : List Bool) (fr : Act) (W : World) : Prop :=
  ∃ s17 s18 s113 s114 s115 s116 s117 s118 s119 s120 s121 s122 : Value, fr = sets a0 [(17, s17), (18, s18), (113, s113), (114, s114), (115, s115), (116, s116), (117, s117), (118, s118), (119, s119), (120, s120), (121, s121), (122, s122)] ∧ BelowX b X.heap.size X W ∧
    (RingM W b (m + (1 * (l.getD 4 false).toNat + 1 * (l.getD 9 false).toNat))) ∧
    (l.getD 0 false = true → s113 = .pointer (some ⟨b, 0, none⟩)) ∧
    (l.getD 1 false = true → s114 = .pointer (some ⟨XB, 0, none⟩)) ∧
    (l.getD 2 false = true → s115 = .slice x.pp x.pl.length x.pc) ∧
    (l.getD 3 false = true → s116 = .int .i64 x.pl.length) ∧
    (l.getD 4 false = true → ∃ v : Int, s117 = .int .i64 v ∧ 0 ≤ v ∧ v < (x.pl.length : Int)) ∧
    (l.getD 5 false = true → s118 = .pointer (some ⟨b, 0, none⟩)) ∧
    (l.getD 6 false = true → s119 = .pointer (some ⟨XB, 0, none⟩)) ∧
    (l.getD 7 false = true → s120 = .slice x.pp x.pl.length x.pc) ∧
    (l.getD 8 false = true → s121 = .int .i64 x.pl.length) ∧
    (l.getD 9 false = true → ∃ v : Int, s122 = .int .i64 v ∧ 0 ≤ v ∧ v < (x.pl.length : Int)) ∧
    (l.getD 10 false = true → ∃ v : Int, s17 = .int .i64 v ∧ 0 ≤ v ∧ v < (x.pl.length : Int)) ∧
    (l.getD 11 false = true → ∃ v : Int, s18 = .int .i64 v ∧ 0 ≤ v ∧ v < (x.pl.length : Int))
def en5Told (b : Nat) (x : LandR) : Act → World → Act → World → Prop := fun a9 X a' W => ∃ (v1 v2 : Int), a' = sets a9 [(17, .int .i64 v1), (18, .int .i64 v2), (113, a'.tmps.getD 113 undef), (114, a'.tmps.getD 114 undef), (115, a'.tmps.getD 115 undef), (116, a'.tmps.getD 116 undef), (117, a'.tmps.getD 117 undef), (118, a'.tmps.getD 118 undef), (119, a'.tmps.getD 119 undef), (120, a'.tmps.getD 120 undef), (121, a'.tmps.getD 121 undef), (122, a'.tmps.getD 122 undef)] ∧ BelowX b X.heap.size X W ∧ (0 ≤ v1 ∧ v1 < (x.pl.length : Int)) ∧ (0 ≤ v2 ∧ v2 < (x.pl.length : Int))
set_option maxRecDepth 100000 in
set_option maxHeartbeats 16000000 in
theorem BlastEncloses_any (sp : Option Addr) (sl sc : Nat) (sz : Nat → Int) (w : World) (hlim : LimAt w) (hw : ListIn w sp sl sz) : Calls Tryd.prog 5 #[.slice sp sl sc] w (Gives (.bool true) w) := by
  have ca := fun W (y : LimAt W) => blastAwake_any W y
  have hl0 := hlim.lt
  go_enter Tryd.func5, Tryd.ntmps5
  go_upto_region 2 with (first | ((first | with_reducible refine wrx2 ?_ | with_reducible refine wrx ?_); (repeat (first | go_big_quiet_step ((first | fail)) | quiet_step ((first | fail)))); refine wpQuiet_nil ?_; rintro _ ⟨yr, rfl⟩; have syr := Ext.size yr; (repeat (first | rw [World.size_alloc] at syr | rw [World.size_setCell] at syr | rw [World.size_drew] at syr))) | (go_at_call 10; refine (NewRing_r sp sl sc sz _ hw).mono ?_; rintro _ _ ⟨y0, rfl, rfl, hs0, hr0⟩))
  have hR0 : RingM y0.now w.heap.size 0 := ⟨_, _, _, _, _, hr0, Nat.le_refl _⟩
  have hlim1 : LimAt y0.now := hlim.ext y0
  have hb0 : Below w.heap.size w y0.now := y0.grew
  generalize y0.now = W1 at *
  clear hr0 hw hlim
  have hlW1 := hR0.lt
  go_upto_region 3 with (first | ((first | with_reducible refine wrx2 ?_ | with_reducible refine wrx ?_); (repeat (first | go_big_quiet_step ((first | fail)) | quiet_step ((first | fail)))); refine wpQuiet_nil ?_; rintro _ ⟨yr, rfl⟩; have syr := Ext.size yr; (repeat (first | rw [World.size_alloc] at syr | rw [World.size_setCell] at syr | rw [World.size_drew] at syr))) | (go_at_call 11; refine (RockOf_y w.heap.size 0 _ (by omega) hR0).mono ?_; rintro _ _ ⟨y1, k, f, rfl, hok, rfl, hr1⟩; unfold RockR.val FallR.val; have sy1 := y1.size))
  obtain ⟨m0, hm0⟩ : ∃ m0, 0 + 16 = m0 := ⟨_, rfl⟩
  refine wp_named (fun Wr hW => ?_)
  have hRr : RingM Wr w.heap.size m0 := by rw [← hW, ← hm0]; exact (hr1.alloc _).alloc _
  have hBr : BelowX w.heap.size w.heap.size w Wr := by
    rw [← hW]
    have h6 := (BelowX.of hb0).trans (y1.grew.mono (by omega))
    repeat' (first | (with_reducible exact BelowX.refl _ _ _) | (with_reducible assumption) | (with_reducible refine RExt.belowX _ ?_ ?_) | (with_reducible refine Ext.belowX _ ?_ ?_) | (with_reducible refine BelowX.alloc ?_ ?_ _) | (with_reducible refine BelowX.drew ?_) | (with_reducible refine BelowX.setCell ?_ ?_ _) | (with_reducible exact Nat.le_refl _) | omega | (simp; done) | (simp [go_sem]; done) | (simp at *; omega))
  have hlr : LimAt Wr := by
    rw [← hW]
    have hlim : LimAt y1.now := hlim1.rext (by omega) y1
    exact (by repeat (first | exact hlim | (with_reducible refine LimAt.ext ?_ _) | (with_reducible refine LimAt.alloc ?_ _) | (with_reducible refine LimAt.drew ?_) | (with_reducible refine LimAt.rext ?_ (by omega) _) | (with_reducible refine LimAt.set ?_ (by omega) _)))
  obtain ⟨rk, rf⟩ := alloc2_rows hW
  have eK : Wr.heap.size = y1.now.heap.size + 1 + 1 := by rw [← hW]; simp
  have hKw : w.heap.size < y1.now.heap.size := by omega
  clear hW hr1 hR0 hlim1 hb0
  generalize y1.now.heap.size = KB at *
  clear sy1 hs0 hlW1
  clear y1
  have hmm : m0 = 16 := hm0.symm
  clear hm0
  refine wp_tell (encTold w.heap.size m0 k f) ?_ ?_
  focus
    have hbX := hRr.lt
    have lK := row_lt rk
    have lf := row_lt rf
    have nK : KB ≠ w.heap.size := by omega
    have nf : KB + 1 ≠ w.heap.size := by omega
    clear hlr hBr ca hl0
    repeat (rename_i zz; clear zz)
    generalize m0 = m at *
    generalize w.heap.size = b at *
    refine region_dep (by kernel_rfl) encDeps (by kernel_rfl) (encInv b m k f) ?h0 ?hstep ?hend
    case h0 =>
      refine ⟨?z6, ?z7, ?z8, ?z9, ?z30, ?z31, ?z32, ?z33, ?z34, ?z35, ?z36, ?z37, ?z38, ?z39, ?fr, (BelowX.refl _ _ _).drew, (by simpa using hRr.drew), by simp, by simp, by simp, by simp, by simp, by simp, by simp, by simp, by simp, by simp, by simp, by simp, by simp, by simp, by simp, by simp⟩
      case fr =>
        simp only [sets, List.foldl_cons, List.foldl_nil, List.set_cons_succ, List.set_cons_zero]
        rfl
    case hend =>
      intro l' fr W hl hall hInv
      unfold encInv at hInv
      obtain ⟨s6, s7, s8, s9, s30, s31, s32, s33, s34, s35, s36, s37, s38, s39, hInv⟩ := hInv
      obtain ⟨hfr, hB, g0, g1, g2, f0, f1, f2, f3, f4, f5, f6, f7, f8, f9, f10, f11, f12, f13⟩ := hInv
      subst hfr
      obtain ⟨b0, b1, b2, b3, b4, b5, b6, b7, b8, b9, b10, b11, b12, b13, b14, b15, rfl⟩ := list16 hl
      simp only [List.getD_cons_zero, List.getD_cons_succ] at g0 g1 g2 f0 f1 f2 f3 f4 f5 f6 f7 f8 f9 f10 f11 f12 f13
      simp only [List.all_cons, id, Bool.and_eq_true] at hall
      obtain ⟨e0, e1, e2, e3, e4, e5, e6, e7, e8, e9, e10, e11, e12, e13, e14, e15, -⟩ := hall
      obtain ⟨lv, ls, rfl, hlo, hoA⟩ := f12 e12
      obtain ⟨gv, gl, rfl, hgo, hoG⟩ := f13 e13
      obtain ⟨XB, rfl, kX, -, -, hX⟩ := f10 e10
      obtain ⟨SB, rfl, kS, -, -, hS⟩ := f11 e11
      obtain ⟨x, hxk, hoL, rX⟩ := hX e14
      obtain ⟨s, hin, rS⟩ := hS e15
      have hg : RingM W b (m + 99) := by simpa only [e1, e3, e5, e9, Bool.toNat_true] using g0
      exact ⟨rfl, XB, SB, _, _, ls, gl, x, s, hlo, hgo, hxk, hin, by kernel_rfl, kX, kS, hB, hg, hoA, hoG, hoL, rX, rS⟩
    case hstep =>
      intro l' fr W ii hl hInv hr hi
      unfold encInv at hInv
      obtain ⟨s6, s7, s8, s9, s30, s31, s32, s33, s34, s35, s36, s37, s38, s39, hInv⟩ := hInv
      obtain ⟨hfr, hB, g0, g1, g2, f0, f1, f2, f3, f4, f5, f6, f7, f8, f9, f10, f11, f12, f13⟩ := hInv
      subst hfr
      obtain ⟨b0, b1, b2, b3, b4, b5, b6, b7, b8, b9, b10, b11, b12, b13, b14, b15, rfl⟩ := list16 hl
      have sW := hB.size
      replace rk := (hB.block KB lK nK).trans rk
      replace rf := (hB.block (KB + 1) lf nf).trans rf
      have c0 : W.cell? ⟨KB, 0, none⟩ = some (.int .i64 k.size.x) := (cell_of_row W _ 0 _ _ _ rk).trans rfl
      have c1 : W.cell? ⟨KB, 1, none⟩ = some (.int .i64 k.size.y) := (cell_of_row W _ 1 _ _ _ rk).trans rfl
      have c2 : W.cell? ⟨KB, 2, none⟩ = some (.int .i64 k.dens.x) := (cell_of_row W _ 2 _ _ _ rk).trans rfl
      have c3 : W.cell? ⟨KB, 3, none⟩ = some (.int .i64 k.dens.y) := (cell_of_row W _ 3 _ _ _ rk).trans rfl
      have c4 : W.cell? ⟨KB, 4, none⟩ = some (.int .i64 k.strong.x) := (cell_of_row W _ 4 _ _ _ rk).trans rfl
      have c5 : W.cell? ⟨KB, 5, none⟩ = some (.int .i64 k.strong.y) := (cell_of_row W _ 5 _ _ _ rk).trans rfl
      have c6 : W.cell? ⟨KB, 6, none⟩ = some (.int .i64 k.spin.x) := (cell_of_row W _ 6 _ _ _ rk).trans rfl
      have c7 : W.cell? ⟨KB, 7, none⟩ = some (.int .i64 k.spin.y) := (cell_of_row W _ 7 _ _ _ rk).trans rfl
      have c8 : W.cell? ⟨KB, 8, none⟩ = some (.int .i64 k.shape.x) := (cell_of_row W _ 8 _ _ _ rk).trans rfl
      have c9 : W.cell? ⟨KB, 9, none⟩ = some (.int .i64 k.shape.y) := (cell_of_row W _ 9 _ _ _ rk).trans rfl
      have c10 : W.cell? ⟨KB, 10, none⟩ = some (.bool k.pile) := (cell_of_row W _ 10 _ _ _ rk).trans rfl
      have d0 : W.cell? ⟨KB + 1, 0, none⟩ = some (.int .i64 f.speed.x) := (cell_of_row W _ 0 _ _ _ rf).trans rfl
      have d1 : W.cell? ⟨KB + 1, 1, none⟩ = some (.int .i64 f.speed.y) := (cell_of_row W _ 1 _ _ _ rf).trans rfl
      have d2 : W.cell? ⟨KB + 1, 2, none⟩ = some (.int .i64 f.slope.x) := (cell_of_row W _ 2 _ _ _ rf).trans rfl
      have d3 : W.cell? ⟨KB + 1, 3, none⟩ = some (.int .i64 f.slope.y) := (cell_of_row W _ 3 _ _ _ rf).trans rfl
      clear rk rf
      have hflags : b1.toNat ≤ 1 ∧ b3.toNat ≤ 1 ∧ b5.toNat ≤ 1 ∧ b9.toNat ≤ 1 := ⟨Bool.toNat_le _, Bool.toNat_le _, Bool.toNat_le _, Bool.toNat_le _⟩
      simp only [List.getD_cons_zero, List.getD_cons_succ] at g0 g1 g2 f0 f1 f2 f3 f4 f5 f6 f7 f8 f9 f10 f11 f12 f13
      replace hB := Go.Lib.hid hB
      replace hi := Go.Lib.hid hi
      replace g0 := Go.Lib.hid g0
      replace g1 := Go.Lib.hid g1
      replace g2 := Go.Lib.hid g2
      replace f0 := Go.Lib.hid f0
      replace f1 := Go.Lib.hid f1
      replace f2 := Go.Lib.hid f2
      replace f3 := Go.Lib.hid f3
      replace f4 := Go.Lib.hid f4
      replace f5 := Go.Lib.hid f5
      replace f6 := Go.Lib.hid f6
      replace f7 := Go.Lib.hid f7
      replace f8 := Go.Lib.hid f8
      replace f9 := Go.Lib.hid f9
      replace f10 := Go.Lib.hid f10
      replace f11 := Go.Lib.hid f11
      replace f12 := Go.Lib.hid f12
      replace f13 := Go.Lib.hid f13
      rcases ii with _ | _ | _ | _ | _ | _ | _ | _ | _ | _ | _ | _ | _ | _ | _ | _ | ii
      · refine wpOp_step rfl (fun K hK => ?_)
        simp only [sets, List.foldl_cons, List.foldl_nil, List.set_cons_succ, List.set_cons_zero]
        go_simp
        exact hK _ _ ⟨s6, s7, s8, s9, (.pointer (some ⟨b, 0, none⟩)), s31, s32, s33, s34, s35, s36, s37, s38, s39, by kernel_rfl, hB.out, g0.out, g1.out, g2.out, fun _ => rfl, f1.out, f2.out, f3.out, f4.out, f5.out, f6.out, f7.out, f8.out, f9.out, f10.out, f11.out, f12.out, f13.out⟩
      · simp only [encDeps, List.getD_cons_zero, List.getD_cons_succ, List.all_cons, List.all_nil, Bool.and_true] at hr
        have hd0 := hr
        obtain rfl := f0.out hd0
        have hi := hi.out
        simp only [List.getElem?_cons_zero, List.getElem?_cons_succ, Option.some.injEq] at hi
        subst hi
        refine wpOp_step rfl (fun K hK => ?_)
        simp only [sets, List.foldl_cons, List.foldl_nil, List.set_cons_succ, List.set_cons_zero]
        go_simp
        refine (LayersOf_y b (m + (20 * false.toNat + 15 * b3.toNat + 50 * b5.toNat + 14 * b9.toNat)) W (by have := hflags; simp only [Bool.toNat_false] at *; omega) g0.out).mono ?_
        rintro _ W6 ⟨y, lv, ls, rfl, ho, hn, hall, rfl, hr⟩
        exact hK _ _ ⟨s6, s7, s8, s9, (.pointer (some ⟨b, 0, none⟩)), (lv), s32, s33, s34, s35, s36, s37, s38, s39, by kernel_rfl, hB.out.trans (y.grew.mono (by omega)), (hr.mono (by simp only [List.set_cons_succ, List.set_cons_zero, List.getD_cons_zero, List.getD_cons_succ, Bool.toNat_true, Bool.toNat_false]; omega)), g1.out, g2.out, f0.out, (fun _ => ⟨lv, ls, rfl, ⟨hn, hall⟩, owns_base ho (by omega)⟩), f2.out, (fun h => by obtain ⟨lv, ls, e', h1', ho⟩ := f3.out h; exact ⟨lv, ls, e', h1', owns_belowX ho (by omega) y.grew⟩), f4.out, (fun h => by obtain ⟨y', e', h1', ho⟩ := f5.out h; exact ⟨y', e', h1', ho.rext (by omega) y⟩), f6.out, f7.out, f8.out, f9.out, (fun h => by obtain ⟨g', e', h1', h2', h3', h4'⟩ := f10.out h; exact ⟨g', e', h1', Nat.lt_of_lt_of_le h2' y.size, fun q => y.row (h3' q) h2' (by omega), fun q => by obtain ⟨y', hy', ho, r'⟩ := h4' q; exact ⟨y', hy', ho.rext (by omega) y, y.row (r') h2' (by omega)⟩⟩), (fun h => by obtain ⟨g', e', h1', h2', h3', h4'⟩ := f11.out h; exact ⟨g', e', h1', Nat.lt_of_lt_of_le h2' y.size, fun q => y.row (h3' q) h2' (by omega), fun q => by obtain ⟨s', hs', r'⟩ := h4' q; exact ⟨s', hs', y.row (r') h2' (by omega)⟩⟩), (fun h => by obtain ⟨lv, ls, e', h1', ho⟩ := f12.out h; exact ⟨lv, ls, e', h1', owns_belowX ho (by omega) y.grew⟩), (fun h => by obtain ⟨lv, ls, e', h1', ho⟩ := f13.out h; exact ⟨lv, ls, e', h1', owns_belowX ho (by omega) y.grew⟩)⟩
      · refine wpOp_step rfl (fun K hK => ?_)
        simp only [sets, List.foldl_cons, List.foldl_nil, List.set_cons_succ, List.set_cons_zero]
        go_simp
        exact hK _ _ ⟨s6, s7, s8, s9, s30, s31, (.pointer (some ⟨b, 0, none⟩)), s33, s34, s35, s36, s37, s38, s39, by kernel_rfl, hB.out, g0.out, g1.out, g2.out, f0.out, f1.out, fun _ => rfl, f3.out, f4.out, f5.out, f6.out, f7.out, f8.out, f9.out, f10.out, f11.out, f12.out, f13.out⟩
      · simp only [encDeps, List.getD_cons_zero, List.getD_cons_succ, List.all_cons, List.all_nil, Bool.and_true] at hr
        have hd2 := hr
        obtain rfl := f2.out hd2
        have hi := hi.out
        simp only [List.getElem?_cons_zero, List.getElem?_cons_succ, Option.some.injEq] at hi
        subst hi
        refine wpOp_step rfl (fun K hK => ?_)
        simp only [sets, List.foldl_cons, List.foldl_nil, List.set_cons_succ, List.set_cons_zero]
        go_simp
        refine (GradesOf_y b (m + (20 * b1.toNat + 15 * false.toNat + 50 * b5.toNat + 14 * b9.toNat)) W (by have := hflags; simp only [Bool.toNat_false] at *; omega) g0.out).mono ?_
        rintro _ W6 ⟨y, lv, ls, rfl, ho, hgok, rfl, hr⟩
        exact hK _ _ ⟨s6, s7, s8, s9, s30, s31, (.pointer (some ⟨b, 0, none⟩)), (lv), s34, s35, s36, s37, s38, s39, by kernel_rfl, hB.out.trans (y.grew.mono (by omega)), (hr.mono (by simp only [List.set_cons_succ, List.set_cons_zero, List.getD_cons_zero, List.getD_cons_succ, Bool.toNat_true, Bool.toNat_false]; omega)), g1.out, g2.out, f0.out, (fun h => by obtain ⟨lv, ls, e', h1', ho⟩ := f1.out h; exact ⟨lv, ls, e', h1', owns_belowX ho (by omega) y.grew⟩), f2.out, (fun _ => ⟨lv, ls, rfl, hgok, owns_base ho (by omega)⟩), f4.out, (fun h => by obtain ⟨y', e', h1', ho⟩ := f5.out h; exact ⟨y', e', h1', ho.rext (by omega) y⟩), f6.out, f7.out, f8.out, f9.out, (fun h => by obtain ⟨g', e', h1', h2', h3', h4'⟩ := f10.out h; exact ⟨g', e', h1', Nat.lt_of_lt_of_le h2' y.size, fun q => y.row (h3' q) h2' (by omega), fun q => by obtain ⟨y', hy', ho, r'⟩ := h4' q; exact ⟨y', hy', ho.rext (by omega) y, y.row (r') h2' (by omega)⟩⟩), (fun h => by obtain ⟨g', e', h1', h2', h3', h4'⟩ := f11.out h; exact ⟨g', e', h1', Nat.lt_of_lt_of_le h2' y.size, fun q => y.row (h3' q) h2' (by omega), fun q => by obtain ⟨s', hs', r'⟩ := h4' q; exact ⟨s', hs', y.row (r') h2' (by omega)⟩⟩), (fun h => by obtain ⟨lv, ls, e', h1', ho⟩ := f12.out h; exact ⟨lv, ls, e', h1', owns_belowX ho (by omega) y.grew⟩), (fun h => by obtain ⟨lv, ls, e', h1', ho⟩ := f13.out h; exact ⟨lv, ls, e', h1', owns_belowX ho (by omega) y.grew⟩)⟩
      · refine wpOp_step rfl (fun K hK => ?_)
        simp only [sets, List.foldl_cons, List.foldl_nil, List.set_cons_succ, List.set_cons_zero]
        go_simp
        exact hK _ _ ⟨s6, s7, s8, s9, s30, s31, s32, s33, (.pointer (some ⟨b, 0, none⟩)), s35, s36, s37, s38, s39, by kernel_rfl, hB.out, g0.out, g1.out, g2.out, f0.out, f1.out, f2.out, f3.out, fun _ => rfl, f5.out, f6.out, f7.out, f8.out, f9.out, f10.out, f11.out, f12.out, f13.out⟩
      · simp only [encDeps, List.getD_cons_zero, List.getD_cons_succ, List.all_cons, List.all_nil, Bool.and_true] at hr
        have hd4 := hr
        obtain rfl := f4.out hd4
        have hi := hi.out
        simp only [List.getElem?_cons_zero, List.getElem?_cons_succ, Option.some.injEq] at hi
        subst hi
        refine wpOp_step rfl (fun K hK => ?_)
        simp only [sets, List.foldl_cons, List.foldl_nil, List.set_cons_succ, List.set_cons_zero]
        go_simp
        refine (LandOf_z b (m + (20 * b1.toNat + 15 * b3.toNat + 50 * false.toNat + 14 * b9.toNat)) W (by have := hflags; simp only [Bool.toNat_false] at *; omega) g0.out).mono ?_
        rintro _ W6 ⟨y, x, rfl, ho, hyok, ⟨hy16, -⟩, rfl, hr⟩
        exact hK _ _ ⟨s6, s7, s8, s9, s30, s31, s32, s33, (.pointer (some ⟨b, 0, none⟩)), (.agg #[.slice x.pp x.pl.length x.pc, .slice x.wp x.wl.length x.wc]), s36, s37, s38, s39, by kernel_rfl, hB.out.trans (y.grew.mono (by omega)), (hr.mono (by simp only [List.set_cons_succ, List.set_cons_zero, List.getD_cons_zero, List.getD_cons_succ, Bool.toNat_true, Bool.toNat_false]; omega)), g1.out, g2.out, f0.out, (fun h => by obtain ⟨lv, ls, e', h1', ho⟩ := f1.out h; exact ⟨lv, ls, e', h1', owns_belowX ho (by omega) y.grew⟩), f2.out, (fun h => by obtain ⟨lv, ls, e', h1', ho⟩ := f3.out h; exact ⟨lv, ls, e', h1', owns_belowX ho (by omega) y.grew⟩), f4.out, (fun _ => ⟨x, rfl, ⟨hyok, hy16⟩, ho.base (by omega)⟩), f6.out, f7.out, f8.out, f9.out, (fun h => by obtain ⟨g', e', h1', h2', h3', h4'⟩ := f10.out h; exact ⟨g', e', h1', Nat.lt_of_lt_of_le h2' y.size, fun q => y.row (h3' q) h2' (by omega), fun q => by obtain ⟨y', hy', ho, r'⟩ := h4' q; exact ⟨y', hy', ho.rext (by omega) y, y.row (r') h2' (by omega)⟩⟩), (fun h => by obtain ⟨g', e', h1', h2', h3', h4'⟩ := f11.out h; exact ⟨g', e', h1', Nat.lt_of_lt_of_le h2' y.size, fun q => y.row (h3' q) h2' (by omega), fun q => by obtain ⟨s', hs', r'⟩ := h4' q; exact ⟨s', hs', y.row (r') h2' (by omega)⟩⟩), (fun h => by obtain ⟨lv, ls, e', h1', ho⟩ := f12.out h; exact ⟨lv, ls, e', h1', owns_belowX ho (by omega) y.grew⟩), (fun h => by obtain ⟨lv, ls, e', h1', ho⟩ := f13.out h; exact ⟨lv, ls, e', h1', owns_belowX ho (by omega) y.grew⟩)⟩
      · refine wpOp_step rfl (fun K hK => ?_)
        simp only [sets, List.foldl_cons, List.foldl_nil, List.set_cons_succ, List.set_cons_zero]
        go_simp
        exact hK _ _ ⟨s6, s7, s8, s9, s30, s31, s32, s33, s34, s35, (.pointer (some ⟨b, 0, none⟩)), s37, s38, s39, by kernel_rfl, hB.out, g0.out, g1.out, g2.out, f0.out, f1.out, f2.out, f3.out, f4.out, f5.out, fun _ => rfl, f7.out, f8.out, f9.out, f10.out, f11.out, f12.out, f13.out⟩
      · refine wpOp_step rfl (fun K hK => ?_)
        simp only [sets, List.foldl_cons, List.foldl_nil, List.set_cons_succ, List.set_cons_zero]
        go_simp
        exact hK _ _ ⟨s6, s7, s8, s9, s30, s31, s32, s33, s34, s35, s36, (.agg #[.int .i64 k.size.x, .int .i64 k.size.y, .int .i64 k.dens.x, .int .i64 k.dens.y, .int .i64 k.strong.x, .int .i64 k.strong.y, .int .i64 k.spin.x, .int .i64 k.spin.y, .int .i64 k.shape.x, .int .i64 k.shape.y, .bool k.pile]), s38, s39, by kernel_rfl, hB.out, g0.out, g1.out, g2.out, f0.out, f1.out, f2.out, f3.out, f4.out, f5.out, f6.out, fun _ => rfl, f8.out, f9.out, f10.out, f11.out, f12.out, f13.out⟩
      · refine wpOp_step rfl (fun K hK => ?_)
        simp only [sets, List.foldl_cons, List.foldl_nil, List.set_cons_succ, List.set_cons_zero]
        go_simp
        exact hK _ _ ⟨s6, s7, s8, s9, s30, s31, s32, s33, s34, s35, s36, s37, (.agg #[.int .i64 f.speed.x, .int .i64 f.speed.y, .int .i64 f.slope.x, .int .i64 f.slope.y]), s39, by kernel_rfl, hB.out, g0.out, g1.out, g2.out, f0.out, f1.out, f2.out, f3.out, f4.out, f5.out, f6.out, f7.out, fun _ => rfl, f9.out, f10.out, f11.out, f12.out, f13.out⟩
      · simp only [encDeps, List.getD_cons_zero, List.getD_cons_succ, List.all_cons, List.all_nil, Bool.and_true, Bool.and_eq_true] at hr
        obtain ⟨hd6, hd7, hd8⟩ := hr
        obtain rfl := f6.out hd6
        obtain rfl := f7.out hd7
        obtain rfl := f8.out hd8
        have hi := hi.out
        simp only [List.getElem?_cons_zero, List.getElem?_cons_succ, Option.some.injEq] at hi
        subst hi
        refine wpOp_step rfl (fun K hK => ?_)
        simp only [sets, List.foldl_cons, List.foldl_nil, List.set_cons_succ, List.set_cons_zero]
        go_simp
        refine (StoneOf_y b (m + (20 * b1.toNat + 15 * b3.toNat + 50 * b5.toNat + 14 * false.toNat)) k f W (by have := hflags; simp only [Bool.toNat_false] at *; omega) hok g0.out).mono ?_
        rintro _ W6 ⟨y, s, rfl, hin, rfl, hr⟩
        exact hK _ _ ⟨s6, s7, s8, s9, s30, s31, s32, s33, s34, s35, (.pointer (some ⟨b, 0, none⟩)), (.agg #[.int .i64 k.size.x, .int .i64 k.size.y, .int .i64 k.dens.x, .int .i64 k.dens.y, .int .i64 k.strong.x, .int .i64 k.strong.y, .int .i64 k.spin.x, .int .i64 k.spin.y, .int .i64 k.shape.x, .int .i64 k.shape.y, .bool k.pile]), (.agg #[.int .i64 f.speed.x, .int .i64 f.speed.y, .int .i64 f.slope.x, .int .i64 f.slope.y]), (.agg s.vals), by kernel_rfl, hB.out.trans (y.grew.mono (by omega)), (hr.mono (by simp only [List.set_cons_succ, List.set_cons_zero, List.getD_cons_zero, List.getD_cons_succ, Bool.toNat_true, Bool.toNat_false]; omega)), g1.out, g2.out, f0.out, (fun h => by obtain ⟨lv, ls, e', h1', ho⟩ := f1.out h; exact ⟨lv, ls, e', h1', owns_belowX ho (by omega) y.grew⟩), f2.out, (fun h => by obtain ⟨lv, ls, e', h1', ho⟩ := f3.out h; exact ⟨lv, ls, e', h1', owns_belowX ho (by omega) y.grew⟩), f4.out, (fun h => by obtain ⟨y', e', h1', ho⟩ := f5.out h; exact ⟨y', e', h1', ho.rext (by omega) y⟩), f6.out, f7.out, f8.out, (fun _ => ⟨s, hin, rfl⟩), (fun h => by obtain ⟨g', e', h1', h2', h3', h4'⟩ := f10.out h; exact ⟨g', e', h1', Nat.lt_of_lt_of_le h2' y.size, fun q => y.row (h3' q) h2' (by omega), fun q => by obtain ⟨y', hy', ho, r'⟩ := h4' q; exact ⟨y', hy', ho.rext (by omega) y, y.row (r') h2' (by omega)⟩⟩), (fun h => by obtain ⟨g', e', h1', h2', h3', h4'⟩ := f11.out h; exact ⟨g', e', h1', Nat.lt_of_lt_of_le h2' y.size, fun q => y.row (h3' q) h2' (by omega), fun q => by obtain ⟨s', hs', r'⟩ := h4' q; exact ⟨s', hs', y.row (r') h2' (by omega)⟩⟩), (fun h => by obtain ⟨lv, ls, e', h1', ho⟩ := f12.out h; exact ⟨lv, ls, e', h1', owns_belowX ho (by omega) y.grew⟩), (fun h => by obtain ⟨lv, ls, e', h1', ho⟩ := f13.out h; exact ⟨lv, ls, e', h1', owns_belowX ho (by omega) y.grew⟩)⟩
      · have hi := hi.out
        simp only [List.getElem?_cons_zero, List.getElem?_cons_succ, Option.some.injEq] at hi
        subst hi
        refine wpOp_step rfl (fun K hK => ?_)
        simp only [sets, List.foldl_cons, List.foldl_nil, List.set_cons_succ, List.set_cons_zero]
        go_simp
        exact hK _ _ ⟨s6, s7, (.pointer (some ⟨W.heap.size, 0, none⟩)), s9, s30, s31, s32, s33, s34, s35, s36, s37, s38, s39, by kernel_rfl, hB.out.alloc (by omega) _, (g0.out.alloc _), (fun h => absurd (g1.out h) (by decide)), g2.out, f0.out, (fun h => by obtain ⟨lv, ls, e', h1', ho⟩ := f1.out h; exact ⟨lv, ls, e', h1', ho.alloc _⟩), f2.out, (fun h => by obtain ⟨lv, ls, e', h1', ho⟩ := f3.out h; exact ⟨lv, ls, e', h1', ho.alloc _⟩), f4.out, (fun h => by obtain ⟨y', e', h1', ho⟩ := f5.out h; exact ⟨y', e', h1', ho.alloc _⟩), f6.out, f7.out, f8.out, f9.out, (fun _ => ⟨W.heap.size, rfl, by omega, by simp only [World.size_alloc]; omega, fun _ => heap_alloc_new _ _, fun q => by have h9 := g1.out q; cases h9⟩), (fun h => by obtain ⟨g', e', h1', h2', h3', h4'⟩ := f11.out h; exact ⟨g', e', h1', by simp only [World.size_alloc]; omega, fun q => (heap_alloc_old _ _ h2').trans (h3' q), fun q => by obtain ⟨s', hs', r'⟩ := h4' q; exact ⟨s', hs', (heap_alloc_old _ _ h2').trans (r')⟩⟩), (fun h => by obtain ⟨lv, ls, e', h1', ho⟩ := f12.out h; exact ⟨lv, ls, e', h1', ho.alloc _⟩), (fun h => by obtain ⟨lv, ls, e', h1', ho⟩ := f13.out h; exact ⟨lv, ls, e', h1', ho.alloc _⟩)⟩
      · have hi := hi.out
        simp only [List.getElem?_cons_zero, List.getElem?_cons_succ, Option.some.injEq] at hi
        subst hi
        refine wpOp_step rfl (fun K hK => ?_)
        simp only [sets, List.foldl_cons, List.foldl_nil, List.set_cons_succ, List.set_cons_zero]
        go_simp
        exact hK _ _ ⟨s6, s7, s8, (.pointer (some ⟨W.heap.size, 0, none⟩)), s30, s31, s32, s33, s34, s35, s36, s37, s38, s39, by kernel_rfl, hB.out.alloc (by omega) _, (g0.out.alloc _), g1.out, (fun h => absurd (g2.out h) (by decide)), f0.out, (fun h => by obtain ⟨lv, ls, e', h1', ho⟩ := f1.out h; exact ⟨lv, ls, e', h1', ho.alloc _⟩), f2.out, (fun h => by obtain ⟨lv, ls, e', h1', ho⟩ := f3.out h; exact ⟨lv, ls, e', h1', ho.alloc _⟩), f4.out, (fun h => by obtain ⟨y', e', h1', ho⟩ := f5.out h; exact ⟨y', e', h1', ho.alloc _⟩), f6.out, f7.out, f8.out, f9.out, (fun h => by obtain ⟨g', e', h1', h2', h3', h4'⟩ := f10.out h; exact ⟨g', e', h1', by simp only [World.size_alloc]; omega, fun q => (heap_alloc_old _ _ h2').trans (h3' q), fun q => by obtain ⟨y', hy', ho, r'⟩ := h4' q; exact ⟨y', hy', ho.alloc _, (heap_alloc_old _ _ h2').trans (r')⟩⟩), (fun _ => ⟨W.heap.size, rfl, by omega, by simp only [World.size_alloc]; omega, fun _ => heap_alloc_new _ _, fun q => by have h9 := g2.out q; cases h9⟩), (fun h => by obtain ⟨lv, ls, e', h1', ho⟩ := f12.out h; exact ⟨lv, ls, e', h1', ho.alloc _⟩), (fun h => by obtain ⟨lv, ls, e', h1', ho⟩ := f13.out h; exact ⟨lv, ls, e', h1', ho.alloc _⟩)⟩
      · simp only [encDeps, List.getD_cons_zero, List.getD_cons_succ, List.all_cons, List.all_nil, Bool.and_true] at hr
        have hd1 := hr
        obtain ⟨lv, ls, rfl, h1, ho⟩ := f1.out hd1
        refine wpOp_step rfl (fun K hK => ?_)
        simp only [sets, List.foldl_cons, List.foldl_nil, List.set_cons_succ, List.set_cons_zero]
        go_simp
        exact hK _ _ ⟨(s31), s7, s8, s9, s30, s31, s32, s33, s34, s35, s36, s37, s38, s39, by kernel_rfl, hB.out, g0.out, g1.out, g2.out, f0.out, (fun _ => ⟨_, ls, rfl, h1, ho⟩), f2.out, f3.out, f4.out, f5.out, f6.out, f7.out, f8.out, f9.out, f10.out, f11.out, (fun _ => ⟨_, ls, rfl, h1, ho⟩), f13.out⟩
      · simp only [encDeps, List.getD_cons_zero, List.getD_cons_succ, List.all_cons, List.all_nil, Bool.and_true] at hr
        have hd3 := hr
        obtain ⟨lv, ls, rfl, h1, ho⟩ := f3.out hd3
        refine wpOp_step rfl (fun K hK => ?_)
        simp only [sets, List.foldl_cons, List.foldl_nil, List.set_cons_succ, List.set_cons_zero]
        go_simp
        exact hK _ _ ⟨s6, (s33), s8, s9, s30, s31, s32, s33, s34, s35, s36, s37, s38, s39, by kernel_rfl, hB.out, g0.out, g1.out, g2.out, f0.out, f1.out, f2.out, (fun _ => ⟨_, ls, rfl, h1, ho⟩), f4.out, f5.out, f6.out, f7.out, f8.out, f9.out, f10.out, f11.out, f12.out, (fun _ => ⟨_, ls, rfl, h1, ho⟩)⟩
      · simp only [encDeps, List.getD_cons_zero, List.getD_cons_succ, List.all_cons, List.all_nil, Bool.and_true, Bool.and_eq_true] at hr
        obtain ⟨hd10, hd5⟩ := hr
        obtain ⟨y, rfl, hyk, hoy⟩ := f5.out hd5
        obtain ⟨g, rfl, h1, h2, h3, h4⟩ := f10.out hd10
        have hi := hi.out
        simp only [List.getElem?_cons_zero, List.getElem?_cons_succ, Option.some.injEq] at hi
        subst hi
        have e := h3 rfl
        refine wpOp_step rfl (fun K hK => ?_)
        simp only [sets, List.foldl_cons, List.foldl_nil, List.set_cons_succ, List.set_cons_zero]
        simp only [Region.wanted]
        refine store_op 27 (.tmp 8) (.tmp 35) rfl g #[.slice y.pp y.pl.length y.pc, .slice y.wp y.wl.length y.wc] (by kernel_rfl) (by kernel_rfl) 27 _ e (by kernel_rfl) rfl (by simp [Value.oneCell']) ?_
        exact hK _ _ ⟨s6, s7, (.pointer (some ⟨g, 0, none⟩)), s9, s30, s31, s32, s33, s34, (.agg #[.slice y.pp y.pl.length y.pc, .slice y.wp y.wl.length y.wc]), s36, s37, s38, s39, by kernel_rfl, belowX_row hB.out (by omega) _, (RingM.row g0.out (by omega) _), (fun _ => hd10), g2.out, f0.out, (fun h => by obtain ⟨lv, ls, e', h1', ho⟩ := f1.out h; exact ⟨lv, ls, e', h1', ho.kept (grown_setRow W g _) (.inr fun q => row_ne ho e (by decide) q.symm)⟩), f2.out, (fun h => by obtain ⟨lv, ls, e', h1', ho⟩ := f3.out h; exact ⟨lv, ls, e', h1', ho.kept (grown_setRow W g _) (.inr fun q => row_ne ho e (by decide) q.symm)⟩), f4.out, (fun _ => ⟨y, rfl, hyk, ⟨hoy.n.kept (grown_setRow W g _) (.inr fun q => row_ne hoy.n e (by decide) q.symm), hoy.b.kept (grown_setRow W g _) (.inr fun q => row_ne hoy.b e (by decide) q.symm), hoy.len⟩⟩), f6.out, f7.out, f8.out, f9.out, (fun _ => ⟨g, rfl, h1, by rw [size_setRow']; exact h2, (fun h => by cases h), fun _ => ⟨y, hyk, ⟨hoy.n.kept (grown_setRow W g _) (.inr fun q => row_ne hoy.n e (by decide) q.symm), hoy.b.kept (grown_setRow W g _) (.inr fun q => row_ne hoy.b e (by decide) q.symm), hoy.len⟩, setRow_heap _ _ _ _ _ _ e⟩⟩), (fun h => by obtain ⟨g', e', h1', h2', h3', h4'⟩ := f11.out h; exact ⟨g', e', h1', by rw [size_setRow']; exact h2', fun q => (setRow_other W g g' _ (fun q9 => by subst q9; exact rows_ne (by decide) e (h3' q))).trans (h3' q), fun q => by obtain ⟨s', hs', r'⟩ := h4' q; exact ⟨s', hs', (setRow_other W g g' _ (fun q9 => by subst q9; exact rows_ne (by decide) e (r'))).trans (r')⟩⟩), (fun h => by obtain ⟨lv, ls, e', h1', ho⟩ := f12.out h; exact ⟨lv, ls, e', h1', ho.kept (grown_setRow W g _) (.inr fun q => row_ne ho e (by decide) q.symm)⟩), (fun h => by obtain ⟨lv, ls, e', h1', ho⟩ := f13.out h; exact ⟨lv, ls, e', h1', ho.kept (grown_setRow W g _) (.inr fun q => row_ne ho e (by decide) q.symm)⟩)⟩
      · simp only [encDeps, List.getD_cons_zero, List.getD_cons_succ, List.all_cons, List.all_nil, Bool.and_true, Bool.and_eq_true] at hr
        obtain ⟨hd11, hd9⟩ := hr
        obtain ⟨s, hs, rfl⟩ := f9.out hd9
        obtain ⟨g, rfl, h1, h2, h3, h4⟩ := f11.out hd11
        have hi := hi.out
        simp only [List.getElem?_cons_zero, List.getElem?_cons_succ, Option.some.injEq] at hi
        subst hi
        have e := h3 rfl
        refine wpOp_step rfl (fun K hK => ?_)
        simp only [sets, List.foldl_cons, List.foldl_nil, List.set_cons_succ, List.set_cons_zero]
        simp only [Region.wanted]
        refine store_op 57 (.tmp 9) (.tmp 39) rfl g s.vals (by kernel_rfl) (by kernel_rfl) 57 _ e (by kernel_rfl) rfl (by simp [StoneR.vals, Value.oneCell']) ?_
        exact hK _ _ ⟨s6, s7, s8, (.pointer (some ⟨g, 0, none⟩)), s30, s31, s32, s33, s34, s35, s36, s37, s38, (.agg s.vals), by kernel_rfl, belowX_row hB.out (by omega) _, (RingM.row g0.out (by omega) _), g1.out, (fun _ => hd11), f0.out, (fun h => by obtain ⟨lv, ls, e', h1', ho⟩ := f1.out h; exact ⟨lv, ls, e', h1', ho.kept (grown_setRow W g _) (.inr fun q => row_ne ho e (by decide) q.symm)⟩), f2.out, (fun h => by obtain ⟨lv, ls, e', h1', ho⟩ := f3.out h; exact ⟨lv, ls, e', h1', ho.kept (grown_setRow W g _) (.inr fun q => row_ne ho e (by decide) q.symm)⟩), f4.out, (fun h => by obtain ⟨y', e', h1', ho⟩ := f5.out h; exact ⟨y', e', h1', ⟨ho.n.kept (grown_setRow W g _) (.inr fun q => row_ne ho.n e (by decide) q.symm), ho.b.kept (grown_setRow W g _) (.inr fun q => row_ne ho.b e (by decide) q.symm), ho.len⟩⟩), f6.out, f7.out, f8.out, (fun _ => ⟨s, hs, rfl⟩), (fun h => by obtain ⟨g', e', h1', h2', h3', h4'⟩ := f10.out h; exact ⟨g', e', h1', by rw [size_setRow']; exact h2', fun q => (setRow_other W g g' _ (fun q9 => by subst q9; exact rows_ne (by decide) e (h3' q))).trans (h3' q), fun q => by obtain ⟨y', hy', ho, r'⟩ := h4' q; exact ⟨y', hy', ⟨ho.n.kept (grown_setRow W g _) (.inr fun q => row_ne ho.n e (by decide) q.symm), ho.b.kept (grown_setRow W g _) (.inr fun q => row_ne ho.b e (by decide) q.symm), ho.len⟩, (setRow_other W g g' _ (fun q9 => by subst q9; exact rows_ne (by decide) e (r'))).trans (r')⟩⟩), (fun _ => ⟨g, rfl, h1, by rw [size_setRow']; exact h2, (fun h => by cases h), fun _ => ⟨s, hs, setRow_heap _ _ _ _ _ _ e⟩⟩), (fun h => by obtain ⟨lv, ls, e', h1', ho⟩ := f12.out h; exact ⟨lv, ls, e', h1', ho.kept (grown_setRow W g _) (.inr fun q => row_ne ho e (by decide) q.symm)⟩), (fun h => by obtain ⟨lv, ls, e', h1', ho⟩ := f13.out h; exact ⟨lv, ls, e', h1', ho.kept (grown_setRow W g _) (.inr fun q => row_ne ho e (by decide) q.symm)⟩)⟩
      · have hi := hi.out; simp at hi
  rintro a4 W4 ⟨XB, SB, lv, gv, ls, gl, x, s, tA, tG, ⟨hxok, hx16⟩, hin, ha4, kX, kS, hB4, hR4, hoA, hoG, hoL, rX, rS⟩
  generalize a4.tmps.getD 30 undef = s30 at ha4
  generalize a4.tmps.getD 31 undef = s31 at ha4
  generalize a4.tmps.getD 32 undef = s32 at ha4
  generalize a4.tmps.getD 33 undef = s33 at ha4
  generalize a4.tmps.getD 34 undef = s34 at ha4
  generalize a4.tmps.getD 35 undef = s35 at ha4
  generalize a4.tmps.getD 36 undef = s36 at ha4
  generalize a4.tmps.getD 37 undef = s37 at ha4
  generalize a4.tmps.getD 38 undef = s38 at ha4
  generalize a4.tmps.getD 39 undef = s39 at ha4
  subst ha4
  simp only [sets, List.foldl_cons, List.foldl_nil, List.set_cons_succ, List.set_cons_zero]
  have hm9 : m0 + 99 = 115 := by omega
  have sB4 := hB4.size
  have hlim4 : LimAt W4 := hlr.rext (by omega) ⟨W4, hB4⟩
  have hBW : Below w.heap.size w W4 := (hBr.trans (hB4.mono hBr.size)).below (Nat.le_refl _)
  replace rk := (hB4.block KB (row_lt rk) (by omega)).trans rk
  replace rf := (hB4.block (KB + 1) (row_lt rf) (by omega)).trans rf
  obtain ⟨m9, hm9'⟩ : ∃ m, m0 + 99 = m := ⟨_, rfl⟩
  rw [hm9'] at hR4
  have hbw : w.heap.size < Wr.heap.size := by omega
  have hn9 : m9 = 115 := by omega
  clear hB4 hBr hlr hRr hm9 hm9' hmm
  obtain ⟨pa, cca, rfl⟩ := owns_form hoA
  obtain ⟨pg, ccg, rfl⟩ := owns_form hoG
  obtain ⟨pa', ca', e2, hvA, -⟩ := vecs_of hoA
  have e21 := (Value.slice.inj e2).1
  clear e2
  subst e21
  have hbE := blowsE_of tA hok
  obtain ⟨hs, -, -⟩ := stoneIn_ok hin hok
  have hof := of_in hin hs (rock_ok hok)
  have hsE := sceneE_of tG hxok
  obtain ⟨sb, hsb, sb1, sb2, sb3⟩ := stone_blow hbE hs hin
  have hstone : ∃ u ∈ v3s (blowsA ls k f), u.a = (endOf ls s).1 ∧ u.b ≤ massV s * (endOf ls s).2 ∧ massV s * (endOf ls s).2 ≤ u.c := ⟨⟨sb.n, sb.lo, sb.hi⟩, v3_mem.2 ⟨sb, hsb, rfl⟩, sb1, sb2, sb3⟩
  have hasc : (v3s (blowsA ls k f)).Pairwise (fun a b => a.a < b.a) := by
    rw [(blows_rbl hbE).1]
    unfold v3s
    rw [List.pairwise_map]
    exact (rbl_asc _ _ _ _ _ _).2.imp (fun h => by simp only; omega)
  obtain ⟨c, q, hbr, hr1000, hbk⟩ := blowsA_ok hbE
  have hBL0 : 0 < (v3s (blowsA ls k f)).length ∧ (v3s (blowsA ls k f)).length ≤ 1001 := by rw [hbr]; simp; omega
  have hbk2 : ∀ u ∈ v3s (blowsA ls k f), V3Ok ls.length u := by rw [hbr]; exact hbk
  clear hsb sb1 sb2 sb3 sb hbr hr1000 hbk c q
  have cbl := fun W (y : Below W4.heap.size W4 W) => Blows_any pa cca ls k f W (hlim4.on y) (hvA.on y)
  rw [hbE] at cbl
  have hd0 := Go.Lib.hid hstone
  replace hstone := hd0
  clear hd0
  replace hasc := Go.Lib.hid hasc
  replace hbk2 := Go.Lib.hid hbk2
  have hE6 : Hid (∀ (a b : Int), 0 ≤ a → a ≤ b → b < x.pl.length → tollE ls gl x k f a b = 0) := Go.Lib.hid (fun a b h1 h2 h3 => tollE_of hbE hsE h1 h2 h3)
  have lX := row_lt rX
  have lK := row_lt rk
  have lf := row_lt rf
  have lS := row_lt rS
  have c0 : W4.cell? ⟨KB, 0, none⟩ = some (.int .i64 k.size.x) := (cell_of_row W4 _ 0 _ _ _ rk).trans rfl
  have c1 : W4.cell? ⟨KB, 1, none⟩ = some (.int .i64 k.size.y) := (cell_of_row W4 _ 1 _ _ _ rk).trans rfl
  have c2 : W4.cell? ⟨KB, 2, none⟩ = some (.int .i64 k.dens.x) := (cell_of_row W4 _ 2 _ _ _ rk).trans rfl
  have c3 : W4.cell? ⟨KB, 3, none⟩ = some (.int .i64 k.dens.y) := (cell_of_row W4 _ 3 _ _ _ rk).trans rfl
  have c4 : W4.cell? ⟨KB, 4, none⟩ = some (.int .i64 k.strong.x) := (cell_of_row W4 _ 4 _ _ _ rk).trans rfl
  have c5 : W4.cell? ⟨KB, 5, none⟩ = some (.int .i64 k.strong.y) := (cell_of_row W4 _ 5 _ _ _ rk).trans rfl
  have c6 : W4.cell? ⟨KB, 6, none⟩ = some (.int .i64 k.spin.x) := (cell_of_row W4 _ 6 _ _ _ rk).trans rfl
  have c7 : W4.cell? ⟨KB, 7, none⟩ = some (.int .i64 k.spin.y) := (cell_of_row W4 _ 7 _ _ _ rk).trans rfl
  have c8 : W4.cell? ⟨KB, 8, none⟩ = some (.int .i64 k.shape.x) := (cell_of_row W4 _ 8 _ _ _ rk).trans rfl
  have c9 : W4.cell? ⟨KB, 9, none⟩ = some (.int .i64 k.shape.y) := (cell_of_row W4 _ 9 _ _ _ rk).trans rfl
  have c10 : W4.cell? ⟨KB, 10, none⟩ = some (.bool k.pile) := (cell_of_row W4 _ 10 _ _ _ rk).trans rfl
  have d0 : W4.cell? ⟨KB + 1, 0, none⟩ = some (.int .i64 f.speed.x) := (cell_of_row W4 _ 0 _ _ _ rf).trans rfl
  have d1 : W4.cell? ⟨KB + 1, 1, none⟩ = some (.int .i64 f.speed.y) := (cell_of_row W4 _ 1 _ _ _ rf).trans rfl
  have d2 : W4.cell? ⟨KB + 1, 2, none⟩ = some (.int .i64 f.slope.x) := (cell_of_row W4 _ 2 _ _ _ rf).trans rfl
  have d3 : W4.cell? ⟨KB + 1, 3, none⟩ = some (.int .i64 f.slope.y) := (cell_of_row W4 _ 3 _ _ _ rf).trans rfl
  unfold RockR.val FallR.val at *
  go_upto_region 5 with (first | ((first | with_reducible refine wrx2 ?_ | with_reducible refine wrx ?_); (repeat (first | go_big_quiet_step ((first | fail)) | quiet_step ((first | fail)))); refine wpQuiet_nil ?_; rintro _ ⟨yr, rfl⟩; have syr := Ext.size yr; (repeat (first | rw [World.size_alloc] at syr | rw [World.size_setCell] at syr | rw [World.size_drew] at syr))) | (go_at_call 26; refine (cbl _ bcl).mono ?_; rintro _ W5 ⟨bv, rfl, hb5, hrows⟩; obtain ⟨q9, cb9, rfl, hv3⟩ := v3_of hrows))
  have hB5 : Below w.heap.size w W5 := hBW.trans (hb5.mono hBW.size)
  have hlim5 : LimAt W5 := hlim4.on hb5
  have hR5 := hR4.on hb5
  replace hoA := owns_below hoA hb5
  replace hoG := owns_below hoG hb5
  replace hoL := hoL.below hb5
  replace hvA := hvA.on hb5
  replace rX := (hb5.block XB (row_lt rX)).trans rX
  replace rk := (hb5.block KB (row_lt rk)).trans rk
  replace rf := (hb5.block (KB + 1) (row_lt rf)).trans rf
  replace rS := (hb5.block SB (row_lt rS)).trans rS
  clear lX lK lf lS c0 c1 c2 c3 c4 c5 c6 c7 c8 c9 c10 d0 d1 d2 d3 hrows cbl hb5 hlim4 hR4 hBW sB4
  have lX := row_lt rX
  have lK := row_lt rk
  have lf := row_lt rf
  have lS := row_lt rS
  have c0 : W5.cell? ⟨KB, 0, none⟩ = some (.int .i64 k.size.x) := (cell_of_row W5 _ 0 _ _ _ rk).trans rfl
  have c1 : W5.cell? ⟨KB, 1, none⟩ = some (.int .i64 k.size.y) := (cell_of_row W5 _ 1 _ _ _ rk).trans rfl
  have c2 : W5.cell? ⟨KB, 2, none⟩ = some (.int .i64 k.dens.x) := (cell_of_row W5 _ 2 _ _ _ rk).trans rfl
  have c3 : W5.cell? ⟨KB, 3, none⟩ = some (.int .i64 k.dens.y) := (cell_of_row W5 _ 3 _ _ _ rk).trans rfl
  have c4 : W5.cell? ⟨KB, 4, none⟩ = some (.int .i64 k.strong.x) := (cell_of_row W5 _ 4 _ _ _ rk).trans rfl
  have c5 : W5.cell? ⟨KB, 5, none⟩ = some (.int .i64 k.strong.y) := (cell_of_row W5 _ 5 _ _ _ rk).trans rfl
  have c6 : W5.cell? ⟨KB, 6, none⟩ = some (.int .i64 k.spin.x) := (cell_of_row W5 _ 6 _ _ _ rk).trans rfl
  have c7 : W5.cell? ⟨KB, 7, none⟩ = some (.int .i64 k.spin.y) := (cell_of_row W5 _ 7 _ _ _ rk).trans rfl
  have c8 : W5.cell? ⟨KB, 8, none⟩ = some (.int .i64 k.shape.x) := (cell_of_row W5 _ 8 _ _ _ rk).trans rfl
  have c9 : W5.cell? ⟨KB, 9, none⟩ = some (.int .i64 k.shape.y) := (cell_of_row W5 _ 9 _ _ _ rk).trans rfl
  have c10 : W5.cell? ⟨KB, 10, none⟩ = some (.bool k.pile) := (cell_of_row W5 _ 10 _ _ _ rk).trans rfl
  have d0 : W5.cell? ⟨KB + 1, 0, none⟩ = some (.int .i64 f.speed.x) := (cell_of_row W5 _ 0 _ _ _ rf).trans rfl
  have d1 : W5.cell? ⟨KB + 1, 1, none⟩ = some (.int .i64 f.speed.y) := (cell_of_row W5 _ 1 _ _ _ rf).trans rfl
  have d2 : W5.cell? ⟨KB + 1, 2, none⟩ = some (.int .i64 f.slope.x) := (cell_of_row W5 _ 2 _ _ _ rf).trans rfl
  have d3 : W5.cell? ⟨KB + 1, 3, none⟩ = some (.int .i64 f.slope.y) := (cell_of_row W5 _ 3 _ _ _ rf).trans rfl
  have q0 : W5.cell? ⟨SB, 0, none⟩ = some (.int .i64 s.size) := (cell_of_row W5 _ 0 _ _ _ rS).trans rfl
  have q1 : W5.cell? ⟨SB, 1, none⟩ = some (.int .i64 s.dens) := (cell_of_row W5 _ 1 _ _ _ rS).trans rfl
  have q2 : W5.cell? ⟨SB, 2, none⟩ = some (.int .i64 s.strong) := (cell_of_row W5 _ 2 _ _ _ rS).trans rfl
  have q3 : W5.cell? ⟨SB, 3, none⟩ = some (.int .i64 s.spin) := (cell_of_row W5 _ 3 _ _ _ rS).trans rfl
  have q4 : W5.cell? ⟨SB, 4, none⟩ = some (.int .i64 s.shape) := (cell_of_row W5 _ 4 _ _ _ rS).trans rfl
  have q5 : W5.cell? ⟨SB, 5, none⟩ = some (.bool s.pile) := (cell_of_row W5 _ 5 _ _ _ rS).trans rfl
  have q6 : W5.cell? ⟨SB, 6, none⟩ = some (.int .i64 s.speed) := (cell_of_row W5 _ 6 _ _ _ rS).trans rfl
  have q7 : W5.cell? ⟨SB, 7, none⟩ = some (.int .i64 s.slope) := (cell_of_row W5 _ 7 _ _ _ rS).trans rfl
  have cen := fun W (y : Below W5.heap.size W5 W) => Ends_ok pa cca ls s W (hlim5.on y) (hvA.on y) (lays_ok tA) hs
  have cof := fun W (y : Below W5.heap.size W5 W) => Of_any s k f W (hlim5.on y)
  rw [hof] at cof
  obtain ⟨nE, hnE⟩ : ∃ n, (endOf ls s).1 = n := ⟨_, rfl⟩
  obtain ⟨eE, heE⟩ : ∃ n, massV s * (endOf ls s).2 = n := ⟨_, rfl⟩
  rw [hnE, heE] at hstone cen
  replace hvA := Go.Lib.hid hvA
  unfold RockR.val FallR.val StoneR.val StoneR.vals at *
  obtain ⟨BL, hBL⟩ : ∃ BL, v3s (blowsA ls k f) = BL := ⟨_, rfl⟩
  rw [hBL] at hv3 hstone hasc hbk2 hBL0
  rw [hBL]
  replace hv3 := Go.Lib.hid hv3
  replace hB5 := Go.Lib.hid hB5
  have hBLn : ((BL.length : Int) == 0) = false := beq_eq_false_iff_ne.2 (by omega)
  go_upto_region 10 with (first | ((first | with_reducible refine wrx2 ?_ | with_reducible refine wrx ?_); (repeat (first | go_big_quiet_step ((first | (go_at_call 23; with_reducible exact Calls.ext (cen _ bcl)) | (go_at_call 37; with_reducible exact Calls.ext (cof _ bcl)))) | quiet_step ((first | (go_at_call 23; with_reducible exact Calls.ext (cen _ bcl)) | (go_at_call 37; with_reducible exact Calls.ext (cof _ bcl)))))); refine wpQuiet_nil ?_; rintro _ ⟨yr, rfl⟩; have syr := Ext.size yr; (repeat (first | rw [World.size_alloc] at syr | rw [World.size_setCell] at syr | rw [World.size_drew] at syr)); have : XB < yr.now.heap.size := (by omega); have : XB ≤ yr.now.heap.size := (by omega); have : XB < yr.now.heap.size + 1 + 1 := (by omega); have : SB < yr.now.heap.size := (by omega); have : SB ≤ yr.now.heap.size := (by omega); have : SB < yr.now.heap.size + 1 + 1 := (by omega); have : KB < yr.now.heap.size := (by omega); have : KB ≤ yr.now.heap.size := (by omega); have : KB < yr.now.heap.size + 1 + 1 := (by omega); have : KB + 1 < yr.now.heap.size := (by omega); have : KB + 1 ≤ yr.now.heap.size := (by omega); have : KB + 1 < yr.now.heap.size + 1 + 1 := (by omega)) | (go_at_call 23; (first | with_reducible refine (Calls.giv2 (cen _ bcl)).mono ?_ | with_reducible refine (Calls.giv (cen _ bcl)).mono ?_); rintro _ _ ⟨y1, rfl, rfl⟩; have sy1 := Ext.size y1; (repeat (first | rw [World.size_alloc] at sy1 | rw [World.size_setCell] at sy1 | rw [World.size_drew] at sy1)); have : XB < y1.now.heap.size := (by omega); have : XB ≤ y1.now.heap.size := (by omega); have : XB < y1.now.heap.size + 1 + 1 := (by omega); have : SB < y1.now.heap.size := (by omega); have : SB ≤ y1.now.heap.size := (by omega); have : SB < y1.now.heap.size + 1 + 1 := (by omega); have : KB < y1.now.heap.size := (by omega); have : KB ≤ y1.now.heap.size := (by omega); have : KB < y1.now.heap.size + 1 + 1 := (by omega); have : KB + 1 < y1.now.heap.size := (by omega); have : KB + 1 ≤ y1.now.heap.size := (by omega); have : KB + 1 < y1.now.heap.size + 1 + 1 := (by omega)) | (go_at_call 37; (first | with_reducible refine (Calls.giv2 (cof _ bcl)).mono ?_ | with_reducible refine (Calls.giv (cof _ bcl)).mono ?_); rintro _ _ ⟨y2, rfl, rfl⟩; have sy2 := Ext.size y2; (repeat (first | rw [World.size_alloc] at sy2 | rw [World.size_setCell] at sy2 | rw [World.size_drew] at sy2)); have : XB < y2.now.heap.size := (by omega); have : XB ≤ y2.now.heap.size := (by omega); have : XB < y2.now.heap.size + 1 + 1 := (by omega); have : SB < y2.now.heap.size := (by omega); have : SB ≤ y2.now.heap.size := (by omega); have : SB < y2.now.heap.size + 1 + 1 := (by omega); have : KB < y2.now.heap.size := (by omega); have : KB ≤ y2.now.heap.size := (by omega); have : KB < y2.now.heap.size + 1 + 1 := (by omega); have : KB + 1 < y2.now.heap.size := (by omega); have : KB + 1 ≤ y2.now.heap.size := (by omega); have : KB + 1 < y2.now.heap.size + 1 + 1 := (by omega)))
  have hany : BL.any (hitB nE eE) = true := List.any_eq_true.2 (by
    obtain ⟨u, hu, h1, h2, h3⟩ := hstone.out
    exact ⟨u, hu, decide_eq_true ⟨h1, h2, h3⟩⟩)
  replace hany := Go.Lib.hid hany
  clear cen cof
  go_loopw [15, 16] (fun fv t W => ∃ (i : Nat) (fb : Bool) (y : Ext W5), fv = .bool fb ∧ t = .int .i64 i ∧ W = y.now ∧ Hid (i ≤ BL.length ∧ (fb || (BL.drop i).any (hitB nE eE)) = true)) (fun _ t _ => BL.length - (intOf t).toNat)
  case atStart => exact ⟨0, false, ⟨_, by repeat' (first | (with_reducible exact Below.refl _ _) | (with_reducible assumption) | (with_reducible refine Ext.below _ ?_ ?_) | (with_reducible refine Below.on ?_ (by with_reducible assumption) ?_) | (with_reducible refine Below.alloc ?_ ?_ _) | (with_reducible refine Below.drew ?_) | (with_reducible refine Below.setCell ?_ ?_ _) | (with_reducible exact Nat.le_refl _) | omega | (simp; done) | (simp [go_sem]; done) | (simp at *; omega))⟩, rfl, rfl, rfl, Go.Lib.hid ⟨Nat.zero_le _, by simpa using hany.out⟩⟩
  case round =>
    obtain ⟨i, fb, y, rfl, rfl, rfl, hy⟩ := hrel
    obtain ⟨g1, g2⟩ := hy.out
    have ys := y.size
    clear hy
    by_cases hj : i < BL.length
    · have hj2 : (i : Int) < BL.length := by omega
      obtain ⟨B, o, rfl, hB, d0, d1, d2⟩ := hv3.out i hj
      have lBY : B < y.now.heap.size := by omega
      rw [List.drop_eq_getElem_cons hj, List.any_cons] at g2
      have ci := fun W => inSpan_any BL[i].b BL[i].c eE W
      have hpr : ∀ j (h : j < BL.length), j < i → BL[j].a < BL[i].a := fun j h hji => List.pairwise_iff_getElem.1 hasc.out j i h hj hji
      have hcp : ∀ j (h : j < BL.length), W5.cell? ⟨B, o + j * 3, none⟩ = some (.int .i64 BL[j].a) := fun j h => by
        obtain ⟨B', o', e', -, d0', -⟩ := hv3.out j h
        injection e' with e'
        injection e' with e1 e2
        subst e1 e2
        exact d0'
      have hk : ∀ fb' : Bool, (fb || hitB nE eE BL[i]) = fb' → Hid (i + 1 ≤ BL.length ∧ (fb' || (BL.drop (i + 1)).any (hitB nE eE)) = true) := fun fb' e => Go.Lib.hid ⟨hj, by rw [← e, Bool.or_assoc]; exact g2⟩
      unfold hitB at hk
      replace hpr := Go.Lib.hid hpr
      replace hcp := Go.Lib.hid hcp
      clear g2
      generalize BL[i] = u at *
      cases fb
      · by_cases hn : u.a = nE
        · by_cases hd : u.b ≤ eE ∧ eE ≤ u.c
          · rw [decide_eq_true hd] at ci
            have key := hk true (by simp [hn, hd.1, hd.2])
            clear hk
            rcases i with _ | j
            · simp only [Nat.zero_mul, Nat.add_zero] at d0 d1 d2
              clear hpr hcp
              go_wp2_with (first | ((first | with_reducible refine wrx2 ?_ | with_reducible refine wrx ?_); (repeat (first | go_big_quiet_step ((first | (go_at_call 38; with_reducible exact Calls.ext (ci _)))) | quiet_step ((first | (go_at_call 38; with_reducible exact Calls.ext (ci _)))))); refine wpQuiet_nil ?_; rintro _ ⟨yr, rfl⟩; have syr := Ext.size yr; (repeat (first | rw [World.size_alloc] at syr | rw [World.size_setCell] at syr | rw [World.size_drew] at syr)); have : B < yr.now.heap.size := (by omega); have : B ≤ yr.now.heap.size := (by omega); have : B < yr.now.heap.size + 1 + 1 := (by omega); have : XB < yr.now.heap.size := (by omega); have : XB ≤ yr.now.heap.size := (by omega); have : XB < yr.now.heap.size + 1 + 1 := (by omega); have : SB < yr.now.heap.size := (by omega); have : SB ≤ yr.now.heap.size := (by omega); have : SB < yr.now.heap.size + 1 + 1 := (by omega); have : KB < yr.now.heap.size := (by omega); have : KB ≤ yr.now.heap.size := (by omega); have : KB < yr.now.heap.size + 1 + 1 := (by omega); have : KB + 1 < yr.now.heap.size := (by omega); have : KB + 1 ≤ yr.now.heap.size := (by omega); have : KB + 1 < yr.now.heap.size + 1 + 1 := (by omega)) | (go_at_call 38; (first | with_reducible refine (Calls.giv2 (ci _)).mono ?_ | with_reducible refine (Calls.giv (ci _)).mono ?_); rintro _ _ ⟨y1, rfl, rfl⟩; have sy1 := Ext.size y1; (repeat (first | rw [World.size_alloc] at sy1 | rw [World.size_setCell] at sy1 | rw [World.size_drew] at sy1)); have : B < y1.now.heap.size := (by omega); have : B ≤ y1.now.heap.size := (by omega); have : B < y1.now.heap.size + 1 + 1 := (by omega); have : XB < y1.now.heap.size := (by omega); have : XB ≤ y1.now.heap.size := (by omega); have : XB < y1.now.heap.size + 1 + 1 := (by omega); have : SB < y1.now.heap.size := (by omega); have : SB ≤ y1.now.heap.size := (by omega); have : SB < y1.now.heap.size + 1 + 1 := (by omega); have : KB < y1.now.heap.size := (by omega); have : KB ≤ y1.now.heap.size := (by omega); have : KB < y1.now.heap.size + 1 + 1 := (by omega); have : KB + 1 < y1.now.heap.size := (by omega); have : KB + 1 ≤ y1.now.heap.size := (by omega); have : KB + 1 < y1.now.heap.size + 1 + 1 := (by omega)))
              exact ⟨⟨0 + 1, true, ⟨_, by repeat' (first | (with_reducible exact Below.refl _ _) | (with_reducible assumption) | (with_reducible refine Ext.below _ ?_ ?_) | (with_reducible refine Below.on ?_ (by with_reducible assumption) ?_) | (with_reducible refine Below.alloc ?_ ?_ _) | (with_reducible refine Below.drew ?_) | (with_reducible refine Below.setCell ?_ ?_ _) | (with_reducible exact Nat.le_refl _) | omega | (simp; done) | (simp [go_sem]; done) | (simp at *; omega))⟩, by simp, by simp, rfl, key⟩, by simp [intOf]; omega⟩
            · have hjl : j < BL.length := by omega
              have hlt := hpr.out j hjl (by omega)
              have p0 := hcp.out j hjl
              generalize BL[j] = v at *
              have hnle : ¬ u.a ≤ v.a := by omega
              have hpos : (0 : Int) < ((j + 1 : Nat) : Int) := by omega
              have hsub : ((j + 1 : Nat) : Int) - 1 = j := by omega
              clear hpr hcp
              go_wp2_with (first | ((first | with_reducible refine wrx2 ?_ | with_reducible refine wrx ?_); (repeat (first | go_big_quiet_step ((first | (go_at_call 38; with_reducible exact Calls.ext (ci _)))) | quiet_step ((first | (go_at_call 38; with_reducible exact Calls.ext (ci _)))))); refine wpQuiet_nil ?_; rintro _ ⟨yr, rfl⟩; have syr := Ext.size yr; (repeat (first | rw [World.size_alloc] at syr | rw [World.size_setCell] at syr | rw [World.size_drew] at syr)); have : B < yr.now.heap.size := (by omega); have : B ≤ yr.now.heap.size := (by omega); have : B < yr.now.heap.size + 1 + 1 := (by omega); have : XB < yr.now.heap.size := (by omega); have : XB ≤ yr.now.heap.size := (by omega); have : XB < yr.now.heap.size + 1 + 1 := (by omega); have : SB < yr.now.heap.size := (by omega); have : SB ≤ yr.now.heap.size := (by omega); have : SB < yr.now.heap.size + 1 + 1 := (by omega); have : KB < yr.now.heap.size := (by omega); have : KB ≤ yr.now.heap.size := (by omega); have : KB < yr.now.heap.size + 1 + 1 := (by omega); have : KB + 1 < yr.now.heap.size := (by omega); have : KB + 1 ≤ yr.now.heap.size := (by omega); have : KB + 1 < yr.now.heap.size + 1 + 1 := (by omega)) | (go_at_call 38; (first | with_reducible refine (Calls.giv2 (ci _)).mono ?_ | with_reducible refine (Calls.giv (ci _)).mono ?_); rintro _ _ ⟨y1, rfl, rfl⟩; have sy1 := Ext.size y1; (repeat (first | rw [World.size_alloc] at sy1 | rw [World.size_setCell] at sy1 | rw [World.size_drew] at sy1)); have : B < y1.now.heap.size := (by omega); have : B ≤ y1.now.heap.size := (by omega); have : B < y1.now.heap.size + 1 + 1 := (by omega); have : XB < y1.now.heap.size := (by omega); have : XB ≤ y1.now.heap.size := (by omega); have : XB < y1.now.heap.size + 1 + 1 := (by omega); have : SB < y1.now.heap.size := (by omega); have : SB ≤ y1.now.heap.size := (by omega); have : SB < y1.now.heap.size + 1 + 1 := (by omega); have : KB < y1.now.heap.size := (by omega); have : KB ≤ y1.now.heap.size := (by omega); have : KB < y1.now.heap.size + 1 + 1 := (by omega); have : KB + 1 < y1.now.heap.size := (by omega); have : KB + 1 ≤ y1.now.heap.size := (by omega); have : KB + 1 < y1.now.heap.size + 1 + 1 := (by omega)))
              exact ⟨⟨j + 1 + 1, true, ⟨_, by repeat' (first | (with_reducible exact Below.refl _ _) | (with_reducible assumption) | (with_reducible refine Ext.below _ ?_ ?_) | (with_reducible refine Below.on ?_ (by with_reducible assumption) ?_) | (with_reducible refine Below.alloc ?_ ?_ _) | (with_reducible refine Below.drew ?_) | (with_reducible refine Below.setCell ?_ ?_ _) | (with_reducible exact Nat.le_refl _) | omega | (simp; done) | (simp [go_sem]; done) | (simp at *; omega))⟩, by simp, by simp, rfl, key⟩, by simp [intOf]; omega⟩
          · rw [decide_eq_false hd] at ci
            have key := hk false (by simp only [Bool.false_or, decide_eq_false_iff_not]; exact fun q => hd q.2)
            clear hk
            rcases i with _ | j
            · simp only [Nat.zero_mul, Nat.add_zero] at d0 d1 d2
              clear hpr hcp
              go_wp2_with (first | ((first | with_reducible refine wrx2 ?_ | with_reducible refine wrx ?_); (repeat (first | go_big_quiet_step ((first | (go_at_call 38; with_reducible exact Calls.ext (ci _)))) | quiet_step ((first | (go_at_call 38; with_reducible exact Calls.ext (ci _)))))); refine wpQuiet_nil ?_; rintro _ ⟨yr, rfl⟩; have syr := Ext.size yr; (repeat (first | rw [World.size_alloc] at syr | rw [World.size_setCell] at syr | rw [World.size_drew] at syr)); have : B < yr.now.heap.size := (by omega); have : B ≤ yr.now.heap.size := (by omega); have : B < yr.now.heap.size + 1 + 1 := (by omega); have : XB < yr.now.heap.size := (by omega); have : XB ≤ yr.now.heap.size := (by omega); have : XB < yr.now.heap.size + 1 + 1 := (by omega); have : SB < yr.now.heap.size := (by omega); have : SB ≤ yr.now.heap.size := (by omega); have : SB < yr.now.heap.size + 1 + 1 := (by omega); have : KB < yr.now.heap.size := (by omega); have : KB ≤ yr.now.heap.size := (by omega); have : KB < yr.now.heap.size + 1 + 1 := (by omega); have : KB + 1 < yr.now.heap.size := (by omega); have : KB + 1 ≤ yr.now.heap.size := (by omega); have : KB + 1 < yr.now.heap.size + 1 + 1 := (by omega)) | (go_at_call 38; (first | with_reducible refine (Calls.giv2 (ci _)).mono ?_ | with_reducible refine (Calls.giv (ci _)).mono ?_); rintro _ _ ⟨y1, rfl, rfl⟩; have sy1 := Ext.size y1; (repeat (first | rw [World.size_alloc] at sy1 | rw [World.size_setCell] at sy1 | rw [World.size_drew] at sy1)); have : B < y1.now.heap.size := (by omega); have : B ≤ y1.now.heap.size := (by omega); have : B < y1.now.heap.size + 1 + 1 := (by omega); have : XB < y1.now.heap.size := (by omega); have : XB ≤ y1.now.heap.size := (by omega); have : XB < y1.now.heap.size + 1 + 1 := (by omega); have : SB < y1.now.heap.size := (by omega); have : SB ≤ y1.now.heap.size := (by omega); have : SB < y1.now.heap.size + 1 + 1 := (by omega); have : KB < y1.now.heap.size := (by omega); have : KB ≤ y1.now.heap.size := (by omega); have : KB < y1.now.heap.size + 1 + 1 := (by omega); have : KB + 1 < y1.now.heap.size := (by omega); have : KB + 1 ≤ y1.now.heap.size := (by omega); have : KB + 1 < y1.now.heap.size + 1 + 1 := (by omega)))
              exact ⟨⟨0 + 1, false, ⟨_, by repeat' (first | (with_reducible exact Below.refl _ _) | (with_reducible assumption) | (with_reducible refine Ext.below _ ?_ ?_) | (with_reducible refine Below.on ?_ (by with_reducible assumption) ?_) | (with_reducible refine Below.alloc ?_ ?_ _) | (with_reducible refine Below.drew ?_) | (with_reducible refine Below.setCell ?_ ?_ _) | (with_reducible exact Nat.le_refl _) | omega | (simp; done) | (simp [go_sem]; done) | (simp at *; omega))⟩, by simp, by simp, rfl, key⟩, by simp [intOf]; omega⟩
            · have hjl : j < BL.length := by omega
              have hlt := hpr.out j hjl (by omega)
              have p0 := hcp.out j hjl
              generalize BL[j] = v at *
              have hnle : ¬ u.a ≤ v.a := by omega
              have hpos : (0 : Int) < ((j + 1 : Nat) : Int) := by omega
              have hsub : ((j + 1 : Nat) : Int) - 1 = j := by omega
              clear hpr hcp
              go_wp2_with (first | ((first | with_reducible refine wrx2 ?_ | with_reducible refine wrx ?_); (repeat (first | go_big_quiet_step ((first | (go_at_call 38; with_reducible exact Calls.ext (ci _)))) | quiet_step ((first | (go_at_call 38; with_reducible exact Calls.ext (ci _)))))); refine wpQuiet_nil ?_; rintro _ ⟨yr, rfl⟩; have syr := Ext.size yr; (repeat (first | rw [World.size_alloc] at syr | rw [World.size_setCell] at syr | rw [World.size_drew] at syr)); have : B < yr.now.heap.size := (by omega); have : B ≤ yr.now.heap.size := (by omega); have : B < yr.now.heap.size + 1 + 1 := (by omega); have : XB < yr.now.heap.size := (by omega); have : XB ≤ yr.now.heap.size := (by omega); have : XB < yr.now.heap.size + 1 + 1 := (by omega); have : SB < yr.now.heap.size := (by omega); have : SB ≤ yr.now.heap.size := (by omega); have : SB < yr.now.heap.size + 1 + 1 := (by omega); have : KB < yr.now.heap.size := (by omega); have : KB ≤ yr.now.heap.size := (by omega); have : KB < yr.now.heap.size + 1 + 1 := (by omega); have : KB + 1 < yr.now.heap.size := (by omega); have : KB + 1 ≤ yr.now.heap.size := (by omega); have : KB + 1 < yr.now.heap.size + 1 + 1 := (by omega)) | (go_at_call 38; (first | with_reducible refine (Calls.giv2 (ci _)).mono ?_ | with_reducible refine (Calls.giv (ci _)).mono ?_); rintro _ _ ⟨y1, rfl, rfl⟩; have sy1 := Ext.size y1; (repeat (first | rw [World.size_alloc] at sy1 | rw [World.size_setCell] at sy1 | rw [World.size_drew] at sy1)); have : B < y1.now.heap.size := (by omega); have : B ≤ y1.now.heap.size := (by omega); have : B < y1.now.heap.size + 1 + 1 := (by omega); have : XB < y1.now.heap.size := (by omega); have : XB ≤ y1.now.heap.size := (by omega); have : XB < y1.now.heap.size + 1 + 1 := (by omega); have : SB < y1.now.heap.size := (by omega); have : SB ≤ y1.now.heap.size := (by omega); have : SB < y1.now.heap.size + 1 + 1 := (by omega); have : KB < y1.now.heap.size := (by omega); have : KB ≤ y1.now.heap.size := (by omega); have : KB < y1.now.heap.size + 1 + 1 := (by omega); have : KB + 1 < y1.now.heap.size := (by omega); have : KB + 1 ≤ y1.now.heap.size := (by omega); have : KB + 1 < y1.now.heap.size + 1 + 1 := (by omega)))
              exact ⟨⟨j + 1 + 1, false, ⟨_, by repeat' (first | (with_reducible exact Below.refl _ _) | (with_reducible assumption) | (with_reducible refine Ext.below _ ?_ ?_) | (with_reducible refine Below.on ?_ (by with_reducible assumption) ?_) | (with_reducible refine Below.alloc ?_ ?_ _) | (with_reducible refine Below.drew ?_) | (with_reducible refine Below.setCell ?_ ?_ _) | (with_reducible exact Nat.le_refl _) | omega | (simp; done) | (simp [go_sem]; done) | (simp at *; omega))⟩, by simp, by simp, rfl, key⟩, by simp [intOf]; omega⟩
        ·
          have key := hk false (by simp only [Bool.false_or, decide_eq_false_iff_not]; exact fun q => hn q.1)
          clear hk
          rcases i with _ | j
          · simp only [Nat.zero_mul, Nat.add_zero] at d0 d1 d2
            clear hpr hcp
            go_wp2_with (first | ((first | with_reducible refine wrx2 ?_ | with_reducible refine wrx ?_); (repeat (first | go_big_quiet_step ((first | (go_at_call 38; with_reducible exact Calls.ext (ci _)))) | quiet_step ((first | (go_at_call 38; with_reducible exact Calls.ext (ci _)))))); refine wpQuiet_nil ?_; rintro _ ⟨yr, rfl⟩; have syr := Ext.size yr; (repeat (first | rw [World.size_alloc] at syr | rw [World.size_setCell] at syr | rw [World.size_drew] at syr)); have : B < yr.now.heap.size := (by omega); have : B ≤ yr.now.heap.size := (by omega); have : B < yr.now.heap.size + 1 + 1 := (by omega); have : XB < yr.now.heap.size := (by omega); have : XB ≤ yr.now.heap.size := (by omega); have : XB < yr.now.heap.size + 1 + 1 := (by omega); have : SB < yr.now.heap.size := (by omega); have : SB ≤ yr.now.heap.size := (by omega); have : SB < yr.now.heap.size + 1 + 1 := (by omega); have : KB < yr.now.heap.size := (by omega); have : KB ≤ yr.now.heap.size := (by omega); have : KB < yr.now.heap.size + 1 + 1 := (by omega); have : KB + 1 < yr.now.heap.size := (by omega); have : KB + 1 ≤ yr.now.heap.size := (by omega); have : KB + 1 < yr.now.heap.size + 1 + 1 := (by omega)) | (go_at_call 38; (first | with_reducible refine (Calls.giv2 (ci _)).mono ?_ | with_reducible refine (Calls.giv (ci _)).mono ?_); rintro _ _ ⟨y1, rfl, rfl⟩; have sy1 := Ext.size y1; (repeat (first | rw [World.size_alloc] at sy1 | rw [World.size_setCell] at sy1 | rw [World.size_drew] at sy1)); have : B < y1.now.heap.size := (by omega); have : B ≤ y1.now.heap.size := (by omega); have : B < y1.now.heap.size + 1 + 1 := (by omega); have : XB < y1.now.heap.size := (by omega); have : XB ≤ y1.now.heap.size := (by omega); have : XB < y1.now.heap.size + 1 + 1 := (by omega); have : SB < y1.now.heap.size := (by omega); have : SB ≤ y1.now.heap.size := (by omega); have : SB < y1.now.heap.size + 1 + 1 := (by omega); have : KB < y1.now.heap.size := (by omega); have : KB ≤ y1.now.heap.size := (by omega); have : KB < y1.now.heap.size + 1 + 1 := (by omega); have : KB + 1 < y1.now.heap.size := (by omega); have : KB + 1 ≤ y1.now.heap.size := (by omega); have : KB + 1 < y1.now.heap.size + 1 + 1 := (by omega)))
            exact ⟨⟨0 + 1, false, ⟨_, by repeat' (first | (with_reducible exact Below.refl _ _) | (with_reducible assumption) | (with_reducible refine Ext.below _ ?_ ?_) | (with_reducible refine Below.on ?_ (by with_reducible assumption) ?_) | (with_reducible refine Below.alloc ?_ ?_ _) | (with_reducible refine Below.drew ?_) | (with_reducible refine Below.setCell ?_ ?_ _) | (with_reducible exact Nat.le_refl _) | omega | (simp; done) | (simp [go_sem]; done) | (simp at *; omega))⟩, by simp, by simp, rfl, key⟩, by simp [intOf]; omega⟩
          · have hjl : j < BL.length := by omega
            have hlt := hpr.out j hjl (by omega)
            have p0 := hcp.out j hjl
            generalize BL[j] = v at *
            have hnle : ¬ u.a ≤ v.a := by omega
            have hpos : (0 : Int) < ((j + 1 : Nat) : Int) := by omega
            have hsub : ((j + 1 : Nat) : Int) - 1 = j := by omega
            clear hpr hcp
            go_wp2_with (first | ((first | with_reducible refine wrx2 ?_ | with_reducible refine wrx ?_); (repeat (first | go_big_quiet_step ((first | (go_at_call 38; with_reducible exact Calls.ext (ci _)))) | quiet_step ((first | (go_at_call 38; with_reducible exact Calls.ext (ci _)))))); refine wpQuiet_nil ?_; rintro _ ⟨yr, rfl⟩; have syr := Ext.size yr; (repeat (first | rw [World.size_alloc] at syr | rw [World.size_setCell] at syr | rw [World.size_drew] at syr)); have : B < yr.now.heap.size := (by omega); have : B ≤ yr.now.heap.size := (by omega); have : B < yr.now.heap.size + 1 + 1 := (by omega); have : XB < yr.now.heap.size := (by omega); have : XB ≤ yr.now.heap.size := (by omega); have : XB < yr.now.heap.size + 1 + 1 := (by omega); have : SB < yr.now.heap.size := (by omega); have : SB ≤ yr.now.heap.size := (by omega); have : SB < yr.now.heap.size + 1 + 1 := (by omega); have : KB < yr.now.heap.size := (by omega); have : KB ≤ yr.now.heap.size := (by omega); have : KB < yr.now.heap.size + 1 + 1 := (by omega); have : KB + 1 < yr.now.heap.size := (by omega); have : KB + 1 ≤ yr.now.heap.size := (by omega); have : KB + 1 < yr.now.heap.size + 1 + 1 := (by omega)) | (go_at_call 38; (first | with_reducible refine (Calls.giv2 (ci _)).mono ?_ | with_reducible refine (Calls.giv (ci _)).mono ?_); rintro _ _ ⟨y1, rfl, rfl⟩; have sy1 := Ext.size y1; (repeat (first | rw [World.size_alloc] at sy1 | rw [World.size_setCell] at sy1 | rw [World.size_drew] at sy1)); have : B < y1.now.heap.size := (by omega); have : B ≤ y1.now.heap.size := (by omega); have : B < y1.now.heap.size + 1 + 1 := (by omega); have : XB < y1.now.heap.size := (by omega); have : XB ≤ y1.now.heap.size := (by omega); have : XB < y1.now.heap.size + 1 + 1 := (by omega); have : SB < y1.now.heap.size := (by omega); have : SB ≤ y1.now.heap.size := (by omega); have : SB < y1.now.heap.size + 1 + 1 := (by omega); have : KB < y1.now.heap.size := (by omega); have : KB ≤ y1.now.heap.size := (by omega); have : KB < y1.now.heap.size + 1 + 1 := (by omega); have : KB + 1 < y1.now.heap.size := (by omega); have : KB + 1 ≤ y1.now.heap.size := (by omega); have : KB + 1 < y1.now.heap.size + 1 + 1 := (by omega)))
            exact ⟨⟨j + 1 + 1, false, ⟨_, by repeat' (first | (with_reducible exact Below.refl _ _) | (with_reducible assumption) | (with_reducible refine Ext.below _ ?_ ?_) | (with_reducible refine Below.on ?_ (by with_reducible assumption) ?_) | (with_reducible refine Below.alloc ?_ ?_ _) | (with_reducible refine Below.drew ?_) | (with_reducible refine Below.setCell ?_ ?_ _) | (with_reducible exact Nat.le_refl _) | omega | (simp; done) | (simp [go_sem]; done) | (simp at *; omega))⟩, by simp, by simp, rfl, key⟩, by simp [intOf]; omega⟩
      ·
        have key := hk true (by simp)
        clear hk
        rcases i with _ | j
        · simp only [Nat.zero_mul, Nat.add_zero] at d0 d1 d2
          clear hpr hcp
          go_wp2_with (first | ((first | with_reducible refine wrx2 ?_ | with_reducible refine wrx ?_); (repeat (first | go_big_quiet_step ((first | (go_at_call 38; with_reducible exact Calls.ext (ci _)))) | quiet_step ((first | (go_at_call 38; with_reducible exact Calls.ext (ci _)))))); refine wpQuiet_nil ?_; rintro _ ⟨yr, rfl⟩; have syr := Ext.size yr; (repeat (first | rw [World.size_alloc] at syr | rw [World.size_setCell] at syr | rw [World.size_drew] at syr)); have : B < yr.now.heap.size := (by omega); have : B ≤ yr.now.heap.size := (by omega); have : B < yr.now.heap.size + 1 + 1 := (by omega); have : XB < yr.now.heap.size := (by omega); have : XB ≤ yr.now.heap.size := (by omega); have : XB < yr.now.heap.size + 1 + 1 := (by omega); have : SB < yr.now.heap.size := (by omega); have : SB ≤ yr.now.heap.size := (by omega); have : SB < yr.now.heap.size + 1 + 1 := (by omega); have : KB < yr.now.heap.size := (by omega); have : KB ≤ yr.now.heap.size := (by omega); have : KB < yr.now.heap.size + 1 + 1 := (by omega); have : KB + 1 < yr.now.heap.size := (by omega); have : KB + 1 ≤ yr.now.heap.size := (by omega); have : KB + 1 < yr.now.heap.size + 1 + 1 := (by omega)) | (go_at_call 38; (first | with_reducible refine (Calls.giv2 (ci _)).mono ?_ | with_reducible refine (Calls.giv (ci _)).mono ?_); rintro _ _ ⟨y1, rfl, rfl⟩; have sy1 := Ext.size y1; (repeat (first | rw [World.size_alloc] at sy1 | rw [World.size_setCell] at sy1 | rw [World.size_drew] at sy1)); have : B < y1.now.heap.size := (by omega); have : B ≤ y1.now.heap.size := (by omega); have : B < y1.now.heap.size + 1 + 1 := (by omega); have : XB < y1.now.heap.size := (by omega); have : XB ≤ y1.now.heap.size := (by omega); have : XB < y1.now.heap.size + 1 + 1 := (by omega); have : SB < y1.now.heap.size := (by omega); have : SB ≤ y1.now.heap.size := (by omega); have : SB < y1.now.heap.size + 1 + 1 := (by omega); have : KB < y1.now.heap.size := (by omega); have : KB ≤ y1.now.heap.size := (by omega); have : KB < y1.now.heap.size + 1 + 1 := (by omega); have : KB + 1 < y1.now.heap.size := (by omega); have : KB + 1 ≤ y1.now.heap.size := (by omega); have : KB + 1 < y1.now.heap.size + 1 + 1 := (by omega)))
          exact ⟨⟨0 + 1, true, ⟨_, by repeat' (first | (with_reducible exact Below.refl _ _) | (with_reducible assumption) | (with_reducible refine Ext.below _ ?_ ?_) | (with_reducible refine Below.on ?_ (by with_reducible assumption) ?_) | (with_reducible refine Below.alloc ?_ ?_ _) | (with_reducible refine Below.drew ?_) | (with_reducible refine Below.setCell ?_ ?_ _) | (with_reducible exact Nat.le_refl _) | omega | (simp; done) | (simp [go_sem]; done) | (simp at *; omega))⟩, by simp, by simp, rfl, key⟩, by simp [intOf]; omega⟩
        · have hjl : j < BL.length := by omega
          have hlt := hpr.out j hjl (by omega)
          have p0 := hcp.out j hjl
          generalize BL[j] = v at *
          have hnle : ¬ u.a ≤ v.a := by omega
          have hpos : (0 : Int) < ((j + 1 : Nat) : Int) := by omega
          have hsub : ((j + 1 : Nat) : Int) - 1 = j := by omega
          clear hpr hcp
          go_wp2_with (first | ((first | with_reducible refine wrx2 ?_ | with_reducible refine wrx ?_); (repeat (first | go_big_quiet_step ((first | (go_at_call 38; with_reducible exact Calls.ext (ci _)))) | quiet_step ((first | (go_at_call 38; with_reducible exact Calls.ext (ci _)))))); refine wpQuiet_nil ?_; rintro _ ⟨yr, rfl⟩; have syr := Ext.size yr; (repeat (first | rw [World.size_alloc] at syr | rw [World.size_setCell] at syr | rw [World.size_drew] at syr)); have : B < yr.now.heap.size := (by omega); have : B ≤ yr.now.heap.size := (by omega); have : B < yr.now.heap.size + 1 + 1 := (by omega); have : XB < yr.now.heap.size := (by omega); have : XB ≤ yr.now.heap.size := (by omega); have : XB < yr.now.heap.size + 1 + 1 := (by omega); have : SB < yr.now.heap.size := (by omega); have : SB ≤ yr.now.heap.size := (by omega); have : SB < yr.now.heap.size + 1 + 1 := (by omega); have : KB < yr.now.heap.size := (by omega); have : KB ≤ yr.now.heap.size := (by omega); have : KB < yr.now.heap.size + 1 + 1 := (by omega); have : KB + 1 < yr.now.heap.size := (by omega); have : KB + 1 ≤ yr.now.heap.size := (by omega); have : KB + 1 < yr.now.heap.size + 1 + 1 := (by omega)) | (go_at_call 38; (first | with_reducible refine (Calls.giv2 (ci _)).mono ?_ | with_reducible refine (Calls.giv (ci _)).mono ?_); rintro _ _ ⟨y1, rfl, rfl⟩; have sy1 := Ext.size y1; (repeat (first | rw [World.size_alloc] at sy1 | rw [World.size_setCell] at sy1 | rw [World.size_drew] at sy1)); have : B < y1.now.heap.size := (by omega); have : B ≤ y1.now.heap.size := (by omega); have : B < y1.now.heap.size + 1 + 1 := (by omega); have : XB < y1.now.heap.size := (by omega); have : XB ≤ y1.now.heap.size := (by omega); have : XB < y1.now.heap.size + 1 + 1 := (by omega); have : SB < y1.now.heap.size := (by omega); have : SB ≤ y1.now.heap.size := (by omega); have : SB < y1.now.heap.size + 1 + 1 := (by omega); have : KB < y1.now.heap.size := (by omega); have : KB ≤ y1.now.heap.size := (by omega); have : KB < y1.now.heap.size + 1 + 1 := (by omega); have : KB + 1 < y1.now.heap.size := (by omega); have : KB + 1 ≤ y1.now.heap.size := (by omega); have : KB + 1 < y1.now.heap.size + 1 + 1 := (by omega)))
          exact ⟨⟨j + 1 + 1, true, ⟨_, by repeat' (first | (with_reducible exact Below.refl _ _) | (with_reducible assumption) | (with_reducible refine Ext.below _ ?_ ?_) | (with_reducible refine Below.on ?_ (by with_reducible assumption) ?_) | (with_reducible refine Below.alloc ?_ ?_ _) | (with_reducible refine Below.drew ?_) | (with_reducible refine Below.setCell ?_ ?_ _) | (with_reducible exact Nat.le_refl _) | omega | (simp; done) | (simp [go_sem]; done) | (simp at *; omega))⟩, by simp, by simp, rfl, key⟩, by simp [intOf]; omega⟩
    · have hge : ¬ (i : Int) < BL.length := by omega
      rw [List.drop_of_length_le (by omega), List.any_nil, Bool.or_false] at g2
      subst g2
      go_upto_region 15 with (first | ((first | with_reducible refine wrx2 ?_ | with_reducible refine wrx ?_); (repeat (first | go_big_quiet_step ((first | fail)) | quiet_step ((first | fail)))); refine wpQuiet_nil ?_; rintro _ ⟨yr, rfl⟩; have syr := Ext.size yr; (repeat (first | rw [World.size_alloc] at syr | rw [World.size_setCell] at syr | rw [World.size_drew] at syr)); have : XB < yr.now.heap.size := (by omega); have : XB ≤ yr.now.heap.size := (by omega); have : XB < yr.now.heap.size + 1 + 1 := (by omega); have : SB < yr.now.heap.size := (by omega); have : SB ≤ yr.now.heap.size := (by omega); have : SB < yr.now.heap.size + 1 + 1 := (by omega); have : KB < yr.now.heap.size := (by omega); have : KB ≤ yr.now.heap.size := (by omega); have : KB < yr.now.heap.size + 1 + 1 := (by omega); have : KB + 1 < yr.now.heap.size := (by omega); have : KB + 1 ≤ yr.now.heap.size := (by omega); have : KB + 1 < yr.now.heap.size + 1 + 1 := (by omega)))
      have hb6 := y.grew
      have hlim6 : LimAt y.now := hlim5.on hb6
      have hR6 := hR5.on hb6
      replace hoA := owns_below hoA hb6
      replace hoG := owns_below hoG hb6
      replace hoL := hoL.below hb6
      have hBw6 : Below w.heap.size w y.now := hB5.out.trans (hb6.mono hB5.out.size)
      replace rX := (hb6.block XB (row_lt rX)).trans rX
      replace rk := (hb6.block KB (row_lt rk)).trans rk
      replace rf := (hb6.block (KB + 1) (row_lt rf)).trans rf
      generalize y.now = W6 at *
      have a0 : W6.cell? ⟨XB, 0, none⟩ = some (.slice x.pp x.pl.length x.pc) := (cell_of_row W6 _ 0 _ _ _ rX).trans rfl
      clear hb6 hvA hv3 hany hlim5 hR5 hB5 rS lX lK lf lS hasc hBLn q0 q1 q2 q3 q4 q5 q6 q7 c0 c1 c2 c3 c4 c5 c6 c7 c8 c9 c10 d0 d1 d2 d3
      have lX := row_lt rX
      have nX : XB ≠ w.heap.size := by omega
      have ypos : (0 : Int) < x.pl.length ∧ (x.pl.length : Int) ≤ 16 := by have := hxok.pos; omega
      refine wp_tell (en5Told w.heap.size x) ?_ ?_
      focus
        have hRr := hR6
        have hbX := hR6.lt
        clear ca hoA hoG hoL hlim6 hR6 hBw6 hE6 hstone hbE tA tG
        repeat (rename_i zz; clear zz)
        generalize m9 = m at *
        generalize w.heap.size = b at *
        refine region_dep (by kernel_rfl) en5Deps (by kernel_rfl) (en5Inv b m XB x) ?h0 ?hstep ?hend
        case h0 =>
          refine ⟨?z17, ?z18, ?z113, ?z114, ?z115, ?z116, ?z117, ?z118, ?z119, ?z120, ?z121, ?z122, ?fr, (BelowX.refl _ _ _).drew, (by simpa using hRr.drew), by simp, by simp, by simp, by simp, by simp, by simp, by simp, by simp, by simp, by simp, by simp, by simp⟩
          case fr =>
            simp only [sets, List.foldl_cons, List.foldl_nil, List.set_cons_succ, List.set_cons_zero]
            rfl
        case hend =>
          intro l' fr W hl hall hInv
          unfold en5Inv at hInv
          obtain ⟨s17, s18, s113, s114, s115, s116, s117, s118, s119, s120, s121, s122, hInv⟩ := hInv
          obtain ⟨hfr, hB, g0, f0, f1, f2, f3, f4, f5, f6, f7, f8, f9, f10, f11⟩ := hInv
          subst hfr
          obtain ⟨b0, b1, b2, b3, b4, b5, b6, b7, b8, b9, b10, b11, rfl⟩ := list12 hl
          simp only [List.getD_cons_zero, List.getD_cons_succ] at g0 f0 f1 f2 f3 f4 f5 f6 f7 f8 f9 f10 f11
          simp only [List.all_cons, id, Bool.and_eq_true] at hall
          obtain ⟨e0, e1, e2, e3, e4, e5, e6, e7, e8, e9, e10, e11, -⟩ := hall
          obtain ⟨v1, rfl, w1⟩ := f10 e10
          obtain ⟨v2, rfl, w2⟩ := f11 e11
          exact ⟨rfl, v1, v2, by kernel_rfl, hB, w1, w2⟩
        case hstep =>
          intro l' fr W ii hl hInv hr hi
          unfold en5Inv at hInv
          obtain ⟨s17, s18, s113, s114, s115, s116, s117, s118, s119, s120, s121, s122, hInv⟩ := hInv
          obtain ⟨hfr, hB, g0, f0, f1, f2, f3, f4, f5, f6, f7, f8, f9, f10, f11⟩ := hInv
          subst hfr
          obtain ⟨b0, b1, b2, b3, b4, b5, b6, b7, b8, b9, b10, b11, rfl⟩ := list12 hl
          have sW := hB.size
          replace a0 := (hB.cell lX nX).trans a0
          have hflags : b4.toNat ≤ 1 ∧ b9.toNat ≤ 1 := ⟨Bool.toNat_le _, Bool.toNat_le _⟩
          simp only [List.getD_cons_zero, List.getD_cons_succ] at g0 f0 f1 f2 f3 f4 f5 f6 f7 f8 f9 f10 f11
          replace hB := Go.Lib.hid hB
          replace hi := Go.Lib.hid hi
          replace g0 := Go.Lib.hid g0
          replace f0 := Go.Lib.hid f0
          replace f1 := Go.Lib.hid f1
          replace f2 := Go.Lib.hid f2
          replace f3 := Go.Lib.hid f3
          replace f4 := Go.Lib.hid f4
          replace f5 := Go.Lib.hid f5
          replace f6 := Go.Lib.hid f6
          replace f7 := Go.Lib.hid f7
          replace f8 := Go.Lib.hid f8
          replace f9 := Go.Lib.hid f9
          replace f10 := Go.Lib.hid f10
          replace f11 := Go.Lib.hid f11
          rcases ii with _ | _ | _ | _ | _ | _ | _ | _ | _ | _ | _ | _ | ii
          · refine wpOp_step rfl (fun K hK => ?_)
            simp only [sets, List.foldl_cons, List.foldl_nil, List.set_cons_succ, List.set_cons_zero]
            go_simp
            exact hK _ _ ⟨s17, s18, (.pointer (some ⟨b, 0, none⟩)), s114, s115, s116, s117, s118, s119, s120, s121, s122, by kernel_rfl, hB.out, g0.out, fun _ => rfl, f1.out, f2.out, f3.out, f4.out, f5.out, f6.out, f7.out, f8.out, f9.out, f10.out, f11.out⟩
          · refine wpOp_step rfl (fun K hK => ?_)
            simp only [sets, List.foldl_cons, List.foldl_nil, List.set_cons_succ, List.set_cons_zero]
            go_simp
            exact hK _ _ ⟨s17, s18, s113, (.pointer (some ⟨XB, 0, none⟩)), s115, s116, s117, s118, s119, s120, s121, s122, by kernel_rfl, hB.out, g0.out, f0.out, fun _ => rfl, f2.out, f3.out, f4.out, f5.out, f6.out, f7.out, f8.out, f9.out, f10.out, f11.out⟩
          · simp only [en5Deps, List.getD_cons_zero, List.getD_cons_succ, List.all_cons, List.all_nil, Bool.and_true] at hr
            have hd1 := hr
            obtain rfl := f1.out hd1
            refine wpOp_step rfl (fun K hK => ?_)
            simp only [sets, List.foldl_cons, List.foldl_nil, List.set_cons_succ, List.set_cons_zero]
            go_simp
            exact hK _ _ ⟨s17, s18, s113, (.pointer (some ⟨XB, 0, none⟩)), (.slice x.pp x.pl.length x.pc), s116, s117, s118, s119, s120, s121, s122, by kernel_rfl, hB.out, g0.out, f0.out, f1.out, fun _ => rfl, f3.out, f4.out, f5.out, f6.out, f7.out, f8.out, f9.out, f10.out, f11.out⟩
          · simp only [en5Deps, List.getD_cons_zero, List.getD_cons_succ, List.all_cons, List.all_nil, Bool.and_true] at hr
            have hd2 := hr
            obtain rfl := f2.out hd2
            refine wpOp_step rfl (fun K hK => ?_)
            simp only [sets, List.foldl_cons, List.foldl_nil, List.set_cons_succ, List.set_cons_zero]
            go_simp
            exact hK _ _ ⟨s17, s18, s113, s114, (.slice x.pp x.pl.length x.pc), (.int .i64 x.pl.length), s117, s118, s119, s120, s121, s122, by kernel_rfl, hB.out, g0.out, f0.out, f1.out, f2.out, fun _ => rfl, f4.out, f5.out, f6.out, f7.out, f8.out, f9.out, f10.out, f11.out⟩
          · simp only [en5Deps, List.getD_cons_zero, List.getD_cons_succ, List.all_cons, List.all_nil, Bool.and_true, Bool.and_eq_true] at hr
            obtain ⟨hd0, hd3⟩ := hr
            obtain rfl := f0.out hd0
            obtain rfl := f3.out hd3
            have hi := hi.out
            simp only [List.getElem?_cons_zero, List.getElem?_cons_succ, Option.some.injEq] at hi
            subst hi
            refine wpOp_step rfl (fun K hK => ?_)
            simp only [sets, List.foldl_cons, List.foldl_nil, List.set_cons_succ, List.set_cons_zero]
            go_simp
            refine (Next_y x.pl.length b (m + (1 * false.toNat + 1 * b9.toNat)) W (by have := hflags; simp only [Bool.toNat_false] at *; omega) (by omega) (by omega) g0.out).mono ?_
            rintro _ W6 ⟨z, v, rfl, hv, rfl, hr⟩
            exact hK _ _ ⟨s17, s18, (.pointer (some ⟨b, 0, none⟩)), s114, s115, (.int .i64 x.pl.length), (.int .i64 v), s118, s119, s120, s121, s122, by kernel_rfl, hB.out.trans (z.grew.mono (by omega)), (hr.mono (by simp only [List.set_cons_succ, List.set_cons_zero, List.getD_cons_zero, List.getD_cons_succ, Bool.toNat_true, Bool.toNat_false]; omega)), f0.out, f1.out, f2.out, f3.out, (fun _ => ⟨v, rfl, hv⟩), f5.out, f6.out, f7.out, f8.out, (fun h => by obtain ⟨v, e, hv⟩ := f9.out h; exact ⟨v, e, hv⟩), (fun h => by obtain ⟨v, e, hv⟩ := f10.out h; exact ⟨v, e, hv⟩), (fun h => by obtain ⟨v, e, hv⟩ := f11.out h; exact ⟨v, e, hv⟩)⟩
          · refine wpOp_step rfl (fun K hK => ?_)
            simp only [sets, List.foldl_cons, List.foldl_nil, List.set_cons_succ, List.set_cons_zero]
            go_simp
            exact hK _ _ ⟨s17, s18, s113, s114, s115, s116, s117, (.pointer (some ⟨b, 0, none⟩)), s119, s120, s121, s122, by kernel_rfl, hB.out, g0.out, f0.out, f1.out, f2.out, f3.out, f4.out, fun _ => rfl, f6.out, f7.out, f8.out, f9.out, f10.out, f11.out⟩
          · refine wpOp_step rfl (fun K hK => ?_)
            simp only [sets, List.foldl_cons, List.foldl_nil, List.set_cons_succ, List.set_cons_zero]
            go_simp
            exact hK _ _ ⟨s17, s18, s113, s114, s115, s116, s117, s118, (.pointer (some ⟨XB, 0, none⟩)), s120, s121, s122, by kernel_rfl, hB.out, g0.out, f0.out, f1.out, f2.out, f3.out, f4.out, f5.out, fun _ => rfl, f7.out, f8.out, f9.out, f10.out, f11.out⟩
          · simp only [en5Deps, List.getD_cons_zero, List.getD_cons_succ, List.all_cons, List.all_nil, Bool.and_true] at hr
            have hd6 := hr
            obtain rfl := f6.out hd6
            refine wpOp_step rfl (fun K hK => ?_)
            simp only [sets, List.foldl_cons, List.foldl_nil, List.set_cons_succ, List.set_cons_zero]
            go_simp
            exact hK _ _ ⟨s17, s18, s113, s114, s115, s116, s117, s118, (.pointer (some ⟨XB, 0, none⟩)), (.slice x.pp x.pl.length x.pc), s121, s122, by kernel_rfl, hB.out, g0.out, f0.out, f1.out, f2.out, f3.out, f4.out, f5.out, f6.out, fun _ => rfl, f8.out, f9.out, f10.out, f11.out⟩
          · simp only [en5Deps, List.getD_cons_zero, List.getD_cons_succ, List.all_cons, List.all_nil, Bool.and_true] at hr
            have hd7 := hr
            obtain rfl := f7.out hd7
            refine wpOp_step rfl (fun K hK => ?_)
            simp only [sets, List.foldl_cons, List.foldl_nil, List.set_cons_succ, List.set_cons_zero]
            go_simp
            exact hK _ _ ⟨s17, s18, s113, s114, s115, s116, s117, s118, s119, (.slice x.pp x.pl.length x.pc), (.int .i64 x.pl.length), s122, by kernel_rfl, hB.out, g0.out, f0.out, f1.out, f2.out, f3.out, f4.out, f5.out, f6.out, f7.out, fun _ => rfl, f9.out, f10.out, f11.out⟩
          · simp only [en5Deps, List.getD_cons_zero, List.getD_cons_succ, List.all_cons, List.all_nil, Bool.and_true, Bool.and_eq_true] at hr
            obtain ⟨hd5, hd8⟩ := hr
            obtain rfl := f5.out hd5
            obtain rfl := f8.out hd8
            have hi := hi.out
            simp only [List.getElem?_cons_zero, List.getElem?_cons_succ, Option.some.injEq] at hi
            subst hi
            refine wpOp_step rfl (fun K hK => ?_)
            simp only [sets, List.foldl_cons, List.foldl_nil, List.set_cons_succ, List.set_cons_zero]
            go_simp
            refine (Next_y x.pl.length b (m + (1 * b4.toNat + 1 * false.toNat)) W (by have := hflags; simp only [Bool.toNat_false] at *; omega) (by omega) (by omega) g0.out).mono ?_
            rintro _ W6 ⟨z, v, rfl, hv, rfl, hr⟩
            exact hK _ _ ⟨s17, s18, s113, s114, s115, s116, s117, (.pointer (some ⟨b, 0, none⟩)), s119, s120, (.int .i64 x.pl.length), (.int .i64 v), by kernel_rfl, hB.out.trans (z.grew.mono (by omega)), (hr.mono (by simp only [List.set_cons_succ, List.set_cons_zero, List.getD_cons_zero, List.getD_cons_succ, Bool.toNat_true, Bool.toNat_false]; omega)), f0.out, f1.out, f2.out, f3.out, (fun h => by obtain ⟨v, e, hv⟩ := f4.out h; exact ⟨v, e, hv⟩), f5.out, f6.out, f7.out, f8.out, (fun _ => ⟨v, rfl, hv⟩), (fun h => by obtain ⟨v, e, hv⟩ := f10.out h; exact ⟨v, e, hv⟩), (fun h => by obtain ⟨v, e, hv⟩ := f11.out h; exact ⟨v, e, hv⟩)⟩
          · simp only [en5Deps, List.getD_cons_zero, List.getD_cons_succ, List.all_cons, List.all_nil, Bool.and_true] at hr
            have hd4 := hr
            obtain ⟨v, rfl, hv⟩ := f4.out hd4
            refine wpOp_step rfl (fun K hK => ?_)
            simp only [sets, List.foldl_cons, List.foldl_nil, List.set_cons_succ, List.set_cons_zero]
            go_simp
            exact hK _ _ ⟨(.int .i64 v), s18, s113, s114, s115, s116, (.int .i64 v), s118, s119, s120, s121, s122, by kernel_rfl, hB.out, g0.out, f0.out, f1.out, f2.out, f3.out, (fun _ => ⟨v, rfl, hv⟩), f5.out, f6.out, f7.out, f8.out, f9.out, (fun _ => ⟨v, rfl, hv⟩), f11.out⟩
          · simp only [en5Deps, List.getD_cons_zero, List.getD_cons_succ, List.all_cons, List.all_nil, Bool.and_true] at hr
            have hd9 := hr
            obtain ⟨v, rfl, hv⟩ := f9.out hd9
            refine wpOp_step rfl (fun K hK => ?_)
            simp only [sets, List.foldl_cons, List.foldl_nil, List.set_cons_succ, List.set_cons_zero]
            go_simp
            exact hK _ _ ⟨s17, (.int .i64 v), s113, s114, s115, s116, s117, s118, s119, s120, s121, (.int .i64 v), by kernel_rfl, hB.out, g0.out, f0.out, f1.out, f2.out, f3.out, f4.out, f5.out, f6.out, f7.out, f8.out, (fun _ => ⟨v, rfl, hv⟩), f10.out, (fun _ => ⟨v, rfl, hv⟩)⟩
          · have hi := hi.out; simp at hi
      rintro a5 W7 ⟨v1, v2, ha5, hB7, hv1, hv2⟩
      generalize a5.tmps.getD 113 undef = t113 at ha5
      generalize a5.tmps.getD 114 undef = t114 at ha5
      generalize a5.tmps.getD 115 undef = t115 at ha5
      generalize a5.tmps.getD 116 undef = t116 at ha5
      generalize a5.tmps.getD 117 undef = t117 at ha5
      generalize a5.tmps.getD 118 undef = t118 at ha5
      generalize a5.tmps.getD 119 undef = t119 at ha5
      generalize a5.tmps.getD 120 undef = t120 at ha5
      generalize a5.tmps.getD 121 undef = t121 at ha5
      generalize a5.tmps.getD 122 undef = t122 at ha5
      subst ha5
      simp only [sets, List.foldl_cons, List.foldl_nil, List.set_cons_succ, List.set_cons_zero]
      have hE7 := fun a b => hE6.out a b
      have sB7 := hB7.size
      have lw6 : w.heap.size < W6.heap.size := by have := hR6.lt; omega
      replace hoA := owns_belowX hoA hbw hB7
      replace hoG := owns_belowX hoG hbw hB7
      replace hoL := hoL.onX hbw hB7
      have hlim7 : LimAt W7 := hlim6.rext (by omega) ⟨W7, hB7⟩
      have hBw7 : Below w.heap.size w W7 := ((BelowX.of hBw6).trans (hB7.mono hBw6.size)).below (Nat.le_refl _)
      replace rX := (hB7.block XB lX nX).trans rX
      replace rk := (hB7.block KB (row_lt rk) (by omega)).trans rk
      replace rf := (hB7.block (KB + 1) (row_lt rf) (by omega)).trans rf
      obtain ⟨pa', ca', e2, hvA, -⟩ := vecs_of hoA
      have e21 := (Value.slice.inj e2).1
      clear e2
      subst e21
      obtain ⟨pg', cg', e2, hvG, -⟩ := vecs_of hoG
      have e21 := (Value.slice.inj e2).1
      clear e2
      subst e21
      have hxA : x.At W7 := hoL.at'
      obtain ⟨M1, hM1⟩ : ∃ M, min v1 v2 = M := ⟨_, rfl⟩
      obtain ⟨M2, hM2⟩ : ∃ M, max v1 v2 = M := ⟨_, rfl⟩
      have hMb : 0 ≤ M1 ∧ M1 ≤ M2 ∧ M2 < x.pl.length := by omega
      have hE8 := hE6.out M1 M2 hMb.1 hMb.2.1 hMb.2.2
      have ct := fun W (y : Below W7.heap.size W7 W) => Toll_any pa cca ls pg ccg gl x k f M1 M2 W (hlim7.on y) (hvA.on y) (hvG.on y) (hxA.on y)
      rw [hE8] at ct
      have ch : Hid (∀ i : Nat, M1 + i ≤ M2 → ∃ hv : Int, (minsV (tollsV ls gl x k f M1 M2) ≤ hv ∧ hv ≤ maxsV (tollsV ls gl x k f M1 M2)) ∧ ∀ W, Below W7.heap.size W7 W → Calls Tryd.prog 35 #[.slice pa ls.length cca, .slice pg gl.length ccg, x.val, .int .i64 nE, .int .i64 eE, .int .i64 (M1 + i)] W (Gives (.tuple #[.int .i64 hv, .int .i64 0]) W)) := Go.Lib.hid (fun i hi => by
        obtain ⟨u, hu, u1, u2, u3⟩ := hstone.out
        have hu2 := hbk2.out u hu
        have e := harmsE_of (lays_ok tA) hsE hu2.l0 hu2.l1 (show 0 ≤ M1 + i by omega) (by omega)
        refine ⟨harmsV ls.length gl x u.a eE (M1 + i), toll_in hE8 (by rw [hBL]; exact hu) u2 u3 (by omega) hi, fun W y => ?_⟩
        have h9 := Harms_any pa cca ls pg ccg gl x u.a eE (M1 + i) W (hvA.on y) (hvG.on y) (hxA.on y)
        rw [harmsA_of e, e, u1] at h9
        rw [u1]
        exact h9)
      generalize minsV (tollsV ls gl x k f M1 M2) = E1 at *
      generalize maxsV (tollsV ls gl x k f M1 M2) = E2 at *
      clear hoA hoG hoL hvA hvG hxA hE6 hE7 hE8 hbk2 hstone hBL hbE hsE tA tG hin hs hof hxok hok hB7 hR6 a0 hBw6 hlim6
      unfold LandR.val RockR.val FallR.val at *
      have lX := row_lt rX
      have lK := row_lt rk
      have lf := row_lt rf
      have a0 : W7.cell? ⟨XB, 0, none⟩ = some (.slice x.pp x.pl.length x.pc) := (cell_of_row W7 _ 0 _ _ _ rX).trans rfl
      have a1 : W7.cell? ⟨XB, 1, none⟩ = some (.slice x.wp x.wl.length x.wc) := (cell_of_row W7 _ 1 _ _ _ rX).trans rfl
      have c0 : W7.cell? ⟨KB, 0, none⟩ = some (.int .i64 k.size.x) := (cell_of_row W7 _ 0 _ _ _ rk).trans rfl
      have c1 : W7.cell? ⟨KB, 1, none⟩ = some (.int .i64 k.size.y) := (cell_of_row W7 _ 1 _ _ _ rk).trans rfl
      have c2 : W7.cell? ⟨KB, 2, none⟩ = some (.int .i64 k.dens.x) := (cell_of_row W7 _ 2 _ _ _ rk).trans rfl
      have c3 : W7.cell? ⟨KB, 3, none⟩ = some (.int .i64 k.dens.y) := (cell_of_row W7 _ 3 _ _ _ rk).trans rfl
      have c4 : W7.cell? ⟨KB, 4, none⟩ = some (.int .i64 k.strong.x) := (cell_of_row W7 _ 4 _ _ _ rk).trans rfl
      have c5 : W7.cell? ⟨KB, 5, none⟩ = some (.int .i64 k.strong.y) := (cell_of_row W7 _ 5 _ _ _ rk).trans rfl
      have c6 : W7.cell? ⟨KB, 6, none⟩ = some (.int .i64 k.spin.x) := (cell_of_row W7 _ 6 _ _ _ rk).trans rfl
      have c7 : W7.cell? ⟨KB, 7, none⟩ = some (.int .i64 k.spin.y) := (cell_of_row W7 _ 7 _ _ _ rk).trans rfl
      have c8 : W7.cell? ⟨KB, 8, none⟩ = some (.int .i64 k.shape.x) := (cell_of_row W7 _ 8 _ _ _ rk).trans rfl
      have c9 : W7.cell? ⟨KB, 9, none⟩ = some (.int .i64 k.shape.y) := (cell_of_row W7 _ 9 _ _ _ rk).trans rfl
      have c10 : W7.cell? ⟨KB, 10, none⟩ = some (.bool k.pile) := (cell_of_row W7 _ 10 _ _ _ rk).trans rfl
      have d0 : W7.cell? ⟨KB + 1, 0, none⟩ = some (.int .i64 f.speed.x) := (cell_of_row W7 _ 0 _ _ _ rf).trans rfl
      have d1 : W7.cell? ⟨KB + 1, 1, none⟩ = some (.int .i64 f.speed.y) := (cell_of_row W7 _ 1 _ _ _ rf).trans rfl
      have d2 : W7.cell? ⟨KB + 1, 2, none⟩ = some (.int .i64 f.slope.x) := (cell_of_row W7 _ 2 _ _ _ rf).trans rfl
      have d3 : W7.cell? ⟨KB + 1, 3, none⟩ = some (.int .i64 f.slope.y) := (cell_of_row W7 _ 3 _ _ _ rf).trans rfl
      go_upto_region 18 with (first | ((first | with_reducible refine wrx2 ?_ | with_reducible refine wrx ?_); (repeat (first | go_big_quiet_step ((first | (go_at_call 16; with_reducible exact Calls.ext (ct _ bcl)))) | quiet_step ((first | (go_at_call 16; with_reducible exact Calls.ext (ct _ bcl)))))); refine wpQuiet_nil ?_; rintro _ ⟨yr, rfl⟩; have syr := Ext.size yr; (repeat (first | rw [World.size_alloc] at syr | rw [World.size_setCell] at syr | rw [World.size_drew] at syr)); have : XB < yr.now.heap.size := (by omega); have : XB ≤ yr.now.heap.size := (by omega); have : XB < yr.now.heap.size + 1 + 1 := (by omega); have : KB < yr.now.heap.size := (by omega); have : KB ≤ yr.now.heap.size := (by omega); have : KB < yr.now.heap.size + 1 + 1 := (by omega); have : KB + 1 < yr.now.heap.size := (by omega); have : KB + 1 ≤ yr.now.heap.size := (by omega); have : KB + 1 < yr.now.heap.size + 1 + 1 := (by omega)) | (go_at_call 16; (first | with_reducible refine (Calls.giv2 (ct _ bcl)).mono ?_ | with_reducible refine (Calls.giv (ct _ bcl)).mono ?_); rintro _ _ ⟨y1, rfl, rfl⟩; have sy1 := Ext.size y1; (repeat (first | rw [World.size_alloc] at sy1 | rw [World.size_setCell] at sy1 | rw [World.size_drew] at sy1)); have : XB < y1.now.heap.size := (by omega); have : XB ≤ y1.now.heap.size := (by omega); have : XB < y1.now.heap.size + 1 + 1 := (by omega); have : KB < y1.now.heap.size := (by omega); have : KB ≤ y1.now.heap.size := (by omega); have : KB < y1.now.heap.size + 1 + 1 := (by omega); have : KB + 1 < y1.now.heap.size := (by omega); have : KB + 1 ≤ y1.now.heap.size := (by omega); have : KB + 1 < y1.now.heap.size + 1 + 1 := (by omega)))
      refine wp_named (fun W8 hW => ?_)
      have rT : W8.heap[y1.now.heap.size]? = some (.cells #[.int .i64 E1, .int .i64 E2] 29 (0, 0)) := by rw [← hW]; exact heap_alloc_new _ _
      have hB8 : Below W7.heap.size W7 W8 := by rw [← hW]; exact y1.grew.alloc y1.size _
      clear hW
      generalize y1.now.heap.size = TB at *
      have t0 : W8.cell? ⟨TB, 0, none⟩ = some (.int .i64 E1) := (cell_of_row W8 _ 0 _ _ _ rT).trans rfl
      have t1 : W8.cell? ⟨TB, 1, none⟩ = some (.int .i64 E2) := (cell_of_row W8 _ 1 _ _ _ rT).trans rfl
      replace rX := (hB8.block XB lX).trans rX
      clear a0 a1 c0 c1 c2 c3 c4 c5 c6 c7 c8 c9 c10 d0 d1 d2 d3 ct lX lK lf rk rf
      have a0 : W8.cell? ⟨XB, 0, none⟩ = some (.slice x.pp x.pl.length x.pc) := (cell_of_row W8 _ 0 _ _ _ rX).trans rfl
      have a1 : W8.cell? ⟨XB, 1, none⟩ = some (.slice x.wp x.wl.length x.wc) := (cell_of_row W8 _ 1 _ _ _ rX).trans rfl
      have lX := row_lt rX
      have lT := row_lt rT
      have hlim8 : LimAt W8 := hlim7.on hB8
      have hBw8 : Below w.heap.size w W8 := hBw7.trans (hB8.mono hBw7.size)
      have s78 := hB8.size
      clear rX rT hlim7 hBw7
      replace hBw8 := Go.Lib.hid hBw8
      replace hB8 := Go.Lib.hid hB8
      generalize x.pl.length = n2 at *
      generalize x.wl.length = n3 at *
      go_upto_region 19 with (first | ((first | with_reducible refine wrx2 ?_ | with_reducible refine wrx ?_); (repeat (first | go_big_quiet_step ((first | fail)) | quiet_step ((first | fail)))); refine wpQuiet_nil ?_; rintro _ ⟨yr, rfl⟩; have syr := Ext.size yr; (repeat (first | rw [World.size_alloc] at syr | rw [World.size_setCell] at syr | rw [World.size_drew] at syr)); have : XB < yr.now.heap.size := (by omega); have : XB ≤ yr.now.heap.size := (by omega); have : XB < yr.now.heap.size + 1 + 1 := (by omega); have : TB < yr.now.heap.size := (by omega); have : TB ≤ yr.now.heap.size := (by omega); have : TB < yr.now.heap.size + 1 + 1 := (by omega)))
      go_loopw [20] (fun s W => ∃ (i : Nat) (z : Ext W8), s = .int .i64 (M1 + i) ∧ W = z.now ∧ M1 + i ≤ M2 + 1) (fun s _ => (M2 + 1 - intOf s).toNat)
      case atStart => exact ⟨0, ⟨W8, Below.refl _ _⟩, by simp, rfl, by omega⟩
      case round =>
        obtain ⟨i, z, rfl, rfl, hi⟩ := hrel
        have zs := z.size
        by_cases hlt : M1 + (i : Int) ≤ M2
        · obtain ⟨hv, ⟨h1, h2⟩, cH⟩ := ch.out i hlt
          have c5 := fun (W : World) (k : Below W8.heap.size W8 W) => cH W (hB8.out.trans (k.mono s78))
          have ci := fun W => inSpan_any E1 E2 hv W
          rw [decide_eq_true ⟨h1, h2⟩] at ci
          have hi2 : M1 + (i : Int) ≤ 15 := by omega
          have lXz : XB < z.now.heap.size := by omega
          have lTz : TB < z.now.heap.size := by omega
          clear cH
          go_wp2_with (first | ((first | with_reducible refine wrx2 ?_ | with_reducible refine wrx ?_); (repeat (first | go_big_quiet_step ((first | (go_at_call 35; with_reducible exact Calls.ext (c5 _ bcl)) | (go_at_call 38; with_reducible exact Calls.ext (ci _)))) | quiet_step ((first | (go_at_call 35; with_reducible exact Calls.ext (c5 _ bcl)) | (go_at_call 38; with_reducible exact Calls.ext (ci _)))))); refine wpQuiet_nil ?_; rintro _ ⟨yr, rfl⟩; have syr := Ext.size yr; (repeat (first | rw [World.size_alloc] at syr | rw [World.size_setCell] at syr | rw [World.size_drew] at syr)); have : XB < yr.now.heap.size := (by omega); have : XB ≤ yr.now.heap.size := (by omega); have : XB < yr.now.heap.size + 1 + 1 := (by omega); have : TB < yr.now.heap.size := (by omega); have : TB ≤ yr.now.heap.size := (by omega); have : TB < yr.now.heap.size + 1 + 1 := (by omega)) | (go_at_call 35; (first | with_reducible refine (Calls.giv2 (c5 _ bcl)).mono ?_ | with_reducible refine (Calls.giv (c5 _ bcl)).mono ?_); rintro _ _ ⟨y1, rfl, rfl⟩; have sy1 := Ext.size y1; (repeat (first | rw [World.size_alloc] at sy1 | rw [World.size_setCell] at sy1 | rw [World.size_drew] at sy1)); have : XB < y1.now.heap.size := (by omega); have : XB ≤ y1.now.heap.size := (by omega); have : XB < y1.now.heap.size + 1 + 1 := (by omega); have : TB < y1.now.heap.size := (by omega); have : TB ≤ y1.now.heap.size := (by omega); have : TB < y1.now.heap.size + 1 + 1 := (by omega)) | (go_at_call 38; (first | with_reducible refine (Calls.giv2 (ci _)).mono ?_ | with_reducible refine (Calls.giv (ci _)).mono ?_); rintro _ _ ⟨y2, rfl, rfl⟩; have sy2 := Ext.size y2; (repeat (first | rw [World.size_alloc] at sy2 | rw [World.size_setCell] at sy2 | rw [World.size_drew] at sy2)); have : XB < y2.now.heap.size := (by omega); have : XB ≤ y2.now.heap.size := (by omega); have : XB < y2.now.heap.size + 1 + 1 := (by omega); have : TB < y2.now.heap.size := (by omega); have : TB ≤ y2.now.heap.size := (by omega); have : TB < y2.now.heap.size + 1 + 1 := (by omega)))
          exact ⟨⟨i + 1, ⟨_, by repeat' (first | (with_reducible exact Below.refl _ _) | (with_reducible assumption) | (with_reducible refine Ext.below _ ?_ ?_) | (with_reducible refine Below.on ?_ (by with_reducible assumption) ?_) | (with_reducible refine Below.alloc ?_ ?_ _) | (with_reducible refine Below.drew ?_) | (with_reducible refine Below.setCell ?_ ?_ _) | (with_reducible exact Nat.le_refl _) | omega | (simp; done) | (simp [go_sem]; done) | (simp at *; omega))⟩, by simp; omega, rfl, by omega⟩, by simp [intOf]; omega⟩
        · have hge : ¬ M1 + (i : Int) ≤ M2 := hlt
          have hlim := hlim8
          go_wp2_with (first | ((first | with_reducible refine wrx2 ?_ | with_reducible refine wrx ?_); (repeat (first | go_big_quiet_step ((first | (go_at_call 9; with_reducible exact Calls.ext (ca _ (by repeat (first | exact hlim | (with_reducible refine LimAt.ext ?_ _) | (with_reducible refine LimAt.alloc ?_ _) | (with_reducible refine LimAt.drew ?_) | (with_reducible refine LimAt.rext ?_ (by omega) _) | (with_reducible refine LimAt.set ?_ (by omega) _))))))) | quiet_step ((first | (go_at_call 9; with_reducible exact Calls.ext (ca _ (by repeat (first | exact hlim | (with_reducible refine LimAt.ext ?_ _) | (with_reducible refine LimAt.alloc ?_ _) | (with_reducible refine LimAt.drew ?_) | (with_reducible refine LimAt.rext ?_ (by omega) _) | (with_reducible refine LimAt.set ?_ (by omega) _))))))))); refine wpQuiet_nil ?_; rintro _ ⟨yr, rfl⟩; have syr := Ext.size yr; (repeat (first | rw [World.size_alloc] at syr | rw [World.size_setCell] at syr | rw [World.size_drew] at syr))) | (go_at_call 9; (first | with_reducible refine (Calls.giv2 (ca _ (by repeat (first | exact hlim | (with_reducible refine LimAt.ext ?_ _) | (with_reducible refine LimAt.alloc ?_ _) | (with_reducible refine LimAt.drew ?_) | (with_reducible refine LimAt.rext ?_ (by omega) _) | (with_reducible refine LimAt.set ?_ (by omega) _))))).mono ?_ | with_reducible refine (Calls.giv (ca _ (by repeat (first | exact hlim | (with_reducible refine LimAt.ext ?_ _) | (with_reducible refine LimAt.alloc ?_ _) | (with_reducible refine LimAt.drew ?_) | (with_reducible refine LimAt.rext ?_ (by omega) _) | (with_reducible refine LimAt.set ?_ (by omega) _))))).mono ?_); rintro _ _ ⟨y1, rfl, rfl⟩; have sy1 := Ext.size y1; (repeat (first | rw [World.size_alloc] at sy1 | rw [World.size_setCell] at sy1 | rw [World.size_drew] at sy1))))
          go_returns
          refine ⟨rfl, ?_⟩
          have hBw := hBw8.out
          have sBw := hBw.size
          repeat' (first | (with_reducible exact Below.refl _ _) | (with_reducible assumption) | (with_reducible refine Ext.below _ ?_ ?_) | (with_reducible refine Below.on ?_ (by with_reducible assumption) ?_) | (with_reducible refine Below.alloc ?_ ?_ _) | (with_reducible refine Below.drew ?_) | (with_reducible refine Below.setCell ?_ ?_ _) | (with_reducible exact Nat.le_refl _) | omega | (simp; done) | (simp [go_sem]; done) | (simp at *; omega))
end Go.Proofs.YtlmhbggigbmeaaaDoor

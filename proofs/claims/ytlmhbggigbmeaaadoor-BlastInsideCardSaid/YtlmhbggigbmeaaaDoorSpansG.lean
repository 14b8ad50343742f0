/- The table of the numbers that a stone may have, as the rows lay it, read as cells. Condition: the row's own. Contracts of package span's plain functions: what is in a span, hulls, what two have in common, halves. No condition. -/
import Derived.Test.YtlmhbggigbmeaaaDoorBlMG
import Derived.Test.YtlmhbggigbmeaaaDoorLawListG
import Derived.Test.YtlmhbggigbmeaaaDoorTie
import Derived.LaidHandle
import Derived.LaidLaws
import Derived.Test.YtlmhbggigbmeaaaDoorArea
import Derived.RegionTactic
import Derived.BigRegion
namespace Go.Proofs.YtlmhbggigbmeaaaDoor
open Go.ChangeShapes Go.WideShapes Go.ChangeAt Go.RowKit Go.Joins
def limL : List Int := [1, 1000, 1, 9000, 0, 1099511627776, 0, 1000, 500, 2000, 1, 8000, 1, 1000]
/-- The table stands where it was laid. -/
structure LimAt (W : World) : Prop where
  lt : 0 < W.heap.size
  cell : ∀ i, i < 14 → W.cell? ⟨0, i, none⟩ = some (.int .i64 (limL.getD i 0))
theorem LimAt.on {W W' : World} (h : LimAt W) (b : Below W.heap.size W W') : LimAt W' := ⟨Nat.lt_of_lt_of_le h.lt b.size, fun i hi => (b.cell (p := ⟨0, i, none⟩) h.lt).trans (h.cell i hi)⟩
theorem LimAt.ext {W : World} (h : LimAt W) (x : Ext W) : LimAt x.now := h.on x.grew
theorem LimAt.rext {W : World} {b : Nat} (h : LimAt W) (hb : 0 ≠ b) (x : RExt W b) : LimAt x.now := ⟨Nat.lt_of_lt_of_le h.lt x.size, fun i hi => (x.cell h.lt hb).trans (h.cell i hi)⟩
theorem LimAt.alloc {W : World} (h : LimAt W) (o : Obj) : LimAt (W.alloc o) := h.on ((Below.refl _ _).alloc (Nat.le_refl _) _)
theorem LimAt.drew {W : World} (h : LimAt W) : LimAt W.drew := h.on (Below.refl _ _).drew
theorem LimAt.set {W : World} {B o : Nat} (h : LimAt W) (hb : 0 < B) (v : Value) : LimAt (W.setCell ⟨B, o, none⟩ v) := by
  exact ⟨by simpa using h.lt, fun i hi => by have := h.cell i hi; simp [go_sem, this]⟩
/-- A struct's parts, each by its type and place. -/
theorem struct_parts {H : Type} {enc : TypeId × Value → H} {P : Program} {w : World} {base n : Nat} {sp : Nat → Bool} {held : Bool} {t : TypeId} {fs : Array Field} {cs : List Value} {x : DataW H × List MemPlace} (ht : P.underlying t = some (.struct fs)) (h : DataW.trod enc P w base sp held n t cs = some x) :
    ∃ (xs : List (DataW H × List MemPlace)) (m : Nat), x.1 = .agg (xs.map (·.1)) ∧ cs.length = P.cellsOf t ∧ xs.length = fs.size ∧
      ∀ (j : Nat) (T : TypeId) (o k : Nat), (fs[j]?).map (fun f => (f.type, f.offset)) = some (T, o) → P.cellsOf T = k → DataW.trod enc P w base sp held m T ((cs.drop o).take k) = xs[j]? := by
  obtain ⟨xs, m, _, hx, hlen, hxl, hf⟩ := DataW.trod_struct ht h
  refine ⟨xs, m, by rw [hx], hlen, hxl, fun j T o k hj hk => ?_⟩
  cases hfj : fs[j]? with
  | none => rw [hfj] at hj; cases hj
  | some f =>
    rw [hfj] at hj
    simp only [Option.map_some, Option.some.injEq, Prod.mk.injEq] at hj
    obtain ⟨rfl, rfl⟩ := hj
    subst hk
    exact hf j f hfj
theorem span_of_trod {H : Type} {enc : TypeId × Value → H} {w : World} {base n : Nat} {sp : Nat → Bool} {held : Bool} {cs : List Value} {x : DataW H × List MemPlace} (h : DataW.trod enc Tryd.prog w base sp held n 29 cs = some x) :
    ∃ a b : Int, cs = [.int .i64 a, .int .i64 b] ∧ x.1 = .agg [.lit (.int .i64 a), .lit (.int .i64 b)] := by
  obtain ⟨xs, m, hx, hlen, hxl, hf⟩ := struct_parts Tryd.underlying29 h
  have hl : cs.length = 2 := hlen.trans (by kernel_rfl)
  have h0 := hf 0 2 0 1 (by kernel_rfl) (by kernel_rfl)
  have h1 := hf 1 2 1 1 (by kernel_rfl) (by kernel_rfl)
  have hxl2 : xs.length = 2 := hxl
  match cs, hl with
  | [u, v], _ =>
    match xs, hxl2 with
    | [x0, x1], _ =>
      simp only [List.drop_zero, List.drop_succ_cons, List.take_succ_cons, List.take_zero, List.getElem?_cons_zero, List.getElem?_cons_succ] at h0 h1
      obtain ⟨a, e1, e2, _⟩ := DataW.trod_int Tryd.underlying2 h0
      obtain ⟨b, e3, e4, _⟩ := DataW.trod_int Tryd.underlying2 h1
      simp only [List.cons.injEq, and_true] at e1 e3
      refine ⟨a, b, by rw [e1, e3], ?_⟩
      rw [hx, e2, e4]
      rfl
set_option maxRecDepth 100000 in
theorem lim_of_laid {W : World} (h : laidMetH Tryd.prog [("bolide/blast.limits", Rows.laid_bolide_blast_limits)] W) : LimAt W := by
  have h' : laidMet Tryd.prog [("bolide/blast.limits", Rows.laid_bolide_blast_limits)] W := h
  obtain ⟨ps, ⟨g, t, cs, fuel, p, q, hg, ht, hv, hd, _⟩, _⟩ := h'
  obtain rfl := Option.some.inj ((show Tryd.prog.globalNamed "bolide/blast.limits" = some 0 by kernel_rfl).symm.trans hg)
  obtain rfl := Option.some.inj ((show (Tryd.prog.globals[0]?).map (·.type) = some 119 by kernel_rfl).symm.trans ht)
  obtain ⟨xs, m, _, hx, hlen, hxl, hel⟩ := DataW.trod_array Tryd.underlying119 hd
  have hl : cs.toList.length = 14 := hlen.trans (by kernel_rfl)
  have c2 : Tryd.prog.cellsOf 29 = 2 := by kernel_rfl
  obtain ⟨l⟩ := cs
  have hcell := fun off => World.var?_cell hg hv off
  match l, hl with
  | [c0, c1, c2', c3, c4, c5, c6, c7, c8, c9, c10, c11, c12, c13], _ =>
    match xs, hxl with
    | [x0, x1, x2, x3, x4, x5, x6], _ =>
      have k0 := hel 0 (by decide)
      have k1 := hel 1 (by decide)
      have k2 := hel 2 (by decide)
      have k3 := hel 3 (by decide)
      have k4 := hel 4 (by decide)
      have k5 := hel 5 (by decide)
      have k6 := hel 6 (by decide)
      simp only [c2, Nat.reduceMul, List.drop_zero, List.drop_succ_cons, List.take_succ_cons, List.take_zero, List.getElem?_cons_zero, List.getElem?_cons_succ] at k0 k1 k2 k3 k4 k5 k6
      obtain ⟨a0, b0, e0, f0⟩ := span_of_trod k0
      obtain ⟨a1, b1, e1, f1⟩ := span_of_trod k1
      obtain ⟨a2, b2, e2, f2⟩ := span_of_trod k2
      obtain ⟨a3, b3, e3, f3⟩ := span_of_trod k3
      obtain ⟨a4, b4, e4, f4⟩ := span_of_trod k4
      obtain ⟨a5, b5, e5, f5⟩ := span_of_trod k5
      obtain ⟨a6, b6, e6, f6⟩ := span_of_trod k6
      simp only [List.map_cons, List.map_nil, f0, f1, f2, f3, f4, f5, f6, Rows.laid_bolide_blast_limits, Prod.mk.injEq, DataW.agg.injEq, List.cons.injEq, DataW.lit.injEq, Lit.int.injEq, and_true, true_and] at hx
      simp only [List.cons.injEq, and_true] at e0 e1 e2 e3 e4 e5 e6
      refine ⟨World.block_lt_of_cell? W ⟨0, 0, none⟩ (hcell 0), fun i hi => ?_⟩
      rw [hcell i]
      rcases (show i = 0 ∨ i = 1 ∨ i = 2 ∨ i = 3 ∨ i = 4 ∨ i = 5 ∨ i = 6 ∨ i = 7 ∨ i = 8 ∨ i = 9 ∨ i = 10 ∨ i = 11 ∨ i = 12 ∨ i = 13 by omega) with rfl | rfl | rfl | rfl | rfl | rfl | rfl | rfl | rfl | rfl | rfl | rfl | rfl | rfl <;> simp [limL, *] <;> omega
end Go.Proofs.YtlmhbggigbmeaaaDoor
namespace Go.Proofs.YtlmhbggigbmeaaaDoor
open Go.RowKit Go.Shelf
attribute [local go_sem] Ext.cell Ext.frozen Ext.lt Ext.le Ext.lt_add Ext.le_add Ext.ne Ext.ne' lt2 lt3 lt4 lt5 le2 le3 le4
def inB (a b n : Int) : Bool := chk a b == 0 && decide (a ≤ n) && decide (n ≤ b)
theorem In_any (a b n : Int) (w : World) : Calls Tryd.prog 67 #[.agg #[.int .i64 a, .int .i64 b], .int .i64 n] w (Gives (.bool (inB a b n)) w) := by
  unfold inB
  cases h : (chk a b == 0)
  · simp only [Bool.false_and]
    go_enter Tryd.func67, Tryd.ntmps67
    go_wp2_with (first | ((first | with_reducible refine wrx2 ?_ | with_reducible refine wrx ?_); (repeat (first | go_big_quiet_step ((first | (go_at_call 87; with_reducible exact Calls.ext (Check_any _ _ _)))) | quiet_step ((first | (go_at_call 87; with_reducible exact Calls.ext (Check_any _ _ _)))))); refine wpQuiet_nil ?_; rintro _ ⟨yr, rfl⟩; have syr := Ext.size yr; (repeat (first | rw [World.size_alloc] at syr | rw [World.size_setCell] at syr | rw [World.size_drew] at syr))) | (go_at_call 87; (first | with_reducible refine (Calls.giv2 (Check_any _ _ _)).mono ?_ | with_reducible refine (Calls.giv (Check_any _ _ _)).mono ?_); rintro _ _ ⟨y1, rfl, rfl⟩; have sy1 := Ext.size y1; (repeat (first | rw [World.size_alloc] at sy1 | rw [World.size_setCell] at sy1 | rw [World.size_drew] at sy1))))
    go_returns
    refine ⟨rfl, ?_⟩
    repeat' (first | (with_reducible exact Below.refl _ _) | (with_reducible assumption) | (with_reducible refine Ext.below _ ?_ ?_) | (with_reducible refine Below.on ?_ (by with_reducible assumption) ?_) | (with_reducible refine Below.alloc ?_ ?_ _) | (with_reducible refine Below.drew ?_) | (with_reducible refine Below.setCell ?_ ?_ _) | (with_reducible exact Nat.le_refl _) | omega | (simp; done) | (simp [go_sem]; done) | (simp at *; omega))
  · cases h2 : decide (a ≤ n)
    all_goals
      simp only [Bool.true_and, Bool.and_false, Bool.false_and, Bool.and_self]
      go_enter Tryd.func67, Tryd.ntmps67
      go_wp2_with (first | ((first | with_reducible refine wrx2 ?_ | with_reducible refine wrx ?_); (repeat (first | go_big_quiet_step ((first | (go_at_call 87; with_reducible exact Calls.ext (Check_any _ _ _)))) | quiet_step ((first | (go_at_call 87; with_reducible exact Calls.ext (Check_any _ _ _)))))); refine wpQuiet_nil ?_; rintro _ ⟨yr, rfl⟩; have syr := Ext.size yr; (repeat (first | rw [World.size_alloc] at syr | rw [World.size_setCell] at syr | rw [World.size_drew] at syr))) | (go_at_call 87; (first | with_reducible refine (Calls.giv2 (Check_any _ _ _)).mono ?_ | with_reducible refine (Calls.giv (Check_any _ _ _)).mono ?_); rintro _ _ ⟨y1, rfl, rfl⟩; have sy1 := Ext.size y1; (repeat (first | rw [World.size_alloc] at sy1 | rw [World.size_setCell] at sy1 | rw [World.size_drew] at sy1))))
      go_returns
      refine ⟨rfl, ?_⟩
      repeat' (first | (with_reducible exact Below.refl _ _) | (with_reducible assumption) | (with_reducible refine Ext.below _ ?_ ?_) | (with_reducible refine Below.on ?_ (by with_reducible assumption) ?_) | (with_reducible refine Below.alloc ?_ ?_ _) | (with_reducible refine Below.drew ?_) | (with_reducible refine Below.setCell ?_ ?_ _) | (with_reducible exact Nat.le_refl _) | omega | (simp; done) | (simp [go_sem]; done) | (simp at *; omega))
def insideB (a b c d : Int) : Bool := chkB a b c d == 0 && decide (c ≤ a) && decide (b ≤ d)
theorem Inside_any (a b c d : Int) (w : World) : Calls Tryd.prog 78 #[.agg #[.int .i64 a, .int .i64 b], .agg #[.int .i64 c, .int .i64 d]] w (Gives (.bool (insideB a b c d)) w) := by
  unfold insideB
  cases h : (chkB a b c d == 0)
  · simp only [Bool.false_and]
    go_enter Tryd.func78, Tryd.ntmps78
    go_wp2_with (first | ((first | with_reducible refine wrx2 ?_ | with_reducible refine wrx ?_); (repeat (first | go_big_quiet_step ((first | (go_at_call 70; with_reducible exact Calls.ext (checkBoth_any _ _ _ _ _)))) | quiet_step ((first | (go_at_call 70; with_reducible exact Calls.ext (checkBoth_any _ _ _ _ _)))))); refine wpQuiet_nil ?_; rintro _ ⟨yr, rfl⟩; have syr := Ext.size yr; (repeat (first | rw [World.size_alloc] at syr | rw [World.size_setCell] at syr | rw [World.size_drew] at syr))) | (go_at_call 70; (first | with_reducible refine (Calls.giv2 (checkBoth_any _ _ _ _ _)).mono ?_ | with_reducible refine (Calls.giv (checkBoth_any _ _ _ _ _)).mono ?_); rintro _ _ ⟨y1, rfl, rfl⟩; have sy1 := Ext.size y1; (repeat (first | rw [World.size_alloc] at sy1 | rw [World.size_setCell] at sy1 | rw [World.size_drew] at sy1))))
    go_returns
    refine ⟨rfl, ?_⟩
    repeat' (first | (with_reducible exact Below.refl _ _) | (with_reducible assumption) | (with_reducible refine Ext.below _ ?_ ?_) | (with_reducible refine Below.on ?_ (by with_reducible assumption) ?_) | (with_reducible refine Below.alloc ?_ ?_ _) | (with_reducible refine Below.drew ?_) | (with_reducible refine Below.setCell ?_ ?_ _) | (with_reducible exact Nat.le_refl _) | omega | (simp; done) | (simp [go_sem]; done) | (simp at *; omega))
  · cases h2 : decide (c ≤ a)
    all_goals
      simp only [Bool.true_and, Bool.and_false, Bool.false_and, Bool.and_self]
      go_enter Tryd.func78, Tryd.ntmps78
      go_wp2_with (first | ((first | with_reducible refine wrx2 ?_ | with_reducible refine wrx ?_); (repeat (first | go_big_quiet_step ((first | (go_at_call 70; with_reducible exact Calls.ext (checkBoth_any _ _ _ _ _)))) | quiet_step ((first | (go_at_call 70; with_reducible exact Calls.ext (checkBoth_any _ _ _ _ _)))))); refine wpQuiet_nil ?_; rintro _ ⟨yr, rfl⟩; have syr := Ext.size yr; (repeat (first | rw [World.size_alloc] at syr | rw [World.size_setCell] at syr | rw [World.size_drew] at syr))) | (go_at_call 70; (first | with_reducible refine (Calls.giv2 (checkBoth_any _ _ _ _ _)).mono ?_ | with_reducible refine (Calls.giv (checkBoth_any _ _ _ _ _)).mono ?_); rintro _ _ ⟨y1, rfl, rfl⟩; have sy1 := Ext.size y1; (repeat (first | rw [World.size_alloc] at sy1 | rw [World.size_setCell] at sy1 | rw [World.size_drew] at sy1))))
      go_returns
      refine ⟨rfl, ?_⟩
      repeat' (first | (with_reducible exact Below.refl _ _) | (with_reducible assumption) | (with_reducible refine Ext.below _ ?_ ?_) | (with_reducible refine Below.on ?_ (by with_reducible assumption) ?_) | (with_reducible refine Below.alloc ?_ ?_ _) | (with_reducible refine Below.drew ?_) | (with_reducible refine Below.setCell ?_ ?_ _) | (with_reducible exact Nat.le_refl _) | omega | (simp; done) | (simp [go_sem]; done) | (simp at *; omega))
def hullL (a b c d : Int) : Int := if chkB a b c d = 0 then min a c else 0
def hullH (a b c d : Int) : Int := if chkB a b c d = 0 then max b d else 0
theorem Hull_any (a b c d : Int) (w : World) : Calls Tryd.prog 45 #[.agg #[.int .i64 a, .int .i64 b], .agg #[.int .i64 c, .int .i64 d]] w (Gives (.agg #[.int .i64 (hullL a b c d), .int .i64 (hullH a b c d)]) w) := by
  unfold hullL hullH
  by_cases h : chkB a b c d = 0
  · rw [if_pos h, if_pos h]
    go_enter Tryd.func45, Tryd.ntmps45
    go_wp2_with (first | ((first | with_reducible refine wrx2 ?_ | with_reducible refine wrx ?_); (repeat (first | go_big_quiet_step ((first | (go_at_call 70; with_reducible exact Calls.ext (checkBoth_any _ _ _ _ _)))) | quiet_step ((first | (go_at_call 70; with_reducible exact Calls.ext (checkBoth_any _ _ _ _ _)))))); refine wpQuiet_nil ?_; rintro _ ⟨yr, rfl⟩; have syr := Ext.size yr; (repeat (first | rw [World.size_alloc] at syr | rw [World.size_setCell] at syr | rw [World.size_drew] at syr)); have : w.heap.size < yr.now.heap.size := (by omega); have : w.heap.size ≤ yr.now.heap.size := (by omega); have : w.heap.size < yr.now.heap.size + 1 + 1 := (by omega); have : w.heap.size + 1 < yr.now.heap.size := (by omega); have : w.heap.size + 1 ≤ yr.now.heap.size := (by omega); have : w.heap.size + 1 < yr.now.heap.size + 1 + 1 := (by omega); have : w.heap.size + 1 + 1 < yr.now.heap.size := (by omega); have : w.heap.size + 1 + 1 ≤ yr.now.heap.size := (by omega); have : w.heap.size + 1 + 1 < yr.now.heap.size + 1 + 1 := (by omega)) | (go_at_call 70; (first | with_reducible refine (Calls.giv2 (checkBoth_any _ _ _ _ _)).mono ?_ | with_reducible refine (Calls.giv (checkBoth_any _ _ _ _ _)).mono ?_); rintro _ _ ⟨y1, rfl, rfl⟩; have sy1 := Ext.size y1; (repeat (first | rw [World.size_alloc] at sy1 | rw [World.size_setCell] at sy1 | rw [World.size_drew] at sy1)); have : w.heap.size < y1.now.heap.size := (by omega); have : w.heap.size ≤ y1.now.heap.size := (by omega); have : w.heap.size < y1.now.heap.size + 1 + 1 := (by omega); have : w.heap.size + 1 < y1.now.heap.size := (by omega); have : w.heap.size + 1 ≤ y1.now.heap.size := (by omega); have : w.heap.size + 1 < y1.now.heap.size + 1 + 1 := (by omega); have : w.heap.size + 1 + 1 < y1.now.heap.size := (by omega); have : w.heap.size + 1 + 1 ≤ y1.now.heap.size := (by omega); have : w.heap.size + 1 + 1 < y1.now.heap.size + 1 + 1 := (by omega)))
    go_returns
    refine ⟨rfl, ?_⟩
    repeat' (first | (with_reducible exact Below.refl _ _) | (with_reducible assumption) | (with_reducible refine Ext.below _ ?_ ?_) | (with_reducible refine Below.on ?_ (by with_reducible assumption) ?_) | (with_reducible refine Below.alloc ?_ ?_ _) | (with_reducible refine Below.drew ?_) | (with_reducible refine Below.setCell ?_ ?_ _) | (with_reducible exact Nat.le_refl _) | omega | (simp; done) | (simp [go_sem]; done) | (simp at *; omega))
  · rw [if_neg h, if_neg h]
    have h' : (chkB a b c d != 0) = true := by simpa using h
    go_enter Tryd.func45, Tryd.ntmps45
    go_wp2_with (first | ((first | with_reducible refine wrx2 ?_ | with_reducible refine wrx ?_); (repeat (first | go_big_quiet_step ((first | (go_at_call 70; with_reducible exact Calls.ext (checkBoth_any _ _ _ _ _)))) | quiet_step ((first | (go_at_call 70; with_reducible exact Calls.ext (checkBoth_any _ _ _ _ _)))))); refine wpQuiet_nil ?_; rintro _ ⟨yr, rfl⟩; have syr := Ext.size yr; (repeat (first | rw [World.size_alloc] at syr | rw [World.size_setCell] at syr | rw [World.size_drew] at syr)); have : w.heap.size < yr.now.heap.size := (by omega); have : w.heap.size ≤ yr.now.heap.size := (by omega); have : w.heap.size < yr.now.heap.size + 1 + 1 := (by omega); have : w.heap.size + 1 < yr.now.heap.size := (by omega); have : w.heap.size + 1 ≤ yr.now.heap.size := (by omega); have : w.heap.size + 1 < yr.now.heap.size + 1 + 1 := (by omega); have : w.heap.size + 1 + 1 < yr.now.heap.size := (by omega); have : w.heap.size + 1 + 1 ≤ yr.now.heap.size := (by omega); have : w.heap.size + 1 + 1 < yr.now.heap.size + 1 + 1 := (by omega)) | (go_at_call 70; (first | with_reducible refine (Calls.giv2 (checkBoth_any _ _ _ _ _)).mono ?_ | with_reducible refine (Calls.giv (checkBoth_any _ _ _ _ _)).mono ?_); rintro _ _ ⟨y1, rfl, rfl⟩; have sy1 := Ext.size y1; (repeat (first | rw [World.size_alloc] at sy1 | rw [World.size_setCell] at sy1 | rw [World.size_drew] at sy1)); have : w.heap.size < y1.now.heap.size := (by omega); have : w.heap.size ≤ y1.now.heap.size := (by omega); have : w.heap.size < y1.now.heap.size + 1 + 1 := (by omega); have : w.heap.size + 1 < y1.now.heap.size := (by omega); have : w.heap.size + 1 ≤ y1.now.heap.size := (by omega); have : w.heap.size + 1 < y1.now.heap.size + 1 + 1 := (by omega); have : w.heap.size + 1 + 1 < y1.now.heap.size := (by omega); have : w.heap.size + 1 + 1 ≤ y1.now.heap.size := (by omega); have : w.heap.size + 1 + 1 < y1.now.heap.size + 1 + 1 := (by omega)))
    go_returns
    refine ⟨rfl, ?_⟩
    repeat' (first | (with_reducible exact Below.refl _ _) | (with_reducible assumption) | (with_reducible refine Ext.below _ ?_ ?_) | (with_reducible refine Below.on ?_ (by with_reducible assumption) ?_) | (with_reducible refine Below.alloc ?_ ?_ _) | (with_reducible refine Below.drew ?_) | (with_reducible refine Below.setCell ?_ ?_ _) | (with_reducible exact Nat.le_refl _) | omega | (simp; done) | (simp [go_sem]; done) | (simp at *; omega))
/-- Two spans have a number in common. -/
def meetB (a b c d : Int) : Bool := chkB a b c d == 0 && decide (max a c ≤ min b d)
def meetL (a b c d : Int) : Int := if meetB a b c d = true then max a c else 0
def meetH (a b c d : Int) : Int := if meetB a b c d = true then min b d else 0
/-- A span has two halves. -/
def splitB (a b : Int) : Bool := chk a b == 0 && decide (a ≠ b)
end Go.Proofs.YtlmhbggigbmeaaaDoor

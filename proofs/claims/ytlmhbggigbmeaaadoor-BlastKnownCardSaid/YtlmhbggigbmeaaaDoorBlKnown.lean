/- For BlastKnown: the chapter's examples have the results given there. Written by gen_known7.py. Condition: the table of limits stands as it was laid. -/
import Derived.Test.YtlmhbggigbmeaaaDoorBlKa
namespace Go.Proofs.YtlmhbggigbmeaaaDoor
open Go.RowKit Go.Shelf
attribute [local go_sem] Option.isSome_some Ext.cell Ext.frozen Ext.lt Ext.le Ext.lt_add Ext.le_add Ext.ne Ext.ne' lt2 lt3 lt4 lt5 le2 le3 le4
theorem list10 {α : Type} {l : List α} (h : l.length = 10) : ∃ b0 b1 b2 b3 b4 b5 b6 b7 b8 b9, l = [b0, b1, b2, b3, b4, b5, b6, b7, b8, b9] := by
  match l, h with
  | [b0, b1, b2, b3, b4, b5, b6, b7, b8, b9], _ => exact ⟨_, _, _, _, _, _, _, _, _, _, rfl⟩
theorem list12 {α : Type} {l : List α} (h : l.length = 12) : ∃ b0 b1 b2 b3 b4 b5 b6 b7 b8 b9 b10 b11, l = [b0, b1, b2, b3, b4, b5, b6, b7, b8, b9, b10, b11] := by
  match l, h with
  | [b0, b1, b2, b3, b4, b5, b6, b7, b8, b9, b10, b11], _ => exact ⟨_, _, _, _, _, _, _, _, _, _, _, _, rfl⟩
theorem list11 {α : Type} {l : List α} (h : l.length = 11) : ∃ b0 b1 b2 b3 b4 b5 b6 b7 b8 b9 b10, l = [b0, b1, b2, b3, b4, b5, b6, b7, b8, b9, b10] := by
  match l, h with
  | [b0, b1, b2, b3, b4, b5, b6, b7, b8, b9, b10], _ => exact ⟨_, _, _, _, _, _, _, _, _, _, _, rfl⟩
def k08Deps : List (List Nat) := [[], [], [0, 1], [2], [3], [3], [3], [4], [5], [6]]
def k08Inv  (a0 : Act) (X : World) (l : List Bool) (fr : Act) (W : World) : Prop :=
  ∃ s4 s5 s6 s44 s45 s46 s47 s48 s49 s50 : Value, fr = sets a0 [(4, s4), (5, s5), (6, s6), (44, s44), (45, s45), (46, s46), (47, s47), (48, s48), (49, s49), (50, s50)] ∧ Below X.heap.size X W ∧
    (l.getD 0 false = true → ∃ p : Option Addr, s45 = .slice p 2 2 ∧ VecsAt W p airL) ∧
    (l.getD 1 false = true → s46 = .agg #[.int .i64 10, .int .i64 1000, .int .i64 99000, .int .i64 0, .int .i64 1000, .bool false, .int .i64 100, .int .i64 1000]) ∧
    (l.getD 2 false = true → s47 = .tuple #[.int .i64 1, .int .i64 9900000, .int .i64 0]) ∧
    (l.getD 3 false = true → s44 = .tuple #[.int .i64 1, .int .i64 9900000, .int .i64 0]) ∧
    (l.getD 4 false = true → s48 = .int .i64 1) ∧
    (l.getD 5 false = true → s49 = .int .i64 9900000) ∧
    (l.getD 6 false = true → s50 = .int .i64 0) ∧
    (l.getD 7 false = true → s4 = .int .i64 1) ∧
    (l.getD 8 false = true → s5 = .int .i64 9900000) ∧
    (l.getD 9 false = true → s6 = .int .i64 0)
def k08Told : Act → World → Act → World → Prop := fun a X a' W => a' = sets a [(4, .int .i64 1), (5, .int .i64 9900000), (6, .int .i64 0), (44, a'.tmps.getD 44 undef), (45, a'.tmps.getD 45 undef), (46, a'.tmps.getD 46 undef), (47, a'.tmps.getD 47 undef), (48, a'.tmps.getD 48 undef), (49, a'.tmps.getD 49 undef), (50, a'.tmps.getD 50 undef)] ∧ Below X.heap.size X W
def k10Deps : List (List Nat) := [[], [], [0, 1], [2], [3], [3], [3], [4], [5], [6]]
def k10Inv  (a0 : Act) (X : World) (l : List Bool) (fr : Act) (W : World) : Prop :=
  ∃ s7 s8 s9 s52 s53 s54 s55 s56 s57 s58 : Value, fr = sets a0 [(7, s7), (8, s8), (9, s9), (52, s52), (53, s53), (54, s54), (55, s55), (56, s56), (57, s57), (58, s58)] ∧ Below X.heap.size X W ∧
    (l.getD 0 false = true → ∃ p : Option Addr, s53 = .slice p 2 2 ∧ VecsAt W p airL) ∧
    (l.getD 1 false = true → s54 = .agg #[.int .i64 10, .int .i64 1000, .int .i64 10000, .int .i64 0, .int .i64 1000, .bool false, .int .i64 100, .int .i64 1000]) ∧
    (l.getD 2 false = true → s55 = .tuple #[.int .i64 0, .int .i64 10000000, .int .i64 0]) ∧
    (l.getD 3 false = true → s52 = .tuple #[.int .i64 0, .int .i64 10000000, .int .i64 0]) ∧
    (l.getD 4 false = true → s56 = .int .i64 0) ∧
    (l.getD 5 false = true → s57 = .int .i64 10000000) ∧
    (l.getD 6 false = true → s58 = .int .i64 0) ∧
    (l.getD 7 false = true → s7 = .int .i64 0) ∧
    (l.getD 8 false = true → s8 = .int .i64 10000000) ∧
    (l.getD 9 false = true → s9 = .int .i64 0)
def k10Told : Act → World → Act → World → Prop := fun a X a' W => a' = sets a [(7, .int .i64 0), (8, .int .i64 10000000), (9, .int .i64 0), (52, a'.tmps.getD 52 undef), (53, a'.tmps.getD 53 undef), (54, a'.tmps.getD 54 undef), (55, a'.tmps.getD 55 undef), (56, a'.tmps.getD 56 undef), (57, a'.tmps.getD 57 undef), (58, a'.tmps.getD 58 undef)] ∧ Below X.heap.size X W
def k13Deps : List (List Nat) := [[], [], [], [0, 1, 2], [3], [4], [4], [5], [6]]
def k13Inv  (a0 : Act) (X : World) (l : List Bool) (fr : Act) (W : World) : Prop :=
  ∃ s6 s13 s85 s86 s87 s88 s89 s90 s91 : Value, fr = sets a0 [(6, s6), (13, s13), (85, s85), (86, s86), (87, s87), (88, s88), (89, s89), (90, s90), (91, s91)] ∧ Below X.heap.size X W ∧
    (l.getD 0 false = true → ∃ p : Option Addr, s86 = .slice p 2 2 ∧ VecsAt W p airL) ∧
    (l.getD 1 false = true → s87 = .agg #[.int .i64 10, .int .i64 10, .int .i64 1000, .int .i64 1000, .int .i64 50000, .int .i64 1000000, .int .i64 0, .int .i64 0, .int .i64 1000, .int .i64 1000, .bool false]) ∧
    (l.getD 2 false = true → s88 = .agg #[.int .i64 100, .int .i64 100, .int .i64 1000, .int .i64 1000]) ∧
    (l.getD 3 false = true → ∃ (q : Option Addr) (c : Nat), s89 = .tuple #[.slice q 2 c, .int .i64 0] ∧ V3At W q [⟨1, 9900000, 9900000⟩, ⟨2, 8910000, 8910000⟩]) ∧
    (l.getD 4 false = true → ∃ (q : Option Addr) (c : Nat), s85 = .tuple #[.slice q 2 c, .int .i64 0] ∧ V3At W q [⟨1, 9900000, 9900000⟩, ⟨2, 8910000, 8910000⟩]) ∧
    (l.getD 5 false = true → ∃ (q : Option Addr) (c : Nat), s90 = .slice q 2 c ∧ V3At W q [⟨1, 9900000, 9900000⟩, ⟨2, 8910000, 8910000⟩]) ∧
    (l.getD 6 false = true → s91 = .int .i64 0) ∧
    (l.getD 7 false = true → ∃ (q : Option Addr) (c : Nat), s13 = .slice q 2 c ∧ V3At W q [⟨1, 9900000, 9900000⟩, ⟨2, 8910000, 8910000⟩]) ∧
    (l.getD 8 false = true → s6 = .int .i64 0)
def k13Told : Act → World → Act → World → Prop := fun a X a' W => ∃ (q : Option Addr) (c : Nat), a' = sets a [(6, .int .i64 0), (13, .slice q 2 c), (85, a'.tmps.getD 85 undef), (86, a'.tmps.getD 86 undef), (87, a'.tmps.getD 87 undef), (88, a'.tmps.getD 88 undef), (89, a'.tmps.getD 89 undef), (90, a'.tmps.getD 90 undef), (91, a'.tmps.getD 91 undef)] ∧ Below X.heap.size X W ∧ V3At W q [⟨1, 9900000, 9900000⟩, ⟨2, 8910000, 8910000⟩]
def k21Deps : List (List Nat) := [[], [], [], [], [], [0, 1, 2, 3, 4], [5], [6], [6], [], [9, 7, 5], [8]]
def k21Inv  (a0 : Act) (X : World) (l : List Bool) (fr : Act) (W : World) : Prop :=
  ∃ s6 s22 s176 s177 s178 s179 s180 s181 s182 s183 s184 : Value, fr = sets a0 [(6, s6), (22, s22), (176, s176), (177, s177), (178, s178), (179, s179), (180, s180), (181, s181), (182, s182), (183, s183), (184, s184)] ∧ Below X.heap.size X W ∧
    (l.getD 10 false = true → l.getD 9 false = true) ∧
    (l.getD 0 false = true → ∃ p : Option Addr, s177 = .slice p 2 2 ∧ (l.getD 5 false = false → VecsAt W p airL)) ∧
    (l.getD 1 false = true → ∃ p : Option Addr, s178 = .slice p 3 3 ∧ (l.getD 5 false = false → VecsAt W p gradesL)) ∧
    (l.getD 2 false = true → ∃ p q : Option Addr, s179 = .agg #[.slice p 5 5, .slice q 5 5] ∧ (l.getD 5 false = false → (landL p q).At W)) ∧
    (l.getD 3 false = true → s180 = .agg #[.int .i64 10, .int .i64 10, .int .i64 1000, .int .i64 1000, .int .i64 50000, .int .i64 1000000, .int .i64 0, .int .i64 0, .int .i64 1000, .int .i64 1000, .bool false]) ∧
    (l.getD 4 false = true → s181 = .agg #[.int .i64 100, .int .i64 100, .int .i64 1000, .int .i64 1000]) ∧
    (l.getD 5 false = true → s182 = .tuple #[.agg #[.int .i64 30, .int .i64 100], .int .i64 0]) ∧
    (l.getD 6 false = true → s176 = .tuple #[.agg #[.int .i64 30, .int .i64 100], .int .i64 0]) ∧
    (l.getD 7 false = true → s183 = .agg #[.int .i64 30, .int .i64 100]) ∧
    (l.getD 8 false = true → s184 = .int .i64 0) ∧
    (l.getD 9 false = true → ∃ g : Nat, s22 = .pointer (some ⟨g, 0, none⟩) ∧ X.heap.size ≤ g ∧ g < W.heap.size ∧ (l.getD 10 false = false → W.heap[g]? = some (.cells #[.int .i64 0, .int .i64 0] 29 (0, 0))) ∧ (l.getD 10 false = true → W.heap[g]? = some (.cells #[.int .i64 30, .int .i64 100] 29 (0, 0)))) ∧
    (l.getD 11 false = true → s6 = .int .i64 0)
def k21Told : Act → World → Act → World → Prop := fun a X a' W => ∃ g : Nat, a' = sets a [(6, .int .i64 0), (22, .pointer (some ⟨g, 0, none⟩)), (176, a'.tmps.getD 176 undef), (177, a'.tmps.getD 177 undef), (178, a'.tmps.getD 178 undef), (179, a'.tmps.getD 179 undef), (180, a'.tmps.getD 180 undef), (181, a'.tmps.getD 181 undef), (182, a'.tmps.getD 182 undef), (183, a'.tmps.getD 183 undef), (184, a'.tmps.getD 184 undef)] ∧ Below X.heap.size X W ∧ W.heap[g]? = some (.cells #[.int .i64 30, .int .i64 100] 29 (0, 0))
def k22Deps : List (List Nat) := [[], [], [], [], [], [0, 1, 2, 3, 4], [5], [6], [6], [7], [8]]
def k22Inv  (a0 : Act) (X : World) (l : List Bool) (fr : Act) (W : World) : Prop :=
  ∃ s9 s23 s185 s186 s187 s188 s189 s190 s191 s192 s193 : Value, fr = sets a0 [(9, s9), (23, s23), (185, s185), (186, s186), (187, s187), (188, s188), (189, s189), (190, s190), (191, s191), (192, s192), (193, s193)] ∧ Below X.heap.size X W ∧
    (l.getD 0 false = true → ∃ p : Option Addr, s186 = .slice p 2 2 ∧ VecsAt W p airL) ∧
    (l.getD 1 false = true → ∃ p : Option Addr, s187 = .slice p 3 3 ∧ VecsAt W p gradesL) ∧
    (l.getD 2 false = true → ∃ p q : Option Addr, s188 = .agg #[.slice p 5 5, .slice q 5 5] ∧ (landL p q).At W) ∧
    (l.getD 3 false = true → s189 = .agg #[.int .i64 10, .int .i64 10, .int .i64 1000, .int .i64 1000, .int .i64 50000, .int .i64 1000000, .int .i64 0, .int .i64 0, .int .i64 1000, .int .i64 1000, .bool false]) ∧
    (l.getD 4 false = true → s190 = .agg #[.int .i64 100, .int .i64 100, .int .i64 1000, .int .i64 1000]) ∧
    (l.getD 5 false = true → s191 = .tuple #[.int .i64 1, .int .i64 0]) ∧
    (l.getD 6 false = true → s185 = .tuple #[.int .i64 1, .int .i64 0]) ∧
    (l.getD 7 false = true → s192 = .int .i64 1) ∧
    (l.getD 8 false = true → s193 = .int .i64 0) ∧
    (l.getD 9 false = true → s23 = .int .i64 1) ∧
    (l.getD 10 false = true → s9 = .int .i64 0)
def k22Told : Act → World → Act → World → Prop := fun a X a' W => a' = sets a [(9, .int .i64 0), (23, .int .i64 1), (185, a'.tmps.getD 185 undef), (186, a'.tmps.getD 186 undef), (187, a'.tmps.getD 187 undef), (188, a'.tmps.getD 188 undef), (189, a'.tmps.getD 189 undef), (190, a'.tmps.getD 190 undef), (191, a'.tmps.getD 191 undef), (192, a'.tmps.getD 192 undef), (193, a'.tmps.getD 193 undef)] ∧ Below X.heap.size X W
theorem blk_lit (W : World) (T : TypeId) : V3At (W.alloc (.cells #[.int .i64 1, .int .i64 9900000, .int .i64 9900000, .int .i64 2, .int .i64 8910000, .int .i64 8910000] T)) (some ⟨W.heap.size, 0, none⟩) [⟨1, 9900000, 9900000⟩, ⟨2, 8910000, 8910000⟩] := by
  intro j hj
  rcases (show j = 0 ∨ j = 1 by simp at hj; omega) with rfl | rfl <;> exact ⟨_, _, rfl, by simp, by simp [go_sem], by simp [go_sem], by simp [go_sem]⟩
set_option maxRecDepth 100000 in
set_option maxHeartbeats 16000000 in
theorem BlastKnown_any (w : World) (hlim : LimAt w) : Calls Tryd.prog 4 #[] w (Gives (.bool true) w) := by
  have ca := fun W (y : LimAt W) => blastAwake_any W y
  have cs := fun W => stone_any W
  have hl0 := hlim.lt
  have hlimw := hlim
  have hBw : Hid (Below w.heap.size w w) := Go.Lib.hid (Below.refl _ _)
  unfold stoneL StoneR.val StoneR.vals at cs
  simp only at cs
  go_enter Tryd.func4, Tryd.ntmps4
  go_upto_region 4 with (first | ((first | with_reducible refine wrx2 ?_ | with_reducible refine wrx ?_); (repeat (first | go_big_quiet_step ((first | (go_at_call 9; with_reducible exact Calls.ext (ca _ (by repeat (first | exact hlim | (with_reducible refine LimAt.ext ?_ _) | (with_reducible refine LimAt.alloc ?_ _) | (with_reducible refine LimAt.drew ?_) | (with_reducible refine LimAt.rext ?_ (by omega) _) | (with_reducible refine LimAt.set ?_ (by omega) _))))) | (go_at_call 20; with_reducible exact Calls.ext (cs _)))) | quiet_step ((first | (go_at_call 9; with_reducible exact Calls.ext (ca _ (by repeat (first | exact hlim | (with_reducible refine LimAt.ext ?_ _) | (with_reducible refine LimAt.alloc ?_ _) | (with_reducible refine LimAt.drew ?_) | (with_reducible refine LimAt.rext ?_ (by omega) _) | (with_reducible refine LimAt.set ?_ (by omega) _))))) | (go_at_call 20; with_reducible exact Calls.ext (cs _)))))); refine wpQuiet_nil ?_; rintro _ ⟨yr, rfl⟩; have syr := Ext.size yr; (repeat (first | rw [World.size_alloc] at syr | rw [World.size_setCell] at syr | rw [World.size_drew] at syr))) | (go_at_call 9; (first | with_reducible refine (Calls.giv2 (ca _ (by repeat (first | exact hlim | (with_reducible refine LimAt.ext ?_ _) | (with_reducible refine LimAt.alloc ?_ _) | (with_reducible refine LimAt.drew ?_) | (with_reducible refine LimAt.rext ?_ (by omega) _) | (with_reducible refine LimAt.set ?_ (by omega) _))))).mono ?_ | with_reducible refine (Calls.giv (ca _ (by repeat (first | exact hlim | (with_reducible refine LimAt.ext ?_ _) | (with_reducible refine LimAt.alloc ?_ _) | (with_reducible refine LimAt.drew ?_) | (with_reducible refine LimAt.rext ?_ (by omega) _) | (with_reducible refine LimAt.set ?_ (by omega) _))))).mono ?_); rintro _ _ ⟨y1, rfl, rfl⟩; have sy1 := Ext.size y1; (repeat (first | rw [World.size_alloc] at sy1 | rw [World.size_setCell] at sy1 | rw [World.size_drew] at sy1))) | (go_at_call 20; (first | with_reducible refine (Calls.giv2 (cs _)).mono ?_ | with_reducible refine (Calls.giv (cs _)).mono ?_); rintro _ _ ⟨y2, rfl, rfl⟩; have sy2 := Ext.size y2; (repeat (first | rw [World.size_alloc] at sy2 | rw [World.size_setCell] at sy2 | rw [World.size_drew] at sy2))))
  refine wp_named (fun W1 hW => ?_)
  have r1 : W1.heap[y2.now.heap.size]? = some (.cells #[.int .i64 10, .int .i64 1000, .int .i64 1000000, .int .i64 0, .int .i64 1000, .bool false, .int .i64 100, .int .i64 1000] 57 (0, 0)) := by rw [← hW]; exact heap_alloc_new _ _
  have hb : Below w.heap.size w W1 := by rw [← hW]; repeat' (first | (with_reducible exact Below.refl _ _) | (with_reducible assumption) | (with_reducible refine Ext.below _ ?_ ?_) | (with_reducible refine Below.on ?_ (by with_reducible assumption) ?_) | (with_reducible refine Below.alloc ?_ ?_ _) | (with_reducible refine Below.drew ?_) | (with_reducible refine Below.setCell ?_ ?_ _) | (with_reducible exact Nat.le_refl _) | omega | (simp; done) | (simp [go_sem]; done) | (simp at *; omega))
  clear hW
  have sB1 : w.heap.size ≤ y2.now.heap.size := by have := y2.size; omega
  obtain ⟨B1, hB1⟩ : ∃ n, y2.now.heap.size = n := ⟨_, rfl⟩
  rw [hB1] at r1 sB1
  rw [hB1]
  clear hB1
  replace hBw := Go.Lib.hid (hBw.out.trans (hb.mono hBw.out.size))
  replace hlim := hlimw.on hBw.out
  clear hb
  have l1 := row_lt r1
  go_upto_region 5 with (first | ((first | with_reducible refine wrx2 ?_ | with_reducible refine wrx ?_); (repeat (first | go_big_quiet_step ((first | (go_at_call 20; with_reducible exact Calls.ext (cs _)))) | quiet_step ((first | (go_at_call 20; with_reducible exact Calls.ext (cs _)))))); refine wpQuiet_nil ?_; rintro _ ⟨yr, rfl⟩; have syr := Ext.size yr; (repeat (first | rw [World.size_alloc] at syr | rw [World.size_setCell] at syr | rw [World.size_drew] at syr)); have : B1 < yr.now.heap.size := (by omega); have : B1 ≤ yr.now.heap.size := (by omega); have : B1 < yr.now.heap.size + 1 + 1 := (by omega)) | (go_at_call 20; (first | with_reducible refine (Calls.giv2 (cs _)).mono ?_ | with_reducible refine (Calls.giv (cs _)).mono ?_); rintro _ _ ⟨y1, rfl, rfl⟩; have sy1 := Ext.size y1; (repeat (first | rw [World.size_alloc] at sy1 | rw [World.size_setCell] at sy1 | rw [World.size_drew] at sy1)); have : B1 < y1.now.heap.size := (by omega); have : B1 ≤ y1.now.heap.size := (by omega); have : B1 < y1.now.heap.size + 1 + 1 := (by omega)))
  refine wp_named (fun W2 hW => ?_)
  have r2 : W2.heap[y1.now.heap.size]? = some (.cells #[.int .i64 10, .int .i64 1000, .int .i64 1000000, .int .i64 0, .int .i64 1000, .bool false, .int .i64 100, .int .i64 1000] 57 (0, 0)) := by rw [← hW]; exact heap_alloc_new _ _
  have hb : Below W1.heap.size W1 W2 := by rw [← hW]; exact y1.grew.alloc y1.size _
  clear hW
  have sB2 : B1 < y1.now.heap.size := by have := y1.size; omega
  obtain ⟨B2, hB2⟩ : ∃ n, y1.now.heap.size = n := ⟨_, rfl⟩
  rw [hB2] at r2 sB2
  rw [hB2]
  clear hB2 l1
  replace hBw := Go.Lib.hid (hBw.out.trans (hb.mono hBw.out.size))
  replace hlim := hlimw.on hBw.out
  replace r1 := (hb.block B1 (row_lt r1)).trans r1
  clear hb
  have z5 : W2.frozen? ⟨B2, 5, none⟩ = false := frozen_row r2
  have w5 : W2.cell? ⟨B2, 5, none⟩ = some (.bool false) := (cell_of_row W2 _ 5 _ _ _ r2).trans rfl
  have z3 : W2.frozen? ⟨B2, 3, none⟩ = false := frozen_row r2
  have w3 : W2.cell? ⟨B2, 3, none⟩ = some (.int .i64 0) := (cell_of_row W2 _ 3 _ _ _ r2).trans rfl
  have lz := row_lt r2
  go_upto_region 6 with (first | ((first | with_reducible refine wrx2 ?_ | with_reducible refine wrx ?_); (repeat (first | go_big_quiet_step ((first | fail)) | quiet_step ((first | fail)))); refine wpQuiet_nil ?_; rintro _ ⟨yr, rfl⟩; have syr := Ext.size yr; (repeat (first | rw [World.size_alloc] at syr | rw [World.size_setCell] at syr | rw [World.size_drew] at syr)); have : B2 < yr.now.heap.size := (by omega); have : B2 ≤ yr.now.heap.size := (by omega); have : B2 < yr.now.heap.size + 1 + 1 := (by omega)))
  refine wp_named (fun W3 hW => ?_)
  have u0 := heap_setCell (o := 5) r2 (.bool true)
  have u1 := heap_setCell (o := 3) u0 (.int .i64 250)
  rw [hW] at u1
  have un : W3.heap[B2]? = some (.cells #[.int .i64 10, .int .i64 1000, .int .i64 1000000, .int .i64 250, .int .i64 1000, .bool true, .int .i64 100, .int .i64 1000] 57 (0, 0)) := u1.trans rfl
  have ho : ∀ B, B ≠ B2 → W3.heap[B]? = W2.heap[B]? := fun B hne => by rw [← hW]; exact Eq.trans (heap_setCell_ne hne _) (Eq.trans (heap_setCell_ne hne _) (rfl))
  have hBn : Below w.heap.size w W3 := by rw [← hW]; exact ((hBw.out.setCell (show w.heap.size ≤ B2 by omega) _).setCell (show w.heap.size ≤ B2 by omega) _)
  replace r1 := (ho B1 (by omega)).trans r1
  replace r2 := un
  replace hBw := Go.Lib.hid hBn
  replace hlim := hlimw.on hBn
  clear hW ho hBn un lz z5 w5 z3 w3 u0 u1
  have cm := fun W (y : Below W3.heap.size W3 W) => kn_mass W (hlim.on y)
  have ch := fun W (y : Below W3.heap.size W3 W) => kn_holds W (hlim.on y)
  have cp := fun W (y : Below W3.heap.size W3 W) => kn_pile W (hlim.on y)
  unfold stoneL StoneR.val StoneR.vals at cm ch
  unfold pileS StoneR.val StoneR.vals at cp
  simp only at cm ch cp
  have p0 : W3.cell? ⟨B1, 0, none⟩ = some (.int .i64 10) := (cell_of_row W3 _ 0 _ _ _ r1).trans rfl
  have p1 : W3.cell? ⟨B1, 1, none⟩ = some (.int .i64 1000) := (cell_of_row W3 _ 1 _ _ _ r1).trans rfl
  have p2 : W3.cell? ⟨B1, 2, none⟩ = some (.int .i64 1000000) := (cell_of_row W3 _ 2 _ _ _ r1).trans rfl
  have p3 : W3.cell? ⟨B1, 3, none⟩ = some (.int .i64 0) := (cell_of_row W3 _ 3 _ _ _ r1).trans rfl
  have p4 : W3.cell? ⟨B1, 4, none⟩ = some (.int .i64 1000) := (cell_of_row W3 _ 4 _ _ _ r1).trans rfl
  have p5 : W3.cell? ⟨B1, 5, none⟩ = some (.bool false) := (cell_of_row W3 _ 5 _ _ _ r1).trans rfl
  have p6 : W3.cell? ⟨B1, 6, none⟩ = some (.int .i64 100) := (cell_of_row W3 _ 6 _ _ _ r1).trans rfl
  have p7 : W3.cell? ⟨B1, 7, none⟩ = some (.int .i64 1000) := (cell_of_row W3 _ 7 _ _ _ r1).trans rfl
  have q0 : W3.cell? ⟨B2, 0, none⟩ = some (.int .i64 10) := (cell_of_row W3 _ 0 _ _ _ r2).trans rfl
  have q1 : W3.cell? ⟨B2, 1, none⟩ = some (.int .i64 1000) := (cell_of_row W3 _ 1 _ _ _ r2).trans rfl
  have q2 : W3.cell? ⟨B2, 2, none⟩ = some (.int .i64 1000000) := (cell_of_row W3 _ 2 _ _ _ r2).trans rfl
  have q3 : W3.cell? ⟨B2, 3, none⟩ = some (.int .i64 250) := (cell_of_row W3 _ 3 _ _ _ r2).trans rfl
  have q4 : W3.cell? ⟨B2, 4, none⟩ = some (.int .i64 1000) := (cell_of_row W3 _ 4 _ _ _ r2).trans rfl
  have q5 : W3.cell? ⟨B2, 5, none⟩ = some (.bool true) := (cell_of_row W3 _ 5 _ _ _ r2).trans rfl
  have q6 : W3.cell? ⟨B2, 6, none⟩ = some (.int .i64 100) := (cell_of_row W3 _ 6 _ _ _ r2).trans rfl
  have q7 : W3.cell? ⟨B2, 7, none⟩ = some (.int .i64 1000) := (cell_of_row W3 _ 7 _ _ _ r2).trans rfl
  have lp := row_lt r1
  have lq := row_lt r2
  go_upto_region 7 with (first | ((first | with_reducible refine wrx2 ?_ | with_reducible refine wrx ?_); (repeat (first | go_big_quiet_step ((first | (go_at_call 21; with_reducible exact Calls.ext (cm _ bcl)) | (go_at_call 22; with_reducible exact Calls.ext (ch _ bcl)) | (go_at_call 22; with_reducible exact Calls.ext (cp _ bcl)))) | quiet_step ((first | (go_at_call 21; with_reducible exact Calls.ext (cm _ bcl)) | (go_at_call 22; with_reducible exact Calls.ext (ch _ bcl)) | (go_at_call 22; with_reducible exact Calls.ext (cp _ bcl)))))); refine wpQuiet_nil ?_; rintro _ ⟨yr, rfl⟩; have syr := Ext.size yr; (repeat (first | rw [World.size_alloc] at syr | rw [World.size_setCell] at syr | rw [World.size_drew] at syr)); have : B1 < yr.now.heap.size := (by omega); have : B1 ≤ yr.now.heap.size := (by omega); have : B1 < yr.now.heap.size + 1 + 1 := (by omega); have : B2 < yr.now.heap.size := (by omega); have : B2 ≤ yr.now.heap.size := (by omega); have : B2 < yr.now.heap.size + 1 + 1 := (by omega)) | (go_at_call 21; (first | with_reducible refine (Calls.giv2 (cm _ bcl)).mono ?_ | with_reducible refine (Calls.giv (cm _ bcl)).mono ?_); rintro _ _ ⟨y1, rfl, rfl⟩; have sy1 := Ext.size y1; (repeat (first | rw [World.size_alloc] at sy1 | rw [World.size_setCell] at sy1 | rw [World.size_drew] at sy1)); have : B1 < y1.now.heap.size := (by omega); have : B1 ≤ y1.now.heap.size := (by omega); have : B1 < y1.now.heap.size + 1 + 1 := (by omega); have : B2 < y1.now.heap.size := (by omega); have : B2 ≤ y1.now.heap.size := (by omega); have : B2 < y1.now.heap.size + 1 + 1 := (by omega)) | (go_at_call 22; (first | with_reducible refine (Calls.giv2 (ch _ bcl)).mono ?_ | with_reducible refine (Calls.giv (ch _ bcl)).mono ?_); rintro _ _ ⟨y2, rfl, rfl⟩; have sy2 := Ext.size y2; (repeat (first | rw [World.size_alloc] at sy2 | rw [World.size_setCell] at sy2 | rw [World.size_drew] at sy2)); have : B1 < y2.now.heap.size := (by omega); have : B1 ≤ y2.now.heap.size := (by omega); have : B1 < y2.now.heap.size + 1 + 1 := (by omega); have : B2 < y2.now.heap.size := (by omega); have : B2 ≤ y2.now.heap.size := (by omega); have : B2 < y2.now.heap.size + 1 + 1 := (by omega)) | (go_at_call 22; (first | with_reducible refine (Calls.giv2 (cp _ bcl)).mono ?_ | with_reducible refine (Calls.giv (cp _ bcl)).mono ?_); rintro _ _ ⟨y3, rfl, rfl⟩; have sy3 := Ext.size y3; (repeat (first | rw [World.size_alloc] at sy3 | rw [World.size_setCell] at sy3 | rw [World.size_drew] at sy3)); have : B1 < y3.now.heap.size := (by omega); have : B1 ≤ y3.now.heap.size := (by omega); have : B1 < y3.now.heap.size + 1 + 1 := (by omega); have : B2 < y3.now.heap.size := (by omega); have : B2 ≤ y3.now.heap.size := (by omega); have : B2 < y3.now.heap.size + 1 + 1 := (by omega)))
  refine wp_named (fun W4 hW => ?_)
  have hb : Below W3.heap.size W3 W4 := by rw [← hW]; repeat' (first | (with_reducible exact Below.refl _ _) | (with_reducible assumption) | (with_reducible refine Ext.below _ ?_ ?_) | (with_reducible refine Below.on ?_ (by with_reducible assumption) ?_) | (with_reducible refine Below.alloc ?_ ?_ _) | (with_reducible refine Below.drew ?_) | (with_reducible refine Below.setCell ?_ ?_ _) | (with_reducible exact Nat.le_refl _) | omega | (simp; done) | (simp [go_sem]; done) | (simp at *; omega))
  clear hW
  replace hBw := Go.Lib.hid (hBw.out.trans (hb.mono hBw.out.size))
  replace hlim := hlimw.on hBw.out
  replace r1 := (hb.block B1 (row_lt r1)).trans r1
  clear hb
  clear p0 p1 p2 p3 p4 p5 p6 p7 q0 q1 q2 q3 q4 q5 q6 q7 lp lq
  clear cm ch cp r2
  have z2 : W4.frozen? ⟨B1, 2, none⟩ = false := frozen_row r1
  have w2 : W4.cell? ⟨B1, 2, none⟩ = some (.int .i64 1000000) := (cell_of_row W4 _ 2 _ _ _ r1).trans rfl
  have lz := row_lt r1
  go_upto_region 8 with (first | ((first | with_reducible refine wrx2 ?_ | with_reducible refine wrx ?_); (repeat (first | go_big_quiet_step ((first | fail)) | quiet_step ((first | fail)))); refine wpQuiet_nil ?_; rintro _ ⟨yr, rfl⟩; have syr := Ext.size yr; (repeat (first | rw [World.size_alloc] at syr | rw [World.size_setCell] at syr | rw [World.size_drew] at syr)); have : B1 < yr.now.heap.size := (by omega); have : B1 ≤ yr.now.heap.size := (by omega); have : B1 < yr.now.heap.size + 1 + 1 := (by omega)))
  refine wp_named (fun W5 hW => ?_)
  have u0 := heap_setCell (o := 2) r1 (.int .i64 99000)
  rw [hW] at u0
  have un : W5.heap[B1]? = some (.cells #[.int .i64 10, .int .i64 1000, .int .i64 99000, .int .i64 0, .int .i64 1000, .bool false, .int .i64 100, .int .i64 1000] 57 (0, 0)) := u0.trans rfl
  have ho : ∀ B, B ≠ B1 → W5.heap[B]? = W4.heap[B]? := fun B hne => by rw [← hW]; exact Eq.trans (heap_setCell_ne hne _) (rfl)
  have hBn : Below w.heap.size w W5 := by rw [← hW]; exact (hBw.out.setCell (show w.heap.size ≤ B1 by omega) _)
  replace r1 := un
  replace hBw := Go.Lib.hid hBn
  replace hlim := hlimw.on hBn
  clear hW ho hBn un lz z2 w2 u0
  refine wp_tell k08Told ?_ ?_
  focus
    clear ca cs hBw hlimw
    repeat (rename_i zz; clear zz)
    refine region_dep (by kernel_rfl) k08Deps (by kernel_rfl) k08Inv ?h0 ?hstep ?hend
    case h0 =>
      refine ⟨?z4, ?z5, ?z6, ?z44, ?z45, ?z46, ?z47, ?z48, ?z49, ?z50, ?fr, (Below.refl _ _).drew, by simp, by simp, by simp, by simp, by simp, by simp, by simp, by simp, by simp, by simp⟩
      case fr =>
        simp only [sets, List.foldl_cons, List.foldl_nil, List.set_cons_succ, List.set_cons_zero]
        rfl
    case hend =>
      intro l' fr W hl hall hInv
      unfold k08Inv at hInv
      obtain ⟨s4, s5, s6, s44, s45, s46, s47, s48, s49, s50, hInv⟩ := hInv
      obtain ⟨hfr, hB, f0, f1, f2, f3, f4, f5, f6, f7, f8, f9⟩ := hInv
      subst hfr
      obtain ⟨b0, b1, b2, b3, b4, b5, b6, b7, b8, b9, rfl⟩ := list10 hl
      simp only [List.getD_cons_zero, List.getD_cons_succ] at f0 f1 f2 f3 f4 f5 f6 f7 f8 f9
      simp only [List.all_cons, id, Bool.and_eq_true] at hall
      obtain ⟨e0, e1, e2, e3, e4, e5, e6, e7, e8, e9, -⟩ := hall
      obtain rfl := f7 e7
      obtain rfl := f8 e8
      obtain rfl := f9 e9
      exact ⟨rfl, by kernel_rfl, hB⟩
    case hstep =>
      intro l' fr W ii hl hInv hr hi
      unfold k08Inv at hInv
      obtain ⟨s4, s5, s6, s44, s45, s46, s47, s48, s49, s50, hInv⟩ := hInv
      obtain ⟨hfr, hB, f0, f1, f2, f3, f4, f5, f6, f7, f8, f9⟩ := hInv
      subst hfr
      obtain ⟨b0, b1, b2, b3, b4, b5, b6, b7, b8, b9, rfl⟩ := list10 hl
      have sW := hB.size
      replace r1 := (hB.block B1 (row_lt r1)).trans r1
      have p0 : W.cell? ⟨B1, 0, none⟩ = some (.int .i64 10) := (cell_of_row W _ 0 _ _ _ r1).trans rfl
      have p1 : W.cell? ⟨B1, 1, none⟩ = some (.int .i64 1000) := (cell_of_row W _ 1 _ _ _ r1).trans rfl
      have p2 : W.cell? ⟨B1, 2, none⟩ = some (.int .i64 99000) := (cell_of_row W _ 2 _ _ _ r1).trans rfl
      have p3 : W.cell? ⟨B1, 3, none⟩ = some (.int .i64 0) := (cell_of_row W _ 3 _ _ _ r1).trans rfl
      have p4 : W.cell? ⟨B1, 4, none⟩ = some (.int .i64 1000) := (cell_of_row W _ 4 _ _ _ r1).trans rfl
      have p5 : W.cell? ⟨B1, 5, none⟩ = some (.bool false) := (cell_of_row W _ 5 _ _ _ r1).trans rfl
      have p6 : W.cell? ⟨B1, 6, none⟩ = some (.int .i64 100) := (cell_of_row W _ 6 _ _ _ r1).trans rfl
      have p7 : W.cell? ⟨B1, 7, none⟩ = some (.int .i64 1000) := (cell_of_row W _ 7 _ _ _ r1).trans rfl
      simp only [List.getD_cons_zero, List.getD_cons_succ] at f0 f1 f2 f3 f4 f5 f6 f7 f8 f9
      replace hB := Go.Lib.hid hB
      replace hi := Go.Lib.hid hi
      replace f0 := Go.Lib.hid f0
      replace f1 := Go.Lib.hid f1
      replace f2 := Go.Lib.hid f2
      replace f3 := Go.Lib.hid f3
      replace f4 := Go.Lib.hid f4
      replace f5 := Go.Lib.hid f5
      replace f6 := Go.Lib.hid f6
      replace f7 := Go.Lib.hid f7
      replace f8 := Go.Lib.hid f8
      replace f9 := Go.Lib.hid f9
      rcases ii with _ | _ | _ | _ | _ | _ | _ | _ | _ | _ | ii
      · have hi := hi.out
        simp only [List.getElem?_cons_zero, Option.some.injEq] at hi
        subst hi
        refine wpOp_step rfl (fun K hK => ?_)
        simp only [sets, List.foldl_cons, List.foldl_nil, List.set_cons_succ, List.set_cons_zero]
        go_simp
        refine (air_any W).mono ?_
        rintro _ W6 ⟨p, rfl, hb, hv⟩
        exact hK _ _ ⟨s4, s5, s6, s44, (.slice p 2 2), s46, s47, s48, s49, s50, by kernel_rfl, hB.out.trans (hb.mono sW), (fun _ => ⟨p, rfl, hv⟩), f1.out, f2.out, f3.out, f4.out, f5.out, f6.out, f7.out, f8.out, f9.out⟩
      · refine wpOp_step rfl (fun K hK => ?_)
        simp only [sets, List.foldl_cons, List.foldl_nil, List.set_cons_succ, List.set_cons_zero]
        go_simp
        exact hK _ _ ⟨s4, s5, s6, s44, s45, (.agg #[.int .i64 10, .int .i64 1000, .int .i64 99000, .int .i64 0, .int .i64 1000, .bool false, .int .i64 100, .int .i64 1000]), s47, s48, s49, s50, by kernel_rfl, hB.out, f0.out, fun _ => rfl, f2.out, f3.out, f4.out, f5.out, f6.out, f7.out, f8.out, f9.out⟩
      · simp only [k08Deps, List.getD_cons_zero, List.getD_cons_succ, List.all_cons, List.all_nil, Bool.and_true, Bool.and_eq_true] at hr
        obtain ⟨hd0, hd1⟩ := hr
        obtain rfl := f1.out hd1
        obtain ⟨pa, rfl, va⟩ := f0.out hd0
        refine wpOp_step rfl (fun K hK => ?_)
        simp only [sets, List.foldl_cons, List.foldl_nil, List.set_cons_succ, List.set_cons_zero]
        go_simp
        refine (kn_ends1 pa W (hlim.on hB.out) va).mono ?_
        rintro _ W6 ⟨rfl, hb⟩
        exact hK _ _ ⟨s4, s5, s6, s44, (.slice pa 2 2), (.agg #[.int .i64 10, .int .i64 1000, .int .i64 99000, .int .i64 0, .int .i64 1000, .bool false, .int .i64 100, .int .i64 1000]), (.tuple #[.int .i64 1, .int .i64 9900000, .int .i64 0]), s48, s49, s50, by kernel_rfl, hB.out.trans (hb.mono sW), (fun _ => ⟨pa, rfl, va.on hb⟩), f1.out, fun _ => rfl, f3.out, f4.out, f5.out, f6.out, f7.out, f8.out, f9.out⟩
      · simp only [k08Deps, List.getD_cons_zero, List.getD_cons_succ, List.all_cons, List.all_nil, Bool.and_true] at hr
        have hd2 := hr
        obtain rfl := f2.out hd2
        refine wpOp_step rfl (fun K hK => ?_)
        simp only [sets, List.foldl_cons, List.foldl_nil, List.set_cons_succ, List.set_cons_zero]
        go_simp
        exact hK _ _ ⟨s4, s5, s6, (.tuple #[.int .i64 1, .int .i64 9900000, .int .i64 0]), s45, s46, (.tuple #[.int .i64 1, .int .i64 9900000, .int .i64 0]), s48, s49, s50, by kernel_rfl, hB.out, f0.out, f1.out, f2.out, fun _ => rfl, f4.out, f5.out, f6.out, f7.out, f8.out, f9.out⟩
      · simp only [k08Deps, List.getD_cons_zero, List.getD_cons_succ, List.all_cons, List.all_nil, Bool.and_true] at hr
        have hd3 := hr
        obtain rfl := f3.out hd3
        refine wpOp_step rfl (fun K hK => ?_)
        simp only [sets, List.foldl_cons, List.foldl_nil, List.set_cons_succ, List.set_cons_zero]
        go_simp
        exact hK _ _ ⟨s4, s5, s6, (.tuple #[.int .i64 1, .int .i64 9900000, .int .i64 0]), s45, s46, s47, (.int .i64 1), s49, s50, by kernel_rfl, hB.out, f0.out, f1.out, f2.out, f3.out, fun _ => rfl, f5.out, f6.out, f7.out, f8.out, f9.out⟩
      · simp only [k08Deps, List.getD_cons_zero, List.getD_cons_succ, List.all_cons, List.all_nil, Bool.and_true] at hr
        have hd3 := hr
        obtain rfl := f3.out hd3
        refine wpOp_step rfl (fun K hK => ?_)
        simp only [sets, List.foldl_cons, List.foldl_nil, List.set_cons_succ, List.set_cons_zero]
        go_simp
        exact hK _ _ ⟨s4, s5, s6, (.tuple #[.int .i64 1, .int .i64 9900000, .int .i64 0]), s45, s46, s47, s48, (.int .i64 9900000), s50, by kernel_rfl, hB.out, f0.out, f1.out, f2.out, f3.out, f4.out, fun _ => rfl, f6.out, f7.out, f8.out, f9.out⟩
      · simp only [k08Deps, List.getD_cons_zero, List.getD_cons_succ, List.all_cons, List.all_nil, Bool.and_true] at hr
        have hd3 := hr
        obtain rfl := f3.out hd3
        refine wpOp_step rfl (fun K hK => ?_)
        simp only [sets, List.foldl_cons, List.foldl_nil, List.set_cons_succ, List.set_cons_zero]
        go_simp
        exact hK _ _ ⟨s4, s5, s6, (.tuple #[.int .i64 1, .int .i64 9900000, .int .i64 0]), s45, s46, s47, s48, s49, (.int .i64 0), by kernel_rfl, hB.out, f0.out, f1.out, f2.out, f3.out, f4.out, f5.out, fun _ => rfl, f7.out, f8.out, f9.out⟩
      · simp only [k08Deps, List.getD_cons_zero, List.getD_cons_succ, List.all_cons, List.all_nil, Bool.and_true] at hr
        have hd4 := hr
        obtain rfl := f4.out hd4
        refine wpOp_step rfl (fun K hK => ?_)
        simp only [sets, List.foldl_cons, List.foldl_nil, List.set_cons_succ, List.set_cons_zero]
        go_simp
        exact hK _ _ ⟨(.int .i64 1), s5, s6, s44, s45, s46, s47, (.int .i64 1), s49, s50, by kernel_rfl, hB.out, f0.out, f1.out, f2.out, f3.out, f4.out, f5.out, f6.out, fun _ => rfl, f8.out, f9.out⟩
      · simp only [k08Deps, List.getD_cons_zero, List.getD_cons_succ, List.all_cons, List.all_nil, Bool.and_true] at hr
        have hd5 := hr
        obtain rfl := f5.out hd5
        refine wpOp_step rfl (fun K hK => ?_)
        simp only [sets, List.foldl_cons, List.foldl_nil, List.set_cons_succ, List.set_cons_zero]
        go_simp
        exact hK _ _ ⟨s4, (.int .i64 9900000), s6, s44, s45, s46, s47, s48, (.int .i64 9900000), s50, by kernel_rfl, hB.out, f0.out, f1.out, f2.out, f3.out, f4.out, f5.out, f6.out, f7.out, fun _ => rfl, f9.out⟩
      · simp only [k08Deps, List.getD_cons_zero, List.getD_cons_succ, List.all_cons, List.all_nil, Bool.and_true] at hr
        have hd6 := hr
        obtain rfl := f6.out hd6
        refine wpOp_step rfl (fun K hK => ?_)
        simp only [sets, List.foldl_cons, List.foldl_nil, List.set_cons_succ, List.set_cons_zero]
        go_simp
        exact hK _ _ ⟨s4, s5, (.int .i64 0), s44, s45, s46, s47, s48, s49, (.int .i64 0), by kernel_rfl, hB.out, f0.out, f1.out, f2.out, f3.out, f4.out, f5.out, f6.out, f7.out, f8.out, fun _ => rfl⟩
      · have hi := hi.out; simp at hi
  rintro aq W6 ⟨ha4, hb⟩
  generalize aq.tmps.getD 44 undef = t44 at ha4
  generalize aq.tmps.getD 45 undef = t45 at ha4
  generalize aq.tmps.getD 46 undef = t46 at ha4
  generalize aq.tmps.getD 47 undef = t47 at ha4
  generalize aq.tmps.getD 48 undef = t48 at ha4
  generalize aq.tmps.getD 49 undef = t49 at ha4
  generalize aq.tmps.getD 50 undef = t50 at ha4
  subst ha4
  simp only [sets, List.foldl_cons, List.foldl_nil, List.set_cons_succ, List.set_cons_zero]
  replace hBw := Go.Lib.hid (hBw.out.trans (hb.mono hBw.out.size))
  replace hlim := hlimw.on hBw.out
  replace r1 := (hb.block B1 (row_lt r1)).trans r1
  clear hb
  have z2 : W6.frozen? ⟨B1, 2, none⟩ = false := frozen_row r1
  have w2 : W6.cell? ⟨B1, 2, none⟩ = some (.int .i64 99000) := (cell_of_row W6 _ 2 _ _ _ r1).trans rfl
  have lz := row_lt r1
  go_upto_region 10 with (first | ((first | with_reducible refine wrx2 ?_ | with_reducible refine wrx ?_); (repeat (first | go_big_quiet_step ((first | fail)) | quiet_step ((first | fail)))); refine wpQuiet_nil ?_; rintro _ ⟨yr, rfl⟩; have syr := Ext.size yr; (repeat (first | rw [World.size_alloc] at syr | rw [World.size_setCell] at syr | rw [World.size_drew] at syr)); have : B1 < yr.now.heap.size := (by omega); have : B1 ≤ yr.now.heap.size := (by omega); have : B1 < yr.now.heap.size + 1 + 1 := (by omega)))
  refine wp_named (fun W7 hW => ?_)
  have u0 := heap_setCell (o := 2) r1 (.int .i64 10000)
  rw [hW] at u0
  have un : W7.heap[B1]? = some (.cells #[.int .i64 10, .int .i64 1000, .int .i64 10000, .int .i64 0, .int .i64 1000, .bool false, .int .i64 100, .int .i64 1000] 57 (0, 0)) := u0.trans rfl
  have ho : ∀ B, B ≠ B1 → W7.heap[B]? = W6.heap[B]? := fun B hne => by rw [← hW]; exact Eq.trans (heap_setCell_ne hne _) (rfl)
  have hBn : Below w.heap.size w W7 := by rw [← hW]; exact (hBw.out.setCell (show w.heap.size ≤ B1 by omega) _)
  replace r1 := un
  replace hBw := Go.Lib.hid hBn
  replace hlim := hlimw.on hBn
  clear hW ho hBn un lz z2 w2 u0
  refine wp_tell k10Told ?_ ?_
  focus
    clear ca cs hBw hlimw
    repeat (rename_i zz; clear zz)
    refine region_dep (by kernel_rfl) k10Deps (by kernel_rfl) k10Inv ?h0 ?hstep ?hend
    case h0 =>
      refine ⟨?z7, ?z8, ?z9, ?z52, ?z53, ?z54, ?z55, ?z56, ?z57, ?z58, ?fr, (Below.refl _ _).drew, by simp, by simp, by simp, by simp, by simp, by simp, by simp, by simp, by simp, by simp⟩
      case fr =>
        simp only [sets, List.foldl_cons, List.foldl_nil, List.set_cons_succ, List.set_cons_zero]
        rfl
    case hend =>
      intro l' fr W hl hall hInv
      unfold k10Inv at hInv
      obtain ⟨s7, s8, s9, s52, s53, s54, s55, s56, s57, s58, hInv⟩ := hInv
      obtain ⟨hfr, hB, f0, f1, f2, f3, f4, f5, f6, f7, f8, f9⟩ := hInv
      subst hfr
      obtain ⟨b0, b1, b2, b3, b4, b5, b6, b7, b8, b9, rfl⟩ := list10 hl
      simp only [List.getD_cons_zero, List.getD_cons_succ] at f0 f1 f2 f3 f4 f5 f6 f7 f8 f9
      simp only [List.all_cons, id, Bool.and_eq_true] at hall
      obtain ⟨e0, e1, e2, e3, e4, e5, e6, e7, e8, e9, -⟩ := hall
      obtain rfl := f7 e7
      obtain rfl := f8 e8
      obtain rfl := f9 e9
      exact ⟨rfl, by kernel_rfl, hB⟩
    case hstep =>
      intro l' fr W ii hl hInv hr hi
      unfold k10Inv at hInv
      obtain ⟨s7, s8, s9, s52, s53, s54, s55, s56, s57, s58, hInv⟩ := hInv
      obtain ⟨hfr, hB, f0, f1, f2, f3, f4, f5, f6, f7, f8, f9⟩ := hInv
      subst hfr
      obtain ⟨b0, b1, b2, b3, b4, b5, b6, b7, b8, b9, rfl⟩ := list10 hl
      have sW := hB.size
      replace r1 := (hB.block B1 (row_lt r1)).trans r1
      have p0 : W.cell? ⟨B1, 0, none⟩ = some (.int .i64 10) := (cell_of_row W _ 0 _ _ _ r1).trans rfl
      have p1 : W.cell? ⟨B1, 1, none⟩ = some (.int .i64 1000) := (cell_of_row W _ 1 _ _ _ r1).trans rfl
      have p2 : W.cell? ⟨B1, 2, none⟩ = some (.int .i64 10000) := (cell_of_row W _ 2 _ _ _ r1).trans rfl
      have p3 : W.cell? ⟨B1, 3, none⟩ = some (.int .i64 0) := (cell_of_row W _ 3 _ _ _ r1).trans rfl
      have p4 : W.cell? ⟨B1, 4, none⟩ = some (.int .i64 1000) := (cell_of_row W _ 4 _ _ _ r1).trans rfl
      have p5 : W.cell? ⟨B1, 5, none⟩ = some (.bool false) := (cell_of_row W _ 5 _ _ _ r1).trans rfl
      have p6 : W.cell? ⟨B1, 6, none⟩ = some (.int .i64 100) := (cell_of_row W _ 6 _ _ _ r1).trans rfl
      have p7 : W.cell? ⟨B1, 7, none⟩ = some (.int .i64 1000) := (cell_of_row W _ 7 _ _ _ r1).trans rfl
      simp only [List.getD_cons_zero, List.getD_cons_succ] at f0 f1 f2 f3 f4 f5 f6 f7 f8 f9
      replace hB := Go.Lib.hid hB
      replace hi := Go.Lib.hid hi
      replace f0 := Go.Lib.hid f0
      replace f1 := Go.Lib.hid f1
      replace f2 := Go.Lib.hid f2
      replace f3 := Go.Lib.hid f3
      replace f4 := Go.Lib.hid f4
      replace f5 := Go.Lib.hid f5
      replace f6 := Go.Lib.hid f6
      replace f7 := Go.Lib.hid f7
      replace f8 := Go.Lib.hid f8
      replace f9 := Go.Lib.hid f9
      rcases ii with _ | _ | _ | _ | _ | _ | _ | _ | _ | _ | ii
      · have hi := hi.out
        simp only [List.getElem?_cons_zero, Option.some.injEq] at hi
        subst hi
        refine wpOp_step rfl (fun K hK => ?_)
        simp only [sets, List.foldl_cons, List.foldl_nil, List.set_cons_succ, List.set_cons_zero]
        go_simp
        refine (air_any W).mono ?_
        rintro _ W6 ⟨p, rfl, hb, hv⟩
        exact hK _ _ ⟨s7, s8, s9, s52, (.slice p 2 2), s54, s55, s56, s57, s58, by kernel_rfl, hB.out.trans (hb.mono sW), (fun _ => ⟨p, rfl, hv⟩), f1.out, f2.out, f3.out, f4.out, f5.out, f6.out, f7.out, f8.out, f9.out⟩
      · refine wpOp_step rfl (fun K hK => ?_)
        simp only [sets, List.foldl_cons, List.foldl_nil, List.set_cons_succ, List.set_cons_zero]
        go_simp
        exact hK _ _ ⟨s7, s8, s9, s52, s53, (.agg #[.int .i64 10, .int .i64 1000, .int .i64 10000, .int .i64 0, .int .i64 1000, .bool false, .int .i64 100, .int .i64 1000]), s55, s56, s57, s58, by kernel_rfl, hB.out, f0.out, fun _ => rfl, f2.out, f3.out, f4.out, f5.out, f6.out, f7.out, f8.out, f9.out⟩
      · simp only [k10Deps, List.getD_cons_zero, List.getD_cons_succ, List.all_cons, List.all_nil, Bool.and_true, Bool.and_eq_true] at hr
        obtain ⟨hd0, hd1⟩ := hr
        obtain rfl := f1.out hd1
        obtain ⟨pa, rfl, va⟩ := f0.out hd0
        refine wpOp_step rfl (fun K hK => ?_)
        simp only [sets, List.foldl_cons, List.foldl_nil, List.set_cons_succ, List.set_cons_zero]
        go_simp
        refine (kn_ends2 pa W (hlim.on hB.out) va).mono ?_
        rintro _ W6 ⟨rfl, hb⟩
        exact hK _ _ ⟨s7, s8, s9, s52, (.slice pa 2 2), (.agg #[.int .i64 10, .int .i64 1000, .int .i64 10000, .int .i64 0, .int .i64 1000, .bool false, .int .i64 100, .int .i64 1000]), (.tuple #[.int .i64 0, .int .i64 10000000, .int .i64 0]), s56, s57, s58, by kernel_rfl, hB.out.trans (hb.mono sW), (fun _ => ⟨pa, rfl, va.on hb⟩), f1.out, fun _ => rfl, f3.out, f4.out, f5.out, f6.out, f7.out, f8.out, f9.out⟩
      · simp only [k10Deps, List.getD_cons_zero, List.getD_cons_succ, List.all_cons, List.all_nil, Bool.and_true] at hr
        have hd2 := hr
        obtain rfl := f2.out hd2
        refine wpOp_step rfl (fun K hK => ?_)
        simp only [sets, List.foldl_cons, List.foldl_nil, List.set_cons_succ, List.set_cons_zero]
        go_simp
        exact hK _ _ ⟨s7, s8, s9, (.tuple #[.int .i64 0, .int .i64 10000000, .int .i64 0]), s53, s54, (.tuple #[.int .i64 0, .int .i64 10000000, .int .i64 0]), s56, s57, s58, by kernel_rfl, hB.out, f0.out, f1.out, f2.out, fun _ => rfl, f4.out, f5.out, f6.out, f7.out, f8.out, f9.out⟩
      · simp only [k10Deps, List.getD_cons_zero, List.getD_cons_succ, List.all_cons, List.all_nil, Bool.and_true] at hr
        have hd3 := hr
        obtain rfl := f3.out hd3
        refine wpOp_step rfl (fun K hK => ?_)
        simp only [sets, List.foldl_cons, List.foldl_nil, List.set_cons_succ, List.set_cons_zero]
        go_simp
        exact hK _ _ ⟨s7, s8, s9, (.tuple #[.int .i64 0, .int .i64 10000000, .int .i64 0]), s53, s54, s55, (.int .i64 0), s57, s58, by kernel_rfl, hB.out, f0.out, f1.out, f2.out, f3.out, fun _ => rfl, f5.out, f6.out, f7.out, f8.out, f9.out⟩
      · simp only [k10Deps, List.getD_cons_zero, List.getD_cons_succ, List.all_cons, List.all_nil, Bool.and_true] at hr
        have hd3 := hr
        obtain rfl := f3.out hd3
        refine wpOp_step rfl (fun K hK => ?_)
        simp only [sets, List.foldl_cons, List.foldl_nil, List.set_cons_succ, List.set_cons_zero]
        go_simp
        exact hK _ _ ⟨s7, s8, s9, (.tuple #[.int .i64 0, .int .i64 10000000, .int .i64 0]), s53, s54, s55, s56, (.int .i64 10000000), s58, by kernel_rfl, hB.out, f0.out, f1.out, f2.out, f3.out, f4.out, fun _ => rfl, f6.out, f7.out, f8.out, f9.out⟩
      · simp only [k10Deps, List.getD_cons_zero, List.getD_cons_succ, List.all_cons, List.all_nil, Bool.and_true] at hr
        have hd3 := hr
        obtain rfl := f3.out hd3
        refine wpOp_step rfl (fun K hK => ?_)
        simp only [sets, List.foldl_cons, List.foldl_nil, List.set_cons_succ, List.set_cons_zero]
        go_simp
        exact hK _ _ ⟨s7, s8, s9, (.tuple #[.int .i64 0, .int .i64 10000000, .int .i64 0]), s53, s54, s55, s56, s57, (.int .i64 0), by kernel_rfl, hB.out, f0.out, f1.out, f2.out, f3.out, f4.out, f5.out, fun _ => rfl, f7.out, f8.out, f9.out⟩
      · simp only [k10Deps, List.getD_cons_zero, List.getD_cons_succ, List.all_cons, List.all_nil, Bool.and_true] at hr
        have hd4 := hr
        obtain rfl := f4.out hd4
        refine wpOp_step rfl (fun K hK => ?_)
        simp only [sets, List.foldl_cons, List.foldl_nil, List.set_cons_succ, List.set_cons_zero]
        go_simp
        exact hK _ _ ⟨(.int .i64 0), s8, s9, s52, s53, s54, s55, (.int .i64 0), s57, s58, by kernel_rfl, hB.out, f0.out, f1.out, f2.out, f3.out, f4.out, f5.out, f6.out, fun _ => rfl, f8.out, f9.out⟩
      · simp only [k10Deps, List.getD_cons_zero, List.getD_cons_succ, List.all_cons, List.all_nil, Bool.and_true] at hr
        have hd5 := hr
        obtain rfl := f5.out hd5
        refine wpOp_step rfl (fun K hK => ?_)
        simp only [sets, List.foldl_cons, List.foldl_nil, List.set_cons_succ, List.set_cons_zero]
        go_simp
        exact hK _ _ ⟨s7, (.int .i64 10000000), s9, s52, s53, s54, s55, s56, (.int .i64 10000000), s58, by kernel_rfl, hB.out, f0.out, f1.out, f2.out, f3.out, f4.out, f5.out, f6.out, f7.out, fun _ => rfl, f9.out⟩
      · simp only [k10Deps, List.getD_cons_zero, List.getD_cons_succ, List.all_cons, List.all_nil, Bool.and_true] at hr
        have hd6 := hr
        obtain rfl := f6.out hd6
        refine wpOp_step rfl (fun K hK => ?_)
        simp only [sets, List.foldl_cons, List.foldl_nil, List.set_cons_succ, List.set_cons_zero]
        go_simp
        exact hK _ _ ⟨s7, s8, (.int .i64 0), s52, s53, s54, s55, s56, s57, (.int .i64 0), by kernel_rfl, hB.out, f0.out, f1.out, f2.out, f3.out, f4.out, f5.out, f6.out, f7.out, f8.out, fun _ => rfl⟩
      · have hi := hi.out; simp at hi
  rintro aq W8 ⟨ha4, hb⟩
  generalize aq.tmps.getD 52 undef = t52 at ha4
  generalize aq.tmps.getD 53 undef = t53 at ha4
  generalize aq.tmps.getD 54 undef = t54 at ha4
  generalize aq.tmps.getD 55 undef = t55 at ha4
  generalize aq.tmps.getD 56 undef = t56 at ha4
  generalize aq.tmps.getD 57 undef = t57 at ha4
  generalize aq.tmps.getD 58 undef = t58 at ha4
  subst ha4
  simp only [sets, List.foldl_cons, List.foldl_nil, List.set_cons_succ, List.set_cons_zero]
  replace hBw := Go.Lib.hid (hBw.out.trans (hb.mono hBw.out.size))
  replace hlim := hlimw.on hBw.out
  clear hb
  have crk := fun W => rock_any W
  unfold rockL fallL RockR.val FallR.val at crk
  simp only at crk
  clear r1 cs
  go_upto_region 13 with (first | ((first | with_reducible refine wrx2 ?_ | with_reducible refine wrx ?_); (repeat (first | go_big_quiet_step ((first | (go_at_call 25; with_reducible exact Calls.ext (crk _)))) | quiet_step ((first | (go_at_call 25; with_reducible exact Calls.ext (crk _)))))); refine wpQuiet_nil ?_; rintro _ ⟨yr, rfl⟩; have syr := Ext.size yr; (repeat (first | rw [World.size_alloc] at syr | rw [World.size_setCell] at syr | rw [World.size_drew] at syr))) | (go_at_call 25; (first | with_reducible refine (Calls.giv2 (crk _)).mono ?_ | with_reducible refine (Calls.giv (crk _)).mono ?_); rintro _ _ ⟨y1, rfl, rfl⟩; have sy1 := Ext.size y1; (repeat (first | rw [World.size_alloc] at sy1 | rw [World.size_setCell] at sy1 | rw [World.size_drew] at sy1))))
  refine wp_named (fun W9 hW => ?_)
  obtain ⟨rk, rf⟩ := alloc2_rows hW
  have hb : Below W8.heap.size W8 W9 := by rw [← hW]; exact (y1.grew.alloc y1.size _).alloc (by have := y1.size; simp only [World.size_alloc]; omega) _
  clear hW
  obtain ⟨KB, hKB⟩ : ∃ n, y1.now.heap.size = n := ⟨_, rfl⟩
  rw [hKB] at rk rf
  rw [hKB]
  clear hKB crk
  replace hBw := Go.Lib.hid (hBw.out.trans (hb.mono hBw.out.size))
  replace hlim := hlimw.on hBw.out
  clear hb
  refine wp_tell k13Told ?_ ?_
  focus
    clear ca hBw hlimw
    repeat (rename_i zz; clear zz)
    refine region_dep (by kernel_rfl) k13Deps (by kernel_rfl) k13Inv ?h0 ?hstep ?hend
    case h0 =>
      refine ⟨.int .i64 0, ?z13, ?z85, ?z86, ?z87, ?z88, ?z89, ?z90, ?z91, ?fr, (Below.refl _ _).drew, by simp, by simp, by simp, by simp, by simp, by simp, by simp, by simp, by simp⟩
      case fr =>
        simp only [sets, List.foldl_cons, List.foldl_nil, List.set_cons_succ, List.set_cons_zero]
        rfl
    case hend =>
      intro l' fr W hl hall hInv
      unfold k13Inv at hInv
      obtain ⟨s6, s13, s85, s86, s87, s88, s89, s90, s91, hInv⟩ := hInv
      obtain ⟨hfr, hB, f0, f1, f2, f3, f4, f5, f6, f7, f8⟩ := hInv
      subst hfr
      obtain ⟨b0, b1, b2, b3, b4, b5, b6, b7, b8, rfl⟩ := list9 hl
      simp only [List.getD_cons_zero, List.getD_cons_succ] at f0 f1 f2 f3 f4 f5 f6 f7 f8
      simp only [List.all_cons, id, Bool.and_eq_true] at hall
      obtain ⟨e0, e1, e2, e3, e4, e5, e6, e7, e8, -⟩ := hall
      obtain ⟨q, c, rfl, hv⟩ := f7 e7
      obtain rfl := f8 e8
      exact ⟨rfl, q, c, by kernel_rfl, hB, hv⟩
    case hstep =>
      intro l' fr W ii hl hInv hr hi
      unfold k13Inv at hInv
      obtain ⟨s6, s13, s85, s86, s87, s88, s89, s90, s91, hInv⟩ := hInv
      obtain ⟨hfr, hB, f0, f1, f2, f3, f4, f5, f6, f7, f8⟩ := hInv
      subst hfr
      obtain ⟨b0, b1, b2, b3, b4, b5, b6, b7, b8, rfl⟩ := list9 hl
      have sW := hB.size
      replace rk := (hB.block KB (row_lt rk)).trans rk
      replace rf := (hB.block (KB + 1) (row_lt rf)).trans rf
      have c0 : W.cell? ⟨KB, 0, none⟩ = some (.int .i64 10) := (cell_of_row W _ 0 _ _ _ rk).trans rfl
      have c1 : W.cell? ⟨KB, 1, none⟩ = some (.int .i64 10) := (cell_of_row W _ 1 _ _ _ rk).trans rfl
      have c2 : W.cell? ⟨KB, 2, none⟩ = some (.int .i64 1000) := (cell_of_row W _ 2 _ _ _ rk).trans rfl
      have c3 : W.cell? ⟨KB, 3, none⟩ = some (.int .i64 1000) := (cell_of_row W _ 3 _ _ _ rk).trans rfl
      have c4 : W.cell? ⟨KB, 4, none⟩ = some (.int .i64 50000) := (cell_of_row W _ 4 _ _ _ rk).trans rfl
      have c5 : W.cell? ⟨KB, 5, none⟩ = some (.int .i64 1000000) := (cell_of_row W _ 5 _ _ _ rk).trans rfl
      have c6 : W.cell? ⟨KB, 6, none⟩ = some (.int .i64 0) := (cell_of_row W _ 6 _ _ _ rk).trans rfl
      have c7 : W.cell? ⟨KB, 7, none⟩ = some (.int .i64 0) := (cell_of_row W _ 7 _ _ _ rk).trans rfl
      have c8 : W.cell? ⟨KB, 8, none⟩ = some (.int .i64 1000) := (cell_of_row W _ 8 _ _ _ rk).trans rfl
      have c9 : W.cell? ⟨KB, 9, none⟩ = some (.int .i64 1000) := (cell_of_row W _ 9 _ _ _ rk).trans rfl
      have c10 : W.cell? ⟨KB, 10, none⟩ = some (.bool false) := (cell_of_row W _ 10 _ _ _ rk).trans rfl
      have d0 : W.cell? ⟨(KB + 1), 0, none⟩ = some (.int .i64 100) := (cell_of_row W _ 0 _ _ _ rf).trans rfl
      have d1 : W.cell? ⟨(KB + 1), 1, none⟩ = some (.int .i64 100) := (cell_of_row W _ 1 _ _ _ rf).trans rfl
      have d2 : W.cell? ⟨(KB + 1), 2, none⟩ = some (.int .i64 1000) := (cell_of_row W _ 2 _ _ _ rf).trans rfl
      have d3 : W.cell? ⟨(KB + 1), 3, none⟩ = some (.int .i64 1000) := (cell_of_row W _ 3 _ _ _ rf).trans rfl
      simp only [List.getD_cons_zero, List.getD_cons_succ] at f0 f1 f2 f3 f4 f5 f6 f7 f8
      replace hB := Go.Lib.hid hB
      replace hi := Go.Lib.hid hi
      replace f0 := Go.Lib.hid f0
      replace f1 := Go.Lib.hid f1
      replace f2 := Go.Lib.hid f2
      replace f3 := Go.Lib.hid f3
      replace f4 := Go.Lib.hid f4
      replace f5 := Go.Lib.hid f5
      replace f6 := Go.Lib.hid f6
      replace f7 := Go.Lib.hid f7
      replace f8 := Go.Lib.hid f8
      rcases ii with _ | _ | _ | _ | _ | _ | _ | _ | _ | ii
      · have hi := hi.out
        simp only [List.getElem?_cons_zero, Option.some.injEq] at hi
        subst hi
        refine wpOp_step rfl (fun K hK => ?_)
        simp only [sets, List.foldl_cons, List.foldl_nil, List.set_cons_succ, List.set_cons_zero]
        go_simp
        refine (air_any W).mono ?_
        rintro _ W6 ⟨p, rfl, hb, hv⟩
        exact hK _ _ ⟨s6, s13, s85, (.slice p 2 2), s87, s88, s89, s90, s91, by kernel_rfl, hB.out.trans (hb.mono sW), (fun _ => ⟨p, rfl, hv⟩), f1.out, f2.out, (fun h => by obtain ⟨q, c, e', hv'⟩ := f3.out h; exact ⟨q, c, e', hv'.on hb⟩), (fun h => by obtain ⟨q, c, e', hv'⟩ := f4.out h; exact ⟨q, c, e', hv'.on hb⟩), (fun h => by obtain ⟨q, c, e', hv'⟩ := f5.out h; exact ⟨q, c, e', hv'.on hb⟩), f6.out, (fun h => by obtain ⟨q, c, e', hv'⟩ := f7.out h; exact ⟨q, c, e', hv'.on hb⟩), f8.out⟩
      · refine wpOp_step rfl (fun K hK => ?_)
        simp only [sets, List.foldl_cons, List.foldl_nil, List.set_cons_succ, List.set_cons_zero]
        go_simp
        exact hK _ _ ⟨s6, s13, s85, s86, (.agg #[.int .i64 10, .int .i64 10, .int .i64 1000, .int .i64 1000, .int .i64 50000, .int .i64 1000000, .int .i64 0, .int .i64 0, .int .i64 1000, .int .i64 1000, .bool false]), s88, s89, s90, s91, by kernel_rfl, hB.out, f0.out, fun _ => rfl, f2.out, f3.out, f4.out, f5.out, f6.out, f7.out, f8.out⟩
      · refine wpOp_step rfl (fun K hK => ?_)
        simp only [sets, List.foldl_cons, List.foldl_nil, List.set_cons_succ, List.set_cons_zero]
        go_simp
        exact hK _ _ ⟨s6, s13, s85, s86, s87, (.agg #[.int .i64 100, .int .i64 100, .int .i64 1000, .int .i64 1000]), s89, s90, s91, by kernel_rfl, hB.out, f0.out, f1.out, fun _ => rfl, f3.out, f4.out, f5.out, f6.out, f7.out, f8.out⟩
      · simp only [k13Deps, List.getD_cons_zero, List.getD_cons_succ, List.all_cons, List.all_nil, Bool.and_true, Bool.and_eq_true] at hr
        obtain ⟨hd0, hd1, hd2⟩ := hr
        obtain rfl := f1.out hd1
        obtain rfl := f2.out hd2
        obtain ⟨pa, rfl, va⟩ := f0.out hd0
        refine wpOp_step rfl (fun K hK => ?_)
        simp only [sets, List.foldl_cons, List.foldl_nil, List.set_cons_succ, List.set_cons_zero]
        go_simp
        refine (kn_blows pa W (hlim.on hB.out) va).mono ?_
        rintro _ W6 ⟨q, c, rfl, hb, hv⟩
        exact hK _ _ ⟨s6, s13, s85, (.slice pa 2 2), (.agg #[.int .i64 10, .int .i64 10, .int .i64 1000, .int .i64 1000, .int .i64 50000, .int .i64 1000000, .int .i64 0, .int .i64 0, .int .i64 1000, .int .i64 1000, .bool false]), (.agg #[.int .i64 100, .int .i64 100, .int .i64 1000, .int .i64 1000]), (.tuple #[.slice q 2 c, .int .i64 0]), s90, s91, by kernel_rfl, hB.out.trans (hb.mono sW), (fun _ => ⟨pa, rfl, va.on hb⟩), f1.out, f2.out, (fun _ => ⟨q, c, rfl, hv⟩), (fun h => by obtain ⟨q, c, e', hv'⟩ := f4.out h; exact ⟨q, c, e', hv'.on hb⟩), (fun h => by obtain ⟨q, c, e', hv'⟩ := f5.out h; exact ⟨q, c, e', hv'.on hb⟩), f6.out, (fun h => by obtain ⟨q, c, e', hv'⟩ := f7.out h; exact ⟨q, c, e', hv'.on hb⟩), f8.out⟩
      · simp only [k13Deps, List.getD_cons_zero, List.getD_cons_succ, List.all_cons, List.all_nil, Bool.and_true] at hr
        have hd3 := hr
        obtain ⟨q, c, rfl, hv⟩ := f3.out hd3
        refine wpOp_step rfl (fun K hK => ?_)
        simp only [sets, List.foldl_cons, List.foldl_nil, List.set_cons_succ, List.set_cons_zero]
        go_simp
        exact hK _ _ ⟨s6, s13, (.tuple #[.slice q 2 c, .int .i64 0]), s86, s87, s88, (.tuple #[.slice q 2 c, .int .i64 0]), s90, s91, by kernel_rfl, hB.out, f0.out, f1.out, f2.out, (fun _ => ⟨q, c, rfl, hv⟩), (fun _ => ⟨q, c, rfl, hv⟩), f5.out, f6.out, f7.out, f8.out⟩
      · simp only [k13Deps, List.getD_cons_zero, List.getD_cons_succ, List.all_cons, List.all_nil, Bool.and_true] at hr
        have hd4 := hr
        obtain ⟨q, c, rfl, hv⟩ := f4.out hd4
        refine wpOp_step rfl (fun K hK => ?_)
        simp only [sets, List.foldl_cons, List.foldl_nil, List.set_cons_succ, List.set_cons_zero]
        go_simp
        exact hK _ _ ⟨s6, s13, (.tuple #[.slice q 2 c, .int .i64 0]), s86, s87, s88, s89, (.slice q 2 c), s91, by kernel_rfl, hB.out, f0.out, f1.out, f2.out, f3.out, (fun _ => ⟨q, c, rfl, hv⟩), (fun _ => ⟨q, c, rfl, hv⟩), f6.out, f7.out, f8.out⟩
      · simp only [k13Deps, List.getD_cons_zero, List.getD_cons_succ, List.all_cons, List.all_nil, Bool.and_true] at hr
        have hd4 := hr
        obtain ⟨q, c, rfl, hv⟩ := f4.out hd4
        refine wpOp_step rfl (fun K hK => ?_)
        simp only [sets, List.foldl_cons, List.foldl_nil, List.set_cons_succ, List.set_cons_zero]
        go_simp
        exact hK _ _ ⟨s6, s13, (.tuple #[.slice q 2 c, .int .i64 0]), s86, s87, s88, s89, s90, (.int .i64 0), by kernel_rfl, hB.out, f0.out, f1.out, f2.out, f3.out, (fun _ => ⟨q, c, rfl, hv⟩), f5.out, fun _ => rfl, f7.out, f8.out⟩
      · simp only [k13Deps, List.getD_cons_zero, List.getD_cons_succ, List.all_cons, List.all_nil, Bool.and_true] at hr
        have hd5 := hr
        obtain ⟨q, c, rfl, hv⟩ := f5.out hd5
        refine wpOp_step rfl (fun K hK => ?_)
        simp only [sets, List.foldl_cons, List.foldl_nil, List.set_cons_succ, List.set_cons_zero]
        go_simp
        exact hK _ _ ⟨s6, (.slice q 2 c), s85, s86, s87, s88, s89, (.slice q 2 c), s91, by kernel_rfl, hB.out, f0.out, f1.out, f2.out, f3.out, f4.out, (fun _ => ⟨q, c, rfl, hv⟩), f6.out, (fun _ => ⟨q, c, rfl, hv⟩), f8.out⟩
      · simp only [k13Deps, List.getD_cons_zero, List.getD_cons_succ, List.all_cons, List.all_nil, Bool.and_true] at hr
        have hd6 := hr
        obtain rfl := f6.out hd6
        refine wpOp_step rfl (fun K hK => ?_)
        simp only [sets, List.foldl_cons, List.foldl_nil, List.set_cons_succ, List.set_cons_zero]
        go_simp
        exact hK _ _ ⟨(.int .i64 0), s13, s85, s86, s87, s88, s89, s90, (.int .i64 0), by kernel_rfl, hB.out, f0.out, f1.out, f2.out, f3.out, f4.out, f5.out, f6.out, f7.out, fun _ => rfl⟩
      · have hi := hi.out; simp at hi
  rintro aq Wa ⟨qb, cb, ha4, hb, hvb⟩
  generalize aq.tmps.getD 85 undef = t85 at ha4
  generalize aq.tmps.getD 86 undef = t86 at ha4
  generalize aq.tmps.getD 87 undef = t87 at ha4
  generalize aq.tmps.getD 88 undef = t88 at ha4
  generalize aq.tmps.getD 89 undef = t89 at ha4
  generalize aq.tmps.getD 90 undef = t90 at ha4
  generalize aq.tmps.getD 91 undef = t91 at ha4
  subst ha4
  simp only [sets, List.foldl_cons, List.foldl_nil, List.set_cons_succ, List.set_cons_zero]
  replace hBw := Go.Lib.hid (hBw.out.trans (hb.mono hBw.out.size))
  replace hlim := hlimw.on hBw.out
  replace rk := (hb.block KB (row_lt rk)).trans rk
  replace rf := (hb.block (KB + 1) (row_lt rf)).trans rf
  clear hb
  have co1 := fun W => of_any 9900000 9900000 W
  have co2 := fun W => of_any 8910000 8910000 W
  replace hvb := Go.Lib.hid hvb
  go_upto_region 15 with (first | ((first | with_reducible refine wrx2 ?_ | with_reducible refine wrx ?_); (repeat (first | go_big_quiet_step ((first | (go_at_call 28; with_reducible exact Calls.ext (co1 _)) | (go_at_call 28; with_reducible exact Calls.ext (co2 _)))) | quiet_step ((first | (go_at_call 28; with_reducible exact Calls.ext (co1 _)) | (go_at_call 28; with_reducible exact Calls.ext (co2 _)))))); refine wpQuiet_nil ?_; rintro _ ⟨yr, rfl⟩; have syr := Ext.size yr; (repeat (first | rw [World.size_alloc] at syr | rw [World.size_setCell] at syr | rw [World.size_drew] at syr))) | (go_at_call 28; (first | with_reducible refine (Calls.giv2 (co1 _)).mono ?_ | with_reducible refine (Calls.giv (co1 _)).mono ?_); rintro _ _ ⟨y1, rfl, rfl⟩; have sy1 := Ext.size y1; (repeat (first | rw [World.size_alloc] at sy1 | rw [World.size_setCell] at sy1 | rw [World.size_drew] at sy1))) | (go_at_call 28; (first | with_reducible refine (Calls.giv2 (co2 _)).mono ?_ | with_reducible refine (Calls.giv (co2 _)).mono ?_); rintro _ _ ⟨y2, rfl, rfl⟩; have sy2 := Ext.size y2; (repeat (first | rw [World.size_alloc] at sy2 | rw [World.size_setCell] at sy2 | rw [World.size_drew] at sy2))) | (go_at_call 27; refine (Calls.giv (SameBlows_eq _ _ _ _ [⟨1, 9900000, 9900000⟩, ⟨2, 8910000, 8910000⟩] _ (hvb.out.on bcl) (blk_lit _ _) (by decide))).mono ?_; rintro _ _ ⟨y9, rfl, rfl⟩; have sy9 := y9.size))
  refine wp_named (fun Wb hW => ?_)
  have hb : Below Wa.heap.size Wa Wb := by rw [← hW]; repeat' (first | (with_reducible exact Below.refl _ _) | (with_reducible assumption) | (with_reducible refine Ext.below _ ?_ ?_) | (with_reducible refine Below.on ?_ (by with_reducible assumption) ?_) | (with_reducible refine Below.alloc ?_ ?_ _) | (with_reducible refine Below.drew ?_) | (with_reducible refine Below.setCell ?_ ?_ _) | (with_reducible exact Nat.le_refl _) | omega | (simp; done) | (simp [go_sem]; done) | (simp at *; omega))
  clear hW hvb co1 co2
  replace hBw := Go.Lib.hid (hBw.out.trans (hb.mono hBw.out.size))
  replace hlim := hlimw.on hBw.out
  replace rk := (hb.block KB (row_lt rk)).trans rk
  replace rf := (hb.block (KB + 1) (row_lt rf)).trans rf
  clear hb
  have cc := fun W => kn_crater W
  go_upto_region 16 with (first | ((first | with_reducible refine wrx2 ?_ | with_reducible refine wrx ?_); (repeat (first | go_big_quiet_step ((first | (go_at_call 29; with_reducible exact Calls.ext (cc _)))) | quiet_step ((first | (go_at_call 29; with_reducible exact Calls.ext (cc _)))))); refine wpQuiet_nil ?_; rintro _ ⟨yr, rfl⟩; have syr := Ext.size yr; (repeat (first | rw [World.size_alloc] at syr | rw [World.size_setCell] at syr | rw [World.size_drew] at syr))) | (go_at_call 29; (first | with_reducible refine (Calls.giv2 (cc _)).mono ?_ | with_reducible refine (Calls.giv (cc _)).mono ?_); rintro _ _ ⟨y1, rfl, rfl⟩; have sy1 := Ext.size y1; (repeat (first | rw [World.size_alloc] at sy1 | rw [World.size_setCell] at sy1 | rw [World.size_drew] at sy1))) | (go_at_call 31; refine (grades_any _).mono ?_; rintro _ W1 ⟨p1, rfl, hb1, hv1⟩; have sz1 := hb1.size) | (go_at_call 30; with_reducible refine (Calls.giv (kn_reach 8910000 2 _ _ hv1 kn_waves.2.2.1)).mono ?_; rintro _ _ ⟨y9, rfl, rfl⟩; have sy9 := y9.size) | (go_at_call 30; with_reducible refine (Calls.giv (kn_reach 4999999 1 _ _ hv1 kn_waves.2.2.2.1)).mono ?_; rintro _ _ ⟨y9, rfl, rfl⟩; have sy9 := y9.size) | (go_at_call 30; with_reducible refine (Calls.giv (kn_reach 20000000 4 _ _ hv1 kn_waves.2.2.2.2.1)).mono ?_; rintro _ _ ⟨y9, rfl, rfl⟩; have sy9 := y9.size))
  refine wp_named (fun Wc hW => ?_)
  have hb : Below Wb.heap.size Wb Wc := by rw [← hW]; repeat' (first | (with_reducible exact Below.refl _ _) | (with_reducible assumption) | (with_reducible refine Ext.below _ ?_ ?_) | (with_reducible refine Below.on ?_ (by with_reducible assumption) ?_) | (with_reducible refine Below.alloc ?_ ?_ _) | (with_reducible refine Below.drew ?_) | (with_reducible refine Below.setCell ?_ ?_ _) | (with_reducible exact Nat.le_refl _) | omega | (simp; done) | (simp [go_sem]; done) | (simp at *; omega))
  clear hW
  replace hBw := Go.Lib.hid (hBw.out.trans (hb.mono hBw.out.size))
  replace hlim := hlimw.on hBw.out
  replace rk := (hb.block KB (row_lt rk)).trans rk
  replace rf := (hb.block (KB + 1) (row_lt rf)).trans rf
  clear hb
  go_upto_region 17 with (first | ((first | with_reducible refine wrx2 ?_ | with_reducible refine wrx ?_); (repeat (first | go_big_quiet_step ((first | fail)) | quiet_step ((first | fail)))); refine wpQuiet_nil ?_; rintro _ ⟨yr, rfl⟩; have syr := Ext.size yr; (repeat (first | rw [World.size_alloc] at syr | rw [World.size_setCell] at syr | rw [World.size_drew] at syr))) | (go_at_call 33; refine (land_any2 _).mono ?_; rintro _ W3 ⟨p3, q3, rfl, hb3, ha3⟩; have sz3 := hb3.size) | (go_at_call 32; with_reducible refine (Calls.giv (kn_harm2 _ _ _ ha3)).mono ?_; rintro _ _ ⟨y9, rfl, rfl⟩; have sy9 := y9.size) | (go_at_call 34; with_reducible refine (Calls.giv (kn_wave2 _ _ _ ha3)).mono ?_; rintro _ _ ⟨y9, rfl, rfl⟩; have sy9 := y9.size) | (go_at_call 34; with_reducible refine (Calls.giv (kn_wave0 _ _ _ ha3)).mono ?_; rintro _ _ ⟨y9, rfl, rfl⟩; have sy9 := y9.size))
  refine wp_named (fun Wd hW => ?_)
  have hb : Below Wc.heap.size Wc Wd := by rw [← hW]; repeat' (first | (with_reducible exact Below.refl _ _) | (with_reducible assumption) | (with_reducible refine Ext.below _ ?_ ?_) | (with_reducible refine Below.on ?_ (by with_reducible assumption) ?_) | (with_reducible refine Below.alloc ?_ ?_ _) | (with_reducible refine Below.drew ?_) | (with_reducible refine Below.setCell ?_ ?_ _) | (with_reducible exact Nat.le_refl _) | omega | (simp; done) | (simp [go_sem]; done) | (simp at *; omega))
  clear hW
  replace hBw := Go.Lib.hid (hBw.out.trans (hb.mono hBw.out.size))
  replace hlim := hlimw.on hBw.out
  replace rk := (hb.block KB (row_lt rk)).trans rk
  replace rf := (hb.block (KB + 1) (row_lt rf)).trans rf
  clear hb
  go_upto_region 18 with (first | ((first | with_reducible refine wrx2 ?_ | with_reducible refine wrx ?_); (repeat (first | go_big_quiet_step ((first | fail)) | quiet_step ((first | fail)))); refine wpQuiet_nil ?_; rintro _ ⟨yr, rfl⟩; have syr := Ext.size yr; (repeat (first | rw [World.size_alloc] at syr | rw [World.size_setCell] at syr | rw [World.size_drew] at syr))) | (go_at_call 24; refine (air_any _).mono ?_; rintro _ W2 ⟨p2, rfl, hb2, hv2⟩; have sz2 := hb2.size) | (go_at_call 31; refine (grades_any _).mono ?_; rintro _ W1 ⟨p1, rfl, hb1, hv1⟩; have sz1 := hb1.size) | (go_at_call 33; refine (land_any2 _).mono ?_; rintro _ W3 ⟨p3, q3, rfl, hb3, ha3⟩; have sz3 := hb3.size) | (go_at_call 35; with_reducible refine (Calls.giv (kn_harms1 _ _ _ _ _ (hv2.on (hb1.trans (hb3.mono hb1.size))) (hv1.on hb3) ha3)).mono ?_; rintro _ _ ⟨y9, rfl, rfl⟩; have sy9 := y9.size))
  refine wp_named (fun We hW => ?_)
  have hb : Below Wd.heap.size Wd We := by rw [← hW]; repeat' (first | (with_reducible exact Below.refl _ _) | (with_reducible assumption) | (with_reducible refine Ext.below _ ?_ ?_) | (with_reducible refine Below.on ?_ (by with_reducible assumption) ?_) | (with_reducible refine Below.alloc ?_ ?_ _) | (with_reducible refine Below.drew ?_) | (with_reducible refine Below.setCell ?_ ?_ _) | (with_reducible exact Nat.le_refl _) | omega | (simp; done) | (simp [go_sem]; done) | (simp at *; omega))
  clear hW
  replace hBw := Go.Lib.hid (hBw.out.trans (hb.mono hBw.out.size))
  replace hlim := hlimw.on hBw.out
  replace rk := (hb.block KB (row_lt rk)).trans rk
  replace rf := (hb.block (KB + 1) (row_lt rf)).trans rf
  clear hb
  go_upto_region 19 with (first | ((first | with_reducible refine wrx2 ?_ | with_reducible refine wrx ?_); (repeat (first | go_big_quiet_step ((first | fail)) | quiet_step ((first | fail)))); refine wpQuiet_nil ?_; rintro _ ⟨yr, rfl⟩; have syr := Ext.size yr; (repeat (first | rw [World.size_alloc] at syr | rw [World.size_setCell] at syr | rw [World.size_drew] at syr))) | (go_at_call 24; refine (air_any _).mono ?_; rintro _ W2 ⟨p2, rfl, hb2, hv2⟩; have sz2 := hb2.size) | (go_at_call 31; refine (grades_any _).mono ?_; rintro _ W1 ⟨p1, rfl, hb1, hv1⟩; have sz1 := hb1.size) | (go_at_call 33; refine (land_any2 _).mono ?_; rintro _ W3 ⟨p3, q3, rfl, hb3, ha3⟩; have sz3 := hb3.size) | (go_at_call 35; with_reducible refine (Calls.giv (kn_harms2 _ _ _ _ _ (hv2.on (hb1.trans (hb3.mono hb1.size))) (hv1.on hb3) ha3)).mono ?_; rintro _ _ ⟨y9, rfl, rfl⟩; have sy9 := y9.size))
  refine wp_named (fun Wf hW => ?_)
  have hb : Below We.heap.size We Wf := by rw [← hW]; repeat' (first | (with_reducible exact Below.refl _ _) | (with_reducible assumption) | (with_reducible refine Ext.below _ ?_ ?_) | (with_reducible refine Below.on ?_ (by with_reducible assumption) ?_) | (with_reducible refine Below.alloc ?_ ?_ _) | (with_reducible refine Below.drew ?_) | (with_reducible refine Below.setCell ?_ ?_ _) | (with_reducible exact Nat.le_refl _) | omega | (simp; done) | (simp [go_sem]; done) | (simp at *; omega))
  clear hW
  replace hBw := Go.Lib.hid (hBw.out.trans (hb.mono hBw.out.size))
  replace hlim := hlimw.on hBw.out
  replace rk := (hb.block KB (row_lt rk)).trans rk
  replace rf := (hb.block (KB + 1) (row_lt rf)).trans rf
  clear hb
  go_upto_region 20 with (first | ((first | with_reducible refine wrx2 ?_ | with_reducible refine wrx ?_); (repeat (first | go_big_quiet_step ((first | fail)) | quiet_step ((first | fail)))); refine wpQuiet_nil ?_; rintro _ ⟨yr, rfl⟩; have syr := Ext.size yr; (repeat (first | rw [World.size_alloc] at syr | rw [World.size_setCell] at syr | rw [World.size_drew] at syr))) | (go_at_call 24; refine (air_any _).mono ?_; rintro _ W2 ⟨p2, rfl, hb2, hv2⟩; have sz2 := hb2.size) | (go_at_call 31; refine (grades_any _).mono ?_; rintro _ W1 ⟨p1, rfl, hb1, hv1⟩; have sz1 := hb1.size) | (go_at_call 33; refine (land_any2 _).mono ?_; rintro _ W3 ⟨p3, q3, rfl, hb3, ha3⟩; have sz3 := hb3.size) | (go_at_call 35; with_reducible refine (Calls.giv (kn_harms3 _ _ _ _ _ (hv2.on (hb1.trans (hb3.mono hb1.size))) (hv1.on hb3) ha3)).mono ?_; rintro _ _ ⟨y9, rfl, rfl⟩; have sy9 := y9.size))
  refine wp_named (fun Wg hW => ?_)
  have hb : Below Wf.heap.size Wf Wg := by rw [← hW]; repeat' (first | (with_reducible exact Below.refl _ _) | (with_reducible assumption) | (with_reducible refine Ext.below _ ?_ ?_) | (with_reducible refine Below.on ?_ (by with_reducible assumption) ?_) | (with_reducible refine Below.alloc ?_ ?_ _) | (with_reducible refine Below.drew ?_) | (with_reducible refine Below.setCell ?_ ?_ _) | (with_reducible exact Nat.le_refl _) | omega | (simp; done) | (simp [go_sem]; done) | (simp at *; omega))
  clear hW
  replace hBw := Go.Lib.hid (hBw.out.trans (hb.mono hBw.out.size))
  replace hlim := hlimw.on hBw.out
  replace rk := (hb.block KB (row_lt rk)).trans rk
  replace rf := (hb.block (KB + 1) (row_lt rf)).trans rf
  clear hb
  go_upto_region 21 with (first | ((first | with_reducible refine wrx2 ?_ | with_reducible refine wrx ?_); (repeat (first | go_big_quiet_step ((first | fail)) | quiet_step ((first | fail)))); refine wpQuiet_nil ?_; rintro _ ⟨yr, rfl⟩; have syr := Ext.size yr; (repeat (first | rw [World.size_alloc] at syr | rw [World.size_setCell] at syr | rw [World.size_drew] at syr))))
  refine wp_tell k21Told ?_ ?_
  focus
    clear ca hBw hlimw cc
    repeat (rename_i zz; clear zz)
    refine region_dep (by kernel_rfl) k21Deps (by kernel_rfl) k21Inv ?h0 ?hstep ?hend
    case h0 =>
      refine ⟨.int .i64 0, ?z22, ?z176, ?z177, ?z178, ?z179, ?z180, ?z181, ?z182, ?z183, ?z184, ?fr, (Below.refl _ _).drew, by simp, by simp, by simp, by simp, by simp, by simp, by simp, by simp, by simp, by simp, by simp, by simp⟩
      case fr =>
        simp only [sets, List.foldl_cons, List.foldl_nil, List.set_cons_succ, List.set_cons_zero]
        rfl
    case hend =>
      intro l' fr W hl hall hInv
      unfold k21Inv at hInv
      obtain ⟨s6, s22, s176, s177, s178, s179, s180, s181, s182, s183, s184, hInv⟩ := hInv
      obtain ⟨hfr, hB, g0, f0, f1, f2, f3, f4, f5, f6, f7, f8, f9, f11⟩ := hInv
      subst hfr
      obtain ⟨b0, b1, b2, b3, b4, b5, b6, b7, b8, b9, b10, b11, rfl⟩ := list12 hl
      simp only [List.getD_cons_zero, List.getD_cons_succ] at g0 f0 f1 f2 f3 f4 f5 f6 f7 f8 f9 f11
      simp only [List.all_cons, id, Bool.and_eq_true] at hall
      obtain ⟨e0, e1, e2, e3, e4, e5, e6, e7, e8, e9, e10, e11, -⟩ := hall
      obtain rfl := f11 e11
      obtain ⟨g, rfl, -, -, -, h4⟩ := f9 e9
      exact ⟨rfl, g, by kernel_rfl, hB, h4 e10⟩
    case hstep =>
      intro l' fr W ii hl hInv hr hi
      unfold k21Inv at hInv
      obtain ⟨s6, s22, s176, s177, s178, s179, s180, s181, s182, s183, s184, hInv⟩ := hInv
      obtain ⟨hfr, hB, g0, f0, f1, f2, f3, f4, f5, f6, f7, f8, f9, f11⟩ := hInv
      subst hfr
      obtain ⟨b0, b1, b2, b3, b4, b5, b6, b7, b8, b9, b10, b11, rfl⟩ := list12 hl
      have sW := hB.size
      replace rk := (hB.block KB (row_lt rk)).trans rk
      replace rf := (hB.block (KB + 1) (row_lt rf)).trans rf
      have c0 : W.cell? ⟨KB, 0, none⟩ = some (.int .i64 10) := (cell_of_row W _ 0 _ _ _ rk).trans rfl
      have c1 : W.cell? ⟨KB, 1, none⟩ = some (.int .i64 10) := (cell_of_row W _ 1 _ _ _ rk).trans rfl
      have c2 : W.cell? ⟨KB, 2, none⟩ = some (.int .i64 1000) := (cell_of_row W _ 2 _ _ _ rk).trans rfl
      have c3 : W.cell? ⟨KB, 3, none⟩ = some (.int .i64 1000) := (cell_of_row W _ 3 _ _ _ rk).trans rfl
      have c4 : W.cell? ⟨KB, 4, none⟩ = some (.int .i64 50000) := (cell_of_row W _ 4 _ _ _ rk).trans rfl
      have c5 : W.cell? ⟨KB, 5, none⟩ = some (.int .i64 1000000) := (cell_of_row W _ 5 _ _ _ rk).trans rfl
      have c6 : W.cell? ⟨KB, 6, none⟩ = some (.int .i64 0) := (cell_of_row W _ 6 _ _ _ rk).trans rfl
      have c7 : W.cell? ⟨KB, 7, none⟩ = some (.int .i64 0) := (cell_of_row W _ 7 _ _ _ rk).trans rfl
      have c8 : W.cell? ⟨KB, 8, none⟩ = some (.int .i64 1000) := (cell_of_row W _ 8 _ _ _ rk).trans rfl
      have c9 : W.cell? ⟨KB, 9, none⟩ = some (.int .i64 1000) := (cell_of_row W _ 9 _ _ _ rk).trans rfl
      have c10 : W.cell? ⟨KB, 10, none⟩ = some (.bool false) := (cell_of_row W _ 10 _ _ _ rk).trans rfl
      have d0 : W.cell? ⟨(KB + 1), 0, none⟩ = some (.int .i64 100) := (cell_of_row W _ 0 _ _ _ rf).trans rfl
      have d1 : W.cell? ⟨(KB + 1), 1, none⟩ = some (.int .i64 100) := (cell_of_row W _ 1 _ _ _ rf).trans rfl
      have d2 : W.cell? ⟨(KB + 1), 2, none⟩ = some (.int .i64 1000) := (cell_of_row W _ 2 _ _ _ rf).trans rfl
      have d3 : W.cell? ⟨(KB + 1), 3, none⟩ = some (.int .i64 1000) := (cell_of_row W _ 3 _ _ _ rf).trans rfl
      simp only [List.getD_cons_zero, List.getD_cons_succ] at g0 f0 f1 f2 f3 f4 f5 f6 f7 f8 f9 f11
      replace hB := Go.Lib.hid hB
      replace hi := Go.Lib.hid hi
      replace g0 := Go.Lib.hid g0
      replace f0 := Go.Lib.hid f0
      replace f1 := Go.Lib.hid f1
      replace f2 := Go.Lib.hid f2
      replace f3 := Go.Lib.hid f3
      replace f4 := Go.Lib.hid f4
      replace f5 := Go.Lib.hid f5
      replace f6 := Go.Lib.hid f6
      replace f7 := Go.Lib.hid f7
      replace f8 := Go.Lib.hid f8
      replace f9 := Go.Lib.hid f9
      replace f11 := Go.Lib.hid f11
      rcases ii with _ | _ | _ | _ | _ | _ | _ | _ | _ | _ | _ | _ | ii
      · have hi := hi.out
        simp only [List.getElem?_cons_zero, Option.some.injEq] at hi
        subst hi
        refine wpOp_step rfl (fun K hK => ?_)
        simp only [sets, List.foldl_cons, List.foldl_nil, List.set_cons_succ, List.set_cons_zero]
        go_simp
        refine (air_any W).mono ?_
        rintro _ W6 ⟨p, rfl, hb, hv⟩
        exact hK _ _ ⟨s6, s22, s176, (.slice p 2 2), s178, s179, s180, s181, s182, s183, s184, by kernel_rfl, hB.out.trans (hb.mono sW), g0.out, (fun _ => ⟨p, rfl, fun _ => hv⟩), (fun h => by obtain ⟨p, e', hv'⟩ := f1.out h; exact ⟨p, e', fun q => (hv' q).on hb⟩), (fun h => by obtain ⟨p, q, e', hv'⟩ := f2.out h; exact ⟨p, q, e', fun q => (hv' q).on hb⟩), f3.out, f4.out, f5.out, f6.out, f7.out, f8.out, (fun h => by obtain ⟨g', e', h1', h2', h3', h4'⟩ := f9.out h; exact ⟨g', e', h1', Nat.lt_of_lt_of_le h2' (Below.size hb), fun q => (Below.block hb g' h2').trans (h3' q), fun q => (Below.block hb g' h2').trans (h4' q)⟩), f11.out⟩
      · have hi := hi.out
        simp only [List.getElem?_cons_zero, List.getElem?_cons_succ, Option.some.injEq] at hi
        subst hi
        refine wpOp_step rfl (fun K hK => ?_)
        simp only [sets, List.foldl_cons, List.foldl_nil, List.set_cons_succ, List.set_cons_zero]
        go_simp
        refine (grades_any W).mono ?_
        rintro _ W6 ⟨p, rfl, hb, hv⟩
        exact hK _ _ ⟨s6, s22, s176, s177, (.slice p 3 3), s179, s180, s181, s182, s183, s184, by kernel_rfl, hB.out.trans (hb.mono sW), g0.out, (fun h => by obtain ⟨p, e', hv'⟩ := f0.out h; exact ⟨p, e', fun q => (hv' q).on hb⟩), (fun _ => ⟨p, rfl, fun _ => hv⟩), (fun h => by obtain ⟨p, q, e', hv'⟩ := f2.out h; exact ⟨p, q, e', fun q => (hv' q).on hb⟩), f3.out, f4.out, f5.out, f6.out, f7.out, f8.out, (fun h => by obtain ⟨g', e', h1', h2', h3', h4'⟩ := f9.out h; exact ⟨g', e', h1', Nat.lt_of_lt_of_le h2' (Below.size hb), fun q => (Below.block hb g' h2').trans (h3' q), fun q => (Below.block hb g' h2').trans (h4' q)⟩), f11.out⟩
      · have hi := hi.out
        simp only [List.getElem?_cons_zero, List.getElem?_cons_succ, Option.some.injEq] at hi
        subst hi
        refine wpOp_step rfl (fun K hK => ?_)
        simp only [sets, List.foldl_cons, List.foldl_nil, List.set_cons_succ, List.set_cons_zero]
        go_simp
        refine (land_any2 W).mono ?_
        rintro _ W6 ⟨p, q, rfl, hb, hv⟩
        exact hK _ _ ⟨s6, s22, s176, s177, s178, (.agg #[.slice p 5 5, .slice q 5 5]), s180, s181, s182, s183, s184, by kernel_rfl, hB.out.trans (hb.mono sW), g0.out, (fun h => by obtain ⟨p, e', hv'⟩ := f0.out h; exact ⟨p, e', fun q => (hv' q).on hb⟩), (fun h => by obtain ⟨p, e', hv'⟩ := f1.out h; exact ⟨p, e', fun q => (hv' q).on hb⟩), (fun _ => ⟨p, q, rfl, fun _ => hv⟩), f3.out, f4.out, f5.out, f6.out, f7.out, f8.out, (fun h => by obtain ⟨g', e', h1', h2', h3', h4'⟩ := f9.out h; exact ⟨g', e', h1', Nat.lt_of_lt_of_le h2' (Below.size hb), fun q => (Below.block hb g' h2').trans (h3' q), fun q => (Below.block hb g' h2').trans (h4' q)⟩), f11.out⟩
      · refine wpOp_step rfl (fun K hK => ?_)
        simp only [sets, List.foldl_cons, List.foldl_nil, List.set_cons_succ, List.set_cons_zero]
        go_simp
        exact hK _ _ ⟨s6, s22, s176, s177, s178, s179, (.agg #[.int .i64 10, .int .i64 10, .int .i64 1000, .int .i64 1000, .int .i64 50000, .int .i64 1000000, .int .i64 0, .int .i64 0, .int .i64 1000, .int .i64 1000, .bool false]), s181, s182, s183, s184, by kernel_rfl, hB.out, g0.out, f0.out, f1.out, f2.out, fun _ => rfl, f4.out, f5.out, f6.out, f7.out, f8.out, f9.out, f11.out⟩
      · refine wpOp_step rfl (fun K hK => ?_)
        simp only [sets, List.foldl_cons, List.foldl_nil, List.set_cons_succ, List.set_cons_zero]
        go_simp
        exact hK _ _ ⟨s6, s22, s176, s177, s178, s179, s180, (.agg #[.int .i64 100, .int .i64 100, .int .i64 1000, .int .i64 1000]), s182, s183, s184, by kernel_rfl, hB.out, g0.out, f0.out, f1.out, f2.out, f3.out, fun _ => rfl, f5.out, f6.out, f7.out, f8.out, f9.out, f11.out⟩
      · simp only [k21Deps, List.getD_cons_zero, List.getD_cons_succ, List.all_cons, List.all_nil, Bool.and_true, Bool.and_eq_true] at hr
        obtain ⟨hd0, hd1, hd2, hd3, hd4⟩ := hr
        obtain rfl := f3.out hd3
        obtain rfl := f4.out hd4
        have hi := hi.out
        simp only [List.getElem?_cons_zero, List.getElem?_cons_succ, Option.some.injEq] at hi
        subst hi
        obtain ⟨pa, rfl, va⟩ := f0.out hd0
        obtain ⟨pg, rfl, vg⟩ := f1.out hd1
        obtain ⟨px, qx, rfl, vx⟩ := f2.out hd2
        have va := va rfl
        have vg := vg rfl
        have vx := vx rfl
        refine wpOp_step rfl (fun K hK => ?_)
        simp only [sets, List.foldl_cons, List.foldl_nil, List.set_cons_succ, List.set_cons_zero]
        go_simp
        refine (kn_toll pa pg px qx W (hlim.on hB.out) va vg vx).mono ?_
        rintro _ W6 ⟨rfl, hb⟩
        exact hK _ _ ⟨s6, s22, s176, (.slice pa 2 2), (.slice pg 3 3), (.agg #[.slice px 5 5, .slice qx 5 5]), (.agg #[.int .i64 10, .int .i64 10, .int .i64 1000, .int .i64 1000, .int .i64 50000, .int .i64 1000000, .int .i64 0, .int .i64 0, .int .i64 1000, .int .i64 1000, .bool false]), (.agg #[.int .i64 100, .int .i64 100, .int .i64 1000, .int .i64 1000]), (.tuple #[.agg #[.int .i64 30, .int .i64 100], .int .i64 0]), s183, s184, by kernel_rfl, hB.out.trans (hb.mono sW), g0.out, (fun _ => ⟨pa, rfl, fun q => by cases q⟩), (fun _ => ⟨pg, rfl, fun q => by cases q⟩), (fun _ => ⟨px, qx, rfl, fun q => by cases q⟩), f3.out, f4.out, fun _ => rfl, f6.out, f7.out, f8.out, (fun h => by obtain ⟨g', e', h1', h2', h3', h4'⟩ := f9.out h; exact ⟨g', e', h1', Nat.lt_of_lt_of_le h2' (Below.size hb), fun q => (Below.block hb g' h2').trans (h3' q), fun q => (Below.block hb g' h2').trans (h4' q)⟩), f11.out⟩
      · simp only [k21Deps, List.getD_cons_zero, List.getD_cons_succ, List.all_cons, List.all_nil, Bool.and_true] at hr
        have hd5 := hr
        obtain rfl := f5.out hd5
        refine wpOp_step rfl (fun K hK => ?_)
        simp only [sets, List.foldl_cons, List.foldl_nil, List.set_cons_succ, List.set_cons_zero]
        go_simp
        exact hK _ _ ⟨s6, s22, (.tuple #[.agg #[.int .i64 30, .int .i64 100], .int .i64 0]), s177, s178, s179, s180, s181, (.tuple #[.agg #[.int .i64 30, .int .i64 100], .int .i64 0]), s183, s184, by kernel_rfl, hB.out, g0.out, f0.out, f1.out, f2.out, f3.out, f4.out, f5.out, fun _ => rfl, f7.out, f8.out, f9.out, f11.out⟩
      · simp only [k21Deps, List.getD_cons_zero, List.getD_cons_succ, List.all_cons, List.all_nil, Bool.and_true] at hr
        have hd6 := hr
        obtain rfl := f6.out hd6
        refine wpOp_step rfl (fun K hK => ?_)
        simp only [sets, List.foldl_cons, List.foldl_nil, List.set_cons_succ, List.set_cons_zero]
        go_simp
        exact hK _ _ ⟨s6, s22, (.tuple #[.agg #[.int .i64 30, .int .i64 100], .int .i64 0]), s177, s178, s179, s180, s181, s182, (.agg #[.int .i64 30, .int .i64 100]), s184, by kernel_rfl, hB.out, g0.out, f0.out, f1.out, f2.out, f3.out, f4.out, f5.out, f6.out, fun _ => rfl, f8.out, f9.out, f11.out⟩
      · simp only [k21Deps, List.getD_cons_zero, List.getD_cons_succ, List.all_cons, List.all_nil, Bool.and_true] at hr
        have hd6 := hr
        obtain rfl := f6.out hd6
        refine wpOp_step rfl (fun K hK => ?_)
        simp only [sets, List.foldl_cons, List.foldl_nil, List.set_cons_succ, List.set_cons_zero]
        go_simp
        exact hK _ _ ⟨s6, s22, (.tuple #[.agg #[.int .i64 30, .int .i64 100], .int .i64 0]), s177, s178, s179, s180, s181, s182, s183, (.int .i64 0), by kernel_rfl, hB.out, g0.out, f0.out, f1.out, f2.out, f3.out, f4.out, f5.out, f6.out, f7.out, fun _ => rfl, f9.out, f11.out⟩
      · have hi := hi.out
        simp only [List.getElem?_cons_zero, List.getElem?_cons_succ, Option.some.injEq] at hi
        subst hi
        refine wpOp_step rfl (fun K hK => ?_)
        simp only [sets, List.foldl_cons, List.foldl_nil, List.set_cons_succ, List.set_cons_zero]
        go_simp
        exact hK _ _ ⟨s6, (.pointer (some ⟨W.heap.size, 0, none⟩)), s176, s177, s178, s179, s180, s181, s182, s183, s184, by kernel_rfl, hB.out.alloc sW _, (fun h => absurd (g0.out h) (by decide)), (fun h => by obtain ⟨p, e', hv'⟩ := f0.out h; exact ⟨p, e', fun q => (hv' q).on ((Below.refl W.heap.size W).alloc (Nat.le_refl _) _)⟩), (fun h => by obtain ⟨p, e', hv'⟩ := f1.out h; exact ⟨p, e', fun q => (hv' q).on ((Below.refl W.heap.size W).alloc (Nat.le_refl _) _)⟩), (fun h => by obtain ⟨p, q, e', hv'⟩ := f2.out h; exact ⟨p, q, e', fun q => (hv' q).on ((Below.refl W.heap.size W).alloc (Nat.le_refl _) _)⟩), f3.out, f4.out, f5.out, f6.out, f7.out, f8.out, (fun _ => ⟨W.heap.size, rfl, sW, by simp only [World.size_alloc]; omega, fun _ => heap_alloc_new _ _, fun q => by have h9 := g0.out q; cases h9⟩), f11.out⟩
      · simp only [k21Deps, List.getD_cons_zero, List.getD_cons_succ, List.all_cons, List.all_nil, Bool.and_true, Bool.and_eq_true] at hr
        obtain ⟨hd9, hd7, hd5⟩ := hr
        obtain rfl := f7.out hd7
        obtain rfl := f5.out hd5
        obtain ⟨g, rfl, h1, h2, h3, h4⟩ := f9.out hd9
        have hi := hi.out
        simp only [List.getElem?_cons_zero, List.getElem?_cons_succ, Option.some.injEq] at hi
        subst hi
        have e := h3 rfl
        refine wpOp_step rfl (fun K hK => ?_)
        simp only [sets, List.foldl_cons, List.foldl_nil, List.set_cons_succ, List.set_cons_zero]
        simp only [Region.wanted]
        refine store_op 29 (.tmp 22) (.tmp 183) rfl g #[.int .i64 30, .int .i64 100] (by kernel_rfl) (by kernel_rfl) 29 _ e (by kernel_rfl) rfl (by simp [Value.oneCell']) ?_
        exact hK _ _ ⟨s6, (.pointer (some ⟨g, 0, none⟩)), s176, s177, s178, s179, s180, s181, (.tuple #[.agg #[.int .i64 30, .int .i64 100], .int .i64 0]), (.agg #[.int .i64 30, .int .i64 100]), s184, by kernel_rfl, below_setRow hB.out h1 _, (fun _ => hd9), (fun h => by obtain ⟨p, e', hv'⟩ := f0.out h; exact ⟨p, e', fun q => absurd (hd5.symm.trans q) (by decide)⟩), (fun h => by obtain ⟨p, e', hv'⟩ := f1.out h; exact ⟨p, e', fun q => absurd (hd5.symm.trans q) (by decide)⟩), (fun h => by obtain ⟨p, q, e', hv'⟩ := f2.out h; exact ⟨p, q, e', fun q => absurd (hd5.symm.trans q) (by decide)⟩), f3.out, f4.out, f5.out, f6.out, f7.out, f8.out, (fun _ => ⟨g, rfl, h1, by rw [size_setRow']; exact h2, (fun h => by cases h), fun _ => setRow_heap _ _ _ _ _ _ e⟩), f11.out⟩
      · simp only [k21Deps, List.getD_cons_zero, List.getD_cons_succ, List.all_cons, List.all_nil, Bool.and_true] at hr
        have hd8 := hr
        obtain rfl := f8.out hd8
        refine wpOp_step rfl (fun K hK => ?_)
        simp only [sets, List.foldl_cons, List.foldl_nil, List.set_cons_succ, List.set_cons_zero]
        go_simp
        exact hK _ _ ⟨(.int .i64 0), s22, s176, s177, s178, s179, s180, s181, s182, s183, (.int .i64 0), by kernel_rfl, hB.out, g0.out, f0.out, f1.out, f2.out, f3.out, f4.out, f5.out, f6.out, f7.out, f8.out, f9.out, fun _ => rfl⟩
      · have hi := hi.out; simp at hi
  rintro aq Wh ⟨TB, ha4, hb, rT⟩
  generalize aq.tmps.getD 176 undef = t176 at ha4
  generalize aq.tmps.getD 177 undef = t177 at ha4
  generalize aq.tmps.getD 178 undef = t178 at ha4
  generalize aq.tmps.getD 179 undef = t179 at ha4
  generalize aq.tmps.getD 180 undef = t180 at ha4
  generalize aq.tmps.getD 181 undef = t181 at ha4
  generalize aq.tmps.getD 182 undef = t182 at ha4
  generalize aq.tmps.getD 183 undef = t183 at ha4
  generalize aq.tmps.getD 184 undef = t184 at ha4
  subst ha4
  simp only [sets, List.foldl_cons, List.foldl_nil, List.set_cons_succ, List.set_cons_zero]
  replace hBw := Go.Lib.hid (hBw.out.trans (hb.mono hBw.out.size))
  replace hlim := hlimw.on hBw.out
  replace rk := (hb.block KB (row_lt rk)).trans rk
  replace rf := (hb.block (KB + 1) (row_lt rf)).trans rf
  clear hb
  go_upto_region 22 with (first | ((first | with_reducible refine wrx2 ?_ | with_reducible refine wrx ?_); (repeat (first | go_big_quiet_step ((first | fail)) | quiet_step ((first | fail)))); refine wpQuiet_nil ?_; rintro _ ⟨yr, rfl⟩; have syr := Ext.size yr; (repeat (first | rw [World.size_alloc] at syr | rw [World.size_setCell] at syr | rw [World.size_drew] at syr)); have : TB < yr.now.heap.size := (by omega); have : TB ≤ yr.now.heap.size := (by omega); have : TB < yr.now.heap.size + 1 + 1 := (by omega)))
  refine wp_tell k22Told ?_ ?_
  focus
    clear ca hBw hlimw cc rT
    repeat (rename_i zz; clear zz)
    refine region_dep (by kernel_rfl) k22Deps (by kernel_rfl) k22Inv ?h0 ?hstep ?hend
    case h0 =>
      refine ⟨.int .i64 0, ?z23, ?z185, ?z186, ?z187, ?z188, ?z189, ?z190, ?z191, ?z192, ?z193, ?fr, (Below.refl _ _).drew, by simp, by simp, by simp, by simp, by simp, by simp, by simp, by simp, by simp, by simp, by simp⟩
      case fr =>
        simp only [sets, List.foldl_cons, List.foldl_nil, List.set_cons_succ, List.set_cons_zero]
        rfl
    case hend =>
      intro l' fr W hl hall hInv
      unfold k22Inv at hInv
      obtain ⟨s9, s23, s185, s186, s187, s188, s189, s190, s191, s192, s193, hInv⟩ := hInv
      obtain ⟨hfr, hB, f0, f1, f2, f3, f4, f5, f6, f7, f8, f9, f10⟩ := hInv
      subst hfr
      obtain ⟨b0, b1, b2, b3, b4, b5, b6, b7, b8, b9, b10, rfl⟩ := list11 hl
      simp only [List.getD_cons_zero, List.getD_cons_succ] at f0 f1 f2 f3 f4 f5 f6 f7 f8 f9 f10
      simp only [List.all_cons, id, Bool.and_eq_true] at hall
      obtain ⟨e0, e1, e2, e3, e4, e5, e6, e7, e8, e9, e10, -⟩ := hall
      obtain rfl := f9 e9
      obtain rfl := f10 e10
      exact ⟨rfl, by kernel_rfl, hB⟩
    case hstep =>
      intro l' fr W ii hl hInv hr hi
      unfold k22Inv at hInv
      obtain ⟨s9, s23, s185, s186, s187, s188, s189, s190, s191, s192, s193, hInv⟩ := hInv
      obtain ⟨hfr, hB, f0, f1, f2, f3, f4, f5, f6, f7, f8, f9, f10⟩ := hInv
      subst hfr
      obtain ⟨b0, b1, b2, b3, b4, b5, b6, b7, b8, b9, b10, rfl⟩ := list11 hl
      have sW := hB.size
      replace rk := (hB.block KB (row_lt rk)).trans rk
      replace rf := (hB.block (KB + 1) (row_lt rf)).trans rf
      have c0 : W.cell? ⟨KB, 0, none⟩ = some (.int .i64 10) := (cell_of_row W _ 0 _ _ _ rk).trans rfl
      have c1 : W.cell? ⟨KB, 1, none⟩ = some (.int .i64 10) := (cell_of_row W _ 1 _ _ _ rk).trans rfl
      have c2 : W.cell? ⟨KB, 2, none⟩ = some (.int .i64 1000) := (cell_of_row W _ 2 _ _ _ rk).trans rfl
      have c3 : W.cell? ⟨KB, 3, none⟩ = some (.int .i64 1000) := (cell_of_row W _ 3 _ _ _ rk).trans rfl
      have c4 : W.cell? ⟨KB, 4, none⟩ = some (.int .i64 50000) := (cell_of_row W _ 4 _ _ _ rk).trans rfl
      have c5 : W.cell? ⟨KB, 5, none⟩ = some (.int .i64 1000000) := (cell_of_row W _ 5 _ _ _ rk).trans rfl
      have c6 : W.cell? ⟨KB, 6, none⟩ = some (.int .i64 0) := (cell_of_row W _ 6 _ _ _ rk).trans rfl
      have c7 : W.cell? ⟨KB, 7, none⟩ = some (.int .i64 0) := (cell_of_row W _ 7 _ _ _ rk).trans rfl
      have c8 : W.cell? ⟨KB, 8, none⟩ = some (.int .i64 1000) := (cell_of_row W _ 8 _ _ _ rk).trans rfl
      have c9 : W.cell? ⟨KB, 9, none⟩ = some (.int .i64 1000) := (cell_of_row W _ 9 _ _ _ rk).trans rfl
      have c10 : W.cell? ⟨KB, 10, none⟩ = some (.bool false) := (cell_of_row W _ 10 _ _ _ rk).trans rfl
      have d0 : W.cell? ⟨(KB + 1), 0, none⟩ = some (.int .i64 100) := (cell_of_row W _ 0 _ _ _ rf).trans rfl
      have d1 : W.cell? ⟨(KB + 1), 1, none⟩ = some (.int .i64 100) := (cell_of_row W _ 1 _ _ _ rf).trans rfl
      have d2 : W.cell? ⟨(KB + 1), 2, none⟩ = some (.int .i64 1000) := (cell_of_row W _ 2 _ _ _ rf).trans rfl
      have d3 : W.cell? ⟨(KB + 1), 3, none⟩ = some (.int .i64 1000) := (cell_of_row W _ 3 _ _ _ rf).trans rfl
      simp only [List.getD_cons_zero, List.getD_cons_succ] at f0 f1 f2 f3 f4 f5 f6 f7 f8 f9 f10
      replace hB := Go.Lib.hid hB
      replace hi := Go.Lib.hid hi
      replace f0 := Go.Lib.hid f0
      replace f1 := Go.Lib.hid f1
      replace f2 := Go.Lib.hid f2
      replace f3 := Go.Lib.hid f3
      replace f4 := Go.Lib.hid f4
      replace f5 := Go.Lib.hid f5
      replace f6 := Go.Lib.hid f6
      replace f7 := Go.Lib.hid f7
      replace f8 := Go.Lib.hid f8
      replace f9 := Go.Lib.hid f9
      replace f10 := Go.Lib.hid f10
      rcases ii with _ | _ | _ | _ | _ | _ | _ | _ | _ | _ | _ | ii
      · have hi := hi.out
        simp only [List.getElem?_cons_zero, Option.some.injEq] at hi
        subst hi
        refine wpOp_step rfl (fun K hK => ?_)
        simp only [sets, List.foldl_cons, List.foldl_nil, List.set_cons_succ, List.set_cons_zero]
        go_simp
        refine (air_any W).mono ?_
        rintro _ W6 ⟨p, rfl, hb, hv⟩
        exact hK _ _ ⟨s9, s23, s185, (.slice p 2 2), s187, s188, s189, s190, s191, s192, s193, by kernel_rfl, hB.out.trans (hb.mono sW), (fun _ => ⟨p, rfl, hv⟩), (fun h => by obtain ⟨p, e', hv'⟩ := f1.out h; exact ⟨p, e', hv'.on hb⟩), (fun h => by obtain ⟨p, q, e', hv'⟩ := f2.out h; exact ⟨p, q, e', hv'.on hb⟩), f3.out, f4.out, f5.out, f6.out, f7.out, f8.out, f9.out, f10.out⟩
      · have hi := hi.out
        simp only [List.getElem?_cons_zero, List.getElem?_cons_succ, Option.some.injEq] at hi
        subst hi
        refine wpOp_step rfl (fun K hK => ?_)
        simp only [sets, List.foldl_cons, List.foldl_nil, List.set_cons_succ, List.set_cons_zero]
        go_simp
        refine (grades_any W).mono ?_
        rintro _ W6 ⟨p, rfl, hb, hv⟩
        exact hK _ _ ⟨s9, s23, s185, s186, (.slice p 3 3), s188, s189, s190, s191, s192, s193, by kernel_rfl, hB.out.trans (hb.mono sW), (fun h => by obtain ⟨p, e', hv'⟩ := f0.out h; exact ⟨p, e', hv'.on hb⟩), (fun _ => ⟨p, rfl, hv⟩), (fun h => by obtain ⟨p, q, e', hv'⟩ := f2.out h; exact ⟨p, q, e', hv'.on hb⟩), f3.out, f4.out, f5.out, f6.out, f7.out, f8.out, f9.out, f10.out⟩
      · have hi := hi.out
        simp only [List.getElem?_cons_zero, List.getElem?_cons_succ, Option.some.injEq] at hi
        subst hi
        refine wpOp_step rfl (fun K hK => ?_)
        simp only [sets, List.foldl_cons, List.foldl_nil, List.set_cons_succ, List.set_cons_zero]
        go_simp
        refine (land_any2 W).mono ?_
        rintro _ W6 ⟨p, q, rfl, hb, hv⟩
        exact hK _ _ ⟨s9, s23, s185, s186, s187, (.agg #[.slice p 5 5, .slice q 5 5]), s189, s190, s191, s192, s193, by kernel_rfl, hB.out.trans (hb.mono sW), (fun h => by obtain ⟨p, e', hv'⟩ := f0.out h; exact ⟨p, e', hv'.on hb⟩), (fun h => by obtain ⟨p, e', hv'⟩ := f1.out h; exact ⟨p, e', hv'.on hb⟩), (fun _ => ⟨p, q, rfl, hv⟩), f3.out, f4.out, f5.out, f6.out, f7.out, f8.out, f9.out, f10.out⟩
      · refine wpOp_step rfl (fun K hK => ?_)
        simp only [sets, List.foldl_cons, List.foldl_nil, List.set_cons_succ, List.set_cons_zero]
        go_simp
        exact hK _ _ ⟨s9, s23, s185, s186, s187, s188, (.agg #[.int .i64 10, .int .i64 10, .int .i64 1000, .int .i64 1000, .int .i64 50000, .int .i64 1000000, .int .i64 0, .int .i64 0, .int .i64 1000, .int .i64 1000, .bool false]), s190, s191, s192, s193, by kernel_rfl, hB.out, f0.out, f1.out, f2.out, fun _ => rfl, f4.out, f5.out, f6.out, f7.out, f8.out, f9.out, f10.out⟩
      · refine wpOp_step rfl (fun K hK => ?_)
        simp only [sets, List.foldl_cons, List.foldl_nil, List.set_cons_succ, List.set_cons_zero]
        go_simp
        exact hK _ _ ⟨s9, s23, s185, s186, s187, s188, s189, (.agg #[.int .i64 100, .int .i64 100, .int .i64 1000, .int .i64 1000]), s191, s192, s193, by kernel_rfl, hB.out, f0.out, f1.out, f2.out, f3.out, fun _ => rfl, f5.out, f6.out, f7.out, f8.out, f9.out, f10.out⟩
      · simp only [k22Deps, List.getD_cons_zero, List.getD_cons_succ, List.all_cons, List.all_nil, Bool.and_true, Bool.and_eq_true] at hr
        obtain ⟨hd0, hd1, hd2, hd3, hd4⟩ := hr
        obtain rfl := f3.out hd3
        obtain rfl := f4.out hd4
        obtain ⟨pa, rfl, va⟩ := f0.out hd0
        obtain ⟨pg, rfl, vg⟩ := f1.out hd1
        obtain ⟨px, qx, rfl, vx⟩ := f2.out hd2
        refine wpOp_step rfl (fun K hK => ?_)
        simp only [sets, List.foldl_cons, List.foldl_nil, List.set_cons_succ, List.set_cons_zero]
        go_simp
        refine (kn_worst pa pg px qx W (hlim.on hB.out) va vg vx).mono ?_
        rintro _ W6 ⟨rfl, hb⟩
        exact hK _ _ ⟨s9, s23, s185, (.slice pa 2 2), (.slice pg 3 3), (.agg #[.slice px 5 5, .slice qx 5 5]), (.agg #[.int .i64 10, .int .i64 10, .int .i64 1000, .int .i64 1000, .int .i64 50000, .int .i64 1000000, .int .i64 0, .int .i64 0, .int .i64 1000, .int .i64 1000, .bool false]), (.agg #[.int .i64 100, .int .i64 100, .int .i64 1000, .int .i64 1000]), (.tuple #[.int .i64 1, .int .i64 0]), s192, s193, by kernel_rfl, hB.out.trans (hb.mono sW), (fun _ => ⟨pa, rfl, va.on hb⟩), (fun _ => ⟨pg, rfl, vg.on hb⟩), (fun _ => ⟨px, qx, rfl, vx.on hb⟩), f3.out, f4.out, fun _ => rfl, f6.out, f7.out, f8.out, f9.out, f10.out⟩
      · simp only [k22Deps, List.getD_cons_zero, List.getD_cons_succ, List.all_cons, List.all_nil, Bool.and_true] at hr
        have hd5 := hr
        obtain rfl := f5.out hd5
        refine wpOp_step rfl (fun K hK => ?_)
        simp only [sets, List.foldl_cons, List.foldl_nil, List.set_cons_succ, List.set_cons_zero]
        go_simp
        exact hK _ _ ⟨s9, s23, (.tuple #[.int .i64 1, .int .i64 0]), s186, s187, s188, s189, s190, (.tuple #[.int .i64 1, .int .i64 0]), s192, s193, by kernel_rfl, hB.out, f0.out, f1.out, f2.out, f3.out, f4.out, f5.out, fun _ => rfl, f7.out, f8.out, f9.out, f10.out⟩
      · simp only [k22Deps, List.getD_cons_zero, List.getD_cons_succ, List.all_cons, List.all_nil, Bool.and_true] at hr
        have hd6 := hr
        obtain rfl := f6.out hd6
        refine wpOp_step rfl (fun K hK => ?_)
        simp only [sets, List.foldl_cons, List.foldl_nil, List.set_cons_succ, List.set_cons_zero]
        go_simp
        exact hK _ _ ⟨s9, s23, (.tuple #[.int .i64 1, .int .i64 0]), s186, s187, s188, s189, s190, s191, (.int .i64 1), s193, by kernel_rfl, hB.out, f0.out, f1.out, f2.out, f3.out, f4.out, f5.out, f6.out, fun _ => rfl, f8.out, f9.out, f10.out⟩
      · simp only [k22Deps, List.getD_cons_zero, List.getD_cons_succ, List.all_cons, List.all_nil, Bool.and_true] at hr
        have hd6 := hr
        obtain rfl := f6.out hd6
        refine wpOp_step rfl (fun K hK => ?_)
        simp only [sets, List.foldl_cons, List.foldl_nil, List.set_cons_succ, List.set_cons_zero]
        go_simp
        exact hK _ _ ⟨s9, s23, (.tuple #[.int .i64 1, .int .i64 0]), s186, s187, s188, s189, s190, s191, s192, (.int .i64 0), by kernel_rfl, hB.out, f0.out, f1.out, f2.out, f3.out, f4.out, f5.out, f6.out, f7.out, fun _ => rfl, f9.out, f10.out⟩
      · simp only [k22Deps, List.getD_cons_zero, List.getD_cons_succ, List.all_cons, List.all_nil, Bool.and_true] at hr
        have hd7 := hr
        obtain rfl := f7.out hd7
        refine wpOp_step rfl (fun K hK => ?_)
        simp only [sets, List.foldl_cons, List.foldl_nil, List.set_cons_succ, List.set_cons_zero]
        go_simp
        exact hK _ _ ⟨s9, (.int .i64 1), s185, s186, s187, s188, s189, s190, s191, (.int .i64 1), s193, by kernel_rfl, hB.out, f0.out, f1.out, f2.out, f3.out, f4.out, f5.out, f6.out, f7.out, f8.out, fun _ => rfl, f10.out⟩
      · simp only [k22Deps, List.getD_cons_zero, List.getD_cons_succ, List.all_cons, List.all_nil, Bool.and_true] at hr
        have hd8 := hr
        obtain rfl := f8.out hd8
        refine wpOp_step rfl (fun K hK => ?_)
        simp only [sets, List.foldl_cons, List.foldl_nil, List.set_cons_succ, List.set_cons_zero]
        go_simp
        exact hK _ _ ⟨(.int .i64 0), s23, s185, s186, s187, s188, s189, s190, s191, s192, (.int .i64 0), by kernel_rfl, hB.out, f0.out, f1.out, f2.out, f3.out, f4.out, f5.out, f6.out, f7.out, f8.out, f9.out, fun _ => rfl⟩
      · have hi := hi.out; simp at hi
  rintro aq Wi ⟨ha4, hb⟩
  generalize aq.tmps.getD 185 undef = t185 at ha4
  generalize aq.tmps.getD 186 undef = t186 at ha4
  generalize aq.tmps.getD 187 undef = t187 at ha4
  generalize aq.tmps.getD 188 undef = t188 at ha4
  generalize aq.tmps.getD 189 undef = t189 at ha4
  generalize aq.tmps.getD 190 undef = t190 at ha4
  generalize aq.tmps.getD 191 undef = t191 at ha4
  generalize aq.tmps.getD 192 undef = t192 at ha4
  generalize aq.tmps.getD 193 undef = t193 at ha4
  subst ha4
  simp only [sets, List.foldl_cons, List.foldl_nil, List.set_cons_succ, List.set_cons_zero]
  replace rT := (hb.block TB (row_lt rT)).trans rT
  replace hBw := Go.Lib.hid (hBw.out.trans (hb.mono hBw.out.size))
  replace hlim := hlimw.on hBw.out
  clear hb
  have t0 : Wi.cell? ⟨TB, 0, none⟩ = some (.int .i64 30) := (cell_of_row Wi _ 0 _ _ _ rT).trans rfl
  have t1 : Wi.cell? ⟨TB, 1, none⟩ = some (.int .i64 100) := (cell_of_row Wi _ 1 _ _ _ rT).trans rfl
  have lT := row_lt rT
  have co3 := fun W => of_any 30 100 W
  go_wp2_with (first | ((first | with_reducible refine wrx2 ?_ | with_reducible refine wrx ?_); (repeat (first | go_big_quiet_step ((first | (go_at_call 28; with_reducible exact Calls.ext (co3 _)))) | quiet_step ((first | (go_at_call 28; with_reducible exact Calls.ext (co3 _)))))); refine wpQuiet_nil ?_; rintro _ ⟨yr, rfl⟩; have syr := Ext.size yr; (repeat (first | rw [World.size_alloc] at syr | rw [World.size_setCell] at syr | rw [World.size_drew] at syr)); have : TB < yr.now.heap.size := (by omega); have : TB ≤ yr.now.heap.size := (by omega); have : TB < yr.now.heap.size + 1 + 1 := (by omega)) | (go_at_call 28; (first | with_reducible refine (Calls.giv2 (co3 _)).mono ?_ | with_reducible refine (Calls.giv (co3 _)).mono ?_); rintro _ _ ⟨y1, rfl, rfl⟩; have sy1 := Ext.size y1; (repeat (first | rw [World.size_alloc] at sy1 | rw [World.size_setCell] at sy1 | rw [World.size_drew] at sy1)); have : TB < y1.now.heap.size := (by omega); have : TB ≤ y1.now.heap.size := (by omega); have : TB < y1.now.heap.size + 1 + 1 := (by omega)))
  go_returns
  refine ⟨rfl, ?_⟩
  have hBx := hBw.out
  have sBx := hBx.size
  repeat' (first | (with_reducible exact Below.refl _ _) | (with_reducible assumption) | (with_reducible refine Ext.below _ ?_ ?_) | (with_reducible refine Below.on ?_ (by with_reducible assumption) ?_) | (with_reducible refine Below.alloc ?_ ?_ _) | (with_reducible refine Below.drew ?_) | (with_reducible refine Below.setCell ?_ ?_ _) | (with_reducible exact Nat.le_refl _) | omega | (simp; done) | (simp [go_sem]; done) | (simp at *; omega))
end Go.Proofs.YtlmhbggigbmeaaaDoor

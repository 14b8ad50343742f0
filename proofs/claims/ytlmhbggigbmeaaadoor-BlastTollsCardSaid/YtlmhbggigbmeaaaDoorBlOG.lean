/- Two or three blocks made one behind the other; a list of numbers that still stands. No condition. Rows of two stones, of two rocks, of two falls, of two airs, each row in one block. Written by gen_rows2.py. No condition. Contracts of lands: CheckLand, isCell, sum, people, run. Condition: the land stands in memory. Rows of a call's own that stand apart from each other and from boxes. No condition. -/
import Derived.Test.YtlmhbggigbmeaaaDoorFree
import Derived.Test.YtlmhbggigbmeaaaDoorBlMG
import Derived.Test.YtlmhbggigbmeaaaDoorBlG
import Derived.Test.YtlmhbggigbmeaaaDoorRootG
import Derived.Test.YtlmhbggigbmeaaaDoorBlLyG
import Derived.Test.YtlmhbggigbmeaaaDoorLawListG
import Derived.OneCell
namespace Go.Proofs.YtlmhbggigbmeaaaDoor
open Go.RowKit Go.Shelf
theorem alloc2_rows {w W : World} {a b : Array Value} {A B : TypeId} (h : (w.alloc (.cells a A)).alloc (.cells b B) = W) : W.heap[w.heap.size]? = some (.cells a A (0, 0)) ∧ W.heap[w.heap.size + 1]? = some (.cells b B (0, 0)) := by
  subst h
  refine ⟨(heap_alloc_old _ _ (by simp)).trans (heap_alloc_new _ _), ?_⟩
  have := heap_alloc_new (w.alloc (.cells a A)) (.cells b B)
  simpa only [World.size_alloc] using this
theorem alloc3_rows {w W : World} {a b c : Array Value} {A B C : TypeId} (h : ((w.alloc (.cells a A)).alloc (.cells b B)).alloc (.cells c C) = W) : W.heap[w.heap.size]? = some (.cells a A (0, 0)) ∧ W.heap[w.heap.size + 1]? = some (.cells b B (0, 0)) ∧ W.heap[w.heap.size + 1 + 1]? = some (.cells c C (0, 0)) := by
  subst h
  obtain ⟨h1, h2⟩ := alloc2_rows (w := w) (a := a) (b := b) (A := A) (B := B) rfl
  refine ⟨(heap_alloc_old _ _ (by simp; omega)).trans h1, (heap_alloc_old _ _ (by simp)).trans h2, ?_⟩
  have := heap_alloc_new ((w.alloc (.cells a A)).alloc (.cells b B)) (.cells c C)
  simpa only [World.size_alloc] using this
theorem listIn_on {w w' : World} {p : Option Addr} {len : Nat} {z : Nat → Int} (h : ListIn w p len z) (b : Below w.heap.size w w') : ListIn w' p len z := by
  refine ⟨h.long, fun h0 => ?_⟩
  obtain ⟨B, o, hp, hB, hi⟩ := h.some h0
  let x : Ext w := ⟨w', b⟩
  exact ⟨B, o, hp, x.lt hB, fun i hi' => ⟨(x.cell hB).trans (hi i hi').1, (hi i hi').2⟩⟩
theorem belowX_put {n B : Nat} {W Y : World} (h : BelowX B n W Y) (u v : Value) : BelowX B n W ((Y.setCell ⟨B, 0, none⟩ u).setCell ⟨B, 1, none⟩ v) := (h.ring 0 u).ring 1 v
theorem boxp_put {W : World} {B : Nat} {a b : Value} {T : TypeId} (h : W.heap[B]? = some (.cells #[a, b] T (0, 0))) (u v : Value) : ((W.setCell ⟨B, 0, none⟩ u).setCell ⟨B, 1, none⟩ v).heap[B]? = some (.cells #[u, v] T (0, 0)) := by
  have h1 := heap_setCell (o := 0) h u
  exact (heap_setCell (o := 1) h1 v).trans (by simp)
end Go.Proofs.YtlmhbggigbmeaaaDoor
namespace Go.Proofs.YtlmhbggigbmeaaaDoor
open Go.RowKit Go.Shelf
theorem stones2_row {W : World} {G : Nat} {T : TypeId} (a b : StoneR) (h : W.heap[G]? = some (.cells #[.int .i64 a.size, .int .i64 a.dens, .int .i64 a.strong, .int .i64 a.spin, .int .i64 a.shape, .bool a.pile, .int .i64 a.speed, .int .i64 a.slope, .int .i64 b.size, .int .i64 b.dens, .int .i64 b.strong, .int .i64 b.spin, .int .i64 b.shape, .bool b.pile, .int .i64 b.speed, .int .i64 b.slope] T (0, 0))) : stones3At W G [a, b] := by
  refine ⟨row_lt h, fun i hi => ?_⟩
  have hi3 : i < 2 := hi
  rcases (show i = 0 ∨ i = 1 by omega) with rfl | rfl
  all_goals exact ⟨(cell_of_row W _ _ _ _ _ h).trans rfl, (cell_of_row W _ _ _ _ _ h).trans rfl, (cell_of_row W _ _ _ _ _ h).trans rfl, (cell_of_row W _ _ _ _ _ h).trans rfl, (cell_of_row W _ _ _ _ _ h).trans rfl, (cell_of_row W _ _ _ _ _ h).trans rfl, (cell_of_row W _ _ _ _ _ h).trans rfl, (cell_of_row W _ _ _ _ _ h).trans rfl⟩
theorem rocks2_row {W : World} {G : Nat} {T : TypeId} (a b : RockR) (h : W.heap[G]? = some (.cells #[.int .i64 a.size.x, .int .i64 a.size.y, .int .i64 a.dens.x, .int .i64 a.dens.y, .int .i64 a.strong.x, .int .i64 a.strong.y, .int .i64 a.spin.x, .int .i64 a.spin.y, .int .i64 a.shape.x, .int .i64 a.shape.y, .bool a.pile, .int .i64 b.size.x, .int .i64 b.size.y, .int .i64 b.dens.x, .int .i64 b.dens.y, .int .i64 b.strong.x, .int .i64 b.strong.y, .int .i64 b.spin.x, .int .i64 b.spin.y, .int .i64 b.shape.x, .int .i64 b.shape.y, .bool b.pile] T (0, 0))) : rocks3At W G [a, b] := by
  refine ⟨row_lt h, fun i hi => ?_⟩
  have hi3 : i < 2 := hi
  rcases (show i = 0 ∨ i = 1 by omega) with rfl | rfl
  all_goals exact ⟨(cell_of_row W _ _ _ _ _ h).trans rfl, (cell_of_row W _ _ _ _ _ h).trans rfl, (cell_of_row W _ _ _ _ _ h).trans rfl, (cell_of_row W _ _ _ _ _ h).trans rfl, (cell_of_row W _ _ _ _ _ h).trans rfl, (cell_of_row W _ _ _ _ _ h).trans rfl, (cell_of_row W _ _ _ _ _ h).trans rfl, (cell_of_row W _ _ _ _ _ h).trans rfl, (cell_of_row W _ _ _ _ _ h).trans rfl, (cell_of_row W _ _ _ _ _ h).trans rfl, (cell_of_row W _ _ _ _ _ h).trans rfl⟩
theorem falls2_row {W : World} {G : Nat} {T : TypeId} (a b : FallR) (h : W.heap[G]? = some (.cells #[.int .i64 a.speed.x, .int .i64 a.speed.y, .int .i64 a.slope.x, .int .i64 a.slope.y, .int .i64 b.speed.x, .int .i64 b.speed.y, .int .i64 b.slope.x, .int .i64 b.slope.y] T (0, 0))) : falls3At W G [a, b] := by
  refine ⟨row_lt h, fun i hi => ?_⟩
  have hi3 : i < 2 := hi
  rcases (show i = 0 ∨ i = 1 by omega) with rfl | rfl
  all_goals exact ⟨(cell_of_row W _ _ _ _ _ h).trans rfl, (cell_of_row W _ _ _ _ _ h).trans rfl, (cell_of_row W _ _ _ _ _ h).trans rfl, (cell_of_row W _ _ _ _ _ h).trans rfl⟩
/-- An air in memory: where it lies, its layers. -/
structure AirR where
  p : Option Addr
  c : Nat
  l : List V2
def AirsAt (W : World) (G : Nat) (l : List AirR) : Prop := G < W.heap.size ∧ ∀ i (h : i < l.length), W.cell? ⟨G, i, none⟩ = some (.slice l[i].p l[i].l.length l[i].c) ∧ VecsAt W l[i].p l[i].l ∧ l[i].l.length ≤ 40
theorem airs2_row {W : World} {G : Nat} {T : TypeId} (a b : AirR) (h : W.heap[G]? = some (.cells #[.slice a.p a.l.length a.c, .slice b.p b.l.length b.c] T (0, 0))) (h1 : VecsAt W a.p a.l) (h2 : VecsAt W b.p b.l) (h3 : a.l.length ≤ 40) (h4 : b.l.length ≤ 40) : AirsAt W G [a, b] := by
  refine ⟨row_lt h, fun i hi => ?_⟩
  have hi3 : i < 2 := hi
  rcases (show i = 0 ∨ i = 1 by omega) with rfl | rfl
  · exact ⟨(cell_of_row W _ _ _ _ _ h).trans rfl, h1, h3⟩
  · exact ⟨(cell_of_row W _ _ _ _ _ h).trans rfl, h2, h4⟩
end Go.Proofs.YtlmhbggigbmeaaaDoor
namespace Go.Proofs.YtlmhbggigbmeaaaDoor
open Go.RowKit Go.Shelf
attribute [local go_sem] Option.isSome_some Ext.cell Ext.frozen Ext.lt Ext.le Ext.lt_add Ext.le_add Ext.ne Ext.ne' lt2 lt3 lt4 lt5 le2 le3 le4
/-- Rows of numbers, of booleans. -/
def NumsAt (W : World) (p : Option Addr) (l : List Int) : Prop := ∀ j (h : j < l.length), ∃ B o, p = some ⟨B, o, none⟩ ∧ B < W.heap.size ∧ W.cell? ⟨B, o + j, none⟩ = some (.int .i64 l[j])
def BoolsAt (W : World) (p : Option Addr) (l : List Bool) : Prop := ∀ j (h : j < l.length), ∃ B o, p = some ⟨B, o, none⟩ ∧ B < W.heap.size ∧ W.cell? ⟨B, o + j, none⟩ = some (.bool l[j])
theorem NumsAt.on {W W' : World} {p : Option Addr} {l : List Int} (h : NumsAt W p l) (b : Below W.heap.size W W') : NumsAt W' p l := fun j hj => by
  obtain ⟨B, o, rfl, hB, h1⟩ := h j hj
  exact ⟨B, o, rfl, Nat.lt_of_lt_of_le hB b.size, (b.cell (p := ⟨B, o + j, none⟩) hB).trans h1⟩
theorem BoolsAt.on {W W' : World} {p : Option Addr} {l : List Bool} (h : BoolsAt W p l) (b : Below W.heap.size W W') : BoolsAt W' p l := fun j hj => by
  obtain ⟨B, o, rfl, hB, h1⟩ := h j hj
  exact ⟨B, o, rfl, Nat.lt_of_lt_of_le hB b.size, (b.cell (p := ⟨B, o + j, none⟩) hB).trans h1⟩
/-- A land: where its rows lie, and what is in them. -/
structure LandR where
  pp : Option Addr
  pc : Nat
  pl : List Int
  wp : Option Addr
  wc : Nat
  wl : List Bool
def LandR.val (x : LandR) : Value := .agg #[.slice x.pp x.pl.length x.pc, .slice x.wp x.wl.length x.wc]
structure LandR.At (x : LandR) (W : World) : Prop where
  nums : NumsAt W x.pp x.pl
  bools : BoolsAt W x.wp x.wl
  cap : x.pl.length ≤ x.pc
theorem LandR.At.on {x : LandR} {W W' : World} (h : x.At W) (b : Below W.heap.size W W') : x.At W' := ⟨h.nums.on b, h.bools.on b, h.cap⟩
def pplE : List Int → Int
  | [] => 0
  | n :: l => if 0 ≤ n ∧ n ≤ 4294967296 then pplE l else 2
def landE (x : LandR) : Int := if x.pl.length = 0 then 6 else if 400 < x.pl.length then 8 else if x.wl.length ≠ x.pl.length then 3 else pplE x.pl
structure LandR.Ok (x : LandR) : Prop where
  pos : 0 < x.pl.length
  le : x.pl.length ≤ 400
  len : x.wl.length = x.pl.length
  num : ∀ n ∈ x.pl, 0 ≤ n ∧ n ≤ 4294967296
theorem pplE_ok {l : List Int} : pplE l = 0 ↔ ∀ n ∈ l, 0 ≤ n ∧ n ≤ 4294967296 := by
  induction l with
  | nil => simp [pplE]
  | cons v l ih =>
    unfold pplE
    split
    · rename_i h; rw [ih]; simp [h]
    · rename_i h
      simp only [List.mem_cons, forall_eq_or_imp, h, false_and, iff_false]
      decide
theorem LandR.Ok.e {x : LandR} (h : x.Ok) : landE x = 0 := by
  unfold landE
  rw [if_neg (by have := h.pos; omega), if_neg (by have := h.le; omega), if_neg (by have := h.len; omega)]
  exact pplE_ok.2 h.num
theorem sum_bound {l : List Int} (h : ∀ n ∈ l, 0 ≤ n ∧ n ≤ 4294967296) : 0 ≤ l.sum ∧ l.sum ≤ 4294967296 * l.length := by
  induction l with
  | nil => simp
  | cons a l ih =>
    have h1 := ih (fun n hn => h n (by simp [hn]))
    have h2 := h a (by simp)
    simp only [List.sum_cons, List.length_cons]
    omega
set_option maxHeartbeats 4000000 in
theorem sum_any (p : Option Addr) (c : Nat) (l : List Int) (w : World) (hP : NumsAt w p l) (hn : l.length ≤ 400) (hb : ∀ n ∈ l, 0 ≤ n ∧ n ≤ 4294967296) : Calls Tryd.prog 100 #[.slice p l.length c] w (Gives (.int .i64 l.sum) w) := by
  have hP := Go.Lib.hid hP
  have hb := Go.Lib.hid hb
  go_enter Tryd.func100, Tryd.ntmps100
  go_wp2_with (first | ((first | with_reducible refine wrx2 ?_ | with_reducible refine wrx ?_); (repeat (first | go_big_quiet_step ((first | fail)) | quiet_step ((first | fail)))); refine wpQuiet_nil ?_; rintro _ ⟨yr, rfl⟩; have syr := Ext.size yr; (repeat (first | rw [World.size_alloc] at syr | rw [World.size_setCell] at syr | rw [World.size_drew] at syr))))
  go_loopw [3, 8] (fun t s W => ∃ (i : Nat) (z : Int) (x : Ext w), t = .int .i64 z ∧ s = .int .i64 i ∧ W = x.now ∧ Hid (i ≤ l.length ∧ z = (l.take i).sum)) (fun _ s _ => l.length - (intOf s).toNat)
  case atStart => exact ⟨0, 0, ⟨w, Below.refl _ _⟩, rfl, rfl, rfl, Go.Lib.hid ⟨Nat.zero_le _, by simp⟩⟩
  case round =>
    obtain ⟨i, z, x, rfl, rfl, rfl, hi⟩ := hrel
    have xs := x.size
    by_cases hlt : i < l.length
    · have hlt2 : (i : Int) < l.length := by omega
      obtain ⟨B, o, rfl, hB, c1⟩ := hP.out i hlt
      have key : Hid (i + 1 ≤ l.length ∧ z + l[i] = (l.take (i + 1)).sum) := Go.Lib.hid ⟨hlt, by rw [List.take_succ_eq_append_getElem hlt, List.sum_append, hi.out.2]; simp⟩
      have hz : 0 ≤ z ∧ z ≤ 4294967296 * 400 := by
        have := sum_bound (l := l.take i) (fun n hn => hb.out n (List.mem_of_mem_take hn))
        have e : (l.take i).length ≤ 400 := by rw [List.length_take]; omega
        rw [hi.out.2]; omega
      have hbi := hb.out l[i] (List.getElem_mem hlt)
      clear hi
      generalize l[i] = v at *
      obtain ⟨z1, z2⟩ := hz
      obtain ⟨v1, v2⟩ := hbi
      go_wp2_with (first | ((first | with_reducible refine wrx2 ?_ | with_reducible refine wrx ?_); (repeat (first | go_big_quiet_step ((first | fail)) | quiet_step ((first | fail)))); refine wpQuiet_nil ?_; rintro _ ⟨yr, rfl⟩; have syr := Ext.size yr; (repeat (first | rw [World.size_alloc] at syr | rw [World.size_setCell] at syr | rw [World.size_drew] at syr)); have : B < yr.now.heap.size := (by omega); have : B ≤ yr.now.heap.size := (by omega); have : B < yr.now.heap.size + 1 + 1 := (by omega)))
      exact ⟨⟨i + 1, z + v, x, rfl, by simp, rfl, key⟩, by simp [intOf]; omega⟩
    · have hge : ¬ (i : Int) < l.length := by omega
      have eV : z = l.sum := by rw [hi.out.2, List.take_of_length_le (by omega)]
      clear hi
      subst eV
      go_wp2_with (first | ((first | with_reducible refine wrx2 ?_ | with_reducible refine wrx ?_); (repeat (first | go_big_quiet_step ((first | fail)) | quiet_step ((first | fail)))); refine wpQuiet_nil ?_; rintro _ ⟨yr, rfl⟩; have syr := Ext.size yr; (repeat (first | rw [World.size_alloc] at syr | rw [World.size_setCell] at syr | rw [World.size_drew] at syr))))
      go_returns
      refine ⟨rfl, ?_⟩
      repeat' (first | (with_reducible exact Below.refl _ _) | (with_reducible assumption) | (with_reducible refine Ext.below _ ?_ ?_) | (with_reducible refine Below.on ?_ (by with_reducible assumption) ?_) | (with_reducible refine Below.alloc ?_ ?_ _) | (with_reducible refine Below.drew ?_) | (with_reducible refine Below.setCell ?_ ?_ _) | (with_reducible exact Nat.le_refl _) | omega | (simp; done) | (simp [go_sem]; done) | (simp at *; omega))
theorem isCell_any (x : LandR) (at' : Int) (w : World) : Calls Tryd.prog 59 #[x.val, .int .i64 at'] w (Gives (.bool (decide (0 ≤ at' ∧ at' < x.pl.length))) w) := by
  unfold LandR.val
  go_enter Tryd.func59, Tryd.ntmps59
  go_wp2_with (first | ((first | with_reducible refine wrx2 ?_ | with_reducible refine wrx ?_); (repeat (first | go_big_quiet_step ((first | fail)) | quiet_step ((first | fail)))); refine wpQuiet_nil ?_; rintro _ ⟨yr, rfl⟩; have syr := Ext.size yr; (repeat (first | rw [World.size_alloc] at syr | rw [World.size_setCell] at syr | rw [World.size_drew] at syr))))
  all_goals go_returns
  all_goals refine ⟨ret_bool ?_, ?_⟩
  all_goals first
    | (rw [decide_eq_decide]; omega)
    | (simp; omega)
    | (symm; simp; omega)
    | ((repeat' (first | (with_reducible exact Below.refl _ _) | (with_reducible assumption) | (with_reducible refine Ext.below _ ?_ ?_) | (with_reducible refine Below.on ?_ (by with_reducible assumption) ?_) | (with_reducible refine Below.alloc ?_ ?_ _) | (with_reducible refine Below.drew ?_) | (with_reducible refine Below.setCell ?_ ?_ _) | (with_reducible exact Nat.le_refl _) | omega | (simp; done) | (simp [go_sem]; done) | (simp at *; omega))); done)
end Go.Proofs.YtlmhbggigbmeaaaDoor
namespace Go.Proofs.YtlmhbggigbmeaaaDoor
open Go.RowKit Go.Shelf
theorem row_ne {w : World} {base : Nat} {e T : TypeId} {size B n : Nat} {v : Value} {xs : List Value} {cs : Array Value} {f : Nat × Nat} (h : w.ownsRow base e size v n xs) (hY : w.heap[B]? = some (.cells cs T f)) (hne : T ≠ e) : some B ≠ v.ownBlock := by
  rcases h.2 with ⟨rfl, _⟩ | ⟨g, cap, cur, rfl, _, hc, _⟩
  · intro e; cases e
  · intro e'
    simp only [Value.ownBlock, Option.some.injEq] at e'
    subst e'
    rw [hc] at hY
    simp only [Option.some.injEq, Obj.cells.injEq] at hY
    exact hne hY.2.1.symm
theorem row_apart {w : World} {b b' : Nat} {e e' : TypeId} {s s' : Nat} {v v' : Value} {n n' : Nat} {xs xs' : List Value} (h : w.ownsRow b e s v n xs) (h' : w.ownsRow b' e' s' v' n' xs') (he : e ≠ e') : v.ownBlock = none ∨ v.ownBlock ≠ v'.ownBlock := by
  rcases h.2 with ⟨rfl, _⟩ | ⟨g, cap, cur, rfl, _, hg, _⟩
  · exact .inl rfl
  · rcases h'.2 with ⟨rfl, _⟩ | ⟨g', cap', cur', rfl, _, hg', _⟩
    · exact .inr (by simp [Value.ownBlock])
    · refine .inr fun hh => ?_
      simp only [Value.ownBlock, Option.some.injEq] at hh
      subst hh
      rw [hg] at hg'
      simp only [Option.some.injEq, Obj.cells.injEq] at hg'
      exact he hg'.2.1
theorem row_put {w : World} {base : Nat} {e : TypeId} {size : Nat} {v : Value} {n : Nat} {xs : List Value} (h : w.ownsRow base e size v n xs) {B : Nat} (hB : B < base) (o : Nat) (u : Value) : (w.setCell ⟨B, o, none⟩ u).ownsRow base e size v n xs := ownsRow_setCell_below h (a := ⟨B, o, none⟩) hB u
theorem blk_set (w : World) (a : Addr) (u : Value) (k : Nat) (h : k ≠ a.block) : (w.setCell a u).heap[k]? = w.heap[k]? := by
  simp only [World.setCell, Array.getElem?_modify]
  rw [if_neg (by omega)]
end Go.Proofs.YtlmhbggigbmeaaaDoor

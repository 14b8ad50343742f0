/- For BlastChecks: rocks, falls, stones and airs are checked, stones are of rocks, masses and holds are as the reference says, for any arguments. Written by gen_checks2.py. Condition: none beyond the statement's own. -/
import Derived.Test.YtpiacndnjehbiaaDoorBlC6
import Derived.Test.YtpiacndnjehbiaaDoorBlHolds
import Derived.Test.YtpiacndnjehbiaaDoorBlO
namespace Go.Proofs.YtpiacndnjehbiaaDoor
open Go.RowKit Go.Shelf
attribute [local go_sem] Option.isSome_some Ext.cell Ext.frozen Ext.lt Ext.le Ext.lt_add Ext.le_add Ext.ne Ext.ne' lt2 lt3 lt4 lt5 le2 le3 le4
attribute [local go_sem] RExt.cell RExt.frozen RExt.lt RExt.le RExt.lt_add RExt.le_add RExt.ne RExt.ne'
theorem alloc2_rows {w W : World} {a b : Array Value} {A B : TypeId} (h : (w.alloc (.cells a A)).alloc (.cells b B) = W) : W.heap[w.heap.size]? = some (.cells a A (0, 0)) ∧ W.heap[w.heap.size + 1]? = some (.cells b B (0, 0)) := by
  subst h
  refine ⟨(heap_alloc_old _ _ (by simp)).trans (heap_alloc_new _ _), ?_⟩
  have := heap_alloc_new (w.alloc (.cells a A)) (.cells b B)
  simpa only [World.size_alloc] using this
theorem alloc3_rows {w W : World} {a b c : Array Value} {A B C : TypeId} (h : ((w.alloc (.cells a A)).alloc (.cells b B)).alloc (.cells c C) = W) : W.heap[w.heap.size]? = some (.cells a A (0, 0)) ∧ W.heap[w.heap.size + 1]? = some (.cells b B (0, 0)) ∧ W.heap[w.heap.size + 1 + 1]? = some (.cells c C (0, 0)) := by
  subst h
  obtain ⟨h1, h2⟩ := alloc2_rows (w := w) (a := a) (b := b) (A := A) (B := B) rfl
  refine ⟨(heap_alloc_old _ _ (by simp; omega)).trans h1, (heap_alloc_old _ _ (by simp)).trans h2, ?_⟩
  have := heap_alloc_new ((w.alloc (.cells a A)).alloc (.cells b B)) (.cells c C)
  simpa only [World.size_alloc] using this
theorem listIn_on {w w' : World} {p : Option Addr} {len : Nat} {z : Nat → Int} (h : ListIn w p len z) (b : Below w.heap.size w w') : ListIn w' p len z := by
  refine ⟨h.long, fun h0 => ?_⟩
  obtain ⟨B, o, hp, hB, hi⟩ := h.some h0
  let x : Ext w := ⟨w', b⟩
  exact ⟨B, o, hp, x.lt hB, fun i hi' => ⟨(x.cell hB).trans (hi i hi').1, (hi i hi').2⟩⟩
def chkDeps : List (List Nat) := [[], [], [], [], [1, 2, 3], [], [0, 4, 5], [], [], [], [7, 8, 9], [], [], [], [11, 12, 13], [6], [10], [14]]
def chkInv (b m : Nat) (J k : RockR) (F f : FallR) (s : StoneR) (a0 : Act) (X : World) (l : List Bool) (fr : Act) (W : World) : Prop :=
  ∃ s14 s15 s16 s29 s30 s31 s32 s33 s34 s35 s36 s37 s38 s39 s40 s41 s42 s43 : Value, fr = sets a0 [(14, s14), (15, s15), (16, s16), (29, s29), (30, s30), (31, s31), (32, s32), (33, s33), (34, s34), (35, s35), (36, s36), (37, s37), (38, s38), (39, s39), (40, s40), (41, s41), (42, s42), (43, s43)] ∧ BelowX b X.heap.size X W ∧
    (RingM W b (m + 14 * (l.getD 4 false).toNat)) ∧
    (l.getD 0 false = true → s29 = .agg #[.int .i64 s.size, .int .i64 s.dens, .int .i64 s.strong, .int .i64 s.spin, .int .i64 s.shape, .bool s.pile, .int .i64 s.speed, .int .i64 s.slope]) ∧
    (l.getD 1 false = true → s30 = .pointer (some ⟨b, 0, none⟩)) ∧
    (l.getD 2 false = true → s31 = .agg #[.int .i64 k.size.x, .int .i64 k.size.y, .int .i64 k.dens.x, .int .i64 k.dens.y, .int .i64 k.strong.x, .int .i64 k.strong.y, .int .i64 k.spin.x, .int .i64 k.spin.y, .int .i64 k.shape.x, .int .i64 k.shape.y, .bool k.pile]) ∧
    (l.getD 3 false = true → s32 = .agg #[.int .i64 f.speed.x, .int .i64 f.speed.y, .int .i64 f.slope.x, .int .i64 f.slope.y]) ∧
    (l.getD 4 false = true → ∃ x : StoneR, StoneIn x k f ∧ s33 = .agg x.vals) ∧
    (l.getD 5 false = true → s34 = .agg #[.int .i64 s.size, .int .i64 s.dens, .int .i64 s.strong, .int .i64 s.spin, .int .i64 s.shape, .bool s.pile, .int .i64 s.speed, .int .i64 s.slope]) ∧
    (l.getD 6 false = true → ∃ (g : Nat) (x : StoneR), StoneIn x k f ∧ s35 = .slice (some ⟨g, 0, none⟩) 3 3 ∧ X.heap.size ≤ g ∧ g < W.heap.size ∧ W.heap[g]? = some (.cells #[.int .i64 s.size, .int .i64 s.dens, .int .i64 s.strong, .int .i64 s.spin, .int .i64 s.shape, .bool s.pile, .int .i64 s.speed, .int .i64 s.slope, .int .i64 x.size, .int .i64 x.dens, .int .i64 x.strong, .int .i64 x.spin, .int .i64 x.shape, .bool x.pile, .int .i64 x.speed, .int .i64 x.slope, .int .i64 s.size, .int .i64 s.dens, .int .i64 s.strong, .int .i64 s.spin, .int .i64 s.shape, .bool s.pile, .int .i64 s.speed, .int .i64 s.slope] 30 (0, 0))) ∧
    (l.getD 7 false = true → s36 = .agg #[.int .i64 J.size.x, .int .i64 J.size.y, .int .i64 J.dens.x, .int .i64 J.dens.y, .int .i64 J.strong.x, .int .i64 J.strong.y, .int .i64 J.spin.x, .int .i64 J.spin.y, .int .i64 J.shape.x, .int .i64 J.shape.y, .bool J.pile]) ∧
    (l.getD 8 false = true → s37 = .agg #[.int .i64 k.size.x, .int .i64 k.size.y, .int .i64 k.dens.x, .int .i64 k.dens.y, .int .i64 k.strong.x, .int .i64 k.strong.y, .int .i64 k.spin.x, .int .i64 k.spin.y, .int .i64 k.shape.x, .int .i64 k.shape.y, .bool k.pile]) ∧
    (l.getD 9 false = true → s38 = .agg #[.int .i64 k.size.x, .int .i64 k.size.y, .int .i64 k.dens.x, .int .i64 k.dens.y, .int .i64 k.strong.x, .int .i64 k.strong.y, .int .i64 k.spin.x, .int .i64 k.spin.y, .int .i64 k.shape.x, .int .i64 k.shape.y, .bool k.pile]) ∧
    (l.getD 10 false = true → ∃ (g : Nat), s39 = .slice (some ⟨g, 0, none⟩) 3 3 ∧ X.heap.size ≤ g ∧ g < W.heap.size ∧ W.heap[g]? = some (.cells #[.int .i64 J.size.x, .int .i64 J.size.y, .int .i64 J.dens.x, .int .i64 J.dens.y, .int .i64 J.strong.x, .int .i64 J.strong.y, .int .i64 J.spin.x, .int .i64 J.spin.y, .int .i64 J.shape.x, .int .i64 J.shape.y, .bool J.pile, .int .i64 k.size.x, .int .i64 k.size.y, .int .i64 k.dens.x, .int .i64 k.dens.y, .int .i64 k.strong.x, .int .i64 k.strong.y, .int .i64 k.spin.x, .int .i64 k.spin.y, .int .i64 k.shape.x, .int .i64 k.shape.y, .bool k.pile, .int .i64 k.size.x, .int .i64 k.size.y, .int .i64 k.dens.x, .int .i64 k.dens.y, .int .i64 k.strong.x, .int .i64 k.strong.y, .int .i64 k.spin.x, .int .i64 k.spin.y, .int .i64 k.shape.x, .int .i64 k.shape.y, .bool k.pile] 26 (0, 0))) ∧
    (l.getD 11 false = true → s40 = .agg #[.int .i64 F.speed.x, .int .i64 F.speed.y, .int .i64 F.slope.x, .int .i64 F.slope.y]) ∧
    (l.getD 12 false = true → s41 = .agg #[.int .i64 f.speed.x, .int .i64 f.speed.y, .int .i64 f.slope.x, .int .i64 f.slope.y]) ∧
    (l.getD 13 false = true → s42 = .agg #[.int .i64 f.speed.x, .int .i64 f.speed.y, .int .i64 f.slope.x, .int .i64 f.slope.y]) ∧
    (l.getD 14 false = true → ∃ (g : Nat), s43 = .slice (some ⟨g, 0, none⟩) 3 3 ∧ X.heap.size ≤ g ∧ g < W.heap.size ∧ W.heap[g]? = some (.cells #[.int .i64 F.speed.x, .int .i64 F.speed.y, .int .i64 F.slope.x, .int .i64 F.slope.y, .int .i64 f.speed.x, .int .i64 f.speed.y, .int .i64 f.slope.x, .int .i64 f.slope.y, .int .i64 f.speed.x, .int .i64 f.speed.y, .int .i64 f.slope.x, .int .i64 f.slope.y] 28 (0, 0))) ∧
    (l.getD 15 false = true → ∃ (g : Nat) (x : StoneR), StoneIn x k f ∧ s14 = .slice (some ⟨g, 0, none⟩) 3 3 ∧ X.heap.size ≤ g ∧ g < W.heap.size ∧ W.heap[g]? = some (.cells #[.int .i64 s.size, .int .i64 s.dens, .int .i64 s.strong, .int .i64 s.spin, .int .i64 s.shape, .bool s.pile, .int .i64 s.speed, .int .i64 s.slope, .int .i64 x.size, .int .i64 x.dens, .int .i64 x.strong, .int .i64 x.spin, .int .i64 x.shape, .bool x.pile, .int .i64 x.speed, .int .i64 x.slope, .int .i64 s.size, .int .i64 s.dens, .int .i64 s.strong, .int .i64 s.spin, .int .i64 s.shape, .bool s.pile, .int .i64 s.speed, .int .i64 s.slope] 30 (0, 0))) ∧
    (l.getD 16 false = true → ∃ (g : Nat), s15 = .slice (some ⟨g, 0, none⟩) 3 3 ∧ X.heap.size ≤ g ∧ g < W.heap.size ∧ W.heap[g]? = some (.cells #[.int .i64 J.size.x, .int .i64 J.size.y, .int .i64 J.dens.x, .int .i64 J.dens.y, .int .i64 J.strong.x, .int .i64 J.strong.y, .int .i64 J.spin.x, .int .i64 J.spin.y, .int .i64 J.shape.x, .int .i64 J.shape.y, .bool J.pile, .int .i64 k.size.x, .int .i64 k.size.y, .int .i64 k.dens.x, .int .i64 k.dens.y, .int .i64 k.strong.x, .int .i64 k.strong.y, .int .i64 k.spin.x, .int .i64 k.spin.y, .int .i64 k.shape.x, .int .i64 k.shape.y, .bool k.pile, .int .i64 k.size.x, .int .i64 k.size.y, .int .i64 k.dens.x, .int .i64 k.dens.y, .int .i64 k.strong.x, .int .i64 k.strong.y, .int .i64 k.spin.x, .int .i64 k.spin.y, .int .i64 k.shape.x, .int .i64 k.shape.y, .bool k.pile] 26 (0, 0))) ∧
    (l.getD 17 false = true → ∃ (g : Nat), s16 = .slice (some ⟨g, 0, none⟩) 3 3 ∧ X.heap.size ≤ g ∧ g < W.heap.size ∧ W.heap[g]? = some (.cells #[.int .i64 F.speed.x, .int .i64 F.speed.y, .int .i64 F.slope.x, .int .i64 F.slope.y, .int .i64 f.speed.x, .int .i64 f.speed.y, .int .i64 f.slope.x, .int .i64 f.slope.y, .int .i64 f.speed.x, .int .i64 f.speed.y, .int .i64 f.slope.x, .int .i64 f.slope.y] 28 (0, 0)))
def chkTold (b : Nat) (J k : RockR) (F f : FallR) (s : StoneR) : Act → World → Act → World → Prop := fun a X a' W => ∃ (g1 g2 g3 : Nat) (x : StoneR), a' = sets a [(14, .slice (some ⟨g1, 0, none⟩) 3 3), (15, .slice (some ⟨g2, 0, none⟩) 3 3), (16, .slice (some ⟨g3, 0, none⟩) 3 3), (29, a'.tmps.getD 29 undef), (30, a'.tmps.getD 30 undef), (31, a'.tmps.getD 31 undef), (32, a'.tmps.getD 32 undef), (33, a'.tmps.getD 33 undef), (34, a'.tmps.getD 34 undef), (35, a'.tmps.getD 35 undef), (36, a'.tmps.getD 36 undef), (37, a'.tmps.getD 37 undef), (38, a'.tmps.getD 38 undef), (39, a'.tmps.getD 39 undef), (40, a'.tmps.getD 40 undef), (41, a'.tmps.getD 41 undef), (42, a'.tmps.getD 42 undef), (43, a'.tmps.getD 43 undef)] ∧ StoneIn x k f ∧ BelowX b X.heap.size X W ∧ W.heap[g1]? = some (.cells #[.int .i64 s.size, .int .i64 s.dens, .int .i64 s.strong, .int .i64 s.spin, .int .i64 s.shape, .bool s.pile, .int .i64 s.speed, .int .i64 s.slope, .int .i64 x.size, .int .i64 x.dens, .int .i64 x.strong, .int .i64 x.spin, .int .i64 x.shape, .bool x.pile, .int .i64 x.speed, .int .i64 x.slope, .int .i64 s.size, .int .i64 s.dens, .int .i64 s.strong, .int .i64 s.spin, .int .i64 s.shape, .bool s.pile, .int .i64 s.speed, .int .i64 s.slope] 30 (0, 0)) ∧ W.heap[g2]? = some (.cells #[.int .i64 J.size.x, .int .i64 J.size.y, .int .i64 J.dens.x, .int .i64 J.dens.y, .int .i64 J.strong.x, .int .i64 J.strong.y, .int .i64 J.spin.x, .int .i64 J.spin.y, .int .i64 J.shape.x, .int .i64 J.shape.y, .bool J.pile, .int .i64 k.size.x, .int .i64 k.size.y, .int .i64 k.dens.x, .int .i64 k.dens.y, .int .i64 k.strong.x, .int .i64 k.strong.y, .int .i64 k.spin.x, .int .i64 k.spin.y, .int .i64 k.shape.x, .int .i64 k.shape.y, .bool k.pile, .int .i64 k.size.x, .int .i64 k.size.y, .int .i64 k.dens.x, .int .i64 k.dens.y, .int .i64 k.strong.x, .int .i64 k.strong.y, .int .i64 k.spin.x, .int .i64 k.spin.y, .int .i64 k.shape.x, .int .i64 k.shape.y, .bool k.pile] 26 (0, 0)) ∧ W.heap[g3]? = some (.cells #[.int .i64 F.speed.x, .int .i64 F.speed.y, .int .i64 F.slope.x, .int .i64 F.slope.y, .int .i64 f.speed.x, .int .i64 f.speed.y, .int .i64 f.slope.x, .int .i64 f.slope.y, .int .i64 f.speed.x, .int .i64 f.speed.y, .int .i64 f.slope.x, .int .i64 f.slope.y] 28 (0, 0))
set_option maxRecDepth 100000 in
set_option maxHeartbeats 16000000 in
theorem BlastChecks_any (lp : Option Addr) (lc : Nat) (ls : List V2) (J : RockR) (F : FallR) (s : StoneR) (sp : Option Addr) (sl sc : Nat) (sz : Nat → Int) (w : World) (hlim : LimAt w) (hP : VecsAt w lp ls) (hw : ListIn w sp sl sz) : Calls Tryd.prog 3 #[.slice lp ls.length lc, J.val, F.val, s.val, .slice sp sl sc] w (Gives (.bool true) w) := by
  have ca := fun W (y : LimAt W) => blastAwake_any W y
  have hl0 := hlim.lt
  unfold StoneR.val StoneR.vals RockR.val FallR.val
  by_cases h40 : 40 < ls.length
  · have h40' : 40 < (ls.length : Int) := by omega
    go_enter Tryd.func3, Tryd.ntmps3
    go_wp2_with (first | ((first | with_reducible refine wp_region_ext2 (by kernel_rfl) (by kernel_rfl) ?_ | with_reducible refine wp_region_ext (by kernel_rfl) (by kernel_rfl) ?_); (repeat (first | go_big_quiet_step ((first | (go_at_call 7; with_reducible exact Calls.ext (ca _ (by repeat (first | exact hlim | (with_reducible refine LimAt.ext ?_ _) | (with_reducible refine LimAt.alloc ?_ _) | (with_reducible refine LimAt.drew ?_) | (with_reducible refine LimAt.rext ?_ (by omega) _) | (with_reducible refine LimAt.set ?_ (by omega) _))))))) | quiet_step ((first | (go_at_call 7; with_reducible exact Calls.ext (ca _ (by repeat (first | exact hlim | (with_reducible refine LimAt.ext ?_ _) | (with_reducible refine LimAt.alloc ?_ _) | (with_reducible refine LimAt.drew ?_) | (with_reducible refine LimAt.rext ?_ (by omega) _) | (with_reducible refine LimAt.set ?_ (by omega) _))))))))); refine wpQuiet_nil ?_; rintro _ ⟨yr, rfl⟩; have syr := Ext.size yr; (repeat (first | rw [World.size_alloc] at syr | rw [World.size_setCell] at syr | rw [World.size_drew] at syr))) | (go_at_call 7; (first | with_reducible refine (Calls.giv2 (ca _ (by repeat (first | exact hlim | (with_reducible refine LimAt.ext ?_ _) | (with_reducible refine LimAt.alloc ?_ _) | (with_reducible refine LimAt.drew ?_) | (with_reducible refine LimAt.rext ?_ (by omega) _) | (with_reducible refine LimAt.set ?_ (by omega) _))))).mono ?_ | with_reducible refine (Calls.giv (ca _ (by repeat (first | exact hlim | (with_reducible refine LimAt.ext ?_ _) | (with_reducible refine LimAt.alloc ?_ _) | (with_reducible refine LimAt.drew ?_) | (with_reducible refine LimAt.rext ?_ (by omega) _) | (with_reducible refine LimAt.set ?_ (by omega) _))))).mono ?_); rintro _ _ ⟨y1, rfl, rfl⟩; have sy1 := Ext.size y1; (repeat (first | rw [World.size_alloc] at sy1 | rw [World.size_setCell] at sy1 | rw [World.size_drew] at sy1))))
    go_returns
    refine ⟨rfl, ?_⟩
    repeat' (first | (with_reducible exact Below.refl _ _) | (with_reducible assumption) | (with_reducible refine Ext.below _ ?_ ?_) | (with_reducible refine Below.on ?_ (by with_reducible assumption) ?_) | (with_reducible refine Below.alloc ?_ ?_ _) | (with_reducible refine Below.drew ?_) | (with_reducible refine Below.setCell ?_ ?_ _) | (with_reducible exact Nat.le_refl _) | omega | (simp; done) | (simp [go_sem]; done) | (simp at *; omega))
  have h40' : ¬ 40 < (ls.length : Int) := by omega
  have hn9 : ls.length ≤ 1000 := by omega
  clear h40
  go_enter Tryd.func3, Tryd.ntmps3
  go_upto_region 3 with (first | ((first | with_reducible refine wp_region_ext2 (by kernel_rfl) (by kernel_rfl) ?_ | with_reducible refine wp_region_ext (by kernel_rfl) (by kernel_rfl) ?_); (repeat (first | go_big_quiet_step ((first | fail)) | quiet_step ((first | fail)))); refine wpQuiet_nil ?_; rintro _ ⟨yr, rfl⟩; have syr := Ext.size yr; (repeat (first | rw [World.size_alloc] at syr | rw [World.size_setCell] at syr | rw [World.size_drew] at syr))))
  refine wp_named (fun W0 hW => ?_)
  have e0 : W0.heap.size = w.heap.size + 1 + 1 + 1 := by rw [← hW]; simp
  have hB0 : Below w.heap.size w W0 := by rw [← hW]; repeat' (first | (with_reducible exact Below.refl _ _) | (with_reducible assumption) | (with_reducible refine Ext.below _ ?_ ?_) | (with_reducible refine Below.on ?_ (by with_reducible assumption) ?_) | (with_reducible refine Below.alloc ?_ ?_ _) | (with_reducible refine Below.drew ?_) | (with_reducible refine Below.setCell ?_ ?_ _) | (with_reducible exact Nat.le_refl _) | omega | (simp; done) | (simp [go_sem]; done) | (simp at *; omega))
  obtain ⟨rK, rF, rS⟩ := alloc3_rows hW
  have hlim0 : LimAt W0 := hlim.on hB0
  have hw0 : ListIn W0 sp sl sz := listIn_on hw hB0
  have hP0 : VecsAt W0 lp ls := hP.on hB0
  clear hW h40'
  go_upto_region 4 with (first | ((first | with_reducible refine wp_region_ext2 (by kernel_rfl) (by kernel_rfl) ?_ | with_reducible refine wp_region_ext (by kernel_rfl) (by kernel_rfl) ?_); (repeat (first | go_big_quiet_step ((first | fail)) | quiet_step ((first | fail)))); refine wpQuiet_nil ?_; rintro _ ⟨yr, rfl⟩; have syr := Ext.size yr; (repeat (first | rw [World.size_alloc] at syr | rw [World.size_setCell] at syr | rw [World.size_drew] at syr))) | (go_at_call 8; refine (NewRing_r sp sl sc sz _ hw0).mono ?_; rintro _ _ ⟨y0, rfl, rfl, hs0, hr0⟩))
  have hR0 : RingM y0.now W0.heap.size 0 := ⟨_, _, _, _, _, hr0, Nat.le_refl _⟩
  have hlim1 : LimAt y0.now := hlim0.ext y0
  have hb0 : Below w.heap.size w y0.now := hB0.trans (y0.grew.mono (by omega))
  have hb1 := y0.grew
  obtain ⟨RB, hRB⟩ : ∃ n, w.heap.size + 1 + 1 + 1 = n := ⟨_, rfl⟩
  rw [e0, hRB] at hR0 hb1 hs0
  rw [hRB]
  replace rK := (hb1.block w.heap.size (by omega)).trans rK
  replace rF := (hb1.block (w.heap.size + 1) (by omega)).trans rF
  replace rS := (hb1.block (w.heap.size + 1 + 1) (by omega)).trans rS
  generalize y0.now = W1 at *
  clear hr0
  have hlW1 := hR0.lt
  go_upto_region 5 with (first | ((first | with_reducible refine wp_region_ext2 (by kernel_rfl) (by kernel_rfl) ?_ | with_reducible refine wp_region_ext (by kernel_rfl) (by kernel_rfl) ?_); (repeat (first | go_big_quiet_step ((first | fail)) | quiet_step ((first | fail)))); refine wpQuiet_nil ?_; rintro _ ⟨yr, rfl⟩; have syr := Ext.size yr; (repeat (first | rw [World.size_alloc] at syr | rw [World.size_setCell] at syr | rw [World.size_drew] at syr))) | (go_at_call 9; refine (RockOf_y RB 0 _ (by omega) hR0).mono ?_; rintro _ _ ⟨y1, k, f, rfl, hok, rfl, hr1⟩; unfold RockR.val FallR.val; have sy1 := y1.size))
  obtain ⟨m0, hm0⟩ : ∃ m0, 0 + 16 = m0 := ⟨_, rfl⟩
  refine wp_named (fun Wr hW => ?_)
  have hRr : RingM Wr RB m0 := by rw [← hW, ← hm0]; exact (hr1.alloc _).alloc _
  have hBr : BelowX RB W1.heap.size W1 Wr := by
    rw [← hW]
    have h6 := y1.grew
    repeat' (first | (with_reducible exact BelowX.refl _ _ _) | (with_reducible assumption) | (with_reducible refine RExt.belowX _ ?_ ?_) | (with_reducible refine Ext.belowX _ ?_ ?_) | (with_reducible refine BelowX.alloc ?_ ?_ _) | (with_reducible refine BelowX.drew ?_) | (with_reducible refine BelowX.setCell ?_ ?_ _) | (with_reducible exact Nat.le_refl _) | omega | (simp; done) | (simp [go_sem]; done) | (simp at *; omega))
  obtain ⟨rk, rf⟩ := alloc2_rows hW
  have e1 : Wr.heap.size = y1.now.heap.size + 1 + 1 := by rw [← hW]; simp
  have hlr : LimAt Wr := by
    rw [← hW]
    have hlim : LimAt y1.now := hlim1.rext (by omega) y1
    exact (by repeat (first | exact hlim | (with_reducible refine LimAt.ext ?_ _) | (with_reducible refine LimAt.alloc ?_ _) | (with_reducible refine LimAt.drew ?_) | (with_reducible refine LimAt.rext ?_ (by omega) _) | (with_reducible refine LimAt.set ?_ (by omega) _)))
  replace rK := (hBr.block w.heap.size (by omega) (by omega)).trans rK
  replace rF := (hBr.block (w.heap.size + 1) (by omega) (by omega)).trans rF
  replace rS := (hBr.block (w.heap.size + 1 + 1) (by omega) (by omega)).trans rS
  have hnew : Below w.heap.size w Wr := ((BelowX.of hb0).trans (hBr.mono (by omega))).below (by omega)
  have hm9 : m0 = 16 := hm0.symm
  clear hW hr1 hm0 hR0 hlim1 hlim0 hw0 hP0 hw hB0 hb0 hb1 hBr y0
  have lK : w.heap.size < Wr.heap.size := by omega
  have lF : w.heap.size + 1 < Wr.heap.size := by omega
  have lS : w.heap.size + 1 + 1 < Wr.heap.size := by omega
  have lk : y1.now.heap.size < Wr.heap.size := by omega
  have lf : y1.now.heap.size + 1 < Wr.heap.size := by omega
  have nK : w.heap.size ≠ RB := by omega
  have nF : w.heap.size + 1 ≠ RB := by omega
  have nS : w.heap.size + 1 + 1 ≠ RB := by omega
  have nk : y1.now.heap.size ≠ RB := by omega
  have nf : y1.now.heap.size + 1 ≠ RB := by omega
  refine wp_tell (chkTold RB J k F f s) ?_ ?_
  focus
    have hbX := hRr.lt
    clear hlim hP hlr hnew
    repeat (rename_i zz; clear zz)
    subst hm9
    generalize RB = b at *
    clear e0 e1 hlW1 hs0 sy1 hRB hl0 ca
    generalize w.heap.size = KB at *
    generalize y1.now.heap.size = OB at *
    clear y1
    refine region_dep (by kernel_rfl) chkDeps (by kernel_rfl) (chkInv b 16 J k F f s) ?h0 ?hstep ?hend
    case h0 =>
      refine ⟨?z14, ?z15, ?z16, ?z29, ?z30, ?z31, ?z32, ?z33, ?z34, ?z35, ?z36, ?z37, ?z38, ?z39, ?z40, ?z41, ?z42, ?z43, ?fr, (BelowX.refl _ _ _).drew, (by simpa using hRr.drew), by simp, by simp, by simp, by simp, by simp, by simp, by simp, by simp, by simp, by simp, by simp, by simp, by simp, by simp, by simp, by simp, by simp, by simp⟩
      case fr =>
        simp only [sets, List.foldl_cons, List.foldl_nil, List.set_cons_succ, List.set_cons_zero]
        rfl
    case hend =>
      intro l' fr W hl hall hInv
      unfold chkInv at hInv
      obtain ⟨s14, s15, s16, s29, s30, s31, s32, s33, s34, s35, s36, s37, s38, s39, s40, s41, s42, s43, hInv⟩ := hInv
      obtain ⟨hfr, hB, g0, f0, f1, f2, f3, f4, f5, f6, f7, f8, f9, f10, f11, f12, f13, f14, f15, f16, f17⟩ := hInv
      subst hfr
      obtain ⟨b0, b1, b2, b3, b4, b5, b6, b7, b8, b9, b10, b11, b12, b13, b14, b15, b16, b17, rfl⟩ := list18 hl
      simp only [List.getD_cons_zero, List.getD_cons_succ] at g0 f0 f1 f2 f3 f4 f5 f6 f7 f8 f9 f10 f11 f12 f13 f14 f15 f16 f17
      simp only [List.all_cons, id, Bool.and_eq_true] at hall
      obtain ⟨e0, e1, e2, e3, e4, e5, e6, e7, e8, e9, e10, e11, e12, e13, e14, e15, e16, e17, -⟩ := hall
      obtain ⟨g1, x, hx, rfl, -, -, r1⟩ := f15 e15
      obtain ⟨g2, rfl, -, -, r2⟩ := f16 e16
      obtain ⟨g3, rfl, -, -, r3⟩ := f17 e17
      exact ⟨rfl, g1, g2, g3, x, by kernel_rfl, hx, hB, r1, r2, r3⟩
    case hstep =>
      intro l' fr W ii hl hInv hr hi
      unfold chkInv at hInv
      obtain ⟨s14, s15, s16, s29, s30, s31, s32, s33, s34, s35, s36, s37, s38, s39, s40, s41, s42, s43, hInv⟩ := hInv
      obtain ⟨hfr, hB, g0, f0, f1, f2, f3, f4, f5, f6, f7, f8, f9, f10, f11, f12, f13, f14, f15, f16, f17⟩ := hInv
      subst hfr
      obtain ⟨b0, b1, b2, b3, b4, b5, b6, b7, b8, b9, b10, b11, b12, b13, b14, b15, b16, b17, rfl⟩ := list18 hl
      have sW := hB.size
      replace rK := (hB.block KB lK nK).trans rK
      replace rF := (hB.block (KB + 1) lF nF).trans rF
      replace rS := (hB.block (KB + 1 + 1) lS nS).trans rS
      replace rk := (hB.block OB lk nk).trans rk
      replace rf := (hB.block (OB + 1) lf nf).trans rf
      have c0 : W.cell? ⟨KB, 0, none⟩ = some (.int .i64 J.size.x) := (cell_of_row W _ 0 _ _ _ rK).trans rfl
      have c1 : W.cell? ⟨KB, 1, none⟩ = some (.int .i64 J.size.y) := (cell_of_row W _ 1 _ _ _ rK).trans rfl
      have c2 : W.cell? ⟨KB, 2, none⟩ = some (.int .i64 J.dens.x) := (cell_of_row W _ 2 _ _ _ rK).trans rfl
      have c3 : W.cell? ⟨KB, 3, none⟩ = some (.int .i64 J.dens.y) := (cell_of_row W _ 3 _ _ _ rK).trans rfl
      have c4 : W.cell? ⟨KB, 4, none⟩ = some (.int .i64 J.strong.x) := (cell_of_row W _ 4 _ _ _ rK).trans rfl
      have c5 : W.cell? ⟨KB, 5, none⟩ = some (.int .i64 J.strong.y) := (cell_of_row W _ 5 _ _ _ rK).trans rfl
      have c6 : W.cell? ⟨KB, 6, none⟩ = some (.int .i64 J.spin.x) := (cell_of_row W _ 6 _ _ _ rK).trans rfl
      have c7 : W.cell? ⟨KB, 7, none⟩ = some (.int .i64 J.spin.y) := (cell_of_row W _ 7 _ _ _ rK).trans rfl
      have c8 : W.cell? ⟨KB, 8, none⟩ = some (.int .i64 J.shape.x) := (cell_of_row W _ 8 _ _ _ rK).trans rfl
      have c9 : W.cell? ⟨KB, 9, none⟩ = some (.int .i64 J.shape.y) := (cell_of_row W _ 9 _ _ _ rK).trans rfl
      have c10 : W.cell? ⟨KB, 10, none⟩ = some (.bool J.pile) := (cell_of_row W _ 10 _ _ _ rK).trans rfl
      have d0 : W.cell? ⟨KB + 1, 0, none⟩ = some (.int .i64 F.speed.x) := (cell_of_row W _ 0 _ _ _ rF).trans rfl
      have d1 : W.cell? ⟨KB + 1, 1, none⟩ = some (.int .i64 F.speed.y) := (cell_of_row W _ 1 _ _ _ rF).trans rfl
      have d2 : W.cell? ⟨KB + 1, 2, none⟩ = some (.int .i64 F.slope.x) := (cell_of_row W _ 2 _ _ _ rF).trans rfl
      have d3 : W.cell? ⟨KB + 1, 3, none⟩ = some (.int .i64 F.slope.y) := (cell_of_row W _ 3 _ _ _ rF).trans rfl
      have q0 : W.cell? ⟨KB + 1 + 1, 0, none⟩ = some (.int .i64 s.size) := (cell_of_row W _ 0 _ _ _ rS).trans rfl
      have q1 : W.cell? ⟨KB + 1 + 1, 1, none⟩ = some (.int .i64 s.dens) := (cell_of_row W _ 1 _ _ _ rS).trans rfl
      have q2 : W.cell? ⟨KB + 1 + 1, 2, none⟩ = some (.int .i64 s.strong) := (cell_of_row W _ 2 _ _ _ rS).trans rfl
      have q3 : W.cell? ⟨KB + 1 + 1, 3, none⟩ = some (.int .i64 s.spin) := (cell_of_row W _ 3 _ _ _ rS).trans rfl
      have q4 : W.cell? ⟨KB + 1 + 1, 4, none⟩ = some (.int .i64 s.shape) := (cell_of_row W _ 4 _ _ _ rS).trans rfl
      have q5 : W.cell? ⟨KB + 1 + 1, 5, none⟩ = some (.bool s.pile) := (cell_of_row W _ 5 _ _ _ rS).trans rfl
      have q6 : W.cell? ⟨KB + 1 + 1, 6, none⟩ = some (.int .i64 s.speed) := (cell_of_row W _ 6 _ _ _ rS).trans rfl
      have q7 : W.cell? ⟨KB + 1 + 1, 7, none⟩ = some (.int .i64 s.slope) := (cell_of_row W _ 7 _ _ _ rS).trans rfl
      have u0 : W.cell? ⟨OB, 0, none⟩ = some (.int .i64 k.size.x) := (cell_of_row W _ 0 _ _ _ rk).trans rfl
      have u1 : W.cell? ⟨OB, 1, none⟩ = some (.int .i64 k.size.y) := (cell_of_row W _ 1 _ _ _ rk).trans rfl
      have u2 : W.cell? ⟨OB, 2, none⟩ = some (.int .i64 k.dens.x) := (cell_of_row W _ 2 _ _ _ rk).trans rfl
      have u3 : W.cell? ⟨OB, 3, none⟩ = some (.int .i64 k.dens.y) := (cell_of_row W _ 3 _ _ _ rk).trans rfl
      have u4 : W.cell? ⟨OB, 4, none⟩ = some (.int .i64 k.strong.x) := (cell_of_row W _ 4 _ _ _ rk).trans rfl
      have u5 : W.cell? ⟨OB, 5, none⟩ = some (.int .i64 k.strong.y) := (cell_of_row W _ 5 _ _ _ rk).trans rfl
      have u6 : W.cell? ⟨OB, 6, none⟩ = some (.int .i64 k.spin.x) := (cell_of_row W _ 6 _ _ _ rk).trans rfl
      have u7 : W.cell? ⟨OB, 7, none⟩ = some (.int .i64 k.spin.y) := (cell_of_row W _ 7 _ _ _ rk).trans rfl
      have u8 : W.cell? ⟨OB, 8, none⟩ = some (.int .i64 k.shape.x) := (cell_of_row W _ 8 _ _ _ rk).trans rfl
      have u9 : W.cell? ⟨OB, 9, none⟩ = some (.int .i64 k.shape.y) := (cell_of_row W _ 9 _ _ _ rk).trans rfl
      have u10 : W.cell? ⟨OB, 10, none⟩ = some (.bool k.pile) := (cell_of_row W _ 10 _ _ _ rk).trans rfl
      have v0 : W.cell? ⟨OB + 1, 0, none⟩ = some (.int .i64 f.speed.x) := (cell_of_row W _ 0 _ _ _ rf).trans rfl
      have v1 : W.cell? ⟨OB + 1, 1, none⟩ = some (.int .i64 f.speed.y) := (cell_of_row W _ 1 _ _ _ rf).trans rfl
      have v2 : W.cell? ⟨OB + 1, 2, none⟩ = some (.int .i64 f.slope.x) := (cell_of_row W _ 2 _ _ _ rf).trans rfl
      have v3 : W.cell? ⟨OB + 1, 3, none⟩ = some (.int .i64 f.slope.y) := (cell_of_row W _ 3 _ _ _ rf).trans rfl
      clear rK rF rS rk rf
      simp only [List.getD_cons_zero, List.getD_cons_succ] at g0 f0 f1 f2 f3 f4 f5 f6 f7 f8 f9 f10 f11 f12 f13 f14 f15 f16 f17
      replace hB := Go.Lib.hid hB
      replace hi := Go.Lib.hid hi
      replace g0 := Go.Lib.hid g0
      replace f0 := Go.Lib.hid f0
      replace f1 := Go.Lib.hid f1
      replace f2 := Go.Lib.hid f2
      replace f3 := Go.Lib.hid f3
      replace f4 := Go.Lib.hid f4
      replace f5 := Go.Lib.hid f5
      replace f6 := Go.Lib.hid f6
      replace f7 := Go.Lib.hid f7
      replace f8 := Go.Lib.hid f8
      replace f9 := Go.Lib.hid f9
      replace f10 := Go.Lib.hid f10
      replace f11 := Go.Lib.hid f11
      replace f12 := Go.Lib.hid f12
      replace f13 := Go.Lib.hid f13
      replace f14 := Go.Lib.hid f14
      replace f15 := Go.Lib.hid f15
      replace f16 := Go.Lib.hid f16
      replace f17 := Go.Lib.hid f17
      rcases ii with _ | _ | _ | _ | _ | _ | _ | _ | _ | _ | _ | _ | _ | _ | _ | _ | _ | _ | ii
      · refine wpOp_step rfl (fun K hK => ?_)
        simp only [sets, List.foldl_cons, List.foldl_nil, List.set_cons_succ, List.set_cons_zero]
        go_simp
        exact hK _ _ ⟨s14, s15, s16, (.agg #[.int .i64 s.size, .int .i64 s.dens, .int .i64 s.strong, .int .i64 s.spin, .int .i64 s.shape, .bool s.pile, .int .i64 s.speed, .int .i64 s.slope]), s30, s31, s32, s33, s34, s35, s36, s37, s38, s39, s40, s41, s42, s43, by kernel_rfl, hB.out, g0.out, fun _ => rfl, f1.out, f2.out, f3.out, f4.out, f5.out, f6.out, f7.out, f8.out, f9.out, f10.out, f11.out, f12.out, f13.out, f14.out, f15.out, f16.out, f17.out⟩
      · refine wpOp_step rfl (fun K hK => ?_)
        simp only [sets, List.foldl_cons, List.foldl_nil, List.set_cons_succ, List.set_cons_zero]
        go_simp
        exact hK _ _ ⟨s14, s15, s16, s29, (.pointer (some ⟨b, 0, none⟩)), s31, s32, s33, s34, s35, s36, s37, s38, s39, s40, s41, s42, s43, by kernel_rfl, hB.out, g0.out, f0.out, fun _ => rfl, f2.out, f3.out, f4.out, f5.out, f6.out, f7.out, f8.out, f9.out, f10.out, f11.out, f12.out, f13.out, f14.out, f15.out, f16.out, f17.out⟩
      · refine wpOp_step rfl (fun K hK => ?_)
        simp only [sets, List.foldl_cons, List.foldl_nil, List.set_cons_succ, List.set_cons_zero]
        go_simp
        exact hK _ _ ⟨s14, s15, s16, s29, s30, (.agg #[.int .i64 k.size.x, .int .i64 k.size.y, .int .i64 k.dens.x, .int .i64 k.dens.y, .int .i64 k.strong.x, .int .i64 k.strong.y, .int .i64 k.spin.x, .int .i64 k.spin.y, .int .i64 k.shape.x, .int .i64 k.shape.y, .bool k.pile]), s32, s33, s34, s35, s36, s37, s38, s39, s40, s41, s42, s43, by kernel_rfl, hB.out, g0.out, f0.out, f1.out, fun _ => rfl, f3.out, f4.out, f5.out, f6.out, f7.out, f8.out, f9.out, f10.out, f11.out, f12.out, f13.out, f14.out, f15.out, f16.out, f17.out⟩
      · refine wpOp_step rfl (fun K hK => ?_)
        simp only [sets, List.foldl_cons, List.foldl_nil, List.set_cons_succ, List.set_cons_zero]
        go_simp
        exact hK _ _ ⟨s14, s15, s16, s29, s30, s31, (.agg #[.int .i64 f.speed.x, .int .i64 f.speed.y, .int .i64 f.slope.x, .int .i64 f.slope.y]), s33, s34, s35, s36, s37, s38, s39, s40, s41, s42, s43, by kernel_rfl, hB.out, g0.out, f0.out, f1.out, f2.out, fun _ => rfl, f4.out, f5.out, f6.out, f7.out, f8.out, f9.out, f10.out, f11.out, f12.out, f13.out, f14.out, f15.out, f16.out, f17.out⟩
      · simp only [chkDeps, List.getD_cons_zero, List.getD_cons_succ, List.all_cons, List.all_nil, Bool.and_true, Bool.and_eq_true] at hr
        obtain ⟨hd1, hd2, hd3⟩ := hr
        obtain rfl := f1.out hd1
        obtain rfl := f2.out hd2
        obtain rfl := f3.out hd3
        have hi := hi.out
        simp only [List.getElem?_cons_zero, List.getElem?_cons_succ, Option.some.injEq] at hi
        subst hi
        refine wpOp_step rfl (fun K hK => ?_)
        simp only [sets, List.foldl_cons, List.foldl_nil, List.set_cons_succ, List.set_cons_zero]
        go_simp
        refine (StoneOf_y b (16 + 14 * false.toNat) k f W (by simp only [Bool.toNat_false]; omega) hok g0.out).mono ?_
        rintro _ W6 ⟨y, x, rfl, hin, rfl, hr⟩
        exact hK _ _ ⟨s14, s15, s16, s29, (.pointer (some ⟨b, 0, none⟩)), (.agg #[.int .i64 k.size.x, .int .i64 k.size.y, .int .i64 k.dens.x, .int .i64 k.dens.y, .int .i64 k.strong.x, .int .i64 k.strong.y, .int .i64 k.spin.x, .int .i64 k.spin.y, .int .i64 k.shape.x, .int .i64 k.shape.y, .bool k.pile]), (.agg #[.int .i64 f.speed.x, .int .i64 f.speed.y, .int .i64 f.slope.x, .int .i64 f.slope.y]), (.agg x.vals), s34, s35, s36, s37, s38, s39, s40, s41, s42, s43, by kernel_rfl, hB.out.trans (y.grew.mono (by omega)), (hr.mono (by simp only [List.set_cons_succ, List.set_cons_zero, List.getD_cons_zero, List.getD_cons_succ, Bool.toNat_true, Bool.toNat_false]; omega)), f0.out, f1.out, f2.out, f3.out, (fun _ => ⟨x, hin, rfl⟩), f5.out, (fun h => by obtain ⟨g, x, hx, e, h1, h2, h3⟩ := f6.out h; exact ⟨g, x, hx, e, h1, Nat.lt_of_lt_of_le h2 y.size, y.row h3 h2 (by omega)⟩), f7.out, f8.out, f9.out, (fun h => by obtain ⟨g, e, h1, h2, h3⟩ := f10.out h; exact ⟨g, e, h1, Nat.lt_of_lt_of_le h2 y.size, y.row h3 h2 (by omega)⟩), f11.out, f12.out, f13.out, (fun h => by obtain ⟨g, e, h1, h2, h3⟩ := f14.out h; exact ⟨g, e, h1, Nat.lt_of_lt_of_le h2 y.size, y.row h3 h2 (by omega)⟩), (fun h => by obtain ⟨g, x, hx, e, h1, h2, h3⟩ := f15.out h; exact ⟨g, x, hx, e, h1, Nat.lt_of_lt_of_le h2 y.size, y.row h3 h2 (by omega)⟩), (fun h => by obtain ⟨g, e, h1, h2, h3⟩ := f16.out h; exact ⟨g, e, h1, Nat.lt_of_lt_of_le h2 y.size, y.row h3 h2 (by omega)⟩), (fun h => by obtain ⟨g, e, h1, h2, h3⟩ := f17.out h; exact ⟨g, e, h1, Nat.lt_of_lt_of_le h2 y.size, y.row h3 h2 (by omega)⟩)⟩
      · refine wpOp_step rfl (fun K hK => ?_)
        simp only [sets, List.foldl_cons, List.foldl_nil, List.set_cons_succ, List.set_cons_zero]
        go_simp
        exact hK _ _ ⟨s14, s15, s16, s29, s30, s31, s32, s33, (.agg #[.int .i64 s.size, .int .i64 s.dens, .int .i64 s.strong, .int .i64 s.spin, .int .i64 s.shape, .bool s.pile, .int .i64 s.speed, .int .i64 s.slope]), s35, s36, s37, s38, s39, s40, s41, s42, s43, by kernel_rfl, hB.out, g0.out, f0.out, f1.out, f2.out, f3.out, f4.out, fun _ => rfl, f6.out, f7.out, f8.out, f9.out, f10.out, f11.out, f12.out, f13.out, f14.out, f15.out, f16.out, f17.out⟩
      · simp only [chkDeps, List.getD_cons_zero, List.getD_cons_succ, List.all_cons, List.all_nil, Bool.and_true, Bool.and_eq_true] at hr
        obtain ⟨hd0, hd4, hd5⟩ := hr
        obtain rfl := f0.out hd0
        obtain rfl := f5.out hd5
        obtain ⟨x, hx, rfl⟩ := f4.out hd4
        refine wpOp_step rfl (fun K hK => ?_)
        simp only [sets, List.foldl_cons, List.foldl_nil, List.set_cons_succ, List.set_cons_zero]
        unfold StoneR.vals
        go_simp
        exact hK _ _ ⟨s14, s15, s16, (.agg #[.int .i64 s.size, .int .i64 s.dens, .int .i64 s.strong, .int .i64 s.spin, .int .i64 s.shape, .bool s.pile, .int .i64 s.speed, .int .i64 s.slope]), s30, s31, s32, (.agg x.vals), (.agg #[.int .i64 s.size, .int .i64 s.dens, .int .i64 s.strong, .int .i64 s.spin, .int .i64 s.shape, .bool s.pile, .int .i64 s.speed, .int .i64 s.slope]), (.slice (some ⟨W.heap.size, 0, none⟩) 3 3), s36, s37, s38, s39, s40, s41, s42, s43, by kernel_rfl, hB.out.alloc (by omega) _, (g0.out.alloc _), f0.out, f1.out, f2.out, f3.out, (fun _ => ⟨x, hx, rfl⟩), f5.out, (fun _ => ⟨W.heap.size, x, hx, rfl, by omega, by simp only [World.size_alloc]; omega, heap_alloc_new _ _⟩), f7.out, f8.out, f9.out, (fun h => by obtain ⟨g, e, h1, h2, h3⟩ := f10.out h; exact ⟨g, e, h1, by simp only [World.size_alloc]; omega, (heap_alloc_old _ _ h2).trans h3⟩), f11.out, f12.out, f13.out, (fun h => by obtain ⟨g, e, h1, h2, h3⟩ := f14.out h; exact ⟨g, e, h1, by simp only [World.size_alloc]; omega, (heap_alloc_old _ _ h2).trans h3⟩), (fun h => by obtain ⟨g, x, hx, e, h1, h2, h3⟩ := f15.out h; exact ⟨g, x, hx, e, h1, by simp only [World.size_alloc]; omega, (heap_alloc_old _ _ h2).trans h3⟩), (fun h => by obtain ⟨g, e, h1, h2, h3⟩ := f16.out h; exact ⟨g, e, h1, by simp only [World.size_alloc]; omega, (heap_alloc_old _ _ h2).trans h3⟩), (fun h => by obtain ⟨g, e, h1, h2, h3⟩ := f17.out h; exact ⟨g, e, h1, by simp only [World.size_alloc]; omega, (heap_alloc_old _ _ h2).trans h3⟩)⟩
      · refine wpOp_step rfl (fun K hK => ?_)
        simp only [sets, List.foldl_cons, List.foldl_nil, List.set_cons_succ, List.set_cons_zero]
        go_simp
        exact hK _ _ ⟨s14, s15, s16, s29, s30, s31, s32, s33, s34, s35, (.agg #[.int .i64 J.size.x, .int .i64 J.size.y, .int .i64 J.dens.x, .int .i64 J.dens.y, .int .i64 J.strong.x, .int .i64 J.strong.y, .int .i64 J.spin.x, .int .i64 J.spin.y, .int .i64 J.shape.x, .int .i64 J.shape.y, .bool J.pile]), s37, s38, s39, s40, s41, s42, s43, by kernel_rfl, hB.out, g0.out, f0.out, f1.out, f2.out, f3.out, f4.out, f5.out, f6.out, fun _ => rfl, f8.out, f9.out, f10.out, f11.out, f12.out, f13.out, f14.out, f15.out, f16.out, f17.out⟩
      · refine wpOp_step rfl (fun K hK => ?_)
        simp only [sets, List.foldl_cons, List.foldl_nil, List.set_cons_succ, List.set_cons_zero]
        go_simp
        exact hK _ _ ⟨s14, s15, s16, s29, s30, s31, s32, s33, s34, s35, s36, (.agg #[.int .i64 k.size.x, .int .i64 k.size.y, .int .i64 k.dens.x, .int .i64 k.dens.y, .int .i64 k.strong.x, .int .i64 k.strong.y, .int .i64 k.spin.x, .int .i64 k.spin.y, .int .i64 k.shape.x, .int .i64 k.shape.y, .bool k.pile]), s38, s39, s40, s41, s42, s43, by kernel_rfl, hB.out, g0.out, f0.out, f1.out, f2.out, f3.out, f4.out, f5.out, f6.out, f7.out, fun _ => rfl, f9.out, f10.out, f11.out, f12.out, f13.out, f14.out, f15.out, f16.out, f17.out⟩
      · refine wpOp_step rfl (fun K hK => ?_)
        simp only [sets, List.foldl_cons, List.foldl_nil, List.set_cons_succ, List.set_cons_zero]
        go_simp
        exact hK _ _ ⟨s14, s15, s16, s29, s30, s31, s32, s33, s34, s35, s36, s37, (.agg #[.int .i64 k.size.x, .int .i64 k.size.y, .int .i64 k.dens.x, .int .i64 k.dens.y, .int .i64 k.strong.x, .int .i64 k.strong.y, .int .i64 k.spin.x, .int .i64 k.spin.y, .int .i64 k.shape.x, .int .i64 k.shape.y, .bool k.pile]), s39, s40, s41, s42, s43, by kernel_rfl, hB.out, g0.out, f0.out, f1.out, f2.out, f3.out, f4.out, f5.out, f6.out, f7.out, f8.out, fun _ => rfl, f10.out, f11.out, f12.out, f13.out, f14.out, f15.out, f16.out, f17.out⟩
      · simp only [chkDeps, List.getD_cons_zero, List.getD_cons_succ, List.all_cons, List.all_nil, Bool.and_true, Bool.and_eq_true] at hr
        obtain ⟨hd7, hd8, hd9⟩ := hr
        obtain rfl := f7.out hd7
        obtain rfl := f8.out hd8
        obtain rfl := f9.out hd9
        refine wpOp_step rfl (fun K hK => ?_)
        simp only [sets, List.foldl_cons, List.foldl_nil, List.set_cons_succ, List.set_cons_zero]
        go_simp
        exact hK _ _ ⟨s14, s15, s16, s29, s30, s31, s32, s33, s34, s35, (.agg #[.int .i64 J.size.x, .int .i64 J.size.y, .int .i64 J.dens.x, .int .i64 J.dens.y, .int .i64 J.strong.x, .int .i64 J.strong.y, .int .i64 J.spin.x, .int .i64 J.spin.y, .int .i64 J.shape.x, .int .i64 J.shape.y, .bool J.pile]), (.agg #[.int .i64 k.size.x, .int .i64 k.size.y, .int .i64 k.dens.x, .int .i64 k.dens.y, .int .i64 k.strong.x, .int .i64 k.strong.y, .int .i64 k.spin.x, .int .i64 k.spin.y, .int .i64 k.shape.x, .int .i64 k.shape.y, .bool k.pile]), (.agg #[.int .i64 k.size.x, .int .i64 k.size.y, .int .i64 k.dens.x, .int .i64 k.dens.y, .int .i64 k.strong.x, .int .i64 k.strong.y, .int .i64 k.spin.x, .int .i64 k.spin.y, .int .i64 k.shape.x, .int .i64 k.shape.y, .bool k.pile]), (.slice (some ⟨W.heap.size, 0, none⟩) 3 3), s40, s41, s42, s43, by kernel_rfl, hB.out.alloc (by omega) _, (g0.out.alloc _), f0.out, f1.out, f2.out, f3.out, f4.out, f5.out, (fun h => by obtain ⟨g, x, hx, e, h1, h2, h3⟩ := f6.out h; exact ⟨g, x, hx, e, h1, by simp only [World.size_alloc]; omega, (heap_alloc_old _ _ h2).trans h3⟩), f7.out, f8.out, f9.out, (fun _ => ⟨W.heap.size, rfl, by omega, by simp only [World.size_alloc]; omega, heap_alloc_new _ _⟩), f11.out, f12.out, f13.out, (fun h => by obtain ⟨g, e, h1, h2, h3⟩ := f14.out h; exact ⟨g, e, h1, by simp only [World.size_alloc]; omega, (heap_alloc_old _ _ h2).trans h3⟩), (fun h => by obtain ⟨g, x, hx, e, h1, h2, h3⟩ := f15.out h; exact ⟨g, x, hx, e, h1, by simp only [World.size_alloc]; omega, (heap_alloc_old _ _ h2).trans h3⟩), (fun h => by obtain ⟨g, e, h1, h2, h3⟩ := f16.out h; exact ⟨g, e, h1, by simp only [World.size_alloc]; omega, (heap_alloc_old _ _ h2).trans h3⟩), (fun h => by obtain ⟨g, e, h1, h2, h3⟩ := f17.out h; exact ⟨g, e, h1, by simp only [World.size_alloc]; omega, (heap_alloc_old _ _ h2).trans h3⟩)⟩
      · refine wpOp_step rfl (fun K hK => ?_)
        simp only [sets, List.foldl_cons, List.foldl_nil, List.set_cons_succ, List.set_cons_zero]
        go_simp
        exact hK _ _ ⟨s14, s15, s16, s29, s30, s31, s32, s33, s34, s35, s36, s37, s38, s39, (.agg #[.int .i64 F.speed.x, .int .i64 F.speed.y, .int .i64 F.slope.x, .int .i64 F.slope.y]), s41, s42, s43, by kernel_rfl, hB.out, g0.out, f0.out, f1.out, f2.out, f3.out, f4.out, f5.out, f6.out, f7.out, f8.out, f9.out, f10.out, fun _ => rfl, f12.out, f13.out, f14.out, f15.out, f16.out, f17.out⟩
      · refine wpOp_step rfl (fun K hK => ?_)
        simp only [sets, List.foldl_cons, List.foldl_nil, List.set_cons_succ, List.set_cons_zero]
        go_simp
        exact hK _ _ ⟨s14, s15, s16, s29, s30, s31, s32, s33, s34, s35, s36, s37, s38, s39, s40, (.agg #[.int .i64 f.speed.x, .int .i64 f.speed.y, .int .i64 f.slope.x, .int .i64 f.slope.y]), s42, s43, by kernel_rfl, hB.out, g0.out, f0.out, f1.out, f2.out, f3.out, f4.out, f5.out, f6.out, f7.out, f8.out, f9.out, f10.out, f11.out, fun _ => rfl, f13.out, f14.out, f15.out, f16.out, f17.out⟩
      · refine wpOp_step rfl (fun K hK => ?_)
        simp only [sets, List.foldl_cons, List.foldl_nil, List.set_cons_succ, List.set_cons_zero]
        go_simp
        exact hK _ _ ⟨s14, s15, s16, s29, s30, s31, s32, s33, s34, s35, s36, s37, s38, s39, s40, s41, (.agg #[.int .i64 f.speed.x, .int .i64 f.speed.y, .int .i64 f.slope.x, .int .i64 f.slope.y]), s43, by kernel_rfl, hB.out, g0.out, f0.out, f1.out, f2.out, f3.out, f4.out, f5.out, f6.out, f7.out, f8.out, f9.out, f10.out, f11.out, f12.out, fun _ => rfl, f14.out, f15.out, f16.out, f17.out⟩
      · simp only [chkDeps, List.getD_cons_zero, List.getD_cons_succ, List.all_cons, List.all_nil, Bool.and_true, Bool.and_eq_true] at hr
        obtain ⟨hd11, hd12, hd13⟩ := hr
        obtain rfl := f11.out hd11
        obtain rfl := f12.out hd12
        obtain rfl := f13.out hd13
        refine wpOp_step rfl (fun K hK => ?_)
        simp only [sets, List.foldl_cons, List.foldl_nil, List.set_cons_succ, List.set_cons_zero]
        go_simp
        exact hK _ _ ⟨s14, s15, s16, s29, s30, s31, s32, s33, s34, s35, s36, s37, s38, s39, (.agg #[.int .i64 F.speed.x, .int .i64 F.speed.y, .int .i64 F.slope.x, .int .i64 F.slope.y]), (.agg #[.int .i64 f.speed.x, .int .i64 f.speed.y, .int .i64 f.slope.x, .int .i64 f.slope.y]), (.agg #[.int .i64 f.speed.x, .int .i64 f.speed.y, .int .i64 f.slope.x, .int .i64 f.slope.y]), (.slice (some ⟨W.heap.size, 0, none⟩) 3 3), by kernel_rfl, hB.out.alloc (by omega) _, (g0.out.alloc _), f0.out, f1.out, f2.out, f3.out, f4.out, f5.out, (fun h => by obtain ⟨g, x, hx, e, h1, h2, h3⟩ := f6.out h; exact ⟨g, x, hx, e, h1, by simp only [World.size_alloc]; omega, (heap_alloc_old _ _ h2).trans h3⟩), f7.out, f8.out, f9.out, (fun h => by obtain ⟨g, e, h1, h2, h3⟩ := f10.out h; exact ⟨g, e, h1, by simp only [World.size_alloc]; omega, (heap_alloc_old _ _ h2).trans h3⟩), f11.out, f12.out, f13.out, (fun _ => ⟨W.heap.size, rfl, by omega, by simp only [World.size_alloc]; omega, heap_alloc_new _ _⟩), (fun h => by obtain ⟨g, x, hx, e, h1, h2, h3⟩ := f15.out h; exact ⟨g, x, hx, e, h1, by simp only [World.size_alloc]; omega, (heap_alloc_old _ _ h2).trans h3⟩), (fun h => by obtain ⟨g, e, h1, h2, h3⟩ := f16.out h; exact ⟨g, e, h1, by simp only [World.size_alloc]; omega, (heap_alloc_old _ _ h2).trans h3⟩), (fun h => by obtain ⟨g, e, h1, h2, h3⟩ := f17.out h; exact ⟨g, e, h1, by simp only [World.size_alloc]; omega, (heap_alloc_old _ _ h2).trans h3⟩)⟩
      · simp only [chkDeps, List.getD_cons_zero, List.getD_cons_succ, List.all_cons, List.all_nil, Bool.and_true] at hr
        have hd6 := hr
        obtain ⟨g, x, hx, rfl, h1, h2, h3⟩ := f6.out hd6
        refine wpOp_step rfl (fun K hK => ?_)
        simp only [sets, List.foldl_cons, List.foldl_nil, List.set_cons_succ, List.set_cons_zero]
        go_simp
        exact hK _ _ ⟨(.slice (some ⟨g, 0, none⟩) 3 3), s15, s16, s29, s30, s31, s32, s33, s34, (.slice (some ⟨g, 0, none⟩) 3 3), s36, s37, s38, s39, s40, s41, s42, s43, by kernel_rfl, hB.out, g0.out, f0.out, f1.out, f2.out, f3.out, f4.out, f5.out, (fun _ => ⟨g, x, hx, rfl, h1, h2, h3⟩), f7.out, f8.out, f9.out, f10.out, f11.out, f12.out, f13.out, f14.out, (fun _ => ⟨g, x, hx, rfl, h1, h2, h3⟩), f16.out, f17.out⟩
      · simp only [chkDeps, List.getD_cons_zero, List.getD_cons_succ, List.all_cons, List.all_nil, Bool.and_true] at hr
        have hd10 := hr
        obtain ⟨g, rfl, h1, h2, h3⟩ := f10.out hd10
        refine wpOp_step rfl (fun K hK => ?_)
        simp only [sets, List.foldl_cons, List.foldl_nil, List.set_cons_succ, List.set_cons_zero]
        go_simp
        exact hK _ _ ⟨s14, (.slice (some ⟨g, 0, none⟩) 3 3), s16, s29, s30, s31, s32, s33, s34, s35, s36, s37, s38, (.slice (some ⟨g, 0, none⟩) 3 3), s40, s41, s42, s43, by kernel_rfl, hB.out, g0.out, f0.out, f1.out, f2.out, f3.out, f4.out, f5.out, f6.out, f7.out, f8.out, f9.out, (fun _ => ⟨g, rfl, h1, h2, h3⟩), f11.out, f12.out, f13.out, f14.out, f15.out, (fun _ => ⟨g, rfl, h1, h2, h3⟩), f17.out⟩
      · simp only [chkDeps, List.getD_cons_zero, List.getD_cons_succ, List.all_cons, List.all_nil, Bool.and_true] at hr
        have hd14 := hr
        obtain ⟨g, rfl, h1, h2, h3⟩ := f14.out hd14
        refine wpOp_step rfl (fun K hK => ?_)
        simp only [sets, List.foldl_cons, List.foldl_nil, List.set_cons_succ, List.set_cons_zero]
        go_simp
        exact hK _ _ ⟨s14, s15, (.slice (some ⟨g, 0, none⟩) 3 3), s29, s30, s31, s32, s33, s34, s35, s36, s37, s38, s39, s40, s41, s42, (.slice (some ⟨g, 0, none⟩) 3 3), by kernel_rfl, hB.out, g0.out, f0.out, f1.out, f2.out, f3.out, f4.out, f5.out, f6.out, f7.out, f8.out, f9.out, f10.out, f11.out, f12.out, f13.out, (fun _ => ⟨g, rfl, h1, h2, h3⟩), f15.out, f16.out, (fun _ => ⟨g, rfl, h1, h2, h3⟩)⟩
      · have hi := hi.out; simp at hi
  rintro a4 W4 ⟨g1, g2, g3, x, ha4, hx, hB4, r1, r2, r3⟩
  generalize a4.tmps.getD 14 undef = s14 at ha4
  generalize a4.tmps.getD 15 undef = s15 at ha4
  generalize a4.tmps.getD 16 undef = s16 at ha4
  generalize a4.tmps.getD 29 undef = s29 at ha4
  generalize a4.tmps.getD 30 undef = s30 at ha4
  generalize a4.tmps.getD 31 undef = s31 at ha4
  generalize a4.tmps.getD 32 undef = s32 at ha4
  generalize a4.tmps.getD 33 undef = s33 at ha4
  generalize a4.tmps.getD 34 undef = s34 at ha4
  generalize a4.tmps.getD 35 undef = s35 at ha4
  generalize a4.tmps.getD 36 undef = s36 at ha4
  generalize a4.tmps.getD 37 undef = s37 at ha4
  generalize a4.tmps.getD 38 undef = s38 at ha4
  generalize a4.tmps.getD 39 undef = s39 at ha4
  generalize a4.tmps.getD 40 undef = s40 at ha4
  generalize a4.tmps.getD 41 undef = s41 at ha4
  generalize a4.tmps.getD 42 undef = s42 at ha4
  generalize a4.tmps.getD 43 undef = s43 at ha4
  subst ha4
  simp only [sets, List.foldl_cons, List.foldl_nil, List.set_cons_succ, List.set_cons_zero]
  have sB4 := hB4.size
  have hB5 : Below w.heap.size w W4 := ((BelowX.of hnew).trans (hB4.mono (by omega))).below (by omega)
  have hlim4 : LimAt W4 := hlim.on hB5
  have hP4 : VecsAt W4 lp ls := hP.on hB5
  have hS := stones3_row s x s r1
  have hR := rocks3_row J k k r2
  have hF := falls3_row F f f r3
  have l1 : g1 < W4.heap.size := hS.1
  have l2 : g2 < W4.heap.size := hR.1
  have l3 : g3 < W4.heap.size := hF.1
  have hsl : [s, x, s].length = 3 := rfl
  have hrl : [J, k, k].length = 3 := rfl
  have hfl : [F, f, f].length = 3 := rfl
  generalize [s, x, s] = SL at *
  generalize [J, k, k] = RL at *
  generalize [F, f, f] = FL at *
  clear r1 r2 r3 lK lF lS lk lf nK nF nS nk nf rK rF rS rk rf hnew hlim hP hRr hlr hB4 hx hm9
  replace hS := Go.Lib.hid hS
  replace hR := Go.Lib.hid hR
  replace hF := Go.Lib.hid hF
  replace hP4 := Go.Lib.hid hP4
  go_wp2_with (first | ((first | with_reducible refine wp_region_ext2 (by kernel_rfl) (by kernel_rfl) ?_ | with_reducible refine wp_region_ext (by kernel_rfl) (by kernel_rfl) ?_); (repeat (first | go_big_quiet_step ((first | fail)) | quiet_step ((first | fail)))); refine wpQuiet_nil ?_; rintro _ ⟨yr, rfl⟩; have syr := Ext.size yr; (repeat (first | rw [World.size_alloc] at syr | rw [World.size_setCell] at syr | rw [World.size_drew] at syr))))
  go_loopw [17] (fun s W => ∃ (i : Nat) (x : Ext W4), s = .int .i64 i ∧ W = x.now ∧ i ≤ 3) (fun s _ => 3 - (intOf s).toNat)
  case atStart => exact ⟨0, ⟨W4, Below.refl _ _⟩, rfl, rfl, by omega⟩
  case round =>
    obtain ⟨i, z, rfl, rfl, hi⟩ := hrel
    have xs := z.size
    have sB5 := hB5.size
    by_cases hlt : i < 3
    ·
        have hlt2 : (i : Int) < 3 := by omega
        have hs2 : i < SL.length := by omega
        have hr2 : i < RL.length := by omega
        have hf2 : i < FL.length := by omega
        obtain ⟨q0, q1, q2, q3, q4, q5, q6, q7⟩ := hS.out.2 i hs2
        obtain ⟨u0, u1, u2, u3, u4, u5, u6, u7, u8, u9, u10⟩ := hR.out.2 i hr2
        obtain ⟨v0, v1, v2, v3⟩ := hF.out.2 i hf2
        generalize SL[i] = si at *
        generalize RL[i] = ki at *
        generalize FL[i] = fi at *
        have a1 := fun W (y : LimAt W) => CheckRock_any ki fi W y
        have a2 := fun W => rCheckRock_any ki fi W
        have b1 := fun W (y : LimAt W) => CheckStone_any si W y
        have b2 := fun W => rCheckStone_any si W
        have o1 := fun W (y : LimAt W) => Of_any si ki fi W y
        have o2 := fun W => rOf_any si ki fi W
        have m1 := fun W (y : LimAt W) => Mass_any si W y
        have m2 := fun W => rMass_any si W
        have n1 := fun W (y : LimAt W) => Holds_any si W y
        have n2 := fun W => rHolds_any si W
        generalize rockE ki fi = E1 at *
        generalize stoneE si = E2 at *
        generalize ofB si ki fi = E3 at *
        generalize massI si = E4 at *
        generalize holdsI si = E5 at *
        unfold StoneR.val StoneR.vals RockR.val FallR.val at *
        have hlim := hlim4
        clear hS hR hF hP4 hs2 hr2 hf2 hsl hrl hfl ca
        clear hB5 sB5 sB4 e1 sy1 hlW1 hs0 hRB e0 hl0 hn9
        go_upto_region 9 with (first | ((first | with_reducible refine wp_region_ext2 (by kernel_rfl) (by kernel_rfl) ?_ | with_reducible refine wp_region_ext (by kernel_rfl) (by kernel_rfl) ?_); (repeat (first | go_big_quiet_step ((first | fail)) | quiet_step ((first | fail)))); refine wpQuiet_nil ?_; rintro _ ⟨yr, rfl⟩; have syr := Ext.size yr; (repeat (first | rw [World.size_alloc] at syr | rw [World.size_setCell] at syr | rw [World.size_drew] at syr))))
        with_reducible refine wp_region_ext2 (by kernel_rfl) (by as_aux_lemma => kernel_rfl) ?_
        repeat (first | go_big_quiet_step ((first | (go_at_call 11; with_reducible exact Calls.ext (a1 _ (by repeat (first | exact hlim | (with_reducible refine LimAt.ext ?_ _) | (with_reducible refine LimAt.alloc ?_ _) | (with_reducible refine LimAt.drew ?_) | (with_reducible refine LimAt.rext ?_ (by omega) _) | (with_reducible refine LimAt.set ?_ (by omega) _))))) | (go_at_call 12; with_reducible exact Calls.ext (a2 _)) | (go_at_call 13; with_reducible exact Calls.ext (b1 _ (by repeat (first | exact hlim | (with_reducible refine LimAt.ext ?_ _) | (with_reducible refine LimAt.alloc ?_ _) | (with_reducible refine LimAt.drew ?_) | (with_reducible refine LimAt.rext ?_ (by omega) _) | (with_reducible refine LimAt.set ?_ (by omega) _))))) | (go_at_call 14; with_reducible exact Calls.ext (b2 _)) | (go_at_call 15; with_reducible exact Calls.ext (o1 _ (by repeat (first | exact hlim | (with_reducible refine LimAt.ext ?_ _) | (with_reducible refine LimAt.alloc ?_ _) | (with_reducible refine LimAt.drew ?_) | (with_reducible refine LimAt.rext ?_ (by omega) _) | (with_reducible refine LimAt.set ?_ (by omega) _))))) | (go_at_call 16; with_reducible exact Calls.ext (o2 _)) | (go_at_call 17; with_reducible exact Calls.ext (m1 _ (by repeat (first | exact hlim | (with_reducible refine LimAt.ext ?_ _) | (with_reducible refine LimAt.alloc ?_ _) | (with_reducible refine LimAt.drew ?_) | (with_reducible refine LimAt.rext ?_ (by omega) _) | (with_reducible refine LimAt.set ?_ (by omega) _))))) | (go_at_call 18; with_reducible exact Calls.ext (m2 _)) | (go_at_call 19; with_reducible exact Calls.ext (n1 _ (by repeat (first | exact hlim | (with_reducible refine LimAt.ext ?_ _) | (with_reducible refine LimAt.alloc ?_ _) | (with_reducible refine LimAt.drew ?_) | (with_reducible refine LimAt.rext ?_ (by omega) _) | (with_reducible refine LimAt.set ?_ (by omega) _))))) | (go_at_call 20; with_reducible exact Calls.ext (n2 _)))) | quiet_step ((first | (go_at_call 11; with_reducible exact Calls.ext (a1 _ (by repeat (first | exact hlim | (with_reducible refine LimAt.ext ?_ _) | (with_reducible refine LimAt.alloc ?_ _) | (with_reducible refine LimAt.drew ?_) | (with_reducible refine LimAt.rext ?_ (by omega) _) | (with_reducible refine LimAt.set ?_ (by omega) _))))) | (go_at_call 12; with_reducible exact Calls.ext (a2 _)) | (go_at_call 13; with_reducible exact Calls.ext (b1 _ (by repeat (first | exact hlim | (with_reducible refine LimAt.ext ?_ _) | (with_reducible refine LimAt.alloc ?_ _) | (with_reducible refine LimAt.drew ?_) | (with_reducible refine LimAt.rext ?_ (by omega) _) | (with_reducible refine LimAt.set ?_ (by omega) _))))) | (go_at_call 14; with_reducible exact Calls.ext (b2 _)) | (go_at_call 15; with_reducible exact Calls.ext (o1 _ (by repeat (first | exact hlim | (with_reducible refine LimAt.ext ?_ _) | (with_reducible refine LimAt.alloc ?_ _) | (with_reducible refine LimAt.drew ?_) | (with_reducible refine LimAt.rext ?_ (by omega) _) | (with_reducible refine LimAt.set ?_ (by omega) _))))) | (go_at_call 16; with_reducible exact Calls.ext (o2 _)) | (go_at_call 17; with_reducible exact Calls.ext (m1 _ (by repeat (first | exact hlim | (with_reducible refine LimAt.ext ?_ _) | (with_reducible refine LimAt.alloc ?_ _) | (with_reducible refine LimAt.drew ?_) | (with_reducible refine LimAt.rext ?_ (by omega) _) | (with_reducible refine LimAt.set ?_ (by omega) _))))) | (go_at_call 18; with_reducible exact Calls.ext (m2 _)) | (go_at_call 19; with_reducible exact Calls.ext (n1 _ (by repeat (first | exact hlim | (with_reducible refine LimAt.ext ?_ _) | (with_reducible refine LimAt.alloc ?_ _) | (with_reducible refine LimAt.drew ?_) | (with_reducible refine LimAt.rext ?_ (by omega) _) | (with_reducible refine LimAt.set ?_ (by omega) _))))) | (go_at_call 20; with_reducible exact Calls.ext (n2 _)))))
        refine wpQuiet_nil ?_
        rintro _ ⟨yr, rfl⟩
        have syr := yr.size
        go_wp2_with (first | ((first | with_reducible refine wp_region_ext2 (by kernel_rfl) (by kernel_rfl) ?_ | with_reducible refine wp_region_ext (by kernel_rfl) (by kernel_rfl) ?_); (repeat (first | go_big_quiet_step ((first | fail)) | quiet_step ((first | fail)))); refine wpQuiet_nil ?_; rintro _ ⟨yr, rfl⟩; have syr := Ext.size yr; (repeat (first | rw [World.size_alloc] at syr | rw [World.size_setCell] at syr | rw [World.size_drew] at syr))))
        exact ⟨⟨i + 1, ⟨_, by repeat' (first | (with_reducible exact Below.refl _ _) | (with_reducible assumption) | (with_reducible refine Ext.below _ ?_ ?_) | (with_reducible refine Below.on ?_ (by with_reducible assumption) ?_) | (with_reducible refine Below.alloc ?_ ?_ _) | (with_reducible refine Below.drew ?_) | (with_reducible refine Below.setCell ?_ ?_ _) | (with_reducible exact Nat.le_refl _) | omega | (simp; done) | (simp [go_sem]; done) | (simp at *; omega))⟩, by simp, rfl, by omega⟩, by simp [intOf]; omega⟩
    ·
        have hge : i = 3 := by omega
        subst hge
        have k1 := fun (W : World) (y : Below W4.heap.size W4 W) => CheckAir_any lp lc ls W (hP4.out.on y)
        have k2 := fun (W : World) (y : Below W4.heap.size W4 W) => rCheckAir_any lp lc ls W (hP4.out.on y) hn9
        generalize airE ls = E at *
        have hlim := hlim4
        go_wp2_with (first | ((first | with_reducible refine wp_region_ext2 (by kernel_rfl) (by kernel_rfl) ?_ | with_reducible refine wp_region_ext (by kernel_rfl) (by kernel_rfl) ?_); (repeat (first | go_big_quiet_step ((first | (go_at_call 21; with_reducible exact Calls.ext (k1 _ (by repeat' (first | (with_reducible exact Below.refl _ _) | (with_reducible assumption) | (with_reducible refine Ext.below _ ?_ ?_) | (with_reducible refine Below.on ?_ (by with_reducible assumption) ?_) | (with_reducible refine Below.alloc ?_ ?_ _) | (with_reducible refine Below.drew ?_) | (with_reducible refine Below.setCell ?_ ?_ _) | (with_reducible exact Nat.le_refl _) | omega | (simp; done) | (simp [go_sem]; done) | (simp at *; omega))))) | (go_at_call 22; with_reducible exact Calls.ext (k2 _ (by repeat' (first | (with_reducible exact Below.refl _ _) | (with_reducible assumption) | (with_reducible refine Ext.below _ ?_ ?_) | (with_reducible refine Below.on ?_ (by with_reducible assumption) ?_) | (with_reducible refine Below.alloc ?_ ?_ _) | (with_reducible refine Below.drew ?_) | (with_reducible refine Below.setCell ?_ ?_ _) | (with_reducible exact Nat.le_refl _) | omega | (simp; done) | (simp [go_sem]; done) | (simp at *; omega))))) | (go_at_call 7; with_reducible exact Calls.ext (ca _ (by repeat (first | exact hlim | (with_reducible refine LimAt.ext ?_ _) | (with_reducible refine LimAt.alloc ?_ _) | (with_reducible refine LimAt.drew ?_) | (with_reducible refine LimAt.rext ?_ (by omega) _) | (with_reducible refine LimAt.set ?_ (by omega) _))))))) | quiet_step ((first | (go_at_call 21; with_reducible exact Calls.ext (k1 _ (by repeat' (first | (with_reducible exact Below.refl _ _) | (with_reducible assumption) | (with_reducible refine Ext.below _ ?_ ?_) | (with_reducible refine Below.on ?_ (by with_reducible assumption) ?_) | (with_reducible refine Below.alloc ?_ ?_ _) | (with_reducible refine Below.drew ?_) | (with_reducible refine Below.setCell ?_ ?_ _) | (with_reducible exact Nat.le_refl _) | omega | (simp; done) | (simp [go_sem]; done) | (simp at *; omega))))) | (go_at_call 22; with_reducible exact Calls.ext (k2 _ (by repeat' (first | (with_reducible exact Below.refl _ _) | (with_reducible assumption) | (with_reducible refine Ext.below _ ?_ ?_) | (with_reducible refine Below.on ?_ (by with_reducible assumption) ?_) | (with_reducible refine Below.alloc ?_ ?_ _) | (with_reducible refine Below.drew ?_) | (with_reducible refine Below.setCell ?_ ?_ _) | (with_reducible exact Nat.le_refl _) | omega | (simp; done) | (simp [go_sem]; done) | (simp at *; omega))))) | (go_at_call 7; with_reducible exact Calls.ext (ca _ (by repeat (first | exact hlim | (with_reducible refine LimAt.ext ?_ _) | (with_reducible refine LimAt.alloc ?_ _) | (with_reducible refine LimAt.drew ?_) | (with_reducible refine LimAt.rext ?_ (by omega) _) | (with_reducible refine LimAt.set ?_ (by omega) _))))))))); refine wpQuiet_nil ?_; rintro _ ⟨yr, rfl⟩; have syr := Ext.size yr; (repeat (first | rw [World.size_alloc] at syr | rw [World.size_setCell] at syr | rw [World.size_drew] at syr))) | (go_at_call 21; (first | with_reducible refine (Calls.giv2 (k1 _ (by repeat' (first | (with_reducible exact Below.refl _ _) | (with_reducible assumption) | (with_reducible refine Ext.below _ ?_ ?_) | (with_reducible refine Below.on ?_ (by with_reducible assumption) ?_) | (with_reducible refine Below.alloc ?_ ?_ _) | (with_reducible refine Below.drew ?_) | (with_reducible refine Below.setCell ?_ ?_ _) | (with_reducible exact Nat.le_refl _) | omega | (simp; done) | (simp [go_sem]; done) | (simp at *; omega))))).mono ?_ | with_reducible refine (Calls.giv (k1 _ (by repeat' (first | (with_reducible exact Below.refl _ _) | (with_reducible assumption) | (with_reducible refine Ext.below _ ?_ ?_) | (with_reducible refine Below.on ?_ (by with_reducible assumption) ?_) | (with_reducible refine Below.alloc ?_ ?_ _) | (with_reducible refine Below.drew ?_) | (with_reducible refine Below.setCell ?_ ?_ _) | (with_reducible exact Nat.le_refl _) | omega | (simp; done) | (simp [go_sem]; done) | (simp at *; omega))))).mono ?_); rintro _ _ ⟨y1, rfl, rfl⟩; have sy1 := Ext.size y1; (repeat (first | rw [World.size_alloc] at sy1 | rw [World.size_setCell] at sy1 | rw [World.size_drew] at sy1))) | (go_at_call 22; (first | with_reducible refine (Calls.giv2 (k2 _ (by repeat' (first | (with_reducible exact Below.refl _ _) | (with_reducible assumption) | (with_reducible refine Ext.below _ ?_ ?_) | (with_reducible refine Below.on ?_ (by with_reducible assumption) ?_) | (with_reducible refine Below.alloc ?_ ?_ _) | (with_reducible refine Below.drew ?_) | (with_reducible refine Below.setCell ?_ ?_ _) | (with_reducible exact Nat.le_refl _) | omega | (simp; done) | (simp [go_sem]; done) | (simp at *; omega))))).mono ?_ | with_reducible refine (Calls.giv (k2 _ (by repeat' (first | (with_reducible exact Below.refl _ _) | (with_reducible assumption) | (with_reducible refine Ext.below _ ?_ ?_) | (with_reducible refine Below.on ?_ (by with_reducible assumption) ?_) | (with_reducible refine Below.alloc ?_ ?_ _) | (with_reducible refine Below.drew ?_) | (with_reducible refine Below.setCell ?_ ?_ _) | (with_reducible exact Nat.le_refl _) | omega | (simp; done) | (simp [go_sem]; done) | (simp at *; omega))))).mono ?_); rintro _ _ ⟨y2, rfl, rfl⟩; have sy2 := Ext.size y2; (repeat (first | rw [World.size_alloc] at sy2 | rw [World.size_setCell] at sy2 | rw [World.size_drew] at sy2))) | (go_at_call 7; (first | with_reducible refine (Calls.giv2 (ca _ (by repeat (first | exact hlim | (with_reducible refine LimAt.ext ?_ _) | (with_reducible refine LimAt.alloc ?_ _) | (with_reducible refine LimAt.drew ?_) | (with_reducible refine LimAt.rext ?_ (by omega) _) | (with_reducible refine LimAt.set ?_ (by omega) _))))).mono ?_ | with_reducible refine (Calls.giv (ca _ (by repeat (first | exact hlim | (with_reducible refine LimAt.ext ?_ _) | (with_reducible refine LimAt.alloc ?_ _) | (with_reducible refine LimAt.drew ?_) | (with_reducible refine LimAt.rext ?_ (by omega) _) | (with_reducible refine LimAt.set ?_ (by omega) _))))).mono ?_); rintro _ _ ⟨y3, rfl, rfl⟩; have sy3 := Ext.size y3; (repeat (first | rw [World.size_alloc] at sy3 | rw [World.size_setCell] at sy3 | rw [World.size_drew] at sy3))))
        go_returns
        refine ⟨rfl, ?_⟩
        repeat' (first | (with_reducible exact Below.refl _ _) | (with_reducible assumption) | (with_reducible refine Ext.below _ ?_ ?_) | (with_reducible refine Below.on ?_ (by with_reducible assumption) ?_) | (with_reducible refine Below.alloc ?_ ?_ _) | (with_reducible refine Below.drew ?_) | (with_reducible refine Below.setCell ?_ ?_ _) | (with_reducible exact Nat.le_refl _) | omega | (simp; done) | (simp [go_sem]; done) | (simp at *; omega))
end Go.Proofs.YtpiacndnjehbiaaDoor

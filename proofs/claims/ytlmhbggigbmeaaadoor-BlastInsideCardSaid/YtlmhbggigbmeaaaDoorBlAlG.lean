/- SameBlows; boxes that are written whole, of any size. No condition. The bounds of a blow's harm at a cell, and the toll of blows at a cell: contracts of the program's toll$1 and scene.toll. Condition: grades and land in memory, valid. Two or three blocks made one behind the other; a list of numbers that still stands. No condition. -/
import Derived.Test.YtlmhbggigbmeaaaDoorBlV1G
import Derived.Test.YtlmhbggigbmeaaaDoorKitG
import Derived.Test.YtlmhbggigbmeaaaDoorSpansG
import Derived.Test.YtlmhbggigbmeaaaDoorFree
import Derived.Test.YtlmhbggigbmeaaaDoorBlMG
import Derived.Test.YtlmhbggigbmeaaaDoorBlG
namespace Go.Proofs.YtlmhbggigbmeaaaDoor
open Go.RowKit Go.Shelf
attribute [local go_sem] Option.isSome_some Ext.cell Ext.frozen Ext.lt Ext.le Ext.lt_add Ext.le_add Ext.ne Ext.ne' lt2 lt3 lt4 lt5 le2 le3 le4
/-- A box whose cells are written one behind the other. -/
def setL (W : World) (B : Nat) : Nat → List Value → World
  | _, [] => W
  | o, v :: vs => setL (W.setCell ⟨B, o, none⟩ v) B (o + 1) vs
theorem setL_heap : ∀ (vs : List Value) (W : World) (B o : Nat) (done rest : List Value) (T : TypeId) (f : Nat × Nat), W.heap[B]? = some (.cells (done ++ rest).toArray T f) → done.length = o → rest.length = vs.length → (setL W B o vs).heap[B]? = some (.cells (done ++ vs).toArray T f)
  | [], _, B, _, done, rest, T, f, h, _, hl => by
    obtain rfl := List.length_eq_zero_iff.1 hl
    exact h
  | v :: vs, W, B, o, done, rest, T, f, h, ho, hl => by
    match rest, hl with
    | r :: rest, hl =>
      unfold setL
      have h1 := heap_setCell (o := o) h v
      have h2 : (done ++ r :: rest).toArray.setIfInBounds o v = ((done ++ [v]) ++ rest).toArray := by
        apply Array.ext'
        simp only [Array.toList_setIfInBounds]
        rw [← ho]
        simp
      rw [h2] at h1
      have := setL_heap vs (W.setCell ⟨B, o, none⟩ v) B (o + 1) (done ++ [v]) rest T f h1 (by simp [ho]) (by simpa using hl)
      simpa using this
theorem setL_all {vs : List Value} {W : World} {B : Nat} {cs : Array Value} {T : TypeId} {f : Nat × Nat} (h : W.heap[B]? = some (.cells cs T f)) (hl : cs.size = vs.length) : (setL W B 0 vs).heap[B]? = some (.cells vs.toArray T f) := by
  have := setL_heap vs W B 0 [] cs.toList T f (by simpa using h) rfl (by simpa using hl)
  simpa using this
theorem setL_other {B k : Nat} (hk : k ≠ B) : ∀ (vs : List Value) (W : World) (o : Nat), (setL W B o vs).heap[k]? = W.heap[k]?
  | [], _, _ => rfl
  | v :: vs, _, _ => (setL_other hk vs _ _).trans (heap_setCell_ne hk v)
theorem setL_below {n B : Nat} {w : World} (hn : n ≤ B) : ∀ (vs : List Value) (W : World) (o : Nat), Below n w W → Below n w (setL W B o vs)
  | [], _, _, h => h
  | v :: vs, _, o, h => setL_below hn vs _ _ (h.setCell (p := ⟨B, o, none⟩) hn v)
theorem setL_lim {B : Nat} (hB : 0 < B) : ∀ (vs : List Value) (W : World) (o : Nat), LimAt W → LimAt (setL W B o vs)
  | [], _, _, h => h
  | v :: vs, _, _, h => setL_lim hB vs _ _ (h.set hB v)
structure V3 where
  a : Int
  b : Int
  c : Int
theorem V3.ext' {x y : V3} (h1 : x.a = y.a) (h2 : x.b = y.b) (h3 : x.c = y.c) : x = y := by cases x; cases y; simp at *; exact ⟨h1, h2, h3⟩
def V3At (W : World) (p : Option Addr) (l : List V3) : Prop := ∀ j (h : j < l.length), ∃ B o, p = some ⟨B, o, none⟩ ∧ B < W.heap.size ∧ W.cell? ⟨B, o + j * 3, none⟩ = some (.int .i64 l[j].a) ∧ W.cell? ⟨B, o + j * 3 + 1, none⟩ = some (.int .i64 l[j].b) ∧ W.cell? ⟨B, o + j * 3 + 2, none⟩ = some (.int .i64 l[j].c)
theorem V3At.on {W W' : World} {p : Option Addr} {l : List V3} (h : V3At W p l) (b : Below W.heap.size W W') : V3At W' p l := fun j hj => by
  obtain ⟨B, o, rfl, hB, h1, h2, h3⟩ := h j hj
  exact ⟨B, o, rfl, Nat.lt_of_lt_of_le hB b.size, (b.cell (p := ⟨B, o + j * 3, none⟩) hB).trans h1, (b.cell (p := ⟨B, o + j * 3 + 1, none⟩) hB).trans h2, (b.cell (p := ⟨B, o + j * 3 + 2, none⟩) hB).trans h3⟩
def v3s (l : List BlowR) : List V3 := l.map fun x => ⟨x.n, x.lo, x.hi⟩
theorem v3_of {W : World} {base : Nat} {e : TypeId} {v : Value} {l : List BlowR} (h : W.ownsRow base e 3 v l.length (rowsB l)) : ∃ p c, v = .slice p (v3s l).length c ∧ V3At W p (v3s l) := by
  obtain ⟨p, c, rfl, hc⟩ := owns_at (fun x : BlowR => [.int .i64 x.n, .int .i64 x.lo, .int .i64 x.hi]) 3 (fun _ => rfl) l h
  refine ⟨p, c, by simp [v3s], fun j hj => ?_⟩
  have hj2 : j < l.length := by simpa [v3s] using hj
  obtain ⟨B, o, hp, hb, hB, hv⟩ := hc j hj2
  exact ⟨B, o, hp, hB, by simpa [v3s] using hv 0 _ rfl, by simpa [v3s] using hv 1 _ rfl, by simpa [v3s] using hv 2 _ rfl⟩
set_option maxRecDepth 100000 in
set_option maxHeartbeats 8000000 in
theorem SameBlows_eq (p q : Option Addr) (c d : Nat) (l : List V3) (w : World) (hp : V3At w p l) (hq : V3At w q l) (hn : l.length ≤ 1000) : Calls Tryd.prog 27 #[.slice p l.length c, .slice q l.length d] w (Gives (.bool true) w) := by
  replace hp := Go.Lib.hid hp
  replace hq := Go.Lib.hid hq
  go_enter Tryd.func27, Tryd.ntmps27
  go_wp2_with (first | ((first | with_reducible refine wrx2 ?_ | with_reducible refine wrx ?_); (repeat (first | go_big_quiet_step ((first | fail)) | quiet_step ((first | fail)))); refine wpQuiet_nil ?_; rintro _ ⟨yr, rfl⟩; have syr := Ext.size yr; (repeat (first | rw [World.size_alloc] at syr | rw [World.size_setCell] at syr | rw [World.size_drew] at syr))))
  go_loopw [5] (fun s W => ∃ (i : Nat) (x : Ext w), s = .int .i64 i ∧ W = x.now ∧ Hid (i ≤ l.length)) (fun s _ => l.length - (intOf s).toNat)
  case atStart => exact ⟨0, ⟨w, Below.refl _ _⟩, rfl, rfl, Go.Lib.hid (Nat.zero_le _)⟩
  case round =>
    obtain ⟨i, x, rfl, rfl, hi⟩ := hrel
    have xs := x.size
    by_cases hlt : i < l.length
    · have hlt2 : (i : Int) < l.length := by omega
      obtain ⟨B, o, rfl, hB, c1, c2, c3⟩ := hp.out i hlt
      obtain ⟨B', o', rfl, hB', d1, d2, d3⟩ := hq.out i hlt
      have hi1000 : i ≤ 1000 := by omega
      clear hi
      generalize l[i].a = t1 at *
      generalize l[i].b = t2 at *
      generalize l[i].c = t3 at *
      go_wp2_with (first | ((first | with_reducible refine wrx2 ?_ | with_reducible refine wrx ?_); (repeat (first | go_big_quiet_step ((first | fail)) | quiet_step ((first | fail)))); refine wpQuiet_nil ?_; rintro _ ⟨yr, rfl⟩; have syr := Ext.size yr; (repeat (first | rw [World.size_alloc] at syr | rw [World.size_setCell] at syr | rw [World.size_drew] at syr)); have : B < yr.now.heap.size := (by omega); have : B ≤ yr.now.heap.size := (by omega); have : B < yr.now.heap.size + 1 + 1 := (by omega); have : B' < yr.now.heap.size := (by omega); have : B' ≤ yr.now.heap.size := (by omega); have : B' < yr.now.heap.size + 1 + 1 := (by omega)))
      refine ⟨⟨i + 1, ⟨yr.now, ?_⟩, by simp, rfl, Go.Lib.hid (by omega)⟩, by simp [intOf]; omega⟩
      repeat' (first | (with_reducible exact Below.refl _ _) | (with_reducible assumption) | (with_reducible refine Ext.below _ ?_ ?_) | (with_reducible refine Below.on ?_ (by with_reducible assumption) ?_) | (with_reducible refine Below.alloc ?_ ?_ _) | (with_reducible refine Below.drew ?_) | (with_reducible refine Below.setCell ?_ ?_ _) | (with_reducible exact Nat.le_refl _) | omega | (simp; done) | (simp [go_sem]; done) | (simp at *; omega))
    · have hge : ¬ (i : Int) < l.length := by omega
      clear hi
      go_wp2_with (first | ((first | with_reducible refine wrx2 ?_ | with_reducible refine wrx ?_); (repeat (first | go_big_quiet_step ((first | fail)) | quiet_step ((first | fail)))); refine wpQuiet_nil ?_; rintro _ ⟨yr, rfl⟩; have syr := Ext.size yr; (repeat (first | rw [World.size_alloc] at syr | rw [World.size_setCell] at syr | rw [World.size_drew] at syr))))
      go_returns
      refine ⟨rfl, ?_⟩
      repeat' (first | (with_reducible exact Below.refl _ _) | (with_reducible assumption) | (with_reducible refine Ext.below _ ?_ ?_) | (with_reducible refine Below.on ?_ (by with_reducible assumption) ?_) | (with_reducible refine Below.alloc ?_ ?_ _) | (with_reducible refine Below.drew ?_) | (with_reducible refine Below.setCell ?_ ?_ _) | (with_reducible exact Nat.le_refl _) | omega | (simp; done) | (simp [go_sem]; done) | (simp at *; omega))
end Go.Proofs.YtlmhbggigbmeaaaDoor
namespace Go.Proofs.YtlmhbggigbmeaaaDoor
open Go.RowKit Go.Shelf
attribute [local go_sem] Option.isSome_some Ext.cell Ext.frozen Ext.lt Ext.le Ext.lt_add Ext.le_add Ext.ne Ext.ne' lt2 lt3 lt4 lt5 le2 le3 le4
/-- A scene: its air's length, its grades, its land, and where they lie. -/
structure SceneR where
  lp : Option Addr
  n : Nat
  lc : Nat
  gp : Option Addr
  gc : Nat
  g : List V2
  x : LandR
structure SceneR.Ok (s : SceneR) : Prop where
  n32 : s.n ≤ 32
  g : GradesOk s.g
  x : s.x.Ok
structure SceneR.At (s : SceneR) (W : World) : Prop where
  g : VecsAt W s.gp s.g
  x : s.x.At W
theorem SceneR.At.on {s : SceneR} {W W' : World} (h : s.At W) (b : Below W.heap.size W W') : s.At W' := ⟨h.g.on b, h.x.on b⟩
def SceneR.cells (s : SceneR) : Array Value := #[.slice s.lp s.n s.lc, .slice s.gp s.g.length s.gc, .slice s.x.pp s.x.pl.length s.x.pc, .slice s.x.wp s.x.wl.length s.x.wc]
/-- What a blow does at a cell, at least and at most. -/
def SceneR.lo (s : SceneR) (a : Int) (b : V3) : Int := harmsV s.n s.g s.x b.a b.b a
def SceneR.hi (s : SceneR) (a : Int) (b : V3) : Int := harmsV s.n s.g s.x b.a b.c a
structure V3Ok (n : Nat) (b : V3) : Prop where
  l0 : 0 ≤ b.a
  l1 : b.a ≤ n
  le : b.b ≤ b.c
set_option maxRecDepth 100000 in
set_option maxHeartbeats 8000000 in
theorem bounds_any (s : SceneR) (a : Int) (b : V3) (SB AB : Nat) (w : World) (hs : s.At w) (hok : s.Ok) (hb : V3Ok s.n b) (h0 : 0 ≤ a) (h1 : a < s.x.pl.length) (hS : w.heap[SB]? = some (.cells s.cells 116 (0, 0))) (hA : AB < w.heap.size) (hA0 : w.cell? ⟨AB, 0, none⟩ = some (.int .i64 a)) :
    Calls Tryd.prog 88 #[.agg #[.int .i64 b.a, .int .i64 b.b, .int .i64 b.c], .pointer (some ⟨SB, 0, none⟩), .pointer (some ⟨AB, 0, none⟩)] w (Gives (.agg #[.int .i64 (s.lo a b), .int .i64 (s.hi a b)]) w) := by
  have c1 := fun (W : World) (y : Below w.heap.size w W) => sceneHarm_any s.lp s.n s.lc s.gp s.gc s.g s.x b.a b.b a W hok.n32 (hs.on y).g hok.g (hs.on y).x hok.x hb.l0 hb.l1 h0 h1
  have c2 := fun (W : World) (y : Below w.heap.size w W) => sceneHarm_any s.lp s.n s.lc s.gp s.gc s.g s.x b.a b.c a W hok.n32 (hs.on y).g hok.g (hs.on y).x hok.x hb.l0 hb.l1 h0 h1
  have k0 : w.cell? ⟨SB, 0, none⟩ = some (.slice s.lp s.n s.lc) := (cell_of_row w _ 0 _ _ _ hS).trans rfl
  have k1 : w.cell? ⟨SB, 1, none⟩ = some (.slice s.gp s.g.length s.gc) := (cell_of_row w _ 1 _ _ _ hS).trans rfl
  have k2 : w.cell? ⟨SB, 2, none⟩ = some (.slice s.x.pp s.x.pl.length s.x.pc) := (cell_of_row w _ 2 _ _ _ hS).trans rfl
  have k3 : w.cell? ⟨SB, 3, none⟩ = some (.slice s.x.wp s.x.wl.length s.x.wc) := (cell_of_row w _ 3 _ _ _ hS).trans rfl
  have lS : SB < w.heap.size := row_lt hS
  unfold SceneR.lo SceneR.hi
  generalize harmsV s.n s.g s.x b.a b.b a = V1 at *
  generalize harmsV s.n s.g s.x b.a b.c a = V2' at *
  clear hs hok hb hS h0 h1
  generalize s.g.length = n1 at *
  generalize s.x.pl.length = n2 at *
  generalize s.x.wl.length = n3 at *
  go_enter Tryd.func88, Tryd.ntmps88
  go_upto_region 1 with fail
  refine wp_named (fun W0 hW => ?_)
  have z0 : W0.cell? ⟨w.heap.size + 1, 0, none⟩ = some (.int .i64 0) := by rw [← hW]; simp [go_sem]
  have z1 : W0.cell? ⟨w.heap.size + 1, 1, none⟩ = some (.int .i64 0) := by rw [← hW]; simp [go_sem]
  have f0 : W0.frozen? ⟨w.heap.size + 1, 0, none⟩ = false := by rw [← hW]; simp [go_sem]
  have f1 : W0.frozen? ⟨w.heap.size + 1, 1, none⟩ = false := by rw [← hW]; simp [go_sem]
  have b0 : W0.cell? ⟨w.heap.size, 0, none⟩ = some (.int .i64 b.a) := by rw [← hW]; simp [go_sem]
  have b1 : W0.cell? ⟨w.heap.size, 1, none⟩ = some (.int .i64 b.b) := by rw [← hW]; simp [go_sem]
  have b2 : W0.cell? ⟨w.heap.size, 2, none⟩ = some (.int .i64 b.c) := by rw [← hW]; simp [go_sem]
  have hl : w.heap.size + 1 < W0.heap.size := by rw [← hW]; simp
  have hl0 : w.heap.size < W0.heap.size := by omega
  have hB0 : Below w.heap.size w W0 := by rw [← hW]; repeat' (first | (with_reducible exact Below.refl _ _) | (with_reducible assumption) | (with_reducible refine Ext.below _ ?_ ?_) | (with_reducible refine Below.on ?_ (by with_reducible assumption) ?_) | (with_reducible refine Below.alloc ?_ ?_ _) | (with_reducible refine Below.drew ?_) | (with_reducible refine Below.setCell ?_ ?_ _) | (with_reducible exact Nat.le_refl _) | omega | (simp; done) | (simp [go_sem]; done) | (simp at *; omega))
  replace k0 := (hB0.cell (p := ⟨SB, 0, none⟩) lS).trans k0
  replace k1 := (hB0.cell (p := ⟨SB, 1, none⟩) lS).trans k1
  replace k2 := (hB0.cell (p := ⟨SB, 2, none⟩) lS).trans k2
  replace k3 := (hB0.cell (p := ⟨SB, 3, none⟩) lS).trans k3
  replace hA0 := (hB0.cell (p := ⟨AB, 0, none⟩) hA).trans hA0
  have lS0 : SB < W0.heap.size := by omega
  have lA0 : AB < W0.heap.size := by omega
  clear hW
  (first | with_reducible refine wp_region_ext2_heads 17 (by kernel_rfl) (by kernel_rfl) ?_ | with_reducible refine wp_region_ext_heads 17 (by kernel_rfl) (by kernel_rfl) ?_); simp only [List.take_succ_cons, List.take_zero, List.length_cons, List.length_nil, Nat.reduceAdd, Nat.reduceSub]; (repeat (first | go_big_quiet_step ((first | (go_at_call 63; with_reducible exact Calls.ext (c1 _ bcl)) | (go_at_call 63; with_reducible exact Calls.ext (c2 _ bcl)))) | quiet_step ((first | (go_at_call 63; with_reducible exact Calls.ext (c1 _ bcl)) | (go_at_call 63; with_reducible exact Calls.ext (c2 _ bcl)))))); refine wpQuiet_nil ?_; rintro _ ⟨yr, rfl⟩; have syr := Ext.size yr; (repeat (first | rw [World.size_alloc] at syr | rw [World.size_setCell] at syr | rw [World.size_drew] at syr)); (refine wpAny_ready (rs := [17]) (by kernel_rfl) (by simp) ?_; refine AllReady.cons rfl (fun K hK => ?_) AllReady.nil; go_simp; refine hK _ _ ?_; clear hK K); refine wpAny_done (by kernel_rfl) ?_ _
  have y0 := (yr.cell (o := 0) hl).trans z0
  have y1 := (yr.cell (o := 1) hl).trans z1
  go_wp2_with fail
  refine bodyPost_ret (v := .agg #[.int .i64 V1, .int .i64 V2']) (by simp (maxDischargeDepth := 9) [results, Tryd.results88, go_sem, y0, y1]) rfl ?_
  refine ⟨rfl, ?_⟩
  repeat' (first | (with_reducible exact Below.refl _ _) | (with_reducible assumption) | (with_reducible refine Ext.below _ ?_ ?_) | (with_reducible refine Below.on ?_ (by with_reducible assumption) ?_) | (with_reducible refine Below.alloc ?_ ?_ _) | (with_reducible refine Below.drew ?_) | (with_reducible refine Below.setCell ?_ ?_ _) | (with_reducible exact Nat.le_refl _) | omega | (simp; done) | (simp [go_sem]; done) | (simp at *; omega))
end Go.Proofs.YtlmhbggigbmeaaaDoor
namespace Go.Proofs.YtlmhbggigbmeaaaDoor
open Go.RowKit Go.Shelf
theorem alloc2_rows {w W : World} {a b : Array Value} {A B : TypeId} (h : (w.alloc (.cells a A)).alloc (.cells b B) = W) : W.heap[w.heap.size]? = some (.cells a A (0, 0)) ∧ W.heap[w.heap.size + 1]? = some (.cells b B (0, 0)) := by
  subst h
  refine ⟨(heap_alloc_old _ _ (by simp)).trans (heap_alloc_new _ _), ?_⟩
  have := heap_alloc_new (w.alloc (.cells a A)) (.cells b B)
  simpa only [World.size_alloc] using this
theorem alloc3_rows {w W : World} {a b c : Array Value} {A B C : TypeId} (h : ((w.alloc (.cells a A)).alloc (.cells b B)).alloc (.cells c C) = W) : W.heap[w.heap.size]? = some (.cells a A (0, 0)) ∧ W.heap[w.heap.size + 1]? = some (.cells b B (0, 0)) ∧ W.heap[w.heap.size + 1 + 1]? = some (.cells c C (0, 0)) := by
  subst h
  obtain ⟨h1, h2⟩ := alloc2_rows (w := w) (a := a) (b := b) (A := A) (B := B) rfl
  refine ⟨(heap_alloc_old _ _ (by simp; omega)).trans h1, (heap_alloc_old _ _ (by simp)).trans h2, ?_⟩
  have := heap_alloc_new ((w.alloc (.cells a A)).alloc (.cells b B)) (.cells c C)
  simpa only [World.size_alloc] using this
theorem listIn_on {w w' : World} {p : Option Addr} {len : Nat} {z : Nat → Int} (h : ListIn w p len z) (b : Below w.heap.size w w') : ListIn w' p len z := by
  refine ⟨h.long, fun h0 => ?_⟩
  obtain ⟨B, o, hp, hB, hi⟩ := h.some h0
  let x : Ext w := ⟨w', b⟩
  exact ⟨B, o, hp, x.lt hB, fun i hi' => ⟨(x.cell hB).trans (hi i hi').1, (hi i hi').2⟩⟩
theorem belowX_put {n B : Nat} {W Y : World} (h : BelowX B n W Y) (u v : Value) : BelowX B n W ((Y.setCell ⟨B, 0, none⟩ u).setCell ⟨B, 1, none⟩ v) := (h.ring 0 u).ring 1 v
theorem boxp_put {W : World} {B : Nat} {a b : Value} {T : TypeId} (h : W.heap[B]? = some (.cells #[a, b] T (0, 0))) (u v : Value) : ((W.setCell ⟨B, 0, none⟩ u).setCell ⟨B, 1, none⟩ v).heap[B]? = some (.cells #[u, v] T (0, 0)) := by
  have h1 := heap_setCell (o := 0) h u
  exact (heap_setCell (o := 1) h1 v).trans (by simp)
end Go.Proofs.YtlmhbggigbmeaaaDoor

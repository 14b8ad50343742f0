/- Contract of OwnSky: a copy of a sky that shares no lists. Condition: the sky in memory, not great. -/
import Derived.Test.YtfflbiojcoehmabOwnW
namespace Go.Proofs.Ytfflbiojcoehmab
open Go.RowKit Go.Shelf
attribute [local go_sem] Option.isSome_some Ext.cell Ext.frozen Ext.lt Ext.le Ext.lt_add Ext.le_add Ext.ne Ext.ne' lt2 lt3 lt4 lt5 le2 le3 le4
/-- The boxes of a sky and of the result. -/
structure OwnBox (W : World) (R : Nat) (v0 v1 v2 v3 : Value) : Prop where
  c0 : W.cell? ⟨R, 0, none⟩ = some v0
  c1 : W.cell? ⟨R, 1, none⟩ = some v1
  c2 : W.cell? ⟨R, 2, none⟩ = some v2
  c3 : W.cell? ⟨R, 3, none⟩ = some v3
  f0 : W.frozen? ⟨R, 0, none⟩ = false
  f1 : W.frozen? ⟨R, 1, none⟩ = false
  f2 : W.frozen? ⟨R, 2, none⟩ = false
  f3 : W.frozen? ⟨R, 3, none⟩ = false
  r0 : W.cell? ⟨R + 1, 0, none⟩ = some (.slice none 0 0)
  r1 : W.cell? ⟨R + 1, 1, none⟩ = some (.int .i64 0)
  r2 : W.cell? ⟨R + 1, 2, none⟩ = some (.slice none 0 0)
  r3 : W.cell? ⟨R + 1, 3, none⟩ = some (.slice none 0 0)
  g0 : W.frozen? ⟨R + 1, 0, none⟩ = false
  g1 : W.frozen? ⟨R + 1, 1, none⟩ = false
  g2 : W.frozen? ⟨R + 1, 2, none⟩ = false
  g3 : W.frozen? ⟨R + 1, 3, none⟩ = false
  lt : R + 1 < W.heap.size
theorem OwnBox.keep {W W' : World} {R : Nat} {v0 v1 v2 v3 : Value} (h : OwnBox W R v0 v1 v2 v3) (hb : ∀ B, B ≤ R + 1 → W'.heap[B]? = W.heap[B]?) (hs : W.heap.size ≤ W'.heap.size) : OwnBox W' R v0 v1 v2 v3 := by
  have hc : ∀ o, W'.cell? ⟨R, o, none⟩ = W.cell? ⟨R, o, none⟩ := fun o => World.cell?_of_block (a := ⟨R, o, none⟩) (hb R (by omega))
  have hf : ∀ o, W'.frozen? ⟨R, o, none⟩ = W.frozen? ⟨R, o, none⟩ := fun o => World.frozen?_of_block (a := ⟨R, o, none⟩) (hb R (by omega))
  have hc' : ∀ o, W'.cell? ⟨R + 1, o, none⟩ = W.cell? ⟨R + 1, o, none⟩ := fun o => World.cell?_of_block (a := ⟨R + 1, o, none⟩) (hb (R + 1) (by omega))
  have hf' : ∀ o, W'.frozen? ⟨R + 1, o, none⟩ = W.frozen? ⟨R + 1, o, none⟩ := fun o => World.frozen?_of_block (a := ⟨R + 1, o, none⟩) (hb (R + 1) (by omega))
  exact ⟨(hc 0).trans h.c0, (hc 1).trans h.c1, (hc 2).trans h.c2, (hc 3).trans h.c3, (hf 0).trans h.f0, (hf 1).trans h.f1, (hf 2).trans h.f2, (hf 3).trans h.f3, (hc' 0).trans h.r0, (hc' 1).trans h.r1, (hc' 2).trans h.r2, (hc' 3).trans h.r3, (hf' 0).trans h.g0, (hf' 1).trans h.g1, (hf' 2).trans h.g2, (hf' 3).trans h.g3, Nat.lt_of_lt_of_le h.lt hs⟩
theorem OwnBox.below {W W' : World} {R : Nat} {v0 v1 v2 v3 : Value} (h : OwnBox W R v0 v1 v2 v3) (y : Below W.heap.size W W') : OwnBox W' R v0 v1 v2 v3 := by
  have := h.lt
  exact h.keep (fun B hB => y.block B (by omega)) y.size
theorem OwnBox.alloc {W : World} {R : Nat} {v0 v1 v2 v3 : Value} (h : OwnBox W R v0 v1 v2 v3) (o : Obj) : OwnBox (W.alloc o) R v0 v1 v2 v3 := h.below ((Below.refl _ _).alloc (Nat.le_refl _) _)
theorem OwnBox.grown {W W' : World} {R base e k n : Nat} {v0 v1 v2 v3 v : Value} {xs : List Value} (h : OwnBox W R v0 v1 v2 v3) (hown : W.ownsRow base e k v n xs) (hb : R + 1 < base) (hg : W.grownBy W' v.ownBlock) : OwnBox W' R v0 v1 v2 v3 := by
  have := h.lt
  exact h.keep (fun B hB => hg.block B (by omega) (fun e => by have := (hown.lt B e.symm).1; omega)) hg.size
theorem OwnBox.set0 {W : World} {R : Nat} {v0 v1 v2 v3 : Value} (h : OwnBox W R v0 v1 v2 v3) (u : Value) : OwnBox (W.setCell ⟨R, 0, none⟩ u) R u v1 v2 v3 := by
  obtain ⟨c0, c1, c2, c3, f0, f1, f2, f3, r0, r1, r2, r3, g0, g1, g2, g3, lt⟩ := h
  constructor <;> first | (simp [go_sem, *]; done) | (simpa using lt)
theorem OwnBox.set1 {W : World} {R : Nat} {v0 v1 v2 v3 : Value} (h : OwnBox W R v0 v1 v2 v3) (u : Value) : OwnBox (W.setCell ⟨R, 1, none⟩ u) R v0 u v2 v3 := by
  obtain ⟨c0, c1, c2, c3, f0, f1, f2, f3, r0, r1, r2, r3, g0, g1, g2, g3, lt⟩ := h
  constructor <;> first | (simp [go_sem, *]; done) | (simpa using lt)
theorem OwnBox.set2 {W : World} {R : Nat} {v0 v1 v2 v3 : Value} (h : OwnBox W R v0 v1 v2 v3) (u : Value) : OwnBox (W.setCell ⟨R, 2, none⟩ u) R v0 v1 u v3 := by
  obtain ⟨c0, c1, c2, c3, f0, f1, f2, f3, r0, r1, r2, r3, g0, g1, g2, g3, lt⟩ := h
  constructor <;> first | (simp [go_sem, *]; done) | (simpa using lt)
theorem OwnBox.set3 {W : World} {R : Nat} {v0 v1 v2 v3 : Value} (h : OwnBox W R v0 v1 v2 v3) (u : Value) : OwnBox (W.setCell ⟨R, 3, none⟩ u) R v0 v1 v2 u := by
  obtain ⟨c0, c1, c2, c3, f0, f1, f2, f3, r0, r1, r2, r3, g0, g1, g2, g3, lt⟩ := h
  constructor <;> first | (simp [go_sem, *]; done) | (simpa using lt)
theorem OwnWorldAt.put {W : World} {base : Nat} {l : List BodyR} {p : Option Addr} {c : Nat} {l' : List BodyR} (h : OwnWorldAt W base l p c l') {B : Nat} (hB : B < base) (o : Nat) (u : Value) : OwnWorldAt (W.setCell ⟨B, o, none⟩ u) base l p c l' := ⟨h.r.put hB o u, h.a, h.e⟩
theorem OwnWorldAt.alloc {W : World} {base : Nat} {l : List BodyR} {p : Option Addr} {c : Nat} {l' : List BodyR} (h : OwnWorldAt W base l p c l') (o : Obj) : OwnWorldAt (W.alloc o) base l p c l' := ⟨h.r.alloc o, h.a, h.e⟩
theorem OwnWorldAt.grown {W W' : World} {base base' k n : Nat} {e : TypeId} {u : Value} {l : List BodyR} {p : Option Addr} {c : Nat} {l' : List BodyR} {xs : List Value} (h : OwnWorldAt W base l p c l') (hown : W.ownsRow base' e k u n xs) (h1 : 52 ≠ e) (h2 : 33 ≠ e) (hg : W.grownBy W' u.ownBlock) : OwnWorldAt W' base l p c l' := ⟨h.r.grown hown h1 h2 hg, h.a, h.e⟩
theorem OwnWorldAt.base {W : World} {base base' : Nat} {l : List BodyR} {p : Option Addr} {c : Nat} {l' : List BodyR} (h : OwnWorldAt W base l p c l') (hb : base' ≤ base) : OwnWorldAt W base' l p c l' := ⟨h.r.base hb, h.a, h.e⟩
/-- A sky of the call's own with the contents of another. -/
structure OwnSkyAt (W : World) (base : Nat) (s s' : SkyR) : Prop where
  wd : OwnWorldAt W base s.bodies s'.bp s'.bc s'.bodies
  st : W.ownsRow base 75 3 (.slice s'.sp s'.sts.length s'.sc) s'.sts.length (srows s'.sts)
  ct : W.ownsRow base 77 3 (.slice s'.cp s'.cats.length s'.cc) s'.cats.length (crows s'.cats)
  h : s'.home = s.home
  es : s'.sts = s.sts
  ec : s'.cats = s.cats
def OwnSPost (w : World) (s : SkyR) : Ending → World → Prop := fun e w' => Below w.heap.size w w' ∧ ∃ s', e = .returned s'.val ∧ OwnSkyAt w' w.heap.size s s'
theorem OwnSkyAt.at {W : World} {base : Nat} {s s' : SkyR} (h : OwnSkyAt W base s s') : s'.At W where
  bs := fun j hj => by
    refine ⟨fun i hi => ?_, ?_⟩
    · obtain ⟨p, c, e, h⟩ := owns_at (fun v : V2 => [.int .i64 v.x, .int .i64 v.y]) 2 (fun _ => rfl) s'.bodies[j].track (h.wd.r.t s'.bodies[j] (List.getElem_mem hj))
      injection e with e1 e2 e3
      obtain ⟨B, o, hp, hB, hB2, hv⟩ := h i hi
      exact ⟨B, o, e1.trans hp, hB2, hv 0 _ rfl, hv 1 _ rfl⟩
    · obtain ⟨p, c, e, h⟩ := owns_at (fun b : BodyR => [.int .i64 b.mu, .int .i64 b.rad, .slice b.tp b.track.length b.tc]) 3 (fun _ => rfl) s'.bodies h.wd.r.b
      injection e with e1 e2 e3
      obtain ⟨B, o, hp, hB, hB2, hv⟩ := h j hj
      exact ⟨B, o, e1.trans hp, hB2, hv 0 _ rfl, hv 1 _ rfl, hv 2 _ rfl⟩
  ss := fun j hj => by
    obtain ⟨p, c, e, h⟩ := owns_at (fun o : StR => [.int .i64 o.id, .int .i64 o.off.x, .int .i64 o.off.y]) 3 (fun _ => rfl) s'.sts h.st
    injection e with e1 e2 e3
    obtain ⟨B, o, hp, hB, hB2, hv⟩ := h j hj
    exact ⟨B, o, e1.trans hp, hB2, hv 0 _ rfl, hv 1 _ rfl, hv 2 _ rfl⟩
  cs := fun j hj => by
    obtain ⟨p, c, e, h⟩ := owns_at (fun c : CatR => [.int .i64 c.ver, .int .i64 c.lo, .int .i64 c.hi]) 3 (fun _ => rfl) s'.cats h.ct
    injection e with e1 e2 e3
    obtain ⟨B, o, hp, hB, hB2, hv⟩ := h j hj
    exact ⟨B, o, e1.trans hp, hB2, hv 0 _ rfl, hv 1 _ rfl, hv 2 _ rfl⟩
set_option maxRecDepth 100000 in
set_option maxHeartbeats 8000000 in
theorem OwnSky_any (s : SkyR) (w : World) (hA : s.At w) (hb : s.bodies.length ≤ 1000) (ht : ∀ b ∈ s.bodies, b.track.length ≤ 5000) (hs : s.sts.length ≤ 1000) (hc : s.cats.length ≤ 1000) :
    Calls Try.prog 9 #[s.val] w (OwnSPost w s) := by
  obtain ⟨i1, hi1, hx0, hx1, hx2⟩ := info_parts st_info
  obtain ⟨i2, hi2, hz0, hz1, hz2⟩ := info_parts cat_info
  have cw := fun (W : World) (y : Below w.heap.size w W) => OwnWorld_any s.bp s.bc s.bodies s.home W (hA.bs.on y) hb ht
  have hps : 0 < s.sts.length → ∃ B o, s.sp = some ⟨B, o, none⟩ := fun h => by obtain ⟨B, o, e, _⟩ := hA.ss 0 h; exact ⟨B, o, e⟩
  have hpc : 0 < s.cats.length → ∃ B o, s.cp = some ⟨B, o, none⟩ := fun h => by obtain ⟨B, o, e, _⟩ := hA.cs 0 h; exact ⟨B, o, e⟩
  have ks := Go.Lib.hid (fun (W : World) (y : Below w.heap.size w W) (B o : Nat) (e : s.sp = some ⟨B, o, none⟩) => sts_cells (e ▸ hA.ss.on y))
  have kc := Go.Lib.hid (fun (W : World) (y : Below w.heap.size w W) (B o : Nat) (e : s.cp = some ⟨B, o, none⟩) => cats_cells (e ▸ hA.cs.on y))
  have ls := srows_length s.sts
  have lc := crows_length s.cats
  have os := Go.Lib.hid (srows_one s.sts)
  have oc := Go.Lib.hid (crows_one s.cats)
  unfold SkyR.val at *
  unfold wval at cw
  clear hA hb ht
  obtain ⟨xs, hxs⟩ : ∃ x, srows s.sts = x := ⟨_, rfl⟩
  obtain ⟨xc, hxc⟩ : ∃ x, crows s.cats = x := ⟨_, rfl⟩
  rw [hxs] at ls os ks
  rw [hxc] at lc oc kc
  obtain ⟨n7, hn7⟩ : ∃ n, s.sts.length = n := ⟨_, rfl⟩
  obtain ⟨n1, hn1⟩ : ∃ n, s.cats.length = n := ⟨_, rfl⟩
  rw [hn7] at ls hps hs ⊢
  rw [hn1] at lc hpc hc ⊢
  obtain ⟨n5, hn5⟩ : ∃ n, s.bp = n := ⟨_, rfl⟩
  obtain ⟨n6, hn6⟩ : ∃ n, s.bc = n := ⟨_, rfl⟩
  obtain ⟨n0, hn0⟩ : ∃ n, s.home = n := ⟨_, rfl⟩
  obtain ⟨n8, hn8⟩ : ∃ n, s.sp = n := ⟨_, rfl⟩
  obtain ⟨n9, hn9⟩ : ∃ n, s.sc = n := ⟨_, rfl⟩
  obtain ⟨n2, hn2⟩ : ∃ n, s.cp = n := ⟨_, rfl⟩
  obtain ⟨n3, hn3⟩ : ∃ n, s.cc = n := ⟨_, rfl⟩
  obtain ⟨n4, hn4⟩ : ∃ n, s.bodies.length = n := ⟨_, rfl⟩
  rw [hn5, hn4, hn6, hn0] at cw
  rw [hn8] at hps ks
  rw [hn2] at hpc kc
  rw [hn5, hn4, hn6, hn0, hn8, hn9, hn2, hn3]
  replace hn0 := Go.Lib.hid hn0
  replace hn7 := Go.Lib.hid hn7
  replace hn1 := Go.Lib.hid hn1
  replace hxs := Go.Lib.hid hxs
  replace hxc := Go.Lib.hid hxc
  clear hn5 hn4 hn6 hn8 hn9 hn2 hn3
  go_enter Try.func9, Try.ntmps9
  go_wp2_with (first | ((with_reducible refine wp_region_ext (by kernel_rfl) (by kernel_rfl) ?_); (repeat (first | go_big_quiet_step ((first | fail)) | quiet_step ((first | fail)))); refine wpQuiet_nil ?_; rintro _ ⟨yr, rfl⟩; have syr := Ext.size yr; (repeat (first | rw [World.size_alloc] at syr | rw [World.size_setCell] at syr | rw [World.size_drew] at syr))) | (go_at_call 27; refine callsW_named (fun W0 hW0 => ?_); have y0 : Below w.heap.size w W0 := (by rw [← hW0]; repeat' (first | (with_reducible exact Below.refl _ _) | (with_reducible assumption) | (with_reducible refine Ext.below _ ?_ ?_) | (with_reducible refine Below.on ?_ (by with_reducible assumption) ?_) | (with_reducible refine Below.alloc ?_ ?_ _) | (with_reducible refine Below.drew ?_) | (with_reducible refine Below.setCell ?_ ?_ _) | (with_reducible exact Nat.le_refl _) | omega | (simp; done) | (simp [go_sem]; done) | (simp at *; omega))); have bx0 : OwnBox W0 w.heap.size (.slice n5 n4 n6) (.int .i64 n0) (.slice n8 n7 n9) (.slice n2 n1 n3) := (by rw [← hW0]; constructor <;> simp [go_sem]); clear hW0; have hs0 := bx0.lt; refine (cw W0 y0).mono ?_; rintro _ W1 ⟨hb1, p1, c1, l1, rfl, how⟩; unfold wval; have bx1 := bx0.below hb1; have y1 : Below w.heap.size w W1 := Below.on y0 hb1 (by omega); have s01 := hb1.size; have bh1 := Go.Lib.hid bx1; replace how := Go.Lib.hid how; clear bx0 y0 hb1; obtain ⟨c0, c1', c2, c3, f0, f1, f2, f3, r0, r1, r2, r3, g0, g1, g2, g3, lt⟩ := bx1; have : w.heap.size < W1.heap.size := (by omega)) | (at_builtin; refine wpListW_named (fun W2 hW2 => ?_); have bx2 : OwnBox W2 w.heap.size (.slice p1 l1.length c1) (.int .i64 n0) (.slice n8 n7 n9) (.slice n2 n1 n3) := (by rw [← hW2]; exact ((bh1.out.set0 _).set1 _).alloc _); have y2 : Below w.heap.size w W2 := (by rw [← hW2]; repeat' (first | (with_reducible exact Below.refl _ _) | (with_reducible assumption) | (with_reducible refine Ext.below _ ?_ ?_) | (with_reducible refine Below.on ?_ (by with_reducible assumption) ?_) | (with_reducible refine Below.alloc ?_ ?_ _) | (with_reducible refine Below.drew ?_) | (with_reducible refine Below.setCell ?_ ?_ _) | (with_reducible exact Nat.le_refl _) | omega | (simp; done) | (simp [go_sem]; done) | (simp at *; omega))); have s2 : W2.heap.size = W1.heap.size + 1 := (by rw [← hW2]; simp); have hm2 : W2.ownsRow W1.heap.size 75 3 (.slice (some ⟨W1.heap.size, 0, none⟩) 0 0) 0 [] := (by rw [← hW2]; exact made_none _ _ (by simp) _ _); have how2 : OwnWorldAt W2 W0.heap.size s.bodies p1 c1 l1 := (by rw [← hW2]; exact ((how.out.put (by omega) _ _).put (by omega) _ _).alloc _); clear hW2; refine wpList_append_copy rfl _ _ 25 rfl W1.heap.size 75 i1 _ 3 24 Try.underlying25 hi1 hx0 hx1 hx2 rfl (by decide) W1.heap.size rfl hm2 n8 n7 n9 xs rfl ls hps (ks.out W2 y2) os.out (by unfold maxLen; omega) (by omega) (by omega) ?_; intro gs cs' W3 hrow3 hgs hgr3; have bx3 := bx2.grown hm2 (by omega) hgr3; have how3 := how2.grown hm2 (by decide) (by decide) hgr3; have y3 : Below w.heap.size w W3 := below_grown y2 hm2 (by omega) (by omega) hgr3; have s3 := hgr3.size; have bh3 := Go.Lib.hid bx3; replace how3 := Go.Lib.hid how3; replace hrow3 := Go.Lib.hid hrow3; clear c0 c1' c2 c3 f0 f1 f2 f3 r0 r1 r2 r3 g0 g1 g2 g3 lt bx2 hm2 how2 hgr3 bh1 how y2 y1; obtain ⟨c0, c1', c2, c3, f0, f1, f2, f3, r0, r1, r2, r3, g0, g1, g2, g3, lt⟩ := bx3; have : w.heap.size < W3.heap.size := (by omega)) | (at_builtin; refine wpListW_named (fun W4 hW4 => ?_); have bx4 : OwnBox W4 w.heap.size (.slice p1 l1.length c1) (.int .i64 n0) (.slice (some ⟨gs, 0, none⟩) n7 cs') (.slice n2 n1 n3) := (by rw [← hW4]; exact (bh3.out.set2 _).alloc _); have y4 : Below w.heap.size w W4 := (by rw [← hW4]; repeat' (first | (with_reducible exact Below.refl _ _) | (with_reducible assumption) | (with_reducible refine Ext.below _ ?_ ?_) | (with_reducible refine Below.on ?_ (by with_reducible assumption) ?_) | (with_reducible refine Below.alloc ?_ ?_ _) | (with_reducible refine Below.drew ?_) | (with_reducible refine Below.setCell ?_ ?_ _) | (with_reducible exact Nat.le_refl _) | omega | (simp; done) | (simp [go_sem]; done) | (simp at *; omega))); have s4 : W4.heap.size = W3.heap.size + 1 := (by rw [← hW4]; simp); have hm4 : W4.ownsRow W3.heap.size 77 3 (.slice (some ⟨W3.heap.size, 0, none⟩) 0 0) 0 [] := (by rw [← hW4]; exact made_none _ _ (by simp) _ _); have how4 : OwnWorldAt W4 W0.heap.size s.bodies p1 c1 l1 := (by rw [← hW4]; exact (how3.out.put (by omega) _ _).alloc _); have hrow4 : W4.ownsRow W1.heap.size 75 3 (.slice (some ⟨gs, 0, none⟩) n7 cs') n7 xs := (by rw [← hW4]; exact (owns_put hrow3.out (by omega) _ _).alloc _); clear hW4; refine wpList_append_copy rfl _ _ 26 rfl W3.heap.size 77 i2 _ 3 24 Try.underlying26 hi2 hz0 hz1 hz2 rfl (by decide) W3.heap.size rfl hm4 n2 n1 n3 xc rfl lc hpc (kc.out W4 y4) oc.out (by unfold maxLen; omega) (by omega) (by omega) ?_; intro gc cc' W5 hrow5 hgc hgr5; have bx5 := bx4.grown hm4 (by omega) hgr5; have how5 := how4.grown hm4 (by decide) (by decide) hgr5; have hst5 := World.ownsRow.kept hrow4 hgr5 (owns_apart2 hrow4 hm4 (by decide)); have y5 : Below w.heap.size w W5 := below_grown y4 hm4 (by omega) (by omega) hgr5; have s5 := hgr5.size; replace how5 := Go.Lib.hid how5; replace hrow5 := Go.Lib.hid hrow5; replace hst5 := Go.Lib.hid hst5; clear c0 c1' c2 c3 f0 f1 f2 f3 r0 r1 r2 r3 g0 g1 g2 g3 lt bx4 hm4 how4 hgr5 bh3 how3 hrow4 hrow3 y4 y3; obtain ⟨c0, c1', c2, c3, f0, f1, f2, f3, r0, r1, r2, r3, g0, g1, g2, g3, lt⟩ := bx5; have : w.heap.size < W5.heap.size := (by omega)))
  refine bodyPost_ret (v := .agg #[.slice p1 l1.length c1, .int .i64 n0, .slice (some ⟨gs, 0, none⟩) n7 cs', .slice (some ⟨gc, 0, none⟩) n1 cc']) (by simp (maxDischargeDepth := 9) [results, Try.results9, go_sem, *]) rfl ?_
  refine ⟨?_, ⟨p1, c1, l1, n0, some ⟨gs, 0, none⟩, cs', s.sts, some ⟨gc, 0, none⟩, cc', s.cats⟩, ?_, ?_, ?_, ?_, hn0.out.symm, rfl, rfl⟩
  · repeat' (first | (with_reducible exact Below.refl _ _) | (with_reducible assumption) | (with_reducible refine Ext.below _ ?_ ?_) | (with_reducible refine Below.on ?_ (by with_reducible assumption) ?_) | (with_reducible refine Below.alloc ?_ ?_ _) | (with_reducible refine Below.drew ?_) | (with_reducible refine Below.setCell ?_ ?_ _) | (with_reducible exact Nat.le_refl _) | omega | (simp; done) | (simp [go_sem]; done) | (simp at *; omega))
  · unfold SkyR.val
    rw [hn7.out, hn1.out]
  · exact (((((how5.out.put (by omega) _ _).put (by omega) _ _).put (by omega) _ _).put (by omega) _ _).put (by omega) _ _).base (by omega)
  · rw [hn7.out, hxs.out]
    exact owns_base (owns_put (owns_put (owns_put (owns_put (owns_put hst5.out (by omega) _ _) (by omega) _ _) (by omega) _ _) (by omega) _ _) (by omega) _ _) (by omega)
  · rw [hn1.out, hxc.out]
    exact owns_base (owns_put (owns_put (owns_put (owns_put (owns_put hrow5.out (by omega) _ _) (by omega) _ _) (by omega) _ _) (by omega) _ _) (by omega) _ _) (by omega)
end Go.Proofs.Ytfflbiojcoehmab

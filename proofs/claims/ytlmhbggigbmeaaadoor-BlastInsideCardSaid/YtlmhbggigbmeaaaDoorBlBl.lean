/- Contract of Blows, for valid air and a valid rock with a fall. Condition: the table of limits stands as it was laid. -/
import Derived.Test.YtlmhbggigbmeaaaDoorBlV1G
namespace Go.Proofs.YtlmhbggigbmeaaaDoor
open Go.RowKit Go.Shelf
attribute [local go_sem] Oper.semAt_some
attribute [local go_sem] Option.isSome_some Ext.cell Ext.frozen Ext.lt Ext.le Ext.lt_add Ext.le_add Ext.ne Ext.ne' lt2 lt3 lt4 lt5 le2 le3 le4
theorem blow_info : (Tryd.prog.info? 70).map (fun i => (i.zero, i.size, i.bytes)) = some (some (.agg #[.int .i64 0, .int .i64 0, .int .i64 0]), 3, 24) := by kernel_rfl
theorem cells3_new (w : World) (v0 v1 v2 : Value) (T : TypeId) : ∀ j u, [v0, v1, v2][j]? = some u → (w.alloc (.cells #[v0, v1, v2] T)).cell? ((⟨w.heap.size, 0, none⟩ : Addr).add j) = some u := by
  intro j u hj
  have hl : j < 3 := by simpa using (List.getElem?_eq_some_iff.1 hj).1
  have hadd : (⟨w.heap.size, 0, none⟩ : Addr).add j = ⟨w.heap.size, j, none⟩ := by unfold Addr.add; split <;> simp_all
  rw [hadd]
  rcases (show j = 0 ∨ j = 1 ∨ j = 2 by omega) with rfl | rfl | rfl <;> (simp at hj; subst hj; simp [go_sem])
/-- What the list holds when so many blows have come. -/
def Held (LX B : Nat) (pre : List BlowR) (W : World) : Prop := ∃ v, Boxed W LX 64 v ∧ W.ownsRow B 70 3 v pre.length (rowsB pre)
theorem Held.other {LX B : Nat} {pre : List BlowR} {W W' : World} {row : Option Nat} (h : Held LX B pre W) (hg : W.grownBy W' row) (hr : ∀ r, row = some r → ∃ o : Obj, W.heap[r]? = some o ∧ o.isCells = false) : Held LX B pre W' := by
  obtain ⟨v, h1, h2⟩ := h
  exact ⟨v, boxed_other h1 hg hr, row_other h2 hg hr⟩
theorem Held.kept {LX B lo : Nat} {pre : List BlowR} {A C : World} (h : Held LX B pre A) (hk : KeptI lo B A C) (hL : LX < lo) : Held LX B pre C := by
  obtain ⟨v, h1, h2⟩ := h
  exact ⟨v, (hk.block LX h1.lt (by omega)).trans h1, row_same h2 fun k hb hlt => hk.block k hlt (by omega)⟩
theorem Held.alloc {LX B : Nat} {pre : List BlowR} {W : World} (h : Held LX B pre W) (o : Obj) : Held LX B pre (W.alloc o) := by
  obtain ⟨v, h1, h2⟩ := h
  exact ⟨v, h1.alloc o, h2.alloc o⟩
theorem below_keptI {n lo hi : Nat} {w A C : World} (h : Below n w A) (hn : n ≤ lo) (hA : n ≤ A.heap.size) (k : KeptI lo hi A C) : Below n w C :=
  ⟨k.os.trans h.os, k.tape.trans h.tape, k.output.trans h.output, Nat.le_trans h.size k.size, fun B hB => (k.block B (by omega) (by omega)).trans (h.block B hB)⟩
def BlowsPost (w : World) (L : List BlowR) : Ending → World → Prop := fun e w' => ∃ v, e = .returned (.tuple #[v, .int .i64 0]) ∧ Below w.heap.size w w' ∧ w'.ownsRow w.heap.size 70 3 v L.length (rowsB L)
set_option maxRecDepth 100000 in
set_option maxHeartbeats 16000000 in
theorem Blows_ok (p : Option Addr) (cap : Nat) (l : List V2) (k : RockR) (f : FallR) (w : World) (hlim : LimAt w) (hv : VecsAt w p l) (ha : airE l = 0) (hr : rockE k f = 0) :
    Calls Tryd.prog 26 #[.slice p l.length cap, k.val, f.val] w (BlowsPost w (blowsV l k f)) := by
  obtain ⟨hl, hair⟩ := air_ok ha
  obtain ⟨hs, ht, -⟩ := rockE_ok hr
  have ca := fun (W : World) (y : Below w.heap.size w W) => CheckAir_any p cap l W (hv.on y)
  have cr := fun (W : World) (y : LimAt W) => CheckRock_any k f W y
  rw [ha] at ca
  rw [hr] at cr
  have cbo := fun (n : Nat) (W : World) => blowsOf_any p n cap k f W
  unfold blowsV
  unfold RockR.val FallR.val at *
  refine (callsIn_wide (n := 6)).1 ?_
  refine callsIn_of_wp_marks Tryd.func26 rfl trivial ?_ rfl
  simp only [Tryd.ntmps26, List.size_toArray, List.length_cons, List.length_nil, Nat.reduceAdd, Nat.reduceSub, Array.replicate_succ, Array.replicate_zero, List.push_toArray, List.append_toArray, List.nil_append, List.cons_append]
  gi_wp2
  obtain ⟨Wa, hWa⟩ : ∃ Wa, (w.alloc (.cells #[.int .i64 k.size.x, .int .i64 k.size.y, .int .i64 k.dens.x, .int .i64 k.dens.y, .int .i64 k.strong.x, .int .i64 k.strong.y, .int .i64 k.spin.x, .int .i64 k.spin.y, .int .i64 k.shape.x, .int .i64 k.shape.y, .bool k.pile] 31)).alloc (.cells #[.int .i64 f.speed.x, .int .i64 f.speed.y, .int .i64 f.slope.x, .int .i64 f.slope.y] 33) = Wa := ⟨_, rfl⟩
  rw [hWa]
  have hsa : Wa.heap.size = w.heap.size + 1 + 1 := by rw [← hWa]; simp
  have hBa : Below w.heap.size w Wa := by rw [← hWa]; repeat' (first | (with_reducible exact Below.refl _ _) | (with_reducible assumption) | (with_reducible refine Ext.below _ ?_ ?_) | (with_reducible refine Below.on ?_ (by with_reducible assumption) ?_) | (with_reducible refine Below.alloc ?_ ?_ _) | (with_reducible refine Below.drew ?_) | (with_reducible refine Below.setCell ?_ ?_ _) | (with_reducible exact Nat.le_refl _) | omega | (simp; done) | (simp [go_sem]; done) | (simp at *; omega))
  have c0 : Wa.cell? ⟨w.heap.size, 0, none⟩ = some (.int .i64 k.size.x) := by rw [← hWa]; simp [go_sem]
  have c1 : Wa.cell? ⟨w.heap.size, 1, none⟩ = some (.int .i64 k.size.y) := by rw [← hWa]; simp [go_sem]
  have c2 : Wa.cell? ⟨w.heap.size, 2, none⟩ = some (.int .i64 k.dens.x) := by rw [← hWa]; simp [go_sem]
  have c3 : Wa.cell? ⟨w.heap.size, 3, none⟩ = some (.int .i64 k.dens.y) := by rw [← hWa]; simp [go_sem]
  have c4 : Wa.cell? ⟨w.heap.size, 4, none⟩ = some (.int .i64 k.strong.x) := by rw [← hWa]; simp [go_sem]
  have c5 : Wa.cell? ⟨w.heap.size, 5, none⟩ = some (.int .i64 k.strong.y) := by rw [← hWa]; simp [go_sem]
  have c6 : Wa.cell? ⟨w.heap.size, 6, none⟩ = some (.int .i64 k.spin.x) := by rw [← hWa]; simp [go_sem]
  have c7 : Wa.cell? ⟨w.heap.size, 7, none⟩ = some (.int .i64 k.spin.y) := by rw [← hWa]; simp [go_sem]
  have c8 : Wa.cell? ⟨w.heap.size, 8, none⟩ = some (.int .i64 k.shape.x) := by rw [← hWa]; simp [go_sem]
  have c9 : Wa.cell? ⟨w.heap.size, 9, none⟩ = some (.int .i64 k.shape.y) := by rw [← hWa]; simp [go_sem]
  have c10 : Wa.cell? ⟨w.heap.size, 10, none⟩ = some (.bool k.pile) := by rw [← hWa]; simp [go_sem]
  have d0 : Wa.cell? ⟨w.heap.size + 1, 0, none⟩ = some (.int .i64 f.speed.x) := by rw [← hWa]; simp [go_sem]
  have d1 : Wa.cell? ⟨w.heap.size + 1, 1, none⟩ = some (.int .i64 f.speed.y) := by rw [← hWa]; simp [go_sem]
  have d2 : Wa.cell? ⟨w.heap.size + 1, 2, none⟩ = some (.int .i64 f.slope.x) := by rw [← hWa]; simp [go_sem]
  have d3 : Wa.cell? ⟨w.heap.size + 1, 3, none⟩ = some (.int .i64 f.slope.y) := by rw [← hWa]; simp [go_sem]
  clear hWa
  have la : w.heap.size + 1 < Wa.heap.size := by omega
  have la0 : w.heap.size < Wa.heap.size := by omega
  refine ⟨trivial, (callsIn_wide.2 (ca Wa hBa)).mono ?_⟩
  rintro _ Wb ⟨rfl, hb⟩
  have hsb := hb.size
  replace c0 := (hb.cell (p := ⟨w.heap.size, 0, none⟩) la0).trans c0
  replace c1 := (hb.cell (p := ⟨w.heap.size, 1, none⟩) la0).trans c1
  replace c2 := (hb.cell (p := ⟨w.heap.size, 2, none⟩) la0).trans c2
  replace c3 := (hb.cell (p := ⟨w.heap.size, 3, none⟩) la0).trans c3
  replace c4 := (hb.cell (p := ⟨w.heap.size, 4, none⟩) la0).trans c4
  replace c5 := (hb.cell (p := ⟨w.heap.size, 5, none⟩) la0).trans c5
  replace c6 := (hb.cell (p := ⟨w.heap.size, 6, none⟩) la0).trans c6
  replace c7 := (hb.cell (p := ⟨w.heap.size, 7, none⟩) la0).trans c7
  replace c8 := (hb.cell (p := ⟨w.heap.size, 8, none⟩) la0).trans c8
  replace c9 := (hb.cell (p := ⟨w.heap.size, 9, none⟩) la0).trans c9
  replace c10 := (hb.cell (p := ⟨w.heap.size, 10, none⟩) la0).trans c10
  replace d0 := (hb.cell (p := ⟨w.heap.size + 1, 0, none⟩) la).trans d0
  replace d1 := (hb.cell (p := ⟨w.heap.size + 1, 1, none⟩) la).trans d1
  replace d2 := (hb.cell (p := ⟨w.heap.size + 1, 2, none⟩) la).trans d2
  replace d3 := (hb.cell (p := ⟨w.heap.size + 1, 3, none⟩) la).trans d3
  have hBb : Below w.heap.size w Wb := hBa.trans (hb.mono (by omega))
  have lb : w.heap.size + 1 < Wb.heap.size := by omega
  have lb0 : w.heap.size < Wb.heap.size := by omega
  clear hb
  gi_wp2
  refine ⟨trivial, (callsIn_wide.2 (cr Wb (hlim.on hBb))).mono ?_⟩
  rintro _ Wc ⟨rfl, hc⟩
  have hsc := hc.size
  replace c0 := (hc.cell (p := ⟨w.heap.size, 0, none⟩) lb0).trans c0
  replace c1 := (hc.cell (p := ⟨w.heap.size, 1, none⟩) lb0).trans c1
  replace c2 := (hc.cell (p := ⟨w.heap.size, 2, none⟩) lb0).trans c2
  replace c3 := (hc.cell (p := ⟨w.heap.size, 3, none⟩) lb0).trans c3
  replace c4 := (hc.cell (p := ⟨w.heap.size, 4, none⟩) lb0).trans c4
  replace c5 := (hc.cell (p := ⟨w.heap.size, 5, none⟩) lb0).trans c5
  replace c6 := (hc.cell (p := ⟨w.heap.size, 6, none⟩) lb0).trans c6
  replace c7 := (hc.cell (p := ⟨w.heap.size, 7, none⟩) lb0).trans c7
  replace c8 := (hc.cell (p := ⟨w.heap.size, 8, none⟩) lb0).trans c8
  replace c9 := (hc.cell (p := ⟨w.heap.size, 9, none⟩) lb0).trans c9
  replace c10 := (hc.cell (p := ⟨w.heap.size, 10, none⟩) lb0).trans c10
  replace d0 := (hc.cell (p := ⟨w.heap.size + 1, 0, none⟩) lb).trans d0
  replace d1 := (hc.cell (p := ⟨w.heap.size + 1, 1, none⟩) lb).trans d1
  replace d2 := (hc.cell (p := ⟨w.heap.size + 1, 2, none⟩) lb).trans d2
  replace d3 := (hc.cell (p := ⟨w.heap.size + 1, 3, none⟩) lb).trans d3
  have hBc : Below w.heap.size w Wc := hBb.trans (hc.mono (by omega))
  have lc : w.heap.size + 1 < Wc.heap.size := by omega
  have lc0 : w.heap.size < Wc.heap.size := by omega
  clear hc
  gi_wp2
  refine ⟨trivial, (callsIn_wide.2 (cbo l.length _)).mono ?_⟩
  rintro _ _ ⟨rfl, rfl⟩
  obtain ⟨LX, hLX⟩ : ∃ LX, Wc.heap.size = LX := ⟨_, rfl⟩
  simp only [World.size_alloc]
  obtain ⟨W0, hW0⟩ : ∃ W0, (((Wc.alloc (.cells #[.slice none 0 0] 64)).alloc (.cells #[.slice p l.length cap] 22)).alloc (.cells #[.int .i64 k.size.x, .int .i64 k.size.y, .int .i64 k.dens.x, .int .i64 k.dens.y, .int .i64 k.strong.x, .int .i64 k.strong.y, .int .i64 k.spin.x, .int .i64 k.spin.y, .int .i64 k.shape.x, .int .i64 k.shape.y, .bool k.pile] 31)).alloc (.cells #[.int .i64 f.speed.x, .int .i64 f.speed.y, .int .i64 f.slope.x, .int .i64 f.slope.y] 33) = W0 := ⟨_, rfl⟩
  rw [hW0]
  have hs0 : W0.heap.size = LX + 1 + 1 + 1 + 1 := by rw [← hW0, ← hLX]; simp
  have hB0 : Below w.heap.size w W0 := by rw [← hW0]; repeat' (first | (with_reducible exact Below.refl _ _) | (with_reducible assumption) | (with_reducible refine Ext.below _ ?_ ?_) | (with_reducible refine Below.on ?_ (by with_reducible assumption) ?_) | (with_reducible refine Below.alloc ?_ ?_ _) | (with_reducible refine Below.drew ?_) | (with_reducible refine Below.setCell ?_ ?_ _) | (with_reducible exact Nat.le_refl _) | omega | (simp; done) | (simp [go_sem]; done) | (simp at *; omega))
  have hbx : Boxed W0 LX 64 (.slice none 0 0) := by
    rw [← hW0, ← hLX]
    exact (((Boxed.new Wc 64 (.slice none 0 0)).alloc _).alloc _).alloc _
  have a0 : W0.cell? ⟨LX + 1, 0, none⟩ = some (.slice p l.length cap) := by rw [← hW0, ← hLX]; simp [go_sem]
  replace c0 : W0.cell? ⟨LX + 1 + 1, 0, none⟩ = some (.int .i64 k.size.x) := by rw [← hW0, ← hLX]; simp [go_sem]
  replace c1 : W0.cell? ⟨LX + 1 + 1, 1, none⟩ = some (.int .i64 k.size.y) := by rw [← hW0, ← hLX]; simp [go_sem]
  replace c2 : W0.cell? ⟨LX + 1 + 1, 2, none⟩ = some (.int .i64 k.dens.x) := by rw [← hW0, ← hLX]; simp [go_sem]
  replace c3 : W0.cell? ⟨LX + 1 + 1, 3, none⟩ = some (.int .i64 k.dens.y) := by rw [← hW0, ← hLX]; simp [go_sem]
  replace c4 : W0.cell? ⟨LX + 1 + 1, 4, none⟩ = some (.int .i64 k.strong.x) := by rw [← hW0, ← hLX]; simp [go_sem]
  replace c5 : W0.cell? ⟨LX + 1 + 1, 5, none⟩ = some (.int .i64 k.strong.y) := by rw [← hW0, ← hLX]; simp [go_sem]
  replace c6 : W0.cell? ⟨LX + 1 + 1, 6, none⟩ = some (.int .i64 k.spin.x) := by rw [← hW0, ← hLX]; simp [go_sem]
  replace c7 : W0.cell? ⟨LX + 1 + 1, 7, none⟩ = some (.int .i64 k.spin.y) := by rw [← hW0, ← hLX]; simp [go_sem]
  replace c8 : W0.cell? ⟨LX + 1 + 1, 8, none⟩ = some (.int .i64 k.shape.x) := by rw [← hW0, ← hLX]; simp [go_sem]
  replace c9 : W0.cell? ⟨LX + 1 + 1, 9, none⟩ = some (.int .i64 k.shape.y) := by rw [← hW0, ← hLX]; simp [go_sem]
  replace c10 : W0.cell? ⟨LX + 1 + 1, 10, none⟩ = some (.bool k.pile) := by rw [← hW0, ← hLX]; simp [go_sem]
  replace d0 : W0.cell? ⟨LX + 1 + 1 + 1, 0, none⟩ = some (.int .i64 f.speed.x) := by rw [← hW0, ← hLX]; simp [go_sem]
  replace d1 : W0.cell? ⟨LX + 1 + 1 + 1, 1, none⟩ = some (.int .i64 f.speed.y) := by rw [← hW0, ← hLX]; simp [go_sem]
  replace d2 : W0.cell? ⟨LX + 1 + 1 + 1, 2, none⟩ = some (.int .i64 f.slope.x) := by rw [← hW0, ← hLX]; simp [go_sem]
  replace d3 : W0.cell? ⟨LX + 1 + 1 + 1, 3, none⟩ = some (.int .i64 f.slope.y) := by rw [← hW0, ← hLX]; simp [go_sem]
  rw [hLX]
  clear hW0
  have hLw : w.heap.size ≤ LX := by omega
  clear hLX hsc hsb hBc hBb hBa lc lc0 lb lb0 la la0 hsa
  gi_wp2
  have hSeq := blows_seq 5 (by omega) (LX + 1) (LX + 1 + 1) (LX + 1 + 1 + 1) w.heap.size p cap l k f W0 (hlim.on hB0) hlim.lt (hv.on hB0) (fun A o h0 e => by obtain ⟨A', o', e', hA', -⟩ := hv 0 (by omega); rw [e] at e'; injection e' with e'; injection e' with e1 e2; omega) hl hair hs ht (by omega) a0 c0 c1 c2 c3 c4 c5 c6 c7 c8 c9 c10 d0 d1 d2 d3 (by omega) (by omega) (by omega)
  have hlast := blowsL_last (firstS k f) (lastS k f) l 0 ((firstS k f).speed * (firstS k f).speed) ((lastS k f).speed * (lastS k f).speed)
  generalize blowsL (firstS k f) (lastS k f) l 0 ((firstS k f).speed * (firstS k f).speed) ((lastS k f).speed * (lastS k f).speed) = L at *
  clear a0 c0 c1 c2 c3 c4 c5 c6 c7 c8 c9 c10 d0 d1 d2 d3 ca cr cbo hs ht hr ha hair
  have hsw : w.heap.size ≤ W0.heap.size := by omega
  refine wpIn_rangeFunc_cells (w := W0) (n := 6) rfl (by omega) (gf := 79) (lb := #[.pointer (some ⟨LX + 1, 0, none⟩), .pointer (some ⟨LX + 1 + 1, 0, none⟩), .pointer (some ⟨LX + 1 + 1 + 1, 0, none⟩)]) rfl trivial (enters_of Tryd.func79 (by kernel_rfl) rfl)
    hsw hSeq (Below.refl _ _) (fun _ => rfl)
    (fun B pre W => (Held LX B pre W ∧ ∀ x ∈ pre, x.all = false) ∧ Below w.heap.size w W)
    (fun c B pre W => ((c = .exit 0 ∧ w.heap.size ≤ B) ∧ Held LX B pre W ∧ ∃ (q : List BlowR) (x : BlowR), pre = q ++ [x] ∧ x.all = true ∧ ∀ y ∈ q, y.all = false) ∧ Below w.heap.size w W)
    (fun B => OwnFrom.and (fun s A C row hs hg hr => ⟨hs.1.other hg (fun r e => (hr r e).2), hs.2⟩) (ownFrom_below (Nat.le_refl _) hsw))
    (fun c B => OwnFrom.and (fun s A C row hs hg hr => ⟨hs.1, hs.2.1.other hg (fun r e => (hr r e).2), hs.2.2⟩) (ownFrom_below (Nat.le_refl _) hsw))
    (fun B s A C hs hk => ⟨⟨hs.1.1.kept hk (by omega), hs.1.2⟩, below_keptI hs.2 (by omega) hs.2.size hk⟩)
    (fun c B s A C hs hk => ⟨⟨hs.1.1, hs.1.2.1.kept hk (by omega), hs.1.2.2⟩, below_keptI hs.2 (by omega) hs.2.size hk⟩)
    (fun W' hW' => ⟨⟨⟨.slice none 0 0, (hW'.block LX hbx.lt).trans hbx, World.ownsRow_nil _ _ _ _⟩, by simp⟩, hB0.trans (hW'.mono hsw)⟩)
    (fun B x a' W => ∃ Bx : Nat, W0.heap.size ≤ Bx ∧ W.heap[Bx]? = some (.cells #[.int .i64 x.n, .int .i64 x.lo, .int .i64 x.hi] 70 (0, 0)) ∧ a' = { tmps := #[.slice p l.length cap, .agg #[.int .i64 k.size.x, .int .i64 k.size.y, .int .i64 k.dens.x, .int .i64 k.dens.y, .int .i64 k.strong.x, .int .i64 k.strong.y, .int .i64 k.spin.x, .int .i64 k.spin.y, .int .i64 k.shape.x, .int .i64 k.shape.y, .bool k.pile], .agg #[.int .i64 f.speed.x, .int .i64 f.speed.y, .int .i64 f.slope.x, .int .i64 f.slope.y], undef, .pointer (some ⟨w.heap.size, 0, none⟩), .pointer (some ⟨w.heap.size + 1, 0, none⟩), .slice none 0 0, .int .i64 0, .int .i64 0, .int .i64 0, .pointer (some ⟨LX, 0, none⟩), .pointer (some ⟨Bx, 0, none⟩), .bool x.all, .slice p l.length cap, .int .i64 0, .int .i64 0, .bool false, undef, .agg #[.int .i64 k.size.x, .int .i64 k.size.y, .int .i64 k.dens.x, .int .i64 k.dens.y, .int .i64 k.strong.x, .int .i64 k.strong.y, .int .i64 k.spin.x, .int .i64 k.spin.y, .int .i64 k.shape.x, .int .i64 k.shape.y, .bool k.pile], .agg #[.int .i64 f.speed.x, .int .i64 f.speed.y, .int .i64 f.slope.x, .int .i64 f.slope.y], .int .i64 0, .int .i64 0, .bool false, undef, .slice p l.length cap, .agg #[.int .i64 k.size.x, .int .i64 k.size.y, .int .i64 k.dens.x, .int .i64 k.dens.y, .int .i64 k.strong.x, .int .i64 k.strong.y, .int .i64 k.spin.x, .int .i64 k.spin.y, .int .i64 k.shape.x, .int .i64 k.shape.y, .bool k.pile], .agg #[.int .i64 f.speed.x, .int .i64 f.speed.y, .int .i64 f.slope.x, .int .i64 f.slope.y], .func (.func 79) #[] #[.pointer (some ⟨LX + 1, 0, none⟩), .pointer (some ⟨LX + 1 + 1, 0, none⟩), .pointer (some ⟨LX + 1 + 1 + 1, 0, none⟩)], .agg #[.int .i64 x.n, .int .i64 x.lo, .int .i64 x.hi], .bool x.all, undef, undef, undef, undef, undef, undef], defers := [] })
    ?hAx ?assign ?body ?done ?stop
  case hAx =>
    rintro B x a' s A C row ⟨Bx, h1, h2, h3⟩ hg hr
    exact ⟨Bx, h1, (hg.block Bx (Array.getElem?_eq_some_iff.1 h2).1 (fun e => by obtain ⟨o, ho, hn⟩ := (hr Bx e.symm).2; rw [h2] at ho; injection ho with ho; subst ho; cases hn)).trans h2, h3⟩
  case assign =>
    rintro lr B pre x W K hB1 hB2 ⟨⟨hh, hok⟩, hB⟩ hK
    replace hok := Go.Lib.hid hok
    obtain ⟨xn, xl, xh, xa⟩ := x
    dsimp only [BlowR.enc] at *
    gi_wp2
    exact hK _ (W.alloc (.cells #[.int .i64 xn, .int .i64 xl, .int .i64 xh] 70)) ((KeepsOthers.alloc _ _).from _) (KeepB.of ((Below.refl _ W).alloc (Nat.le_refl _) _)) ⟨⟨hh.alloc _, hok.out⟩, hB.alloc hB.size _⟩ ⟨W.heap.size, by omega, heap_alloc_new _ _, rfl⟩
  case body =>
    rintro lr B pre x a' W hlr ⟨r, hr⟩ hB1 hB2 ⟨⟨⟨v, hv1, hv2⟩, hok⟩, hB⟩ ⟨Bx, hBx, hrow, rfl⟩ hlen
    obtain ⟨xn, xl, xh, xa⟩ := x
    simp only at hrow
    obtain ⟨i0, hi0, hz0, hz1, hz2⟩ := info_parts blow_info
    have q0 := hv1.cell
    have b0 : W.cell? ⟨Bx, 0, none⟩ = some (.int .i64 xn) := (cell_of_row W _ 0 _ _ _ hrow).trans rfl
    have b1 : W.cell? ⟨Bx, 1, none⟩ = some (.int .i64 xl) := (cell_of_row W _ 1 _ _ _ hrow).trans rfl
    have b2 : W.cell? ⟨Bx, 2, none⟩ = some (.int .i64 xh) := (cell_of_row W _ 2 _ _ _ hrow).trans rfl
    have lLX := hv1.lt
    have lBx := row_lt hrow
    have sBW := hB.size
    have hbase : w.heap.size ≤ B := by omega
    have hLB : LX < B := by omega
    replace hok := Go.Lib.hid hok
    clear hr hSeq hlast hbx hv hlim
    have hfin : ∀ (w1 : World) (v' : Value), (W.alloc (.cells #[.int .i64 xn, .int .i64 xl, .int .i64 xh] 70)).grownBy w1 v.ownBlock → w1.ownsRow B 70 3 v' (pre.length + 1) (rowsB pre ++ [.int .i64 xn, .int .i64 xl, .int .i64 xh]) →
        Boxed w1 LX 64 v ∧ KeepsOthers W (w1.setCell ⟨LX, 0, none⟩ v') ∧ KeepB w.heap.size (W0.heap.size + 2) B W (w1.setCell ⟨LX, 0, none⟩ v') ∧ Held LX B (pre ++ [⟨xn, xl, xh, xa⟩]) (w1.setCell ⟨LX, 0, none⟩ v') ∧ Below w.heap.size w (w1.setCell ⟨LX, 0, none⟩ v') := fun w1 v' hgrow hown' => by
      obtain ⟨h3, h4, -, h6, h7⟩ := hv1.appended (by decide) (owns_base hv2 hbase) sBW hLw (owns_base hown' hbase) hgrow
      refine ⟨h3, h6, ⟨h7.size, fun k hk hn => ?_⟩, ⟨v', h4, by rw [rowsB_add, List.length_append, List.length_singleton]; exact row_put hown' hLB 0 v'⟩, hB.trans h7⟩
      by_cases hkw : k < w.heap.size
      · exact h7.block k hkw
      · have hk2 : W0.heap.size + 2 ≤ k ∧ k < B := by omega
        refine (blk_set w1 ⟨LX, 0, none⟩ v' k (by simp only; omega)).trans ((hgrow.block k (by simp; omega) (fun e => ?_)).trans (heap_alloc_old _ _ hk))
        have := hv2.lt k e.symm
        omega
    replace hfin := Go.Lib.hid hfin
    have hall : xa = false → Hid (∀ y ∈ pre ++ [(⟨xn, xl, xh, xa⟩ : BlowR)], y.all = false) := fun e => Go.Lib.hid fun y hy => by
      rcases List.mem_append.1 hy with h | h
      · exact hok.out y h
      · rw [List.mem_singleton.1 h]; exact e
    replace hall := Go.Lib.hid hall
    cases xa
    · gi_wp2_with (gi_at_builtin; refine wpListIn_append_own _ rfl _ _ 64 rfl B 70 i0 _ 3 24 Tryd.underlying64 hi0 hz0 hz1 hz2 rfl (by decide) v pre.length (rowsB pre) rfl (hv2.alloc _) ⟨W.heap.size, 0, none⟩ 1 1 [.int .i64 xn, .int .i64 xl, .int .i64 xh] rfl rfl (cells3_new _ _ _ _ _) (by intro u hu; simp only [List.mem_cons, List.not_mem_nil, or_false] at hu; rcases hu with rfl | rfl | rfl <;> rfl) (by unfold maxLen; omega) (by omega) (by simp only [World.size_alloc]; omega) ?_; intro v' w1 hown' hgrow _; obtain ⟨p6, c6, rfl⟩ := owns_form hown'; obtain ⟨f1, f2, f3, f4, f5⟩ := hfin.out w1 _ hgrow hown'; have g1 := f1.cell; have g2 := f1.frozen)
      rw [hs0] at f3
      exact ⟨f2.from _, f3, ⟨f4, (hall.out trivial).out⟩, f5⟩
    · gi_wp2_with (gi_at_builtin; refine wpListIn_append_own _ rfl _ _ 64 rfl B 70 i0 _ 3 24 Tryd.underlying64 hi0 hz0 hz1 hz2 rfl (by decide) v pre.length (rowsB pre) rfl (hv2.alloc _) ⟨W.heap.size, 0, none⟩ 1 1 [.int .i64 xn, .int .i64 xl, .int .i64 xh] rfl rfl (cells3_new _ _ _ _ _) (by intro u hu; simp only [List.mem_cons, List.not_mem_nil, or_false] at hu; rcases hu with rfl | rfl | rfl <;> rfl) (by unfold maxLen; omega) (by omega) (by simp only [World.size_alloc]; omega) ?_; intro v' w1 hown' hgrow _; obtain ⟨p6, c6, rfl⟩ := owns_form hown'; obtain ⟨f1, f2, f3, f4, f5⟩ := hfin.out w1 _ hgrow hown'; have g1 := f1.cell; have g2 := f1.frozen)
      exact ⟨f2.from _, ⟨⟨rfl, hbase⟩, f4, pre, _, rfl, rfl, hok.out⟩, f5⟩
  case done =>
    rintro D B xs W hD rfl ⟨⟨hh, hok⟩, hB⟩ hK
    obtain ⟨x, hx, hb⟩ := hlast
    rw [hok x hx] at hb
    cases hb
  case stop =>
    rintro D c B pre W hD hpre ⟨⟨⟨rfl, hwB⟩, ⟨v, hv1, hv2⟩, q, x, rfl, hx, hq⟩, hBw⟩ hK
    have q0 := hv1.cell
    have lLX := hv1.lt
    have hth := Go.Lib.hid (thru_of q x L hpre hq hx)
    have hv3 : W.ownsRow w.heap.size 70 3 v (q ++ [x]).length (rowsB (q ++ [x])) := owns_base hv2 hwB
    replace hv3 := Go.Lib.hid hv3
    clear hlast hSeq hbx hv2 hpre hq hx
    obtain ⟨p6, c6, rfl⟩ := owns_form hv3.out
    gi_wp2
    refine ⟨by simp, .inl ⟨_, _, rfl, run_takeDeferred hK, ?_⟩⟩
    refine ⟨.tuple #[.slice p6 (q.length + 1) c6, .int .i64 0], by simp [results, Tryd.f26, go_sem], ?_⟩
    refine ⟨_, rfl, hBw.trans (belowK_b (w := w) (Nat.le_refl _) W D _ _ (by omega) hK rfl rfl), ?_⟩
    rw [hth.out]
    have h9 := row_other hv3.out (grownBy_putObj' W D (.deferred none)) (fun r e => by cases e; exact ⟨_, hK, rfl⟩)
    simpa using h9
end Go.Proofs.YtlmhbggigbmeaaaDoor

/- Over of package force for any arguments. Condition: the cells that are read, a slice within its capacity. -/
import Derived.Test.YtlhihmfefipehaaFoP
import Derived.Test.YtlhihmfefipehaaFoJ
import Derived.Test.YtlhihmfefipehaaRight
namespace Go.Proofs.Ytlhihmfefipehaa
open Go.RowKit Go.Shelf
attribute [local go_sem] Oper.semAt_some
attribute [local go_sem] Option.isSome_some Ext.cell Ext.frozen Ext.lt Ext.le Ext.lt_add Ext.le_add Ext.ne Ext.ne' lt2 lt3 lt4 lt5 le2 le3 le4
set_option maxRecDepth 100000
set_option maxHeartbeats 8000000
def gasA (g : Int) : A4 := ⟨-g, g, -g, g⟩
/-- What a body adds. -/
def stepP (f : DriftR) (s : A4) (x : PullX) : A4 := if x.i = 0 then addA (addA (addA s x.r) (lightA f.ll f.lh x.r)) (heatA f.hl f.hh x.r) else addA s x.r
noncomputable def overA (l : List BodyR) (f : DriftR) (t a b c d : Int) : A4 := (pullsL l t a b c d).foldl (stepP f) (gasA f.gas)
noncomputable def overR (l : List BodyR) (h : Int) (f : DriftR) (t a b c d : Int) : A4 := if askE l h (driftE f) t a b c d = 0 then overA l f t a b c d else ⟨0, 0, 0, 0⟩
theorem step_in {f : DriftR} {s : A4} {x : PullX} {m : Int} (hs : s.In m) (hd : driftE f = 0) : (stepP f s x).In (m + 3145728) := by
  obtain ⟨h1, h2, h3⟩ := drift_ok hd
  unfold stepP
  have k1 := addA_in hs x.ok.in
  split
  · have k2 := addA_in (addA_in k1 (lightA_ok (a := f.ll) (b := f.lh) (by omega) (by omega) (by omega) x.ok).in) (heatA_ok (a := f.hl) (b := f.hh) (by omega) (by omega) (by omega) x.ok).in
    exact k2.mono (by omega)
  · exact k1.mono (by omega)
theorem gas_in {f : DriftR} (hd : driftE f = 0) : (gasA f.gas).In 1000 := by
  obtain ⟨h1, h2, h3⟩ := drift_ok hd
  unfold gasA
  exact ⟨by simp only; omega, by simp only; omega, by simp only; omega, by simp only; omega, by simp only; omega, by simp only; omega⟩
theorem fold_in {f : DriftR} (hd : driftE f = 0) : ∀ (xs : List PullX) (s : A4) (m : Int), s.In m → (xs.foldl (stepP f) s).In (m + 3145728 * xs.length)
  | [], s, m, hs => hs.mono (by simp)
  | x :: xs, s, m, hs => by
    rw [List.foldl_cons]
    have := fold_in hd xs (stepP f s x) _ (step_in (x := x) hs hd)
    exact this.mono (by simp only [List.length_cons]; omega)
theorem belowXK_b {n₀ g : Nat} {w : World} (hn : n₀ ≤ w.heap.size) (W : World) (l : Nat) (o o' : Obj) (hl : w.heap.size ≤ l) (h : W.heap[l]? = some o) (h1 : o.isCells = false) (h2 : o.isWalk = false) : BelowX g n₀ W (W.putObj l o') := .of (belowK_b hn W l o o' hl h h1 h2)
theorem ownFrom_row {β : Type} {B g : Nat} (hg : g < B) (f : β → Obj) : OwnFrom B (fun s W => W.heap[g]? = some (f s)) := fun s X Y row hs hgr hr =>
  (hgr.block g (Array.getElem?_eq_some_iff.1 hs).1 (fun e => by have := (hr g e.symm).1; omega)).trans hs
theorem ownFrom_belowX {β : Type} {n₀ B g : Nat} {w₀ : World} (hn : n₀ ≤ w₀.heap.size) (hB : n₀ ≤ B) : OwnFrom B (fun (_ : β) W => BelowX g n₀ w₀ W) := fun _ X Y row hs hg hr =>
  ⟨hg.os.trans hs.os, hg.tape.trans hs.tape, hg.output.trans hs.output, Nat.le_trans hs.size hg.size, fun k hk hkg => (hg.block k (by have := hs.size; omega) (fun e => by have := (hr k e.symm).1; omega)).trans (hs.block k hk hkg)⟩
theorem row_kept {A B : World} {row : Option Nat} {g : Nat} {cs : Array Value} {T : TypeId} {fr : Nat × Nat} (h : A.heap[g]? = some (.cells cs T fr)) (hg : A.grownBy B row) (hr : ∀ r, row = some r → ∃ o : Obj, A.heap[r]? = some o ∧ o.isCells = false) : B.heap[g]? = some (.cells cs T fr) :=
  (hg.block g (Array.getElem?_eq_some_iff.1 h).1 (fun e => by obtain ⟨o, ho, hc⟩ := hr g e.symm; rw [h] at ho; cases ho; cases hc)).trans h
theorem a4s_row {W : World} {rs : List A4} {g : Nat} {T : TypeId} {cs : Array Value} (h : W.heap[g]? = some (.cells cs T (0, 0))) (hc : ∀ j (hj : j < rs.length), cs[j * 4]? = some (.int .i64 rs[j].xl) ∧ cs[j * 4 + 1]? = some (.int .i64 rs[j].xh) ∧ cs[j * 4 + 2]? = some (.int .i64 rs[j].yl) ∧ cs[j * 4 + 3]? = some (.int .i64 rs[j].yh)) : A4s W (some ⟨g, 0, none⟩) rs := fun j hj => by
  obtain ⟨h1, h2, h3, h4⟩ := hc j hj
  exact ⟨g, 0, rfl, row_ltQ h, by rw [Nat.zero_add]; exact (cell_of_row W g _ _ _ _ h).trans h1, by rw [Nat.zero_add]; exact (cell_of_row W g _ _ _ _ h).trans h2, by rw [Nat.zero_add]; exact (cell_of_row W g _ _ _ _ h).trans h3, by rw [Nat.zero_add]; exact (cell_of_row W g _ _ _ _ h).trans h4⟩
theorem a4s_three (W : World) (q r s : A4) : A4s (W.alloc (.cells #[.int .i64 q.xl, .int .i64 q.xh, .int .i64 q.yl, .int .i64 q.yh, .int .i64 r.xl, .int .i64 r.xh, .int .i64 r.yl, .int .i64 r.yh, .int .i64 s.xl, .int .i64 s.xh, .int .i64 s.yl, .int .i64 s.yh] 33)) (some ⟨W.heap.size, 0, none⟩) [q, r, s] :=
  a4s_row (heap_alloc_new _ _) (by
    intro j hj
    rcases j with _ | _ | _ | j
    · exact ⟨rfl, rfl, rfl, rfl⟩
    · exact ⟨rfl, rfl, rfl, rfl⟩
    · exact ⟨rfl, rfl, rfl, rfl⟩
    · simp at hj; omega)
theorem a4s_two (W : World) (q r : A4) : A4s (W.alloc (.cells #[.int .i64 q.xl, .int .i64 q.xh, .int .i64 q.yl, .int .i64 q.yh, .int .i64 r.xl, .int .i64 r.xh, .int .i64 r.yl, .int .i64 r.yh] 33)) (some ⟨W.heap.size, 0, none⟩) [q, r] :=
  a4s_row (heap_alloc_new _ _) (by
    intro j hj
    rcases j with _ | _ | j
    · exact ⟨rfl, rfl, rfl, rfl⟩
    · exact ⟨rfl, rfl, rfl, rfl⟩
    · simp at hj; omega)
/-- A box of four cells, written whole. -/
def set4 (W : World) (g : Nat) (u : A4) : World := (((W.setCell ⟨g, 0, none⟩ (.int .i64 u.xl)).setCell ⟨g, 1, none⟩ (.int .i64 u.xh)).setCell ⟨g, 2, none⟩ (.int .i64 u.yl)).setCell ⟨g, 3, none⟩ (.int .i64 u.yh)
theorem set4_row {W : World} {g : Nat} {a b c d : Value} {T : TypeId} {fr : Nat × Nat} (h : W.heap[g]? = some (.cells #[a, b, c, d] T fr)) (u : A4) : (set4 W g u).heap[g]? = some (.cells #[.int .i64 u.xl, .int .i64 u.xh, .int .i64 u.yl, .int .i64 u.yh] T fr) := by
  have h1 := heap_setCellI (heap_setCellI (heap_setCellI (heap_setCellI h (o := 0) (.int .i64 u.xl)) (o := 1) (.int .i64 u.xh)) (o := 2) (.int .i64 u.yl)) (o := 3) (.int .i64 u.yh)
  unfold set4
  simpa only [List.setIfInBounds_toArray, List.set_cons_zero, List.set_cons_succ] using h1
theorem set4_belowX {W w : World} {g n : Nat} (h : BelowX g n w W) (u : A4) : BelowX g n w (set4 W g u) := (((h.ring 0 _).ring 1 _).ring 2 _).ring 3 _
theorem set4_below {W w : World} {g n : Nat} (h : Below n w W) (hg : n ≤ g) (u : A4) : Below n w (set4 W g u) := (((h.setCell hg _).setCell hg _).setCell hg _).setCell hg _
theorem set4_keeps {W w : World} {g : Nat} (h : KeepsOthers w W) (u : A4) : KeepsOthers w (set4 W g u) := (((h.trans (KeepsOthers.setCell _ _ _)).trans (KeepsOthers.setCell _ _ _)).trans (KeepsOthers.setCell _ _ _)).trans (KeepsOthers.setCell _ _ _)
theorem set4_size (W : World) (g : Nat) (u : A4) : (set4 W g u).heap.size = W.heap.size := by unfold set4; simp
theorem set4_other {W : World} {g k : Nat} (h : k ≠ g) (u : A4) : (set4 W g u).heap[k]? = W.heap[k]? := by
  unfold set4
  rw [heap_setCellQ h, heap_setCellQ h, heap_setCellQ h, heap_setCellQ h]
theorem wp_namedIn {c : Code} {F : Fence} {n : Nat} {P : Program} {Q : Exit → Act → World → Prop} {a : Act} {w : World} (h : ∀ W0, w = W0 → c.wpIn F n P Q a W0) : c.wpIn F n P Q a w := h w rfl
theorem Over_any (p : Option Addr) (cp : Nat) (l : List BodyR) (h : Int) (f : DriftR) (t a b c d : Int) (w : World) (hP : BodiesAt w p l) (hc : l.length ≤ cp) :
    Calls Try.prog 16 #[.agg #[.slice p l.length cp, .int .i64 h], .agg #[.int .i64 f.ll, .int .i64 f.lh, .int .i64 f.hl, .int .i64 f.hh, .int .i64 f.gas], .int .i64 t, .agg #[.int .i64 a, .int .i64 b, .int .i64 c, .int .i64 d]] w
      (Gives (.tuple #[(overR l h f t a b c d).val, .int .i64 (askE l h (driftE f) t a b c d)]) w) := by
  have cc := fun (W : World) (y : Below w.heap.size w W) => check_any p cp l h f t a b c d W (hP.on y)
  by_cases hE : askE l h (driftE f) t a b c d = 0
  · obtain ⟨ok, hd⟩ := ask_ok hE
    obtain ⟨h1, h2, h3⟩ := drift_ok hd
    have e2 : overR l h f t a b c d = overA l f t a b c d := by unfold overR; rw [if_pos hE]
    rw [e2, hE]
    rw [hE] at cc
    have cg := fun (W : World) => gas_any f.gas W h3.1 h3.2
    refine (callsIn_wide (n := 6)).1 ?_
    refine callsIn_of_wp_marks Try.func16 rfl trivial ?_ rfl
    simp only [Try.ntmps16, List.size_toArray, List.length_cons, List.length_nil, Nat.reduceAdd, Nat.reduceSub, Array.replicate_succ, Array.replicate_zero, List.push_toArray, List.append_toArray, List.nil_append, List.cons_append]
    gi_wp2_with (first
      | (refine ⟨trivial, ?_⟩; gi_at_call 42; refine (callsIn_wide.2 (Calls.giv (cc _ bcl))).mono ?_; rintro _ _ ⟨y1, rfl, rfl⟩; have sy1 := y1.size; simp only [World.size_alloc] at sy1; have : w.heap.size < y1.now.heap.size := (by omega); have : w.heap.size < y1.now.heap.size + 1 := (by omega); have : w.heap.size + 1 < y1.now.heap.size := (by omega); have : w.heap.size + 1 < y1.now.heap.size + 1 := (by omega); have : w.heap.size + 1 + 1 < y1.now.heap.size := (by omega); have : w.heap.size + 1 + 1 < y1.now.heap.size + 1 := (by omega); have : w.heap.size + 1 + 1 + 1 < y1.now.heap.size := (by omega); have : w.heap.size + 1 + 1 + 1 < y1.now.heap.size + 1 := (by omega))
      | (refine ⟨trivial, ?_⟩; gi_at_call 45; refine (callsIn_wide.2 (Calls.giv (cg _))).mono ?_; rintro _ _ ⟨y2, rfl, rfl⟩; have sy2 := y2.size; have : w.heap.size < y2.now.heap.size := (by omega); have : w.heap.size < y2.now.heap.size + 1 := (by omega); have : w.heap.size + 1 < y2.now.heap.size := (by omega); have : w.heap.size + 1 < y2.now.heap.size + 1 := (by omega); have : w.heap.size + 1 + 1 < y2.now.heap.size := (by omega); have : w.heap.size + 1 + 1 < y2.now.heap.size + 1 := (by omega); have : w.heap.size + 1 + 1 + 1 < y2.now.heap.size := (by omega); have : w.heap.size + 1 + 1 + 1 < y2.now.heap.size + 1 := (by omega))
      | (refine ⟨trivial, ?_⟩; gi_at_call 46; refine (callsIn_wide.2 (pulls_any p l.length cp h t a b c d _)).mono ?_; rintro _ _ ⟨rfl, rfl⟩))
    refine wp_namedIn (fun W0 hW => ?_)
    have sG : w.heap.size + 1 + 1 + 1 < y2.now.heap.size := by omega
    have hb2 : Below w.heap.size w y2.now := by repeat' (first | (with_reducible exact Below.refl _ _) | (with_reducible assumption) | (with_reducible refine Ext.below _ ?_ ?_) | (with_reducible refine Below.on ?_ (by with_reducible assumption) ?_) | (with_reducible refine Below.alloc ?_ ?_ _) | (with_reducible refine Below.drew ?_) | (with_reducible refine Below.setCell ?_ ?_ _) | (with_reducible exact Nat.le_refl _) | omega | (simp; done) | (simp [go_sem]; done) | (simp at *; omega))
    have hB0 : Below w.heap.size w W0 := by rw [← hW]; exact (((hb2.alloc (by omega) _).alloc (by simp only [World.size_alloc]; omega) _).alloc (by simp only [World.size_alloc]; omega) _).alloc (by simp only [World.size_alloc]; omega) _
    have al : W0.heap[y2.now.heap.size]? = some (.cells #[.int .i64 (-f.gas), .int .i64 f.gas, .int .i64 (-f.gas), .int .i64 f.gas] 33 (0, 0)) := by
      rw [← hW]
      refine (heap_alloc_old _ _ (by simp only [World.size_alloc]; omega)).trans ((heap_alloc_old _ _ (by simp only [World.size_alloc]; omega)).trans ((heap_alloc_old _ _ (by simp only [World.size_alloc]; omega)).trans (heap_alloc_new _ _)))
    have w0' : W0.cell? ⟨y2.now.heap.size + 1, 0, none⟩ = some (.slice p l.length cp) := by rw [← hW]; simp [go_sem]
    have w1' : W0.cell? ⟨y2.now.heap.size + 1, 1, none⟩ = some (.int .i64 h) := by rw [← hW]; simp [go_sem]
    have t0' : W0.cell? ⟨y2.now.heap.size + 1 + 1, 0, none⟩ = some (.int .i64 t) := by rw [← hW]; simp [go_sem]
    have a0' : W0.cell? ⟨y2.now.heap.size + 1 + 1 + 1, 0, none⟩ = some (.int .i64 a) := by rw [← hW]; simp [go_sem]
    have a1' : W0.cell? ⟨y2.now.heap.size + 1 + 1 + 1, 1, none⟩ = some (.int .i64 b) := by rw [← hW]; simp [go_sem]
    have a2' : W0.cell? ⟨y2.now.heap.size + 1 + 1 + 1, 2, none⟩ = some (.int .i64 c) := by rw [← hW]; simp [go_sem]
    have a3' : W0.cell? ⟨y2.now.heap.size + 1 + 1 + 1, 3, none⟩ = some (.int .i64 d) := by rw [← hW]; simp [go_sem]
    have hcell : ∀ B o, B < w.heap.size + 1 + 1 + 1 + 1 → W0.cell? ⟨B, o, none⟩ = y2.now.cell? ⟨B, o, none⟩ := fun B o hB => by
      rw [← hW]
      have hy := (((Below.refl y2.now.heap.size y2.now).alloc (Nat.le_refl _) (.cells #[.int .i64 (-f.gas), .int .i64 f.gas, .int .i64 (-f.gas), .int .i64 f.gas] 33)))
      exact ((((hy.alloc (by simp only [World.size_alloc]; omega) _).alloc (by simp only [World.size_alloc]; omega) _).alloc (by simp only [World.size_alloc]; omega) _).cell (p := ⟨B, o, none⟩) (by simp only; omega))
    have hblk : ∀ B, B < w.heap.size + 1 + 1 + 1 + 1 → W0.heap[B]? = y2.now.heap[B]? := fun B hB => by
      rw [← hW]
      have hy := (((Below.refl y2.now.heap.size y2.now).alloc (Nat.le_refl _) (.cells #[.int .i64 (-f.gas), .int .i64 f.gas, .int .i64 (-f.gas), .int .i64 f.gas] 33)))
      exact ((((hy.alloc (by simp only [World.size_alloc]; omega) _).alloc (by simp only [World.size_alloc]; omega) _).alloc (by simp only [World.size_alloc]; omega) _).block B (by omega))
    have sW : W0.heap.size = y2.now.heap.size + 1 + 1 + 1 + 1 := by rw [← hW]; simp
    clear hW
    have d0' : W0.cell? ⟨w.heap.size + 1, 0, none⟩ = some (.int .i64 f.ll) := (hcell _ _ (by omega)).trans ((y2.cell (o := 0) (show w.heap.size + 1 < y1.now.heap.size by omega)).trans ((y1.cell (o := 0) (by simp)).trans (by simp [go_sem])))
    have d1' : W0.cell? ⟨w.heap.size + 1, 1, none⟩ = some (.int .i64 f.lh) := (hcell _ _ (by omega)).trans ((y2.cell (o := 1) (show w.heap.size + 1 < y1.now.heap.size by omega)).trans ((y1.cell (o := 1) (by simp)).trans (by simp [go_sem])))
    have d2' : W0.cell? ⟨w.heap.size + 1, 2, none⟩ = some (.int .i64 f.hl) := (hcell _ _ (by omega)).trans ((y2.cell (o := 2) (show w.heap.size + 1 < y1.now.heap.size by omega)).trans ((y1.cell (o := 2) (by simp)).trans (by simp [go_sem])))
    have d3' : W0.cell? ⟨w.heap.size + 1, 3, none⟩ = some (.int .i64 f.hh) := (hcell _ _ (by omega)).trans ((y2.cell (o := 3) (show w.heap.size + 1 < y1.now.heap.size by omega)).trans ((y1.cell (o := 3) (by simp)).trans (by simp [go_sem])))
    have d4' : W0.cell? ⟨w.heap.size + 1, 4, none⟩ = some (.int .i64 f.gas) := (hcell _ _ (by omega)).trans ((y2.cell (o := 4) (show w.heap.size + 1 < y1.now.heap.size by omega)).trans ((y1.cell (o := 4) (by simp)).trans (by simp [go_sem])))
    have rR : W0.heap[w.heap.size + 1 + 1 + 1]? = some (.cells #[.int .i64 0, .int .i64 0, .int .i64 0, .int .i64 0] 33 (0, 0)) := by
      refine (hblk _ (by omega)).trans ((y2.grew.block _ (show w.heap.size + 1 + 1 + 1 < y1.now.heap.size by omega)).trans ((y1.grew.block _ (by simp)).trans ?_))
      have h9 := heap_alloc_new (((w.alloc (.cells #[.slice p l.length cp, .int .i64 h] 25)).alloc (.cells #[.int .i64 f.ll, .int .i64 f.lh, .int .i64 f.hl, .int .i64 f.hh, .int .i64 f.gas] 31)).alloc (.cells #[.int .i64 a, .int .i64 b, .int .i64 c, .int .i64 d] 33)) (.cells #[.int .i64 0, .int .i64 0, .int .i64 0, .int .i64 0] 33)
      simpa only [World.size_alloc] using h9
    have nGD : w.heap.size + 1 ≠ y2.now.heap.size := by omega
    have nGR : w.heap.size + 1 + 1 + 1 ≠ y2.now.heap.size := by omega
    have lwG : w.heap.size ≤ y2.now.heap.size := by omega
    have lD0 : w.heap.size + 1 < W0.heap.size := by omega
    have lR0 : w.heap.size + 1 + 1 + 1 < W0.heap.size := by omega
    have hPk : ∀ W', BelowX y2.now.heap.size W0.heap.size W0 W' → BodiesAt W' p l := fun W' hk => by
      have hP0 := hP.on hB0
      refine hP.on ⟨hk.os.trans hB0.os, hk.tape.trans hB0.tape, hk.output.trans hB0.output, Nat.le_trans hB0.size hk.size, fun k hkk => ?_⟩
      exact (hk.block k (by have := hB0.size; omega) (by omega)).trans (hB0.block k hkk)
    clear hcell hblk cc cg sy1 sy2 hb2
    (repeat clear this)
    generalize y2.now.heap.size = GB at *
    clear y2 y1
    refine wpIn_rangeFunc_ownH (w := W0) (a := _) rfl (by omega) (gf := 76) (lb := #[.pointer (some ⟨GB + 1, 0, none⟩), .pointer (some ⟨GB + 1 + 1, 0, none⟩), .pointer (some ⟨GB + 1 + 1 + 1, 0, none⟩)]) rfl trivial (enters_of Try.func76 (by kernel_rfl) rfl)
      (pulls1_seq 5 (by omega) GB (GB + 1) (GB + 1 + 1) (GB + 1 + 1 + 1) p cp l h t a b c d W0 hPk (by omega) (by omega) (by omega) hc ok w0' w1' t0' a0' a1' a2' a3' (by omega) (by omega) (by omega))
      (fun h k => h.trans k) (belowXK_b (by omega)) (Below.refl _ _) (fun _ => rfl)
      (fun (pre : List PullX) W => W.heap[GB]? = some (.cells #[.int .i64 (pre.foldl (stepP f) (gasA f.gas)).xl, .int .i64 (pre.foldl (stepP f) (gasA f.gas)).xh, .int .i64 (pre.foldl (stepP f) (gasA f.gas)).yl, .int .i64 (pre.foldl (stepP f) (gasA f.gas)).yh] 33 (0, 0)) ∧ BelowX GB W0.heap.size W0 W)
      (fun _ _ _ => False)
      (OwnFrom.and (ownFrom_row (show GB < W0.heap.size by omega) (fun (pre : List PullX) => .cells #[.int .i64 (pre.foldl (stepP f) (gasA f.gas)).xl, .int .i64 (pre.foldl (stepP f) (gasA f.gas)).xh, .int .i64 (pre.foldl (stepP f) (gasA f.gas)).yl, .int .i64 (pre.foldl (stepP f) (gasA f.gas)).yh] 33 (0, 0))) (ownFrom_belowX (Nat.le_refl _) (Nat.le_refl _)))
      (fun _ => fun _ _ _ _ h _ _ => h)
      ⟨al, BelowX.refl _ _ _⟩
      (fun x a' W => ∃ Bx : Nat, W0.heap.size ≤ Bx ∧ Bx < W.heap.size ∧ W.heap[Bx]? = some (.cells #[.int .i64 x.r.xl, .int .i64 x.r.xh, .int .i64 x.r.yl, .int .i64 x.r.yh] 33 (0, 0)) ∧ a' = { tmps := #[.agg #[.slice p l.length cp, .int .i64 h], .agg #[.int .i64 f.ll, .int .i64 f.lh, .int .i64 f.hl, .int .i64 f.hh, .int .i64 f.gas], .int .i64 t, .agg #[.int .i64 a, .int .i64 b, .int .i64 c, .int .i64 d], .pointer (some ⟨w.heap.size, 0, none⟩), .pointer (some ⟨w.heap.size + 1, 0, none⟩), undef, .pointer (some ⟨w.heap.size + 1 + 1, 0, none⟩), .pointer (some ⟨w.heap.size + 1 + 1 + 1, 0, none⟩), .int .i64 0, .int .i64 0, .pointer (some ⟨GB, 0, none⟩), .int .i64 x.i, .pointer (some ⟨Bx, 0, none⟩), .agg #[.slice p l.length cp, .int .i64 h], .agg #[.int .i64 f.ll, .int .i64 f.lh, .int .i64 f.hl, .int .i64 f.hh, .int .i64 f.gas], .int .i64 t, .agg #[.int .i64 a, .int .i64 b, .int .i64 c, .int .i64 d], .int .i64 0, .int .i64 0, .bool false, undef, undef, .pointer (some ⟨w.heap.size + 1, 4, none⟩), .int .i64 f.gas, .agg #[.int .i64 (-f.gas), .int .i64 f.gas, .int .i64 (-f.gas), .int .i64 f.gas], .agg #[.slice p l.length cp, .int .i64 h], .int .i64 t, .agg #[.int .i64 a, .int .i64 b, .int .i64 c, .int .i64 d], .func (.func 76) #[] #[.pointer (some ⟨GB + 1, 0, none⟩), .pointer (some ⟨GB + 1 + 1, 0, none⟩), .pointer (some ⟨GB + 1 + 1 + 1, 0, none⟩)], .int .i64 x.i, .agg #[.int .i64 x.r.xl, .int .i64 x.r.xh, .int .i64 x.r.yl, .int .i64 x.r.yh], undef, undef, undef, undef, undef, undef, undef, undef, undef, undef, undef, undef, undef, undef, undef, undef, undef, undef], defers := [] })
      ?hAx ?assign ?body ?done ?stop
    case hAx =>
      rintro x a' s A B row ⟨Bx, h1, h2, h3, h5⟩ hg hr
      exact ⟨Bx, h1, Nat.lt_of_lt_of_le h2 hg.size, row_kept h3 hg (fun r e => (hr r e).2), h5⟩
    case assign =>
      rintro lr pre x W K ⟨hall, hB⟩ hK
      have hall := Go.Lib.hid hall
      unfold encP
      simp only [List.zip_toArray, List.zip_cons_cons, List.zip_nil_right, List.foldl_toArray, List.foldl_cons, List.foldl_nil, List.setIfInBounds_toArray, List.set_cons_succ, List.set_cons_zero]
      gi_wp2
      exact hK _ _ ((KeepsOthers.alloc _ _).from _) (.of ((Below.refl _ W).alloc hB.size _)) ⟨(heap_alloc_old _ _ (row_ltQ hall.out)).trans hall.out, hB.alloc hB.size _⟩ ⟨W.heap.size, hB.size, by simp, heap_alloc_new _ _, rfl⟩
    case body =>
      rintro lr pre x a' W hl ⟨r, hr⟩ ⟨hall, hB⟩ ⟨Bx, hBx, hlt, hxr, rfl⟩ hlen
      have h8 : l.length ≤ 8 := (worldE_zero ok.world).2.2.1
      have hsI := (fold_in hd pre (gasA f.gas) _ (gas_in hd)).mono (n := 100000000) (by omega)
      have hcons : (pre ++ [x]).foldl (stepP f) (gasA f.gas) = stepP f (pre.foldl (stepP f) (gasA f.gas)) x := by rw [List.foldl_append]; rfl
      have hxI := x.ok.in.mono (n := 1000000000) (by omega)
      have hlx := lightA_ok (a := f.ll) (b := f.lh) (p := x.r) (by omega) (by omega) (by omega) x.ok
      have hhx := heatA_ok (a := f.hl) (b := f.hh) (p := x.r) (by omega) (by omega) (by omega) x.ok
      have cL := fun W => light_any f.ll f.lh x.r W (by omega) (by omega) (by omega) x.ok
      have cH := fun W => heat_any f.hl f.hh x.r W (by omega) (by omega) (by omega) x.ok
      generalize pre.foldl (stepP f) (gasA f.gas) = s at *
      have g0 : W.cell? ⟨GB, 0, none⟩ = some (.int .i64 s.xl) := (cell_of_row _ _ 0 _ _ _ hall).trans rfl
      have g1 : W.cell? ⟨GB, 1, none⟩ = some (.int .i64 s.xh) := (cell_of_row _ _ 1 _ _ _ hall).trans rfl
      have g2 : W.cell? ⟨GB, 2, none⟩ = some (.int .i64 s.yl) := (cell_of_row _ _ 2 _ _ _ hall).trans rfl
      have g3 : W.cell? ⟨GB, 3, none⟩ = some (.int .i64 s.yh) := (cell_of_row _ _ 3 _ _ _ hall).trans rfl
      have k0 : W.frozen? ⟨GB, 0, none⟩ = false := frozen_rowQ hall
      have k1 : W.frozen? ⟨GB, 1, none⟩ = false := frozen_rowQ hall
      have k2 : W.frozen? ⟨GB, 2, none⟩ = false := frozen_rowQ hall
      have k3 : W.frozen? ⟨GB, 3, none⟩ = false := frozen_rowQ hall
      have x0 : W.cell? ⟨Bx, 0, none⟩ = some (.int .i64 x.r.xl) := (cell_of_row _ _ 0 _ _ _ hxr).trans rfl
      have x1 : W.cell? ⟨Bx, 1, none⟩ = some (.int .i64 x.r.xh) := (cell_of_row _ _ 1 _ _ _ hxr).trans rfl
      have x2 : W.cell? ⟨Bx, 2, none⟩ = some (.int .i64 x.r.yl) := (cell_of_row _ _ 2 _ _ _ hxr).trans rfl
      have x3 : W.cell? ⟨Bx, 3, none⟩ = some (.int .i64 x.r.yh) := (cell_of_row _ _ 3 _ _ _ hxr).trans rfl
      have lG := row_ltQ hall
      clear ok hP hPk hc rR w0' w1' t0' a0' a1' a2' a3' al hr hl hlen
      have hsum : sumA ⟨0, 0, 0, 0⟩ [s, x.r] = addA s x.r := by simp only [sumA, zero_add]
      have cS := fun (Wk : World) (hA : A4s Wk (some ⟨W.heap.size, 0, none⟩) [s, x.r]) => sum2_any (some ⟨W.heap.size, 0, none⟩) 2 s x.r Wk hA (hsI.mono (by omega)) hxI
      rw [hsum] at cS
      have hu := addA_in hsI x.ok.in
      unfold A4.val at cS
      generalize hu0 : addA s x.r = u at *
      have hy0 : ∀ {ob : Obj} (y : Ext (W.alloc ob)), Below W.heap.size W y.now := fun y => ((Below.refl _ _).alloc (Nat.le_refl _) _).trans (y.grew.mono (by simp))
      by_cases hi : x.i = 0
      · have hi0 : ((x.i : Int) == 0) = true := by simp [hi]
        have hst : stepP f s x = addA (addA u (lightA f.ll f.lh x.r)) (heatA f.hl f.hh x.r) := by unfold stepP; rw [if_pos hi, hu0]
        gi_wp2_with (refine ⟨trivial, ?_⟩; gi_at_call 47; refine (CallsIn.inRound lr (callsIn_wide.2 (Calls.giv (cS _ (a4s_two W s x.r))))).mono ?_; rintro _ _ ⟨y1, rfl, rfl⟩; have sy1 := y1.size; simp only [World.size_alloc] at sy1; have : GB < y1.now.heap.size := (by omega))
        have hyy := hy0 y1
        have hoth : ∀ k, k < W.heap.size → k ≠ GB → (set4 y1.now GB u).heap[k]? = W.heap[k]? := fun k h1 h2 => (set4_other h2 u).trans (hyy.block k h1)
        have hrow5 := set4_row ((hyy.block _ lG).trans hall) u
        have hkeep5 := set4_keeps (g := GB) (KeepsOthers.below hyy) u
        have hbx5 := set4_belowX (g := GB) (.of (hyy.mono hB.size)) u
        have hs5 : W.heap.size ≤ (set4 y1.now GB u).heap.size := by rw [set4_size]; exact hyy.size
        have nxG : Bx ≠ GB := by omega
        have hxr5 := (hoth Bx hlt nxG).trans hxr
        have hsB := hB.size
        have lDW : w.heap.size + 1 < W.heap.size := Nat.lt_of_lt_of_le lD0 hsB
        change Code.wpIn _ _ _ _ _ _ (set4 y1.now GB u)
        generalize set4 y1.now GB u = W5 at *
        have d0 : W5.cell? ⟨w.heap.size + 1, 0, none⟩ = some (.int .i64 f.ll) := (World.cell?_of_block (a := ⟨w.heap.size + 1, 0, none⟩) (hoth _ lDW nGD)).trans ((hB.cell lD0 nGD).trans d0')
        have d1 : W5.cell? ⟨w.heap.size + 1, 1, none⟩ = some (.int .i64 f.lh) := (World.cell?_of_block (a := ⟨w.heap.size + 1, 1, none⟩) (hoth _ lDW nGD)).trans ((hB.cell lD0 nGD).trans d1')
        have d2 : W5.cell? ⟨w.heap.size + 1, 2, none⟩ = some (.int .i64 f.hl) := (World.cell?_of_block (a := ⟨w.heap.size + 1, 2, none⟩) (hoth _ lDW nGD)).trans ((hB.cell lD0 nGD).trans d2')
        have d3 : W5.cell? ⟨w.heap.size + 1, 3, none⟩ = some (.int .i64 f.hh) := (World.cell?_of_block (a := ⟨w.heap.size + 1, 3, none⟩) (hoth _ lDW nGD)).trans ((hB.cell lD0 nGD).trans d3')
        have p0 : W5.cell? ⟨GB, 0, none⟩ = some (.int .i64 u.xl) := (cell_of_row _ _ 0 _ _ _ hrow5).trans rfl
        have p1 : W5.cell? ⟨GB, 1, none⟩ = some (.int .i64 u.xh) := (cell_of_row _ _ 1 _ _ _ hrow5).trans rfl
        have p2 : W5.cell? ⟨GB, 2, none⟩ = some (.int .i64 u.yl) := (cell_of_row _ _ 2 _ _ _ hrow5).trans rfl
        have p3 : W5.cell? ⟨GB, 3, none⟩ = some (.int .i64 u.yh) := (cell_of_row _ _ 3 _ _ _ hrow5).trans rfl
        have x0 : W5.cell? ⟨Bx, 0, none⟩ = some (.int .i64 x.r.xl) := (cell_of_row _ _ 0 _ _ _ hxr5).trans rfl
        have x1 : W5.cell? ⟨Bx, 1, none⟩ = some (.int .i64 x.r.xh) := (cell_of_row _ _ 1 _ _ _ hxr5).trans rfl
        have x2 : W5.cell? ⟨Bx, 2, none⟩ = some (.int .i64 x.r.yl) := (cell_of_row _ _ 2 _ _ _ hxr5).trans rfl
        have x3 : W5.cell? ⟨Bx, 3, none⟩ = some (.int .i64 x.r.yh) := (cell_of_row _ _ 3 _ _ _ hxr5).trans rfl
        have lG5 := row_ltQ hrow5
        have lX5 := row_ltQ hxr5
        have lD5 : w.heap.size + 1 < W5.heap.size := by omega
        clear hoth
        generalize hlu : lightA f.ll f.lh x.r = vl at *
        generalize hhu : heatA f.hl f.hh x.r = vh at *
        unfold A4.val at cL cH
        gi_wp2
        refine wpIn_region_ext_headsR 9 (by kernel_rfl) (by kernel_rfl) (by kernel_rfl) ?_
        simp only [List.take_succ_cons, List.take_zero, List.length_cons, List.length_nil, Nat.reduceAdd, Nat.reduceSub]
        (repeat (first | go_big_quiet_step ((first | (go_at_call 48; with_reducible exact Calls.ext (cL _)) | (go_at_call 49; with_reducible exact Calls.ext (cH _)))) | quiet_step ((first | (go_at_call 48; with_reducible exact Calls.ext (cL _)) | (go_at_call 49; with_reducible exact Calls.ext (cH _))))))
        refine wpQuiet_nil ?_
        rintro _ ⟨yr, rfl⟩
        have syr := yr.size
        refine wpAnyIn_ready (rs := [9]) (by kernel_rfl) (by simp) ?_
        refine AllReadyIn.cons rfl (fun K hK => ?_) AllReadyIn.nil
        go_simp
        refine hK _ _ ?_
        clear hK K
        refine wpAnyIn_ready (rs := [10]) (by kernel_rfl) (by simp) ?_
        refine AllReadyIn.cons rfl (fun K hK => ?_) AllReadyIn.nil
        go_simp
        have cS3 := fun (Wk : World) (B : Nat) (hA : A4s Wk (some ⟨B, 0, none⟩) [u, vl, vh]) => sum3_any (some ⟨B, 0, none⟩) 3 u vl vh Wk hA (hu.mono (by omega)) (hlx.in.mono (by omega)) (hhx.in.mono (by omega))
        have hs3 : sumA ⟨0, 0, 0, 0⟩ [u, vl, vh] = addA (addA u vl) vh := by simp only [sumA, zero_add]
        rw [hs3] at cS3
        unfold A4.val at cS3
        generalize addA (addA u vl) vh = q at *
        refine ⟨trivial, (CallsIn.inRound lr (callsIn_wide.2 (Calls.giv (cS3 _ _ (a4s_three yr.now u vl vh))))).mono ?_⟩
        rintro _ _ ⟨y6, rfl, rfl⟩
        refine hK _ _ ?_
        clear hK K
        have hy6 : Below W5.heap.size W5 y6.now := (yr.grew.alloc syr _).trans (y6.grew.mono (by simp only [World.size_alloc]; omega))
        have hrow6 := (hy6.block _ lG5).trans hrow5
        have q0 : y6.now.cell? ⟨GB, 0, none⟩ = some (.int .i64 u.xl) := (cell_of_row _ _ 0 _ _ _ hrow6).trans rfl
        have q1 : y6.now.cell? ⟨GB, 1, none⟩ = some (.int .i64 u.xh) := (cell_of_row _ _ 1 _ _ _ hrow6).trans rfl
        have q2 : y6.now.cell? ⟨GB, 2, none⟩ = some (.int .i64 u.yl) := (cell_of_row _ _ 2 _ _ _ hrow6).trans rfl
        have q3 : y6.now.cell? ⟨GB, 3, none⟩ = some (.int .i64 u.yh) := (cell_of_row _ _ 3 _ _ _ hrow6).trans rfl
        have m0 : y6.now.frozen? ⟨GB, 0, none⟩ = false := frozen_rowQ hrow6
        have m1 : y6.now.frozen? ⟨GB, 1, none⟩ = false := frozen_rowQ hrow6
        have m2 : y6.now.frozen? ⟨GB, 2, none⟩ = false := frozen_rowQ hrow6
        have m3 : y6.now.frozen? ⟨GB, 3, none⟩ = false := frozen_rowQ hrow6
        have l6 := row_ltQ hrow6
        generalize y6.now = W6 at *
        refine wpAnyIn_ready (rs := [11]) (by kernel_rfl) (by simp) ?_
        refine AllReadyIn.cons rfl (fun K hK => ?_) AllReadyIn.nil
        go_simp
        refine hK _ _ ?_
        clear hK K
        refine wpAnyIn_done (by kernel_rfl) ?_ _
        gi_wp2
        refine ⟨(set4_keeps (hkeep5.trans (KeepsOthers.below hy6)) q).from _, set4_belowX (hbx5.trans (.of (hy6.mono (by omega)))) q, ?_, hB.trans (set4_belowX (hbx5.trans (.of (hy6.mono (by omega)))) q)⟩
        rw [hcons, hst]
        exact set4_row hrow6 q
      · have hi0 : ((x.i : Int) == 0) = false := by simp; omega
        have hst : stepP f s x = u := by unfold stepP; rw [if_neg hi, hu0]
        gi_wp2_with (refine ⟨trivial, ?_⟩; gi_at_call 47; refine (CallsIn.inRound lr (callsIn_wide.2 (Calls.giv (cS _ (a4s_two W s x.r))))).mono ?_; rintro _ _ ⟨y1, rfl, rfl⟩; have sy1 := y1.size; simp only [World.size_alloc] at sy1; have : GB < y1.now.heap.size := (by omega))
        have hyy := hy0 y1
        refine ⟨(set4_keeps (KeepsOthers.below hyy) u).from _, set4_belowX (.of (hyy.mono hB.size)) u, ?_, hB.trans (set4_belowX (.of (hyy.mono hB.size)) u)⟩
        rw [hcons, hst]
        exact set4_row ((hyy.block _ lG).trans hall) u
    case done =>
      rintro D ys W hD rfl ⟨hall, hB⟩ hK
      change W.heap[GB]? = some (.cells #[.int .i64 (overA l f t a b c d).xl, .int .i64 (overA l f t a b c d).xh, .int .i64 (overA l f t a b c d).yl, .int .i64 (overA l f t a b c d).yh] 33 (0, 0)) at hall
      unfold A4.val
      generalize overA l f t a b c d = q at *
      have rW := (hB.block _ lR0 nGR).trans rR
      have q0 : W.cell? ⟨GB, 0, none⟩ = some (.int .i64 q.xl) := (cell_of_row _ _ 0 _ _ _ hall).trans rfl
      have q1 : W.cell? ⟨GB, 1, none⟩ = some (.int .i64 q.xh) := (cell_of_row _ _ 1 _ _ _ hall).trans rfl
      have q2 : W.cell? ⟨GB, 2, none⟩ = some (.int .i64 q.yl) := (cell_of_row _ _ 2 _ _ _ hall).trans rfl
      have q3 : W.cell? ⟨GB, 3, none⟩ = some (.int .i64 q.yh) := (cell_of_row _ _ 3 _ _ _ hall).trans rfl
      have r0 : W.cell? ⟨w.heap.size + 1 + 1 + 1, 0, none⟩ = some (.int .i64 0) := (cell_of_row _ _ 0 _ _ _ rW).trans rfl
      have r1 : W.cell? ⟨w.heap.size + 1 + 1 + 1, 1, none⟩ = some (.int .i64 0) := (cell_of_row _ _ 1 _ _ _ rW).trans rfl
      have r2 : W.cell? ⟨w.heap.size + 1 + 1 + 1, 2, none⟩ = some (.int .i64 0) := (cell_of_row _ _ 2 _ _ _ rW).trans rfl
      have r3 : W.cell? ⟨w.heap.size + 1 + 1 + 1, 3, none⟩ = some (.int .i64 0) := (cell_of_row _ _ 3 _ _ _ rW).trans rfl
      have m0 : W.frozen? ⟨w.heap.size + 1 + 1 + 1, 0, none⟩ = false := frozen_rowQ rW
      have m1 : W.frozen? ⟨w.heap.size + 1 + 1 + 1, 1, none⟩ = false := frozen_rowQ rW
      have m2 : W.frozen? ⟨w.heap.size + 1 + 1 + 1, 2, none⟩ = false := frozen_rowQ rW
      have m3 : W.frozen? ⟨w.heap.size + 1 + 1 + 1, 3, none⟩ = false := frozen_rowQ rW
      have hBw := hB0.trans ((hB.mono (B' := w.heap.size) (by omega)).below lwG)
      clear ok hP hPk hc rR d0' d1' d2' d3' d4' w0' w1' t0' a0' a1' a2' a3' al
      gi_wp2
      have hK' := (set4_keeps (g := w.heap.size + 1 + 1 + 1) ((KeepsOthers.below (Below.refl _ W))) q).same D _ hK rfl
      refine ⟨by simp, .inl ⟨_, _, rfl, run_takeDeferred hK', ?_⟩⟩
      have hrow9 := row_kept (set4_row rW q) (grownBy_putObj' _ D (.deferred none)) (fun r e => by cases e; exact ⟨_, hK', rfl⟩)
      have c0 : ((set4 W (w.heap.size + 1 + 1 + 1) q).putObj D (.deferred none)).cell? ⟨w.heap.size + 1 + 1 + 1, 0, none⟩ = some (.int .i64 q.xl) := (cell_of_row _ _ 0 _ _ _ hrow9).trans rfl
      have c1 : ((set4 W (w.heap.size + 1 + 1 + 1) q).putObj D (.deferred none)).cell? ⟨w.heap.size + 1 + 1 + 1, 1, none⟩ = some (.int .i64 q.xh) := (cell_of_row _ _ 1 _ _ _ hrow9).trans rfl
      have c2 : ((set4 W (w.heap.size + 1 + 1 + 1) q).putObj D (.deferred none)).cell? ⟨w.heap.size + 1 + 1 + 1, 2, none⟩ = some (.int .i64 q.yl) := (cell_of_row _ _ 2 _ _ _ hrow9).trans rfl
      have c3 : ((set4 W (w.heap.size + 1 + 1 + 1) q).putObj D (.deferred none)).cell? ⟨w.heap.size + 1 + 1 + 1, 3, none⟩ = some (.int .i64 q.yh) := (cell_of_row _ _ 3 _ _ _ hrow9).trans rfl
      have hfin := (set4_below hBw (show w.heap.size ≤ w.heap.size + 1 + 1 + 1 by omega) q).trans (belowK_b (w := w) (Nat.le_refl _) _ D _ (.deferred none) (by have := hB0.size; omega) hK' rfl rfl)
      clear hrow9 hK'
      change LeavesInM _ _ _ _ _ _ _ _ ((set4 W (w.heap.size + 1 + 1 + 1) q).putObj D (.deferred none))
      generalize (set4 W (w.heap.size + 1 + 1 + 1) q).putObj D (.deferred none) = W9 at *
      refine ⟨.tuple #[.agg #[.int .i64 q.xl, .int .i64 q.xh, .int .i64 q.yl, .int .i64 q.yh], .int .i64 0], ?_, ?_⟩
      · simp [results, Try.f16, go_sem, c0, c1, c2, c3]
      · exact ⟨rfl, hfin⟩
    case stop =>
      rintro D k pre W hD hpre hf
      exact hf.elim
  · have e2 : overR l h f t a b c d = ⟨0, 0, 0, 0⟩ := by unfold overR; rw [if_neg hE]
    rw [e2]
    unfold A4.val
    obtain ⟨ll, lh, hl, hh, g⟩ := f
    simp only at *
    have hne : (askE l h (driftE ⟨ll, lh, hl, hh, g⟩) t a b c d != 0) = true := by simpa using hE
    clear e2 hE hP hc
    generalize askE l h (driftE ⟨ll, lh, hl, hh, g⟩) t a b c d = e at *
    generalize l.length = m at *
    go_enter Try.func16, Try.ntmps16
    go_wp2_with (first | ((first | with_reducible refine wrx2 ?_ | with_reducible refine wrx ?_); (repeat (first | go_big_quiet_step ((first | (go_at_call 42; with_reducible exact Calls.ext (cc _ bcl)))) | quiet_step ((first | (go_at_call 42; with_reducible exact Calls.ext (cc _ bcl)))))); refine wpQuiet_nil ?_; rintro _ ⟨yr, rfl⟩; have syr := Ext.size yr; (repeat (first | rw [World.size_alloc] at syr | rw [World.size_setCell] at syr | rw [World.size_drew] at syr))) | (go_at_call 42; (first | with_reducible refine (Calls.giv2 (cc _ bcl)).mono ?_ | with_reducible refine (Calls.giv (cc _ bcl)).mono ?_); rintro _ _ ⟨y1, rfl, rfl⟩; have sy1 := Ext.size y1; (repeat (first | rw [World.size_alloc] at sy1 | rw [World.size_setCell] at sy1 | rw [World.size_drew] at sy1))))
    refine bodyPost_ret (v := .tuple #[.agg #[.int .i64 0, .int .i64 0, .int .i64 0, .int .i64 0], .int .i64 e]) (by simp (maxDischargeDepth := 9) [results, Try.results16, go_sem, *]) rfl ?_
    refine ⟨rfl, ?_⟩
    repeat' (first | (with_reducible exact Below.refl _ _) | (with_reducible assumption) | (with_reducible refine Ext.below _ ?_ ?_) | (with_reducible refine Below.on ?_ (by with_reducible assumption) ?_) | (with_reducible refine Below.alloc ?_ ?_ _) | (with_reducible refine Below.drew ?_) | (with_reducible refine Below.setCell ?_ ?_ _) | (with_reducible exact Nat.le_refl _) | omega | (simp; done) | (simp [go_sem]; done) | (simp at *; omega))
end Go.Proofs.Ytlhihmfefipehaa

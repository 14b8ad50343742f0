/- Contract of SightOf: a valid sight in a valid sky of the call's own. Condition: the ring's block is as NewRing made it; the sky's lists lie behind it. -/
import Derived.Test.YtgoilmiiegpnoaaSkyOf
import Derived.Test.YtgoilmiiegpnoaaSkyRe
import Derived.Test.YtgoilmiiegpnoaaCutB
import Derived.Test.YtgoilmiiegpnoaaSightBx
import Derived.Deep.CutRange
namespace Go.Proofs.Ytgoilmiiegpnoaa
open Go.RowKit Go.Shelf
attribute [local go_sem] Ext.cell Ext.frozen Ext.lt Ext.le Ext.lt_add Ext.le_add Ext.ne Ext.ne' lt2 lt3 lt4 lt5 le2 le3 le4
attribute [local go_sem] RExt.cell RExt.frozen RExt.lt RExt.le RExt.lt_add RExt.le_add RExt.ne RExt.ne'
structure SightOk (s : SkyR) (t : Int) (x : SightR) : Prop where
  ok : 1 ≤ x.kind ∧ x.kind ≤ 3
  ot : x.tick = t
  os : ∃ o ∈ s.sts, o.id = x.st
  oc : ∃ c ∈ s.cats, c.ver = x.cat
  od : (-4096 ≤ x.dir.x ∧ x.dir.x ≤ 4096) ∧ -4096 ≤ x.dir.y ∧ x.dir.y ≤ 4096
  on : ¬ (x.dir.x = 0 ∧ x.dir.y = 0)
  oe : 0 ≤ x.err ∧ x.err < 40000
  ol : 0 ≤ x.lo ∧ x.lo < 1000
  oh : 1 ≤ x.hi ∧ x.hi ≤ 7000
  orr : x.kind = 3 ∨ x.lo < x.hi
def SightPost (w : World) (b m : Nat) (s : SkyR) (t : Int) : Ending → World → Prop := fun e w' => ∃ (y : RExt w b) (x : SightR), e = .returned x.val ∧ SightOk s t x ∧ w' = y.now ∧ RingM y.now b (m + 9)
def sightRow (kd id ver t : Int) : Array Value := #[.int .i64 kd, .int .i64 id, .int .i64 ver, .int .i64 t, .int .i64 0, .int .i64 0, .int .i64 0, .int .i64 0, .int .i64 0]
theorem cell_up {W : World} {B o : Nat} {v : Value} (h : W.cell? ⟨B, o, none⟩ = some v) {O : Obj} : (W.alloc O).cell? ⟨B, o, none⟩ = some v := by
  have hB := World.block_lt_of_cell? W ⟨B, o, none⟩ h
  exact (Below.cell ((Below.refl W.heap.size W).alloc (Nat.le_refl _) O) (p := ⟨B, o, none⟩) hB).trans h
theorem cell_st {W : World} {B o C o' : Nat} {u v : Value} (hne : C ≠ B) (h : W.cell? ⟨B, o, none⟩ = some v) : (W.setCell ⟨C, o', none⟩ u).cell? ⟨B, o, none⟩ = some v := by
  simp [go_sem, h]
theorem cell_dr {W : World} {B o : Nat} {v : Value} (h : W.cell? ⟨B, o, none⟩ = some v) : W.drew.cell? ⟨B, o, none⟩ = some v := h
/-- What the first region of SightOf leaves: the box of the sight. -/
def SightTold (b m ns nc : Nat) (fid fve : Nat → Int) (t : Int) (a : Act) (W : World) (a' : Act) (W' : World) : Prop :=
  ∃ (BX : Nat) (kd : Int) (j i : Nat) (y : RExt W b), a' = sets a [(9, .pointer (some ⟨BX, 0, none⟩)), (14, a'.tmps.getD 14 undef), (15, a'.tmps.getD 15 undef), (16, a'.tmps.getD 16 undef), (17, a'.tmps.getD 17 undef), (18, a'.tmps.getD 18 undef), (19, a'.tmps.getD 19 undef), (20, a'.tmps.getD 20 undef), (21, a'.tmps.getD 21 undef), (22, a'.tmps.getD 22 undef), (23, a'.tmps.getD 23 undef), (24, a'.tmps.getD 24 undef), (25, a'.tmps.getD 25 undef), (26, a'.tmps.getD 26 undef), (27, a'.tmps.getD 27 undef), (28, a'.tmps.getD 28 undef), (29, a'.tmps.getD 29 undef), (30, a'.tmps.getD 30 undef), (31, a'.tmps.getD 31 undef), (32, a'.tmps.getD 32 undef), (33, a'.tmps.getD 33 undef), (34, a'.tmps.getD 34 undef), (35, a'.tmps.getD 35 undef), (36, a'.tmps.getD 36 undef), (37, a'.tmps.getD 37 undef), (38, a'.tmps.getD 38 undef)] ∧ W' = y.now ∧ (0 ≤ kd ∧ kd < 3) ∧ j < ns ∧ i < nc ∧ W.heap.size ≤ BX ∧ SightBox y.now BX (1 + kd) (fid j) (fve i) t 0 0 0 0 0 ∧ RingM y.now b (m + 1 + 1 + 1)
theorem SightTold.intro {b m ns nc : Nat} {fid fve : Nat → Int} {t : Int} {a : Act} {W : World} {a' : Act} {W' : World} (BX : Nat) (kd : Int) (j i : Nat) (hB : BelowX b W.heap.size W W') (ha : a' = sets a [(9, .pointer (some ⟨BX, 0, none⟩)), (14, a'.tmps.getD 14 undef), (15, a'.tmps.getD 15 undef), (16, a'.tmps.getD 16 undef), (17, a'.tmps.getD 17 undef), (18, a'.tmps.getD 18 undef), (19, a'.tmps.getD 19 undef), (20, a'.tmps.getD 20 undef), (21, a'.tmps.getD 21 undef), (22, a'.tmps.getD 22 undef), (23, a'.tmps.getD 23 undef), (24, a'.tmps.getD 24 undef), (25, a'.tmps.getD 25 undef), (26, a'.tmps.getD 26 undef), (27, a'.tmps.getD 27 undef), (28, a'.tmps.getD 28 undef), (29, a'.tmps.getD 29 undef), (30, a'.tmps.getD 30 undef), (31, a'.tmps.getD 31 undef), (32, a'.tmps.getD 32 undef), (33, a'.tmps.getD 33 undef), (34, a'.tmps.getD 34 undef), (35, a'.tmps.getD 35 undef), (36, a'.tmps.getD 36 undef), (37, a'.tmps.getD 37 undef), (38, a'.tmps.getD 38 undef)]) (hk : 0 ≤ kd ∧ kd < 3) (hj : j < ns) (hi : i < nc) (hBX : W.heap.size ≤ BX) (hs : SightBox W' BX (1 + kd) (fid j) (fve i) t 0 0 0 0 0) (hr : RingM W' b (m + 1 + 1 + 1)) : SightTold b m ns nc fid fve t a W a' W' :=
  ⟨BX, kd, j, i, ⟨W', hB⟩, ha, rfl, hk, hj, hi, hBX, hs, hr⟩
theorem SightBox.made (W : World) (T : TypeId) {u0 v0 v1 v2 v3 : Int} (h : u0 = v0) {B : Nat} (hB : B = W.heap.size) : SightBox (W.alloc (.cells #[.int .i64 u0, .int .i64 v1, .int .i64 v2, .int .i64 v3, .int .i64 0, .int .i64 0, .int .i64 0, .int .i64 0, .int .i64 0] T)) B v0 v1 v2 v3 0 0 0 0 0 := by
  subst h hB
  exact ⟨by simp [go_sem], by simp [go_sem], by simp [go_sem], by simp [go_sem], by simp [go_sem], by simp [go_sem], by simp [go_sem], by simp [go_sem], by simp [go_sem], by simp [go_sem], by simp [go_sem], by simp [go_sem], by simp [go_sem], by simp [go_sem], by simp [go_sem], by simp [go_sem], by simp [go_sem], by simp [go_sem], by simp⟩
theorem SightBox.stored {W : World} {B : Nat} {v0 v1 v2 v3 v4 v5 v6 v7 v8 : Int} (h : SightBox W B v0 v1 v2 v3 v4 v5 v6 v7 v8) {u0 w0 : Int} (he : w0 = u0) (u1 u2 u3 u4 u5 u6 u7 u8 : Int) : SightBox (((((((((W.setCell ⟨B, 0, none⟩ (.int .i64 w0)).setCell ⟨B, 1, none⟩ (.int .i64 u1)).setCell ⟨B, 2, none⟩ (.int .i64 u2)).setCell ⟨B, 3, none⟩ (.int .i64 u3)).setCell ⟨B, 4, none⟩ (.int .i64 u4)).setCell ⟨B, 5, none⟩ (.int .i64 u5)).setCell ⟨B, 6, none⟩ (.int .i64 u6)).setCell ⟨B, 7, none⟩ (.int .i64 u7)).setCell ⟨B, 8, none⟩ (.int .i64 u8)) B u0 u1 u2 u3 u4 u5 u6 u7 u8 := he ▸ h.store w0 u1 u2 u3 u4 u5 u6 u7 u8
theorem half_in (d : Int) : 2 * (d.tdiv 2).natAbs ≤ d.natAbs := by
  rw [Int.natAbs_tdiv]
  change 2 * (d.natAbs / 2) ≤ d.natAbs
  omega
theorem SightBox.put {W : World} {B : Nat} {v0 v1 v2 v3 v4 v5 v6 v7 v8 : Int} (h : SightBox W B v0 v1 v2 v3 v4 v5 v6 v7 v8) {C : Nat} (hC : B < C) (o : Nat) (u : Value) : SightBox (W.setCell ⟨C, o, none⟩ u) B v0 v1 v2 v3 v4 v5 v6 v7 v8 := by
  have h1 : B ≠ C := by omega
  have h2 : C ≠ B := by omega
  obtain ⟨c0, c1, c2, c3, c4, c5, c6, c7, c8, f0, f1, f2, f3, f4, f5, f6, f7, f8, lt⟩ := h
  exact ⟨by simp [go_sem, *], by simp [go_sem, *], by simp [go_sem, *], by simp [go_sem, *], by simp [go_sem, *], by simp [go_sem, *], by simp [go_sem, *], by simp [go_sem, *], by simp [go_sem, *], by simp [go_sem, *], by simp [go_sem, *], by simp [go_sem, *], by simp [go_sem, *], by simp [go_sem, *], by simp [go_sem, *], by simp [go_sem, *], by simp [go_sem, *], by simp [go_sem, *], by simpa using lt⟩
theorem trackAt_small {l : List V2} {P : V2 → Prop} (h : ∀ v ∈ l, P v) (h0 : P ⟨0, 0⟩) (t : Int) : P (trackAt l t) := by
  unfold trackAt
  rw [List.getD_eq_getElem?_getD]
  cases hg : l[(t % l.length).toNat]? with
  | none => exact h0
  | some v => exact h v (List.mem_of_getElem? hg)
theorem home_small {s : SkyR} (h : SmallSky s) (t : Int) : (-2000 ≤ (homeAt s t).x ∧ (homeAt s t).x ≤ 2000) ∧ -2000 ≤ (homeAt s t).y ∧ (homeAt s t).y ≤ 2000 := by
  unfold homeAt bodyAt
  split
  · rename_i x hx
    exact trackAt_small (P := fun v => (-2000 ≤ v.x ∧ v.x ≤ 2000) ∧ -2000 ≤ v.y ∧ v.y ≤ 2000) (h.t x (List.mem_of_getElem? hx)) (by simp) t
  · exact trackAt_small (P := fun v => (-2000 ≤ v.x ∧ v.x ≤ 2000) ∧ -2000 ≤ v.y ∧ v.y ≤ 2000) (by simp) (by simp) t
theorem where_small {s : SkyR} (h : SmallSky s) (id t : Int) : (-2040 ≤ (whereV s id t).1.x ∧ (whereV s id t).1.x ≤ 2040) ∧ -2040 ≤ (whereV s id t).1.y ∧ (whereV s id t).1.y ≤ 2040 := by
  obtain ⟨⟨h1, h2⟩, h3, h4⟩ := home_small h t
  unfold whereV
  split
  · rcases stIdx_where (h := homeAt s t) (id := id) (l := s.sts) (i := 0) with ⟨_, e⟩ | ⟨j, hj, _, e⟩
    · rw [e]; simp
    · rw [e]
      have := h.so _ (List.getElem_mem hj)
      simp only
      omega
  · simp
set_option maxRecDepth 100000 in
set_option maxHeartbeats 16000000 in
theorem SightOf_y (b m : Nat) (s : SkyR) (t px py : Int) (w : World) (hm : m < 100000) (hb : b < w.heap.size) (h : RingM w b m) (hA : s.AtX (b + 1) w) (hS : SmallSky s) (_ht : tickB t = true) (hpx : -1000000000 ≤ px ∧ px ≤ 1000000000) (hpy : -1000000000 ≤ py ∧ py ≤ 1000000000) :
    Calls Try.prog 44 #[.pointer (some ⟨b, 0, none⟩), s.val, .int .i64 t, .agg #[.int .i64 px, .int .i64 py]] w (SightPost w b m s t) := by
  have hn0 : w.heap.size ≠ b := by omega
  have hn1 : w.heap.size + 1 ≠ b := by omega
  have hn2 : w.heap.size + 1 + 1 ≠ b := by omega
  have hs1 := hS.sl
  have hc1 := hS.cl
  obtain ⟨Bs, os, hsp, hBs1, hBs2, -⟩ := hA.ss 0 (by omega)
  obtain ⟨Bc, oc, hcp, hBc1, hBc2, -⟩ := hA.cs 0 (by omega)
  obtain ⟨fid, hfid⟩ : ∃ f : Nat → Int, ∀ j (hj : j < s.sts.length), s.sts[j].id = f j := ⟨fun j => (s.sts[j]?.map (·.id)).getD 0, fun j hj => by simp [hj]⟩
  obtain ⟨fve, hfve⟩ : ∃ f : Nat → Int, ∀ j (hj : j < s.cats.length), s.cats[j].ver = f j := ⟨fun j => (s.cats[j]?.map (·.ver)).getD 0, fun j hj => by simp [hj]⟩
  have q1 : ∀ j, j < s.sts.length → w.cell? ⟨Bs, os + j * 3, none⟩ = some (.int .i64 (fid j)) := fun j hj => by
    obtain ⟨B, o, hp, _, _, h1, _⟩ := hA.ss j hj
    rw [hsp] at hp
    injection hp with hp
    injection hp with hp1 hp2
    rw [hp1, hp2, h1, hfid j hj]
  have q2 : ∀ j, j < s.cats.length → w.cell? ⟨Bc, oc + j * 3, none⟩ = some (.int .i64 (fve j)) := fun j hj => by
    obtain ⟨B, o, hp, _, _, h1, _⟩ := hA.cs j hj
    rw [hcp] at hp
    injection hp with hp
    injection hp with hp1 hp2
    rw [hp1, hp2, h1, hfve j hj]
  have hfid := Go.Lib.hid hfid
  have hfve := Go.Lib.hid hfve
  have hA0 := Go.Lib.hid hA
  have cw := Go.Lib.hid (fun id (W : World) (hAW : s.AtX (b + 1) W) => refWhere_any s id t W hAW.at)
  unfold SkyR.val at *
  rw [hsp, hcp] at cw ⊢
  obtain ⟨ns, hns⟩ : ∃ n, s.sts.length = n := ⟨_, rfl⟩
  obtain ⟨nc, hnc⟩ : ∃ n, s.cats.length = n := ⟨_, rfl⟩
  rw [hns] at hs1 q1
  rw [hnc] at hc1 q2
  rw [hns, hnc] at cw ⊢
  clear hA
  replace hns := Go.Lib.hid hns
  replace hnc := Go.Lib.hid hnc
  generalize s.cc = n3 at *
  generalize s.bodies.length = n4 at *
  generalize s.bp = n5 at *
  generalize s.bc = n6 at *
  generalize s.sc = n9 at *
  generalize s.home = n0 at *
  clear hsp hcp
  have b1 : b < w.heap.size + 1 + 1 + 1 := by omega
  have : Bs < (w).heap.size := (by omega); have : Bs < (w).heap.size + 1 := (by omega); have : Bs < (w).heap.size + 1 + 1 := (by omega); have : Bs ≠ (w).heap.size := (by omega); have : Bs ≠ (w).heap.size + 1 := (by omega)
  have : Bc < (w).heap.size := (by omega); have : Bc < (w).heap.size + 1 := (by omega); have : Bc < (w).heap.size + 1 + 1 := (by omega); have : Bc ≠ (w).heap.size := (by omega); have : Bc ≠ (w).heap.size + 1 := (by omega)
  have hn3 : w.heap.size + 1 + 1 + 1 ≠ b := by omega
  have nb1 : Bs ≠ w.heap.size + 1 + 1 := by omega
  have nb2 : Bc ≠ w.heap.size + 1 + 1 := by omega
  have : Bs < w.heap.size + 1 + 1 + 1 := by omega
  have : Bc < w.heap.size + 1 + 1 + 1 := by omega
  go_enter Try.func44, Try.ntmps44
  go_wp2_with fail
  refine wp_named (fun W3 hW => ?_)
  have c0o : W3.cell? ⟨w.heap.size, 0, none⟩ = some (.slice n5 n4 n6) := by rw [← hW]; simp [go_sem]
  have c1o : W3.cell? ⟨w.heap.size, 1, none⟩ = some (.int .i64 n0) := by rw [← hW]; simp [go_sem]
  have c2o : W3.cell? ⟨w.heap.size, 2, none⟩ = some (.slice (some ⟨Bs, os, none⟩) ns n9) := by rw [← hW]; simp [go_sem]
  have c3o : W3.cell? ⟨w.heap.size, 3, none⟩ = some (.slice (some ⟨Bc, oc, none⟩) nc n3) := by rw [← hW]; simp [go_sem]
  have p0o : W3.cell? ⟨w.heap.size + 1, 0, none⟩ = some (.int .i64 px) := by rw [← hW]; simp [go_sem]
  have p1o : W3.cell? ⟨w.heap.size + 1, 1, none⟩ = some (.int .i64 py) := by rw [← hW]; simp [go_sem]
  have hres : SightBox W3 (w.heap.size + 1 + 1) 0 0 0 0 0 0 0 0 0 := by rw [← hW]; exact SightBox.new' _ _ (by simp)
  have hs3 : W3.heap.size = w.heap.size + 1 + 1 + 1 := by rw [← hW]; simp
  have q1o : ∀ j, j < ns → W3.cell? ⟨Bs, os + j * 3, none⟩ = some (.int .i64 (fid j)) := fun j hj => by rw [← hW]; exact cell_up (cell_up (cell_up (q1 j hj)))
  have q2o : ∀ j, j < nc → W3.cell? ⟨Bc, oc + j * 3, none⟩ = some (.int .i64 (fve j)) := fun j hj => by rw [← hW]; exact cell_up (cell_up (cell_up (q2 j hj)))
  have hAo : s.AtX (b + 1) W3 := by rw [← hW]; exact ((hA0.out.alloc _).alloc _).alloc _
  have hro : RingM W3 b m := by rw [← hW]; exact ((h.alloc _).alloc _).alloc _
  have hBo : BelowX b w.heap.size w W3 := by rw [← hW]; repeat' (first | (with_reducible exact BelowX.refl _ _ _) | (with_reducible assumption) | (with_reducible refine RExt.belowX _ ?_ ?_) | (with_reducible refine Ext.belowX _ ?_ ?_) | (with_reducible refine BelowX.alloc ?_ ?_ _) | (with_reducible refine BelowX.drew ?_) | (with_reducible refine BelowX.setCell ?_ ?_ _) | (with_reducible exact Nat.le_refl _) | omega | (simp; done) | (simp [go_sem]; done) | (simp at *; omega))
  have l3 : w.heap.size + 1 + 1 < W3.heap.size := by omega
  have l30 : w.heap.size < W3.heap.size := by omega
  have l31 : w.heap.size + 1 < W3.heap.size := by omega
  have l32 : Bs < W3.heap.size := by omega
  have l33 : Bc < W3.heap.size := by omega
  have nb3 : W3.heap.size ≠ b := by omega
  have hrB : b < W3.heap.size := by omega
  clear hW q1 q2 hs3 h
  have hres := Go.Lib.hid hres
  refine wp_tell (SightTold b m ns nc fid fve t) ?_ ?_
  focus
   go_region_held3 (fun W => W.cell? ⟨w.heap.size, 2, none⟩ = some (.slice (some ⟨Bs, os, none⟩) ns n9) ∧ W.cell? ⟨w.heap.size, 3, none⟩ = some (.slice (some ⟨Bc, oc, none⟩) nc n3) ∧ (∀ j, j < ns → W.cell? ⟨Bs, os + j * 3, none⟩ = some (.int .i64 (fid j))) ∧ (∀ j, j < nc → W.cell? ⟨Bc, oc + j * 3, none⟩ = some (.int .i64 (fve j))))
     ((refine ⟨?_, ?_, ?_, ?_⟩; (repeat (first | (with_reducible exact c2c) | (with_reducible exact c2b) | (with_reducible exact c2a) | (with_reducible exact c2o) | (with_reducible refine cell_up ?_) | (with_reducible refine cell_dr ?_) | (with_reducible refine cell_st (by omega) ?_))); (repeat (first | (with_reducible exact c3c) | (with_reducible exact c3b) | (with_reducible exact c3a) | (with_reducible exact c3o) | (with_reducible refine cell_up ?_) | (with_reducible refine cell_dr ?_) | (with_reducible refine cell_st (by omega) ?_))); (intro j hj; (repeat (first | (with_reducible exact q1c j hj) | (with_reducible exact q1b j hj) | (with_reducible exact q1a j hj) | (with_reducible exact q1o j hj) | (with_reducible refine cell_up ?_) | (with_reducible refine cell_dr ?_) | (with_reducible refine cell_st (by omega) ?_)))); (intro j hj; (repeat (first | (with_reducible exact q2c j hj) | (with_reducible exact q2b j hj) | (with_reducible exact q2a j hj) | (with_reducible exact q2o j hj) | (with_reducible refine cell_up ?_) | (with_reducible refine cell_dr ?_) | (with_reducible refine cell_st (by omega) ?_))))))
     (first
       | (have _ := yb; go_at_call 22; (with_reducible refine Calls.mono (Next_y nc b (m + 1 + 1) _ (by omega) (by omega) (by omega) ?_) ?_); (focus ((repeat (first | (with_reducible assumption) | (with_reducible refine RingM.alloc ?_ _) | (with_reducible refine RingM.drew ?_))); done)); (rintro _ _ ⟨yc, vc, rfl, ⟨hvc0, hvc1⟩, rfl, rgc⟩); have syc := RExt.size yc; (repeat (first | rw [World.size_alloc] at syc | rw [World.size_drew] at syc)); obtain ⟨jc, rfl⟩ := Int.eq_ofNat_of_zero_le hvc0; have hjc : jc < nc := (by omega); have : yb.now.heap.size ≤ yc.now.heap.size := (by omega); (try (have : W3.heap.size < yc.now.heap.size := (by omega))); have : yc.now.heap.size ≠ b := (by omega); (try (have : ya.now.heap.size < yc.now.heap.size := (by omega))); (try (have : yb.now.heap.size < yc.now.heap.size := (by omega))); have c2c : yc.now.cell? ⟨w.heap.size, 2, none⟩ = some (.slice (some ⟨Bs, os, none⟩) ns n9) := (yc.cell (by (try simp only [World.size_alloc]); (try simp only [World.size_drew]); (try simp only [World.size_alloc]); omega) hn0).trans (by (repeat (first | (with_reducible exact c2b) | (with_reducible refine cell_up ?_) | (with_reducible refine cell_dr ?_) | (with_reducible refine cell_st (by omega) ?_)))); have c3c : yc.now.cell? ⟨w.heap.size, 3, none⟩ = some (.slice (some ⟨Bc, oc, none⟩) nc n3) := (yc.cell (by (try simp only [World.size_alloc]); (try simp only [World.size_drew]); (try simp only [World.size_alloc]); omega) hn0).trans (by (repeat (first | (with_reducible exact c3b) | (with_reducible refine cell_up ?_) | (with_reducible refine cell_dr ?_) | (with_reducible refine cell_st (by omega) ?_)))); have q1c : ∀ j, j < ns → yc.now.cell? ⟨Bs, os + j * 3, none⟩ = some (.int .i64 (fid j)) := (fun j hj => (yc.cell (by (try simp only [World.size_alloc]); (try simp only [World.size_drew]); (try simp only [World.size_alloc]); omega) (by omega)).trans (by (repeat (first | (with_reducible exact q1b j hj) | (with_reducible refine cell_up ?_) | (with_reducible refine cell_dr ?_) | (with_reducible refine cell_st (by omega) ?_))))); have q2c : ∀ j, j < nc → yc.now.cell? ⟨Bc, oc + j * 3, none⟩ = some (.int .i64 (fve j)) := (fun j hj => (yc.cell (by (try simp only [World.size_alloc]); (try simp only [World.size_drew]); (try simp only [World.size_alloc]); omega) (by omega)).trans (by (repeat (first | (with_reducible exact q2b j hj) | (with_reducible refine cell_up ?_) | (with_reducible refine cell_dr ?_) | (with_reducible refine cell_st (by omega) ?_))))))
       | (have _ := ya; go_at_call 22; (with_reducible refine Calls.mono (Next_y ns b (m + 1) _ (by omega) (by omega) (by omega) ?_) ?_); (focus ((repeat (first | (with_reducible assumption) | (with_reducible refine RingM.alloc ?_ _) | (with_reducible refine RingM.drew ?_))); done)); (rintro _ _ ⟨yb, vb, rfl, ⟨hvb0, hvb1⟩, rfl, rgb⟩); have syb := RExt.size yb; (repeat (first | rw [World.size_alloc] at syb | rw [World.size_drew] at syb)); obtain ⟨jb, rfl⟩ := Int.eq_ofNat_of_zero_le hvb0; have hjb : jb < ns := (by omega); have : ya.now.heap.size ≤ yb.now.heap.size := (by omega); (try (have : W3.heap.size < yb.now.heap.size := (by omega))); have : yb.now.heap.size ≠ b := (by omega); (try (have : ya.now.heap.size < yb.now.heap.size := (by omega))); have c2b : yb.now.cell? ⟨w.heap.size, 2, none⟩ = some (.slice (some ⟨Bs, os, none⟩) ns n9) := (yb.cell (by (try simp only [World.size_alloc]); (try simp only [World.size_drew]); (try simp only [World.size_alloc]); omega) hn0).trans (by (repeat (first | (with_reducible exact c2a) | (with_reducible refine cell_up ?_) | (with_reducible refine cell_dr ?_) | (with_reducible refine cell_st (by omega) ?_)))); have c3b : yb.now.cell? ⟨w.heap.size, 3, none⟩ = some (.slice (some ⟨Bc, oc, none⟩) nc n3) := (yb.cell (by (try simp only [World.size_alloc]); (try simp only [World.size_drew]); (try simp only [World.size_alloc]); omega) hn0).trans (by (repeat (first | (with_reducible exact c3a) | (with_reducible refine cell_up ?_) | (with_reducible refine cell_dr ?_) | (with_reducible refine cell_st (by omega) ?_)))); have q1b : ∀ j, j < ns → yb.now.cell? ⟨Bs, os + j * 3, none⟩ = some (.int .i64 (fid j)) := (fun j hj => (yb.cell (by (try simp only [World.size_alloc]); (try simp only [World.size_drew]); (try simp only [World.size_alloc]); omega) (by omega)).trans (by (repeat (first | (with_reducible exact q1a j hj) | (with_reducible refine cell_up ?_) | (with_reducible refine cell_dr ?_) | (with_reducible refine cell_st (by omega) ?_))))); have q2b : ∀ j, j < nc → yb.now.cell? ⟨Bc, oc + j * 3, none⟩ = some (.int .i64 (fve j)) := (fun j hj => (yb.cell (by (try simp only [World.size_alloc]); (try simp only [World.size_drew]); (try simp only [World.size_alloc]); omega) (by omega)).trans (by (repeat (first | (with_reducible exact q2a j hj) | (with_reducible refine cell_up ?_) | (with_reducible refine cell_dr ?_) | (with_reducible refine cell_st (by omega) ?_))))))
       | (go_at_call 22; (with_reducible refine Calls.mono (Next_y 3 b m _ (by omega) (by omega) (by omega) ?_) ?_); (focus ((repeat (first | (with_reducible assumption) | (with_reducible refine RingM.alloc ?_ _) | (with_reducible refine RingM.drew ?_))); done)); (rintro _ _ ⟨ya, va, rfl, ⟨hva0, hva1⟩, rfl, rga⟩); have sya := RExt.size ya; (repeat (first | rw [World.size_alloc] at sya | rw [World.size_drew] at sya)); have : W3.heap.size ≤ ya.now.heap.size := (by omega); (try (have : W3.heap.size < ya.now.heap.size := (by omega))); have : ya.now.heap.size ≠ b := (by omega); have c2a : ya.now.cell? ⟨w.heap.size, 2, none⟩ = some (.slice (some ⟨Bs, os, none⟩) ns n9) := (ya.cell (by (try simp only [World.size_alloc]); (try simp only [World.size_drew]); (try simp only [World.size_alloc]); omega) hn0).trans (by (repeat (first | (with_reducible exact c2o) | (with_reducible refine cell_up ?_) | (with_reducible refine cell_dr ?_) | (with_reducible refine cell_st (by omega) ?_)))); have c3a : ya.now.cell? ⟨w.heap.size, 3, none⟩ = some (.slice (some ⟨Bc, oc, none⟩) nc n3) := (ya.cell (by (try simp only [World.size_alloc]); (try simp only [World.size_drew]); (try simp only [World.size_alloc]); omega) hn0).trans (by (repeat (first | (with_reducible exact c3o) | (with_reducible refine cell_up ?_) | (with_reducible refine cell_dr ?_) | (with_reducible refine cell_st (by omega) ?_)))); have q1a : ∀ j, j < ns → ya.now.cell? ⟨Bs, os + j * 3, none⟩ = some (.int .i64 (fid j)) := (fun j hj => (ya.cell (by (try simp only [World.size_alloc]); (try simp only [World.size_drew]); (try simp only [World.size_alloc]); omega) (by omega)).trans (by (repeat (first | (with_reducible exact q1o j hj) | (with_reducible refine cell_up ?_) | (with_reducible refine cell_dr ?_) | (with_reducible refine cell_st (by omega) ?_))))); have q2a : ∀ j, j < nc → ya.now.cell? ⟨Bc, oc + j * 3, none⟩ = some (.int .i64 (fve j)) := (fun j hj => (ya.cell (by (try simp only [World.size_alloc]); (try simp only [World.size_drew]); (try simp only [World.size_alloc]); omega) (by omega)).trans (by (repeat (first | (with_reducible exact q2o j hj) | (with_reducible refine cell_up ?_) | (with_reducible refine cell_dr ?_) | (with_reducible refine cell_st (by omega) ?_)))))))
   all_goals have hwa : IntKind.i64.wrap (1 + va) = 1 + va := IntWalk.i64_in _ (by omega)
   · refine ⟨rfl, SightTold.intro yc.now.heap.size va jb jc ?_ (by kernel_rfl) ⟨hva0, by omega⟩ hjb hjc (by omega) ?_ ?_⟩
     · repeat' (first | (with_reducible exact BelowX.refl _ _ _) | (with_reducible assumption) | (with_reducible refine RExt.belowX _ ?_ ?_) | (with_reducible refine Ext.belowX _ ?_ ?_) | (with_reducible refine BelowX.alloc ?_ ?_ _) | (with_reducible refine BelowX.drew ?_) | (with_reducible refine BelowX.setCell ?_ ?_ _) | (with_reducible exact Nat.le_refl _) | omega | (simp; done) | (simp [go_sem]; done) | (simp at *; omega))
     · exact SightBox.made _ _ hwa rfl
     · exact rgc.alloc _
   · refine ⟨rfl, SightTold.intro yb.now.heap.size va jb jc ?_ (by kernel_rfl) ⟨hva0, by omega⟩ hjb hjc (by omega) ?_ ?_⟩
     · repeat' (first | (with_reducible exact BelowX.refl _ _ _) | (with_reducible assumption) | (with_reducible refine RExt.belowX _ ?_ ?_) | (with_reducible refine Ext.belowX _ ?_ ?_) | (with_reducible refine BelowX.alloc ?_ ?_ _) | (with_reducible refine BelowX.drew ?_) | (with_reducible refine BelowX.setCell ?_ ?_ _) | (with_reducible exact Nat.le_refl _) | omega | (simp; done) | (simp [go_sem]; done) | (simp at *; omega))
     · refine SightBox.stored (v0 := 0) (v1 := 0) (v2 := 0) (v3 := 0) (v4 := 0) (v5 := 0) (v6 := 0) (v7 := 0) (v8 := 0) ?_ hwa _ _ _ _ _ _ _ _
       (repeat (first | (with_reducible exact SightBox.new' _ _ rfl) | (with_reducible refine SightBox.drew ?_) | (with_reducible refine SightBox.rext ?_ (by omega) _) | (with_reducible refine SightBox.alloc ?_ _) | exact SightBox.new' _ _ (by simp)))
     · (repeat (first | (with_reducible exact rgc) | (with_reducible refine RingM.set ?_ _ (by omega))))
   · refine ⟨rfl, SightTold.intro ya.now.heap.size va jb jc ?_ (by kernel_rfl) ⟨hva0, by omega⟩ hjb hjc (by omega) ?_ ?_⟩
     · repeat' (first | (with_reducible exact BelowX.refl _ _ _) | (with_reducible assumption) | (with_reducible refine RExt.belowX _ ?_ ?_) | (with_reducible refine Ext.belowX _ ?_ ?_) | (with_reducible refine BelowX.alloc ?_ ?_ _) | (with_reducible refine BelowX.drew ?_) | (with_reducible refine BelowX.setCell ?_ ?_ _) | (with_reducible exact Nat.le_refl _) | omega | (simp; done) | (simp [go_sem]; done) | (simp at *; omega))
     · refine SightBox.stored (v0 := 0) (v1 := 0) (v2 := 0) (v3 := 0) (v4 := 0) (v5 := 0) (v6 := 0) (v7 := 0) (v8 := 0) ?_ hwa _ _ _ _ _ _ _ _
       (repeat (first | (with_reducible exact SightBox.new' _ _ rfl) | (with_reducible refine SightBox.drew ?_) | (with_reducible refine SightBox.rext ?_ (by omega) _) | (with_reducible refine SightBox.alloc ?_ _) | exact SightBox.new' _ _ (by simp)))
     · (repeat (first | (with_reducible exact rgc) | (with_reducible refine RingM.set ?_ _ (by omega))))
   · refine ⟨rfl, SightTold.intro W3.heap.size va jb jc ?_ (by kernel_rfl) ⟨hva0, by omega⟩ hjb hjc (by omega) ?_ ?_⟩
     · repeat' (first | (with_reducible exact BelowX.refl _ _ _) | (with_reducible assumption) | (with_reducible refine RExt.belowX _ ?_ ?_) | (with_reducible refine Ext.belowX _ ?_ ?_) | (with_reducible refine BelowX.alloc ?_ ?_ _) | (with_reducible refine BelowX.drew ?_) | (with_reducible refine BelowX.setCell ?_ ?_ _) | (with_reducible exact Nat.le_refl _) | omega | (simp; done) | (simp [go_sem]; done) | (simp at *; omega))
     · refine SightBox.stored (v0 := 0) (v1 := 0) (v2 := 0) (v3 := 0) (v4 := 0) (v5 := 0) (v6 := 0) (v7 := 0) (v8 := 0) ?_ hwa _ _ _ _ _ _ _ _
       (repeat (first | (with_reducible exact SightBox.new' _ _ rfl) | (with_reducible refine SightBox.drew ?_) | (with_reducible refine SightBox.rext ?_ (by omega) _) | (with_reducible refine SightBox.alloc ?_ _) | exact SightBox.new' _ _ (by simp)))
     · (repeat (first | (with_reducible exact rgc) | (with_reducible refine RingM.set ?_ _ (by omega))))
  rintro a' W4 ⟨BX, kd, j, i, y4, ha4, rfl, ⟨kd0, kd1⟩, hj, hi, hBX, hbx, hrg⟩
  generalize a'.tmps.getD 14 undef = u14 at ha4
  generalize a'.tmps.getD 15 undef = u15 at ha4
  generalize a'.tmps.getD 16 undef = u16 at ha4
  generalize a'.tmps.getD 17 undef = u17 at ha4
  generalize a'.tmps.getD 18 undef = u18 at ha4
  generalize a'.tmps.getD 19 undef = u19 at ha4
  generalize a'.tmps.getD 20 undef = u20 at ha4
  generalize a'.tmps.getD 21 undef = u21 at ha4
  generalize a'.tmps.getD 22 undef = u22 at ha4
  generalize a'.tmps.getD 23 undef = u23 at ha4
  generalize a'.tmps.getD 24 undef = u24 at ha4
  generalize a'.tmps.getD 25 undef = u25 at ha4
  generalize a'.tmps.getD 26 undef = u26 at ha4
  generalize a'.tmps.getD 27 undef = u27 at ha4
  generalize a'.tmps.getD 28 undef = u28 at ha4
  generalize a'.tmps.getD 29 undef = u29 at ha4
  generalize a'.tmps.getD 30 undef = u30 at ha4
  generalize a'.tmps.getD 31 undef = u31 at ha4
  generalize a'.tmps.getD 32 undef = u32 at ha4
  generalize a'.tmps.getD 33 undef = u33 at ha4
  generalize a'.tmps.getD 34 undef = u34 at ha4
  generalize a'.tmps.getD 35 undef = u35 at ha4
  generalize a'.tmps.getD 36 undef = u36 at ha4
  generalize a'.tmps.getD 37 undef = u37 at ha4
  generalize a'.tmps.getD 38 undef = u38 at ha4
  subst ha4
  simp only [sets, List.foldl_cons, List.foldl_nil, List.set_cons_succ, List.set_cons_zero]
  have sy4 := y4.size
  have k0 := (y4.cell l30 hn0).trans c0o
  have k1 := (y4.cell l30 hn0).trans c1o
  have k2 := (y4.cell l30 hn0).trans c2o
  have k3 := (y4.cell l30 hn0).trans c3o
  have p0 := (y4.cell l31 hn1).trans p0o
  have p1 := (y4.cell l31 hn1).trans p1o
  have hres := Go.Lib.hid (hres.out.rext hn2 y4)
  have hA4 : s.AtX (b + 1) y4.now := hAo.rext (by omega) y4
  have hB4 : BelowX b w.heap.size w y4.now := by repeat' (first | (with_reducible exact BelowX.refl _ _ _) | (with_reducible assumption) | (with_reducible refine RExt.belowX _ ?_ ?_) | (with_reducible refine Ext.belowX _ ?_ ?_) | (with_reducible refine BelowX.alloc ?_ ?_ _) | (with_reducible refine BelowX.drew ?_) | (with_reducible refine BelowX.setCell ?_ ?_ _) | (with_reducible exact Nat.le_refl _) | omega | (simp; done) | (simp [go_sem]; done) | (simp at *; omega))
  have l4 : w.heap.size + 1 + 1 < y4.now.heap.size := by omega
  have l40 : w.heap.size < y4.now.heap.size := by omega
  have l41 : w.heap.size + 1 < y4.now.heap.size := by omega
  have hBXw : w.heap.size + 1 + 1 < BX := by omega
  have hBXb : BX ≠ b := by omega
  have hb4 : b < y4.now.heap.size := by omega
  clear c0o c1o c2o c3o p0o p1o hAo hro hBo l3 l30 l31 l32 l33 nb3 hrB q1o q2o nb1 nb2 hBX
  generalize y4.now = W4 at *
  clear sy4
  clear y4
  have hcw := cw.out (fid j) W4 hA4
  obtain ⟨hw1, hw2⟩ := where_small hS (fid j) t
  unfold pairV at hcw
  generalize whereV s (fid j) t = rr at *
  obtain ⟨⟨ox, oy⟩, ob⟩ := rr
  simp only at hcw hw1 hw2
  clear cw hA4
  have hbx0 := Go.Lib.hid hbx
  obtain ⟨x0, x1, x2, x3, x4, x5, x6, x7, x8, f0, f1, f2, f3, f4, f5, f6, f7, f8, xlt⟩ := hbx
  have hpx1 : -1000002040 ≤ px - ox ∧ px - ox ≤ 1000002040 := by omega
  have hpy1 : -1000002040 ≤ py - oy ∧ py - oy ≤ 1000002040 := by omega
  obtain ⟨dx, hdx⟩ : ∃ d, px - ox = d := ⟨_, rfl⟩
  obtain ⟨dy, hdy⟩ : ∃ d, py - oy = d := ⟨_, rfl⟩
  rw [hdx] at hpx1
  rw [hdy] at hpy1
  go_wp2_with (first | ((first | with_reducible refine wp_region_ext2 (by kernel_rfl) (by kernel_rfl) ?_ | with_reducible refine wp_region_ext (by kernel_rfl) (by kernel_rfl) ?_); (repeat (first | go_big_quiet_step ((first | (go_at_call 63; with_reducible exact Calls.ext (hcw)))) | quiet_step ((first | (go_at_call 63; with_reducible exact Calls.ext (hcw)))))); refine wpQuiet_nil ?_; rintro _ ⟨yr, rfl⟩; have syr := Ext.size yr; (repeat (first | rw [World.size_alloc] at syr | rw [World.size_setCell] at syr | rw [World.size_drew] at syr)); have : BX < yr.now.heap.size := (by omega); have : BX ≤ yr.now.heap.size := (by omega); have : BX < yr.now.heap.size + 1 + 1 := (by omega); have : w.heap.size < yr.now.heap.size := (by omega); have : w.heap.size ≤ yr.now.heap.size := (by omega); have : w.heap.size < yr.now.heap.size + 1 + 1 := (by omega); have : w.heap.size + 1 < yr.now.heap.size := (by omega); have : w.heap.size + 1 ≤ yr.now.heap.size := (by omega); have : w.heap.size + 1 < yr.now.heap.size + 1 + 1 := (by omega)) | (go_at_call 63; (first | with_reducible refine (Calls.giv2 (hcw)).mono ?_ | with_reducible refine (Calls.giv (hcw)).mono ?_); rintro _ _ ⟨y1, rfl, rfl⟩; have sy1 := Ext.size y1; (repeat (first | rw [World.size_alloc] at sy1 | rw [World.size_setCell] at sy1 | rw [World.size_drew] at sy1)); have : BX < y1.now.heap.size := (by omega); have : BX ≤ y1.now.heap.size := (by omega); have : BX < y1.now.heap.size + 1 + 1 := (by omega); have : w.heap.size < y1.now.heap.size := (by omega); have : w.heap.size ≤ y1.now.heap.size := (by omega); have : w.heap.size < y1.now.heap.size + 1 + 1 := (by omega); have : w.heap.size + 1 < y1.now.heap.size := (by omega); have : w.heap.size + 1 ≤ y1.now.heap.size := (by omega); have : w.heap.size + 1 < y1.now.heap.size + 1 + 1 := (by omega)))
  have hbx5 := Go.Lib.hid (((hbx0.out.ext y1).alloc _).ext yr)
  have hrg5 : RingM yr.now b (m + 1 + 1 + 1) := ((hrg.ext y1).alloc _).ext yr
  have hres5 := Go.Lib.hid (((hres.out.ext y1).alloc _).ext yr)
  have hB5 : BelowX b w.heap.size w yr.now := by repeat' (first | (with_reducible exact BelowX.refl _ _ _) | (with_reducible assumption) | (with_reducible refine RExt.belowX _ ?_ ?_) | (with_reducible refine Ext.belowX _ ?_ ?_) | (with_reducible refine BelowX.alloc ?_ ?_ _) | (with_reducible refine BelowX.drew ?_) | (with_reducible refine BelowX.setCell ?_ ?_ _) | (with_reducible exact Nat.le_refl _) | omega | (simp; done) | (simp [go_sem]; done) | (simp at *; omega))
  have l5 : BX < yr.now.heap.size := by omega
  have lb5 : b < yr.now.heap.size := by omega
  clear k0 k1 k2 k3 p0 p1 hres hB4 hrg hbx0 hcw x0 x1 x2 x3 x4 x5 x6 x7 x8 f0 f1 f2 f3 f4 f5 f6 f7 f8 l4 l40 l41 hb4
  generalize y1.now.heap.size = zz at *
  generalize yr.now = W5 at *
  clear xlt
  have hbx6 := hbx5.out
  obtain ⟨x0, x1, x2, x3, x4, x5, x6, x7, x8, f0, f1, f2, f3, f4, f5, f6, f7, f8, xlt⟩ := hbx6
  go_wp2_with (first | ((first | with_reducible refine wp_region_ext2 (by kernel_rfl) (by kernel_rfl) ?_ | with_reducible refine wp_region_ext (by kernel_rfl) (by kernel_rfl) ?_); (repeat (first | go_big_quiet_step ((first | fail)) | quiet_step ((first | fail)))); refine wpQuiet_nil ?_; rintro _ ⟨yr, rfl⟩; have syr := Ext.size yr; (repeat (first | rw [World.size_alloc] at syr | rw [World.size_setCell] at syr | rw [World.size_drew] at syr))) | (go_at_call 22; (with_reducible refine Calls.mono (Next_y 40000 b (m + 1 + 1 + 1) _ (by omega) (by omega) (by omega) ?_) ?_); (focus ((repeat (first | (with_reducible assumption) | (with_reducible refine RingM.alloc ?_ _) | (with_reducible refine RingM.drew ?_) | (with_reducible refine RingM.ext ?_ _) | (with_reducible refine RingM.set ?_ _ (by omega)))); done)); (rintro _ _ ⟨yx1, vx1, rfl, hvx1, rfl, rgx1⟩); have syx1 := RExt.size yx1; (repeat (first | rw [World.size_alloc] at syx1 | rw [World.size_setCell] at syx1 | rw [World.size_drew] at syx1))))
  have hbx7 : SightBox (((yx1.now.setCell ⟨BX, 4, none⟩ (.int .i64 dx)).setCell ⟨BX, 5, none⟩ (.int .i64 dy)).setCell ⟨BX, 6, none⟩ (.int .i64 vx1)) BX (1 + kd) (fid j) (fve i) t dx dy vx1 0 0 := (((hbx5.out.rext hBXb yx1).set4 dx).set5 dy).set6 vx1
  have hrg7 : RingM (((yx1.now.setCell ⟨BX, 4, none⟩ (.int .i64 dx)).setCell ⟨BX, 5, none⟩ (.int .i64 dy)).setCell ⟨BX, 6, none⟩ (.int .i64 vx1)) b (m + 1 + 1 + 1 + 1) := ((rgx1.set _ (by omega)).set _ (by omega)).set _ (by omega)
  have hres7 : SightBox (((yx1.now.setCell ⟨BX, 4, none⟩ (.int .i64 dx)).setCell ⟨BX, 5, none⟩ (.int .i64 dy)).setCell ⟨BX, 6, none⟩ (.int .i64 vx1)) (w.heap.size + 1 + 1) 0 0 0 0 0 0 0 0 0 := (((hres5.out.rext hn2 yx1).put hBXw _ _).put hBXw _ _).put hBXw _ _
  have hB7 : BelowX b w.heap.size w (((yx1.now.setCell ⟨BX, 4, none⟩ (.int .i64 dx)).setCell ⟨BX, 5, none⟩ (.int .i64 dy)).setCell ⟨BX, 6, none⟩ (.int .i64 vx1)) := by repeat' (first | (with_reducible exact BelowX.refl _ _ _) | (with_reducible assumption) | (with_reducible refine RExt.belowX _ ?_ ?_) | (with_reducible refine Ext.belowX _ ?_ ?_) | (with_reducible refine BelowX.alloc ?_ ?_ _) | (with_reducible refine BelowX.drew ?_) | (with_reducible refine BelowX.setCell ?_ ?_ _) | (with_reducible exact Nat.le_refl _) | omega | (simp; done) | (simp [go_sem]; done) | (simp at *; omega))
  obtain ⟨er0, er1⟩ := hvx1
  generalize vx1 = er at *
  clear hbx5 hrg5 hres5 hB5 x0 x1 x2 x3 x4 x5 x6 x7 x8 f0 f1 f2 f3 f4 f5 f6 f7 f8 xlt l5 lb5 rgx1
  generalize ((yx1.now.setCell ⟨BX, 4, none⟩ (.int .i64 dx)).setCell ⟨BX, 5, none⟩ (.int .i64 dy)).setCell ⟨BX, 6, none⟩ (.int .i64 er) = W7 at *
  clear syx1
  clear yx1
  have hdx0 : -1000002040 ≤ dx ∧ dx ≤ 1000002040 := hpx1
  have hdy0 : -1000002040 ≤ dy ∧ dy ≤ 1000002040 := hpy1
  clear hpx1 hpy1 hdx hdy
  go_loopw [12, 13] (fun u v W => ∃ (dx dy : Int) (z : RExt w b), u = .int .i64 dx ∧ v = .int .i64 dy ∧ W = z.now ∧ Hid (SightBox z.now BX (1 + kd) (fid j) (fve i) t dx dy er 0 0 ∧ SightBox z.now (w.heap.size + 1 + 1) 0 0 0 0 0 0 0 0 0) ∧ RingM z.now b (m + 1 + 1 + 1 + 1) ∧ (-1000002040 ≤ dx ∧ dx ≤ 1000002040) ∧ -1000002040 ≤ dy ∧ dy ≤ 1000002040) (fun u v _ => (intOf u).natAbs + (intOf v).natAbs)
  case atStart => exact ⟨dx, dy, ⟨W7, hB7⟩, rfl, rfl, rfl, Go.Lib.hid ⟨hbx7, hres7⟩, hrg7, hdx0, hdy0⟩
  case round =>
    clear hbx7 hrg7 hres7 hB7 hdx0 hdy0
    obtain ⟨ex, ey, z, rfl, rfl, rfl, hi, hrg, ⟨d0, d1⟩, d2, d3⟩ := hrel
    have hbx := hi.out.1
    have zs := z.size
    have hzB : BelowX b w.heap.size w z.now := z.grew
    obtain ⟨x0, x1, x2, x3, x4, x5, x6, x7, x8, f0, f1, f2, f3, f4, f5, f6, f7, f8, xlt⟩ := hbx
    by_cases hc : (-4096 ≤ ex ∧ ex ≤ 4096) ∧ -4096 ≤ ey ∧ ey ≤ 4096
    case neg =>
      obtain ⟨qx, hqx⟩ : ∃ q, ex.tdiv 2 = q := ⟨_, rfl⟩
      obtain ⟨qy, hqy⟩ : ∃ q, ey.tdiv 2 = q := ⟨_, rfl⟩
      have hx2 := half_in ex
      have hy2 := half_in ey
      rw [hqx] at hx2
      rw [hqy] at hy2
      rcases (show 4096 < ex ∨ (¬ 4096 < ex ∧ 4096 < -ex) ∨ (¬ 4096 < ex ∧ ¬ 4096 < -ex ∧ 4096 < ey) ∨ (¬ 4096 < ex ∧ ¬ 4096 < -ex ∧ ¬ 4096 < ey ∧ 4096 < -ey) by omega) with h1 | ⟨h1, h2⟩ | ⟨h1, h2, h3⟩ | ⟨h1, h2, h3, h4⟩
      all_goals
        go_wp2_with (first | ((first | with_reducible refine wp_region_ext2 (by kernel_rfl) (by kernel_rfl) ?_ | with_reducible refine wp_region_ext (by kernel_rfl) (by kernel_rfl) ?_); (repeat (first | go_big_quiet_step ((first | fail)) | quiet_step ((first | fail)))); refine wpQuiet_nil ?_; rintro _ ⟨yr, rfl⟩; have syr := Ext.size yr; (repeat (first | rw [World.size_alloc] at syr | rw [World.size_setCell] at syr | rw [World.size_drew] at syr)); have : BX < yr.now.heap.size := (by omega); have : BX ≤ yr.now.heap.size := (by omega); have : BX < yr.now.heap.size + 1 + 1 := (by omega)))
        have hBq : BelowX b w.heap.size w ((z.now.setCell ⟨BX, 4, none⟩ (.int .i64 qx)).setCell ⟨BX, 5, none⟩ (.int .i64 qy)) := by repeat' (first | (with_reducible exact BelowX.refl _ _ _) | (with_reducible assumption) | (with_reducible refine RExt.belowX _ ?_ ?_) | (with_reducible refine Ext.belowX _ ?_ ?_) | (with_reducible refine BelowX.alloc ?_ ?_ _) | (with_reducible refine BelowX.drew ?_) | (with_reducible refine BelowX.setCell ?_ ?_ _) | (with_reducible exact Nat.le_refl _) | omega | (simp; done) | (simp [go_sem]; done) | (simp at *; omega))
        exact ⟨⟨qx, qy, ⟨(z.now.setCell ⟨BX, 4, none⟩ (.int .i64 qx)).setCell ⟨BX, 5, none⟩ (.int .i64 qy), hBq⟩, rfl, rfl, rfl, Go.Lib.hid ⟨(hi.out.1.set4 qx).set5 qy, (hi.out.2.put hBXw _ _).put hBXw _ _⟩, (hrg.set _ (by omega)).set _ (by omega), by omega, by omega⟩, by simp only [intOf]; omega⟩
    case pos =>
      have g1 : ¬ 4096 < ex := by omega
      have g2 : ¬ 4096 < -ex := by omega
      have g3 : ¬ 4096 < ey := by omega
      have g4 : ¬ 4096 < -ey := by omega
      have hres := hi.out.2
      have hb0 := hi.out.1
      clear x0 x1 x2 x3 x4 x5 x6 x7 x8 f0 f1 f2 f3 f4 f5 f6 f7 f8 xlt
      go_upto_region 8 with fail
      go_cut [93] from 88 to 95 (fun s93 wx => s93 = .bool (decide (ex = 0 ∧ ey = 0)) ∧ wx = z.now)
      case first =>
        obtain ⟨qx, hqx⟩ : ∃ q, (ex == 0) = q := ⟨_, rfl⟩
        obtain ⟨qy, hqy⟩ : ∃ q, (ey == 0) = q := ⟨_, rfl⟩
        have hV : decide (ex = 0 ∧ ey = 0) = (qx && qy) := by rw [← hqx, ← hqy, Bool.eq_iff_iff]; simp
        replace hV := Go.Lib.hid hV
        cases qx <;> cases qy
        all_goals
          go_wp2_with fail
          go_meet
          exact ⟨by rw [hV.out]; simp [*], rfl⟩
      case rest =>
      obtain ⟨rfl, rfl⟩ := hcut
      obtain ⟨V, hV⟩ : ∃ V, decide (ex = 0 ∧ ey = 0) = V := ⟨_, rfl⟩
      rw [hV]
      replace hV := Go.Lib.hid hV
      go_upto_if 93 with fail
      go_cut [93] from 94 to 95 (fun _ wx => ∃ ux uy, Hid (SightBox wx BX (1 + kd) (fid j) (fve i) t ux uy er 0 0) ∧ Hid (SightBox wx (w.heap.size + 1 + 1) 0 0 0 0 0 0 0 0 0) ∧ RingM wx b (m + 1 + 1 + 1 + 1) ∧ BelowX b w.heap.size w wx ∧ ((-4096 ≤ ux ∧ ux ≤ 4096) ∧ -4096 ≤ uy ∧ uy ≤ 4096) ∧ ¬ (ux = 0 ∧ uy = 0))
      case first =>
        cases V with
        | true =>
          have h0 : ex = 0 ∧ ey = 0 := of_decide_eq_true hV.out
          obtain ⟨x0, x1, x2, x3, x4, x5, x6, x7, x8, f0, f1, f2, f3, f4, f5, f6, f7, f8, xlt⟩ := hb0
          have hbz : SightBox z.now BX (1 + kd) (fid j) (fve i) t ex 0 er 0 0 := by
            have := hi.out.1
            rw [h0.2] at this
            exact this
          have hbz := Go.Lib.hid hbz
          replace h0 := Go.Lib.hid h0
          go_wp2_with fail
          go_meet
          exact ⟨1, 0, Go.Lib.hid (hbz.out.set4 1), Go.Lib.hid (hres.put hBXw 4 (.int .i64 1)), hrg.set _ (by omega), hzB.setCell (by dsimp only; omega) _, by omega, by omega⟩
        | false =>
          have h0 : ¬ (ex = 0 ∧ ey = 0) := of_decide_eq_false hV.out
          replace h0 := Go.Lib.hid h0
          go_wp2_with fail
          go_meet
          exact ⟨ex, ey, Go.Lib.hid hi.out.1, Go.Lib.hid hres, hrg, hzB, hc, h0.out⟩
      case rest =>
      obtain ⟨ux, uy, hb8c, hres8, hrg8, hB8, ⟨⟨u0, u1⟩, u2, u3⟩, u4⟩ := hcut
      generalize wc = W8 at *
      clear hi hres hb0 hrg hzB zs d0 d1 d2 d3 hc g1 g2 g3 g4
      clear z
      obtain ⟨x0, x1, x2, x3, x4, x5, x6, x7, x8, f0, f1, f2, f3, f4, f5, f6, f7, f8, xlt⟩ := hb8c.out
      go_wp2_with (first | ((first | with_reducible refine wp_region_ext2 (by kernel_rfl) (by kernel_rfl) ?_ | with_reducible refine wp_region_ext (by kernel_rfl) (by kernel_rfl) ?_); (repeat (first | go_big_quiet_step ((first | fail)) | quiet_step ((first | fail)))); refine wpQuiet_nil ?_; rintro _ ⟨yr, rfl⟩; have syr := Ext.size yr; (repeat (first | rw [World.size_alloc] at syr | rw [World.size_setCell] at syr | rw [World.size_drew] at syr))) | (go_at_call 22; (with_reducible refine Calls.mono (Next_y 1000 b (m + 1 + 1 + 1 + 1) _ (by omega) (by omega) (by omega) ?_) ?_); (focus ((repeat (first | (with_reducible assumption) | (with_reducible refine RingM.alloc ?_ _) | (with_reducible refine RingM.drew ?_) | (with_reducible refine RingM.ext ?_ _) | (with_reducible refine RingM.set ?_ _ (by omega)))); done)); (rintro _ _ ⟨yx1, vx1, rfl, hvx1, rfl, rgx1⟩); have syx1 := RExt.size yx1; (repeat (first | rw [World.size_alloc] at syx1 | rw [World.size_setCell] at syx1 | rw [World.size_drew] at syx1))))
      have hs8 : w.heap.size ≤ W8.heap.size := hB8.size
      have hb9 : SightBox (yx1.now.setCell ⟨BX, 7, none⟩ (.int .i64 vx1)) BX (1 + kd) (fid j) (fve i) t ux uy er vx1 0 := (hb8c.out.rext hBXb yx1).set7 vx1
      have hrg9 : RingM (yx1.now.setCell ⟨BX, 7, none⟩ (.int .i64 vx1)) b (m + 1 + 1 + 1 + 1 + 1) := rgx1.set _ (by omega)
      have hres9 : SightBox (yx1.now.setCell ⟨BX, 7, none⟩ (.int .i64 vx1)) (w.heap.size + 1 + 1) 0 0 0 0 0 0 0 0 0 := (hres8.out.rext hn2 yx1).put hBXw _ _
      have hB9 : BelowX b w.heap.size w (yx1.now.setCell ⟨BX, 7, none⟩ (.int .i64 vx1)) := (RExt.belowX yx1 hB8 hs8).setCell (by dsimp only; omega) _
      obtain ⟨lo0, lo1⟩ := hvx1
      clear hb8c hrg8 hres8 hB8 x0 x1 x2 x3 x4 x5 x6 x7 x8 f0 f1 f2 f3 f4 f5 f6 f7 f8 xlt rgx1
      generalize vx1 = lo at *
      generalize yx1.now.setCell ⟨BX, 7, none⟩ (.int .i64 lo) = W9 at *
      clear syx1
      clear yx1
      have hb9c := Go.Lib.hid hb9
      have hres9 := Go.Lib.hid hres9
      obtain ⟨x0, x1, x2, x3, x4, x5, x6, x7, x8, f0, f1, f2, f3, f4, f5, f6, f7, f8, xlt⟩ := hb9
      have hb9s : b < W9.heap.size := hrg9.lt
      go_region_held3 (fun W => W.cell? ⟨BX, 7, none⟩ = some (.int .i64 lo)) ((first | exact x7h | exact x7 | exact cell_dr x7 | (simp [go_sem, x7h]; done)))
        (first
          | (go_at_call 22; (with_reducible refine Calls.mono (Next_y 6000 b (m + 1 + 1 + 1 + 1 + 1) _ (by omega) (by omega) (by omega) ?_) ?_); (focus ((repeat (first | (with_reducible assumption) | (with_reducible refine RingM.drew ?_))); done)); (rintro _ _ ⟨yh, vh, rfl, ⟨vh0, vh1⟩, rfl, rgh⟩); have syh := RExt.size yh; (repeat (first | rw [World.size_drew] at syh)); have : BX < yh.now.heap.size := (by omega); have x7h : yh.now.cell? ⟨BX, 7, none⟩ = some (.int .i64 lo) := (yh.cell (by (try simp only [World.size_drew]); omega) hBXb).trans x7; have x8h : yh.now.cell? ⟨BX, 8, none⟩ = some (.int .i64 0) := (yh.cell (by (try simp only [World.size_drew]); omega) hBXb).trans x8; have f8h : yh.now.frozen? ⟨BX, 8, none⟩ = false := (yh.frozen (by (try simp only [World.size_drew]); omega) hBXb).trans f8))
      rename_i hHeld
      clear hHeld x7h x8h f8h x0 x1 x2 x3 x4 x5 x6 x7 x8 f0 f1 f2 f3 f4 f5 f6 f7 f8
      have hw1 : IntKind.i64.wrap (1 + vh) = 1 + vh := IntWalk.i64_in _ (by omega)
      have hw2 : IntKind.i64.wrap (lo + (1 + vh)) = lo + (1 + vh) := IntWalk.i64_in _ (by omega)
      simp only [hw1, hw2]
      clear hw1 hw2
      obtain ⟨ho, hho⟩ : ∃ h, lo + (1 + vh) = h := ⟨_, rfl⟩
      simp only [hho]
      have ho1 : 1 ≤ ho ∧ ho ≤ 7000 ∧ lo < ho := by omega
      have hs9 : w.heap.size ≤ W9.drew.heap.size := by have := hB9.size; simpa only [World.size_drew] using this
      have hb10 : SightBox (yh.now.setCell ⟨BX, 8, none⟩ (.int .i64 ho)) BX (1 + kd) (fid j) (fve i) t ux uy er lo ho := (hb9c.out.drew.rext hBXb yh).set8 ho
      have hrg10 : RingM (yh.now.setCell ⟨BX, 8, none⟩ (.int .i64 ho)) b (m + 1 + 1 + 1 + 1 + 1 + 1) := rgh.set _ (by omega)
      have hres10 : SightBox (yh.now.setCell ⟨BX, 8, none⟩ (.int .i64 ho)) (w.heap.size + 1 + 1) 0 0 0 0 0 0 0 0 0 := (hres9.out.drew.rext hn2 yh).put hBXw _ _
      have hB10 : BelowX b w.heap.size w (yh.now.setCell ⟨BX, 8, none⟩ (.int .i64 ho)) := (RExt.belowX yh hB9.drew hs9).setCell (by dsimp only; omega) _
      clear hb9c hrg9 hres9 hB9 xlt rgh this hs9
      generalize yh.now.setCell ⟨BX, 8, none⟩ (.int .i64 ho) = W10 at *
      clear syh vh0 vh1 hho
      clear yh
      have hb10 := Go.Lib.hid hb10
      have hres10 := Go.Lib.hid hres10
      obtain ⟨x0, x1, x2, x3, x4, x5, x6, x7, x8, f0, f1, f2, f3, f4, f5, f6, f7, f8, xlt⟩ := hb10.out
      obtain ⟨V3, hV3⟩ : ∃ V, ((1 + kd) == 3) = V := ⟨_, rfl⟩
      go_upto_if 108 with fail
      clear x0 x1 x2 x3 x4 x5 x6 x7 x8 f0 f1 f2 f3 f4 f5 f6 f7 f8 xlt
      replace hV3 := Go.Lib.hid hV3
      go_cut [] from 109 to 126 (fun wx => ∃ fx fy fh, Hid (SightBox wx BX (1 + kd) (fid j) (fve i) t fx fy er lo fh) ∧ Hid (SightBox wx (w.heap.size + 1 + 1) 0 0 0 0 0 0 0 0 0) ∧ RingM wx b (m + 9) ∧ BelowX b w.heap.size w wx ∧ ((-4096 ≤ fx ∧ fx ≤ 4096) ∧ -4096 ≤ fy ∧ fy ≤ 4096) ∧ ¬ (fx = 0 ∧ fy = 0) ∧ (1 ≤ fh ∧ fh ≤ 7000) ∧ (1 + kd = 3 ∨ lo < fh))
      case first =>
        cases V3 with
        | true =>
          have h4 : 1 + kd = 3 := eq_of_beq hV3.out
          replace h4 := Go.Lib.hid h4
          obtain ⟨x0, x1, x2, x3, x4, x5, x6, x7, x8, f0, f1, f2, f3, f4, f5, f6, f7, f8, xlt⟩ := hb10.out
          go_wp2_with (first | ((first | with_reducible refine wp_region_ext2 (by kernel_rfl) (by kernel_rfl) ?_ | with_reducible refine wp_region_ext (by kernel_rfl) (by kernel_rfl) ?_); (repeat (first | go_big_quiet_step ((first | fail)) | quiet_step ((first | fail)))); refine wpQuiet_nil ?_; rintro _ ⟨yr, rfl⟩; have syr := Ext.size yr; (repeat (first | rw [World.size_alloc] at syr | rw [World.size_setCell] at syr | rw [World.size_drew] at syr))))
          have hb11 := Go.Lib.hid ((hb10.out.set4 (-uy)).set5 ux)
          have hrg11 : RingM ((W10.setCell ⟨BX, 4, none⟩ (.int .i64 (-uy))).setCell ⟨BX, 5, none⟩ (.int .i64 ux)) b (m + 1 + 1 + 1 + 1 + 1 + 1) := (hrg10.set _ (by omega)).set _ (by omega)
          have hres11 := Go.Lib.hid ((hres10.out.put hBXw 4 (.int .i64 (-uy))).put hBXw 5 (.int .i64 ux))
          have hB11 : BelowX b w.heap.size w ((W10.setCell ⟨BX, 4, none⟩ (.int .i64 (-uy))).setCell ⟨BX, 5, none⟩ (.int .i64 ux)) := (hB10.setCell (by dsimp only; omega) _).setCell (by dsimp only; omega) _
          clear hb10 hrg10 hres10 hB10 x0 x1 x2 x3 x4 x5 x6 x7 x8 f0 f1 f2 f3 f4 f5 f6 f7 f8 xlt
          generalize (W10.setCell ⟨BX, 4, none⟩ (.int .i64 (-uy))).setCell ⟨BX, 5, none⟩ (.int .i64 ux) = W11 at *
          have hs11 : w.heap.size ≤ W11.heap.size := hB11.size
          go_wp2_with (first | ((first | with_reducible refine wp_region_ext2 (by kernel_rfl) (by kernel_rfl) ?_ | with_reducible refine wp_region_ext (by kernel_rfl) (by kernel_rfl) ?_); (repeat (first | go_big_quiet_step ((first | fail)) | quiet_step ((first | fail)))); refine wpQuiet_nil ?_; rintro _ ⟨yr, rfl⟩; have syr := Ext.size yr; (repeat (first | rw [World.size_alloc] at syr | rw [World.size_setCell] at syr | rw [World.size_drew] at syr))) | (have _ := hb12; go_at_call 22; (with_reducible refine Calls.mono (Next_y 300 b (m + 1 + 1 + 1 + 1 + 1 + 1 + 1) _ (by omega) (by omega) (by omega) rga) ?_); (rintro _ _ ⟨yb, vb, rfl, ⟨hvb0, hvb1⟩, rfl, rgb⟩); have hb13 := Go.Lib.hid (hb12.out.rext hBXb yb); have hres13 := Go.Lib.hid (hres12.out.rext hn2 yb); have hB13 : BelowX b w.heap.size w yb.now := (RExt.belowX yb hB12 hs12); clear hb12 hres12 hB12 rga x0 x1 x2 x3 x4 x5 x6 x7 x8 f0 f1 f2 f3 f4 f5 f6 f7 f8 xlt; generalize yb.now = W13 at *; clear yb; have hs13 : w.heap.size ≤ W13.heap.size := hB13.size; obtain ⟨x0, x1, x2, x3, x4, x5, x6, x7, x8, f0, f1, f2, f3, f4, f5, f6, f7, f8, xlt⟩ := hb13.out) | (go_at_call 22; (with_reducible refine Calls.mono (Next_y 3 b (m + 1 + 1 + 1 + 1 + 1 + 1) _ (by omega) (by omega) (by omega) hrg11) ?_); (rintro _ _ ⟨ya, va, rfl, ⟨hva0, hva1⟩, rfl, rga⟩); have hb12 := Go.Lib.hid (hb11.out.rext hBXb ya); have hres12 := Go.Lib.hid (hres11.out.rext hn2 ya); have hB12 : BelowX b w.heap.size w ya.now := (RExt.belowX ya hB11 hs11); clear hb11 hres11 hB11 hrg11; generalize ya.now = W12 at *; clear ya; have hs12 : w.heap.size ≤ W12.heap.size := hB12.size; obtain ⟨x0, x1, x2, x3, x4, x5, x6, x7, x8, f0, f1, f2, f3, f4, f5, f6, f7, f8, xlt⟩ := hb12.out))
          all_goals go_meet
          all_goals first
            | (have hh := hb13; exact ⟨-uy, ux, 1 + vb, Go.Lib.hid (hb13.out.set8 (1 + vb)), Go.Lib.hid (hres13.out.put hBXw 8 (.int .i64 (1 + vb))), RingM.mono (rgb.set _ (by omega)) (by omega), hB13.setCell (by dsimp only; omega) _, by omega, by omega, by omega, .inl h4.out⟩)
            | exact ⟨-uy, ux, ho, hb12, hres12, RingM.mono rga (by omega), hB12, by omega, by omega, by omega, .inl h4.out⟩
        | false =>
          go_wp2_with fail
          go_meet
          exact ⟨ux, uy, ho, hb10, hres10, RingM.mono hrg10 (by omega), hB10, ⟨⟨u0, u1⟩, u2, u3⟩, u4, by omega, .inr ho1.2.2⟩
      case rest =>
      obtain ⟨fx, fy, fh, hb14, hres14, hrg14, hB14, ⟨⟨fx0, fx1⟩, fy0, fy1⟩, fn, ⟨fh0, fh1⟩, forr⟩ := hcut
      generalize wc = W14 at *
      clear hb10 hres10 hrg10 hB10 ho1
      obtain ⟨x0, x1, x2, x3, x4, x5, x6, x7, x8, f0, f1, f2, f3, f4, f5, f6, f7, f8, xlt⟩ := hb14.out
      obtain ⟨r0, r1, r2, r3, r4, r5, r6, r7, r8, s0, s1, s2, s3, s4, s5, s6, s7, s8, rlt⟩ := hres14.out
      go_wp2_with (first | ((first | with_reducible refine wp_region_ext2 (by kernel_rfl) (by kernel_rfl) ?_ | with_reducible refine wp_region_ext (by kernel_rfl) (by kernel_rfl) ?_); (repeat (first | go_big_quiet_step ((first | fail)) | quiet_step ((first | fail)))); refine wpQuiet_nil ?_; rintro _ ⟨yr, rfl⟩; have syr := Ext.size yr; (repeat (first | rw [World.size_alloc] at syr | rw [World.size_setCell] at syr | rw [World.size_drew] at syr))))
      have hF := SightBox.store (hres14.out) (1 + kd) (fid j) (fve i) t (fx) (fy) er lo (fh); have hBf : BelowX b w.heap.size w ((((((((((W14).setCell ⟨w.heap.size + 1 + 1, 0, none⟩ (.int .i64 (1 + kd))).setCell ⟨w.heap.size + 1 + 1, 1, none⟩ (.int .i64 (fid j))).setCell ⟨w.heap.size + 1 + 1, 2, none⟩ (.int .i64 (fve i))).setCell ⟨w.heap.size + 1 + 1, 3, none⟩ (.int .i64 (t))).setCell ⟨w.heap.size + 1 + 1, 4, none⟩ (.int .i64 (fx))).setCell ⟨w.heap.size + 1 + 1, 5, none⟩ (.int .i64 (fy))).setCell ⟨w.heap.size + 1 + 1, 6, none⟩ (.int .i64 (er))).setCell ⟨w.heap.size + 1 + 1, 7, none⟩ (.int .i64 (lo))).setCell ⟨w.heap.size + 1 + 1, 8, none⟩ (.int .i64 (fh))) := (by repeat' (first | (with_reducible exact BelowX.refl _ _ _) | (with_reducible assumption) | (with_reducible refine RExt.belowX _ ?_ ?_) | (with_reducible refine Ext.belowX _ ?_ ?_) | (with_reducible refine BelowX.alloc ?_ ?_ _) | (with_reducible refine BelowX.drew ?_) | (with_reducible refine BelowX.setCell ?_ ?_ _) | (with_reducible exact Nat.le_refl _) | omega | (simp; done) | (simp [go_sem]; done) | (simp at *; omega))); have hRf : RingM ((((((((((W14).setCell ⟨w.heap.size + 1 + 1, 0, none⟩ (.int .i64 (1 + kd))).setCell ⟨w.heap.size + 1 + 1, 1, none⟩ (.int .i64 (fid j))).setCell ⟨w.heap.size + 1 + 1, 2, none⟩ (.int .i64 (fve i))).setCell ⟨w.heap.size + 1 + 1, 3, none⟩ (.int .i64 (t))).setCell ⟨w.heap.size + 1 + 1, 4, none⟩ (.int .i64 (fx))).setCell ⟨w.heap.size + 1 + 1, 5, none⟩ (.int .i64 (fy))).setCell ⟨w.heap.size + 1 + 1, 6, none⟩ (.int .i64 (er))).setCell ⟨w.heap.size + 1 + 1, 7, none⟩ (.int .i64 (lo))).setCell ⟨w.heap.size + 1 + 1, 8, none⟩ (.int .i64 (fh))) b (m + 9) := RingM.mono ((((((((((hrg14).set _ (by omega)).set _ (by omega)).set _ (by omega)).set _ (by omega)).set _ (by omega)).set _ (by omega)).set _ (by omega)).set _ (by omega)).set _ (by omega)) (by omega); generalize ((((((((((W14).setCell ⟨w.heap.size + 1 + 1, 0, none⟩ (.int .i64 (1 + kd))).setCell ⟨w.heap.size + 1 + 1, 1, none⟩ (.int .i64 (fid j))).setCell ⟨w.heap.size + 1 + 1, 2, none⟩ (.int .i64 (fve i))).setCell ⟨w.heap.size + 1 + 1, 3, none⟩ (.int .i64 (t))).setCell ⟨w.heap.size + 1 + 1, 4, none⟩ (.int .i64 (fx))).setCell ⟨w.heap.size + 1 + 1, 5, none⟩ (.int .i64 (fy))).setCell ⟨w.heap.size + 1 + 1, 6, none⟩ (.int .i64 (er))).setCell ⟨w.heap.size + 1 + 1, 7, none⟩ (.int .i64 (lo))).setCell ⟨w.heap.size + 1 + 1, 8, none⟩ (.int .i64 (fh))) = Wf at *; obtain ⟨z0, z1, z2, z3, z4, z5, z6, z7, z8, -, -, -, -, -, -, -, -, -, -⟩ := hF; refine bodyPost_ret (v := .agg #[.int .i64 (1 + kd), .int .i64 (fid j), .int .i64 (fve i), .int .i64 (t), .int .i64 (fx), .int .i64 (fy), .int .i64 (er), .int .i64 (lo), .int .i64 (fh)]) (by simp [results, Try.results44, go_sem, z0, z1, z2, z3, z4, z5, z6, z7, z8]) rfl ?_; exact ⟨⟨Wf, hBf⟩, ⟨1 + kd, fid j, fve i, t, ⟨fx, fy⟩, er, lo, fh⟩, rfl, ⟨by dsimp only; omega, rfl, ⟨s.sts[j]'(by rw [hns.out]; exact hj), List.getElem_mem _, hfid.out j (by rw [hns.out]; exact hj)⟩, ⟨s.cats[i]'(by rw [hnc.out]; exact hi), List.getElem_mem _, hfve.out i (by rw [hnc.out]; exact hi)⟩, by dsimp only; omega, by dsimp only; omega, by dsimp only; omega, by dsimp only; omega, by dsimp only; omega, by dsimp only; omega⟩, rfl, hRf⟩
end Go.Proofs.Ytgoilmiiegpnoaa

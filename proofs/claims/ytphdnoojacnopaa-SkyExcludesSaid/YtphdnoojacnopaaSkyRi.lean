/- Contract of the reference's Excludes of layer 2. Condition: a sky in memory. -/
import Derived.Test.YtphdnoojacnopaaSkyRh
namespace Go.Proofs.Ytphdnoojacnopaa
open Go.RowKit Go.Shelf
attribute [local go_sem] Option.isSome_some Ext.cell Ext.frozen Ext.lt Ext.le Ext.lt_add Ext.le_add Ext.ne Ext.ne' lt2 lt3 lt4 lt5 le2 le3 le4
set_option maxRecDepth 100000 in
set_option maxHeartbeats 16000000 in
/-- Excludes at ranges. -/
theorem refExcludes_ring (s : SkyR) (x : SightR) (k : LookR) (a b c d : Int) (w : World) (hP : s.At w) (hE : skyE s = 0) (hk : lookR s x = .ok k) (hkd : x.kind = 2) (hp1 : partB a b = true) (hp2 : partB c d = true) :
    Calls Try.prog 23 #[s.val, x.val, .agg #[.int .i64 a, .int .i64 b, .int .i64 c, .int .i64 d]] w (Gives (.bool (excl k.says (a - k.frm.x) (b - k.frm.x) (c - k.frm.y) (d - k.frm.y))) w) := by
  have cs := fun (W : World) (y : Below w.heap.size w W) => refCheckSight_any s x W (hP.on y)
  have hce : errOf (checkedR s x) = 0 := by unfold checkedR; rw [if_pos hE, hk]; rfl
  rw [hce] at cs
  have cA := fun W => refCheckArea_any a b c d W
  rw [hp1, hp2] at cA
  have cC := fun W => refCorners_any a b c d W
  obtain ⟨hg, kk1, kk2, -⟩ := look_word hk
  unfold wordR at hg
  rw [if_pos hkd] at hg
  have hb : 0 ≤ x.lo ∧ x.lo ≤ x.hi ∧ x.hi ≤ 134217728 ∧ k.says = .ring x.lo x.hi := by
    by_cases h3 : x.lo < 0 ∨ x.hi < x.lo ∨ 134217728 < x.hi
    · rw [if_pos h3] at hg; cases hg
    · rw [if_neg h3] at hg; injection hg with hg; exact ⟨by omega, by omega, by omega, hg.symm⟩
  obtain ⟨lo0, lohi, hi1, hsay⟩ := hb
  have hnear := corV_near hp1 hp2
  have cF := fun (W : World) (y : Below w.heap.size w W) i (hi : i < (corV a b c d).length) => refFar_any s x k (corV a b c d)[i] W (hP.on y) hE hk (hnear i hi)
  have hseen := fun i (hi : i < (corV a b c d).length) => sqV_in (seen_of hE hk (hnear i hi)).1 (seen_of hE hk (hnear i hi)).2
  have hlen : (corV a b c d).length = 4 := rfl
  have hpa := hp1
  have hpc := hp2
  unfold partB at hpa hpc
  simp only [Bool.and_eq_true, decide_eq_true_eq] at hpa hpc
  -- the nearest place
  have hmid : vwinB ⟨min (max k.frm.x a) b, min (max k.frm.y c) d⟩ 33554432 = true := by
    unfold vwinB winB; simp only [Bool.and_eq_true, decide_eq_true_eq]; omega
  have cN := fun (W : World) (y : Below w.heap.size w W) => refFar_any s x k ⟨min (max k.frm.x a) b, min (max k.frm.y c) d⟩ W (hP.on y) hE hk hmid
  have hNin := sqV_in (seen_of hE hk hmid).1 (seen_of hE hk hmid).2
  have hNe : sqV (min (max k.frm.x a) b - k.frm.x) (min (max k.frm.y c) d - k.frm.y) = sqV (nearV (a - k.frm.x) (b - k.frm.x)) (nearV (c - k.frm.y) (d - k.frm.y)) := by
    congr 1
    · unfold nearV; omega
    · unfold nearV; omega
  obtain ⟨ht, j, hj, e1, e2⟩ := look_from hk
  have n16 := (stationsE_zero (skyE_zero hE).2.1).1
  have cst := fun (W : World) (y : Below w.heap.size w W) => refStation_any s x.st W (hP.on y) (by omega)
  have cw := fun (W : World) (y : Below w.heap.size w W) => refWhereI_any s j x.tick W (hP.on y) hE ht hj
  rw [e1] at cst
  have f1 : (homeAt s x.tick).x + s.sts[j].off.x = k.frm.x := by rw [e2]
  have f2 : (homeAt s x.tick).y + s.sts[j].off.y = k.frm.y := by rw [e2]
  rw [f1, f2] at cw
  obtain ⟨m1, m2⟩ := mulb (A := 134217728) (B := 134217728) (a := x.lo) (b := x.lo) (by omega) (by omega) (by omega) (by omega)
  obtain ⟨m3, m4⟩ := mulb (A := 134217728) (B := 134217728) (a := x.hi) (b := x.hi) (by omega) (by omega) (by omega) (by omega)
  obtain ⟨V, hV⟩ : ∃ V, excl k.says (a - k.frm.x) (b - k.frm.x) (c - k.frm.y) (d - k.frm.y) = V := ⟨_, rfl⟩
  rw [hV]
  have hV2 : V = (((corV a b c d).all fun p => decide (sqV (p.x - k.frm.x) (p.y - k.frm.y) < x.lo * x.lo)) || decide (x.hi * x.hi < sqV (min (max k.frm.x a) b - k.frm.x) (min (max k.frm.y c) d - k.frm.y))) := by
    rw [← hV, hsay, hNe]
    simp only [excl, corV_all]
  clear hV hg hce hk hE hp1 hp2 hnear hsay hmid hNe e1 e2 f1 f2 ht hj n16 hpa hpc lo0 lohi hi1
  generalize corV a b c d = L at *
  obtain ⟨fN, hfN⟩ : ∃ f : V2 → Bool, (fun p => decide (sqV (p.x - k.frm.x) (p.y - k.frm.y) < x.lo * x.lo)) = f := ⟨_, rfl⟩
  rw [hfN] at hV2
  have eN : ∀ i (hi : i < L.length), fN L[i] = decide (sqV (L[i].x - k.frm.x) (L[i].y - k.frm.y) < x.lo * x.lo) := fun i hi => by rw [← hfN]
  clear hfN
  replace eN := Go.Lib.hid eN
  replace hV2 := Go.Lib.hid hV2
  replace hlen := Go.Lib.hid hlen
  replace hseen := Go.Lib.hid hseen
  replace cF := Go.Lib.hid cF
  obtain ⟨kind, st, cat, tick, ⟨dx, dy⟩, err, lo, hi⟩ := x
  unfold SkyR.val SightR.val at *
  simp only at *
  subst hkd
  clear hP kk1 kk2
  generalize s.cats.length = n1 at *; generalize s.cp = n2 at *; generalize s.cc = n3 at *; generalize s.bodies.length = n4 at *; generalize s.bp = n5 at *; generalize s.bc = n6 at *; generalize s.sts.length = n7 at *; generalize s.sp = n8 at *; generalize s.sc = n9 at *; generalize s.home = n0 at *
  generalize sqV (min (max k.frm.x a) b - k.frm.x) (min (max k.frm.y c) d - k.frm.y) = NN at *
  go_enter Try.func23, Try.ntmps23
  go_wp2_with (first | ((first | with_reducible refine wp_region_ext2 (by kernel_rfl) (by kernel_rfl) ?_ | with_reducible refine wp_region_ext (by kernel_rfl) (by kernel_rfl) ?_); (repeat (first | go_big_quiet_step ((first | (go_at_call 19; with_reducible exact Calls.ext (cs _ (by repeat' (first | (with_reducible exact Below.refl _ _) | (with_reducible assumption) | (with_reducible refine Ext.below _ ?_ ?_) | (with_reducible refine Below.on ?_ (by with_reducible assumption) ?_) | (with_reducible refine Below.alloc ?_ ?_ _) | (with_reducible refine Below.drew ?_) | (with_reducible refine Below.setCell ?_ ?_ _) | (with_reducible exact Nat.le_refl _) | omega | (simp; done) | (simp [go_sem]; done) | (simp at *; omega))))) | (go_at_call 50; with_reducible exact Calls.ext (cA _)))) | quiet_step ((first | (go_at_call 19; with_reducible exact Calls.ext (cs _ (by repeat' (first | (with_reducible exact Below.refl _ _) | (with_reducible assumption) | (with_reducible refine Ext.below _ ?_ ?_) | (with_reducible refine Below.on ?_ (by with_reducible assumption) ?_) | (with_reducible refine Below.alloc ?_ ?_ _) | (with_reducible refine Below.drew ?_) | (with_reducible refine Below.setCell ?_ ?_ _) | (with_reducible exact Nat.le_refl _) | omega | (simp; done) | (simp [go_sem]; done) | (simp at *; omega))))) | (go_at_call 50; with_reducible exact Calls.ext (cA _)))))); refine wpQuiet_nil ?_; rintro _ ⟨yr, rfl⟩; have syr := Ext.size yr; (repeat (first | rw [World.size_alloc] at syr | rw [World.size_setCell] at syr | rw [World.size_drew] at syr)); have : w.heap.size < yr.now.heap.size := (by omega); have : w.heap.size ≤ yr.now.heap.size := (by omega); have : w.heap.size < yr.now.heap.size + 1 + 1 := (by omega); have : w.heap.size + 1 < yr.now.heap.size := (by omega); have : w.heap.size + 1 ≤ yr.now.heap.size := (by omega); have : w.heap.size + 1 < yr.now.heap.size + 1 + 1 := (by omega); have : w.heap.size + 1 + 1 < yr.now.heap.size := (by omega); have : w.heap.size + 1 + 1 ≤ yr.now.heap.size := (by omega); have : w.heap.size + 1 + 1 < yr.now.heap.size + 1 + 1 := (by omega)) | (go_at_call 19; (first | with_reducible refine (Calls.giv2 (cs _ (by repeat' (first | (with_reducible exact Below.refl _ _) | (with_reducible assumption) | (with_reducible refine Ext.below _ ?_ ?_) | (with_reducible refine Below.on ?_ (by with_reducible assumption) ?_) | (with_reducible refine Below.alloc ?_ ?_ _) | (with_reducible refine Below.drew ?_) | (with_reducible refine Below.setCell ?_ ?_ _) | (with_reducible exact Nat.le_refl _) | omega | (simp; done) | (simp [go_sem]; done) | (simp at *; omega))))).mono ?_ | with_reducible refine (Calls.giv (cs _ (by repeat' (first | (with_reducible exact Below.refl _ _) | (with_reducible assumption) | (with_reducible refine Ext.below _ ?_ ?_) | (with_reducible refine Below.on ?_ (by with_reducible assumption) ?_) | (with_reducible refine Below.alloc ?_ ?_ _) | (with_reducible refine Below.drew ?_) | (with_reducible refine Below.setCell ?_ ?_ _) | (with_reducible exact Nat.le_refl _) | omega | (simp; done) | (simp [go_sem]; done) | (simp at *; omega))))).mono ?_); rintro _ _ ⟨y1, rfl, rfl⟩; have sy1 := Ext.size y1; (repeat (first | rw [World.size_alloc] at sy1 | rw [World.size_setCell] at sy1 | rw [World.size_drew] at sy1)); have : w.heap.size < y1.now.heap.size := (by omega); have : w.heap.size ≤ y1.now.heap.size := (by omega); have : w.heap.size < y1.now.heap.size + 1 + 1 := (by omega); have : w.heap.size + 1 < y1.now.heap.size := (by omega); have : w.heap.size + 1 ≤ y1.now.heap.size := (by omega); have : w.heap.size + 1 < y1.now.heap.size + 1 + 1 := (by omega); have : w.heap.size + 1 + 1 < y1.now.heap.size := (by omega); have : w.heap.size + 1 + 1 ≤ y1.now.heap.size := (by omega); have : w.heap.size + 1 + 1 < y1.now.heap.size + 1 + 1 := (by omega)) | (go_at_call 50; (first | with_reducible refine (Calls.giv2 (cA _)).mono ?_ | with_reducible refine (Calls.giv (cA _)).mono ?_); rintro _ _ ⟨y2, rfl, rfl⟩; have sy2 := Ext.size y2; (repeat (first | rw [World.size_alloc] at sy2 | rw [World.size_setCell] at sy2 | rw [World.size_drew] at sy2)); have : w.heap.size < y2.now.heap.size := (by omega); have : w.heap.size ≤ y2.now.heap.size := (by omega); have : w.heap.size < y2.now.heap.size + 1 + 1 := (by omega); have : w.heap.size + 1 < y2.now.heap.size := (by omega); have : w.heap.size + 1 ≤ y2.now.heap.size := (by omega); have : w.heap.size + 1 < y2.now.heap.size + 1 + 1 := (by omega); have : w.heap.size + 1 + 1 < y2.now.heap.size := (by omega); have : w.heap.size + 1 + 1 ≤ y2.now.heap.size := (by omega); have : w.heap.size + 1 + 1 < y2.now.heap.size + 1 + 1 := (by omega)))
  have hBw2 : Below w.heap.size w y2.now := by repeat' (first | (with_reducible exact Below.refl _ _) | (with_reducible assumption) | (with_reducible refine Ext.below _ ?_ ?_) | (with_reducible refine Below.on ?_ (by with_reducible assumption) ?_) | (with_reducible refine Below.alloc ?_ ?_ _) | (with_reducible refine Below.drew ?_) | (with_reducible refine Below.setCell ?_ ?_ _) | (with_reducible exact Nat.le_refl _) | omega | (simp; done) | (simp [go_sem]; done) | (simp at *; omega))
  have f00 : y2.now.cell? ⟨w.heap.size, 0, none⟩ = some (.slice n5 n4 n6) := by rw [y2.cell (by first | (simp; done) | (simp; omega))]; simp [go_sem]
  have f01 : y2.now.cell? ⟨w.heap.size, 1, none⟩ = some (.int .i64 n0) := by rw [y2.cell (by first | (simp; done) | (simp; omega))]; simp [go_sem]
  have f02 : y2.now.cell? ⟨w.heap.size, 2, none⟩ = some (.slice n8 n7 n9) := by rw [y2.cell (by first | (simp; done) | (simp; omega))]; simp [go_sem]
  have f03 : y2.now.cell? ⟨w.heap.size, 3, none⟩ = some (.slice n2 n1 n3) := by rw [y2.cell (by first | (simp; done) | (simp; omega))]; simp [go_sem]
  have f10 : y2.now.cell? ⟨w.heap.size + 1, 0, none⟩ = some (.int .i64 2) := by rw [y2.cell (by first | (simp; done) | (simp; omega))]; simp [go_sem]
  have f11 : y2.now.cell? ⟨w.heap.size + 1, 1, none⟩ = some (.int .i64 st) := by rw [y2.cell (by first | (simp; done) | (simp; omega))]; simp [go_sem]
  have f12 : y2.now.cell? ⟨w.heap.size + 1, 2, none⟩ = some (.int .i64 cat) := by rw [y2.cell (by first | (simp; done) | (simp; omega))]; simp [go_sem]
  have f13 : y2.now.cell? ⟨w.heap.size + 1, 3, none⟩ = some (.int .i64 tick) := by rw [y2.cell (by first | (simp; done) | (simp; omega))]; simp [go_sem]
  have f14 : y2.now.cell? ⟨w.heap.size + 1, 4, none⟩ = some (.int .i64 dx) := by rw [y2.cell (by first | (simp; done) | (simp; omega))]; simp [go_sem]
  have f15 : y2.now.cell? ⟨w.heap.size + 1, 5, none⟩ = some (.int .i64 dy) := by rw [y2.cell (by first | (simp; done) | (simp; omega))]; simp [go_sem]
  have f16 : y2.now.cell? ⟨w.heap.size + 1, 6, none⟩ = some (.int .i64 err) := by rw [y2.cell (by first | (simp; done) | (simp; omega))]; simp [go_sem]
  have f17 : y2.now.cell? ⟨w.heap.size + 1, 7, none⟩ = some (.int .i64 lo) := by rw [y2.cell (by first | (simp; done) | (simp; omega))]; simp [go_sem]
  have f18 : y2.now.cell? ⟨w.heap.size + 1, 8, none⟩ = some (.int .i64 hi) := by rw [y2.cell (by first | (simp; done) | (simp; omega))]; simp [go_sem]
  have f20 : y2.now.cell? ⟨w.heap.size + 1 + 1, 0, none⟩ = some (.int .i64 a) := by rw [y2.cell (by first | (simp; done) | (simp; omega))]; simp [go_sem]
  have f21 : y2.now.cell? ⟨w.heap.size + 1 + 1, 1, none⟩ = some (.int .i64 b) := by rw [y2.cell (by first | (simp; done) | (simp; omega))]; simp [go_sem]
  have f22 : y2.now.cell? ⟨w.heap.size + 1 + 1, 2, none⟩ = some (.int .i64 c) := by rw [y2.cell (by first | (simp; done) | (simp; omega))]; simp [go_sem]
  have f23 : y2.now.cell? ⟨w.heap.size + 1 + 1, 3, none⟩ = some (.int .i64 d) := by rw [y2.cell (by first | (simp; done) | (simp; omega))]; simp [go_sem]
  go_wp2_with (first | ((first | with_reducible refine wp_region_ext2 (by kernel_rfl) (by kernel_rfl) ?_ | with_reducible refine wp_region_ext (by kernel_rfl) (by kernel_rfl) ?_); (repeat (first | go_big_quiet_step ((first | fail)) | quiet_step ((first | fail)))); refine wpQuiet_nil ?_; rintro _ ⟨yr, rfl⟩; have syr := Ext.size yr; (repeat (first | rw [World.size_alloc] at syr | rw [World.size_setCell] at syr | rw [World.size_drew] at syr))) | (go_at_call 51; refine (cC _).mono ?_; rintro _ W3 ⟨B, rfl, hb3, hv3⟩; have hs3 := hb3.size; have hBw3 : Below w.heap.size w W3 := hBw2.trans (hb3.mono hBw2.size); have f00 := (hb3.cell (p := ⟨w.heap.size, 0, none⟩) (show w.heap.size < _ by omega)).trans f00; have f01 := (hb3.cell (p := ⟨w.heap.size, 1, none⟩) (show w.heap.size < _ by omega)).trans f01; have f02 := (hb3.cell (p := ⟨w.heap.size, 2, none⟩) (show w.heap.size < _ by omega)).trans f02; have f03 := (hb3.cell (p := ⟨w.heap.size, 3, none⟩) (show w.heap.size < _ by omega)).trans f03; have f10 := (hb3.cell (p := ⟨w.heap.size + 1, 0, none⟩) (show w.heap.size + 1 < _ by omega)).trans f10; have f11 := (hb3.cell (p := ⟨w.heap.size + 1, 1, none⟩) (show w.heap.size + 1 < _ by omega)).trans f11; have f12 := (hb3.cell (p := ⟨w.heap.size + 1, 2, none⟩) (show w.heap.size + 1 < _ by omega)).trans f12; have f13 := (hb3.cell (p := ⟨w.heap.size + 1, 3, none⟩) (show w.heap.size + 1 < _ by omega)).trans f13; have f14 := (hb3.cell (p := ⟨w.heap.size + 1, 4, none⟩) (show w.heap.size + 1 < _ by omega)).trans f14; have f15 := (hb3.cell (p := ⟨w.heap.size + 1, 5, none⟩) (show w.heap.size + 1 < _ by omega)).trans f15; have f16 := (hb3.cell (p := ⟨w.heap.size + 1, 6, none⟩) (show w.heap.size + 1 < _ by omega)).trans f16; have f17 := (hb3.cell (p := ⟨w.heap.size + 1, 7, none⟩) (show w.heap.size + 1 < _ by omega)).trans f17; have f18 := (hb3.cell (p := ⟨w.heap.size + 1, 8, none⟩) (show w.heap.size + 1 < _ by omega)).trans f18; have f20 := (hb3.cell (p := ⟨w.heap.size + 1 + 1, 0, none⟩) (show w.heap.size + 1 + 1 < _ by omega)).trans f20; have f21 := (hb3.cell (p := ⟨w.heap.size + 1 + 1, 1, none⟩) (show w.heap.size + 1 + 1 < _ by omega)).trans f21; have f22 := (hb3.cell (p := ⟨w.heap.size + 1 + 1, 2, none⟩) (show w.heap.size + 1 + 1 < _ by omega)).trans f22; have f23 := (hb3.cell (p := ⟨w.heap.size + 1 + 1, 3, none⟩) (show w.heap.size + 1 + 1 < _ by omega)).trans f23; have ls0 : w.heap.size < W3.heap.size := (by omega); have ls1 : w.heap.size + 1 < W3.heap.size := (by omega); have ls2 : w.heap.size + 1 + 1 < W3.heap.size := (by omega); clear hb3 hs3 cC cA cs; replace hv3 := Go.Lib.hid hv3))
  clear hBw2
  generalize y2.now = Wy at *
  go_loopw [8, 9, 10, 11, 12, 13] (fun v8 v9 v10 v11 v12 v13 W => ∃ (i : Nat) (x : Ext W3), v8 = .int .i64 0 ∧ v9 = .int .i64 0 ∧ v10 = .int .i64 0 ∧ v11 = .int .i64 (cntP fN L i) ∧ v12 = .int .i64 0 ∧ v13 = .int .i64 i ∧ W = x.now ∧ Hid (i ≤ 4)) (fun _ _ _ _ _ s _ => 4 - (intOf s).toNat)
  case atStart => exact ⟨0, ⟨W3, Below.refl _ _⟩, rfl, rfl, rfl, rfl, rfl, rfl, rfl, Go.Lib.hid (by omega)⟩
  case round =>
    obtain ⟨i, x, rfl, rfl, rfl, rfl, rfl, rfl, rfl, hii⟩ := hrel
    have xs := x.size
    have hbx := x.below hBw3 (by omega)
    have : w.heap.size < (x.now).heap.size := (by omega); have : w.heap.size < (x.now).heap.size + 1 := (by omega); have : w.heap.size < (x.now).heap.size + 1 + 1 := (by omega); have : w.heap.size ≠ (x.now).heap.size := (by omega); have : w.heap.size ≠ (x.now).heap.size + 1 := (by omega)
    have : w.heap.size + 1 < (x.now).heap.size := (by omega); have : w.heap.size + 1 < (x.now).heap.size + 1 := (by omega); have : w.heap.size + 1 < (x.now).heap.size + 1 + 1 := (by omega); have : w.heap.size + 1 ≠ (x.now).heap.size := (by omega); have : w.heap.size + 1 ≠ (x.now).heap.size + 1 := (by omega)
    have : w.heap.size + 1 + 1 < (x.now).heap.size := (by omega); have : w.heap.size + 1 + 1 < (x.now).heap.size + 1 := (by omega); have : w.heap.size + 1 + 1 < (x.now).heap.size + 1 + 1 := (by omega); have : w.heap.size + 1 + 1 ≠ (x.now).heap.size := (by omega); have : w.heap.size + 1 + 1 ≠ (x.now).heap.size + 1 := (by omega)
    have i4 := hii.out
    by_cases hlt : i < 4
    · have hlt' : i < L.length := by rw [hlen.out]; exact hlt
      obtain ⟨B', o', eB', hB', q1, q2⟩ := hv3.out i hlt'
      injection eB' with eB'
      injection eB' with e1 e2
      subst e1 e2
      simp only [Nat.zero_add] at q1 q2
      have : B < (x.now).heap.size := (by omega); have : B < (x.now).heap.size + 1 := (by omega); have : B < (x.now).heap.size + 1 + 1 := (by omega); have : B ≠ (x.now).heap.size := (by omega); have : B ≠ (x.now).heap.size + 1 := (by omega)
      have hlt2 : (i : Int) < 4 := by omega
      have cf := fun (W : World) (y : Below w.heap.size w W) => cF.out W y i hlt'
      have g1 := cntP_succ fN L i hlt'
      have h1 := eN.out i hlt'
      obtain ⟨n0', n1'⟩ := hseen.out i hlt'
      obtain ⟨b10, b11⟩ := cntP_in fN L i
      generalize fN L[i] = tB at *
      generalize sqV (L[i].x - k.frm.x) (L[i].y - k.frm.y) = nV at *
      generalize L[i].x = u at *
      generalize L[i].y = v at *
      generalize cntP fN L i = m1' at *
      replace g1 := Go.Lib.hid g1
      replace h1 := Go.Lib.hid h1
      clear hii hlen hseen cF eN hv3 cN cst cw
      go_wp2_with (first | ((first | with_reducible refine wp_region_ext2 (by kernel_rfl) (by kernel_rfl) ?_ | with_reducible refine wp_region_ext (by kernel_rfl) (by kernel_rfl) ?_); (repeat (first | go_big_quiet_step ((first | (go_at_call 52; with_reducible exact Calls.ext (cf _ (by repeat' (first | (with_reducible exact Below.refl _ _) | (with_reducible assumption) | (with_reducible refine Ext.below _ ?_ ?_) | (with_reducible refine Below.on ?_ (by with_reducible assumption) ?_) | (with_reducible refine Below.alloc ?_ ?_ _) | (with_reducible refine Below.drew ?_) | (with_reducible refine Below.setCell ?_ ?_ _) | (with_reducible exact Nat.le_refl _) | omega | (simp; done) | (simp [go_sem]; done) | (simp at *; omega))))))) | quiet_step ((first | (go_at_call 52; with_reducible exact Calls.ext (cf _ (by repeat' (first | (with_reducible exact Below.refl _ _) | (with_reducible assumption) | (with_reducible refine Ext.below _ ?_ ?_) | (with_reducible refine Below.on ?_ (by with_reducible assumption) ?_) | (with_reducible refine Below.alloc ?_ ?_ _) | (with_reducible refine Below.drew ?_) | (with_reducible refine Below.setCell ?_ ?_ _) | (with_reducible exact Nat.le_refl _) | omega | (simp; done) | (simp [go_sem]; done) | (simp at *; omega))))))))); refine wpQuiet_nil ?_; rintro _ ⟨yr, rfl⟩; have syr := Ext.size yr; (repeat (first | rw [World.size_alloc] at syr | rw [World.size_setCell] at syr | rw [World.size_drew] at syr)); have : B < yr.now.heap.size := (by omega); have : B ≤ yr.now.heap.size := (by omega); have : B < yr.now.heap.size + 1 + 1 := (by omega); have : w.heap.size < yr.now.heap.size := (by omega); have : w.heap.size ≤ yr.now.heap.size := (by omega); have : w.heap.size < yr.now.heap.size + 1 + 1 := (by omega); have : w.heap.size + 1 < yr.now.heap.size := (by omega); have : w.heap.size + 1 ≤ yr.now.heap.size := (by omega); have : w.heap.size + 1 < yr.now.heap.size + 1 + 1 := (by omega)) | (go_at_call 52; (first | with_reducible refine (Calls.giv2 (cf _ (by repeat' (first | (with_reducible exact Below.refl _ _) | (with_reducible assumption) | (with_reducible refine Ext.below _ ?_ ?_) | (with_reducible refine Below.on ?_ (by with_reducible assumption) ?_) | (with_reducible refine Below.alloc ?_ ?_ _) | (with_reducible refine Below.drew ?_) | (with_reducible refine Below.setCell ?_ ?_ _) | (with_reducible exact Nat.le_refl _) | omega | (simp; done) | (simp [go_sem]; done) | (simp at *; omega))))).mono ?_ | with_reducible refine (Calls.giv (cf _ (by repeat' (first | (with_reducible exact Below.refl _ _) | (with_reducible assumption) | (with_reducible refine Ext.below _ ?_ ?_) | (with_reducible refine Below.on ?_ (by with_reducible assumption) ?_) | (with_reducible refine Below.alloc ?_ ?_ _) | (with_reducible refine Below.drew ?_) | (with_reducible refine Below.setCell ?_ ?_ _) | (with_reducible exact Nat.le_refl _) | omega | (simp; done) | (simp [go_sem]; done) | (simp at *; omega))))).mono ?_); rintro _ _ ⟨y1, rfl, rfl⟩; have sy1 := Ext.size y1; (repeat (first | rw [World.size_alloc] at sy1 | rw [World.size_setCell] at sy1 | rw [World.size_drew] at sy1)); have : B < y1.now.heap.size := (by omega); have : B ≤ y1.now.heap.size := (by omega); have : B < y1.now.heap.size + 1 + 1 := (by omega); have : w.heap.size < y1.now.heap.size := (by omega); have : w.heap.size ≤ y1.now.heap.size := (by omega); have : w.heap.size < y1.now.heap.size + 1 + 1 := (by omega); have : w.heap.size + 1 < y1.now.heap.size := (by omega); have : w.heap.size + 1 ≤ y1.now.heap.size := (by omega); have : w.heap.size + 1 < y1.now.heap.size + 1 + 1 := (by omega)))
      all_goals
        have k1 := g1.out
        have l1 := h1.out
        clear cf g1 h1 hV2
        refine ⟨⟨i + 1, ⟨_, ?_⟩, rfl, rfl, rfl, ?_, rfl, by simp, rfl, Go.Lib.hid (by omega)⟩, by simp [intOf]; omega⟩
        · repeat' (first | (with_reducible exact Below.refl _ _) | (with_reducible assumption) | (with_reducible refine Ext.below _ ?_ ?_) | (with_reducible refine Below.on ?_ (by with_reducible assumption) ?_) | (with_reducible refine Below.alloc ?_ ?_ _) | (with_reducible refine Below.drew ?_) | (with_reducible refine Below.setCell ?_ ?_ _) | (with_reducible exact Nat.le_refl _) | omega | (simp; done) | (simp [go_sem]; done) | (simp at *; omega))
        · rw [k1, l1]; congr 1; simp only [decide_eq_true_eq]; split <;> omega
    · have hie : i = 4 := by omega
      have g1 : (cntP fN L i = 4) ↔ L.all fN = true := by rw [hie]; exact cntP_all fN L 4 hlen.out
      have hge : ¬ (i : Int) < 4 := by omega
      have hV3 := hV2.out
      generalize L.all fN = wB at *
      generalize cntP fN L i = m1' at *
      replace g1 := Go.Lib.hid g1
      replace hV3 := Go.Lib.hid hV3
      clear hii hlen hseen cF eN hv3 hV2 hie hlt
      go_wp2_with (first | ((first | with_reducible refine wp_region_ext2 (by kernel_rfl) (by kernel_rfl) ?_ | with_reducible refine wp_region_ext (by kernel_rfl) (by kernel_rfl) ?_); (repeat (first | go_big_quiet_step ((first | fail)) | quiet_step ((first | fail)))); refine wpQuiet_nil ?_; rintro _ ⟨yr, rfl⟩; have syr := Ext.size yr; (repeat (first | rw [World.size_alloc] at syr | rw [World.size_setCell] at syr | rw [World.size_drew] at syr)); have : w.heap.size < yr.now.heap.size := (by omega); have : w.heap.size ≤ yr.now.heap.size := (by omega); have : w.heap.size < yr.now.heap.size + 1 + 1 := (by omega); have : w.heap.size + 1 < yr.now.heap.size := (by omega); have : w.heap.size + 1 ≤ yr.now.heap.size := (by omega); have : w.heap.size + 1 < yr.now.heap.size + 1 + 1 := (by omega); have : w.heap.size + 1 + 1 < yr.now.heap.size := (by omega); have : w.heap.size + 1 + 1 ≤ yr.now.heap.size := (by omega); have : w.heap.size + 1 + 1 < yr.now.heap.size + 1 + 1 := (by omega)))
      (apply wp_region_free1 8 18 123 #[.int .i64 0, .int .i64 0] #[.int .i64 k.frm.x, .int .i64 k.frm.y] 33 (by kernel_rfl) (by kernel_rfl)); (case hal1 => (intro a' W' K hk; refine wpOp_step rfl (fun K' hK' => ?_); go_simp; exact hK' _ _ hk)); (case h => (intro z; have sz := z.size; (repeat (first | rw [World.size_alloc] at sz | rw [World.size_setCell] at sz | rw [World.size_drew] at sz)); have : w.heap.size < z.now.heap.size := (by omega); have : w.heap.size ≤ z.now.heap.size := (by omega); have : w.heap.size + 1 < z.now.heap.size := (by omega); have : w.heap.size + 1 ≤ z.now.heap.size := (by omega); have : w.heap.size + 1 + 1 < z.now.heap.size := (by omega); have : w.heap.size + 1 + 1 ≤ z.now.heap.size := (by omega); (repeat (first | go_big_quiet_step ((first | (go_at_call 30; with_reducible exact Calls.ext (cst _ (by repeat' (first | (with_reducible exact Below.refl _ _) | (with_reducible assumption) | (with_reducible refine Ext.below _ ?_ ?_) | (with_reducible refine Below.on ?_ (by with_reducible assumption) ?_) | (with_reducible refine Below.alloc ?_ ?_ _) | (with_reducible refine Below.drew ?_) | (with_reducible refine Below.setCell ?_ ?_ _) | (with_reducible exact Nat.le_refl _) | omega | (simp; done) | (simp [go_sem]; done) | (simp at *; omega))))) | (go_at_call 32; with_reducible exact Calls.ext (cw _ (by repeat' (first | (with_reducible exact Below.refl _ _) | (with_reducible assumption) | (with_reducible refine Ext.below _ ?_ ?_) | (with_reducible refine Below.on ?_ (by with_reducible assumption) ?_) | (with_reducible refine Below.alloc ?_ ?_ _) | (with_reducible refine Below.drew ?_) | (with_reducible refine Below.setCell ?_ ?_ _) | (with_reducible exact Nat.le_refl _) | omega | (simp; done) | (simp [go_sem]; done) | (simp at *; omega))))))) | quiet_step ((first | (go_at_call 30; with_reducible exact Calls.ext (cst _ (by repeat' (first | (with_reducible exact Below.refl _ _) | (with_reducible assumption) | (with_reducible refine Ext.below _ ?_ ?_) | (with_reducible refine Below.on ?_ (by with_reducible assumption) ?_) | (with_reducible refine Below.alloc ?_ ?_ _) | (with_reducible refine Below.drew ?_) | (with_reducible refine Below.setCell ?_ ?_ _) | (with_reducible exact Nat.le_refl _) | omega | (simp; done) | (simp [go_sem]; done) | (simp at *; omega))))) | (go_at_call 32; with_reducible exact Calls.ext (cw _ (by repeat' (first | (with_reducible exact Below.refl _ _) | (with_reducible assumption) | (with_reducible refine Ext.below _ ?_ ?_) | (with_reducible refine Below.on ?_ (by with_reducible assumption) ?_) | (with_reducible refine Below.alloc ?_ ?_ _) | (with_reducible refine Below.drew ?_) | (with_reducible refine Below.setCell ?_ ?_ _) | (with_reducible exact Nat.le_refl _) | omega | (simp; done) | (simp [go_sem]; done) | (simp at *; omega))))))))); exact wpQuiet_nil rfl)); (case hfs => exact Nat.le_of_ble_eq_true rfl); (case hs1 => (intro a' W' K O hp hx hg hk; refine wpOp_step rfl (fun K' hK' => ?_); refine (if_pos (by rfl)).mpr ?_; exact store_op 33 (.tmp 18) (.tmp 123) rfl O #[.int .i64 k.frm.x, .int .i64 k.frm.y] hp (hx.trans rfl) 33 _ hg (by kernel_rfl) rfl (by simp [Value.oneCell']) (hK' _ _ hk))); intro yr BV gB1 gB2 gB3; have syr := yr.size; (repeat (first | rw [World.size_alloc] at syr | rw [World.size_setCell] at syr | rw [World.size_drew] at syr)); (repeat (first | rw [World.size_alloc] at gB1 | rw [World.size_setCell] at gB1 | rw [World.size_drew] at gB1)); have : w.heap.size < yr.now.heap.size := (by omega); have : w.heap.size ≤ yr.now.heap.size := (by omega); have : w.heap.size < yr.now.heap.size + 1 := (by omega); have : w.heap.size + 1 < yr.now.heap.size := (by omega); have : w.heap.size + 1 ≤ yr.now.heap.size := (by omega); have : w.heap.size + 1 < yr.now.heap.size + 1 := (by omega); have : w.heap.size + 1 + 1 < yr.now.heap.size := (by omega); have : w.heap.size + 1 + 1 ≤ yr.now.heap.size := (by omega); have : w.heap.size + 1 + 1 < yr.now.heap.size + 1 := (by omega); have kv0 := one_row yr gB3 0; have kv1 := one_row yr gB3 1; simp only [List.getElem?_toArray, List.getElem?_cons_zero, List.getElem?_cons_succ] at kv0 kv1; clear gB3
      have hv0 := hV3.out
      have hg0 := g1.out
      clear hV3 g1
      obtain ⟨X1, hX1⟩ : ∃ M, max k.frm.x a = M := ⟨_, rfl⟩
      obtain ⟨X2, hX2⟩ : ∃ M, max k.frm.y c = M := ⟨_, rfl⟩
      obtain ⟨M1, hM1⟩ : ∃ M, min X1 b = M := ⟨_, rfl⟩
      obtain ⟨M2, hM2⟩ : ∃ M, min X2 d = M := ⟨_, rfl⟩
      rw [hX1, hX2, hM1, hM2] at cN
      have cN2 := Go.Lib.hid (fun (u v : Int) (hu : u = M1) (hv : v = M2) (W : World) (y : Below w.heap.size w W) => (show Calls Try.prog 52 #[.agg #[.slice n5 n4 n6, .int .i64 n0, .slice n8 n7 n9, .slice n2 n1 n3], .agg #[.int .i64 2, .int .i64 st, .int .i64 cat, .int .i64 tick, .int .i64 dx, .int .i64 dy, .int .i64 err, .int .i64 lo, .int .i64 hi], .agg #[.int .i64 u, .int .i64 v]] W (Gives (.int .i64 NN) W) from by rw [hu, hv]; exact cN W y))
      clear cN
      have hX1' : max a k.frm.x = X1 := by rw [← hX1]; omega
      have hX2' : max c k.frm.y = X2 := by rw [← hX2]; omega
      generalize k.frm.x = fx at *
      generalize k.frm.y = fy at *
      by_cases hm4 : m1' = 4
      · subst hm4
        have eW : wB = true := hg0.1 rfl
        have eV : V = true := by rw [hv0, eW]; rfl
        clear hv0 hg0 eW cN2
        subst eV
        go_wp2_with fail
        all_goals
          refine wp_region_ext (by kernel_rfl) (by kernel_rfl) ?_
          (repeat (first | go_big_quiet_step (fail) | quiet_step (fail)))
          refine wpQuiet_nil ?_; rintro _ ⟨yq, rfl⟩
          have syq := yq.size
          simp only [World.size_alloc] at syq
          go_wp2_with (first | ((first | with_reducible refine wp_region_ext2 (by kernel_rfl) (by kernel_rfl) ?_ | with_reducible refine wp_region_ext (by kernel_rfl) (by kernel_rfl) ?_); (repeat (first | go_big_quiet_step ((first | fail)) | quiet_step ((first | fail)))); refine wpQuiet_nil ?_; rintro _ ⟨yr, rfl⟩; have syr := Ext.size yr; (repeat (first | rw [World.size_alloc] at syr | rw [World.size_setCell] at syr | rw [World.size_drew] at syr))))
          go_returns
          refine ⟨rfl, ?_⟩
          repeat' (first | (with_reducible exact Below.refl _ _) | (with_reducible assumption) | (with_reducible refine Ext.below _ ?_ ?_) | (with_reducible refine Below.on ?_ (by with_reducible assumption) ?_) | (with_reducible refine Below.alloc ?_ ?_ _) | (with_reducible refine Below.drew ?_) | (with_reducible refine Below.setCell ?_ ?_ _) | (with_reducible exact Nat.le_refl _) | omega | (simp; done) | (simp [go_sem]; done) | (simp at *; omega))
      · have eW : wB = false := by
          cases wB
          · rfl
          · exact absurd (hg0.2 rfl) hm4
        have hmb : (m1' == 4) = false := by rw [beq_eq_false_iff_ne]; exact hm4
        have eV : V = decide (hi * hi < NN) := by rw [hv0, eW]; rfl
        clear hv0 hg0 eW hm4
        subst eV
        go_wp2_with fail
        all_goals
          refine wp_region_ext (by kernel_rfl) (by kernel_rfl) ?_
          (repeat (first | go_big_quiet_step ((go_at_call 52; with_reducible exact Calls.ext (cN2.out _ _ (by omega) (by omega) _ (by repeat' (first | (with_reducible exact Below.refl _ _) | (with_reducible assumption) | (with_reducible refine Ext.below _ ?_ ?_) | (with_reducible refine Below.on ?_ (by with_reducible assumption) ?_) | (with_reducible refine Below.alloc ?_ ?_ _) | (with_reducible refine Below.drew ?_) | (with_reducible refine Below.setCell ?_ ?_ _) | (with_reducible exact Nat.le_refl _) | omega | (simp; done) | (simp [go_sem]; done) | (simp at *; omega)))))) | quiet_step ((go_at_call 52; with_reducible exact Calls.ext (cN2.out _ _ (by omega) (by omega) _ (by repeat' (first | (with_reducible exact Below.refl _ _) | (with_reducible assumption) | (with_reducible refine Ext.below _ ?_ ?_) | (with_reducible refine Below.on ?_ (by with_reducible assumption) ?_) | (with_reducible refine Below.alloc ?_ ?_ _) | (with_reducible refine Below.drew ?_) | (with_reducible refine Below.setCell ?_ ?_ _) | (with_reducible exact Nat.le_refl _) | omega | (simp; done) | (simp [go_sem]; done) | (simp at *; omega))))))))
          refine wpQuiet_nil ?_; rintro _ ⟨yq, rfl⟩
          have syq := yq.size
          simp only [World.size_alloc] at syq
          go_wp2_with (first | ((first | with_reducible refine wp_region_ext2 (by kernel_rfl) (by kernel_rfl) ?_ | with_reducible refine wp_region_ext (by kernel_rfl) (by kernel_rfl) ?_); (repeat (first | go_big_quiet_step ((first | fail)) | quiet_step ((first | fail)))); refine wpQuiet_nil ?_; rintro _ ⟨yr, rfl⟩; have syr := Ext.size yr; (repeat (first | rw [World.size_alloc] at syr | rw [World.size_setCell] at syr | rw [World.size_drew] at syr))))
          go_returns
          refine ⟨rfl, ?_⟩
          repeat' (first | (with_reducible exact Below.refl _ _) | (with_reducible assumption) | (with_reducible refine Ext.below _ ?_ ?_) | (with_reducible refine Below.on ?_ (by with_reducible assumption) ?_) | (with_reducible refine Below.alloc ?_ ?_ _) | (with_reducible refine Below.drew ?_) | (with_reducible refine Below.setCell ?_ ?_ _) | (with_reducible exact Nat.le_refl _) | omega | (simp; done) | (simp [go_sem]; done) | (simp at *; omega))
set_option maxRecDepth 100000 in
set_option maxHeartbeats 4000000 in
theorem refExcludes_any (s : SkyR) (x : SightR) (a b c d : Int) (w : World) (hP : s.At w) :
    Calls Try.prog 23 #[s.val, x.val, .agg #[.int .i64 a, .int .i64 b, .int .i64 c, .int .i64 d]] w (Gives (.bool (excludesV s x a b c d)) w) := by
  unfold excludesV
  cases hr : checkedR s x with
  | error e =>
    have cs := fun (W : World) (y : Below w.heap.size w W) => refCheckSight_any s x W (hP.on y)
    have e0 := checkedR_err hr
    rw [hr] at cs
    simp only [errOf] at cs ⊢
    unfold SkyR.val SightR.val at *
    clear hr hP
    obtain ⟨kind, st, cat, tick, ⟨dx, dy⟩, err, lo, hi⟩ := x
    simp only at *
    generalize s.cats.length = n1 at *; generalize s.cp = n2 at *; generalize s.cc = n3 at *; generalize s.bodies.length = n4 at *; generalize s.bp = n5 at *; generalize s.bc = n6 at *; generalize s.sts.length = n7 at *; generalize s.sp = n8 at *; generalize s.sc = n9 at *; generalize s.home = n0 at *
    go_enter Try.func23, Try.ntmps23
    go_wp2_with (first | ((first | with_reducible refine wp_region_ext2 (by kernel_rfl) (by kernel_rfl) ?_ | with_reducible refine wp_region_ext (by kernel_rfl) (by kernel_rfl) ?_); (repeat (first | go_big_quiet_step ((first | (go_at_call 19; with_reducible exact Calls.ext (cs _ (by repeat' (first | (with_reducible exact Below.refl _ _) | (with_reducible assumption) | (with_reducible refine Ext.below _ ?_ ?_) | (with_reducible refine Below.on ?_ (by with_reducible assumption) ?_) | (with_reducible refine Below.alloc ?_ ?_ _) | (with_reducible refine Below.drew ?_) | (with_reducible refine Below.setCell ?_ ?_ _) | (with_reducible exact Nat.le_refl _) | omega | (simp; done) | (simp [go_sem]; done) | (simp at *; omega))))))) | quiet_step ((first | (go_at_call 19; with_reducible exact Calls.ext (cs _ (by repeat' (first | (with_reducible exact Below.refl _ _) | (with_reducible assumption) | (with_reducible refine Ext.below _ ?_ ?_) | (with_reducible refine Below.on ?_ (by with_reducible assumption) ?_) | (with_reducible refine Below.alloc ?_ ?_ _) | (with_reducible refine Below.drew ?_) | (with_reducible refine Below.setCell ?_ ?_ _) | (with_reducible exact Nat.le_refl _) | omega | (simp; done) | (simp [go_sem]; done) | (simp at *; omega))))))))); refine wpQuiet_nil ?_; rintro _ ⟨yr, rfl⟩; have syr := Ext.size yr; (repeat (first | rw [World.size_alloc] at syr | rw [World.size_setCell] at syr | rw [World.size_drew] at syr)); have : w.heap.size < yr.now.heap.size := (by omega); have : w.heap.size ≤ yr.now.heap.size := (by omega); have : w.heap.size < yr.now.heap.size + 1 + 1 := (by omega); have : w.heap.size + 1 < yr.now.heap.size := (by omega); have : w.heap.size + 1 ≤ yr.now.heap.size := (by omega); have : w.heap.size + 1 < yr.now.heap.size + 1 + 1 := (by omega)) | (go_at_call 19; (first | with_reducible refine (Calls.giv2 (cs _ (by repeat' (first | (with_reducible exact Below.refl _ _) | (with_reducible assumption) | (with_reducible refine Ext.below _ ?_ ?_) | (with_reducible refine Below.on ?_ (by with_reducible assumption) ?_) | (with_reducible refine Below.alloc ?_ ?_ _) | (with_reducible refine Below.drew ?_) | (with_reducible refine Below.setCell ?_ ?_ _) | (with_reducible exact Nat.le_refl _) | omega | (simp; done) | (simp [go_sem]; done) | (simp at *; omega))))).mono ?_ | with_reducible refine (Calls.giv (cs _ (by repeat' (first | (with_reducible exact Below.refl _ _) | (with_reducible assumption) | (with_reducible refine Ext.below _ ?_ ?_) | (with_reducible refine Below.on ?_ (by with_reducible assumption) ?_) | (with_reducible refine Below.alloc ?_ ?_ _) | (with_reducible refine Below.drew ?_) | (with_reducible refine Below.setCell ?_ ?_ _) | (with_reducible exact Nat.le_refl _) | omega | (simp; done) | (simp [go_sem]; done) | (simp at *; omega))))).mono ?_); rintro _ _ ⟨y1, rfl, rfl⟩; have sy1 := Ext.size y1; (repeat (first | rw [World.size_alloc] at sy1 | rw [World.size_setCell] at sy1 | rw [World.size_drew] at sy1)); have : w.heap.size < y1.now.heap.size := (by omega); have : w.heap.size ≤ y1.now.heap.size := (by omega); have : w.heap.size < y1.now.heap.size + 1 + 1 := (by omega); have : w.heap.size + 1 < y1.now.heap.size := (by omega); have : w.heap.size + 1 ≤ y1.now.heap.size := (by omega); have : w.heap.size + 1 < y1.now.heap.size + 1 + 1 := (by omega)))
    go_returns
    refine ⟨rfl, ?_⟩
    repeat' (first | (with_reducible exact Below.refl _ _) | (with_reducible assumption) | (with_reducible refine Ext.below _ ?_ ?_) | (with_reducible refine Below.on ?_ (by with_reducible assumption) ?_) | (with_reducible refine Below.alloc ?_ ?_ _) | (with_reducible refine Below.drew ?_) | (with_reducible refine Below.setCell ?_ ?_ _) | (with_reducible exact Nat.le_refl _) | omega | (simp; done) | (simp [go_sem]; done) | (simp at *; omega))
  | ok k =>
    unfold checkedR at hr
    by_cases hE : skyE s = 0
    case neg => rw [if_neg hE] at hr; cases hr
    rw [if_pos hE] at hr
    simp only
    by_cases hp : (partB a b && partB c d) = true
    · have hp' := hp
      simp only [Bool.and_eq_true] at hp'
      rw [hp, Bool.true_and]
      by_cases hk : x.kind = 2
      · exact refExcludes_ring s x k a b c d w hP hE hr hk hp'.1 hp'.2
      · obtain ⟨hg, -, -, -⟩ := look_word hr
        unfold wordR at hg
        rw [if_neg hk] at hg
        cases hc : coneR s.cats x with
        | error e => rw [hc] at hg; cases hg
        | ok cn => exact refExcludes_cone s x k cn a b c d w hP hE hr hc hk hp'.1 hp'.2
    · have hpf : (partB a b && partB c d) = false := by simpa using hp
      have cs := fun (W : World) (y : Below w.heap.size w W) => refCheckSight_any s x W (hP.on y)
      have hce : errOf (checkedR s x) = 0 := by unfold checkedR; rw [if_pos hE, hr]; rfl
      rw [hce] at cs
      have cA := fun W => refCheckArea_any a b c d W
      rw [hpf] at cA ⊢
      rw [Bool.false_and]
      unfold SkyR.val SightR.val at *
      clear hr hP hE hce hp hpf
      obtain ⟨kind, st, cat, tick, ⟨dx, dy⟩, err, lo, hi⟩ := x
      simp only at *
      generalize s.cats.length = n1 at *; generalize s.cp = n2 at *; generalize s.cc = n3 at *; generalize s.bodies.length = n4 at *; generalize s.bp = n5 at *; generalize s.bc = n6 at *; generalize s.sts.length = n7 at *; generalize s.sp = n8 at *; generalize s.sc = n9 at *; generalize s.home = n0 at *
      go_enter Try.func23, Try.ntmps23
      go_wp2_with (first | ((first | with_reducible refine wp_region_ext2 (by kernel_rfl) (by kernel_rfl) ?_ | with_reducible refine wp_region_ext (by kernel_rfl) (by kernel_rfl) ?_); (repeat (first | go_big_quiet_step ((first | (go_at_call 19; with_reducible exact Calls.ext (cs _ (by repeat' (first | (with_reducible exact Below.refl _ _) | (with_reducible assumption) | (with_reducible refine Ext.below _ ?_ ?_) | (with_reducible refine Below.on ?_ (by with_reducible assumption) ?_) | (with_reducible refine Below.alloc ?_ ?_ _) | (with_reducible refine Below.drew ?_) | (with_reducible refine Below.setCell ?_ ?_ _) | (with_reducible exact Nat.le_refl _) | omega | (simp; done) | (simp [go_sem]; done) | (simp at *; omega))))) | (go_at_call 50; with_reducible exact Calls.ext (cA _)))) | quiet_step ((first | (go_at_call 19; with_reducible exact Calls.ext (cs _ (by repeat' (first | (with_reducible exact Below.refl _ _) | (with_reducible assumption) | (with_reducible refine Ext.below _ ?_ ?_) | (with_reducible refine Below.on ?_ (by with_reducible assumption) ?_) | (with_reducible refine Below.alloc ?_ ?_ _) | (with_reducible refine Below.drew ?_) | (with_reducible refine Below.setCell ?_ ?_ _) | (with_reducible exact Nat.le_refl _) | omega | (simp; done) | (simp [go_sem]; done) | (simp at *; omega))))) | (go_at_call 50; with_reducible exact Calls.ext (cA _)))))); refine wpQuiet_nil ?_; rintro _ ⟨yr, rfl⟩; have syr := Ext.size yr; (repeat (first | rw [World.size_alloc] at syr | rw [World.size_setCell] at syr | rw [World.size_drew] at syr)); have : w.heap.size < yr.now.heap.size := (by omega); have : w.heap.size ≤ yr.now.heap.size := (by omega); have : w.heap.size < yr.now.heap.size + 1 + 1 := (by omega); have : w.heap.size + 1 < yr.now.heap.size := (by omega); have : w.heap.size + 1 ≤ yr.now.heap.size := (by omega); have : w.heap.size + 1 < yr.now.heap.size + 1 + 1 := (by omega); have : w.heap.size + 1 + 1 < yr.now.heap.size := (by omega); have : w.heap.size + 1 + 1 ≤ yr.now.heap.size := (by omega); have : w.heap.size + 1 + 1 < yr.now.heap.size + 1 + 1 := (by omega)) | (go_at_call 19; (first | with_reducible refine (Calls.giv2 (cs _ (by repeat' (first | (with_reducible exact Below.refl _ _) | (with_reducible assumption) | (with_reducible refine Ext.below _ ?_ ?_) | (with_reducible refine Below.on ?_ (by with_reducible assumption) ?_) | (with_reducible refine Below.alloc ?_ ?_ _) | (with_reducible refine Below.drew ?_) | (with_reducible refine Below.setCell ?_ ?_ _) | (with_reducible exact Nat.le_refl _) | omega | (simp; done) | (simp [go_sem]; done) | (simp at *; omega))))).mono ?_ | with_reducible refine (Calls.giv (cs _ (by repeat' (first | (with_reducible exact Below.refl _ _) | (with_reducible assumption) | (with_reducible refine Ext.below _ ?_ ?_) | (with_reducible refine Below.on ?_ (by with_reducible assumption) ?_) | (with_reducible refine Below.alloc ?_ ?_ _) | (with_reducible refine Below.drew ?_) | (with_reducible refine Below.setCell ?_ ?_ _) | (with_reducible exact Nat.le_refl _) | omega | (simp; done) | (simp [go_sem]; done) | (simp at *; omega))))).mono ?_); rintro _ _ ⟨y1, rfl, rfl⟩; have sy1 := Ext.size y1; (repeat (first | rw [World.size_alloc] at sy1 | rw [World.size_setCell] at sy1 | rw [World.size_drew] at sy1)); have : w.heap.size < y1.now.heap.size := (by omega); have : w.heap.size ≤ y1.now.heap.size := (by omega); have : w.heap.size < y1.now.heap.size + 1 + 1 := (by omega); have : w.heap.size + 1 < y1.now.heap.size := (by omega); have : w.heap.size + 1 ≤ y1.now.heap.size := (by omega); have : w.heap.size + 1 < y1.now.heap.size + 1 + 1 := (by omega); have : w.heap.size + 1 + 1 < y1.now.heap.size := (by omega); have : w.heap.size + 1 + 1 ≤ y1.now.heap.size := (by omega); have : w.heap.size + 1 + 1 < y1.now.heap.size + 1 + 1 := (by omega)) | (go_at_call 50; (first | with_reducible refine (Calls.giv2 (cA _)).mono ?_ | with_reducible refine (Calls.giv (cA _)).mono ?_); rintro _ _ ⟨y2, rfl, rfl⟩; have sy2 := Ext.size y2; (repeat (first | rw [World.size_alloc] at sy2 | rw [World.size_setCell] at sy2 | rw [World.size_drew] at sy2)); have : w.heap.size < y2.now.heap.size := (by omega); have : w.heap.size ≤ y2.now.heap.size := (by omega); have : w.heap.size < y2.now.heap.size + 1 + 1 := (by omega); have : w.heap.size + 1 < y2.now.heap.size := (by omega); have : w.heap.size + 1 ≤ y2.now.heap.size := (by omega); have : w.heap.size + 1 < y2.now.heap.size + 1 + 1 := (by omega); have : w.heap.size + 1 + 1 < y2.now.heap.size := (by omega); have : w.heap.size + 1 + 1 ≤ y2.now.heap.size := (by omega); have : w.heap.size + 1 + 1 < y2.now.heap.size + 1 + 1 := (by omega)))
      go_returns
      refine ⟨rfl, ?_⟩
      repeat' (first | (with_reducible exact Below.refl _ _) | (with_reducible assumption) | (with_reducible refine Ext.below _ ?_ ?_) | (with_reducible refine Below.on ?_ (by with_reducible assumption) ?_) | (with_reducible refine Below.alloc ?_ ?_ _) | (with_reducible refine Below.drew ?_) | (with_reducible refine Below.setCell ?_ ?_ _) | (with_reducible exact Nat.le_refl _) | omega | (simp; done) | (simp [go_sem]; done) | (simp at *; omega))
end Go.Proofs.Ytphdnoojacnopaa

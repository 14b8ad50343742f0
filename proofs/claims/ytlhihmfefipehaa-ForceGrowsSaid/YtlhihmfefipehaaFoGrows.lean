/- ForceGrows: how a pull grows and falls with distance and mass. Condition: none beyond the statement's own. -/
import Derived.Test.YtlhihmfefipehaaFoN
import Derived.Test.YtlhihmfefipehaaLawListG
import Derived.Test.YtlhihmfefipehaaFreeB
import Derived.Deep.CutRange
namespace Go.Proofs.Ytlhihmfefipehaa
open Go.RowKit Go.Shelf Go.ChangeShapes Go.WideShapes Go.ChangeAt Go.Joins
attribute [local go_sem] Option.isSome_some Ext.cell Ext.frozen Ext.lt Ext.le Ext.lt_add Ext.le_add Ext.ne Ext.ne' lt2 lt3 lt4 lt5 le2 le3 le4
attribute [local go_sem] RExt.cell RExt.frozen RExt.lt RExt.le RExt.lt_add RExt.le_add RExt.ne RExt.ne'
set_option maxRecDepth 100000
set_option maxHeartbeats 16000000
/-- One body in the origin: its way, a copy, its row and the world's box. -/
structure GrowsP (TB : Nat) (mu0 mu rad : Int) (W : World) : Prop where
  rT : W.heap[TB]? = some (.cells #[.int .i64 0, .int .i64 0] 43 (0, 0))
  rB : W.heap[TB + 1]? = some (.cells #[.int .i64 mu0, .int .i64 rad, .slice (some ⟨TB, 0, none⟩) 1 1] 52 (0, 0))
  rR : W.heap[TB + 1 + 1]? = some (.cells #[.int .i64 mu, .int .i64 rad, .slice (some ⟨TB, 0, none⟩) 1 1] 52 (0, 0))
  rW : W.heap[TB + 1 + 1 + 1]? = some (.cells #[.slice (some ⟨TB + 1 + 1, 0, none⟩) 1 1, .int .i64 0] 25 (0, 0))
section
variable {TB : Nat} {mu0 mu rad : Int} {W : World}
theorem GrowsP.ext (h : GrowsP TB mu0 mu rad W) (y : Ext W) : GrowsP TB mu0 mu rad y.now :=
  ⟨(y.grew.block _ (row_ltQ h.rT)).trans h.rT, (y.grew.block _ (row_ltQ h.rB)).trans h.rB, (y.grew.block _ (row_ltQ h.rR)).trans h.rR, (y.grew.block _ (row_ltQ h.rW)).trans h.rW⟩
theorem GrowsP.alloc (h : GrowsP TB mu0 mu rad W) (o : Obj) : GrowsP TB mu0 mu rad (W.alloc o) := h.ext ⟨_, (Below.refl _ _).alloc (Nat.le_refl _) o⟩
theorem GrowsP.bodies (h : GrowsP TB mu0 mu rad W) : BodiesAt W (some ⟨TB + 1 + 1, 0, none⟩) [⟨mu, rad, some ⟨TB, 0, none⟩, 1, [⟨0, 0⟩]⟩] := by
  intro j hj
  obtain rfl : j = 0 := by simp at hj; omega
  refine ⟨?_, TB + 1 + 1, 0, rfl, row_ltQ h.rR, (cell_of_row _ _ 0 _ _ _ h.rR).trans rfl, (cell_of_row _ _ 1 _ _ _ h.rR).trans rfl, (cell_of_row _ _ 2 _ _ _ h.rR).trans rfl⟩
  intro k hk
  obtain rfl : k = 0 := by simp at hk; omega
  exact ⟨TB, 0, rfl, row_ltQ h.rT, (cell_of_row _ _ 0 _ _ _ h.rT).trans rfl, (cell_of_row _ _ 1 _ _ _ h.rT).trans rfl⟩
theorem one_axis {x : Int} (m0 : 0 ≤ mu) (m1 : mu ≤ 1000000) (b0 : 0 ≤ rad) (b1 : rad ≤ 1000) (x0 : 1 ≤ x) (x1 : x ≤ 1000) (h : GrowsP TB mu0 mu rad W) :
    Calls Try.prog 15 #[.agg #[.slice (some ⟨TB + 1 + 1, 0, none⟩) 1 1, .int .i64 0], .int .i64 0, .int .i64 0, .agg #[.int .i64 (-x), .int .i64 (-x), .int .i64 0, .int .i64 0]] W (Gives (.tuple #[.agg #[.int .i64 (axL mu x (max x rad)), .int .i64 (axH mu x (max x rad)), .int .i64 0, .int .i64 0], .int .i64 0]) W) := by
  have k3 := One_any (some ⟨TB + 1 + 1, 0, none⟩) 1 [⟨mu, rad, some ⟨TB, 0, none⟩, 1, [⟨0, 0⟩]⟩] 0 0 0 (-x) (-x) 0 0 W h.bodies (Nat.le_refl _)
  have hw0 : worldE [⟨mu, rad, some ⟨TB, 0, none⟩, 1, [⟨0, 0⟩]⟩] 0 = 0 := by
    have e1 : bodyE ⟨mu, rad, some ⟨TB, 0, none⟩, 1, [⟨0, 0⟩]⟩ = 0 := by unfold bodyE; rw [if_neg (by simp only; omega)]; rfl
    unfold worldE bodiesE
    rw [e1]
    rfl
  have hE0 : askE [⟨mu, rad, some ⟨TB, 0, none⟩, 1, [⟨0, 0⟩]⟩] 0 0 0 (-x) (-x) 0 0 = 0 := ask_make hw0 rfl (by omega) ⟨by omega, by omega, by omega, by omega, by omega, by omega⟩
  have k1 : oneE [⟨mu, rad, some ⟨TB, 0, none⟩, 1, [⟨0, 0⟩]⟩] 0 0 0 (-x) (-x) 0 0 = 0 := by unfold oneE; rw [if_pos hE0]; rfl
  have k2 : oneA [⟨mu, rad, some ⟨TB, 0, none⟩, 1, [⟨0, 0⟩]⟩] 0 0 0 (-x) (-x) 0 0 = ⟨axL mu x (max x rad), axH mu x (max x rad), 0, 0⟩ := by
    unfold oneA
    rw [if_pos k1]
    exact pull_axis m0 m1 b0 b1 x0 x1
  rw [k1, k2] at k3
  exact k3
end
theorem ForceGrows_any (sp : Option Addr) (sl sc : Nat) (sz : Nat → Int) (n1 n2 : Int) (w : World) (hw : ListIn w sp sl sz) (hn1 : I64 n1) (hn2 : I64 n2) : Calls Try.prog 8 #[.slice sp sl sc, .int .i64 n1, .int .i64 n2] w (Gives (.bool true) w) := by
  have ca := fun W => fawake_any W
  have cm1 := fun W => Mod64_any n1 5000 W hn1 (by omega) (by omega)
  have cm2 := fun W => Mod64_any n2 300 W hn2 (by omega) (by omega)
  have a0 := Int.emod_nonneg n1 (b := 5000) (by omega)
  have a1 := Int.emod_lt_of_pos n1 (b := 5000) (by omega)
  have b0 := Int.emod_nonneg n2 (b := 300) (by omega)
  have b1 := Int.emod_lt_of_pos n2 (b := 300) (by omega)
  generalize n1 % 5000 = more at *
  generalize n2 % 300 = out at *
  clear hn1 hn2
  go_enter Try.func8, Try.ntmps8
  go_upto_region 2 with (first | ((first | with_reducible refine wrx2 ?_ | with_reducible refine wrx ?_); (repeat (first | go_big_quiet_step ((first | fail)) | quiet_step ((first | fail)))); refine wpQuiet_nil ?_; rintro _ ⟨yr, rfl⟩; have syr := Ext.size yr; (repeat (first | rw [World.size_alloc] at syr | rw [World.size_setCell] at syr | rw [World.size_drew] at syr))) | (go_at_call 23; refine (NewRing_r sp sl sc sz _ hw).mono ?_; rintro _ _ ⟨y0, rfl, rfl, hs0, hr0⟩))
  refine wp_namedQ (fun X hW => ?_)
  have hB0 : Below w.heap.size w X := by rw [← hW]; repeat' (first | (with_reducible exact Below.refl _ _) | (with_reducible assumption) | (with_reducible refine Ext.below _ ?_ ?_) | (with_reducible refine Below.on ?_ (by with_reducible assumption) ?_) | (with_reducible refine Below.alloc ?_ ?_ _) | (with_reducible refine Below.drew ?_) | (with_reducible refine Below.setCell ?_ ?_ _) | (with_reducible exact Nat.le_refl _) | omega | (simp; done) | (simp [go_sem]; done) | (simp at *; omega))
  have hRr : RingM X w.heap.size 0 := by rw [← hW]; exact ⟨sp, sl, sc, sz, 0, hr0, Nat.le_refl _⟩
  clear hW hr0 hs0
  have hbX := hRr.lt
  go_upto_region 3 with (first | ((first | with_reducible refine wrx2 ?_ | with_reducible refine wrx ?_); (repeat (first | go_big_quiet_step ((first | (go_at_call 39; with_reducible exact Calls.ext (cm1 _)) | (go_at_call 39; with_reducible exact Calls.ext (cm2 _)))) | quiet_step ((first | (go_at_call 39; with_reducible exact Calls.ext (cm1 _)) | (go_at_call 39; with_reducible exact Calls.ext (cm2 _)))))); refine wpQuiet_nil ?_; rintro _ ⟨yr, rfl⟩; have syr := Ext.size yr; (repeat (first | rw [World.size_alloc] at syr | rw [World.size_setCell] at syr | rw [World.size_drew] at syr))) | (go_at_call 39; (first | with_reducible refine (Calls.giv2 (cm1 _)).mono ?_ | with_reducible refine (Calls.giv (cm1 _)).mono ?_); rintro _ _ ⟨y1, rfl, rfl⟩; have sy1 := Ext.size y1; (repeat (first | rw [World.size_alloc] at sy1 | rw [World.size_setCell] at sy1 | rw [World.size_drew] at sy1))) | (go_at_call 39; (first | with_reducible refine (Calls.giv2 (cm2 _)).mono ?_ | with_reducible refine (Calls.giv (cm2 _)).mono ?_); rintro _ _ ⟨y2, rfl, rfl⟩; have sy2 := Ext.size y2; (repeat (first | rw [World.size_alloc] at sy2 | rw [World.size_setCell] at sy2 | rw [World.size_drew] at sy2))))
  refine wp_namedQ (fun X1 hW => ?_)
  have hR1 : RingM X1 w.heap.size 0 := by rw [← hW]; exact hRr.ext _
  have hB1 : Below w.heap.size w X1 := by rw [← hW]; repeat' (first | (with_reducible exact Below.refl _ _) | (with_reducible assumption) | (with_reducible refine Ext.below _ ?_ ?_) | (with_reducible refine Below.on ?_ (by with_reducible assumption) ?_) | (with_reducible refine Below.alloc ?_ ?_ _) | (with_reducible refine Below.drew ?_) | (with_reducible refine Below.setCell ?_ ?_ _) | (with_reducible exact Nat.le_refl _) | omega | (simp; done) | (simp [go_sem]; done) | (simp at *; omega))
  have hb1 := hR1.lt
  clear hW hRr hB0 hbX cm1 cm2 sy1 sy2
  clear y2
  clear y1
  go_upto_region 4 with (first | ((first | with_reducible refine wrx2 ?_ | with_reducible refine wrx ?_); (repeat (first | go_big_quiet_step ((first | fail)) | quiet_step ((first | fail)))); refine wpQuiet_nil ?_; rintro _ ⟨yr, rfl⟩; have syr := Ext.size yr; (repeat (first | rw [World.size_alloc] at syr | rw [World.size_setCell] at syr | rw [World.size_drew] at syr))) | (go_at_call 25; with_reducible refine Calls.mono (RangeQ_y 0 100000 w.heap.size 0 _ (by omega) (by omega) (by omega) (by omega) (by first | exact hR1 | exact hR1.drew)) ?_; rintro _ _ ⟨yM, mu, rfl, hmu, rfl, hr2⟩) | (go_at_call 25; with_reducible refine Calls.mono (RangeQ_y 0 40 w.heap.size (0 + 1) _ (by omega) (by omega) (by omega) (by omega) hr2) ?_; rintro _ _ ⟨yR, rad, rfl, hrad, rfl, hr3⟩))
  refine wp_namedQ (fun W2 hW => ?_)
  have zM := yM.size
  have zR : yM.now.heap.size ≤ yR.now.heap.size := yR.size
  have zX : X1.heap.size ≤ yM.now.heap.size := yM.size
  have hR2 : RingM W2 w.heap.size (0 + 1 + 1) := by rw [← hW]; exact (hr3.alloc _).alloc _
  have rT : W2.heap[yR.now.heap.size]? = some (.cells #[.int .i64 0, .int .i64 0] 43 (0, 0)) := by rw [← hW]; exact (heap_alloc_old _ _ (by simp only [World.size_alloc]; omega)).trans (heap_alloc_new _ _)
  have rB : W2.heap[yR.now.heap.size + 1]? = some (.cells #[.int .i64 mu, .int .i64 rad, .slice (some ⟨yR.now.heap.size, 0, none⟩) 1 1] 52 (0, 0)) := by
    rw [← hW]
    have h9 := heap_alloc_new (yR.now.alloc (.cells #[.int .i64 0, .int .i64 0] 43)) (.cells #[.int .i64 mu, .int .i64 rad, .slice (some ⟨yR.now.heap.size, 0, none⟩) 1 1] 52)
    simpa only [World.size_alloc] using h9
  have hB2 : BelowX w.heap.size w.heap.size w W2 := by
    rw [← hW]
    have k1 : BelowX w.heap.size w.heap.size w yR.now := (BelowX.of hB1).trans (yM.grew.trans (yR.grew.mono yM.size) |>.mono hB1.size)
    exact (k1.alloc k1.size _).alloc (by have := k1.size; simp only [World.size_alloc]; omega) _
  have z2 : W2.heap.size = yR.now.heap.size + 1 + 1 := by rw [← hW]; simp only [World.size_alloc]
  have lT : w.heap.size < yR.now.heap.size := by omega
  clear hW hr3 hr2 zM zR zX hB1 hb1 hR1
  generalize yR.now.heap.size = TB at *
  clear yR yM
  have b0' := (cell_of_row _ _ 0 _ _ _ rB).trans rfl
  have b1' := (cell_of_row _ _ 1 _ _ _ rB).trans rfl
  have b2' := (cell_of_row _ _ 2 _ _ _ rB).trans rfl
  simp only [List.getElem?_toArray, List.getElem?_cons_zero, List.getElem?_cons_succ] at b0' b1' b2'
  go_upto_region 5 with (first | ((first | with_reducible refine wrx2 ?_ | with_reducible refine wrx ?_); (repeat (first | go_big_quiet_step ((first | fail)) | quiet_step ((first | fail)))); refine wpQuiet_nil ?_; rintro _ ⟨yr, rfl⟩; have syr := Ext.size yr; (repeat (first | rw [World.size_alloc] at syr | rw [World.size_setCell] at syr | rw [World.size_drew] at syr))))
  refine wp_namedQ (fun W3 hW => ?_)
  have hG : GrowsP TB mu mu rad W3 := by
    rw [← hW]
    refine ⟨(heap_alloc_old _ _ (by simp only [World.size_alloc]; omega)).trans ((heap_alloc_old _ _ (by omega)).trans rT), (heap_alloc_old _ _ (by simp only [World.size_alloc]; omega)).trans ((heap_alloc_old _ _ (by omega)).trans rB), ?_, ?_⟩
    · refine (heap_alloc_old _ _ (by simp only [World.size_alloc]; omega)).trans ?_
      have h9 := heap_alloc_new W2 (.cells #[.int .i64 mu, .int .i64 rad, .slice (some ⟨TB, 0, none⟩) 1 1] 52)
      rw [z2] at h9
      exact h9
    · have h9 := heap_alloc_new (W2.alloc (.cells #[.int .i64 mu, .int .i64 rad, .slice (some ⟨TB, 0, none⟩) 1 1] 52)) (.cells #[.slice (some ⟨TB + 1 + 1, 0, none⟩) 1 1, .int .i64 0] 25)
      rw [World.size_alloc, z2] at h9
      exact h9
  have hR3 : RingM W3 w.heap.size (0 + 1 + 1) := by rw [← hW]; exact (hR2.alloc _).alloc _
  have hB3 : BelowX w.heap.size w.heap.size w W3 := by rw [← hW]; exact (hB2.alloc hB2.size _).alloc (by have := hB2.size; simp only [World.size_alloc]; omega) _
  clear hW hR2 hB2 b0' b1' b2' rT rB z2 W2
  go_upto_region 6 with (first | ((first | with_reducible refine wrx2 ?_ | with_reducible refine wrx ?_); (repeat (first | go_big_quiet_step ((first | fail)) | quiet_step ((first | fail)))); refine wpQuiet_nil ?_; rintro _ ⟨yr, rfl⟩; have syr := Ext.size yr; (repeat (first | rw [World.size_alloc] at syr | rw [World.size_setCell] at syr | rw [World.size_drew] at syr))) | (go_at_call 25; with_reducible refine Calls.mono (RangeQ_y 1 400 w.heap.size (0 + 1 + 1) _ (by omega) (by omega) (by omega) (by omega) (by first | exact hR3 | exact hR3.drew)) ?_; rintro _ _ ⟨yD, r, rfl, hr, rfl, hr4⟩))
  have hB4 : Below w.heap.size w yD.now := by
    have hz := hB3.trans (yD.grew.mono hB3.size)
    exact ⟨hz.os, hz.tape, hz.output, hz.size, fun k hk => hz.block k hk (by omega)⟩
  have hG4 : GrowsP TB mu mu rad yD.now := ⟨(yD.grew.block _ (row_ltQ hG.rT) (by omega)).trans hG.rT, (yD.grew.block _ (row_ltQ hG.rB) (by omega)).trans hG.rB, (yD.grew.block _ (row_ltQ hG.rR) (by omega)).trans hG.rR, (yD.grew.block _ (row_ltQ hG.rW) (by omega)).trans hG.rW⟩
  clear hR3 hr4 hB3
  obtain ⟨W4, hW4⟩ : ∃ W, W = yD.now := ⟨_, rfl⟩
  rw [← hW4] at hB4 hG4 ⊢
  clear hW4 hG yD W3
  have hG := hG4
  clear hG4
  have e1 : wrap64 (-r) = -r := IntWalk.wrap64_in _ (by omega)
  have e2 : wrap64 (-r - out) = -r - out := IntWalk.wrap64_in _ (by omega)
  have d1 : IntKind.i64.wrap (-r) = -r := IntWalk.i64_in _ (by omega)
  have d2 : IntKind.i64.wrap (-r - out) = -r - out := IntWalk.i64_in _ (by omega)
  have cA1 := fun W => fat_any (-r) 0 W
  have cA2 := fun W => fat_any (-r - out) 0 W
  have cO1 := fun (W : World) (h : GrowsP TB mu mu rad W) => one_axis hmu.1 (by omega) hrad.1 (by omega) (x := r) (by omega) (by omega) h
  have cO2 := fun (W : World) (h : GrowsP TB mu mu rad W) => one_axis hmu.1 (by omega) hrad.1 (by omega) (x := r + out) (by omega) (by omega) h
  have cO3 := fun (W : World) (h : GrowsP TB mu (mu + more) rad W) => one_axis (by omega) (by omega) hrad.1 (by omega) (x := r) (by omega) (by omega) h
  rw [show -(r + out) = -r - out by omega] at cO2
  have t0 : 0 ≤ axL mu r (max r rad) := axL_nonneg hmu.1 (by omega) (by omega)
  have t1 : rad ≤ r → axL mu (r + out) (max (r + out) rad) ≤ axL mu r (max r rad) ∧ axH mu (r + out) (max (r + out) rad) ≤ axH mu r (max r rad) := fun h => by
    rw [show max (r + out) rad = r + out by omega, show max r rad = r by omega]
    exact ax_out hmu.1 (by omega) (by omega)
  have t2 : r + out ≤ rad → axL mu r (max r rad) ≤ axL mu (r + out) (max (r + out) rad) ∧ axH mu r (max r rad) ≤ axH mu (r + out) (max (r + out) rad) := fun h => by
    rw [show max (r + out) rad = rad by omega, show max r rad = rad by omega]
    exact ⟨axL_in hmu.1 (by omega) (by omega), axH_in hmu.1 (by omega) (by omega)⟩
  have t3 : axL mu r (max r rad) ≤ axL (mu + more) r (max r rad) := axL_mu (by omega) (by omega) (by omega)
  have t4 : axH mu r (max r rad) ≤ axH (mu + more) r (max r rad) := axH_mu (by omega) (by omega) (by omega)
  generalize axL mu r (max r rad) = pl at *
  generalize axH mu r (max r rad) = ph at *
  generalize axL mu (r + out) (max (r + out) rad) = ql at *
  generalize axH mu (r + out) (max (r + out) rad) = qh at *
  generalize axL (mu + more) r (max r rad) = ul at *
  generalize axH (mu + more) r (max r rad) = uh at *
  (have c0 := (cell_of_row _ _ 0 _ _ _ hG.rW).trans rfl; have c1 := (cell_of_row _ _ 1 _ _ _ hG.rW).trans rfl; have b1' := (cell_of_row _ _ 1 _ _ _ hG.rB).trans rfl; have r0' := (cell_of_row _ _ 0 _ _ _ hG.rR).trans rfl; simp only [List.getElem?_toArray, List.getElem?_cons_zero, List.getElem?_cons_succ] at c0 c1 b1' r0'; have l0 := row_ltQ hG.rT; have l1 := row_ltQ hG.rB; have l2 := row_ltQ hG.rR; have l3 := row_ltQ hG.rW; have f0 := frozen_rowQ (o := 0) hG.rR)
  (apply wp_region_free1s 8 11 39 12 40 #[.int .i64 0, .int .i64 0, .int .i64 0, .int .i64 0] #[.int .i64 pl, .int .i64 ph, .int .i64 0, .int .i64 0] 33 (by kernel_rfl) (by kernel_rfl)); (case hal1 => (intro a' W' K hk; refine wpOp_step rfl (fun K' hK' => ?_); go_simp; exact hK' _ _ hk)); (case h => (intro z; have sz := z.size; (repeat (first | rw [World.size_alloc] at sz | rw [World.size_setCell] at sz | rw [World.size_drew] at sz)); have : TB < z.now.heap.size := (by omega); have : TB ≤ z.now.heap.size := (by omega); have : TB + 1 < z.now.heap.size := (by omega); have : TB + 1 ≤ z.now.heap.size := (by omega); have : TB + 1 + 1 < z.now.heap.size := (by omega); have : TB + 1 + 1 ≤ z.now.heap.size := (by omega); have : TB + 1 + 1 + 1 < z.now.heap.size := (by omega); have : TB + 1 + 1 + 1 ≤ z.now.heap.size := (by omega); (repeat (first | go_big_quiet_step ((first | (go_at_call 13; with_reducible exact Calls.ext (cA1 _)) | (go_at_call 15; with_reducible exact Calls.ext (cO1 _ (by repeat (first | (with_reducible exact hG) | (with_reducible refine GrowsP.alloc ?_ _) | (with_reducible refine GrowsP.ext ?_ _))))))) | quiet_step ((first | (go_at_call 13; with_reducible exact Calls.ext (cA1 _)) | (go_at_call 15; with_reducible exact Calls.ext (cO1 _ (by repeat (first | (with_reducible exact hG) | (with_reducible refine GrowsP.alloc ?_ _) | (with_reducible refine GrowsP.ext ?_ _))))))))); exact wpQuiet_nil rfl)); (case hfs => exact Nat.le_of_ble_eq_true rfl); (case hs1 => (intro a' W' K O hp hx hg hk; refine wpOp_step rfl (fun K' hK' => ?_); refine (if_pos (by rfl)).mpr ?_; exact store_op 33 (.tmp 11) (.tmp 39) rfl O #[.int .i64 pl, .int .i64 ph, .int .i64 0, .int .i64 0] hp (hx.trans rfl) 33 _ hg (by kernel_rfl) rfl (by simp [Value.oneCell']) (hK' _ _ hk))); (case hs2 => (intro a' W' K hx hk; refine wpOp_step rfl (fun K' hK' => ?_); have hk9 : K (a'.put (some 12) (a'.eval (.tmp 40))) W' := (by rw [hx]; exact hk); go_simp; first | exact hK' _ _ hk9 | (simp [Act.put, Act.eval] at hk9; exact hK' _ _ hk9))); intro yr BV gB1 gB2 gB3; have syr := yr.size; (repeat (first | rw [World.size_alloc] at syr | rw [World.size_setCell] at syr | rw [World.size_drew] at syr)); (repeat (first | rw [World.size_alloc] at gB1 | rw [World.size_setCell] at gB1 | rw [World.size_drew] at gB1)); have : TB < yr.now.heap.size := (by omega); have : TB ≤ yr.now.heap.size := (by omega); have : TB < yr.now.heap.size + 1 := (by omega); have : TB + 1 < yr.now.heap.size := (by omega); have : TB + 1 ≤ yr.now.heap.size := (by omega); have : TB + 1 < yr.now.heap.size + 1 := (by omega); have : TB + 1 + 1 < yr.now.heap.size := (by omega); have : TB + 1 + 1 ≤ yr.now.heap.size := (by omega); have : TB + 1 + 1 < yr.now.heap.size + 1 := (by omega); have : TB + 1 + 1 + 1 < yr.now.heap.size := (by omega); have : TB + 1 + 1 + 1 ≤ yr.now.heap.size := (by omega); have : TB + 1 + 1 + 1 < yr.now.heap.size + 1 := (by omega); have kv0 := one_row yr gB3 0; have kv1 := one_row yr gB3 1; have kv2 := one_row yr gB3 2; have kv3 := one_row yr gB3 3; simp only [List.getElem?_toArray, List.getElem?_cons_zero, List.getElem?_cons_succ] at kv0 kv1 kv2 kv3; clear gB3
  have hG5 := hG.ext yr
  have nP0 : TB + 1 + 1 + 1 < BV := by omega
  have hB5 : Below w.heap.size w yr.now := hB4.trans (yr.grew.mono hB4.size)
  clear syr gB1 hG hB4 c0 c1 b1' r0' l0 l1 l2 l3 f0
  (repeat clear this)
  obtain ⟨W5, hW5⟩ : ∃ W, W = yr.now := ⟨_, rfl⟩
  rw [← hW5] at hG5 hB5 gB2 kv0 kv1 kv2 kv3 ⊢
  clear hW5 yr W4
  have hG := hG5
  clear hG5
  obtain ⟨PB, hPB⟩ : ∃ B, B = BV := ⟨_, rfl⟩
  rw [← hPB] at gB2 kv0 kv1 kv2 kv3 nP0 ⊢
  clear hPB BV
  have p0 := kv0
  have p1 := kv1
  have p2 := kv2
  have p3 := kv3
  have lP := gB2
  clear kv0 kv1 kv2 kv3 gB2
  go_upto_region 7 with (first | ((first | with_reducible refine wrx2 ?_ | with_reducible refine wrx ?_); (repeat (first | go_big_quiet_step ((first | fail)) | quiet_step ((first | fail)))); refine wpQuiet_nil ?_; rintro _ ⟨yr, rfl⟩; have syr := Ext.size yr; (repeat (first | rw [World.size_alloc] at syr | rw [World.size_setCell] at syr | rw [World.size_drew] at syr))))
  (have c0 := (cell_of_row _ _ 0 _ _ _ hG.rW).trans rfl; have c1 := (cell_of_row _ _ 1 _ _ _ hG.rW).trans rfl; have b1' := (cell_of_row _ _ 1 _ _ _ hG.rB).trans rfl; have r0' := (cell_of_row _ _ 0 _ _ _ hG.rR).trans rfl; simp only [List.getElem?_toArray, List.getElem?_cons_zero, List.getElem?_cons_succ] at c0 c1 b1' r0'; have l0 := row_ltQ hG.rT; have l1 := row_ltQ hG.rB; have l2 := row_ltQ hG.rR; have l3 := row_ltQ hG.rW; have f0 := frozen_rowQ (o := 0) hG.rR)
  (apply wp_region_free1s 10 13 49 14 50 #[.int .i64 0, .int .i64 0, .int .i64 0, .int .i64 0] #[.int .i64 ql, .int .i64 qh, .int .i64 0, .int .i64 0] 33 (by kernel_rfl) (by kernel_rfl)); (case hal1 => (intro a' W' K hk; refine wpOp_step rfl (fun K' hK' => ?_); go_simp; exact hK' _ _ hk)); (case h => (intro z; have sz := z.size; (repeat (first | rw [World.size_alloc] at sz | rw [World.size_setCell] at sz | rw [World.size_drew] at sz)); have : TB < z.now.heap.size := (by omega); have : TB ≤ z.now.heap.size := (by omega); have : TB + 1 < z.now.heap.size := (by omega); have : TB + 1 ≤ z.now.heap.size := (by omega); have : TB + 1 + 1 < z.now.heap.size := (by omega); have : TB + 1 + 1 ≤ z.now.heap.size := (by omega); have : TB + 1 + 1 + 1 < z.now.heap.size := (by omega); have : TB + 1 + 1 + 1 ≤ z.now.heap.size := (by omega); have : PB < z.now.heap.size := (by omega); have : PB ≤ z.now.heap.size := (by omega); (repeat (first | go_big_quiet_step ((first | (go_at_call 13; with_reducible exact Calls.ext (cA2 _)) | (go_at_call 15; with_reducible exact Calls.ext (cO2 _ (by repeat (first | (with_reducible exact hG) | (with_reducible refine GrowsP.alloc ?_ _) | (with_reducible refine GrowsP.ext ?_ _))))))) | quiet_step ((first | (go_at_call 13; with_reducible exact Calls.ext (cA2 _)) | (go_at_call 15; with_reducible exact Calls.ext (cO2 _ (by repeat (first | (with_reducible exact hG) | (with_reducible refine GrowsP.alloc ?_ _) | (with_reducible refine GrowsP.ext ?_ _))))))))); exact wpQuiet_nil rfl)); (case hfs => exact Nat.le_of_ble_eq_true rfl); (case hs1 => (intro a' W' K O hp hx hg hk; refine wpOp_step rfl (fun K' hK' => ?_); refine (if_pos (by rfl)).mpr ?_; exact store_op 33 (.tmp 13) (.tmp 49) rfl O #[.int .i64 ql, .int .i64 qh, .int .i64 0, .int .i64 0] hp (hx.trans rfl) 33 _ hg (by kernel_rfl) rfl (by simp [Value.oneCell']) (hK' _ _ hk))); (case hs2 => (intro a' W' K hx hk; refine wpOp_step rfl (fun K' hK' => ?_); have hk9 : K (a'.put (some 14) (a'.eval (.tmp 50))) W' := (by rw [hx]; exact hk); go_simp; first | exact hK' _ _ hk9 | (simp [Act.put, Act.eval] at hk9; exact hK' _ _ hk9))); intro yr BV gB1 gB2 gB3; have syr := yr.size; (repeat (first | rw [World.size_alloc] at syr | rw [World.size_setCell] at syr | rw [World.size_drew] at syr)); (repeat (first | rw [World.size_alloc] at gB1 | rw [World.size_setCell] at gB1 | rw [World.size_drew] at gB1)); have : TB < yr.now.heap.size := (by omega); have : TB ≤ yr.now.heap.size := (by omega); have : TB < yr.now.heap.size + 1 := (by omega); have : TB + 1 < yr.now.heap.size := (by omega); have : TB + 1 ≤ yr.now.heap.size := (by omega); have : TB + 1 < yr.now.heap.size + 1 := (by omega); have : TB + 1 + 1 < yr.now.heap.size := (by omega); have : TB + 1 + 1 ≤ yr.now.heap.size := (by omega); have : TB + 1 + 1 < yr.now.heap.size + 1 := (by omega); have : TB + 1 + 1 + 1 < yr.now.heap.size := (by omega); have : TB + 1 + 1 + 1 ≤ yr.now.heap.size := (by omega); have : TB + 1 + 1 + 1 < yr.now.heap.size + 1 := (by omega); have : PB < yr.now.heap.size := (by omega); have : PB ≤ yr.now.heap.size := (by omega); have : PB < yr.now.heap.size + 1 := (by omega); have kv0 := one_row yr gB3 0; have kv1 := one_row yr gB3 1; have kv2 := one_row yr gB3 2; have kv3 := one_row yr gB3 3; simp only [List.getElem?_toArray, List.getElem?_cons_zero, List.getElem?_cons_succ] at kv0 kv1 kv2 kv3; have kvr := gB3; clear gB3
  have hG5 := hG.ext yr
  have hB6 := hB5.trans (yr.grew.mono hB5.size)
  have q0 := (yr.cell (o := 0) lP).trans p0
  have q1 := (yr.cell (o := 1) lP).trans p1
  have q2 := (yr.cell (o := 2) lP).trans p2
  have q3 := (yr.cell (o := 3) lP).trans p3
  have nPQ : PB ≠ BV := by omega
  have gP : TB + 1 + 1 + 1 < W5.heap.size := row_ltQ hG.rW
  have nQ : TB + 1 + 1 + 1 < BV := by omega
  have lP2 : PB < yr.now.heap.size := by omega
  clear syr gB1 hG hB5 c0 c1 b1' r0' l0 l1 l2 l3 f0 p0 p1 p2 p3 lP gP
  (repeat clear this)
  obtain ⟨W6, hW6⟩ : ∃ W, W = yr.now := ⟨_, rfl⟩
  rw [← hW6] at hG5 hB6 gB2 kv0 kv1 kv2 kv3 kvr q0 q1 q2 q3 lP2 ⊢
  clear hW6 yr W5
  have hG := hG5
  clear hG5
  obtain ⟨QB, hQB⟩ : ∃ B, B = BV := ⟨_, rfl⟩
  rw [← hQB] at gB2 kv0 kv1 kv2 kv3 kvr nPQ nQ ⊢
  clear hQB BV
  have m0 := kv0
  have m1 := kv1
  have m2 := kv2
  have m3 := kv3
  have rQ := kvr
  clear kvr
  have lQ := gB2
  clear kv0 kv1 kv2 kv3 gB2
  have cF := fun W => fof_any 0 0 W
  (have c0 := (cell_of_row _ _ 0 _ _ _ hG.rW).trans rfl; have c1 := (cell_of_row _ _ 1 _ _ _ hG.rW).trans rfl; have b1' := (cell_of_row _ _ 1 _ _ _ hG.rB).trans rfl; have r0' := (cell_of_row _ _ 0 _ _ _ hG.rR).trans rfl; simp only [List.getElem?_toArray, List.getElem?_cons_zero, List.getElem?_cons_succ] at c0 c1 b1' r0'; have l0 := row_ltQ hG.rT; have l1 := row_ltQ hG.rB; have l2 := row_ltQ hG.rR; have l3 := row_ltQ hG.rW; have f0 := frozen_rowQ (o := 0) hG.rR)
  have ht0 : ¬ pl < 0 := by omega
  go_upto_region 10 with (first | ((first | with_reducible refine wrx2 ?_ | with_reducible refine wrx ?_); (repeat (first | go_big_quiet_step ((first | (go_at_call 12; with_reducible exact Calls.ext (cF _)))) | quiet_step ((first | (go_at_call 12; with_reducible exact Calls.ext (cF _)))))); refine wpQuiet_nil ?_; rintro _ ⟨yr, rfl⟩; have syr := Ext.size yr; (repeat (first | rw [World.size_alloc] at syr | rw [World.size_setCell] at syr | rw [World.size_drew] at syr)); have : TB < yr.now.heap.size := (by omega); have : TB ≤ yr.now.heap.size := (by omega); have : TB < yr.now.heap.size + 1 + 1 := (by omega); have : TB + 1 < yr.now.heap.size := (by omega); have : TB + 1 ≤ yr.now.heap.size := (by omega); have : TB + 1 < yr.now.heap.size + 1 + 1 := (by omega); have : TB + 1 + 1 < yr.now.heap.size := (by omega); have : TB + 1 + 1 ≤ yr.now.heap.size := (by omega); have : TB + 1 + 1 < yr.now.heap.size + 1 + 1 := (by omega); have : TB + 1 + 1 + 1 < yr.now.heap.size := (by omega); have : TB + 1 + 1 + 1 ≤ yr.now.heap.size := (by omega); have : TB + 1 + 1 + 1 < yr.now.heap.size + 1 + 1 := (by omega); have : PB < yr.now.heap.size := (by omega); have : PB ≤ yr.now.heap.size := (by omega); have : PB < yr.now.heap.size + 1 + 1 := (by omega); have : QB < yr.now.heap.size := (by omega); have : QB ≤ yr.now.heap.size := (by omega); have : QB < yr.now.heap.size + 1 + 1 := (by omega)) | (go_at_call 12; (first | with_reducible refine (Calls.giv2 (cF _)).mono ?_ | with_reducible refine (Calls.giv (cF _)).mono ?_); rintro _ _ ⟨y1, rfl, rfl⟩; have sy1 := Ext.size y1; (repeat (first | rw [World.size_alloc] at sy1 | rw [World.size_setCell] at sy1 | rw [World.size_drew] at sy1)); have : TB < y1.now.heap.size := (by omega); have : TB ≤ y1.now.heap.size := (by omega); have : TB < y1.now.heap.size + 1 + 1 := (by omega); have : TB + 1 < y1.now.heap.size := (by omega); have : TB + 1 ≤ y1.now.heap.size := (by omega); have : TB + 1 < y1.now.heap.size + 1 + 1 := (by omega); have : TB + 1 + 1 < y1.now.heap.size := (by omega); have : TB + 1 + 1 ≤ y1.now.heap.size := (by omega); have : TB + 1 + 1 < y1.now.heap.size + 1 + 1 := (by omega); have : TB + 1 + 1 + 1 < y1.now.heap.size := (by omega); have : TB + 1 + 1 + 1 ≤ y1.now.heap.size := (by omega); have : TB + 1 + 1 + 1 < y1.now.heap.size + 1 + 1 := (by omega); have : PB < y1.now.heap.size := (by omega); have : PB ≤ y1.now.heap.size := (by omega); have : PB < y1.now.heap.size + 1 + 1 := (by omega); have : QB < y1.now.heap.size := (by omega); have : QB ≤ y1.now.heap.size := (by omega); have : QB < y1.now.heap.size + 1 + 1 := (by omega)))
  have hG5 := hG.ext yr
  have hB7 := hB6.trans (yr.grew.mono hB6.size)
  have p0 := (yr.cell (o := 0) lP2).trans q0
  have p1 := (yr.cell (o := 1) lP2).trans q1
  have s0 := (yr.cell (o := 0) lQ).trans m0
  have s1 := (yr.cell (o := 1) lQ).trans m1
  have lP7 : PB < yr.now.heap.size := by omega
  have lQ7 : QB < yr.now.heap.size := by omega
  have rQ7 := (yr.grew.block _ lQ).trans rQ
  clear syr hG hB6 c0 c1 b1' r0' l0 l1 l2 l3 f0 q0 q1 q2 q3 m0 m1 m2 m3 lP2 lQ rQ
  (repeat clear this)
  obtain ⟨W7, hW7⟩ : ∃ W, W = yr.now := ⟨_, rfl⟩
  rw [← hW7] at hG5 hB7 p0 p1 s0 s1 lP7 lQ7 rQ7 ⊢
  clear hW7 yr W6
  have hG := hG5
  clear hG5
  (have c0 := (cell_of_row _ _ 0 _ _ _ hG.rW).trans rfl; have c1 := (cell_of_row _ _ 1 _ _ _ hG.rW).trans rfl; have b1' := (cell_of_row _ _ 1 _ _ _ hG.rB).trans rfl; have r0' := (cell_of_row _ _ 0 _ _ _ hG.rR).trans rfl; simp only [List.getElem?_toArray, List.getElem?_cons_zero, List.getElem?_cons_succ] at c0 c1 b1' r0'; have l0 := row_ltQ hG.rT; have l1 := row_ltQ hG.rB; have l2 := row_ltQ hG.rR; have l3 := row_ltQ hG.rW; have f0 := frozen_rowQ (o := 0) hG.rR)
  have d3 : IntKind.i64.wrap (r + out) = r + out := IntWalk.i64_in _ (by omega)
  have d4 : IntKind.i64.wrap (mu + more) = mu + more := IntWalk.i64_in _ (by omega)
  have h1e : (rad ≤ r ∧ ¬ pl < ql ∧ ¬ ph < qh) ∨ ¬ rad ≤ r := by
    by_cases h : rad ≤ r
    · have := t1 h; left; omega
    · exact .inr h
  have h2e : (r + out ≤ rad ∧ ¬ ql < pl ∧ ¬ qh < ph) ∨ ¬ r + out ≤ rad := by
    by_cases h : r + out ≤ rad
    · have := t2 h; left; omega
    · exact .inr h
  clear t0 t1 t2
  rcases h1e with ⟨h1, h3, h4⟩ | h1
  all_goals rcases h2e with ⟨h2, h5, h6⟩ | h2
  all_goals
    go_upto_region 13 with (first | ((first | with_reducible refine wrx2 ?_ | with_reducible refine wrx ?_); (repeat (first | go_big_quiet_step ((first | fail)) | quiet_step ((first | fail)))); refine wpQuiet_nil ?_; rintro _ ⟨yr, rfl⟩; have syr := Ext.size yr; (repeat (first | rw [World.size_alloc] at syr | rw [World.size_setCell] at syr | rw [World.size_drew] at syr))))
    have nPR : TB + 1 + 1 ≠ PB := by omega
    have nQR : TB + 1 + 1 ≠ QB := by omega
    have hG8 : GrowsP TB mu (mu + more) rad (W7.setCell ⟨TB + 1 + 1, 0, none⟩ (.int .i64 (mu + more))) := by
      refine ⟨(heap_setCellQ (by omega) _).trans hG.rT, (heap_setCellQ (by omega) _).trans hG.rB, ?_, (heap_setCellQ (by omega) _).trans hG.rW⟩
      have h9 := heap_setCellI hG.rR (o := 0) (.int .i64 (mu + more))
      simpa only [List.setIfInBounds_toArray, List.set_cons_zero] using h9
    have hB8 : Below w.heap.size w (W7.setCell ⟨TB + 1 + 1, 0, none⟩ (.int .i64 (mu + more))) := hB7.setCell (by simp only; omega) _
    have rQ8 := (heap_setCellQ (W := W7) (g := TB + 1 + 1) (o := 0) (show QB ≠ TB + 1 + 1 by omega) (.int .i64 (mu + more))).trans rQ7
    have p0' : (W7.setCell ⟨TB + 1 + 1, 0, none⟩ (.int .i64 (mu + more))).cell? ⟨PB, 0, none⟩ = some (.int .i64 pl) := by simp [go_sem, p0]
    have p1' : (W7.setCell ⟨TB + 1 + 1, 0, none⟩ (.int .i64 (mu + more))).cell? ⟨PB, 1, none⟩ = some (.int .i64 ph) := by simp [go_sem, p1]
    have zP : (W7.setCell ⟨TB + 1 + 1, 0, none⟩ (.int .i64 (mu + more))).heap.size = W7.heap.size := by simp
    rw [← zP] at lP7 lQ7
    clear zP hG hB7 rQ7 p0 p1 s0 s1 c0 c1 b1' r0' l0 l1 l2 l3 f0
    (repeat clear this)
    generalize W7.setCell ⟨TB + 1 + 1, 0, none⟩ (.int .i64 (mu + more)) = W8 at *
    have hG := hG8
    clear hG8
    (have c0 := (cell_of_row _ _ 0 _ _ _ hG.rW).trans rfl; have c1 := (cell_of_row _ _ 1 _ _ _ hG.rW).trans rfl; have b1' := (cell_of_row _ _ 1 _ _ _ hG.rB).trans rfl; have r0' := (cell_of_row _ _ 0 _ _ _ hG.rR).trans rfl; simp only [List.getElem?_toArray, List.getElem?_cons_zero, List.getElem?_cons_succ] at c0 c1 b1' r0'; have l0 := row_ltQ hG.rT; have l1 := row_ltQ hG.rB; have l2 := row_ltQ hG.rR; have l3 := row_ltQ hG.rW; have f0 := frozen_rowQ (o := 0) hG.rR)
    (have s0 := (cell_of_row _ _ 0 _ _ _ (rQ8)).trans rfl; have s1 := (cell_of_row _ _ 1 _ _ _ (rQ8)).trans rfl; have s2 := (cell_of_row _ _ 2 _ _ _ (rQ8)).trans rfl; have s3 := (cell_of_row _ _ 3 _ _ _ (rQ8)).trans rfl; simp only [List.getElem?_toArray, List.getElem?_cons_zero, List.getElem?_cons_succ] at s0 s1 s2 s3; have f0 := frozen_rowQ (o := 0) (rQ8); have f1 := frozen_rowQ (o := 1) (rQ8); have f2 := frozen_rowQ (o := 2) (rQ8); have f3 := frozen_rowQ (o := 3) (rQ8))
    (first | with_reducible refine wp_region_ext2_heads 6 (by kernel_rfl) (by kernel_rfl) ?_ | with_reducible refine wp_region_ext_heads 6 (by kernel_rfl) (by kernel_rfl) ?_); simp only [List.take_succ_cons, List.take_zero, List.length_cons, List.length_nil, Nat.reduceAdd, Nat.reduceSub]; (repeat (first | go_big_quiet_step ((first | (go_at_call 13; with_reducible exact Calls.ext (cA1 _)) | (go_at_call 15; with_reducible exact Calls.ext (cO3 _ (by repeat (first | (with_reducible exact hG) | (with_reducible refine GrowsP.alloc ?_ _) | (with_reducible refine GrowsP.ext ?_ _))))))) | quiet_step ((first | (go_at_call 13; with_reducible exact Calls.ext (cA1 _)) | (go_at_call 15; with_reducible exact Calls.ext (cO3 _ (by repeat (first | (with_reducible exact hG) | (with_reducible refine GrowsP.alloc ?_ _) | (with_reducible refine GrowsP.ext ?_ _))))))))); refine wpQuiet_nil ?_; rintro _ ⟨yr, rfl⟩; have syr := Ext.size yr; (repeat (first | rw [World.size_alloc] at syr | rw [World.size_setCell] at syr | rw [World.size_drew] at syr)); refine wpAny_ready (rs := [6, 7]) (by kernel_rfl) (by simp) ?_; refine AllReady.cons rfl (fun K hK => ?_) (AllReady.cons rfl (fun K hK => ?_) AllReady.nil); (focus go_simp; refine hK _ _ ?_; clear hK K; refine wpAny_ready (rs := [7, 8]) (by kernel_rfl) (by simp) ?_; refine AllReady.cons rfl (fun K hK => ?_) (AllReady.cons rfl (fun K hK => ?_) AllReady.nil); (focus go_simp; refine hK _ _ ?_; clear hK K; (refine wpAny_ready (rs := [8]) (by kernel_rfl) (by simp) ?_; refine AllReady.cons rfl (fun K hK => ?_) AllReady.nil; go_simp; refine hK _ _ ?_; clear hK K); (refine wpAny_ready (rs := [9]) (by kernel_rfl) (by simp) ?_; refine AllReady.cons rfl (fun K hK => ?_) AllReady.nil; go_simp; refine hK _ _ ?_; clear hK K); refine wpAny_done (by kernel_rfl) ?_ _); rotate_left; (focus go_simp; refine hK _ _ ?_; clear hK K; (refine wpAny_ready (rs := [7]) (by kernel_rfl) (by simp) ?_; refine AllReady.cons rfl (fun K hK => ?_) AllReady.nil; go_simp; refine hK _ _ ?_; clear hK K); (refine wpAny_ready (rs := [9]) (by kernel_rfl) (by simp) ?_; refine AllReady.cons rfl (fun K hK => ?_) AllReady.nil; go_simp; refine hK _ _ ?_; clear hK K); refine wpAny_done (by kernel_rfl) ?_ _)); rotate_right; (focus go_simp; refine hK _ _ ?_; clear hK K; (refine wpAny_ready (rs := [6]) (by kernel_rfl) (by simp) ?_; refine AllReady.cons rfl (fun K hK => ?_) AllReady.nil; go_simp; refine hK _ _ ?_; clear hK K); (refine wpAny_ready (rs := [8]) (by kernel_rfl) (by simp) ?_; refine AllReady.cons rfl (fun K hK => ?_) AllReady.nil; go_simp; refine hK _ _ ?_; clear hK K); (refine wpAny_ready (rs := [9]) (by kernel_rfl) (by simp) ?_; refine AllReady.cons rfl (fun K hK => ?_) AllReady.nil; go_simp; refine hK _ _ ?_; clear hK K); refine wpAny_done (by kernel_rfl) ?_ _)
    all_goals
      go_wp2_with (first | ((first | with_reducible refine wrx2 ?_ | with_reducible refine wrx ?_); (repeat (first | go_big_quiet_step ((first | (go_at_call 10; with_reducible exact Calls.ext (ca _)))) | quiet_step ((first | (go_at_call 10; with_reducible exact Calls.ext (ca _)))))); refine wpQuiet_nil ?_; rintro _ ⟨yr, rfl⟩; have syr := Ext.size yr; (repeat (first | rw [World.size_alloc] at syr | rw [World.size_setCell] at syr | rw [World.size_drew] at syr))) | (go_at_call 10; (first | with_reducible refine (Calls.giv2 (ca _)).mono ?_ | with_reducible refine (Calls.giv (ca _)).mono ?_); rintro _ _ ⟨y1, rfl, rfl⟩; have sy1 := Ext.size y1; (repeat (first | rw [World.size_alloc] at sy1 | rw [World.size_setCell] at sy1 | rw [World.size_drew] at sy1))))
      go_returns
      refine ⟨rfl, ?_⟩
      repeat' (first | (with_reducible exact Below.refl _ _) | (with_reducible assumption) | (with_reducible refine Ext.below _ ?_ ?_) | (with_reducible refine Below.on ?_ (by with_reducible assumption) ?_) | (with_reducible refine Below.alloc ?_ ?_ _) | (with_reducible refine Below.drew ?_) | (with_reducible refine Below.setCell ?_ ?_ _) | (with_reducible exact Nat.le_refl _) | omega | (simp; done) | (simp [go_sem]; done) | (simp at *; omega))
set_option maxRecDepth 100000 in
theorem ForceGrows_lifted (os : Os) (started : os.Started) (H : Type) (enc : TypeId × Value → H) :
    ReturnsInHanded {} Try.checked os 8 .any (Rows.forceGrowsSpec.pre6 enc Try.prog Try.f8 Rows.forceGrowsRow.domain false) (Rows.forceGrowsSpec.post enc Try.prog Try.f8 false true false false) := by
  refine returnsInHanded_of_change (C := Try.checked) own started (by kernel_rfl) Try.func8
    (ChangeSpec.witness6 (enc := enc) (C := Try.checked) false ⟨#[], #[.slice none 0 0, .int .i64 0, .int .i64 0], []⟩ 8 (by kernel_rfl) (by kernel_rfl) (by kernel_rfl) (by kernel_rfl)) ?_
  intro W base args ds gs before hval0 hW _ _
  have hval : ∀ (j : Nat) t v, Try.f8.params[j]? = some t → args[j]? = some v → Value.okWide Try.prog W .any base t v := hval0
  have hW' := hW
  obtain ⟨p, q, hA0, hV, _, _, _⟩ := hW
  have hA : DataW.TrodAll enc Try.prog W 0 (fun _ => true) true Try.f8.params.toList args.toList ds p := hA0
  rw [Try.params8] at hA hval
  obtain ⟨v0, vs0, d0, ds0, p0, q0, hargs0, rfl, _, h0, r0⟩ := trodAll_cons hA
  obtain ⟨v1, vs1, d1, ds1, p1, q1, hargs1, rfl, _, h1, r1⟩ := trodAll_cons r0
  obtain ⟨v2, vs2, d2, ds2, p2, q2, hargs2, rfl, _, h2, r2⟩ := trodAll_cons r1
  obtain ⟨hlast, rfl, _⟩ := trodAll_nil r2
  subst hlast
  subst hargs2
  subst hargs1
  obtain rfl : args = #[v0, v1, v2] := by cases args; simp_all
  obtain ⟨rfl, rfl⟩ := trodVars_none hV
  obtain ⟨sp0, sl0, sc0, sz0, rfl, hi0⟩ := open_list (P := Try.prog) Try.underlying54 Try.underlying3 (by kernel_rfl) (hval 0 54 v0 rfl rfl) h0
  obtain ⟨x1, rfl, hi1⟩ := open_num (P := Try.prog) Try.underlying2 (hval 1 2 v1 rfl rfl)
  obtain ⟨x2, rfl, hi2⟩ := open_num (P := Try.prog) Try.underlying2 (hval 2 2 v2 rfl rfl)
  exact (ForceGrows_any sp0 sl0 sc0 sz0 x1 x2 W hi0 hi1 hi2).mono fun e W' h => law_post laid_out (by rw [Try.params8]; intro t ht; simp only [List.mem_cons, List.not_mem_nil, or_false] at ht; rcases ht with rfl | rfl | rfl | rfl | rfl | rfl | rfl | rfl; all_goals exact ⟨by kernel_rfl, by decide +kernel⟩) rfl rfl Try.underlying4 hW' rfl h
/-- The statement. -/
theorem ForceGrows_holds : Rows.ForceGrowsSaid :=
  OpenClaim.holds_of_wide 8 Try.f8 rfl rfl rfl rfl rfl rfl rfl ⟨rfl, rfl, rfl, rfl, rfl⟩ rfl rfl rfl rfl rfl (by kernel_rfl) Try.func8 (by kernel_rfl)
    (of_decide_eq_true (by kernel_rfl)) (by unfold Func.isWrapper; first | (rw [if_pos (by decide +kernel)]; kernel_rfl) | (rw [if_neg (by decide +kernel)]; exact ⟨rfl, rfl⟩))
    (fun os started H enc _ => ForceGrows_lifted os started H enc)
--LAW
end Go.Proofs.Ytlhihmfefipehaa

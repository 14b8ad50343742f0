/- The questions of package force: CheckDrift, check. Condition: the cells that are read. pullerOf of package force: a body of a valid world in its place. Condition: the cells that are read, a slice within its capacity. -/
import Derived.Test.YtlhihmfefipehaaFoA
import Derived.Test.YtlhihmfefipehaaSpans
import Derived.Test.YtlhihmfefipehaaSkyF
import Derived.Test.YtlhihmfefipehaaTail
import Derived.Deep.CutRange
namespace Go.Proofs.Ytlhihmfefipehaa
open Go.RowKit Go.Shelf
attribute [local go_sem] Option.isSome_some Ext.cell Ext.frozen Ext.lt Ext.le Ext.lt_add Ext.le_add Ext.ne Ext.ne' lt2 lt3 lt4 lt5 le2 le3 le4
set_option maxRecDepth 100000
set_option maxHeartbeats 4000000
def partE (lo hi least : Int) : Int := if hi < lo then 11 else if lo < least ∨ 1000 < hi then 2 else 0
theorem checkPart_any (lo hi least : Int) (w : World) : Calls Try.prog 58 #[.agg #[.int .i64 lo, .int .i64 hi], .int .i64 least] w (Gives (.int .i64 (partE lo hi least)) w) := by
  obtain ⟨V, hV⟩ : ∃ V, partE lo hi least = V := ⟨_, rfl⟩
  rw [hV]
  replace hV := Go.Lib.hid hV
  go_enter Try.func58, Try.ntmps58
  go_wp2_with (first | ((first | with_reducible refine wrx2 ?_ | with_reducible refine wrx ?_); (repeat (first | go_big_quiet_step ((first | fail)) | quiet_step ((first | fail)))); refine wpQuiet_nil ?_; rintro _ ⟨yr, rfl⟩; have syr := Ext.size yr; (repeat (first | rw [World.size_alloc] at syr | rw [World.size_setCell] at syr | rw [World.size_drew] at syr))))
  all_goals go_returns
  all_goals refine ⟨ret_int ?_, ?_⟩
  all_goals first
    | ((repeat' (first | (with_reducible exact Below.refl _ _) | (with_reducible assumption) | (with_reducible refine Ext.below _ ?_ ?_) | (with_reducible refine Below.on ?_ (by with_reducible assumption) ?_) | (with_reducible refine Below.alloc ?_ ?_ _) | (with_reducible refine Below.drew ?_) | (with_reducible refine Below.setCell ?_ ?_ _) | (with_reducible exact Nat.le_refl _) | omega | (simp; done) | (simp [go_sem]; done) | (simp at *; omega))); done)
    | (have e := hV.out; clear hV; unfold partE at e; subst e; ((try simp at *) <;> grind))
/-- A drift. -/
structure DriftR where
  ll : Int
  lh : Int
  hl : Int
  hh : Int
  gas : Int
def DriftR.val (d : DriftR) : Value := .agg #[.int .i64 d.ll, .int .i64 d.lh, .int .i64 d.hl, .int .i64 d.hh, .int .i64 d.gas]
def driftE (d : DriftR) : Int := if partE d.ll d.lh 0 = 0 then (if partE d.hl d.hh (-1000) = 0 then (if d.gas < 0 ∨ 1000 < d.gas then 2 else 0) else partE d.hl d.hh (-1000)) else partE d.ll d.lh 0
theorem CheckDrift_any (d : DriftR) (w : World) : Calls Try.prog 22 #[.agg #[.int .i64 d.ll, .int .i64 d.lh, .int .i64 d.hl, .int .i64 d.hh, .int .i64 d.gas]] w (Gives (.int .i64 (driftE d)) w) := by
  have c1 := fun W => checkPart_any d.ll d.lh 0 W
  have c2 := fun W => checkPart_any d.hl d.hh (-1000) W
  unfold driftE
  generalize partE d.ll d.lh 0 = e1 at *
  generalize partE d.hl d.hh (-1000) = e2 at *
  obtain ⟨ll, lh, hl, hh, g⟩ := d
  simp only at *
  obtain ⟨V, hV⟩ : ∃ V, (if e1 = 0 then (if e2 = 0 then (if g < 0 ∨ 1000 < g then 2 else 0) else e2) else e1) = V := ⟨_, rfl⟩
  rw [hV]
  replace hV := Go.Lib.hid hV
  go_enter Try.func22, Try.ntmps22
  go_wp2_with (first | ((first | with_reducible refine wrx2 ?_ | with_reducible refine wrx ?_); (repeat (first | go_big_quiet_step ((first | (go_at_call 58; with_reducible exact Calls.ext (c1 _)) | (go_at_call 58; with_reducible exact Calls.ext (c2 _)))) | quiet_step ((first | (go_at_call 58; with_reducible exact Calls.ext (c1 _)) | (go_at_call 58; with_reducible exact Calls.ext (c2 _)))))); refine wpQuiet_nil ?_; rintro _ ⟨yr, rfl⟩; have syr := Ext.size yr; (repeat (first | rw [World.size_alloc] at syr | rw [World.size_setCell] at syr | rw [World.size_drew] at syr))) | (go_at_call 58; (first | with_reducible refine (Calls.giv2 (c1 _)).mono ?_ | with_reducible refine (Calls.giv (c1 _)).mono ?_); rintro _ _ ⟨y1, rfl, rfl⟩; have sy1 := Ext.size y1; (repeat (first | rw [World.size_alloc] at sy1 | rw [World.size_setCell] at sy1 | rw [World.size_drew] at sy1))) | (go_at_call 58; (first | with_reducible refine (Calls.giv2 (c2 _)).mono ?_ | with_reducible refine (Calls.giv (c2 _)).mono ?_); rintro _ _ ⟨y2, rfl, rfl⟩; have sy2 := Ext.size y2; (repeat (first | rw [World.size_alloc] at sy2 | rw [World.size_setCell] at sy2 | rw [World.size_drew] at sy2))))
  all_goals go_returns
  all_goals refine ⟨ret_int ?_, ?_⟩
  all_goals first
    | ((repeat' (first | (with_reducible exact Below.refl _ _) | (with_reducible assumption) | (with_reducible refine Ext.below _ ?_ ?_) | (with_reducible refine Below.on ?_ (by with_reducible assumption) ?_) | (with_reducible refine Below.alloc ?_ ?_ _) | (with_reducible refine Below.drew ?_) | (with_reducible refine Below.setCell ?_ ?_ _) | (with_reducible exact Nat.le_refl _) | omega | (simp; done) | (simp [go_sem]; done) | (simp at *; omega))); done)
    | (have e := hV.out; clear hV c1 c2; subst e; ((try simp at *) <;> grind))
def placeB (a b c d : Int) : Bool := insideB a b (-33554432) 33554432 && insideB c d (-33554432) 33554432
/-- The error of a question; e: that of its drift. -/
def askE (l : List BodyR) (h e t a b c d : Int) : Int := if worldE l h = 0 then (if e = 0 then (if tickB t = true then (if chkA a b c d = 0 then (if placeB a b c d = true then 0 else 2) else chkA a b c d) else 2) else e) else worldE l h
theorem check_any (p : Option Addr) (cp : Nat) (l : List BodyR) (h : Int) (f : DriftR) (t a b c d : Int) (w : World) (hP : BodiesAt w p l) :
    Calls Try.prog 42 #[.agg #[.slice p l.length cp, .int .i64 h], .agg #[.int .i64 f.ll, .int .i64 f.lh, .int .i64 f.hl, .int .i64 f.hh, .int .i64 f.gas], .int .i64 t, .agg #[.int .i64 a, .int .i64 b, .int .i64 c, .int .i64 d]] w (Gives (.int .i64 (askE l h (driftE f) t a b c d)) w) := by
  have cw := fun (W : World) (y : Below w.heap.size w W) => CheckWorld_any p cp l h W (hP.on y)
  have cd := fun (W : World) => CheckDrift_any f W
  have ca := fun (W : World) => CheckArea_any a b c d W
  have c1 := fun (W : World) => Inside_any a b (-33554432) 33554432 W
  have c2 := fun (W : World) => Inside_any c d (-33554432) 33554432 W
  have ht : tickB t = decide (0 ≤ t ∧ t ≤ 1073741824) := rfl
  unfold askE placeB
  rw [ht]
  unfold wval at cw
  generalize worldE l h = e1 at *
  generalize driftE f = e2 at *
  generalize chkA a b c d = e3 at *
  generalize insideB a b (-33554432) 33554432 = k1 at *
  generalize insideB c d (-33554432) 33554432 = k2 at *
  obtain ⟨ll, lh, hl, hh, g⟩ := f
  simp only at *
  generalize l.length = n at *
  obtain ⟨V, hV⟩ : ∃ V, (if e1 = 0 then (if e2 = 0 then (if decide (0 ≤ t ∧ t ≤ 1073741824) = true then (if e3 = 0 then (if (k1 && k2) = true then 0 else 2) else e3) else 2) else e2) else e1) = V := ⟨_, rfl⟩
  rw [hV]
  replace hV := Go.Lib.hid hV
  clear ht hP
  cases k1 <;> cases k2
  all_goals
    go_enter Try.func42, Try.ntmps42
    go_wp2_with (first | ((first | with_reducible refine wrx2 ?_ | with_reducible refine wrx ?_); (repeat (first | go_big_quiet_step ((first | (go_at_call 41; with_reducible exact Calls.ext (cw _ bcl)) | (go_at_call 22; with_reducible exact Calls.ext (cd _)) | (go_at_call 69; with_reducible exact Calls.ext (ca _)) | (go_at_call 70; with_reducible exact Calls.ext (c1 _)) | (go_at_call 70; with_reducible exact Calls.ext (c2 _)))) | quiet_step ((first | (go_at_call 41; with_reducible exact Calls.ext (cw _ bcl)) | (go_at_call 22; with_reducible exact Calls.ext (cd _)) | (go_at_call 69; with_reducible exact Calls.ext (ca _)) | (go_at_call 70; with_reducible exact Calls.ext (c1 _)) | (go_at_call 70; with_reducible exact Calls.ext (c2 _)))))); refine wpQuiet_nil ?_; rintro _ ⟨yr, rfl⟩; have syr := Ext.size yr; (repeat (first | rw [World.size_alloc] at syr | rw [World.size_setCell] at syr | rw [World.size_drew] at syr))) | (go_at_call 41; (first | with_reducible refine (Calls.giv2 (cw _ bcl)).mono ?_ | with_reducible refine (Calls.giv (cw _ bcl)).mono ?_); rintro _ _ ⟨y1, rfl, rfl⟩; have sy1 := Ext.size y1; (repeat (first | rw [World.size_alloc] at sy1 | rw [World.size_setCell] at sy1 | rw [World.size_drew] at sy1))) | (go_at_call 22; (first | with_reducible refine (Calls.giv2 (cd _)).mono ?_ | with_reducible refine (Calls.giv (cd _)).mono ?_); rintro _ _ ⟨y2, rfl, rfl⟩; have sy2 := Ext.size y2; (repeat (first | rw [World.size_alloc] at sy2 | rw [World.size_setCell] at sy2 | rw [World.size_drew] at sy2))) | (go_at_call 69; (first | with_reducible refine (Calls.giv2 (ca _)).mono ?_ | with_reducible refine (Calls.giv (ca _)).mono ?_); rintro _ _ ⟨y3, rfl, rfl⟩; have sy3 := Ext.size y3; (repeat (first | rw [World.size_alloc] at sy3 | rw [World.size_setCell] at sy3 | rw [World.size_drew] at sy3))) | (go_at_call 70; (first | with_reducible refine (Calls.giv2 (c1 _)).mono ?_ | with_reducible refine (Calls.giv (c1 _)).mono ?_); rintro _ _ ⟨y4, rfl, rfl⟩; have sy4 := Ext.size y4; (repeat (first | rw [World.size_alloc] at sy4 | rw [World.size_setCell] at sy4 | rw [World.size_drew] at sy4))) | (go_at_call 70; (first | with_reducible refine (Calls.giv2 (c2 _)).mono ?_ | with_reducible refine (Calls.giv (c2 _)).mono ?_); rintro _ _ ⟨y5, rfl, rfl⟩; have sy5 := Ext.size y5; (repeat (first | rw [World.size_alloc] at sy5 | rw [World.size_setCell] at sy5 | rw [World.size_drew] at sy5))))
  all_goals go_returns
  all_goals refine ⟨ret_int ?_, ?_⟩
  all_goals first
    | ((repeat' (first | (with_reducible exact Below.refl _ _) | (with_reducible assumption) | (with_reducible refine Ext.below _ ?_ ?_) | (with_reducible refine Below.on ?_ (by with_reducible assumption) ?_) | (with_reducible refine Below.alloc ?_ ?_ _) | (with_reducible refine Below.drew ?_) | (with_reducible refine Below.setCell ?_ ?_ _) | (with_reducible exact Nat.le_refl _) | omega | (simp; done) | (simp [go_sem]; done) | (simp at *; omega))); done)
    | (have e := hV.out; clear hV cw cd ca c1 c2; subst e; ((try simp at *) <;> grind))
end Go.Proofs.Ytlhihmfefipehaa
namespace Go.Proofs.Ytlhihmfefipehaa
open Go.RowKit Go.Shelf
attribute [local go_sem] Option.isSome_some Ext.cell Ext.frozen Ext.lt Ext.le Ext.lt_add Ext.le_add Ext.ne Ext.ne' lt2 lt3 lt4 lt5 le2 le3 le4
set_option maxRecDepth 100000
set_option maxHeartbeats 4000000
theorem world_one {l : List BodyR} {h : Int} (hE : worldE l h = 0) (k : Nat) (hk : k < l.length) : worldE [l[k]] 0 = 0 := by
  have hz := (worldE_zero hE).1 k hk
  unfold worldE bodiesE
  rw [if_pos (by simp [cntE]), hz, if_pos rfl, bodiesE]
  simp
theorem at_one {l : List BodyR} {h t : Int} (hE : worldE l h = 0) (k : Nat) (hk : k < l.length) (ht : tickB t = true) : atV [l[k]] 0 0 t = trackAt l[k].track t := by
  unfold atV
  rw [if_pos ⟨world_one hE k hk, by simp, ht⟩]
  rfl
theorem bodies_one {W : World} {B o : Nat} {l : List BodyR} (h : BodiesAt W (some ⟨B, o, none⟩) l) (k : Nat) (hk : k < l.length) : BodiesAt W (some ⟨B, o + k * 3, none⟩) [l[k]] := by
  intro j hj
  obtain rfl : j = 0 := by simpa using hj
  obtain ⟨h1, B', o', e, h2, h3, h4, h5⟩ := h k hk
  cases e
  exact ⟨h1, B, o + k * 3, rfl, h2, by simpa using h3, by simpa using h4, by simpa using h5⟩
theorem pullerOf_any (p : Option Addr) (cp : Nat) (l : List BodyR) (h : Int) (k : Nat) (t : Int) (w : World) (hP : BodiesAt w p l) (hc : l.length ≤ cp) (hE : worldE l h = 0) (hk : k < l.length) (ht : tickB t = true) :
    Calls Try.prog 43 #[.agg #[.slice p l.length cp, .int .i64 h], .int .i64 k, .int .i64 t] w
      (Gives (.agg #[.int .i64 l[k].mu, .int .i64 l[k].rad, .slice l[k].tp l[k].track.length l[k].tc, .int .i64 (trackAt l[k].track t).x, .int .i64 (trackAt l[k].track t).y]) w) := by
  obtain ⟨-, B, o, rfl, hB, c1, c2, c3⟩ := hP k hk
  have ca := fun (cc : Nat) (W : World) (y : Below w.heap.size w W) => At_any (some ⟨B, o + k * 3, none⟩) cc [l[k]] 0 0 t W ((bodies_one hP k hk).on y)
  rw [at_one hE k hk ht] at ca
  unfold wval at ca
  have hn : l.length < 9 := by have := (worldE_zero hE).2.2.1; omega
  simp only [List.length_cons, List.length_nil, Nat.zero_add] at ca
  generalize (trackAt l[k].track t).x = ax at *
  generalize (trackAt l[k].track t).y = ay at *
  generalize l[k].mu = mu at *
  generalize l[k].rad = rad at *
  generalize l[k].tp = tp at *
  generalize l[k].track.length = tn at *
  generalize l[k].tc = tc at *
  clear hP hE ht
  generalize l.length = n at *
  have : B < (w).heap.size := (by omega); have : B < (w).heap.size + 1 := (by omega); have : B < (w).heap.size + 1 + 1 := (by omega); have : B ≠ (w).heap.size := (by omega); have : B ≠ (w).heap.size + 1 := (by omega)
  go_enter Try.func43, Try.ntmps43
  go_upto_region 2 with (first | ((first | with_reducible refine wrx2 ?_ | with_reducible refine wrx ?_); (repeat (first | go_big_quiet_step ((first | fail)) | quiet_step ((first | fail)))); refine wpQuiet_nil ?_; rintro _ ⟨yr, rfl⟩; have syr := Ext.size yr; (repeat (first | rw [World.size_alloc] at syr | rw [World.size_setCell] at syr | rw [World.size_drew] at syr))))
  (first | with_reducible refine wp_region_ext2_heads 10 (by kernel_rfl) (by kernel_rfl) ?_ | with_reducible refine wp_region_ext_heads 10 (by kernel_rfl) (by kernel_rfl) ?_); simp only [List.take_succ_cons, List.take_zero, List.length_cons, List.length_nil, Nat.reduceAdd, Nat.reduceSub]; (repeat (first | go_big_quiet_step ((first | (go_at_call 71; with_reducible exact Calls.ext (ca _ _ bcl)))) | quiet_step ((first | (go_at_call 71; with_reducible exact Calls.ext (ca _ _ bcl)))))); refine wpQuiet_nil ?_; rintro _ ⟨yr, rfl⟩; have syr := Ext.size yr; (repeat (first | rw [World.size_alloc] at syr | rw [World.size_setCell] at syr | rw [World.size_drew] at syr)); (refine wpAny_ready (rs := [10]) (by kernel_rfl) (by simp) ?_; refine AllReady.cons rfl (fun K hK => ?_) AllReady.nil; go_simp; refine hK _ _ ?_; clear hK K); refine wpAny_done (by kernel_rfl) ?_ _
  go_wp2_with (first | ((first | with_reducible refine wrx2 ?_ | with_reducible refine wrx ?_); (repeat (first | go_big_quiet_step ((first | fail)) | quiet_step ((first | fail)))); refine wpQuiet_nil ?_; rintro _ ⟨yr, rfl⟩; have syr := Ext.size yr; (repeat (first | rw [World.size_alloc] at syr | rw [World.size_setCell] at syr | rw [World.size_drew] at syr))))
  refine bodyPost_ret (v := .agg #[.int .i64 mu, .int .i64 rad, .slice tp tn tc, .int .i64 ax, .int .i64 ay]) (by simp (maxDischargeDepth := 9) [results, Try.results43, go_sem]) rfl ?_
  refine ⟨rfl, ?_⟩
  repeat' (first | (with_reducible exact Below.refl _ _) | (with_reducible assumption) | (with_reducible refine Ext.below _ ?_ ?_) | (with_reducible refine Below.on ?_ (by with_reducible assumption) ?_) | (with_reducible refine Below.alloc ?_ ?_ _) | (with_reducible refine Below.drew ?_) | (with_reducible refine Below.setCell ?_ ?_ _) | (with_reducible exact Nat.le_refl _) | omega | (simp; done) | (simp [go_sem]; done) | (simp at *; omega))
end Go.Proofs.Ytlhihmfefipehaa

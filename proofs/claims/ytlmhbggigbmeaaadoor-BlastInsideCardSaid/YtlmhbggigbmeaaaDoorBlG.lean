/- Contracts of the fall's methods, of fallOf and of Ends. Written by gen_blf.py. Condition: the table of limits stands as it was laid; valid air and a valid stone. -/
import Derived.Test.YtlmhbggigbmeaaaDoorBlF
import Derived.Test.YtlmhbggigbmeaaaDoorLawListG
import Derived.Test.YtlmhbggigbmeaaaDoorBlS
namespace Go.Proofs.YtlmhbggigbmeaaaDoor
open Go.RowKit Go.Shelf
attribute [local go_sem] Option.isSome_some Ext.cell Ext.frozen Ext.lt Ext.le Ext.lt_add Ext.le_add Ext.ne Ext.ne' lt2 lt3 lt4 lt5 le2 le3 le4
attribute [local go_sem] RExt.cell RExt.frozen RExt.lt RExt.le RExt.lt_add RExt.le_add RExt.ne RExt.ne'
theorem heap_setCell {W : World} {g o : Nat} {cs : Array Value} {T : TypeId} {fr : Nat × Nat} (h : W.heap[g]? = some (.cells cs T fr)) (v : Value) : (W.setCell ⟨g, o, none⟩ v).heap[g]? = some (.cells (cs.setIfInBounds o v) T fr) := by
  simp [World.setCell, Array.getElem?_modify, h]
theorem frozen_row {W : World} {g o : Nat} {cs : Array Value} {T : TypeId} (h : W.heap[g]? = some (.cells cs T (0, 0))) : W.frozen? ⟨g, o, none⟩ = false := by
  unfold World.frozen?
  simp [h]
theorem heap_setCell_ne {W : World} {g k o : Nat} (h : k ≠ g) (v : Value) : (W.setCell ⟨g, o, none⟩ v).heap[k]? = W.heap[k]? := by
  have h2 : ¬ g = k := fun e => h e.symm
  simp [World.setCell, Array.getElem?_modify, h2]
theorem VecsAt.put {W : World} {p : Option Addr} {l : List V2} {B : Nat} (h : VecsAt W p l) (hp : ∀ A o, l.length ≠ 0 → p = some ⟨A, o, none⟩ → A ≠ B) (o : Nat) (v : Value) : VecsAt (W.setCell ⟨B, o, none⟩ v) p l := fun j hj => by
  obtain ⟨A, q, rfl, hA, h1, h2⟩ := h j hj
  have hne := hp A q (by omega) rfl
  have hb : (W.setCell ⟨B, o, none⟩ v).heap[A]? = W.heap[A]? := heap_setCell_ne hne v
  exact ⟨A, q, rfl, by simpa using hA, (World.cell?_of_block (a := ⟨A, q + j * 2, none⟩) hb).trans h1, (World.cell?_of_block (a := ⟨A, q + j * 2 + 1, none⟩) hb).trans h2⟩
/-- Whether a stone bursts in a layer. -/
def burstB (s : StoneR) (de wv : Int) : Bool := decide (0 < de * wv ∧ holdsV s ≤ de * wv)
theorem holdsI_ok {s : StoneR} (h : s.Ok) : holdsI s = holdsV s := by unfold holdsI; rw [if_pos (stoneB_ok.2 h)]
theorem massI_ok {s : StoneR} (h : s.Ok) : massI s = massV s := by unfold massI; rw [if_pos (stoneB_ok.2 h)]
set_option maxRecDepth 100000 in
set_option maxHeartbeats 8000000 in
theorem bursts_any (FB : Nat) (p : Option Addr) (cap : Nat) (l : List V2) (s : StoneR) (i : Nat) (wv : Int) (w : World) (hlim : LimAt w) (hf : FallAt w FB p cap l s i wv) (hi : i < l.length) (_hl : l.length ≤ 32) (hs : s.Ok) (hair : ∀ v ∈ l, (1 ≤ v.x ∧ v.x ≤ 1000) ∧ 0 ≤ v.y ∧ v.y ≤ 1000) (hw : 0 ≤ wv ∧ wv ≤ 64000000) :
    Calls Tryd.prog 75 #[.pointer (some ⟨FB, 0, none⟩)] w (Gives (.bool (burstB s l[i].y wv)) w) := by
  obtain ⟨hrow, hv⟩ := hf
  obtain ⟨A, o, rfl, hA, z0, z1⟩ := hv i hi
  obtain ⟨hx, hy⟩ := hair l[i] (List.getElem_mem hi)
  have ch := fun (W : World) (y : LimAt W) => Holds_any s W y
  rw [holdsI_ok hs] at ch
  unfold StoneR.val StoneR.vals at ch
  unfold burstB
  generalize l[i].x = th at *
  generalize l[i].y = de at *
  have q0 := Int.mul_nonneg hy.1 hw.1
  have q1 := Int.mul_le_mul hy.2 hw.2 hw.1 (by omega)
  have x1 : wrap64 (de * wv) = de * wv := IntWalk.wrap64_in _ (by omega)
  generalize holdsV s = H at *
  have hlt2 : (i : Int) < l.length := by omega
  generalize l.length = n at *
  have k0 : w.cell? ⟨FB, 0, none⟩ = some (.slice (some ⟨A, o, none⟩) n cap) := (cell_of_row w _ 0 _ _ _ hrow).trans rfl
  have k1 : w.cell? ⟨FB, 1, none⟩ = some (.int .i64 s.size) := (cell_of_row w _ 1 _ _ _ hrow).trans rfl
  have k2 : w.cell? ⟨FB, 2, none⟩ = some (.int .i64 s.dens) := (cell_of_row w _ 2 _ _ _ hrow).trans rfl
  have k3 : w.cell? ⟨FB, 3, none⟩ = some (.int .i64 s.strong) := (cell_of_row w _ 3 _ _ _ hrow).trans rfl
  have k4 : w.cell? ⟨FB, 4, none⟩ = some (.int .i64 s.spin) := (cell_of_row w _ 4 _ _ _ hrow).trans rfl
  have k5 : w.cell? ⟨FB, 5, none⟩ = some (.int .i64 s.shape) := (cell_of_row w _ 5 _ _ _ hrow).trans rfl
  have k6 : w.cell? ⟨FB, 6, none⟩ = some (.bool s.pile) := (cell_of_row w _ 6 _ _ _ hrow).trans rfl
  have k7 : w.cell? ⟨FB, 7, none⟩ = some (.int .i64 s.speed) := (cell_of_row w _ 7 _ _ _ hrow).trans rfl
  have k8 : w.cell? ⟨FB, 8, none⟩ = some (.int .i64 s.slope) := (cell_of_row w _ 8 _ _ _ hrow).trans rfl
  have k9 : w.cell? ⟨FB, 9, none⟩ = some (.int .i64 i) := (cell_of_row w _ 9 _ _ _ hrow).trans rfl
  have k10 : w.cell? ⟨FB, 10, none⟩ = some (.int .i64 wv) := (cell_of_row w _ 10 _ _ _ hrow).trans rfl
  have hFB : FB < w.heap.size := row_lt hrow
  clear hrow hv hs hx hy hair
  go_enter Tryd.func75, Tryd.ntmps75
  go_wp2_with (first | ((first | with_reducible refine wrx2 ?_ | with_reducible refine wrx ?_); (repeat (first | go_big_quiet_step ((first | (go_at_call 22; with_reducible exact Calls.ext (ch _ (by repeat (first | exact hlim | (with_reducible refine LimAt.ext ?_ _) | (with_reducible refine LimAt.alloc ?_ _) | (with_reducible refine LimAt.drew ?_) | (with_reducible refine LimAt.rext ?_ (by omega) _) | (with_reducible refine LimAt.set ?_ (by omega) _))))))) | quiet_step ((first | (go_at_call 22; with_reducible exact Calls.ext (ch _ (by repeat (first | exact hlim | (with_reducible refine LimAt.ext ?_ _) | (with_reducible refine LimAt.alloc ?_ _) | (with_reducible refine LimAt.drew ?_) | (with_reducible refine LimAt.rext ?_ (by omega) _) | (with_reducible refine LimAt.set ?_ (by omega) _))))))))); refine wpQuiet_nil ?_; rintro _ ⟨yr, rfl⟩; have syr := Ext.size yr; (repeat (first | rw [World.size_alloc] at syr | rw [World.size_setCell] at syr | rw [World.size_drew] at syr)); have : FB < yr.now.heap.size := (by omega); have : FB ≤ yr.now.heap.size := (by omega); have : FB < yr.now.heap.size + 1 + 1 := (by omega); have : A < yr.now.heap.size := (by omega); have : A ≤ yr.now.heap.size := (by omega); have : A < yr.now.heap.size + 1 + 1 := (by omega)) | (go_at_call 22; (first | with_reducible refine (Calls.giv2 (ch _ (by repeat (first | exact hlim | (with_reducible refine LimAt.ext ?_ _) | (with_reducible refine LimAt.alloc ?_ _) | (with_reducible refine LimAt.drew ?_) | (with_reducible refine LimAt.rext ?_ (by omega) _) | (with_reducible refine LimAt.set ?_ (by omega) _))))).mono ?_ | with_reducible refine (Calls.giv (ch _ (by repeat (first | exact hlim | (with_reducible refine LimAt.ext ?_ _) | (with_reducible refine LimAt.alloc ?_ _) | (with_reducible refine LimAt.drew ?_) | (with_reducible refine LimAt.rext ?_ (by omega) _) | (with_reducible refine LimAt.set ?_ (by omega) _))))).mono ?_); rintro _ _ ⟨y1, rfl, rfl⟩; have sy1 := Ext.size y1; (repeat (first | rw [World.size_alloc] at sy1 | rw [World.size_setCell] at sy1 | rw [World.size_drew] at sy1)); have : FB < y1.now.heap.size := (by omega); have : FB ≤ y1.now.heap.size := (by omega); have : FB < y1.now.heap.size + 1 + 1 := (by omega); have : A < y1.now.heap.size := (by omega); have : A ≤ y1.now.heap.size := (by omega); have : A < y1.now.heap.size + 1 + 1 := (by omega)))
  all_goals go_returns
  all_goals refine ⟨ret_bool ?_, ?_⟩
  all_goals first
    | (rw [decide_eq_decide]; omega)
    | (simp; omega)
    | (symm; simp; omega)
    | ((repeat' (first | (with_reducible exact Below.refl _ _) | (with_reducible assumption) | (with_reducible refine Ext.below _ ?_ ?_) | (with_reducible refine Below.on ?_ (by with_reducible assumption) ?_) | (with_reducible refine Below.alloc ?_ ?_ _) | (with_reducible refine Below.drew ?_) | (with_reducible refine Below.setCell ?_ ?_ _) | (with_reducible exact Nat.le_refl _) | omega | (simp; done) | (simp [go_sem]; done) | (simp at *; omega))); done)
def PassPost (w : World) (FB : Nat) (p : Option Addr) (cap : Nat) (l : List V2) (s : StoneR) (i : Nat) (wv : Int) : Ending → World → Prop := fun e w' => ∃ y : RExt w FB, e = .returned (.tuple #[]) ∧ w' = y.now ∧ FallAt y.now FB p cap l s i wv
theorem PassPost.intro {w W : World} {FB : Nat} {p : Option Addr} {cap : Nat} {l : List V2} {s : StoneR} {i : Nat} {wv : Int} (hB : BelowX FB w.heap.size w W) (hf : FallAt W FB p cap l s i wv) : PassPost w FB p cap l s i wv (.returned (.tuple #[])) W := ⟨⟨W, hB⟩, rfl, rfl, hf⟩
set_option maxRecDepth 100000 in
set_option maxHeartbeats 8000000 in
theorem pass_any (FB : Nat) (p : Option Addr) (cap : Nat) (l : List V2) (s : StoneR) (i : Nat) (wv : Int) (w : World) (hf : FallAt w FB p cap l s i wv) (hi : i < l.length) (hl : l.length ≤ 32) (hs : s.Ok) (hair : ∀ v ∈ l, (1 ≤ v.x ∧ v.x ≤ 1000) ∧ 0 ≤ v.y ∧ v.y ≤ 1000) (hw : 0 ≤ wv ∧ wv ≤ 64000000) (hpB : ∀ A o, l.length ≠ 0 → p = some ⟨A, o, none⟩ → A ≠ FB) :
    Calls Tryd.prog 76 #[.pointer (some ⟨FB, 0, none⟩)] w (PassPost w FB p cap l s (i + 1) (stp wv (kOf s l[i]) (dOf s))) := by
  have cl := fun (W : World) (y : Below w.heap.size w W) => lost_any FB p cap l s i wv W ⟨(y.block FB (row_lt hf.1)).trans hf.1, hf.2.on y⟩ hi hl hs hair hw
  have hq : 0 ≤ wv * kOf s l[i] / dOf s := by
    obtain ⟨hx, hy⟩ := hair l[i] (List.getElem_mem hi)
    exact Int.ediv_nonneg (Int.mul_nonneg hw.1 (k_bounds hs hx hy).2.2) (by have := (d_bounds hs).2; omega)
  have hst : stp wv (kOf s l[i]) (dOf s) = wv - min (wv * kOf s l[i] / dOf s) wv := rfl
  rw [hst]
  generalize wv * kOf s l[i] / dOf s = q at *
  obtain ⟨M, hM⟩ : ∃ M, min q wv = M := ⟨_, rfl⟩
  have hM1 : 0 ≤ M ∧ M ≤ wv := by omega
  rw [hM] at cl ⊢
  clear hM hst hq
  obtain ⟨hrow, hv⟩ := hf
  have hln : i < 33 := by omega
  clear hi
  have k0 : w.cell? ⟨FB, 0, none⟩ = some (.slice p l.length cap) := (cell_of_row w _ 0 _ _ _ hrow).trans rfl
  have k1 : w.cell? ⟨FB, 1, none⟩ = some (.int .i64 s.size) := (cell_of_row w _ 1 _ _ _ hrow).trans rfl
  have k2 : w.cell? ⟨FB, 2, none⟩ = some (.int .i64 s.dens) := (cell_of_row w _ 2 _ _ _ hrow).trans rfl
  have k3 : w.cell? ⟨FB, 3, none⟩ = some (.int .i64 s.strong) := (cell_of_row w _ 3 _ _ _ hrow).trans rfl
  have k4 : w.cell? ⟨FB, 4, none⟩ = some (.int .i64 s.spin) := (cell_of_row w _ 4 _ _ _ hrow).trans rfl
  have k5 : w.cell? ⟨FB, 5, none⟩ = some (.int .i64 s.shape) := (cell_of_row w _ 5 _ _ _ hrow).trans rfl
  have k6 : w.cell? ⟨FB, 6, none⟩ = some (.bool s.pile) := (cell_of_row w _ 6 _ _ _ hrow).trans rfl
  have k7 : w.cell? ⟨FB, 7, none⟩ = some (.int .i64 s.speed) := (cell_of_row w _ 7 _ _ _ hrow).trans rfl
  have k8 : w.cell? ⟨FB, 8, none⟩ = some (.int .i64 s.slope) := (cell_of_row w _ 8 _ _ _ hrow).trans rfl
  have k9 : w.cell? ⟨FB, 9, none⟩ = some (.int .i64 i) := (cell_of_row w _ 9 _ _ _ hrow).trans rfl
  have k10 : w.cell? ⟨FB, 10, none⟩ = some (.int .i64 wv) := (cell_of_row w _ 10 _ _ _ hrow).trans rfl
  have hFB : FB < w.heap.size := row_lt hrow
  have hrow0 := Go.Lib.hid hrow
  replace hv := Go.Lib.hid hv
  have f9 : w.frozen? ⟨FB, 9, none⟩ = false := frozen_row hrow
  have f10 : w.frozen? ⟨FB, 10, none⟩ = false := frozen_row hrow
  clear hrow hs hair
  go_enter Tryd.func76, Tryd.ntmps76
  go_upto_region 0 with fail
  (first | with_reducible refine wp_region_ext2_heads 9 (by kernel_rfl) (by kernel_rfl) ?_ | with_reducible refine wp_region_ext_heads 9 (by kernel_rfl) (by kernel_rfl) ?_); simp only [List.take_succ_cons, List.take_zero, List.length_cons, List.length_nil, Nat.reduceAdd, Nat.reduceSub]; (repeat (first | go_big_quiet_step ((first | (go_at_call 99; with_reducible exact Calls.ext (cl _ bcl)))) | quiet_step ((first | (go_at_call 99; with_reducible exact Calls.ext (cl _ bcl)))))); refine wpQuiet_nil ?_; rintro _ ⟨yr, rfl⟩; have syr := Ext.size yr; (repeat (first | rw [World.size_alloc] at syr | rw [World.size_setCell] at syr | rw [World.size_drew] at syr)); (refine wpAny_ready (rs := [9]) (by kernel_rfl) (by simp) ?_; refine AllReady.cons rfl (fun K hK => ?_) AllReady.nil; go_simp; refine hK _ _ ?_; clear hK K); refine wpAny_done (by kernel_rfl) ?_ _
  go_wp2_with fail
  go_end0
  have hy := hrow0.out
  replace hy := (yr.grew.block FB (row_lt hy)).trans hy
  refine PassPost.intro ?_ ⟨?_, VecsAt.put (VecsAt.put (hv.out.ext yr) hpB _ _) hpB _ _⟩
  · exact (BelowX.of yr.grew).trans (((BelowX.refl FB _ _).ring _ _).ring _ _)
  · exact (heap_setCell (heap_setCell hy _) _).trans (by simp)
/-- Whether a fall goes on, and how it stands then. -/
def goOn (l : List V2) (s : StoneR) (i : Nat) (wv : Int) : Bool × Nat × Int := if h : i < l.length then (if burstB s l[i].y wv = true then (false, i, wv) else (true, i + 1, stp wv (kOf s l[i]) (dOf s))) else (false, i, wv)
def GoPost (w : World) (FB : Nat) (p : Option Addr) (cap : Nat) (l : List V2) (s : StoneR) (r : Bool × Nat × Int) : Ending → World → Prop := fun e w' => ∃ y : RExt w FB, e = .returned (.bool r.1) ∧ w' = y.now ∧ FallAt y.now FB p cap l s r.2.1 r.2.2
theorem GoPost.intro {w W : World} {FB : Nat} {p : Option Addr} {cap : Nat} {l : List V2} {s : StoneR} {r : Bool × Nat × Int} (hB : BelowX FB w.heap.size w W) (hf : FallAt W FB p cap l s r.2.1 r.2.2) : GoPost w FB p cap l s r (.returned (.bool r.1)) W := ⟨⟨W, hB⟩, rfl, rfl, hf⟩
set_option maxRecDepth 100000 in
set_option maxHeartbeats 8000000 in
theorem goesOn_any (FB : Nat) (p : Option Addr) (cap : Nat) (l : List V2) (s : StoneR) (i : Nat) (wv : Int) (w : World) (hlim : LimAt w) (_hlF : 0 < FB) (hf : FallAt w FB p cap l s i wv) (hi : i ≤ l.length) (hl : l.length ≤ 32) (hs : s.Ok) (hair : ∀ v ∈ l, (1 ≤ v.x ∧ v.x ≤ 1000) ∧ 0 ≤ v.y ∧ v.y ≤ 1000) (hw : 0 ≤ wv ∧ wv ≤ 64000000) (hpB : ∀ A o, l.length ≠ 0 → p = some ⟨A, o, none⟩ → A ≠ FB) :
    Calls Tryd.prog 50 #[.pointer (some ⟨FB, 0, none⟩)] w (GoPost w FB p cap l s (goOn l s i wv)) := by
  have hrow := hf.1
  have hFB : FB < w.heap.size := row_lt hrow
  have k0 : w.cell? ⟨FB, 0, none⟩ = some (.slice p l.length cap) := (cell_of_row w _ 0 _ _ _ hrow).trans rfl
  have k9 : w.cell? ⟨FB, 9, none⟩ = some (.int .i64 i) := (cell_of_row w _ 9 _ _ _ hrow).trans rfl
  have hat := fun (W : World) (y : Below w.heap.size w W) => (show FallAt W FB p cap l s i wv from ⟨(y.block FB hFB).trans hrow, hf.2.on y⟩)
  replace hat := Go.Lib.hid hat
  unfold goOn
  by_cases h : i < l.length
  · rw [dif_pos h]
    have cb := fun (W : World) (y : Below w.heap.size w W) => bursts_any FB p cap l s i wv W (hlim.on y) (hat.out W y) h hl hs hair hw
    have cp := fun (W : World) (y : Below w.heap.size w W) => pass_any FB p cap l s i wv W (hat.out W y) h hl hs hair hw hpB
    have ne : ((i : Int) == l.length) = false := by simp; omega
    have nlt : (i : Int) ≠ l.length := by omega
    clear hrow hf hair hpB
    generalize burstB s l[i].y wv = B at *
    generalize stp wv (kOf s l[i]) (dOf s) = wn at *
    cases B
    · simp only [Bool.false_eq_true, if_false]
      go_enter Tryd.func50, Tryd.ntmps50
      go_wp2_with (first | ((first | with_reducible refine wrx2 ?_ | with_reducible refine wrx ?_); (repeat (first | go_big_quiet_step ((first | (go_at_call 75; with_reducible exact Calls.ext (cb _ bcl)))) | quiet_step ((first | (go_at_call 75; with_reducible exact Calls.ext (cb _ bcl)))))); refine wpQuiet_nil ?_; rintro _ ⟨yr, rfl⟩; have syr := Ext.size yr; (repeat (first | rw [World.size_alloc] at syr | rw [World.size_setCell] at syr | rw [World.size_drew] at syr)); have : FB < yr.now.heap.size := (by omega); have : FB ≤ yr.now.heap.size := (by omega); have : FB < yr.now.heap.size + 1 + 1 := (by omega)) | (go_at_call 75; (first | with_reducible refine (Calls.giv2 (cb _ bcl)).mono ?_ | with_reducible refine (Calls.giv (cb _ bcl)).mono ?_); rintro _ _ ⟨y1, rfl, rfl⟩; have sy1 := Ext.size y1; (repeat (first | rw [World.size_alloc] at sy1 | rw [World.size_setCell] at sy1 | rw [World.size_drew] at sy1)); have : FB < y1.now.heap.size := (by omega); have : FB ≤ y1.now.heap.size := (by omega); have : FB < y1.now.heap.size + 1 + 1 := (by omega)) | (go_at_call 76; refine (cp _ bcl).mono ?_; rintro _ _ ⟨y9, rfl, rfl, hf9⟩))
      go_returns
      exact GoPost.intro ((BelowX.of yr.grew).trans (y9.grew.mono yr.size)) hf9
    · simp only [if_true]
      go_enter Tryd.func50, Tryd.ntmps50
      go_wp2_with (first | ((first | with_reducible refine wrx2 ?_ | with_reducible refine wrx ?_); (repeat (first | go_big_quiet_step ((first | (go_at_call 75; with_reducible exact Calls.ext (cb _ bcl)))) | quiet_step ((first | (go_at_call 75; with_reducible exact Calls.ext (cb _ bcl)))))); refine wpQuiet_nil ?_; rintro _ ⟨yr, rfl⟩; have syr := Ext.size yr; (repeat (first | rw [World.size_alloc] at syr | rw [World.size_setCell] at syr | rw [World.size_drew] at syr)); have : FB < yr.now.heap.size := (by omega); have : FB ≤ yr.now.heap.size := (by omega); have : FB < yr.now.heap.size + 1 + 1 := (by omega)) | (go_at_call 75; (first | with_reducible refine (Calls.giv2 (cb _ bcl)).mono ?_ | with_reducible refine (Calls.giv (cb _ bcl)).mono ?_); rintro _ _ ⟨y1, rfl, rfl⟩; have sy1 := Ext.size y1; (repeat (first | rw [World.size_alloc] at sy1 | rw [World.size_setCell] at sy1 | rw [World.size_drew] at sy1)); have : FB < y1.now.heap.size := (by omega); have : FB ≤ y1.now.heap.size := (by omega); have : FB < y1.now.heap.size + 1 + 1 := (by omega)))
      go_returns
      exact GoPost.intro (BelowX.of yr.grew) (hat.out _ yr.grew)
  · rw [dif_neg h]
    have hil : i = l.length := by omega
    clear hrow hf hair hpB
    rw [← hil] at k0
    go_enter Tryd.func50, Tryd.ntmps50
    go_wp2_with (first | ((first | with_reducible refine wrx2 ?_ | with_reducible refine wrx ?_); (repeat (first | go_big_quiet_step ((first | fail)) | quiet_step ((first | fail)))); refine wpQuiet_nil ?_; rintro _ ⟨yr, rfl⟩; have syr := Ext.size yr; (repeat (first | rw [World.size_alloc] at syr | rw [World.size_setCell] at syr | rw [World.size_drew] at syr)); have : FB < yr.now.heap.size := (by omega); have : FB ≤ yr.now.heap.size := (by omega); have : FB < yr.now.heap.size + 1 + 1 := (by omega)))
    go_returns
    exact GoPost.intro (BelowX.of yr.grew) (hat.out _ yr.grew)
set_option maxHeartbeats 4000000 in
theorem energy_any (FB : Nat) (p : Option Addr) (cap : Nat) (l : List V2) (s : StoneR) (i : Nat) (wv : Int) (w : World) (hlim : LimAt w) (hf : FallAt w FB p cap l s i wv) (hs : s.Ok) (hw : 0 ≤ wv ∧ wv ≤ 64000000) :
    Calls Tryd.prog 51 #[.pointer (some ⟨FB, 0, none⟩)] w (Gives (.int .i64 (massV s * wv)) w) := by
  obtain ⟨hrow, -⟩ := hf
  have k0 : w.cell? ⟨FB, 0, none⟩ = some (.slice p l.length cap) := (cell_of_row w _ 0 _ _ _ hrow).trans rfl
  have k1 : w.cell? ⟨FB, 1, none⟩ = some (.int .i64 s.size) := (cell_of_row w _ 1 _ _ _ hrow).trans rfl
  have k2 : w.cell? ⟨FB, 2, none⟩ = some (.int .i64 s.dens) := (cell_of_row w _ 2 _ _ _ hrow).trans rfl
  have k3 : w.cell? ⟨FB, 3, none⟩ = some (.int .i64 s.strong) := (cell_of_row w _ 3 _ _ _ hrow).trans rfl
  have k4 : w.cell? ⟨FB, 4, none⟩ = some (.int .i64 s.spin) := (cell_of_row w _ 4 _ _ _ hrow).trans rfl
  have k5 : w.cell? ⟨FB, 5, none⟩ = some (.int .i64 s.shape) := (cell_of_row w _ 5 _ _ _ hrow).trans rfl
  have k6 : w.cell? ⟨FB, 6, none⟩ = some (.bool s.pile) := (cell_of_row w _ 6 _ _ _ hrow).trans rfl
  have k7 : w.cell? ⟨FB, 7, none⟩ = some (.int .i64 s.speed) := (cell_of_row w _ 7 _ _ _ hrow).trans rfl
  have k8 : w.cell? ⟨FB, 8, none⟩ = some (.int .i64 s.slope) := (cell_of_row w _ 8 _ _ _ hrow).trans rfl
  have k9 : w.cell? ⟨FB, 9, none⟩ = some (.int .i64 i) := (cell_of_row w _ 9 _ _ _ hrow).trans rfl
  have k10 : w.cell? ⟨FB, 10, none⟩ = some (.int .i64 wv) := (cell_of_row w _ 10 _ _ _ hrow).trans rfl
  have hFB : FB < w.heap.size := row_lt hrow
  have cm := fun (W : World) (y : LimAt W) => Mass_any s W y
  rw [massI_ok hs] at cm
  unfold StoneR.val StoneR.vals at cm
  have m1 : 0 ≤ massV s ∧ massV s ≤ 9000000000 := by
    obtain ⟨-, -, a, b⟩ := mass_bounds hs
    have := Int.ediv_nonneg a (show (0 : Int) ≤ 1000 by decide)
    have := div_mono_num b (show (0 : Int) < 1000 by decide)
    unfold massV
    omega
  generalize massV s = M at *
  have m2 := Int.mul_nonneg m1.1 hw.1
  have m3 := Int.mul_le_mul m1.2 hw.2 hw.1 (by omega)
  have m4 : wrap64 (M * wv) = M * wv := IntWalk.wrap64_in _ (by omega)
  clear hrow hs
  go_enter Tryd.func51, Tryd.ntmps51
  go_wp2_with (first | ((first | with_reducible refine wrx2 ?_ | with_reducible refine wrx ?_); (repeat (first | go_big_quiet_step ((first | (go_at_call 21; with_reducible exact Calls.ext (cm _ (by repeat (first | exact hlim | (with_reducible refine LimAt.ext ?_ _) | (with_reducible refine LimAt.alloc ?_ _) | (with_reducible refine LimAt.drew ?_) | (with_reducible refine LimAt.rext ?_ (by omega) _) | (with_reducible refine LimAt.set ?_ (by omega) _))))))) | quiet_step ((first | (go_at_call 21; with_reducible exact Calls.ext (cm _ (by repeat (first | exact hlim | (with_reducible refine LimAt.ext ?_ _) | (with_reducible refine LimAt.alloc ?_ _) | (with_reducible refine LimAt.drew ?_) | (with_reducible refine LimAt.rext ?_ (by omega) _) | (with_reducible refine LimAt.set ?_ (by omega) _))))))))); refine wpQuiet_nil ?_; rintro _ ⟨yr, rfl⟩; have syr := Ext.size yr; (repeat (first | rw [World.size_alloc] at syr | rw [World.size_setCell] at syr | rw [World.size_drew] at syr)); have : FB < yr.now.heap.size := (by omega); have : FB ≤ yr.now.heap.size := (by omega); have : FB < yr.now.heap.size + 1 + 1 := (by omega)) | (go_at_call 21; (first | with_reducible refine (Calls.giv2 (cm _ (by repeat (first | exact hlim | (with_reducible refine LimAt.ext ?_ _) | (with_reducible refine LimAt.alloc ?_ _) | (with_reducible refine LimAt.drew ?_) | (with_reducible refine LimAt.rext ?_ (by omega) _) | (with_reducible refine LimAt.set ?_ (by omega) _))))).mono ?_ | with_reducible refine (Calls.giv (cm _ (by repeat (first | exact hlim | (with_reducible refine LimAt.ext ?_ _) | (with_reducible refine LimAt.alloc ?_ _) | (with_reducible refine LimAt.drew ?_) | (with_reducible refine LimAt.rext ?_ (by omega) _) | (with_reducible refine LimAt.set ?_ (by omega) _))))).mono ?_); rintro _ _ ⟨y1, rfl, rfl⟩; have sy1 := Ext.size y1; (repeat (first | rw [World.size_alloc] at sy1 | rw [World.size_setCell] at sy1 | rw [World.size_drew] at sy1)); have : FB < y1.now.heap.size := (by omega); have : FB ≤ y1.now.heap.size := (by omega); have : FB < y1.now.heap.size + 1 + 1 := (by omega)))
  go_returns
  refine ⟨rfl, ?_⟩
  repeat' (first | (with_reducible exact Below.refl _ _) | (with_reducible assumption) | (with_reducible refine Ext.below _ ?_ ?_) | (with_reducible refine Below.on ?_ (by with_reducible assumption) ?_) | (with_reducible refine Below.alloc ?_ ?_ _) | (with_reducible refine Below.drew ?_) | (with_reducible refine Below.setCell ?_ ?_ _) | (with_reducible exact Nat.le_refl _) | omega | (simp; done) | (simp [go_sem]; done) | (simp at *; omega))
end Go.Proofs.YtlmhbggigbmeaaaDoor

/- The reference's Blows, for a valid air and a valid rock with a fall. Condition: the air in memory. -/
import Derived.Test.YtlmhbggigbmeaaaDoorFreeAG
import Derived.Test.YtlmhbggigbmeaaaDoorBlV1G
import Derived.Test.YtlmhbggigbmeaaaDoorBlUpG
import Derived.Test.YtlmhbggigbmeaaaDoorBlC3G
import Derived.Test.YtlmhbggigbmeaaaDoorKitG
namespace Go.Proofs.YtlmhbggigbmeaaaDoor
open Go.RowKit Go.Shelf
attribute [local go_sem] Option.isSome_some Ext.cell Ext.frozen Ext.lt Ext.le Ext.lt_add Ext.le_add Ext.ne Ext.ne' lt2 lt3 lt4 lt5 le2 le3 le4
/-- What stands in memory below n: the rock and the fall, what holds the two stones, their masses. -/
structure BwC (n : Nat) (W : World) (KB WB HB MB : Nat) (k : RockR) (f : FallR) (h0 h1 m0 m1 : Int) : Prop where
  lK : KB + 1 < n
  lW : WB < n
  lH : HB < n
  lM : MB < n
  nK : KB + 1 < WB
  nH : HB ≠ WB
  nM : MB ≠ WB
  k0 : W.cell? ⟨KB, 0, none⟩ = some (.int .i64 k.size.x)
  k1 : W.cell? ⟨KB, 1, none⟩ = some (.int .i64 k.size.y)
  k2 : W.cell? ⟨KB, 2, none⟩ = some (.int .i64 k.dens.x)
  k3 : W.cell? ⟨KB, 3, none⟩ = some (.int .i64 k.dens.y)
  k8 : W.cell? ⟨KB, 8, none⟩ = some (.int .i64 k.shape.x)
  k9 : W.cell? ⟨KB, 9, none⟩ = some (.int .i64 k.shape.y)
  f2 : W.cell? ⟨KB + 1, 2, none⟩ = some (.int .i64 f.slope.x)
  f3 : W.cell? ⟨KB + 1, 3, none⟩ = some (.int .i64 f.slope.y)
  h0 : W.cell? ⟨HB, 0, none⟩ = some (.int .i64 h0)
  h1 : W.cell? ⟨HB, 1, none⟩ = some (.int .i64 h1)
  m0 : W.cell? ⟨MB, 0, none⟩ = some (.int .i64 m0)
  m1 : W.cell? ⟨MB, 1, none⟩ = some (.int .i64 m1)
theorem BwC.onX {n : Nat} {W W' : World} {KB WB HB MB : Nat} {k : RockR} {f : FallR} {h0 h1 m0 m1 : Int} (h : BwC n W KB WB HB MB k f h0 h1 m0 m1) (b : BelowX WB n W W') : BwC n W' KB WB HB MB k f h0 h1 m0 m1 := by
  obtain ⟨lK, lW, lH, lM, nK, nH, nM, k0, k1, k2, k3, k8, k9, f2, f3, c0, c1, d0, d1⟩ := h
  exact ⟨by omega, by omega, by omega, by omega, nK, nH, nM, (b.cell (by omega) (by omega)).trans k0, (b.cell (by omega) (by omega)).trans k1, (b.cell (by omega) (by omega)).trans k2, (b.cell (by omega) (by omega)).trans k3, (b.cell (by omega) (by omega)).trans k8, (b.cell (by omega) (by omega)).trans k9,
    (b.cell (by omega) (by omega)).trans f2, (b.cell (by omega) (by omega)).trans f3, (b.cell (by omega) (by omega)).trans c0, (b.cell (by omega) (by omega)).trans c1, (b.cell (by omega) (by omega)).trans d0, (b.cell (by omega) (by omega)).trans d1⟩
theorem box2_put {W : World} {B : Nat} {a b : Value} {T : TypeId} (h : W.heap[B]? = some (.cells #[a, b] T (0, 0))) (u v : Value) : ((W.setCell ⟨B, 0, none⟩ u).setCell ⟨B, 1, none⟩ v).heap[B]? = some (.cells #[u, v] T (0, 0)) := by
  have h1 := heap_setCell (o := 0) h u
  exact (heap_setCell (o := 1) h1 v).trans (by simp)
theorem belowX_put2 {n B : Nat} {W Y : World} (h : BelowX B n W Y) (u v : Value) : BelowX B n W ((Y.setCell ⟨B, 0, none⟩ u).setCell ⟨B, 1, none⟩ v) := (h.ring 0 u).ring 1 v
set_option maxRecDepth 100000 in
set_option maxHeartbeats 8000000 in
theorem rBlows_ok (p : Option Addr) (cap : Nat) (l : List V2) (k : RockR) (f : FallR) (w : World) (hP : VecsAt w p l) (ha : airE l = 0) (hr : rockE k f = 0) :
    Calls Tryd.prog 71 #[.slice p l.length cap, k.val, f.val] w (BlowsPost w (blowsV l k f)) := by
  obtain ⟨hl, hair⟩ := air_ok ha
  have el := early_late hr
  have ca := fun (W : World) (y : Below w.heap.size w W) => rCheckAir_any p cap l W (hP.on y) (by omega)
  rw [ha] at ca
  have cr := fun (W : World) => rCheckRock_any k f W
  rw [hr] at cr
  have ch1 : ∀ W, Calls Tryd.prog 91 #[.int .i64 k.strong.x, .int .i64 k.spin.y, .bool k.pile] W (Gives (.int .i64 (holdsV (firstS k f))) W) := fun W => rholds_any (firstS k f) el.es W
  have ch2 : ∀ W, Calls Tryd.prog 91 #[.int .i64 k.strong.y, .int .i64 k.spin.x, .bool k.pile] W (Gives (.int .i64 (holdsV (lastS k f))) W) := fun W => rholds_any (lastS k f) el.lt W
  have cm1 : ∀ W, Calls Tryd.prog 92 #[.int .i64 k.size.y, .int .i64 k.dens.y] W (Gives (.int .i64 (massV (firstS k f))) W) := fun W => rmass_any (firstS k f) el.es W
  have cm2 : ∀ W, Calls Tryd.prog 92 #[.int .i64 k.size.x, .int .i64 k.dens.x] W (Gives (.int .i64 (massV (lastS k f))) W) := fun W => rmass_any (lastS k f) el.lt W
  have hsp : (1 ≤ f.speed.x ∧ f.speed.x ≤ 8000) ∧ (1 ≤ f.speed.y ∧ f.speed.y ≤ 8000) ∧ f.speed.x ≤ f.speed.y := ⟨el.lt.speed, el.es.speed, (rockE_ok hr).2.2.2.2.2.2.2.1⟩
  have hw0 : 0 ≤ f.speed.x * f.speed.x ∧ f.speed.x * f.speed.x ≤ f.speed.y * f.speed.y ∧ f.speed.y * f.speed.y ≤ 64000000 := by
    obtain ⟨q1, q2, q3⟩ := hsp
    have b := Int.mul_nonneg (show 0 ≤ f.speed.x by omega) (show 0 ≤ f.speed.x by omega)
    have c := Int.mul_le_mul q3 q3 (by omega) (by omega)
    have d := Int.mul_le_mul q2.2 q2.2 (by omega) (by omega)
    omega
  have wrp1 : wrap64 (f.speed.x * f.speed.x) = f.speed.x * f.speed.x := IntWalk.wrap64_in _ (by omega)
  have wrp2 : wrap64 (f.speed.y * f.speed.y) = f.speed.y * f.speed.y := IntWalk.wrap64_in _ (by omega)
  have hV0 : blowsV l k f = rblL (firstS k f) (lastS k f) l 0 (f.speed.y * f.speed.y) (f.speed.x * f.speed.x) := thru_rbl el l 0 _ _ hair hw0.1 hw0.2.1
  rw [hV0]
  clear hV0 hsp
  obtain ⟨V, hV⟩ : ∃ V, rblL (firstS k f) (lastS k f) l 0 (f.speed.y * f.speed.y) (f.speed.x * f.speed.x) = V := ⟨_, rfl⟩
  rw [hV]
  replace hV := Go.Lib.hid hV
  replace hair := Go.Lib.hid hair
  replace el := Go.Lib.hid el
  replace hP := Go.Lib.hid hP
  replace hw0 := Go.Lib.hid hw0
  clear ha hr
  unfold RockR.val FallR.val at *
  obtain ⟨G0, eG0⟩ : ∃ G, holdsV (firstS k f) = G := ⟨_, rfl⟩
  obtain ⟨G1, eG1⟩ : ∃ G, holdsV (lastS k f) = G := ⟨_, rfl⟩
  obtain ⟨M1, eM1⟩ : ∃ M, massV (firstS k f) = M := ⟨_, rfl⟩
  obtain ⟨M0, eM0⟩ : ∃ M, massV (lastS k f) = M := ⟨_, rfl⟩
  rw [eG0] at ch1
  rw [eG1] at ch2
  rw [eM1] at cm1
  rw [eM0] at cm2
  replace eG0 := Go.Lib.hid eG0
  replace eG1 := Go.Lib.hid eG1
  replace eM0 := Go.Lib.hid eM0
  replace eM1 := Go.Lib.hid eM1
  go_enter Tryd.func71, Tryd.ntmps71
  go_upto_region 8 with (first | ((first | with_reducible refine wrx2 ?_ | with_reducible refine wrx ?_); (repeat (first | go_big_quiet_step ((first | (go_at_call 89; with_reducible exact Calls.ext (ca _ bcl)) | (go_at_call 90; with_reducible exact Calls.ext (cr _)))) | quiet_step ((first | (go_at_call 89; with_reducible exact Calls.ext (ca _ bcl)) | (go_at_call 90; with_reducible exact Calls.ext (cr _)))))); refine wpQuiet_nil ?_; rintro _ ⟨yr, rfl⟩; have syr := Ext.size yr; (repeat (first | rw [World.size_alloc] at syr | rw [World.size_setCell] at syr | rw [World.size_drew] at syr)); have : w.heap.size < yr.now.heap.size := (by omega); have : w.heap.size ≤ yr.now.heap.size := (by omega); have : w.heap.size < yr.now.heap.size + 1 + 1 := (by omega); have : w.heap.size + 1 < yr.now.heap.size := (by omega); have : w.heap.size + 1 ≤ yr.now.heap.size := (by omega); have : w.heap.size + 1 < yr.now.heap.size + 1 + 1 := (by omega)) | (go_at_call 89; (first | with_reducible refine (Calls.giv2 (ca _ bcl)).mono ?_ | with_reducible refine (Calls.giv (ca _ bcl)).mono ?_); rintro _ _ ⟨y1, rfl, rfl⟩; have sy1 := Ext.size y1; (repeat (first | rw [World.size_alloc] at sy1 | rw [World.size_setCell] at sy1 | rw [World.size_drew] at sy1)); have : w.heap.size < y1.now.heap.size := (by omega); have : w.heap.size ≤ y1.now.heap.size := (by omega); have : w.heap.size < y1.now.heap.size + 1 + 1 := (by omega); have : w.heap.size + 1 < y1.now.heap.size := (by omega); have : w.heap.size + 1 ≤ y1.now.heap.size := (by omega); have : w.heap.size + 1 < y1.now.heap.size + 1 + 1 := (by omega)) | (go_at_call 90; (first | with_reducible refine (Calls.giv2 (cr _)).mono ?_ | with_reducible refine (Calls.giv (cr _)).mono ?_); rintro _ _ ⟨y2, rfl, rfl⟩; have sy2 := Ext.size y2; (repeat (first | rw [World.size_alloc] at sy2 | rw [World.size_setCell] at sy2 | rw [World.size_drew] at sy2)); have : w.heap.size < y2.now.heap.size := (by omega); have : w.heap.size ≤ y2.now.heap.size := (by omega); have : w.heap.size < y2.now.heap.size + 1 + 1 := (by omega); have : w.heap.size + 1 < y2.now.heap.size := (by omega); have : w.heap.size + 1 ≤ y2.now.heap.size := (by omega); have : w.heap.size + 1 < y2.now.heap.size + 1 + 1 := (by omega)))
  rw [wrp1, wrp2]
  obtain ⟨WB, hWB⟩ : ∃ n, y2.now.heap.size = n := ⟨_, rfl⟩
  refine wp_named (fun W1 hW => ?_)
  obtain ⟨KB, hKB⟩ : ∃ n, w.heap.size = n := ⟨_, rfl⟩
  have hB1 : Below w.heap.size w W1 := by rw [← hW]; repeat' (first | (with_reducible exact Below.refl _ _) | (with_reducible assumption) | (with_reducible refine Ext.below _ ?_ ?_) | (with_reducible refine Below.on ?_ (by with_reducible assumption) ?_) | (with_reducible refine Below.alloc ?_ ?_ _) | (with_reducible refine Below.drew ?_) | (with_reducible refine Below.setCell ?_ ?_ _) | (with_reducible exact Nat.le_refl _) | omega | (simp; done) | (simp [go_sem]; done) | (simp at *; omega))
  have s1 : W1.heap.size = WB + 1 := by rw [← hW, ← hWB]; simp
  have nK : KB + 1 < WB := by rw [← hKB, ← hWB]; assumption
  have rW : W1.heap[WB]? = some (.cells #[.int .i64 (f.speed.x * f.speed.x), .int .i64 (f.speed.y * f.speed.y)] 29 (0, 0)) := by rw [← hW, ← hWB]; exact heap_alloc_new _ _
  have k0 : W1.cell? ⟨KB, 0, none⟩ = some (.int .i64 k.size.x) := by rw [← hW, ← hKB]; simp [go_sem]
  have k1 : W1.cell? ⟨KB, 1, none⟩ = some (.int .i64 k.size.y) := by rw [← hW, ← hKB]; simp [go_sem]
  have k2 : W1.cell? ⟨KB, 2, none⟩ = some (.int .i64 k.dens.x) := by rw [← hW, ← hKB]; simp [go_sem]
  have k3 : W1.cell? ⟨KB, 3, none⟩ = some (.int .i64 k.dens.y) := by rw [← hW, ← hKB]; simp [go_sem]
  have k4 : W1.cell? ⟨KB, 4, none⟩ = some (.int .i64 k.strong.x) := by rw [← hW, ← hKB]; simp [go_sem]
  have k5 : W1.cell? ⟨KB, 5, none⟩ = some (.int .i64 k.strong.y) := by rw [← hW, ← hKB]; simp [go_sem]
  have k6 : W1.cell? ⟨KB, 6, none⟩ = some (.int .i64 k.spin.x) := by rw [← hW, ← hKB]; simp [go_sem]
  have k7 : W1.cell? ⟨KB, 7, none⟩ = some (.int .i64 k.spin.y) := by rw [← hW, ← hKB]; simp [go_sem]
  have k8 : W1.cell? ⟨KB, 8, none⟩ = some (.int .i64 k.shape.x) := by rw [← hW, ← hKB]; simp [go_sem]
  have k9 : W1.cell? ⟨KB, 9, none⟩ = some (.int .i64 k.shape.y) := by rw [← hW, ← hKB]; simp [go_sem]
  have k10 : W1.cell? ⟨KB, 10, none⟩ = some (.bool k.pile) := by rw [← hW, ← hKB]; simp [go_sem]
  have v0 : W1.cell? ⟨KB + 1, 0, none⟩ = some (.int .i64 f.speed.x) := by rw [← hW, ← hKB]; simp [go_sem]
  have v1 : W1.cell? ⟨KB + 1, 1, none⟩ = some (.int .i64 f.speed.y) := by rw [← hW, ← hKB]; simp [go_sem]
  have v2 : W1.cell? ⟨KB + 1, 2, none⟩ = some (.int .i64 f.slope.x) := by rw [← hW, ← hKB]; simp [go_sem]
  have v3 : W1.cell? ⟨KB + 1, 3, none⟩ = some (.int .i64 f.slope.y) := by rw [← hW, ← hKB]; simp [go_sem]
  rw [hWB, hKB]
  rw [hKB] at hB1
  replace hKB := Go.Lib.hid hKB
  replace rW := Go.Lib.hid rW
  clear hW hWB
  have lK : KB < W1.heap.size := by omega
  have lF : KB + 1 < W1.heap.size := by omega
  have lW : WB < W1.heap.size := by omega
  clear s1
  (apply wp_region_free1 19 11 61 #[.int .i64 0, .int .i64 0] #[.int .i64 G0, .int .i64 G1] 29 (by kernel_rfl) (by kernel_rfl)); (case hal1 => (intro a' W' K hk; refine wpOp_step rfl (fun K' hK' => ?_); go_simp; exact hK' _ _ hk)); (case h => (intro z; have sz := z.size; (repeat (first | rw [World.size_alloc] at sz | rw [World.size_setCell] at sz | rw [World.size_drew] at sz)); have : KB < z.now.heap.size := (by omega); have : KB ≤ z.now.heap.size := (by omega); have : KB + 1 < z.now.heap.size := (by omega); have : KB + 1 ≤ z.now.heap.size := (by omega); have : WB < z.now.heap.size := (by omega); have : WB ≤ z.now.heap.size := (by omega); (repeat (first | go_big_quiet_step ((first | (go_at_call 91; with_reducible exact Calls.ext (ch1 _)) | (go_at_call 91; with_reducible exact Calls.ext (ch2 _)))) | quiet_step ((first | (go_at_call 91; with_reducible exact Calls.ext (ch1 _)) | (go_at_call 91; with_reducible exact Calls.ext (ch2 _)))))); exact wpQuiet_nil rfl)); (case hfs => exact Nat.le_of_ble_eq_true rfl); (case hs1 => (intro a' W' K O hp hx hg hk; refine wpOp_step rfl (fun K' hK' => ?_); refine (if_pos (by rfl)).mpr ?_; exact store_op 29 (.tmp 11) (.tmp 61) rfl O #[.int .i64 G0, .int .i64 G1] hp (hx.trans rfl) 29 _ hg (by kernel_rfl) rfl (by simp [Value.oneCell']) (hK' _ _ hk))); intro yr BV gB1 gB2 gB3; have syr := yr.size; (repeat (first | rw [World.size_alloc] at syr | rw [World.size_setCell] at syr | rw [World.size_drew] at syr)); (repeat (first | rw [World.size_alloc] at gB1 | rw [World.size_setCell] at gB1 | rw [World.size_drew] at gB1)); have : KB < yr.now.heap.size := (by omega); have : KB ≤ yr.now.heap.size := (by omega); have : KB < yr.now.heap.size + 1 := (by omega); have : KB + 1 < yr.now.heap.size := (by omega); have : KB + 1 ≤ yr.now.heap.size := (by omega); have : KB + 1 < yr.now.heap.size + 1 := (by omega); have : WB < yr.now.heap.size := (by omega); have : WB ≤ yr.now.heap.size := (by omega); have : WB < yr.now.heap.size + 1 := (by omega); have kv0 := one_row yr gB3 0; have kv1 := one_row yr gB3 1; simp only [List.getElem?_toArray, List.getElem?_cons_zero, List.getElem?_cons_succ] at kv0 kv1; clear gB3
  have b2 := yr.grew
  replace k0 := (b2.cell (p := ⟨KB, 0, none⟩) lK).trans k0
  replace k1 := (b2.cell (p := ⟨KB, 1, none⟩) lK).trans k1
  replace k2 := (b2.cell (p := ⟨KB, 2, none⟩) lK).trans k2
  replace k3 := (b2.cell (p := ⟨KB, 3, none⟩) lK).trans k3
  replace k4 := (b2.cell (p := ⟨KB, 4, none⟩) lK).trans k4
  replace k5 := (b2.cell (p := ⟨KB, 5, none⟩) lK).trans k5
  replace k6 := (b2.cell (p := ⟨KB, 6, none⟩) lK).trans k6
  replace k7 := (b2.cell (p := ⟨KB, 7, none⟩) lK).trans k7
  replace k8 := (b2.cell (p := ⟨KB, 8, none⟩) lK).trans k8
  replace k9 := (b2.cell (p := ⟨KB, 9, none⟩) lK).trans k9
  replace k10 := (b2.cell (p := ⟨KB, 10, none⟩) lK).trans k10
  replace v0 := (b2.cell (p := ⟨KB + 1, 0, none⟩) lF).trans v0
  replace v1 := (b2.cell (p := ⟨KB + 1, 1, none⟩) lF).trans v1
  replace v2 := (b2.cell (p := ⟨KB + 1, 2, none⟩) lF).trans v2
  replace v3 := (b2.cell (p := ⟨KB + 1, 3, none⟩) lF).trans v3
  replace rW := Go.Lib.hid ((b2.block WB lW).trans rW.out)
  have hB2 : Below KB w yr.now := hB1.trans (b2.mono (by omega))
  have nH : BV ≠ WB := by omega
  have lH : BV < yr.now.heap.size := gB2
  have lK2 : KB < yr.now.heap.size := by omega
  have lF2 : KB + 1 < yr.now.heap.size := by omega
  have lW2 : WB < yr.now.heap.size := by omega
  generalize yr.now = W2 at *
  generalize BV = HB at *
  clear b2 lK lF lW gB1 gB2 syr yr
  have h0c := kv0
  have h1c := kv1
  clear kv0 kv1
  go_upto_region 9 with (first | ((first | with_reducible refine wrx2 ?_ | with_reducible refine wrx ?_); (repeat (first | go_big_quiet_step ((first | fail)) | quiet_step ((first | fail)))); refine wpQuiet_nil ?_; rintro _ ⟨yr, rfl⟩; have syr := Ext.size yr; (repeat (first | rw [World.size_alloc] at syr | rw [World.size_setCell] at syr | rw [World.size_drew] at syr))))
  (apply wp_region_free1 15 12 76 #[.int .i64 0, .int .i64 0] #[.int .i64 M0, .int .i64 M1] 29 (by kernel_rfl) (by kernel_rfl)); (case hal1 => (intro a' W' K hk; refine wpOp_step rfl (fun K' hK' => ?_); go_simp; exact hK' _ _ hk)); (case h => (intro z; have sz := z.size; (repeat (first | rw [World.size_alloc] at sz | rw [World.size_setCell] at sz | rw [World.size_drew] at sz)); have : KB < z.now.heap.size := (by omega); have : KB ≤ z.now.heap.size := (by omega); have : KB + 1 < z.now.heap.size := (by omega); have : KB + 1 ≤ z.now.heap.size := (by omega); have : WB < z.now.heap.size := (by omega); have : WB ≤ z.now.heap.size := (by omega); have : HB < z.now.heap.size := (by omega); have : HB ≤ z.now.heap.size := (by omega); (repeat (first | go_big_quiet_step ((first | (go_at_call 92; with_reducible exact Calls.ext (cm2 _)) | (go_at_call 92; with_reducible exact Calls.ext (cm1 _)))) | quiet_step ((first | (go_at_call 92; with_reducible exact Calls.ext (cm2 _)) | (go_at_call 92; with_reducible exact Calls.ext (cm1 _)))))); exact wpQuiet_nil rfl)); (case hfs => exact Nat.le_of_ble_eq_true rfl); (case hs1 => (intro a' W' K O hp hx hg hk; refine wpOp_step rfl (fun K' hK' => ?_); refine (if_pos (by rfl)).mpr ?_; exact store_op 29 (.tmp 12) (.tmp 76) rfl O #[.int .i64 M0, .int .i64 M1] hp (hx.trans rfl) 29 _ hg (by kernel_rfl) rfl (by simp [Value.oneCell']) (hK' _ _ hk))); intro yr BV gB1 gB2 gB3; have syr := yr.size; (repeat (first | rw [World.size_alloc] at syr | rw [World.size_setCell] at syr | rw [World.size_drew] at syr)); (repeat (first | rw [World.size_alloc] at gB1 | rw [World.size_setCell] at gB1 | rw [World.size_drew] at gB1)); have : KB < yr.now.heap.size := (by omega); have : KB ≤ yr.now.heap.size := (by omega); have : KB < yr.now.heap.size + 1 := (by omega); have : KB + 1 < yr.now.heap.size := (by omega); have : KB + 1 ≤ yr.now.heap.size := (by omega); have : KB + 1 < yr.now.heap.size + 1 := (by omega); have : WB < yr.now.heap.size := (by omega); have : WB ≤ yr.now.heap.size := (by omega); have : WB < yr.now.heap.size + 1 := (by omega); have : HB < yr.now.heap.size := (by omega); have : HB ≤ yr.now.heap.size := (by omega); have : HB < yr.now.heap.size + 1 := (by omega); have kv0 := one_row yr gB3 0; have kv1 := one_row yr gB3 1; simp only [List.getElem?_toArray, List.getElem?_cons_zero, List.getElem?_cons_succ] at kv0 kv1; clear gB3
  have b2 := yr.grew
  replace k0 := (b2.cell (p := ⟨KB, 0, none⟩) lK2).trans k0
  replace k1 := (b2.cell (p := ⟨KB, 1, none⟩) lK2).trans k1
  replace k2 := (b2.cell (p := ⟨KB, 2, none⟩) lK2).trans k2
  replace k3 := (b2.cell (p := ⟨KB, 3, none⟩) lK2).trans k3
  replace k8 := (b2.cell (p := ⟨KB, 8, none⟩) lK2).trans k8
  replace k9 := (b2.cell (p := ⟨KB, 9, none⟩) lK2).trans k9
  replace v2 := (b2.cell (p := ⟨KB + 1, 2, none⟩) lF2).trans v2
  replace v3 := (b2.cell (p := ⟨KB + 1, 3, none⟩) lF2).trans v3
  replace h0c := (b2.cell (p := ⟨HB, 0, none⟩) lH).trans h0c
  replace h1c := (b2.cell (p := ⟨HB, 1, none⟩) lH).trans h1c
  replace rW := Go.Lib.hid ((b2.block WB lW2).trans rW.out)
  have hC0 : BwC yr.now.heap.size yr.now KB WB HB BV k f G0 G1 M0 M1 := ⟨by omega, by omega, by omega, by omega, nK, nH, by omega, k0, k1, k2, k3, k8, k9, v2, v3, h0c, h1c, kv0, kv1⟩
  have hB3 : Below w.heap.size w yr.now := by rw [hKB.out]; exact hB2.trans (b2.mono (by omega))
  have hwz : w.heap.size ≤ yr.now.heap.size := hB3.size
  generalize BV = MB at *
  clear b2 lK2 lF2 lW2 lH gB1 gB2 syr k0 k1 k2 k3 k4 k5 k6 k7 k8 k9 k10 v0 v1 v2 v3 h0c h1c kv0 kv1 hB2 hB1 nK nH ca cr ch1 ch2 cm1 cm2 wrp1 wrp2
  generalize yr.now = W0 at *
  clear yr
  replace hC0 := Go.Lib.hid hC0
  replace hB3 := Go.Lib.hid hB3
  have hMb : (0 ≤ M0 ∧ M0 ≤ 9000000000) ∧ (0 ≤ M1 ∧ M1 ≤ 9000000000) := by
    obtain ⟨-, -, m5, m6⟩ := mass_bounds el.out.es
    obtain ⟨-, -, m7, m8⟩ := mass_bounds el.out.lt
    have e1 := eM0.out
    have e2 := eM1.out
    unfold massV at e1 e2
    omega
  go_wp2_with (first | ((first | with_reducible refine wrx2 ?_ | with_reducible refine wrx ?_); (repeat (first | go_big_quiet_step ((first | fail)) | quiet_step ((first | fail)))); refine wpQuiet_nil ?_; rintro _ ⟨yr, rfl⟩; have syr := Ext.size yr; (repeat (first | rw [World.size_alloc] at syr | rw [World.size_setCell] at syr | rw [World.size_drew] at syr))))
  go_loopw [13, 14] (fun u t W => ∃ (i : Nat) (we wl : Int) (v : Value) (pre : List BlowR) (X : World), u = v ∧ t = .int .i64 i ∧ X = W ∧ Hid (BwC W0.heap.size X KB WB HB MB k f G0 G1 M0 M1) ∧ Hid (X.heap[WB]? = some (.cells #[.int .i64 wl, .int .i64 we] 29 (0, 0))) ∧ Hid (Below w.heap.size w X) ∧ W0.heap.size ≤ X.heap.size ∧ Hid (X.ownsRow W0.heap.size 70 3 v pre.length (rowsB pre)) ∧ Hid (i ≤ l.length ∧ pre.length ≤ i ∧ (0 ≤ wl ∧ wl ≤ we ∧ we ≤ 64000000) ∧ pre ++ rblL (firstS k f) (lastS k f) (l.drop i) i we wl = V)) (fun _ t _ => l.length - (intOf t).toNat)
  case atStart => exact ⟨0, f.speed.y * f.speed.y, f.speed.x * f.speed.x, _, [], W0, rfl, rfl, rfl, hC0, rW, hB3, Nat.le_refl _, Go.Lib.hid (World.ownsRow_nil _ _ _ _), Go.Lib.hid ⟨Nat.zero_le _, Nat.le_refl _, hw0.out, by simpa using hV.out⟩⟩
  case round =>
    obtain ⟨i, we, wl, v, pre, X, rfl, rfl, rfl, hC, hR, hBw, hsz, hown, hi⟩ := hrel
    clear rW
    obtain ⟨hil, hpl, hw, hE⟩ := hi.out
    obtain ⟨hMl, hMe⟩ := hMb
    have wm0 : 0 ≤ M0 * wl ∧ M0 * wl ≤ 576000000000000000 := ⟨Int.mul_nonneg hMl.1 hw.1, by have := Int.mul_le_mul hMl.2 (show wl ≤ 64000000 by omega) hw.1 (by omega); omega⟩
    have wm1 : 0 ≤ M1 * we ∧ M1 * we ≤ 576000000000000000 := ⟨Int.mul_nonneg hMe.1 (show 0 ≤ we by omega), by have := Int.mul_le_mul hMe.2 hw.2.2 (by omega) (by omega); omega⟩
    have wr0 : wrap64 (M0 * wl) = M0 * wl := IntWalk.wrap64_in _ (by omega)
    have wr1 : wrap64 (M1 * we) = M1 * we := IntWalk.wrap64_in _ (by omega)
    clear wm0 wm1 hi
    obtain ⟨lK, lW, lH, lM, nK, nH, nM, k0, k1, k2, k3, k8, k9, v2, v3, h0c, h1c, m0c, m1c⟩ := hC.out
    have b0 : X.cell? ⟨WB, 0, none⟩ = some (.int .i64 wl) := (cell_of_row X _ 0 _ _ _ hR.out).trans rfl
    have b1 : X.cell? ⟨WB, 1, none⟩ = some (.int .i64 we) := (cell_of_row X _ 1 _ _ _ hR.out).trans rfl
    have xK : KB < X.heap.size := by omega
    have xF : KB + 1 < X.heap.size := by omega
    have xW : WB < X.heap.size := by omega
    have xH : HB < X.heap.size := by omega
    have xM : MB < X.heap.size := by omega
    obtain ⟨pv, cv, rfl⟩ := owns_form hown.out
    obtain ⟨i0, hi0, hz0, hz1, hz2⟩ := info_parts blow_info
    by_cases hlt : i < l.length
    · have hlt2 : (i : Int) < l.length := by omega
      obtain ⟨B, o, rfl, hBl, c1, c2⟩ := hP.out i hlt
      replace c1 := (hBw.out.cell (p := ⟨B, o + i * 2, none⟩) hBl).trans c1
      replace c2 := (hBw.out.cell (p := ⟨B, o + i * 2 + 1, none⟩) hBl).trans c2
      have xB : B < X.heap.size := by omega
      have hB0 : B < W0.heap.size := by omega
      have hBne : B ≠ WB := by have := hKB.out; omega
      obtain ⟨hx, hy⟩ := hair.out l[i] (List.getElem_mem hlt)
      rw [drop_at hlt, rblL] at hE
      have cs1 : ∀ W, Calls Tryd.prog 93 #[.int .i64 we, .agg #[.int .i64 l[i].x, .int .i64 l[i].y], .int .i64 k.shape.x, .int .i64 f.slope.y, .int .i64 k.dens.y, .int .i64 k.size.y] W (Gives (.int .i64 (stp we (kOf (firstS k f) l[i]) (dOf (firstS k f)))) W) := fun W => rslowed_any (firstS k f) l[i] we W el.out.es hx hy (by omega)
      have cs2 : ∀ W, Calls Tryd.prog 93 #[.int .i64 wl, .agg #[.int .i64 l[i].x, .int .i64 l[i].y], .int .i64 k.shape.y, .int .i64 f.slope.x, .int .i64 k.dens.x, .int .i64 k.size.x] W (Gives (.int .i64 (stp wl (kOf (lastS k f) l[i]) (dOf (lastS k f)))) W) := fun W => rslowed_any (lastS k f) l[i] wl W el.out.lt hx hy (by omega)
      have sb : 0 ≤ stp wl (kOf (lastS k f) l[i]) (dOf (lastS k f)) ∧ stp wl (kOf (lastS k f) l[i]) (dOf (lastS k f)) ≤ stp we (kOf (firstS k f) l[i]) (dOf (firstS k f)) ∧ stp we (kOf (firstS k f) l[i]) (dOf (firstS k f)) ≤ 64000000 := by
        have := stp_le (show 0 ≤ we by omega) (k_bounds el.out.es hx hy).2.2 (show 0 < dOf (firstS k f) by have := (d_bounds el.out.es).2; omega)
        exact ⟨stp_nonneg _ _ _, stp_late el.out hx hy hw.1 hw.2.1, by omega⟩
      have bl : burstB (lastS k f) l[i].y wl = true → burstB (firstS k f) l[i].y we = true := fun q => burst_late el.out hy.1 hw.2.1 q
      unfold burstB at hE bl
      rw [eG0.out, eG1.out] at hE bl
      rw [eM0.out, eM1.out] at hE
      generalize stp wl (kOf (lastS k f) l[i]) (dOf (lastS k f)) = wnl at *
      generalize stp we (kOf (firstS k f) l[i]) (dOf (firstS k f)) = wne at *
      generalize l[i].x = vx at *
      generalize l[i].y = vy at *
      have pe : 0 ≤ vy * we ∧ vy * we ≤ 64000000000 := ⟨Int.mul_nonneg hy.1 (by omega), by have := Int.mul_le_mul hy.2 hw.2.2 (by omega) (by omega); omega⟩
      have pl : 0 ≤ vy * wl ∧ vy * wl ≤ 64000000000 := ⟨Int.mul_nonneg hy.1 hw.1, by have := Int.mul_le_mul hy.2 (show wl ≤ 64000000 by omega) hw.1 (by omega); omega⟩
      have wre : wrap64 (vy * we) = vy * we := IntWalk.wrap64_in _ (by omega)
      have wrl : wrap64 (vy * wl) = vy * wl := IntWalk.wrap64_in _ (by omega)
      clear pe pl hMl hMe
      replace hE := Go.Lib.hid hE
      replace bl := Go.Lib.hid bl
      replace sb := Go.Lib.hid sb
      by_cases hbl : 0 < vy * wl ∧ G1 ≤ vy * wl
      · have hbe := bl.out (decide_eq_true hbl)
        rw [hbe, decide_eq_true hbl, if_pos rfl, if_pos rfl] at hE
        rw [decide_eq_true_eq] at hbe
        obtain ⟨g1, g2⟩ := hbe
        obtain ⟨g3, g4⟩ := hbl
        clear cs1 cs2 bl sb
        go_upto_region 17 with (first | ((first | with_reducible refine wrx2 ?_ | with_reducible refine wrx ?_); (repeat (first | go_big_quiet_step ((first | fail)) | quiet_step ((first | fail)))); refine wpQuiet_nil ?_; rintro _ ⟨yr, rfl⟩; have syr := Ext.size yr; (repeat (first | rw [World.size_alloc] at syr | rw [World.size_setCell] at syr | rw [World.size_drew] at syr)); have : KB < yr.now.heap.size := (by omega); have : KB ≤ yr.now.heap.size := (by omega); have : KB < yr.now.heap.size + 1 + 1 := (by omega); have : KB + 1 < yr.now.heap.size := (by omega); have : KB + 1 ≤ yr.now.heap.size := (by omega); have : KB + 1 < yr.now.heap.size + 1 + 1 := (by omega); have : WB < yr.now.heap.size := (by omega); have : WB ≤ yr.now.heap.size := (by omega); have : WB < yr.now.heap.size + 1 + 1 := (by omega); have : HB < yr.now.heap.size := (by omega); have : HB ≤ yr.now.heap.size := (by omega); have : HB < yr.now.heap.size + 1 + 1 := (by omega); have : MB < yr.now.heap.size := (by omega); have : MB ≤ yr.now.heap.size := (by omega); have : MB < yr.now.heap.size + 1 + 1 := (by omega); have : B < yr.now.heap.size := (by omega); have : B ≤ yr.now.heap.size := (by omega); have : B < yr.now.heap.size + 1 + 1 := (by omega)) | (at_builtin; refine wpList_append_own _ rfl _ _ 64 rfl W0.heap.size 70 i0 _ 3 24 Tryd.underlying64 hi0 hz0 hz1 hz2 rfl (by decide) _ pre.length (rowsB pre) rfl (by repeat (first | exact hown.out | (with_reducible refine World.ownsRow.alloc ?_ _) | (with_reducible refine World.ownsRow.drew ?_) | (with_reducible refine owns_ext ?_ _))) _ 1 1 _ rfl rfl (cells3_new _ _ _ _ _) (by intro u hu; simp only [List.mem_cons, List.not_mem_nil, or_false] at hu; rcases hu with rfl | rfl | rfl <;> rfl) (by unfold maxLen; omega) (by omega) (by (try simp only [World.size_alloc]); omega) ?_; intro v' W2 hown' hgrow _; obtain ⟨p6, c6, rfl⟩ := owns_form hown'; have hbel : Below W0.heap.size X W2 := (by refine below_grown (e := 70) (size := 3) (n := pre.length) (xs := rowsB pre) ?_ (by repeat (first | exact hown.out | (with_reducible refine World.ownsRow.alloc ?_ _) | (with_reducible refine World.ownsRow.drew ?_) | (with_reducible refine owns_ext ?_ _))) (Nat.le_refl _) (by (try simp only [World.size_alloc]); omega) hgrow; repeat' (first | (with_reducible exact Below.refl _ _) | (with_reducible assumption) | (with_reducible refine Ext.below _ ?_ ?_) | (with_reducible refine Below.on ?_ (by with_reducible assumption) ?_) | (with_reducible refine Below.alloc ?_ ?_ _) | (with_reducible refine Below.drew ?_) | (with_reducible refine Below.setCell ?_ ?_ _) | (with_reducible exact Nat.le_refl _) | omega | (simp; done) | (simp [go_sem]; done) | (simp at *; omega)))))
        have hown2 : W2.ownsRow W0.heap.size 70 3 (.slice p6 (pre.length + 1) c6) (pre ++ [(⟨i, M0 * wl, M1 * we, true⟩ : BlowR)]).length (rowsB (pre ++ [(⟨i, M0 * wl, M1 * we, true⟩ : BlowR)])) := by rw [rowsB_add, List.length_append, List.length_singleton]; exact hown'
        replace hown2 := Go.Lib.hid hown2
        clear hown hown' hgrow
        replace k0 := (hbel.cell (p := ⟨KB, 0, none⟩) (by omega)).trans k0
        replace k1 := (hbel.cell (p := ⟨KB, 1, none⟩) (by omega)).trans k1
        replace k2 := (hbel.cell (p := ⟨KB, 2, none⟩) (by omega)).trans k2
        replace k3 := (hbel.cell (p := ⟨KB, 3, none⟩) (by omega)).trans k3
        replace k8 := (hbel.cell (p := ⟨KB, 8, none⟩) (by omega)).trans k8
        replace k9 := (hbel.cell (p := ⟨KB, 9, none⟩) (by omega)).trans k9
        replace v2 := (hbel.cell (p := ⟨KB + 1, 2, none⟩) (by omega)).trans v2
        replace v3 := (hbel.cell (p := ⟨KB + 1, 3, none⟩) (by omega)).trans v3
        replace h0c := (hbel.cell (p := ⟨HB, 0, none⟩) (by omega)).trans h0c
        replace h1c := (hbel.cell (p := ⟨HB, 1, none⟩) (by omega)).trans h1c
        replace m0c := (hbel.cell (p := ⟨MB, 0, none⟩) (by omega)).trans m0c
        replace m1c := (hbel.cell (p := ⟨MB, 1, none⟩) (by omega)).trans m1c
        replace b0 := (hbel.cell (p := ⟨WB, 0, none⟩) (by omega)).trans b0
        replace b1 := (hbel.cell (p := ⟨WB, 1, none⟩) (by omega)).trans b1
        replace c1 := (hbel.cell (p := ⟨B, o + i * 2, none⟩) hB0).trans c1
        replace c2 := (hbel.cell (p := ⟨B, o + i * 2 + 1, none⟩) hB0).trans c2
        have s2 := hbel.size
        replace hR := Go.Lib.hid ((hbel.block WB lW).trans hR.out)
        replace hBw := Go.Lib.hid (hBw.out.trans (hbel.mono hwz))
        replace hC := Go.Lib.hid (hC.out.onX (.of hbel))
        replace xK : KB < W2.heap.size := by omega
        replace xF : KB + 1 < W2.heap.size := by omega
        replace xW : WB < W2.heap.size := by omega
        replace xH : HB < W2.heap.size := by omega
        replace xM : MB < W2.heap.size := by omega
        replace xB : B < W2.heap.size := by omega
        replace hsz : W0.heap.size ≤ W2.heap.size := by omega
        clear hbel s2
        go_wp2_with (first | ((first | with_reducible refine wrx2 ?_ | with_reducible refine wrx ?_); (repeat (first | go_big_quiet_step ((first | fail)) | quiet_step ((first | fail)))); refine wpQuiet_nil ?_; rintro _ ⟨yr, rfl⟩; have syr := Ext.size yr; (repeat (first | rw [World.size_alloc] at syr | rw [World.size_setCell] at syr | rw [World.size_drew] at syr)); have : KB < yr.now.heap.size := (by omega); have : KB ≤ yr.now.heap.size := (by omega); have : KB < yr.now.heap.size + 1 + 1 := (by omega); have : KB + 1 < yr.now.heap.size := (by omega); have : KB + 1 ≤ yr.now.heap.size := (by omega); have : KB + 1 < yr.now.heap.size + 1 + 1 := (by omega); have : WB < yr.now.heap.size := (by omega); have : WB ≤ yr.now.heap.size := (by omega); have : WB < yr.now.heap.size + 1 + 1 := (by omega); have : HB < yr.now.heap.size := (by omega); have : HB ≤ yr.now.heap.size := (by omega); have : HB < yr.now.heap.size + 1 + 1 := (by omega); have : MB < yr.now.heap.size := (by omega); have : MB ≤ yr.now.heap.size := (by omega); have : MB < yr.now.heap.size + 1 + 1 := (by omega); have : B < yr.now.heap.size := (by omega); have : B ≤ yr.now.heap.size := (by omega); have : B < yr.now.heap.size + 1 + 1 := (by omega)))
        refine bodyPost_ret (v := .tuple #[.slice p6 (pre.length + 1) c6, .int .i64 0]) (by simp (maxDischargeDepth := 9) [results, Tryd.results71, go_sem, *]) rfl ?_
        have eV := hE.out
        simp only [List.append_nil] at eV
        refine ⟨_, rfl, hBw.out.trans (yr.grew.mono (by omega)), ?_⟩
        rw [← eV]
        exact owns_base (owns_ext hown2.out yr) hwz
      · by_cases hbe : 0 < vy * we ∧ G0 ≤ vy * we
        · rw [decide_eq_true hbe, decide_eq_false hbl, if_pos rfl, if_neg (by simp)] at hE
          have key : Hid (i + 1 ≤ l.length ∧ (pre ++ [(⟨i, M0 * wl, M1 * we, false⟩ : BlowR)]).length ≤ i + 1 ∧ (0 ≤ wnl ∧ wnl ≤ wne ∧ wne ≤ 64000000) ∧ (pre ++ [(⟨i, M0 * wl, M1 * we, false⟩ : BlowR)]) ++ rblL (firstS k f) (lastS k f) (l.drop (i + 1)) (i + 1) wne wnl = V) := Go.Lib.hid ⟨hlt, by simp; omega, sb.out, by simpa using hE.out⟩
          obtain ⟨g1, g2⟩ := hbe
          clear bl sb hE
          go_upto_region 17 with (first | ((first | with_reducible refine wrx2 ?_ | with_reducible refine wrx ?_); (repeat (first | go_big_quiet_step ((first | fail)) | quiet_step ((first | fail)))); refine wpQuiet_nil ?_; rintro _ ⟨yr, rfl⟩; have syr := Ext.size yr; (repeat (first | rw [World.size_alloc] at syr | rw [World.size_setCell] at syr | rw [World.size_drew] at syr)); have : KB < yr.now.heap.size := (by omega); have : KB ≤ yr.now.heap.size := (by omega); have : KB < yr.now.heap.size + 1 + 1 := (by omega); have : KB + 1 < yr.now.heap.size := (by omega); have : KB + 1 ≤ yr.now.heap.size := (by omega); have : KB + 1 < yr.now.heap.size + 1 + 1 := (by omega); have : WB < yr.now.heap.size := (by omega); have : WB ≤ yr.now.heap.size := (by omega); have : WB < yr.now.heap.size + 1 + 1 := (by omega); have : HB < yr.now.heap.size := (by omega); have : HB ≤ yr.now.heap.size := (by omega); have : HB < yr.now.heap.size + 1 + 1 := (by omega); have : MB < yr.now.heap.size := (by omega); have : MB ≤ yr.now.heap.size := (by omega); have : MB < yr.now.heap.size + 1 + 1 := (by omega); have : B < yr.now.heap.size := (by omega); have : B ≤ yr.now.heap.size := (by omega); have : B < yr.now.heap.size + 1 + 1 := (by omega)) | (at_builtin; refine wpList_append_own _ rfl _ _ 64 rfl W0.heap.size 70 i0 _ 3 24 Tryd.underlying64 hi0 hz0 hz1 hz2 rfl (by decide) _ pre.length (rowsB pre) rfl (by repeat (first | exact hown.out | (with_reducible refine World.ownsRow.alloc ?_ _) | (with_reducible refine World.ownsRow.drew ?_) | (with_reducible refine owns_ext ?_ _))) _ 1 1 _ rfl rfl (cells3_new _ _ _ _ _) (by intro u hu; simp only [List.mem_cons, List.not_mem_nil, or_false] at hu; rcases hu with rfl | rfl | rfl <;> rfl) (by unfold maxLen; omega) (by omega) (by (try simp only [World.size_alloc]); omega) ?_; intro v' W2 hown' hgrow _; obtain ⟨p6, c6, rfl⟩ := owns_form hown'; have hbel : Below W0.heap.size X W2 := (by refine below_grown (e := 70) (size := 3) (n := pre.length) (xs := rowsB pre) ?_ (by repeat (first | exact hown.out | (with_reducible refine World.ownsRow.alloc ?_ _) | (with_reducible refine World.ownsRow.drew ?_) | (with_reducible refine owns_ext ?_ _))) (Nat.le_refl _) (by (try simp only [World.size_alloc]); omega) hgrow; repeat' (first | (with_reducible exact Below.refl _ _) | (with_reducible assumption) | (with_reducible refine Ext.below _ ?_ ?_) | (with_reducible refine Below.on ?_ (by with_reducible assumption) ?_) | (with_reducible refine Below.alloc ?_ ?_ _) | (with_reducible refine Below.drew ?_) | (with_reducible refine Below.setCell ?_ ?_ _) | (with_reducible exact Nat.le_refl _) | omega | (simp; done) | (simp [go_sem]; done) | (simp at *; omega)))))
          have hown2 : W2.ownsRow W0.heap.size 70 3 (.slice p6 (pre.length + 1) c6) (pre ++ [(⟨i, M0 * wl, M1 * we, false⟩ : BlowR)]).length (rowsB (pre ++ [(⟨i, M0 * wl, M1 * we, false⟩ : BlowR)])) := by rw [rowsB_add, List.length_append, List.length_singleton]; exact hown'
          replace hown2 := Go.Lib.hid hown2
          clear hown hown' hgrow
          replace k0 := (hbel.cell (p := ⟨KB, 0, none⟩) (by omega)).trans k0
          replace k1 := (hbel.cell (p := ⟨KB, 1, none⟩) (by omega)).trans k1
          replace k2 := (hbel.cell (p := ⟨KB, 2, none⟩) (by omega)).trans k2
          replace k3 := (hbel.cell (p := ⟨KB, 3, none⟩) (by omega)).trans k3
          replace k8 := (hbel.cell (p := ⟨KB, 8, none⟩) (by omega)).trans k8
          replace k9 := (hbel.cell (p := ⟨KB, 9, none⟩) (by omega)).trans k9
          replace v2 := (hbel.cell (p := ⟨KB + 1, 2, none⟩) (by omega)).trans v2
          replace v3 := (hbel.cell (p := ⟨KB + 1, 3, none⟩) (by omega)).trans v3
          replace h0c := (hbel.cell (p := ⟨HB, 0, none⟩) (by omega)).trans h0c
          replace h1c := (hbel.cell (p := ⟨HB, 1, none⟩) (by omega)).trans h1c
          replace m0c := (hbel.cell (p := ⟨MB, 0, none⟩) (by omega)).trans m0c
          replace m1c := (hbel.cell (p := ⟨MB, 1, none⟩) (by omega)).trans m1c
          replace b0 := (hbel.cell (p := ⟨WB, 0, none⟩) (by omega)).trans b0
          replace b1 := (hbel.cell (p := ⟨WB, 1, none⟩) (by omega)).trans b1
          replace c1 := (hbel.cell (p := ⟨B, o + i * 2, none⟩) hB0).trans c1
          replace c2 := (hbel.cell (p := ⟨B, o + i * 2 + 1, none⟩) hB0).trans c2
          have s2 := hbel.size
          replace hR := Go.Lib.hid ((hbel.block WB lW).trans hR.out)
          replace hBw := Go.Lib.hid (hBw.out.trans (hbel.mono hwz))
          replace hC := Go.Lib.hid (hC.out.onX (.of hbel))
          replace xK : KB < W2.heap.size := by omega
          replace xF : KB + 1 < W2.heap.size := by omega
          replace xW : WB < W2.heap.size := by omega
          replace xH : HB < W2.heap.size := by omega
          replace xM : MB < W2.heap.size := by omega
          replace xB : B < W2.heap.size := by omega
          replace hsz : W0.heap.size ≤ W2.heap.size := by omega
          clear hbel s2
          replace hown2 := hown2.out
          rcases (show ¬ 0 < vy * wl ∨ (0 < vy * wl ∧ ¬ G1 ≤ vy * wl) by omega) with g3 | ⟨g3, g4⟩
          all_goals
            clear hbl
            go_upto_region 20 with (first | ((first | with_reducible refine wrx2 ?_ | with_reducible refine wrx ?_); (repeat (first | go_big_quiet_step ((first | fail)) | quiet_step ((first | fail)))); refine wpQuiet_nil ?_; rintro _ ⟨yr, rfl⟩; have syr := Ext.size yr; (repeat (first | rw [World.size_alloc] at syr | rw [World.size_setCell] at syr | rw [World.size_drew] at syr)); have : KB < yr.now.heap.size := (by omega); have : KB ≤ yr.now.heap.size := (by omega); have : KB < yr.now.heap.size + 1 + 1 := (by omega); have : KB + 1 < yr.now.heap.size := (by omega); have : KB + 1 ≤ yr.now.heap.size := (by omega); have : KB + 1 < yr.now.heap.size + 1 + 1 := (by omega); have : WB < yr.now.heap.size := (by omega); have : WB ≤ yr.now.heap.size := (by omega); have : WB < yr.now.heap.size + 1 + 1 := (by omega); have : HB < yr.now.heap.size := (by omega); have : HB ≤ yr.now.heap.size := (by omega); have : HB < yr.now.heap.size + 1 + 1 := (by omega); have : MB < yr.now.heap.size := (by omega); have : MB ≤ yr.now.heap.size := (by omega); have : MB < yr.now.heap.size + 1 + 1 := (by omega); have : B < yr.now.heap.size := (by omega); have : B ≤ yr.now.heap.size := (by omega); have : B < yr.now.heap.size + 1 + 1 := (by omega)))
            have z0 : W2.frozen? ⟨WB, 0, none⟩ = false := frozen_row hR.out
            have z1 : W2.frozen? ⟨WB, 1, none⟩ = false := frozen_row hR.out
            (first | with_reducible refine wp_region_ext2_heads 39 (by kernel_rfl) (by kernel_rfl) ?_ | with_reducible refine wp_region_ext_heads 39 (by kernel_rfl) (by kernel_rfl) ?_); simp only [List.take_succ_cons, List.take_zero, List.length_cons, List.length_nil, Nat.reduceAdd, Nat.reduceSub]; (repeat (first | go_big_quiet_step ((first | (go_at_call 93; with_reducible exact Calls.ext (cs1 _)) | (go_at_call 93; with_reducible exact Calls.ext (cs2 _)))) | quiet_step ((first | (go_at_call 93; with_reducible exact Calls.ext (cs1 _)) | (go_at_call 93; with_reducible exact Calls.ext (cs2 _)))))); refine wpQuiet_nil ?_; rintro _ ⟨yr, rfl⟩; have syr := Ext.size yr; (repeat (first | rw [World.size_alloc] at syr | rw [World.size_setCell] at syr | rw [World.size_drew] at syr)); (refine wpAny_ready (rs := [39]) (by kernel_rfl) (by simp) ?_; refine AllReady.cons rfl (fun K hK => ?_) AllReady.nil; go_simp; refine hK _ _ ?_; clear hK K); refine wpAny_done (by kernel_rfl) ?_ _
            have hX : BelowX WB W0.heap.size W2 yr.now := .of (yr.grew.mono hsz)
            have hX2 := belowX_put2 hX (.int .i64 wnl) (.int .i64 wne)
            have hR2 := box2_put ((yr.grew.block WB xW).trans hR.out) (.int .i64 wnl) (.int .i64 wne)
            have hB2 : Below w.heap.size w ((yr.now.setCell ⟨WB, 0, none⟩ (.int .i64 wnl)).setCell ⟨WB, 1, none⟩ (.int .i64 wne)) := hBw.out.trans ((hX2.mono hwz).below (by have := hKB.out; omega))
            have ho2 := row_same (owns_ext hown2 yr) (W' := (yr.now.setCell ⟨WB, 0, none⟩ (.int .i64 wnl)).setCell ⟨WB, 1, none⟩ (.int .i64 wne)) (fun q hq _ => (heap_setCell_ne (by omega) _).trans (heap_setCell_ne (by omega) _))
            have sz2 := hX2.size
            generalize (yr.now.setCell ⟨WB, 0, none⟩ (.int .i64 wnl)).setCell ⟨WB, 1, none⟩ (.int .i64 wne) = W5 at *
            go_wp2_with (first | ((first | with_reducible refine wrx2 ?_ | with_reducible refine wrx ?_); (repeat (first | go_big_quiet_step ((first | fail)) | quiet_step ((first | fail)))); refine wpQuiet_nil ?_; rintro _ ⟨yr, rfl⟩; have syr := Ext.size yr; (repeat (first | rw [World.size_alloc] at syr | rw [World.size_setCell] at syr | rw [World.size_drew] at syr))))
            exact ⟨⟨i + 1, wne, wnl, _, pre ++ [⟨i, M0 * wl, M1 * we, false⟩], W5, rfl, by simp, rfl, Go.Lib.hid (hC.out.onX hX2), Go.Lib.hid hR2, Go.Lib.hid hB2, by omega, Go.Lib.hid ho2, key⟩, by simp [intOf]; omega⟩
        · rw [decide_eq_false hbe, decide_eq_false hbl, if_neg (by simp), if_neg (by simp)] at hE
          have key : Hid (i + 1 ≤ l.length ∧ pre.length ≤ i + 1 ∧ (0 ≤ wnl ∧ wnl ≤ wne ∧ wne ≤ 64000000) ∧ pre ++ rblL (firstS k f) (lastS k f) (l.drop (i + 1)) (i + 1) wne wnl = V) := Go.Lib.hid ⟨hlt, by omega, sb.out, by simpa using hE.out⟩
          clear bl sb hE
          rcases (show ¬ 0 < vy * we ∨ (0 < vy * we ∧ ¬ G0 ≤ vy * we) by omega) with g1 | ⟨g1, g2⟩
          all_goals
            clear hbe
            go_upto_region 17 with (first | ((first | with_reducible refine wrx2 ?_ | with_reducible refine wrx ?_); (repeat (first | go_big_quiet_step ((first | fail)) | quiet_step ((first | fail)))); refine wpQuiet_nil ?_; rintro _ ⟨yr, rfl⟩; have syr := Ext.size yr; (repeat (first | rw [World.size_alloc] at syr | rw [World.size_setCell] at syr | rw [World.size_drew] at syr)); have : KB < yr.now.heap.size := (by omega); have : KB ≤ yr.now.heap.size := (by omega); have : KB < yr.now.heap.size + 1 + 1 := (by omega); have : KB + 1 < yr.now.heap.size := (by omega); have : KB + 1 ≤ yr.now.heap.size := (by omega); have : KB + 1 < yr.now.heap.size + 1 + 1 := (by omega); have : WB < yr.now.heap.size := (by omega); have : WB ≤ yr.now.heap.size := (by omega); have : WB < yr.now.heap.size + 1 + 1 := (by omega); have : HB < yr.now.heap.size := (by omega); have : HB ≤ yr.now.heap.size := (by omega); have : HB < yr.now.heap.size + 1 + 1 := (by omega); have : MB < yr.now.heap.size := (by omega); have : MB ≤ yr.now.heap.size := (by omega); have : MB < yr.now.heap.size + 1 + 1 := (by omega); have : B < yr.now.heap.size := (by omega); have : B ≤ yr.now.heap.size := (by omega); have : B < yr.now.heap.size + 1 + 1 := (by omega)))
            have hbel : Below W0.heap.size X yr.now := yr.grew.mono hsz
            have hown2 := owns_ext hown.out yr
            clear hown
            generalize yr.now = W2 at *
            replace k0 := (hbel.cell (p := ⟨KB, 0, none⟩) (by omega)).trans k0
            replace k1 := (hbel.cell (p := ⟨KB, 1, none⟩) (by omega)).trans k1
            replace k2 := (hbel.cell (p := ⟨KB, 2, none⟩) (by omega)).trans k2
            replace k3 := (hbel.cell (p := ⟨KB, 3, none⟩) (by omega)).trans k3
            replace k8 := (hbel.cell (p := ⟨KB, 8, none⟩) (by omega)).trans k8
            replace k9 := (hbel.cell (p := ⟨KB, 9, none⟩) (by omega)).trans k9
            replace v2 := (hbel.cell (p := ⟨KB + 1, 2, none⟩) (by omega)).trans v2
            replace v3 := (hbel.cell (p := ⟨KB + 1, 3, none⟩) (by omega)).trans v3
            replace h0c := (hbel.cell (p := ⟨HB, 0, none⟩) (by omega)).trans h0c
            replace h1c := (hbel.cell (p := ⟨HB, 1, none⟩) (by omega)).trans h1c
            replace m0c := (hbel.cell (p := ⟨MB, 0, none⟩) (by omega)).trans m0c
            replace m1c := (hbel.cell (p := ⟨MB, 1, none⟩) (by omega)).trans m1c
            replace b0 := (hbel.cell (p := ⟨WB, 0, none⟩) (by omega)).trans b0
            replace b1 := (hbel.cell (p := ⟨WB, 1, none⟩) (by omega)).trans b1
            replace c1 := (hbel.cell (p := ⟨B, o + i * 2, none⟩) hB0).trans c1
            replace c2 := (hbel.cell (p := ⟨B, o + i * 2 + 1, none⟩) hB0).trans c2
            have s2 := hbel.size
            replace hR := Go.Lib.hid ((hbel.block WB lW).trans hR.out)
            replace hBw := Go.Lib.hid (hBw.out.trans (hbel.mono hwz))
            replace hC := Go.Lib.hid (hC.out.onX (.of hbel))
            replace xK : KB < W2.heap.size := by omega
            replace xF : KB + 1 < W2.heap.size := by omega
            replace xW : WB < W2.heap.size := by omega
            replace xH : HB < W2.heap.size := by omega
            replace xM : MB < W2.heap.size := by omega
            replace xB : B < W2.heap.size := by omega
            replace hsz : W0.heap.size ≤ W2.heap.size := by omega
            clear hbel s2
            rcases (show ¬ 0 < vy * wl ∨ (0 < vy * wl ∧ ¬ G1 ≤ vy * wl) by omega) with g3 | ⟨g3, g4⟩
            all_goals
              clear hbl
              go_upto_region 20 with (first | ((first | with_reducible refine wrx2 ?_ | with_reducible refine wrx ?_); (repeat (first | go_big_quiet_step ((first | fail)) | quiet_step ((first | fail)))); refine wpQuiet_nil ?_; rintro _ ⟨yr, rfl⟩; have syr := Ext.size yr; (repeat (first | rw [World.size_alloc] at syr | rw [World.size_setCell] at syr | rw [World.size_drew] at syr)); have : KB < yr.now.heap.size := (by omega); have : KB ≤ yr.now.heap.size := (by omega); have : KB < yr.now.heap.size + 1 + 1 := (by omega); have : KB + 1 < yr.now.heap.size := (by omega); have : KB + 1 ≤ yr.now.heap.size := (by omega); have : KB + 1 < yr.now.heap.size + 1 + 1 := (by omega); have : WB < yr.now.heap.size := (by omega); have : WB ≤ yr.now.heap.size := (by omega); have : WB < yr.now.heap.size + 1 + 1 := (by omega); have : HB < yr.now.heap.size := (by omega); have : HB ≤ yr.now.heap.size := (by omega); have : HB < yr.now.heap.size + 1 + 1 := (by omega); have : MB < yr.now.heap.size := (by omega); have : MB ≤ yr.now.heap.size := (by omega); have : MB < yr.now.heap.size + 1 + 1 := (by omega); have : B < yr.now.heap.size := (by omega); have : B ≤ yr.now.heap.size := (by omega); have : B < yr.now.heap.size + 1 + 1 := (by omega)))
              have z0 : W2.frozen? ⟨WB, 0, none⟩ = false := frozen_row hR.out
              have z1 : W2.frozen? ⟨WB, 1, none⟩ = false := frozen_row hR.out
              (first | with_reducible refine wp_region_ext2_heads 39 (by kernel_rfl) (by kernel_rfl) ?_ | with_reducible refine wp_region_ext_heads 39 (by kernel_rfl) (by kernel_rfl) ?_); simp only [List.take_succ_cons, List.take_zero, List.length_cons, List.length_nil, Nat.reduceAdd, Nat.reduceSub]; (repeat (first | go_big_quiet_step ((first | (go_at_call 93; with_reducible exact Calls.ext (cs1 _)) | (go_at_call 93; with_reducible exact Calls.ext (cs2 _)))) | quiet_step ((first | (go_at_call 93; with_reducible exact Calls.ext (cs1 _)) | (go_at_call 93; with_reducible exact Calls.ext (cs2 _)))))); refine wpQuiet_nil ?_; rintro _ ⟨yr, rfl⟩; have syr := Ext.size yr; (repeat (first | rw [World.size_alloc] at syr | rw [World.size_setCell] at syr | rw [World.size_drew] at syr)); (refine wpAny_ready (rs := [39]) (by kernel_rfl) (by simp) ?_; refine AllReady.cons rfl (fun K hK => ?_) AllReady.nil; go_simp; refine hK _ _ ?_; clear hK K); refine wpAny_done (by kernel_rfl) ?_ _
              have hX : BelowX WB W0.heap.size W2 yr.now := .of (yr.grew.mono hsz)
              have hX2 := belowX_put2 hX (.int .i64 wnl) (.int .i64 wne)
              have hR2 := box2_put ((yr.grew.block WB xW).trans hR.out) (.int .i64 wnl) (.int .i64 wne)
              have hB2 : Below w.heap.size w ((yr.now.setCell ⟨WB, 0, none⟩ (.int .i64 wnl)).setCell ⟨WB, 1, none⟩ (.int .i64 wne)) := hBw.out.trans ((hX2.mono hwz).below (by have := hKB.out; omega))
              have ho2 := row_same (owns_ext hown2 yr) (W' := (yr.now.setCell ⟨WB, 0, none⟩ (.int .i64 wnl)).setCell ⟨WB, 1, none⟩ (.int .i64 wne)) (fun q hq _ => (heap_setCell_ne (by omega) _).trans (heap_setCell_ne (by omega) _))
              have sz2 := hX2.size
              generalize (yr.now.setCell ⟨WB, 0, none⟩ (.int .i64 wnl)).setCell ⟨WB, 1, none⟩ (.int .i64 wne) = W5 at *
              go_wp2_with (first | ((first | with_reducible refine wrx2 ?_ | with_reducible refine wrx ?_); (repeat (first | go_big_quiet_step ((first | fail)) | quiet_step ((first | fail)))); refine wpQuiet_nil ?_; rintro _ ⟨yr, rfl⟩; have syr := Ext.size yr; (repeat (first | rw [World.size_alloc] at syr | rw [World.size_setCell] at syr | rw [World.size_drew] at syr))))
              exact ⟨⟨i + 1, wne, wnl, _, pre, W5, rfl, by simp, rfl, Go.Lib.hid (hC.out.onX hX2), Go.Lib.hid hR2, Go.Lib.hid hB2, by omega, Go.Lib.hid ho2, key⟩, by simp [intOf]; omega⟩
    · have hge : i = l.length := by omega
      rw [List.drop_of_length_le (by omega), rblL] at hE
      rw [eM0.out, eM1.out] at hE
      subst hge
      replace hE := Go.Lib.hid hE
      go_wp2_with (first | ((first | with_reducible refine wrx2 ?_ | with_reducible refine wrx ?_); (repeat (first | go_big_quiet_step ((first | fail)) | quiet_step ((first | fail)))); refine wpQuiet_nil ?_; rintro _ ⟨yr, rfl⟩; have syr := Ext.size yr; (repeat (first | rw [World.size_alloc] at syr | rw [World.size_setCell] at syr | rw [World.size_drew] at syr)); have : KB < yr.now.heap.size := (by omega); have : KB ≤ yr.now.heap.size := (by omega); have : KB < yr.now.heap.size + 1 + 1 := (by omega); have : KB + 1 < yr.now.heap.size := (by omega); have : KB + 1 ≤ yr.now.heap.size := (by omega); have : KB + 1 < yr.now.heap.size + 1 + 1 := (by omega); have : WB < yr.now.heap.size := (by omega); have : WB ≤ yr.now.heap.size := (by omega); have : WB < yr.now.heap.size + 1 + 1 := (by omega); have : HB < yr.now.heap.size := (by omega); have : HB ≤ yr.now.heap.size := (by omega); have : HB < yr.now.heap.size + 1 + 1 := (by omega); have : MB < yr.now.heap.size := (by omega); have : MB ≤ yr.now.heap.size := (by omega); have : MB < yr.now.heap.size + 1 + 1 := (by omega)) | (at_builtin; refine wpList_append_own _ rfl _ _ 64 rfl W0.heap.size 70 i0 _ 3 24 Tryd.underlying64 hi0 hz0 hz1 hz2 rfl (by decide) _ pre.length (rowsB pre) rfl (by repeat (first | exact hown.out | (with_reducible refine World.ownsRow.alloc ?_ _) | (with_reducible refine World.ownsRow.drew ?_) | (with_reducible refine owns_ext ?_ _))) _ 1 1 _ rfl rfl (cells3_new _ _ _ _ _) (by intro u hu; simp only [List.mem_cons, List.not_mem_nil, or_false] at hu; rcases hu with rfl | rfl | rfl <;> rfl) (by unfold maxLen; omega) (by omega) (by (try simp only [World.size_alloc]); omega) ?_; intro v' W2 hown' hgrow _; obtain ⟨p6, c6, rfl⟩ := owns_form hown'; have hbel : Below W0.heap.size X W2 := (by refine below_grown (e := 70) (size := 3) (n := pre.length) (xs := rowsB pre) ?_ (by repeat (first | exact hown.out | (with_reducible refine World.ownsRow.alloc ?_ _) | (with_reducible refine World.ownsRow.drew ?_) | (with_reducible refine owns_ext ?_ _))) (Nat.le_refl _) (by (try simp only [World.size_alloc]); omega) hgrow; repeat' (first | (with_reducible exact Below.refl _ _) | (with_reducible assumption) | (with_reducible refine Ext.below _ ?_ ?_) | (with_reducible refine Below.on ?_ (by with_reducible assumption) ?_) | (with_reducible refine Below.alloc ?_ ?_ _) | (with_reducible refine Below.drew ?_) | (with_reducible refine Below.setCell ?_ ?_ _) | (with_reducible exact Nat.le_refl _) | omega | (simp; done) | (simp [go_sem]; done) | (simp at *; omega)))))
      refine bodyPost_ret (v := .tuple #[.slice p6 (pre.length + 1) c6, .int .i64 0]) (by simp (maxDischargeDepth := 9) [results, Tryd.results71, go_sem, *]) rfl ?_
      refine ⟨_, rfl, hBw.out.trans (hbel.mono hwz), ?_⟩
      rw [← hE.out, rowsB_add, List.length_append, List.length_singleton]
      exact owns_base hown' hwz
end Go.Proofs.YtlmhbggigbmeaaaDoor

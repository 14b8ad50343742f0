/- SkyLooks: a place agrees with an empty look, or with the angle in the same direction, or with both. Condition: none beyond the statement's own. -/
import Derived.Test.YtfflbiojcoehmabMade
import Derived.Test.YtfflbiojcoehmabSkyLo
import Derived.Test.YtfflbiojcoehmabSkyU
import Derived.Test.YtfflbiojcoehmabLaw
import Derived.Test.YtfflbiojcoehmabKit
import Derived.Test.YtfflbiojcoehmabFreeA
namespace Go.Proofs.Ytfflbiojcoehmab
open Go.RowKit Go.Shelf Go.ChangeShapes Go.WideShapes Go.ChangeAt Go.Joins
attribute [local go_sem] Option.isSome_some Ext.cell Ext.frozen Ext.lt Ext.le Ext.lt_add Ext.le_add Ext.ne Ext.ne' lt2 lt3 lt4 lt5 le2 le3 le4
theorem sight_cone {s : SkyR} {t : Int} {x : SightR} (hok : SightOk s t x) : ∃ c, coneR s.cats x = .ok c := by
  unfold coneR
  rw [if_pos (biasL_found hok.oc), if_neg]
  · exact ⟨_, rfl⟩
  · have h1 := hok.od
    have h2 := hok.on
    have h3 := hok.oe
    unfold vwinB winB
    simp only [Bool.and_eq_false_iff, decide_eq_false_iff_not]
    omega
theorem looks_say {s : SkyR} {t : Int} {x : SightR} {q : V2} (hsm : SmallSky s) (hok : SightOk s t x) (ht0 : 0 ≤ t) (ht1 : t < 9) (hq : vwinB q 33554432 = true) :
    (whereV s x.st x.tick).2 = true ∧ ∃ b f : Bool, agreesV s ⟨1, x.st, x.cat, x.tick, x.dir, x.err, x.lo, x.hi⟩ q = b ∧ agreesV s ⟨3, x.st, x.cat, x.tick, x.dir, x.err, x.lo, x.hi⟩ q = !(b && !f) ∧
      f = decide (x.hi * x.hi < (q.x - (whereV s x.st x.tick).1.x) * (q.x - (whereV s x.st x.tick).1.x) + (q.y - (whereV s x.st x.tick).1.y) * (q.y - (whereV s x.st x.tick).1.y)) := by
  have ht : tickB x.tick = true := by rw [hok.ot]; unfold tickB; simp; omega
  have hw := whereL_found (h := homeAt s x.tick) hok.os
  obtain ⟨c, hc⟩ := sight_cone hok
  have ha := look_angle hsm.e ht hw hc hq
  have he := look_empty hsm.e ht hw hc (by have := hok.oh; omega) hq
  have ew : whereV s x.st x.tick = whereL (homeAt s x.tick) x.st s.sts := by unfold whereV; rw [if_pos ⟨hsm.e, ht⟩]
  rw [ew]
  refine ⟨hw, _, _, ha, ?_, rfl⟩
  refine he.trans ?_
  unfold blocksB sqV
  congr 2
  rw [Bool.eq_iff_iff]
  simp
set_option maxRecDepth 100000 in
set_option maxHeartbeats 16000000 in
theorem SkyLooks_any (sp : Option Addr) (sl sc : Nat) (sz : Nat → Int) (dx dy : Int) (w : World) (hw : ListIn w sp sl sz) (h1 : I64 dx) (h2 : I64 dy) : Calls Try.prog 4 #[.slice sp sl sc, .int .i64 dx, .int .i64 dy] w (Gives (.bool true) w) := by
  have cm1 := fun W => Mod64_any dx 401 W h1 (by omega) (by omega)
  have cm2 := fun W => Mod64_any dy 401 W h2 (by omega) (by omega)
  have ca := fun W => skyAwake_any W
  obtain ⟨mx, hmx⟩ : ∃ m, dx % 401 = m := ⟨_, rfl⟩
  obtain ⟨my, hmy⟩ : ∃ m, dy % 401 = m := ⟨_, rfl⟩
  have bx0 : 0 ≤ mx := by omega
  have bx1 : mx < 401 := by omega
  have by0 : 0 ≤ my := by omega
  have by1 : my < 401 := by omega
  rw [hmx] at cm1
  rw [hmy] at cm2
  clear hmx hmy h1 h2
  go_enter Try.func4, Try.ntmps4
  go_wp2_with (first | ((first | with_reducible refine wp_region_ext2 (by kernel_rfl) (by kernel_rfl) ?_ | with_reducible refine wp_region_ext (by kernel_rfl) (by kernel_rfl) ?_); (repeat (first | go_big_quiet_step ((first | fail)) | quiet_step ((first | fail)))); refine wpQuiet_nil ?_; rintro _ ⟨yr, rfl⟩; have syr := Ext.size yr; (repeat (first | rw [World.size_alloc] at syr | rw [World.size_setCell] at syr | rw [World.size_drew] at syr))) | (go_at_call 19; refine (made_y sp sl sc sz _ hw).mono ?_; rintro _ W1 ⟨s, p, x, t, rfl, hb1, hsm, hAt, hp, hok, ht0, ht1⟩; unfold SkyR.val SightR.val; have hs1 := hb1.size))
  refine wp_named (fun W2 hW => ?_)
  have hY2 : Below W1.heap.size W1 W2 := by rw [← hW]; repeat' (first | (with_reducible exact Below.refl _ _) | (with_reducible assumption) | (with_reducible refine Ext.below _ ?_ ?_) | (with_reducible refine Below.on ?_ (by with_reducible assumption) ?_) | (with_reducible refine Below.alloc ?_ ?_ _) | (with_reducible refine Below.drew ?_) | (with_reducible refine Below.setCell ?_ ?_ _) | (with_reducible exact Nat.le_refl _) | omega | (simp; done) | (simp [go_sem]; done) | (simp at *; omega))
  have k0 : W2.cell? ⟨W1.heap.size, 0, none⟩ = some (.slice s.bp s.bodies.length s.bc) := by rw [← hW]; simp [go_sem]
  have k1 : W2.cell? ⟨W1.heap.size, 1, none⟩ = some (.int .i64 s.home) := by rw [← hW]; simp [go_sem]
  have k2 : W2.cell? ⟨W1.heap.size, 2, none⟩ = some (.slice s.sp s.sts.length s.sc) := by rw [← hW]; simp [go_sem]
  have k3 : W2.cell? ⟨W1.heap.size, 3, none⟩ = some (.slice s.cp s.cats.length s.cc) := by rw [← hW]; simp [go_sem]
  have p0 : W2.cell? ⟨W1.heap.size + 1, 0, none⟩ = some (.int .i64 p.x) := by rw [← hW]; simp [go_sem]
  have p1 : W2.cell? ⟨W1.heap.size + 1, 1, none⟩ = some (.int .i64 p.y) := by rw [← hW]; simp [go_sem]
  have x0 : W2.cell? ⟨W1.heap.size + 1 + 1, 0, none⟩ = some (.int .i64 x.kind) := by rw [← hW]; simp [go_sem]
  have x1 : W2.cell? ⟨W1.heap.size + 1 + 1, 1, none⟩ = some (.int .i64 x.st) := by rw [← hW]; simp [go_sem]
  have x2 : W2.cell? ⟨W1.heap.size + 1 + 1, 2, none⟩ = some (.int .i64 x.cat) := by rw [← hW]; simp [go_sem]
  have x3 : W2.cell? ⟨W1.heap.size + 1 + 1, 3, none⟩ = some (.int .i64 x.tick) := by rw [← hW]; simp [go_sem]
  have x4 : W2.cell? ⟨W1.heap.size + 1 + 1, 4, none⟩ = some (.int .i64 x.dir.x) := by rw [← hW]; simp [go_sem]
  have x5 : W2.cell? ⟨W1.heap.size + 1 + 1, 5, none⟩ = some (.int .i64 x.dir.y) := by rw [← hW]; simp [go_sem]
  have x6 : W2.cell? ⟨W1.heap.size + 1 + 1, 6, none⟩ = some (.int .i64 x.err) := by rw [← hW]; simp [go_sem]
  have x7 : W2.cell? ⟨W1.heap.size + 1 + 1, 7, none⟩ = some (.int .i64 x.lo) := by rw [← hW]; simp [go_sem]
  have x8 : W2.cell? ⟨W1.heap.size + 1 + 1, 8, none⟩ = some (.int .i64 x.hi) := by rw [← hW]; simp [go_sem]
  have l2 : W1.heap.size + 1 + 1 < W2.heap.size := by rw [← hW]; simp
  have l20 : W1.heap.size < W2.heap.size := by omega
  have l21 : W1.heap.size + 1 < W2.heap.size := by omega
  clear hW
  generalize hSB : W1.heap.size = SB at *
  have cW := fun (W : World) (y : Below SB W1 W) => Where_any s x.st x.tick W (hAt.on (hSB ▸ y))
  have c1 := fun (q : V2) (W : World) (y : Below SB W1 W) => Agrees_any s ⟨1, x.st, x.cat, x.tick, x.dir, x.err, x.lo, x.hi⟩ q W (hAt.on (hSB ▸ y))
  have c3 := fun (q : V2) (W : World) (y : Below SB W1 W) => Agrees_any s ⟨3, x.st, x.cat, x.tick, x.dir, x.err, x.lo, x.hi⟩ q W (hAt.on (hSB ▸ y))
  have hfin : ∀ W, Below SB W1 W → Below w.heap.size w W := fun W y => hb1.trans (y.mono (by omega))
  unfold SkyR.val at cW c1 c3
  unfold SightR.val at c1 c3
  unfold pairV at cW
  simp only at cW c1 c3
  clear hb1 hAt
  replace hfin := Go.Lib.hid hfin
  obtain ⟨⟨px0, px1⟩, py0, py1⟩ := hp
  (apply wp_region_free1 13 10 36 #[.int .i64 0, .int .i64 0] #[.int .i64 (IntKind.i64.wrap (IntKind.i64.wrap (p.x + mx) - 200)), .int .i64 (IntKind.i64.wrap (IntKind.i64.wrap (p.y + my) - 200))] 33 (by kernel_rfl) (by kernel_rfl)); (case hal1 => (intro a' W' K hk; refine wpOp_step rfl (fun K' hK' => ?_); go_simp; exact hK' _ _ hk)); (case h => (intro z; have sz := z.size; (repeat (first | rw [World.size_alloc] at sz | rw [World.size_setCell] at sz | rw [World.size_drew] at sz)); have : SB < z.now.heap.size := (by omega); have : SB ≤ z.now.heap.size := (by omega); have : SB + 1 < z.now.heap.size := (by omega); have : SB + 1 ≤ z.now.heap.size := (by omega); have : SB + 1 + 1 < z.now.heap.size := (by omega); have : SB + 1 + 1 ≤ z.now.heap.size := (by omega); (repeat (first | go_big_quiet_step ((first | (go_at_call 20; with_reducible exact Calls.ext (cm1 _)) | (go_at_call 20; with_reducible exact Calls.ext (cm2 _)))) | quiet_step ((first | (go_at_call 20; with_reducible exact Calls.ext (cm1 _)) | (go_at_call 20; with_reducible exact Calls.ext (cm2 _)))))); exact wpQuiet_nil rfl)); (case hfs => exact Nat.le_of_ble_eq_true rfl); (case hs1 => (intro a' W' K O hp hx hg hk; refine wpOp_step rfl (fun K' hK' => ?_); refine (if_pos (by rfl)).mpr ?_; exact store_op 33 (.tmp 10) (.tmp 36) rfl O #[.int .i64 (IntKind.i64.wrap (IntKind.i64.wrap (p.x + mx) - 200)), .int .i64 (IntKind.i64.wrap (IntKind.i64.wrap (p.y + my) - 200))] hp (hx.trans rfl) 33 _ hg (by kernel_rfl) rfl (by simp [Value.oneCell']) (hK' _ _ hk))); intro yr BV gB1 gB2 gB3; have syr := yr.size; (repeat (first | rw [World.size_alloc] at syr | rw [World.size_setCell] at syr | rw [World.size_drew] at syr)); (repeat (first | rw [World.size_alloc] at gB1 | rw [World.size_setCell] at gB1 | rw [World.size_drew] at gB1)); have : SB < yr.now.heap.size := (by omega); have : SB ≤ yr.now.heap.size := (by omega); have : SB < yr.now.heap.size + 1 := (by omega); have : SB + 1 < yr.now.heap.size := (by omega); have : SB + 1 ≤ yr.now.heap.size := (by omega); have : SB + 1 < yr.now.heap.size + 1 := (by omega); have : SB + 1 + 1 < yr.now.heap.size := (by omega); have : SB + 1 + 1 ≤ yr.now.heap.size := (by omega); have : SB + 1 + 1 < yr.now.heap.size + 1 := (by omega); have kv0 := one_row yr gB3 0; have kv1 := one_row yr gB3 1; simp only [List.getElem?_toArray, List.getElem?_cons_zero, List.getElem?_cons_succ] at kv0 kv1; clear gB3
  have hY3 : Below SB W1 yr.now := hY2.trans (yr.grew.mono (by omega))
  replace k0 := (yr.cell l20).trans k0
  replace k1 := (yr.cell l20).trans k1
  replace k2 := (yr.cell l20).trans k2
  replace k3 := (yr.cell l20).trans k3
  replace p0 := (yr.cell l21).trans p0
  replace p1 := (yr.cell l21).trans p1
  replace x0 := (yr.cell l2).trans x0
  replace x1 := (yr.cell l2).trans x1
  replace x2 := (yr.cell l2).trans x2
  replace x3 := (yr.cell l2).trans x3
  replace x4 := (yr.cell l2).trans x4
  replace x5 := (yr.cell l2).trans x5
  replace x6 := (yr.cell l2).trans x6
  replace x7 := (yr.cell l2).trans x7
  replace x8 := (yr.cell l2).trans x8
  have l3 : SB + 1 + 1 < yr.now.heap.size := by omega
  have l30 : SB < yr.now.heap.size := by omega
  have l31 : SB + 1 < yr.now.heap.size := by omega
  have hBV1 : BV < yr.now.heap.size := by omega
  have hBV2 : SB + 1 + 1 < BV := by omega
  obtain ⟨qx, hqx⟩ : ∃ q, p.x + mx - 200 = q := ⟨_, rfl⟩
  obtain ⟨qy, hqy⟩ : ∃ q, p.y + my - 200 = q := ⟨_, rfl⟩
  have wx1 : IntKind.i64.wrap (p.x + mx) = p.x + mx := IntWalk.i64_in _ (by omega)
  have wy1 : IntKind.i64.wrap (p.y + my) = p.y + my := IntWalk.i64_in _ (by omega)
  have wx3 : IntKind.i64.wrap qx = qx := IntWalk.i64_in _ (by omega)
  have wy3 : IntKind.i64.wrap qy = qy := IntWalk.i64_in _ (by omega)
  simp only [wx1, wx3, wy1, wy3, hqx, hqy] at kv0 kv1 ⊢
  clear wx1 wx3 wy1 wy3
  have bqx : -4200 ≤ qx ∧ qx ≤ 4200 := by omega
  have bqy : -4200 ≤ qy ∧ qy ≤ 4200 := by omega
  clear hqx hqy hY2 l2 l20 l21 p0 p1
  generalize yr.now = W3 at *
  obtain ⟨hwh, b, f, e1, e3, ef⟩ := looks_say (q := ⟨qx, qy⟩) hsm hok ht0 ht1 (by unfold vwinB winB; simp only [Bool.and_eq_true, decide_eq_true_eq]; omega)
  obtain ⟨hw1, hw2⟩ := where_small hsm x.st x.tick
  replace c1 := c1 ⟨qx, qy⟩
  replace c3 := c3 ⟨qx, qy⟩
  rw [e1] at c1
  rw [e3] at c3
  have hhi := hok.oh
  clear e1 e3 hsm hok ht0 ht1
  generalize whereV s x.st x.tick = rr at *
  obtain ⟨⟨ox, oy⟩, ob⟩ := rr
  simp only at cW ef hwh hw1 hw2 c1 c3
  subst hwh
  by_cases hk : x.kind = 2
  case pos =>
    rw [hk] at x0
    clear cW c1 c3 ef
    go_wp2_with (first | ((first | with_reducible refine wp_region_ext2 (by kernel_rfl) (by kernel_rfl) ?_ | with_reducible refine wp_region_ext (by kernel_rfl) (by kernel_rfl) ?_); (repeat (first | go_big_quiet_step ((first | (go_at_call 8; with_reducible exact Calls.ext (ca _)))) | quiet_step ((first | (go_at_call 8; with_reducible exact Calls.ext (ca _)))))); refine wpQuiet_nil ?_; rintro _ ⟨yr, rfl⟩; have syr := Ext.size yr; (repeat (first | rw [World.size_alloc] at syr | rw [World.size_setCell] at syr | rw [World.size_drew] at syr))) | (go_at_call 8; (first | with_reducible refine (Calls.giv2 (ca _)).mono ?_ | with_reducible refine (Calls.giv (ca _)).mono ?_); rintro _ _ ⟨y1, rfl, rfl⟩; have sy1 := Ext.size y1; (repeat (first | rw [World.size_alloc] at sy1 | rw [World.size_setCell] at sy1 | rw [World.size_drew] at sy1))))
    go_returns
    refine ⟨rfl, hfin.out _ ?_⟩
    repeat' (first | (with_reducible exact Below.refl _ _) | (with_reducible assumption) | (with_reducible refine Ext.below _ ?_ ?_) | (with_reducible refine Below.on ?_ (by with_reducible assumption) ?_) | (with_reducible refine Below.alloc ?_ ?_ _) | (with_reducible refine Below.drew ?_) | (with_reducible refine Below.setCell ?_ ?_ _) | (with_reducible exact Nat.le_refl _) | omega | (simp; done) | (simp [go_sem]; done) | (simp at *; omega))
  have hkq : (x.kind == 2) = false := by rw [beq_eq_false_iff_ne]; exact hk
  go_wp2_with (first | ((first | with_reducible refine wp_region_ext2 (by kernel_rfl) (by kernel_rfl) ?_ | with_reducible refine wp_region_ext (by kernel_rfl) (by kernel_rfl) ?_); (repeat (first | go_big_quiet_step ((first | fail)) | quiet_step ((first | fail)))); refine wpQuiet_nil ?_; rintro _ ⟨yr, rfl⟩; have syr := Ext.size yr; (repeat (first | rw [World.size_alloc] at syr | rw [World.size_setCell] at syr | rw [World.size_drew] at syr))))
  apply wp_region_free 2 11 12 41 42 #[.int .i64 0, .int .i64 0, .int .i64 0, .int .i64 0, .int .i64 0, .int .i64 0, .int .i64 0, .int .i64 0, .int .i64 0] #[.int .i64 0, .int .i64 0, .int .i64 0, .int .i64 0, .int .i64 0, .int .i64 0, .int .i64 0, .int .i64 0, .int .i64 0] #[.int .i64 x.kind, .int .i64 x.st, .int .i64 x.cat, .int .i64 x.tick, .int .i64 x.dir.x, .int .i64 x.dir.y, .int .i64 x.err, .int .i64 x.lo, .int .i64 x.hi] #[.int .i64 x.kind, .int .i64 x.st, .int .i64 x.cat, .int .i64 x.tick, .int .i64 x.dir.x, .int .i64 x.dir.y, .int .i64 x.err, .int .i64 x.lo, .int .i64 x.hi] 44 44 (by kernel_rfl) (by kernel_rfl)
  case hal1 => intro a' W' K hk; refine wpOp_step rfl (fun K' hK' => ?_); go_simp; exact hK' _ _ hk
  case hal2 => intro a' W' K hk; refine wpOp_step rfl (fun K' hK' => ?_); go_simp; exact hK' _ _ hk
  case h =>
    intro z
    have sz := z.size
    have zx0 := (z.cell (o := 0) l3).trans x0
    have zx1 := (z.cell (o := 1) l3).trans x1
    have zx2 := (z.cell (o := 2) l3).trans x2
    have zx3 := (z.cell (o := 3) l3).trans x3
    have zx4 := (z.cell (o := 4) l3).trans x4
    have zx5 := (z.cell (o := 5) l3).trans x5
    have zx6 := (z.cell (o := 6) l3).trans x6
    have zx7 := (z.cell (o := 7) l3).trans x7
    have zx8 := (z.cell (o := 8) l3).trans x8
    (repeat (first | go_big_quiet_step (fail) | quiet_step (fail)))
    exact wpQuiet_nil rfl
  case hfs => exact ⟨Nat.le_of_ble_eq_true rfl, Nat.le_of_ble_eq_true rfl⟩
  case hs1 =>
    intro a' W' K O hp hx hg hk'
    refine wpOp_step rfl (fun K' hK' => ?_)
    refine (if_pos (by rfl)).mpr ?_
    exact store_op 44 (.tmp 11) (.tmp 41) rfl O #[.int .i64 x.kind, .int .i64 x.st, .int .i64 x.cat, .int .i64 x.tick, .int .i64 x.dir.x, .int .i64 x.dir.y, .int .i64 x.err, .int .i64 x.lo, .int .i64 x.hi] hp (hx.trans rfl) 44 _ hg (by kernel_rfl) rfl (by simp [Value.oneCell']) (hK' _ _ hk')
  case hs2 =>
    intro a' W' K O hp hx hg hk'
    refine wpOp_step rfl (fun K' hK' => ?_)
    refine (if_pos (by rfl)).mpr ?_
    exact store_op 44 (.tmp 12) (.tmp 42) rfl O #[.int .i64 x.kind, .int .i64 x.st, .int .i64 x.cat, .int .i64 x.tick, .int .i64 x.dir.x, .int .i64 x.dir.y, .int .i64 x.err, .int .i64 x.lo, .int .i64 x.hi] hp (hx.trans rfl) 44 _ hg (by kernel_rfl) rfl (by simp [Value.oneCell']) (hK' _ _ hk')
  intro y BA BB g1 g2 g3 g4 g5 g6 g7
  have hY4 : Below SB W1 y.now := hY3.trans (y.grew.mono (by omega))
  replace k0 := (y.cell l30).trans k0
  replace k1 := (y.cell l30).trans k1
  replace k2 := (y.cell l30).trans k2
  replace k3 := (y.cell l30).trans k3
  replace kv0 := (y.cell hBV1).trans kv0
  replace kv1 := (y.cell hBV1).trans kv1
  replace x0 := (y.cell l3).trans x0
  replace x1 := (y.cell l3).trans x1
  replace x2 := (y.cell l3).trans x2
  replace x3 := (y.cell l3).trans x3
  replace x4 := (y.cell l3).trans x4
  replace x5 := (y.cell l3).trans x5
  replace x6 := (y.cell l3).trans x6
  replace x7 := (y.cell l3).trans x7
  replace x8 := (y.cell l3).trans x8
  have a0 : y.now.cell? ⟨BA, 0, none⟩ = some (.int .i64 x.kind) := cell_of_row y.now BA 0 _ _ _ g6
  have b0 : y.now.cell? ⟨BB, 0, none⟩ = some (.int .i64 x.kind) := cell_of_row y.now BB 0 _ _ _ g7
  have a1 : y.now.cell? ⟨BA, 1, none⟩ = some (.int .i64 x.st) := cell_of_row y.now BA 1 _ _ _ g6
  have b1 : y.now.cell? ⟨BB, 1, none⟩ = some (.int .i64 x.st) := cell_of_row y.now BB 1 _ _ _ g7
  have a2 : y.now.cell? ⟨BA, 2, none⟩ = some (.int .i64 x.cat) := cell_of_row y.now BA 2 _ _ _ g6
  have b2 : y.now.cell? ⟨BB, 2, none⟩ = some (.int .i64 x.cat) := cell_of_row y.now BB 2 _ _ _ g7
  have a3 : y.now.cell? ⟨BA, 3, none⟩ = some (.int .i64 x.tick) := cell_of_row y.now BA 3 _ _ _ g6
  have b3 : y.now.cell? ⟨BB, 3, none⟩ = some (.int .i64 x.tick) := cell_of_row y.now BB 3 _ _ _ g7
  have a4 : y.now.cell? ⟨BA, 4, none⟩ = some (.int .i64 x.dir.x) := cell_of_row y.now BA 4 _ _ _ g6
  have b4 : y.now.cell? ⟨BB, 4, none⟩ = some (.int .i64 x.dir.x) := cell_of_row y.now BB 4 _ _ _ g7
  have a5 : y.now.cell? ⟨BA, 5, none⟩ = some (.int .i64 x.dir.y) := cell_of_row y.now BA 5 _ _ _ g6
  have b5 : y.now.cell? ⟨BB, 5, none⟩ = some (.int .i64 x.dir.y) := cell_of_row y.now BB 5 _ _ _ g7
  have a6 : y.now.cell? ⟨BA, 6, none⟩ = some (.int .i64 x.err) := cell_of_row y.now BA 6 _ _ _ g6
  have b6 : y.now.cell? ⟨BB, 6, none⟩ = some (.int .i64 x.err) := cell_of_row y.now BB 6 _ _ _ g7
  have a7 : y.now.cell? ⟨BA, 7, none⟩ = some (.int .i64 x.lo) := cell_of_row y.now BA 7 _ _ _ g6
  have b7 : y.now.cell? ⟨BB, 7, none⟩ = some (.int .i64 x.lo) := cell_of_row y.now BB 7 _ _ _ g7
  have a8 : y.now.cell? ⟨BA, 8, none⟩ = some (.int .i64 x.hi) := cell_of_row y.now BA 8 _ _ _ g6
  have b8 : y.now.cell? ⟨BB, 8, none⟩ = some (.int .i64 x.hi) := cell_of_row y.now BB 8 _ _ _ g7
  have af : y.now.frozen? ⟨BA, 0, none⟩ = false := frozen_of_row y.now BA 0 _ _ g6
  have bf : y.now.frozen? ⟨BB, 0, none⟩ = false := frozen_of_row y.now BB 0 _ _ g7
  have l4 : SB + 1 + 1 < y.now.heap.size := by omega
  have l40 : SB < y.now.heap.size := by omega
  have hA1 : SB + 1 + 1 < BA := by omega
  have hA2 : SB + 1 + 1 < BB := by omega
  have hA3 : BV < BA := by omega
  have hA4 : BV < BB := by omega
  have hA5 : BB ≠ BA := fun e => g5 e.symm
  have hV4 : BV < y.now.heap.size := by omega
  clear hY3 g1 g2 g6 g7 l3 l30 hBV1
  generalize y.now = W4 at *
  clear y
  go_wp2_with (first | ((first | with_reducible refine wp_region_ext2 (by kernel_rfl) (by kernel_rfl) ?_ | with_reducible refine wp_region_ext (by kernel_rfl) (by kernel_rfl) ?_); (repeat (first | go_big_quiet_step ((first | fail)) | quiet_step ((first | fail)))); refine wpQuiet_nil ?_; rintro _ ⟨yr, rfl⟩; have syr := Ext.size yr; (repeat (first | rw [World.size_alloc] at syr | rw [World.size_setCell] at syr | rw [World.size_drew] at syr))))
  refine calls_named' (fun W5 hW => ?_)
  have hY5 : Below SB W1 W5 := by rw [← hW]; exact (hY4.setCell (by dsimp only; omega) _).setCell (by dsimp only; omega) _
  replace k0 : W5.cell? ⟨SB, 0, none⟩ = some (.slice s.bp s.bodies.length s.bc) := by rw [← hW]; exact cell_st (by omega) (cell_st (by omega) k0)
  replace k1 : W5.cell? ⟨SB, 1, none⟩ = some (.int .i64 s.home) := by rw [← hW]; exact cell_st (by omega) (cell_st (by omega) k1)
  replace k2 : W5.cell? ⟨SB, 2, none⟩ = some (.slice s.sp s.sts.length s.sc) := by rw [← hW]; exact cell_st (by omega) (cell_st (by omega) k2)
  replace k3 : W5.cell? ⟨SB, 3, none⟩ = some (.slice s.cp s.cats.length s.cc) := by rw [← hW]; exact cell_st (by omega) (cell_st (by omega) k3)
  replace kv0 : W5.cell? ⟨BV, 0, none⟩ = some (.int .i64 qx) := by rw [← hW]; exact cell_st (by omega) (cell_st (by omega) kv0)
  replace kv1 : W5.cell? ⟨BV, 1, none⟩ = some (.int .i64 qy) := by rw [← hW]; exact cell_st (by omega) (cell_st (by omega) kv1)
  replace x0 : W5.cell? ⟨SB + 1 + 1, 0, none⟩ = some (.int .i64 x.kind) := by rw [← hW]; exact cell_st (by omega) (cell_st (by omega) x0)
  replace x1 : W5.cell? ⟨SB + 1 + 1, 1, none⟩ = some (.int .i64 x.st) := by rw [← hW]; exact cell_st (by omega) (cell_st (by omega) x1)
  replace x2 : W5.cell? ⟨SB + 1 + 1, 2, none⟩ = some (.int .i64 x.cat) := by rw [← hW]; exact cell_st (by omega) (cell_st (by omega) x2)
  replace x3 : W5.cell? ⟨SB + 1 + 1, 3, none⟩ = some (.int .i64 x.tick) := by rw [← hW]; exact cell_st (by omega) (cell_st (by omega) x3)
  replace x4 : W5.cell? ⟨SB + 1 + 1, 4, none⟩ = some (.int .i64 x.dir.x) := by rw [← hW]; exact cell_st (by omega) (cell_st (by omega) x4)
  replace x5 : W5.cell? ⟨SB + 1 + 1, 5, none⟩ = some (.int .i64 x.dir.y) := by rw [← hW]; exact cell_st (by omega) (cell_st (by omega) x5)
  replace x6 : W5.cell? ⟨SB + 1 + 1, 6, none⟩ = some (.int .i64 x.err) := by rw [← hW]; exact cell_st (by omega) (cell_st (by omega) x6)
  replace x7 : W5.cell? ⟨SB + 1 + 1, 7, none⟩ = some (.int .i64 x.lo) := by rw [← hW]; exact cell_st (by omega) (cell_st (by omega) x7)
  replace x8 : W5.cell? ⟨SB + 1 + 1, 8, none⟩ = some (.int .i64 x.hi) := by rw [← hW]; exact cell_st (by omega) (cell_st (by omega) x8)
  replace a0 : W5.cell? ⟨BA, 0, none⟩ = some (.int .i64 1) := by rw [← hW]; refine cell_st hA5 ?_; simp [go_sem, a0]
  replace b0 : W5.cell? ⟨BB, 0, none⟩ = some (.int .i64 3) := by rw [← hW]; have hb := cell_st (C := BA) (o' := 0) (u := .int .i64 1) g5 b0; simp [go_sem, hb]
  replace a1 : W5.cell? ⟨BA, 1, none⟩ = some (.int .i64 x.st) := by rw [← hW]; refine cell_st hA5 ?_; simp [go_sem, a1]
  replace b1 : W5.cell? ⟨BB, 1, none⟩ = some (.int .i64 x.st) := by rw [← hW]; have hb := cell_st (C := BA) (o' := 0) (u := .int .i64 1) g5 b1; simp [go_sem, hb]
  replace a2 : W5.cell? ⟨BA, 2, none⟩ = some (.int .i64 x.cat) := by rw [← hW]; refine cell_st hA5 ?_; simp [go_sem, a2]
  replace b2 : W5.cell? ⟨BB, 2, none⟩ = some (.int .i64 x.cat) := by rw [← hW]; have hb := cell_st (C := BA) (o' := 0) (u := .int .i64 1) g5 b2; simp [go_sem, hb]
  replace a3 : W5.cell? ⟨BA, 3, none⟩ = some (.int .i64 x.tick) := by rw [← hW]; refine cell_st hA5 ?_; simp [go_sem, a3]
  replace b3 : W5.cell? ⟨BB, 3, none⟩ = some (.int .i64 x.tick) := by rw [← hW]; have hb := cell_st (C := BA) (o' := 0) (u := .int .i64 1) g5 b3; simp [go_sem, hb]
  replace a4 : W5.cell? ⟨BA, 4, none⟩ = some (.int .i64 x.dir.x) := by rw [← hW]; refine cell_st hA5 ?_; simp [go_sem, a4]
  replace b4 : W5.cell? ⟨BB, 4, none⟩ = some (.int .i64 x.dir.x) := by rw [← hW]; have hb := cell_st (C := BA) (o' := 0) (u := .int .i64 1) g5 b4; simp [go_sem, hb]
  replace a5 : W5.cell? ⟨BA, 5, none⟩ = some (.int .i64 x.dir.y) := by rw [← hW]; refine cell_st hA5 ?_; simp [go_sem, a5]
  replace b5 : W5.cell? ⟨BB, 5, none⟩ = some (.int .i64 x.dir.y) := by rw [← hW]; have hb := cell_st (C := BA) (o' := 0) (u := .int .i64 1) g5 b5; simp [go_sem, hb]
  replace a6 : W5.cell? ⟨BA, 6, none⟩ = some (.int .i64 x.err) := by rw [← hW]; refine cell_st hA5 ?_; simp [go_sem, a6]
  replace b6 : W5.cell? ⟨BB, 6, none⟩ = some (.int .i64 x.err) := by rw [← hW]; have hb := cell_st (C := BA) (o' := 0) (u := .int .i64 1) g5 b6; simp [go_sem, hb]
  replace a7 : W5.cell? ⟨BA, 7, none⟩ = some (.int .i64 x.lo) := by rw [← hW]; refine cell_st hA5 ?_; simp [go_sem, a7]
  replace b7 : W5.cell? ⟨BB, 7, none⟩ = some (.int .i64 x.lo) := by rw [← hW]; have hb := cell_st (C := BA) (o' := 0) (u := .int .i64 1) g5 b7; simp [go_sem, hb]
  replace a8 : W5.cell? ⟨BA, 8, none⟩ = some (.int .i64 x.hi) := by rw [← hW]; refine cell_st hA5 ?_; simp [go_sem, a8]
  replace b8 : W5.cell? ⟨BB, 8, none⟩ = some (.int .i64 x.hi) := by rw [← hW]; have hb := cell_st (C := BA) (o' := 0) (u := .int .i64 1) g5 b8; simp [go_sem, hb]
  have l5 : SB + 1 + 1 < W5.heap.size := by rw [← hW]; simpa using l4
  have l50 : SB < W5.heap.size := by omega
  have hV5 : BV < W5.heap.size := by rw [← hW]; simpa using hV4
  have hg3 : BA < W5.heap.size := by rw [← hW]; simpa using g3
  have hg4 : BB < W5.heap.size := by rw [← hW]; simpa using g4
  clear hW hY4 l4 l40 hV4 g3 g4 af bf
  obtain ⟨ux, hux⟩ : ∃ u, qx - ox = u := ⟨_, rfl⟩
  obtain ⟨uy, huy⟩ : ∃ u, qy - oy = u := ⟨_, rfl⟩
  have bux : -6240 ≤ ux ∧ ux ≤ 6240 := by omega
  have buy : -6240 ≤ uy ∧ uy ≤ 6240 := by omega
  obtain ⟨m1, m2⟩ := mulb (A := 6240) (B := 6240) bux.1 bux.2 bux.1 bux.2
  obtain ⟨m3, m4⟩ := mulb (A := 6240) (B := 6240) buy.1 buy.2 buy.1 buy.2
  obtain ⟨m5, m6⟩ := mulb (A := 7000) (B := 7000) (a := x.hi) (b := x.hi) (by omega) (by omega) (by omega) (by omega)
  rw [hux, huy] at ef
  have hdec := ef.symm
  clear ef bux buy hhi
  cases b <;> cases f
  all_goals
    go_wp2_with (first | ((first | with_reducible refine wp_region_ext2 (by kernel_rfl) (by kernel_rfl) ?_ | with_reducible refine wp_region_ext (by kernel_rfl) (by kernel_rfl) ?_); (repeat (first | go_big_quiet_step ((first | (go_at_call 10; with_reducible exact Calls.ext (cW _ (by repeat' (first | (with_reducible exact Below.refl _ _) | (with_reducible assumption) | (with_reducible refine Ext.below _ ?_ ?_) | (with_reducible refine Below.on ?_ (by with_reducible assumption) ?_) | (with_reducible refine Below.alloc ?_ ?_ _) | (with_reducible refine Below.drew ?_) | (with_reducible refine Below.setCell ?_ ?_ _) | (with_reducible exact Nat.le_refl _) | omega | (simp; done) | (simp [go_sem]; done) | (simp at *; omega))))) | (go_at_call 21; with_reducible exact Calls.ext (c1 _ (by repeat' (first | (with_reducible exact Below.refl _ _) | (with_reducible assumption) | (with_reducible refine Ext.below _ ?_ ?_) | (with_reducible refine Below.on ?_ (by with_reducible assumption) ?_) | (with_reducible refine Below.alloc ?_ ?_ _) | (with_reducible refine Below.drew ?_) | (with_reducible refine Below.setCell ?_ ?_ _) | (with_reducible exact Nat.le_refl _) | omega | (simp; done) | (simp [go_sem]; done) | (simp at *; omega))))) | (go_at_call 21; with_reducible exact Calls.ext (c3 _ (by repeat' (first | (with_reducible exact Below.refl _ _) | (with_reducible assumption) | (with_reducible refine Ext.below _ ?_ ?_) | (with_reducible refine Below.on ?_ (by with_reducible assumption) ?_) | (with_reducible refine Below.alloc ?_ ?_ _) | (with_reducible refine Below.drew ?_) | (with_reducible refine Below.setCell ?_ ?_ _) | (with_reducible exact Nat.le_refl _) | omega | (simp; done) | (simp [go_sem]; done) | (simp at *; omega))))) | (go_at_call 8; with_reducible exact Calls.ext (ca _)))) | quiet_step ((first | (go_at_call 10; with_reducible exact Calls.ext (cW _ (by repeat' (first | (with_reducible exact Below.refl _ _) | (with_reducible assumption) | (with_reducible refine Ext.below _ ?_ ?_) | (with_reducible refine Below.on ?_ (by with_reducible assumption) ?_) | (with_reducible refine Below.alloc ?_ ?_ _) | (with_reducible refine Below.drew ?_) | (with_reducible refine Below.setCell ?_ ?_ _) | (with_reducible exact Nat.le_refl _) | omega | (simp; done) | (simp [go_sem]; done) | (simp at *; omega))))) | (go_at_call 21; with_reducible exact Calls.ext (c1 _ (by repeat' (first | (with_reducible exact Below.refl _ _) | (with_reducible assumption) | (with_reducible refine Ext.below _ ?_ ?_) | (with_reducible refine Below.on ?_ (by with_reducible assumption) ?_) | (with_reducible refine Below.alloc ?_ ?_ _) | (with_reducible refine Below.drew ?_) | (with_reducible refine Below.setCell ?_ ?_ _) | (with_reducible exact Nat.le_refl _) | omega | (simp; done) | (simp [go_sem]; done) | (simp at *; omega))))) | (go_at_call 21; with_reducible exact Calls.ext (c3 _ (by repeat' (first | (with_reducible exact Below.refl _ _) | (with_reducible assumption) | (with_reducible refine Ext.below _ ?_ ?_) | (with_reducible refine Below.on ?_ (by with_reducible assumption) ?_) | (with_reducible refine Below.alloc ?_ ?_ _) | (with_reducible refine Below.drew ?_) | (with_reducible refine Below.setCell ?_ ?_ _) | (with_reducible exact Nat.le_refl _) | omega | (simp; done) | (simp [go_sem]; done) | (simp at *; omega))))) | (go_at_call 8; with_reducible exact Calls.ext (ca _)))))); refine wpQuiet_nil ?_; rintro _ ⟨yr, rfl⟩; have syr := Ext.size yr; (repeat (first | rw [World.size_alloc] at syr | rw [World.size_setCell] at syr | rw [World.size_drew] at syr)); have : SB < yr.now.heap.size := (by omega); have : SB ≤ yr.now.heap.size := (by omega); have : SB < yr.now.heap.size + 1 + 1 := (by omega); have : SB + 1 < yr.now.heap.size := (by omega); have : SB + 1 ≤ yr.now.heap.size := (by omega); have : SB + 1 < yr.now.heap.size + 1 + 1 := (by omega); have : SB + 1 + 1 < yr.now.heap.size := (by omega); have : SB + 1 + 1 ≤ yr.now.heap.size := (by omega); have : SB + 1 + 1 < yr.now.heap.size + 1 + 1 := (by omega); have : BV < yr.now.heap.size := (by omega); have : BV ≤ yr.now.heap.size := (by omega); have : BV < yr.now.heap.size + 1 + 1 := (by omega); have : BA < yr.now.heap.size := (by omega); have : BA ≤ yr.now.heap.size := (by omega); have : BA < yr.now.heap.size + 1 + 1 := (by omega); have : BB < yr.now.heap.size := (by omega); have : BB ≤ yr.now.heap.size := (by omega); have : BB < yr.now.heap.size + 1 + 1 := (by omega)) | (go_at_call 10; (first | with_reducible refine (Calls.giv2 (cW _ (by repeat' (first | (with_reducible exact Below.refl _ _) | (with_reducible assumption) | (with_reducible refine Ext.below _ ?_ ?_) | (with_reducible refine Below.on ?_ (by with_reducible assumption) ?_) | (with_reducible refine Below.alloc ?_ ?_ _) | (with_reducible refine Below.drew ?_) | (with_reducible refine Below.setCell ?_ ?_ _) | (with_reducible exact Nat.le_refl _) | omega | (simp; done) | (simp [go_sem]; done) | (simp at *; omega))))).mono ?_ | with_reducible refine (Calls.giv (cW _ (by repeat' (first | (with_reducible exact Below.refl _ _) | (with_reducible assumption) | (with_reducible refine Ext.below _ ?_ ?_) | (with_reducible refine Below.on ?_ (by with_reducible assumption) ?_) | (with_reducible refine Below.alloc ?_ ?_ _) | (with_reducible refine Below.drew ?_) | (with_reducible refine Below.setCell ?_ ?_ _) | (with_reducible exact Nat.le_refl _) | omega | (simp; done) | (simp [go_sem]; done) | (simp at *; omega))))).mono ?_); rintro _ _ ⟨y1, rfl, rfl⟩; have sy1 := Ext.size y1; (repeat (first | rw [World.size_alloc] at sy1 | rw [World.size_setCell] at sy1 | rw [World.size_drew] at sy1)); have : SB < y1.now.heap.size := (by omega); have : SB ≤ y1.now.heap.size := (by omega); have : SB < y1.now.heap.size + 1 + 1 := (by omega); have : SB + 1 < y1.now.heap.size := (by omega); have : SB + 1 ≤ y1.now.heap.size := (by omega); have : SB + 1 < y1.now.heap.size + 1 + 1 := (by omega); have : SB + 1 + 1 < y1.now.heap.size := (by omega); have : SB + 1 + 1 ≤ y1.now.heap.size := (by omega); have : SB + 1 + 1 < y1.now.heap.size + 1 + 1 := (by omega); have : BV < y1.now.heap.size := (by omega); have : BV ≤ y1.now.heap.size := (by omega); have : BV < y1.now.heap.size + 1 + 1 := (by omega); have : BA < y1.now.heap.size := (by omega); have : BA ≤ y1.now.heap.size := (by omega); have : BA < y1.now.heap.size + 1 + 1 := (by omega); have : BB < y1.now.heap.size := (by omega); have : BB ≤ y1.now.heap.size := (by omega); have : BB < y1.now.heap.size + 1 + 1 := (by omega)) | (go_at_call 21; (first | with_reducible refine (Calls.giv2 (c1 _ (by repeat' (first | (with_reducible exact Below.refl _ _) | (with_reducible assumption) | (with_reducible refine Ext.below _ ?_ ?_) | (with_reducible refine Below.on ?_ (by with_reducible assumption) ?_) | (with_reducible refine Below.alloc ?_ ?_ _) | (with_reducible refine Below.drew ?_) | (with_reducible refine Below.setCell ?_ ?_ _) | (with_reducible exact Nat.le_refl _) | omega | (simp; done) | (simp [go_sem]; done) | (simp at *; omega))))).mono ?_ | with_reducible refine (Calls.giv (c1 _ (by repeat' (first | (with_reducible exact Below.refl _ _) | (with_reducible assumption) | (with_reducible refine Ext.below _ ?_ ?_) | (with_reducible refine Below.on ?_ (by with_reducible assumption) ?_) | (with_reducible refine Below.alloc ?_ ?_ _) | (with_reducible refine Below.drew ?_) | (with_reducible refine Below.setCell ?_ ?_ _) | (with_reducible exact Nat.le_refl _) | omega | (simp; done) | (simp [go_sem]; done) | (simp at *; omega))))).mono ?_); rintro _ _ ⟨y2, rfl, rfl⟩; have sy2 := Ext.size y2; (repeat (first | rw [World.size_alloc] at sy2 | rw [World.size_setCell] at sy2 | rw [World.size_drew] at sy2)); have : SB < y2.now.heap.size := (by omega); have : SB ≤ y2.now.heap.size := (by omega); have : SB < y2.now.heap.size + 1 + 1 := (by omega); have : SB + 1 < y2.now.heap.size := (by omega); have : SB + 1 ≤ y2.now.heap.size := (by omega); have : SB + 1 < y2.now.heap.size + 1 + 1 := (by omega); have : SB + 1 + 1 < y2.now.heap.size := (by omega); have : SB + 1 + 1 ≤ y2.now.heap.size := (by omega); have : SB + 1 + 1 < y2.now.heap.size + 1 + 1 := (by omega); have : BV < y2.now.heap.size := (by omega); have : BV ≤ y2.now.heap.size := (by omega); have : BV < y2.now.heap.size + 1 + 1 := (by omega); have : BA < y2.now.heap.size := (by omega); have : BA ≤ y2.now.heap.size := (by omega); have : BA < y2.now.heap.size + 1 + 1 := (by omega); have : BB < y2.now.heap.size := (by omega); have : BB ≤ y2.now.heap.size := (by omega); have : BB < y2.now.heap.size + 1 + 1 := (by omega)) | (go_at_call 21; (first | with_reducible refine (Calls.giv2 (c3 _ (by repeat' (first | (with_reducible exact Below.refl _ _) | (with_reducible assumption) | (with_reducible refine Ext.below _ ?_ ?_) | (with_reducible refine Below.on ?_ (by with_reducible assumption) ?_) | (with_reducible refine Below.alloc ?_ ?_ _) | (with_reducible refine Below.drew ?_) | (with_reducible refine Below.setCell ?_ ?_ _) | (with_reducible exact Nat.le_refl _) | omega | (simp; done) | (simp [go_sem]; done) | (simp at *; omega))))).mono ?_ | with_reducible refine (Calls.giv (c3 _ (by repeat' (first | (with_reducible exact Below.refl _ _) | (with_reducible assumption) | (with_reducible refine Ext.below _ ?_ ?_) | (with_reducible refine Below.on ?_ (by with_reducible assumption) ?_) | (with_reducible refine Below.alloc ?_ ?_ _) | (with_reducible refine Below.drew ?_) | (with_reducible refine Below.setCell ?_ ?_ _) | (with_reducible exact Nat.le_refl _) | omega | (simp; done) | (simp [go_sem]; done) | (simp at *; omega))))).mono ?_); rintro _ _ ⟨y3, rfl, rfl⟩; have sy3 := Ext.size y3; (repeat (first | rw [World.size_alloc] at sy3 | rw [World.size_setCell] at sy3 | rw [World.size_drew] at sy3)); have : SB < y3.now.heap.size := (by omega); have : SB ≤ y3.now.heap.size := (by omega); have : SB < y3.now.heap.size + 1 + 1 := (by omega); have : SB + 1 < y3.now.heap.size := (by omega); have : SB + 1 ≤ y3.now.heap.size := (by omega); have : SB + 1 < y3.now.heap.size + 1 + 1 := (by omega); have : SB + 1 + 1 < y3.now.heap.size := (by omega); have : SB + 1 + 1 ≤ y3.now.heap.size := (by omega); have : SB + 1 + 1 < y3.now.heap.size + 1 + 1 := (by omega); have : BV < y3.now.heap.size := (by omega); have : BV ≤ y3.now.heap.size := (by omega); have : BV < y3.now.heap.size + 1 + 1 := (by omega); have : BA < y3.now.heap.size := (by omega); have : BA ≤ y3.now.heap.size := (by omega); have : BA < y3.now.heap.size + 1 + 1 := (by omega); have : BB < y3.now.heap.size := (by omega); have : BB ≤ y3.now.heap.size := (by omega); have : BB < y3.now.heap.size + 1 + 1 := (by omega)) | (go_at_call 8; (first | with_reducible refine (Calls.giv2 (ca _)).mono ?_ | with_reducible refine (Calls.giv (ca _)).mono ?_); rintro _ _ ⟨y4, rfl, rfl⟩; have sy4 := Ext.size y4; (repeat (first | rw [World.size_alloc] at sy4 | rw [World.size_setCell] at sy4 | rw [World.size_drew] at sy4)); have : SB < y4.now.heap.size := (by omega); have : SB ≤ y4.now.heap.size := (by omega); have : SB < y4.now.heap.size + 1 + 1 := (by omega); have : SB + 1 < y4.now.heap.size := (by omega); have : SB + 1 ≤ y4.now.heap.size := (by omega); have : SB + 1 < y4.now.heap.size + 1 + 1 := (by omega); have : SB + 1 + 1 < y4.now.heap.size := (by omega); have : SB + 1 + 1 ≤ y4.now.heap.size := (by omega); have : SB + 1 + 1 < y4.now.heap.size + 1 + 1 := (by omega); have : BV < y4.now.heap.size := (by omega); have : BV ≤ y4.now.heap.size := (by omega); have : BV < y4.now.heap.size + 1 + 1 := (by omega); have : BA < y4.now.heap.size := (by omega); have : BA ≤ y4.now.heap.size := (by omega); have : BA < y4.now.heap.size + 1 + 1 := (by omega); have : BB < y4.now.heap.size := (by omega); have : BB ≤ y4.now.heap.size := (by omega); have : BB < y4.now.heap.size + 1 + 1 := (by omega)))
    go_returns
    refine ⟨rfl, hfin.out _ ?_⟩
    repeat' (first | (with_reducible exact Below.refl _ _) | (with_reducible assumption) | (with_reducible refine Ext.below _ ?_ ?_) | (with_reducible refine Below.on ?_ (by with_reducible assumption) ?_) | (with_reducible refine Below.alloc ?_ ?_ _) | (with_reducible refine Below.drew ?_) | (with_reducible refine Below.setCell ?_ ?_ _) | (with_reducible exact Nat.le_refl _) | omega | (simp; done) | (simp [go_sem]; done) | (simp at *; omega))
set_option maxRecDepth 100000 in
theorem SkyLooks_lifted (os : Os) (started : os.Started) (H : Type) (enc : TypeId × Value → H) :
    ReturnsInHanded {} Try.checked os 4 .any (Rows.skyLooksSpec.pre6 enc Try.prog Try.f4 Rows.skyLooksRow.domain false) (Rows.skyLooksSpec.post enc Try.prog Try.f4 false true false false) := by
  refine returnsInHanded_of_change (C := Try.checked) own started (by kernel_rfl) Try.func4
    (ChangeSpec.witness6 (enc := enc) (C := Try.checked) false ⟨#[], #[.slice none 0 0, .int .i64 0, .int .i64 0], []⟩ 8 (by kernel_rfl) (by kernel_rfl) (by kernel_rfl) (by kernel_rfl)) ?_
  intro W base args ds gs before hval0 hW _ _
  have hval : ∀ (j : Nat) t v, Try.f4.params[j]? = some t → args[j]? = some v → Value.okWide Try.prog W .any base t v := hval0
  have hW' := hW
  obtain ⟨p, q, hA0, hV, _, _, _⟩ := hW
  have hA : DataW.TrodAll enc Try.prog W 0 (fun _ => true) true Try.f4.params.toList args.toList ds p := hA0
  rw [Try.params4] at hA hval
  obtain ⟨v0, vs0, d0, ds0, p0, q0, hargs0, rfl, _, h0, r0⟩ := trodAll_cons hA
  obtain ⟨v1, vs1, d1, ds1, p1, q1, hargs1, rfl, _, h1, r1⟩ := trodAll_cons r0
  obtain ⟨v2, vs2, d2, ds2, p2, q2, hargs2, rfl, _, h2, r2⟩ := trodAll_cons r1
  obtain ⟨hlast, rfl, _⟩ := trodAll_nil r2
  subst hlast
  subst hargs2
  subst hargs1
  obtain rfl : args = #[v0, v1, v2] := by cases args; simp_all
  obtain ⟨rfl, rfl⟩ := trodVars_none hV
  obtain ⟨sp0, sl0, sc0, sz0, rfl, hi0⟩ := open_list (P := Try.prog) Try.underlying42 Try.underlying3 (by kernel_rfl) (hval 0 42 v0 rfl rfl) h0
  obtain ⟨x1, rfl, hi1⟩ := open_num (P := Try.prog) Try.underlying2 (hval 1 2 v1 rfl rfl)
  obtain ⟨x2, rfl, hi2⟩ := open_num (P := Try.prog) Try.underlying2 (hval 2 2 v2 rfl rfl)
  exact (SkyLooks_any sp0 sl0 sc0 sz0 x1 x2 W hi0 hi1 hi2).mono fun e W' h => law_post laid_out (by rw [Try.params4]; intro t ht; simp only [List.mem_cons, List.not_mem_nil, or_false] at ht; rcases ht with rfl | rfl | rfl | rfl | rfl | rfl | rfl | rfl; all_goals exact ⟨by kernel_rfl, by decide +kernel⟩) rfl rfl Try.underlying4 hW' rfl h
/-- The statement. -/
theorem SkyLooks_holds : Rows.SkyLooksSaid :=
  OpenClaim.holds_of_wide 4 Try.f4 rfl rfl rfl rfl rfl rfl rfl ⟨rfl, rfl, rfl, rfl, rfl⟩ rfl rfl rfl rfl rfl (by kernel_rfl) Try.func4 (by kernel_rfl)
    (of_decide_eq_true (by kernel_rfl)) (by unfold Func.isWrapper; first | (rw [if_pos (by decide +kernel)]; kernel_rfl) | (rw [if_neg (by decide +kernel)]; exact ⟨rfl, rfl⟩))
    (fun os started H enc _ => SkyLooks_lifted os started H enc)
end Go.Proofs.Ytfflbiojcoehmab

/- SkyMoved: what a sight says does not change if the world is moved with its stations, and the place with it, nor if the direction is made longer. Condition: none beyond the statement's own. -/
import Derived.Test.YtfflbiojcoehmabMade
import Derived.Test.YtfflbiojcoehmabMvR
import Derived.Test.YtfflbiojcoehmabSkyU
import Derived.Test.YtfflbiojcoehmabLaw
namespace Go.Proofs.Ytfflbiojcoehmab
open Go.RowKit Go.Shelf Go.ChangeShapes Go.WideShapes Go.ChangeAt Go.Joins
attribute [local go_sem] Option.isSome_some Ext.cell Ext.frozen Ext.lt Ext.le Ext.lt_add Ext.le_add Ext.ne Ext.ne' lt2 lt3 lt4 lt5 le2 le3 le4
theorem around_any (x y u v : Int) (w : World) (hx : -200000 ≤ x ∧ x ≤ 200000) (hy : -200000 ≤ y ∧ y ≤ 200000) (hu : 0 ≤ u ∧ u ≤ 600) (hv : 0 ≤ v ∧ v ≤ 600) : Calls Try.prog 23 #[.agg #[.int .i64 x, .int .i64 y], .int .i64 u, .int .i64 v] w (Gives (.agg #[.int .i64 (x - u), .int .i64 (x + u), .int .i64 (y - v), .int .i64 (y + v)]) w) := by
  obtain ⟨a1, a2⟩ := hx
  obtain ⟨b1, b2⟩ := hy
  obtain ⟨c1, c2⟩ := hu
  obtain ⟨d1, d2⟩ := hv
  have ca := fun W => area_any (x - u) (x + u) (y - v) (y + v) W
  go_enter Try.func23, Try.ntmps23
  go_wp2_with (first | ((first | with_reducible refine wp_region_ext2 (by kernel_rfl) (by kernel_rfl) ?_ | with_reducible refine wp_region_ext (by kernel_rfl) (by kernel_rfl) ?_); (repeat (first | go_big_quiet_step ((first | (go_at_call 52; with_reducible exact Calls.ext (ca _)))) | quiet_step ((first | (go_at_call 52; with_reducible exact Calls.ext (ca _)))))); refine wpQuiet_nil ?_; rintro _ ⟨yr, rfl⟩; have syr := Ext.size yr; (repeat (first | rw [World.size_alloc] at syr | rw [World.size_setCell] at syr | rw [World.size_drew] at syr))) | (go_at_call 52; (first | with_reducible refine (Calls.giv2 (ca _)).mono ?_ | with_reducible refine (Calls.giv (ca _)).mono ?_); rintro _ _ ⟨y1, rfl, rfl⟩; have sy1 := Ext.size y1; (repeat (first | rw [World.size_alloc] at sy1 | rw [World.size_setCell] at sy1 | rw [World.size_drew] at sy1))))
  go_returns
  refine ⟨rfl, ?_⟩
  repeat' (first | (with_reducible exact Below.refl _ _) | (with_reducible assumption) | (with_reducible refine Ext.below _ ?_ ?_) | (with_reducible refine Below.on ?_ (by with_reducible assumption) ?_) | (with_reducible refine Below.alloc ?_ ?_ _) | (with_reducible refine Below.drew ?_) | (with_reducible refine Below.setCell ?_ ?_ _) | (with_reducible exact Nat.le_refl _) | omega | (simp; done) | (simp [go_sem]; done) | (simp at *; omega))
set_option maxRecDepth 100000 in
set_option maxHeartbeats 16000000 in
theorem SkyMoved_any (sp : Option Addr) (sl sc : Nat) (sz : Nat → Int) (dx dy gx gy gf : Int) (w : World) (hw : ListIn w sp sl sz) (h1 : I64 dx) (h2 : I64 dy) (h3 : I64 gx) (h4 : I64 gy) (h5 : I64 gf) : Calls Try.prog 5 #[.slice sp sl sc, .int .i64 dx, .int .i64 dy, .int .i64 gx, .int .i64 gy, .int .i64 gf] w (Gives (.bool true) w) := by
  have cm1 := fun W => Mod64_any dx 401 W h1 (by omega) (by omega)
  have cm2 := fun W => Mod64_any dy 401 W h2 (by omega) (by omega)
  have cm3 := fun W => Mod64_any gx 100000 W h3 (by omega) (by omega)
  have cm4 := fun W => Mod64_any gy 100000 W h4 (by omega) (by omega)
  have cf := fun (b : Int) (W : World) (q1 : 1 ≤ b) (q2 : b ≤ 4096) => Mod64_any gf b W h5 (by omega) (by omega)
  have ca := fun W => skyAwake_any W
  obtain ⟨mx, hmx⟩ : ∃ m, dx % 401 = m := ⟨_, rfl⟩
  obtain ⟨my, hmy⟩ : ∃ m, dy % 401 = m := ⟨_, rfl⟩
  obtain ⟨ux, hux⟩ : ∃ m, gx % 100000 = m := ⟨_, rfl⟩
  obtain ⟨uy, huy⟩ : ∃ m, gy % 100000 = m := ⟨_, rfl⟩
  have bx0 : 0 ≤ mx := by omega
  have bx1 : mx < 401 := by omega
  have by0 : 0 ≤ my := by omega
  have by1 : my < 401 := by omega
  have bu0 : 0 ≤ ux := by omega
  have bu1 : ux < 100000 := by omega
  have bv0 : 0 ≤ uy := by omega
  have bv1 : uy < 100000 := by omega
  rw [hmx] at cm1
  rw [hmy] at cm2
  rw [hux] at cm3
  rw [huy] at cm4
  clear hmx hmy hux huy h1 h2 h3 h4 h5
  go_enter Try.func5, Try.ntmps5
  go_wp2_with (first | ((first | with_reducible refine wp_region_ext2 (by kernel_rfl) (by kernel_rfl) ?_ | with_reducible refine wp_region_ext (by kernel_rfl) (by kernel_rfl) ?_); (repeat (first | go_big_quiet_step ((first | fail)) | quiet_step ((first | fail)))); refine wpQuiet_nil ?_; rintro _ ⟨yr, rfl⟩; have syr := Ext.size yr; (repeat (first | rw [World.size_alloc] at syr | rw [World.size_setCell] at syr | rw [World.size_drew] at syr))) | (go_at_call 19; refine (made_y sp sl sc sz _ hw).mono ?_; rintro _ W1 ⟨s, p, x, t, rfl, hb1, hsm, hAt, hp, hok, ht0, ht1⟩; unfold SkyR.val SightR.val; have hs1 := hb1.size))
  refine wp_named (fun W2 hW => ?_)
  have hY2 : Below W1.heap.size W1 W2 := by rw [← hW]; repeat' (first | (with_reducible exact Below.refl _ _) | (with_reducible assumption) | (with_reducible refine Ext.below _ ?_ ?_) | (with_reducible refine Below.on ?_ (by with_reducible assumption) ?_) | (with_reducible refine Below.alloc ?_ ?_ _) | (with_reducible refine Below.drew ?_) | (with_reducible refine Below.setCell ?_ ?_ _) | (with_reducible exact Nat.le_refl _) | omega | (simp; done) | (simp [go_sem]; done) | (simp at *; omega))
  have k0 : W2.cell? ⟨W1.heap.size, 0, none⟩ = some (.slice s.bp s.bodies.length s.bc) := by rw [← hW]; simp [go_sem]
  have k1 : W2.cell? ⟨W1.heap.size, 1, none⟩ = some (.int .i64 s.home) := by rw [← hW]; simp [go_sem]
  have k2 : W2.cell? ⟨W1.heap.size, 2, none⟩ = some (.slice s.sp s.sts.length s.sc) := by rw [← hW]; simp [go_sem]
  have k3 : W2.cell? ⟨W1.heap.size, 3, none⟩ = some (.slice s.cp s.cats.length s.cc) := by rw [← hW]; simp [go_sem]
  have p0 : W2.cell? ⟨W1.heap.size + 1, 0, none⟩ = some (.int .i64 p.x) := by rw [← hW]; simp [go_sem]
  have p1 : W2.cell? ⟨W1.heap.size + 1, 1, none⟩ = some (.int .i64 p.y) := by rw [← hW]; simp [go_sem]
  have x0 : W2.cell? ⟨W1.heap.size + 1 + 1, 0, none⟩ = some (.int .i64 x.kind) := by rw [← hW]; simp [go_sem]
  have x1 : W2.cell? ⟨W1.heap.size + 1 + 1, 1, none⟩ = some (.int .i64 x.st) := by rw [← hW]; simp [go_sem]
  have x2 : W2.cell? ⟨W1.heap.size + 1 + 1, 2, none⟩ = some (.int .i64 x.cat) := by rw [← hW]; simp [go_sem]
  have x3 : W2.cell? ⟨W1.heap.size + 1 + 1, 3, none⟩ = some (.int .i64 x.tick) := by rw [← hW]; simp [go_sem]
  have x4 : W2.cell? ⟨W1.heap.size + 1 + 1, 4, none⟩ = some (.int .i64 x.dir.x) := by rw [← hW]; simp [go_sem]
  have x5 : W2.cell? ⟨W1.heap.size + 1 + 1, 5, none⟩ = some (.int .i64 x.dir.y) := by rw [← hW]; simp [go_sem]
  have x6 : W2.cell? ⟨W1.heap.size + 1 + 1, 6, none⟩ = some (.int .i64 x.err) := by rw [← hW]; simp [go_sem]
  have x7 : W2.cell? ⟨W1.heap.size + 1 + 1, 7, none⟩ = some (.int .i64 x.lo) := by rw [← hW]; simp [go_sem]
  have x8 : W2.cell? ⟨W1.heap.size + 1 + 1, 8, none⟩ = some (.int .i64 x.hi) := by rw [← hW]; simp [go_sem]
  have l2 : W1.heap.size + 1 + 1 < W2.heap.size := by rw [← hW]; simp
  have l20 : W1.heap.size < W2.heap.size := by omega
  have l21 : W1.heap.size + 1 < W2.heap.size := by omega
  clear hW
  generalize hSB : W1.heap.size = SB at *
  have co := fun (W : World) (y : Below SB W1 W) => OwnSky_any s W (hAt.on (hSB ▸ y)) (by have := hsm.bl; omega) (fun b hb => by have := hsm.tl b hb; omega) (by have := hsm.sl.2; omega) (by have := hsm.cl.2; omega)
  have cE := fun (a b c d : Int) (W : World) (y : Below SB W1 W) => Excludes_any s x a b c d W (hAt.on (hSB ▸ y))
  have cA := fun (q : V2) (W : World) (y : Below SB W1 W) => Agrees_any s x q W (hAt.on (hSB ▸ y))
  have hfin : ∀ W, Below SB W1 W → Below w.heap.size w W := fun W y => hb1.trans (y.mono (by omega))
  unfold SkyR.val SightR.val at cE cA
  unfold SkyR.val at co
  replace hfin := Go.Lib.hid hfin
  replace hAt := Go.Lib.hid hAt
  replace cE := Go.Lib.hid cE
  replace cA := Go.Lib.hid cA
  obtain ⟨⟨px0, px1⟩, py0, py1⟩ := hp
  (apply wp_region_free1 13 16 43 #[.int .i64 0, .int .i64 0] #[.int .i64 (IntKind.i64.wrap (IntKind.i64.wrap (p.x + mx) - 200)), .int .i64 (IntKind.i64.wrap (IntKind.i64.wrap (p.y + my) - 200))] 33 (by kernel_rfl) (by kernel_rfl)); (case hal1 => (intro a' W' K hk; refine wpOp_step rfl (fun K' hK' => ?_); go_simp; exact hK' _ _ hk)); (case h => (intro z; have sz := z.size; (repeat (first | rw [World.size_alloc] at sz | rw [World.size_setCell] at sz | rw [World.size_drew] at sz)); have : SB < z.now.heap.size := (by omega); have : SB ≤ z.now.heap.size := (by omega); have : SB + 1 < z.now.heap.size := (by omega); have : SB + 1 ≤ z.now.heap.size := (by omega); have : SB + 1 + 1 < z.now.heap.size := (by omega); have : SB + 1 + 1 ≤ z.now.heap.size := (by omega); (repeat (first | go_big_quiet_step ((first | (go_at_call 20; with_reducible exact Calls.ext (cm1 _)) | (go_at_call 20; with_reducible exact Calls.ext (cm2 _)))) | quiet_step ((first | (go_at_call 20; with_reducible exact Calls.ext (cm1 _)) | (go_at_call 20; with_reducible exact Calls.ext (cm2 _)))))); exact wpQuiet_nil rfl)); (case hfs => exact Nat.le_of_ble_eq_true rfl); (case hs1 => (intro a' W' K O hp hx hg hk; refine wpOp_step rfl (fun K' hK' => ?_); refine (if_pos (by rfl)).mpr ?_; exact store_op 33 (.tmp 16) (.tmp 43) rfl O #[.int .i64 (IntKind.i64.wrap (IntKind.i64.wrap (p.x + mx) - 200)), .int .i64 (IntKind.i64.wrap (IntKind.i64.wrap (p.y + my) - 200))] hp (hx.trans rfl) 33 _ hg (by kernel_rfl) rfl (by simp [Value.oneCell']) (hK' _ _ hk))); intro yr BV gB1 gB2 gB3; have syr := yr.size; (repeat (first | rw [World.size_alloc] at syr | rw [World.size_setCell] at syr | rw [World.size_drew] at syr)); (repeat (first | rw [World.size_alloc] at gB1 | rw [World.size_setCell] at gB1 | rw [World.size_drew] at gB1)); have : SB < yr.now.heap.size := (by omega); have : SB ≤ yr.now.heap.size := (by omega); have : SB < yr.now.heap.size + 1 := (by omega); have : SB + 1 < yr.now.heap.size := (by omega); have : SB + 1 ≤ yr.now.heap.size := (by omega); have : SB + 1 < yr.now.heap.size + 1 := (by omega); have : SB + 1 + 1 < yr.now.heap.size := (by omega); have : SB + 1 + 1 ≤ yr.now.heap.size := (by omega); have : SB + 1 + 1 < yr.now.heap.size + 1 := (by omega); have kv0 := one_row yr gB3 0; have kv1 := one_row yr gB3 1; simp only [List.getElem?_toArray, List.getElem?_cons_zero, List.getElem?_cons_succ] at kv0 kv1; clear gB3
  have hY3 : Below SB W1 yr.now := hY2.trans (yr.grew.mono (by omega))
  replace k0 := (yr.cell l20).trans k0
  replace k1 := (yr.cell l20).trans k1
  replace k2 := (yr.cell l20).trans k2
  replace k3 := (yr.cell l20).trans k3
  replace x0 := (yr.cell l2).trans x0
  replace x1 := (yr.cell l2).trans x1
  replace x2 := (yr.cell l2).trans x2
  replace x3 := (yr.cell l2).trans x3
  replace x4 := (yr.cell l2).trans x4
  replace x5 := (yr.cell l2).trans x5
  replace x6 := (yr.cell l2).trans x6
  replace x7 := (yr.cell l2).trans x7
  replace x8 := (yr.cell l2).trans x8
  have l3 : SB + 1 + 1 < yr.now.heap.size := by omega
  have l30 : SB < yr.now.heap.size := by omega
  have hBV1 : BV < yr.now.heap.size := by omega
  obtain ⟨cx, hcx⟩ : ∃ q, p.x + mx - 200 = q := ⟨_, rfl⟩
  obtain ⟨cy, hcy⟩ : ∃ q, p.y + my - 200 = q := ⟨_, rfl⟩
  have wx1 : IntKind.i64.wrap (p.x + mx) = p.x + mx := IntWalk.i64_in _ (by omega)
  have wy1 : IntKind.i64.wrap (p.y + my) = p.y + my := IntWalk.i64_in _ (by omega)
  have wx3 : IntKind.i64.wrap cx = cx := IntWalk.i64_in _ (by omega)
  have wy3 : IntKind.i64.wrap cy = cy := IntWalk.i64_in _ (by omega)
  simp only [wx1, wx3, wy1, wy3, hcx, hcy] at kv0 kv1 ⊢
  have bcx : -5000 ≤ cx ∧ cx ≤ 5000 := by omega
  have bcy : -5000 ≤ cy ∧ cy ≤ 5000 := by omega
  clear hcx hcy wx1 wy1 wx3 wy3 hY2 l2 l20 l21 p0 p1 cm1 cm2
  clear gB1 gB2 syr
  generalize BV = QB at *
  generalize yr.now = W3 at *
  have l33 : QB < W3.heap.size := hBV1
  go_wp2_with (first | ((first | with_reducible refine wp_region_ext2 (by kernel_rfl) (by kernel_rfl) ?_ | with_reducible refine wp_region_ext (by kernel_rfl) (by kernel_rfl) ?_); (repeat (first | go_big_quiet_step ((first | (go_at_call 20; with_reducible exact Calls.ext (cm3 _)) | (go_at_call 20; with_reducible exact Calls.ext (cm4 _)))) | quiet_step ((first | (go_at_call 20; with_reducible exact Calls.ext (cm3 _)) | (go_at_call 20; with_reducible exact Calls.ext (cm4 _)))))); refine wpQuiet_nil ?_; rintro _ ⟨yr, rfl⟩; have syr := Ext.size yr; (repeat (first | rw [World.size_alloc] at syr | rw [World.size_setCell] at syr | rw [World.size_drew] at syr)); have : SB < yr.now.heap.size := (by omega); have : SB ≤ yr.now.heap.size := (by omega); have : SB < yr.now.heap.size + 1 + 1 := (by omega); have : SB + 1 < yr.now.heap.size := (by omega); have : SB + 1 ≤ yr.now.heap.size := (by omega); have : SB + 1 < yr.now.heap.size + 1 + 1 := (by omega); have : SB + 1 + 1 < yr.now.heap.size := (by omega); have : SB + 1 + 1 ≤ yr.now.heap.size := (by omega); have : SB + 1 + 1 < yr.now.heap.size + 1 + 1 := (by omega); have : QB < yr.now.heap.size := (by omega); have : QB ≤ yr.now.heap.size := (by omega); have : QB < yr.now.heap.size + 1 + 1 := (by omega)) | (go_at_call 20; (first | with_reducible refine (Calls.giv2 (cm3 _)).mono ?_ | with_reducible refine (Calls.giv (cm3 _)).mono ?_); rintro _ _ ⟨y1, rfl, rfl⟩; have sy1 := Ext.size y1; (repeat (first | rw [World.size_alloc] at sy1 | rw [World.size_setCell] at sy1 | rw [World.size_drew] at sy1)); have : SB < y1.now.heap.size := (by omega); have : SB ≤ y1.now.heap.size := (by omega); have : SB < y1.now.heap.size + 1 + 1 := (by omega); have : SB + 1 < y1.now.heap.size := (by omega); have : SB + 1 ≤ y1.now.heap.size := (by omega); have : SB + 1 < y1.now.heap.size + 1 + 1 := (by omega); have : SB + 1 + 1 < y1.now.heap.size := (by omega); have : SB + 1 + 1 ≤ y1.now.heap.size := (by omega); have : SB + 1 + 1 < y1.now.heap.size + 1 + 1 := (by omega); have : QB < y1.now.heap.size := (by omega); have : QB ≤ y1.now.heap.size := (by omega); have : QB < y1.now.heap.size + 1 + 1 := (by omega)) | (go_at_call 20; (first | with_reducible refine (Calls.giv2 (cm4 _)).mono ?_ | with_reducible refine (Calls.giv (cm4 _)).mono ?_); rintro _ _ ⟨y2, rfl, rfl⟩; have sy2 := Ext.size y2; (repeat (first | rw [World.size_alloc] at sy2 | rw [World.size_setCell] at sy2 | rw [World.size_drew] at sy2)); have : SB < y2.now.heap.size := (by omega); have : SB ≤ y2.now.heap.size := (by omega); have : SB < y2.now.heap.size + 1 + 1 := (by omega); have : SB + 1 < y2.now.heap.size := (by omega); have : SB + 1 ≤ y2.now.heap.size := (by omega); have : SB + 1 < y2.now.heap.size + 1 + 1 := (by omega); have : SB + 1 + 1 < y2.now.heap.size := (by omega); have : SB + 1 + 1 ≤ y2.now.heap.size := (by omega); have : SB + 1 + 1 < y2.now.heap.size + 1 + 1 := (by omega); have : QB < y2.now.heap.size := (by omega); have : QB ≤ y2.now.heap.size := (by omega); have : QB < y2.now.heap.size + 1 + 1 := (by omega)))
  refine wp_named (fun W4 hW => ?_)
  have hZ : Below W3.heap.size W3 W4 := by rw [← hW]; repeat' (first | (with_reducible exact Below.refl _ _) | (with_reducible assumption) | (with_reducible refine Ext.below _ ?_ ?_) | (with_reducible refine Below.on ?_ (by with_reducible assumption) ?_) | (with_reducible refine Below.alloc ?_ ?_ _) | (with_reducible refine Below.drew ?_) | (with_reducible refine Below.setCell ?_ ?_ _) | (with_reducible exact Nat.le_refl _) | omega | (simp; done) | (simp [go_sem]; done) | (simp at *; omega))
  have hY4 : Below SB W1 W4 := Below.on hY3 hZ (by omega)
  clear hW
  have s34 := hZ.size
  have l4 : SB + 1 + 1 < W4.heap.size := by omega
  have l40 : SB < W4.heap.size := by omega
  have l4q : QB < W4.heap.size := by omega
  replace k0 := (hZ.cell (p := ⟨SB, 0, none⟩) l30).trans k0
  replace k1 := (hZ.cell (p := ⟨SB, 1, none⟩) l30).trans k1
  replace k2 := (hZ.cell (p := ⟨SB, 2, none⟩) l30).trans k2
  replace k3 := (hZ.cell (p := ⟨SB, 3, none⟩) l30).trans k3
  replace x0 := (hZ.cell (p := ⟨SB + 1 + 1, 0, none⟩) l3).trans x0
  replace x1 := (hZ.cell (p := ⟨SB + 1 + 1, 1, none⟩) l3).trans x1
  replace x2 := (hZ.cell (p := ⟨SB + 1 + 1, 2, none⟩) l3).trans x2
  replace x3 := (hZ.cell (p := ⟨SB + 1 + 1, 3, none⟩) l3).trans x3
  replace x4 := (hZ.cell (p := ⟨SB + 1 + 1, 4, none⟩) l3).trans x4
  replace x5 := (hZ.cell (p := ⟨SB + 1 + 1, 5, none⟩) l3).trans x5
  replace x6 := (hZ.cell (p := ⟨SB + 1 + 1, 6, none⟩) l3).trans x6
  replace x7 := (hZ.cell (p := ⟨SB + 1 + 1, 7, none⟩) l3).trans x7
  replace x8 := (hZ.cell (p := ⟨SB + 1 + 1, 8, none⟩) l3).trans x8
  replace kv0 := (hZ.cell (p := ⟨QB, 0, none⟩) l33).trans kv0
  replace kv1 := (hZ.cell (p := ⟨QB, 1, none⟩) l33).trans kv1
  refine wp_tell (OwnTold s x) ?_ ?_
  focus
    clear hsm hok hfin ca cf hb1 hAt hY3 hZ
    repeat (rename_i zz; clear zz)
    refine region_dep (by kernel_rfl) ownDeps (by kernel_rfl) (OwnInv s x) ?h0 ?hstep ?hend
    case h0 =>
      refine ⟨?z0, ?z1, ?z2, ?z3, ?z4, ?fr, (Below.refl _ _).drew, by simp, by simp, by simp, by simp, by simp, by simp, by simp, by simp, by simp⟩
      case fr =>
        simp only [sets, List.foldl_cons, List.foldl_nil, List.set_cons_succ, List.set_cons_zero]
        rfl
    case hend =>
      rintro l' fr W hl hall ⟨s17, s18, s48, s49, s50, rfl, hB, g, g53, g64, g51, f0, f1, f2, f3, f4⟩
      obtain ⟨b0, b1, b2, b3, b4, b5, b6, rfl⟩ := list7 hl
      simp only [List.all_cons, id, Bool.and_eq_true] at hall
      obtain ⟨rfl, rfl, rfl, rfl, rfl, rfl, rfl, -⟩ := hall
      obtain ⟨s', base, W1, e1, e2, e3, e4, e5, e6, e7⟩ := f1 rfl
      obtain ⟨TB, rfl, h1, h2, cs, h3, h4, h5⟩ := f3 rfl
      obtain ⟨YB, rfl, j1, j2, cs', j3, j4, j5⟩ := f4 rfl
      obtain rfl := j5 rfl
      have h6 := e1.symm.trans (h5 rfl)
      injection h6 with h6
      subst h6
      exact ⟨rfl, TB, YB, base, s', ⟨W, hB⟩, by kernel_rfl, rfl, e3, e2.same e5, e2.blocks (e6 rfl TB rfl), e2.blocks (e7 rfl YB rfl), fun e => g rfl rfl (by rw [e]), h1, j1, h2, j2, h4, j4⟩
    case hstep =>
      rintro l' fr W ii hl ⟨s17, s18, s48, s49, s50, rfl, hB, g, g53, g64, g51, f0, f1, f2, f3, f4⟩ hr hi
      obtain ⟨b0, b1, b2, b3, b4, b5, b6, rfl⟩ := list7 hl
      have sW := hB.size
      replace k0 := (hB.cell (p := ⟨SB, 0, none⟩) l40).trans k0
      replace k1 := (hB.cell (p := ⟨SB, 1, none⟩) l40).trans k1
      replace k2 := (hB.cell (p := ⟨SB, 2, none⟩) l40).trans k2
      replace k3 := (hB.cell (p := ⟨SB, 3, none⟩) l40).trans k3
      replace x0 := (hB.cell (p := ⟨SB + 1 + 1, 0, none⟩) l4).trans x0
      replace x1 := (hB.cell (p := ⟨SB + 1 + 1, 1, none⟩) l4).trans x1
      replace x2 := (hB.cell (p := ⟨SB + 1 + 1, 2, none⟩) l4).trans x2
      replace x3 := (hB.cell (p := ⟨SB + 1 + 1, 3, none⟩) l4).trans x3
      replace x4 := (hB.cell (p := ⟨SB + 1 + 1, 4, none⟩) l4).trans x4
      replace x5 := (hB.cell (p := ⟨SB + 1 + 1, 5, none⟩) l4).trans x5
      replace x6 := (hB.cell (p := ⟨SB + 1 + 1, 6, none⟩) l4).trans x6
      replace x7 := (hB.cell (p := ⟨SB + 1 + 1, 7, none⟩) l4).trans x7
      replace x8 := (hB.cell (p := ⟨SB + 1 + 1, 8, none⟩) l4).trans x8
      simp only [List.getD_cons_zero, List.getD_cons_succ] at g g53 g64 g51 f0 f1 f2 f3 f4
      replace hB := Go.Lib.hid hB
      replace hi := Go.Lib.hid hi
      replace g := Go.Lib.hid g
      replace g53 := Go.Lib.hid g53
      replace g64 := Go.Lib.hid g64
      replace g51 := Go.Lib.hid g51
      replace f0 := Go.Lib.hid f0
      replace f1 := Go.Lib.hid f1
      replace f2 := Go.Lib.hid f2
      replace f3 := Go.Lib.hid f3
      replace f4 := Go.Lib.hid f4
      rcases ii with _ | _ | _ | _ | _ | _ | _ | ii
      · refine wpOp_step rfl (fun K hK => ?_)
        simp only [sets, List.foldl_cons, List.foldl_nil, List.set_cons_succ, List.set_cons_zero]
        go_simp
        exact hK _ _ ⟨s17, s18, (.agg #[.slice s.bp s.bodies.length s.bc, .int .i64 s.home, .slice s.sp s.sts.length s.sc, .slice s.cp s.cats.length s.cc]), s49, s50, by kernel_rfl, hB.out, g.out, g53.out, g64.out, g51.out, fun _ => rfl, f1.out, f2.out, f3.out, f4.out⟩
      · simp only [ownDeps, List.getD_cons_zero, List.getD_cons_succ, List.all_cons, List.all_nil, Bool.and_true] at hr
        have hd0 := hr
        obtain rfl := f0.out hd0
        refine wpOp_step rfl (fun K hK => ?_)
        simp only [sets, List.foldl_cons, List.foldl_nil, List.set_cons_succ, List.set_cons_zero]
        go_simp
        refine (co W (Below.on hY4 hB.out (by omega))).mono ?_
        rintro _ W1 ⟨hb1, s', rfl, hO⟩
        unfold SkyR.val
        have s01 := hb1.size
        exact hK _ _ ⟨s17, s18, (.agg #[.slice s.bp s.bodies.length s.bc, .int .i64 s.home, .slice s.sp s.sts.length s.sc, .slice s.cp s.cats.length s.cc]), (.agg #[.slice s'.bp s'.bodies.length s'.bc, .int .i64 s'.home, .slice s'.sp s'.sts.length s'.sc, .slice s'.cp s'.cats.length s'.cc]), s50, by kernel_rfl, Below.on hB.out hb1 sW, g.out, g53.out, g64.out, fun _ => rfl, fun _ => rfl, fun _ => ⟨s', W.heap.size, W1, rfl, hO, sW, Nat.le_refl _, fun _ _ _ => rfl, fun h B e => by
                obtain ⟨b, e1, e2, e3, -⟩ := f3.out h
                rw [e1] at e; injection e with e; injection e with e; injection e with e; omega, fun h B e => by
                obtain ⟨b, e1, e2, e3, -⟩ := f4.out h
                rw [e1] at e; injection e with e; injection e with e; injection e with e; omega⟩, f2.out, fun h => by
                obtain ⟨b, e1, e2, e3, cs, e4, e5, e6⟩ := f3.out h
                exact ⟨b, e1, e2, by omega, cs, e4, (hb1.block b e3).trans e5, fun h => by
                have h2 := g51.out h
                have hi := hi.out
                simp only [List.getElem?_cons_zero, List.getElem?_cons_succ, Option.some.injEq] at hi
                rw [hi] at h2; cases h2⟩, fun h => by
                obtain ⟨b, e1, e2, e3, cs, e4, e5, e6⟩ := f4.out h
                exact ⟨b, e1, e2, by omega, cs, e4, (hb1.block b e3).trans e5, e6⟩⟩
      · refine wpOp_step rfl (fun K hK => ?_)
        simp only [sets, List.foldl_cons, List.foldl_nil, List.set_cons_succ, List.set_cons_zero]
        go_simp
        exact hK _ _ ⟨s17, s18, s48, s49, (.agg #[.int .i64 x.kind, .int .i64 x.st, .int .i64 x.cat, .int .i64 x.tick, .int .i64 x.dir.x, .int .i64 x.dir.y, .int .i64 x.err, .int .i64 x.lo, .int .i64 x.hi]), by kernel_rfl, hB.out, g.out, g53.out, g64.out, g51.out, f0.out, f1.out, fun _ => rfl, f3.out, f4.out⟩
      · refine wpOp_step rfl (fun K hK => ?_)
        simp only [sets, List.foldl_cons, List.foldl_nil, List.set_cons_succ, List.set_cons_zero]
        go_simp
        exact hK _ _ ⟨.pointer (some ⟨W.heap.size, 0, none⟩), s18, s48, s49, s50, by kernel_rfl, hB.out.alloc sW _, fun _ h => by
                obtain ⟨b, e1, e2, e3, -⟩ := f4.out h
                rw [e1]; intro e; injection e with e; injection e with e; injection e with e; omega, fun _ => rfl, g64.out, g51.out, f0.out, fun h => by
                obtain ⟨s', b0, W1, e1, e2, e3, e4, e5, e6, e7⟩ := f1.out h
                exact ⟨s', b0, W1, e1, e2, e3, by simp only [World.size_alloc]; omega, fun B h1 h2 => (heap_alloc_old _ _ (by omega)).trans (e5 B h1 h2), fun _ B e => .inr (by injection e with e; injection e with e; injection e with e; omega), e7⟩, f2.out, fun _ => ⟨W.heap.size, rfl, sW, by simp, _, by rfl, heap_alloc_new _ _, fun h => by
                have h2 := g53.out h
                have hi := hi.out
                simp only [List.getElem?_cons_zero, List.getElem?_cons_succ, Option.some.injEq] at hi
                rw [hi] at h2; cases h2⟩, fun h => by
                obtain ⟨b, e1, e2, e3, cs, e4, e5, e6⟩ := f4.out h
                exact ⟨b, e1, e2, by simp only [World.size_alloc]; omega, cs, e4, (heap_alloc_old _ _ e3).trans e5, e6⟩⟩
      · refine wpOp_step rfl (fun K hK => ?_)
        simp only [sets, List.foldl_cons, List.foldl_nil, List.set_cons_succ, List.set_cons_zero]
        go_simp
        exact hK _ _ ⟨s17, .pointer (some ⟨W.heap.size, 0, none⟩), s48, s49, s50, by kernel_rfl, hB.out.alloc sW _, fun h _ => by
                obtain ⟨b, e1, e2, e3, -⟩ := f3.out h
                rw [e1]; intro e; injection e with e; injection e with e; injection e with e; omega, g53.out, fun _ => rfl, g51.out, f0.out, fun h => by
                obtain ⟨s', b0, W1, e1, e2, e3, e4, e5, e6, e7⟩ := f1.out h
                exact ⟨s', b0, W1, e1, e2, e3, by simp only [World.size_alloc]; omega, fun B h1 h2 => (heap_alloc_old _ _ (by omega)).trans (e5 B h1 h2), e6, fun _ B e => .inr (by injection e with e; injection e with e; injection e with e; omega)⟩, f2.out, fun h => by
                obtain ⟨b, e1, e2, e3, cs, e4, e5, e6⟩ := f3.out h
                exact ⟨b, e1, e2, by simp only [World.size_alloc]; omega, cs, e4, (heap_alloc_old _ _ e3).trans e5, e6⟩, fun _ => ⟨W.heap.size, rfl, sW, by simp, _, by rfl, heap_alloc_new _ _, fun h => by
                have h2 := g64.out h
                have hi := hi.out
                simp only [List.getElem?_cons_zero, List.getElem?_cons_succ, Option.some.injEq] at hi
                rw [hi] at h2; cases h2⟩⟩
      · simp only [ownDeps, List.getD_cons_zero, List.getD_cons_succ, List.all_cons, List.all_nil, Bool.and_true, Bool.and_eq_true] at hr
        obtain ⟨hd3, hd1⟩ := hr
        obtain ⟨s', bs, W1, rfl, e2, e3, e4, e5, e6, e7⟩ := f1.out hd1
        obtain ⟨b, rfl, h2, h3, cs, h4, h5, h6⟩ := f3.out hd3
        refine wpOp_step rfl (fun K hK => ?_)
        simp only [sets, List.foldl_cons, List.foldl_nil, List.set_cons_succ, List.set_cons_zero]
        refine (if_pos (by rfl)).mpr ?_
        refine store_op 28 (.tmp 17) (.tmp 49) rfl b #[.slice s'.bp s'.bodies.length s'.bc, .int .i64 s'.home, .slice s'.sp s'.sts.length s'.sc, .slice s'.cp s'.cats.length s'.cc] rfl rfl 28 cs h5 (by kernel_rfl) (by rw [h4]; rfl) (by simp [Value.oneCell']) ?_
        have hne : ∀ B, bs ≤ B → B < W1.heap.size → B ≠ b := fun B q1 q2 => by have := e6 hd3 b rfl; omega
        exact hK _ _ ⟨.pointer (some ⟨b, 0, none⟩), s18, s48, (.agg #[.slice s'.bp s'.bodies.length s'.bc, .int .i64 s'.home, .slice s'.sp s'.sts.length s'.sc, .slice s'.cp s'.cats.length s'.cc]), s50, by kernel_rfl, below_setRow hB.out h2 _, g.out, fun _ => hd3, g64.out, fun _ => hd1, f0.out, fun _ => ⟨s', bs, W1, rfl, e2, e3, by simpa using e4, fun B q1 q2 => (setRow_other W b B _ (hne B q1 q2)).trans (e5 B q1 q2), e6, e7⟩, f2.out, fun _ => ⟨b, rfl, h2, by simpa using h3, #[.slice s'.bp s'.bodies.length s'.bc, .int .i64 s'.home, .slice s'.sp s'.sts.length s'.sc, .slice s'.cp s'.cats.length s'.cc], rfl, setRow_heap W b cs #[.slice s'.bp s'.bodies.length s'.bc, .int .i64 s'.home, .slice s'.sp s'.sts.length s'.sc, .slice s'.cp s'.cats.length s'.cc] 28 (0, 0) h5, fun _ => rfl⟩, fun h => by
                obtain ⟨b', q1, q2, q3, cs', q4, q5, q6⟩ := f4.out h
                have hne : b' ≠ b := fun e => g.out hd3 h (by rw [q1, e])
                exact ⟨b', q1, q2, by simpa using q3, cs', q4, (setRow_other W b b' _ hne).trans q5, q6⟩⟩
      · simp only [ownDeps, List.getD_cons_zero, List.getD_cons_succ, List.all_cons, List.all_nil, Bool.and_true, Bool.and_eq_true] at hr
        obtain ⟨hd4, hd2, hd5⟩ := hr
        obtain rfl := f2.out hd2
        obtain ⟨b, rfl, h2, h3, cs, h4, h5, h6⟩ := f4.out hd4
        refine wpOp_step rfl (fun K hK => ?_)
        simp only [sets, List.foldl_cons, List.foldl_nil, List.set_cons_succ, List.set_cons_zero]
        refine (if_pos (by rfl)).mpr ?_
        refine store_op 44 (.tmp 18) (.tmp 50) rfl b #[.int .i64 x.kind, .int .i64 x.st, .int .i64 x.cat, .int .i64 x.tick, .int .i64 x.dir.x, .int .i64 x.dir.y, .int .i64 x.err, .int .i64 x.lo, .int .i64 x.hi] rfl rfl 44 cs h5 (by kernel_rfl) (by rw [h4]; rfl) (by simp [Value.oneCell']) ?_
        exact hK _ _ ⟨s17, .pointer (some ⟨b, 0, none⟩), s48, s49, (.agg #[.int .i64 x.kind, .int .i64 x.st, .int .i64 x.cat, .int .i64 x.tick, .int .i64 x.dir.x, .int .i64 x.dir.y, .int .i64 x.err, .int .i64 x.lo, .int .i64 x.hi]), by kernel_rfl, below_setRow hB.out h2 _, g.out, g53.out, fun _ => hd4, g51.out, f0.out, fun h => by
                obtain ⟨s', bs, W1, e1, e2, e3, e4, e5, e6, e7⟩ := f1.out h
                exact ⟨s', bs, W1, e1, e2, e3, by simpa using e4, fun B q1 q2 => (setRow_other W b B _ (fun e => by have := e7 hd4 b rfl; omega)).trans (e5 B q1 q2), e6, e7⟩, f2.out, fun h => by
                obtain ⟨b', q1, q2, q3, cs', q4, q5, q6⟩ := f3.out h
                have hne : b' ≠ b := fun e => g.out h hd4 (by rw [q1, e])
                exact ⟨b', q1, q2, by simpa using q3, cs', q4, (setRow_other W b b' _ hne).trans q5, q6⟩, fun _ => ⟨b, rfl, h2, by simpa using h3, #[.int .i64 x.kind, .int .i64 x.st, .int .i64 x.cat, .int .i64 x.tick, .int .i64 x.dir.x, .int .i64 x.dir.y, .int .i64 x.err, .int .i64 x.lo, .int .i64 x.hi], rfl, setRow_heap W b cs #[.int .i64 x.kind, .int .i64 x.st, .int .i64 x.cat, .int .i64 x.tick, .int .i64 x.dir.x, .int .i64 x.dir.y, .int .i64 x.err, .int .i64 x.lo, .int .i64 x.hi] 44 (0, 0) h5, fun _ => rfl⟩⟩
      · have hi := hi.out; simp at hi
  rintro a' W5' ⟨TB, YB, base, s', y, ha4, rfl, hbase, hO, nT, nY, hTY, t1, t2, t3, t4, hT, hYr⟩
  generalize a'.tmps.getD 48 undef = s48 at ha4
  generalize a'.tmps.getD 49 undef = s49 at ha4
  generalize a'.tmps.getD 50 undef = s50 at ha4
  subst ha4
  simp only [sets, List.foldl_cons, List.foldl_nil, List.set_cons_succ, List.set_cons_zero]
  have hY5 : Below SB W1 y.now := Below.on hY4 y.grew (by omega)
  have s45 := y.size
  replace k0 := (y.cell l40).trans k0
  replace k1 := (y.cell l40).trans k1
  replace k2 := (y.cell l40).trans k2
  replace k3 := (y.cell l40).trans k3
  replace x0 := (y.cell l4).trans x0
  replace x1 := (y.cell l4).trans x1
  replace x2 := (y.cell l4).trans x2
  replace x3 := (y.cell l4).trans x3
  replace x4 := (y.cell l4).trans x4
  replace x5 := (y.cell l4).trans x5
  replace x6 := (y.cell l4).trans x6
  replace x7 := (y.cell l4).trans x7
  replace x8 := (y.cell l4).trans x8
  replace kv0 := (y.cell l4q).trans kv0
  replace kv1 := (y.cell l4q).trans kv1
  have c0 := cell_of_row y.now TB 0 _ _ _ hT
  have c1 := cell_of_row y.now TB 1 _ _ _ hT
  have c2 := cell_of_row y.now TB 2 _ _ _ hT
  have c3 := cell_of_row y.now TB 3 _ _ _ hT
  have e0 := cell_of_row y.now YB 0 _ _ _ hYr
  have e1 := cell_of_row y.now YB 1 _ _ _ hYr
  have e2 := cell_of_row y.now YB 2 _ _ _ hYr
  have e3 := cell_of_row y.now YB 3 _ _ _ hYr
  have e4 := cell_of_row y.now YB 4 _ _ _ hYr
  have e5 := cell_of_row y.now YB 5 _ _ _ hYr
  have e6 := cell_of_row y.now YB 6 _ _ _ hYr
  have e7 := cell_of_row y.now YB 7 _ _ _ hYr
  have e8 := cell_of_row y.now YB 8 _ _ _ hYr
  have ef4 := frozen_of_row y.now YB 4 _ _ hYr
  have ef5 := frozen_of_row y.now YB 5 _ _ hYr
  simp only [List.getElem?_toArray, List.getElem?_cons_zero, List.getElem?_cons_succ] at c0 c1 c2 c3 e0 e1 e2 e3 e4 e5 e6 e7 e8
  have l5 : SB + 1 + 1 < y.now.heap.size := by omega
  have l50 : SB < y.now.heap.size := by omega
  have l5q : QB < y.now.heap.size := by omega
  have hYr := Go.Lib.hid hYr
  clear hT hY3 hZ l3 l30 l33 s34
  generalize y.now = W5 at *
  clear y
  have hst0 : MvSt W1 W5 W5 base s'.bodies ux uy 0 0 := MvSt.start hO.wd.r.t (hSB ▸ hY5)
  have hO := Go.Lib.hid hO
  have nT := Go.Lib.hid nT
  have nY := Go.Lib.hid nY
  obtain ⟨n, hn⟩ : ∃ n, s'.bodies.length = n := ⟨_, rfl⟩
  rw [hn] at c0
  replace hn := Go.Lib.hid hn
  obtain ⟨hk0, hk1, hk2, hk3, hkq⟩ : Hid (SB < base) ∧ Hid (SB + 1 + 1 < base) ∧ Hid (QB < base) ∧ Hid (SB ≤ base) ∧ True := ⟨Go.Lib.hid (by omega), Go.Lib.hid (by omega), Go.Lib.hid (by omega), Go.Lib.hid (by omega), trivial⟩
  have hn3 : n ≤ 3 := by have := hsm.bl; rw [← hn.out, bare_len hO.out.wd.e]; exact this
  go_wp2_with fail
  go_loopw [19] (fun u W' => ∃ (i : Nat) (W : World), u = .int .i64 i ∧ W = W' ∧ Hid (MvSt W1 W5 W base s'.bodies ux uy i 0) ∧ Hid (i ≤ n)) (fun u _ => n - (intOf u).toNat)
  case atStart => exact ⟨0, _, rfl, rfl, Go.Lib.hid hst0, Go.Lib.hid (Nat.zero_le _)⟩
  case round =>
    obtain ⟨i, W, rfl, rfl, hst, hi⟩ := hrel
    have zs := hst.out.size
    have tb0 : W.cell? ⟨TB, 0, none⟩ = some (.slice s'.bp n s'.bc) := (World.cell?_of_block (a := ⟨TB, 0, none⟩) (hst.out.keep TB t3 nT.out)).trans c0
    have : TB < W.heap.size := by omega
    by_cases hlt : i < n
    · have hlt2 : (i : Int) < n := by omega
      have hlt3 : i < s'.bodies.length := by rw [hn.out]; exact hlt
      obtain ⟨-, B, o, hbp, hB, r1, r2, r3⟩ := hO.out.at.bs i hlt3
      rw [hbp] at tb0
      have r4 := (World.cell?_of_block (a := ⟨B, o + i * 3 + 2, none⟩) (hst.out.keep B hB (fun b hb => hO.out.apartB hbp b hb))).trans r3
      clear r1 r2 r3
      have : B < (W).heap.size := (by omega); have : B < (W).heap.size + 1 := (by omega); have : B < (W).heap.size + 1 + 1 := (by omega); have : B ≠ (W).heap.size := (by omega); have : B ≠ (W).heap.size + 1 := (by omega)
      obtain ⟨g, hg⟩ := hO.out.wd.a.1 _ (List.getElem_mem hlt3)
      obtain ⟨len, hlen⟩ : ∃ m, s'.bodies[i].track.length = m := ⟨_, rfl⟩
      obtain ⟨tc, htc⟩ : ∃ m, s'.bodies[i].tc = m := ⟨_, rfl⟩
      rw [hg, hlen, htc] at r4
      have hl4 : len ≤ 4 := by rw [← hlen]; exact (hO.out.small hsm hlt3).1
      replace hlen := Go.Lib.hid hlen
      clear htc
      go_wp2_with fail
      go_loopw [21] (fun u W' => ∃ (k : Nat) (W2 : World), u = .int .i64 k ∧ W2 = W' ∧ Hid (MvSt W1 W5 W2 base s'.bodies ux uy i k) ∧ Hid (k ≤ len)) (fun u _ => len - (intOf u).toNat)
      case atStart => exact ⟨0, _, rfl, rfl, hst, Go.Lib.hid (Nat.zero_le _)⟩
      case round =>
        obtain ⟨k, W2, rfl, rfl, hst2, hk⟩ := hrel
        have zs2 := hst2.out.size
        by_cases hkt : k < len
        · have hkt2 : (k : Int) < len := by omega
          have hkt3 : k < s'.bodies[i].track.length := by rw [hlen.out]; exact hkt
          obtain ⟨v1, v2, v3, v4, hgb, hgs⟩ := hst2.out.read hlt3 hkt3 hg
          have hbnd := (hO.out.small hsm hlt3).2 _ (List.getElem_mem hkt3)
          have hnx := fun (X : Ext W2) => MvSt.step (hst2.out.ext (by omega) X) hO.out.wd.a hlt3 hkt3 hg (by omega)
          obtain ⟨vx, hvx⟩ : ∃ v, s'.bodies[i].track[k].x = v := ⟨_, rfl⟩
          obtain ⟨vy, hvy⟩ : ∃ v, s'.bodies[i].track[k].y = v := ⟨_, rfl⟩
          rw [hvx] at v1 hbnd hnx
          rw [hvy] at v2 hbnd hnx
          replace hnx := Go.Lib.hid hnx
          clear hvx hvy
          have wx : IntKind.i64.wrap (vx + ux) = vx + ux := IntWalk.i64_in _ (by omega)
          have wy : IntKind.i64.wrap (vy + uy) = vy + uy := IntWalk.i64_in _ (by omega)
          go_wp2_with fail
          (first | with_reducible refine wp_region_ext2_heads 18 (by kernel_rfl) (by kernel_rfl) ?_ | with_reducible refine wp_region_ext_heads 18 (by kernel_rfl) (by kernel_rfl) ?_); simp only [List.take_succ_cons, List.take_zero, List.length_cons, List.length_nil, Nat.reduceAdd, Nat.reduceSub]; (repeat (first | go_big_quiet_step ((first | (with_reducible exact Calls.ext (fail)))) | quiet_step ((first | (with_reducible exact Calls.ext (fail)))))); refine wpQuiet_nil ?_; rintro _ ⟨yr, rfl⟩; have syr := Ext.size yr; (repeat (first | rw [World.size_alloc] at syr | rw [World.size_setCell] at syr | rw [World.size_drew] at syr)); (refine wpAny_ready (rs := [18]) (by kernel_rfl) (by simp) ?_; refine AllReady.cons rfl (fun K hK => ?_) AllReady.nil; go_simp; refine hK _ _ ?_; clear hK K); refine wpAny_done (by kernel_rfl) ?_ _
          go_wp2_with fail
          refine ⟨⟨k + 1, _, by simp, rfl, Go.Lib.hid ?_, Go.Lib.hid hkt⟩, by simp [intOf]; omega⟩
          exact hnx.out yr
        · have hge : ¬ (k : Int) < len := by omega
          have hkl : k = s'.bodies[i].track.length := by have := hk.out; rw [hlen.out]; omega
          replace hkl := Go.Lib.hid hkl
          go_wp2_with fail
          exact ⟨⟨i + 1, _, by simp, rfl, Go.Lib.hid (hst2.out.next hlt3 hkl.out), Go.Lib.hid hlt⟩, by simp [intOf]; omega⟩
    · have hge : ¬ (i : Int) < n := by omega
      have hin : i = s'.bodies.length := by have := hi.out; rw [hn.out]; omega
      have hst' := hst.out
      rw [hin] at hst'
      replace hin := Go.Lib.hid hin
      replace hst' := Go.Lib.hid hst'
      have hSBn := hO.out.blocks (B := SB) (.inl hk0.out)
      have hXBn := hO.out.blocks (B := SB + 1 + 1) (.inl hk1.out)
      have hQBn := hO.out.blocks (B := QB) (.inl hk2.out)
      replace k0 := (World.cell?_of_block (a := ⟨SB, 0, none⟩) (hst.out.keep SB l50 hSBn)).trans k0
      replace k1 := (World.cell?_of_block (a := ⟨SB, 1, none⟩) (hst.out.keep SB l50 hSBn)).trans k1
      replace k2 := (World.cell?_of_block (a := ⟨SB, 2, none⟩) (hst.out.keep SB l50 hSBn)).trans k2
      replace k3 := (World.cell?_of_block (a := ⟨SB, 3, none⟩) (hst.out.keep SB l50 hSBn)).trans k3
      replace x0 := (World.cell?_of_block (a := ⟨SB + 1 + 1, 0, none⟩) (hst.out.keep (SB + 1 + 1) l5 hXBn)).trans x0
      replace x1 := (World.cell?_of_block (a := ⟨SB + 1 + 1, 1, none⟩) (hst.out.keep (SB + 1 + 1) l5 hXBn)).trans x1
      replace x2 := (World.cell?_of_block (a := ⟨SB + 1 + 1, 2, none⟩) (hst.out.keep (SB + 1 + 1) l5 hXBn)).trans x2
      replace x3 := (World.cell?_of_block (a := ⟨SB + 1 + 1, 3, none⟩) (hst.out.keep (SB + 1 + 1) l5 hXBn)).trans x3
      replace x4 := (World.cell?_of_block (a := ⟨SB + 1 + 1, 4, none⟩) (hst.out.keep (SB + 1 + 1) l5 hXBn)).trans x4
      replace x5 := (World.cell?_of_block (a := ⟨SB + 1 + 1, 5, none⟩) (hst.out.keep (SB + 1 + 1) l5 hXBn)).trans x5
      replace x6 := (World.cell?_of_block (a := ⟨SB + 1 + 1, 6, none⟩) (hst.out.keep (SB + 1 + 1) l5 hXBn)).trans x6
      replace x7 := (World.cell?_of_block (a := ⟨SB + 1 + 1, 7, none⟩) (hst.out.keep (SB + 1 + 1) l5 hXBn)).trans x7
      replace x8 := (World.cell?_of_block (a := ⟨SB + 1 + 1, 8, none⟩) (hst.out.keep (SB + 1 + 1) l5 hXBn)).trans x8
      replace kv0 := (World.cell?_of_block (a := ⟨QB, 0, none⟩) (hst.out.keep QB l5q hQBn)).trans kv0
      replace kv1 := (World.cell?_of_block (a := ⟨QB, 1, none⟩) (hst.out.keep QB l5q hQBn)).trans kv1
      replace c0 := (World.cell?_of_block (a := ⟨TB, 0, none⟩) (hst.out.keep TB t3 nT.out)).trans c0
      replace c1 := (World.cell?_of_block (a := ⟨TB, 1, none⟩) (hst.out.keep TB t3 nT.out)).trans c1
      replace c2 := (World.cell?_of_block (a := ⟨TB, 2, none⟩) (hst.out.keep TB t3 nT.out)).trans c2
      replace c3 := (World.cell?_of_block (a := ⟨TB, 3, none⟩) (hst.out.keep TB t3 nT.out)).trans c3
      replace e0 := (World.cell?_of_block (a := ⟨YB, 0, none⟩) (hst.out.keep YB t4 nY.out)).trans e0
      replace e1 := (World.cell?_of_block (a := ⟨YB, 1, none⟩) (hst.out.keep YB t4 nY.out)).trans e1
      replace e2 := (World.cell?_of_block (a := ⟨YB, 2, none⟩) (hst.out.keep YB t4 nY.out)).trans e2
      replace e3 := (World.cell?_of_block (a := ⟨YB, 3, none⟩) (hst.out.keep YB t4 nY.out)).trans e3
      replace e4 := (World.cell?_of_block (a := ⟨YB, 4, none⟩) (hst.out.keep YB t4 nY.out)).trans e4
      replace e5 := (World.cell?_of_block (a := ⟨YB, 5, none⟩) (hst.out.keep YB t4 nY.out)).trans e5
      replace e6 := (World.cell?_of_block (a := ⟨YB, 6, none⟩) (hst.out.keep YB t4 nY.out)).trans e6
      replace e7 := (World.cell?_of_block (a := ⟨YB, 7, none⟩) (hst.out.keep YB t4 nY.out)).trans e7
      replace e8 := (World.cell?_of_block (a := ⟨YB, 8, none⟩) (hst.out.keep YB t4 nY.out)).trans e8
      replace ef4 := (World.frozen?_of_block (a := ⟨YB, 4, none⟩) (hst.out.keep YB t4 nY.out)).trans ef4
      replace ef5 := (World.frozen?_of_block (a := ⟨YB, 5, none⟩) (hst.out.keep YB t4 nY.out)).trans ef5
      have hbel : Below SB W1 W := hSB ▸ hst.out.bel
      have w5 : SB + 1 + 1 < W.heap.size := by omega
      have w50 : SB < W.heap.size := by omega
      have w5q : QB < W.heap.size := by omega
      have w5y : YB < W.heap.size := by omega
      have cB := fun (X : Ext W) (u v : Value) (O : Obj) (W6 : World) (e : W6 = ((X.now.setCell ⟨YB, 4, none⟩ u).setCell ⟨YB, 5, none⟩ v).alloc O) => MvSt.behind hst'.out hO.out X nY.out hYr.out e
      replace cB := Go.Lib.hid cB
      clear hst hst' hSBn hXBn hQBn hst0 tb0
      obtain ⟨⟨od1, od2⟩, od3, od4⟩ := hok.od
      have n1 : IntKind.i64.wrap (-x.dir.x) = -x.dir.x := IntWalk.i64_in _ (by omega)
      have n2 : IntKind.i64.wrap (-x.dir.y) = -x.dir.y := IntWalk.i64_in _ (by omega)
      obtain ⟨big, hmx, g1, g2, g3, g4, g5, g6⟩ := run_max5 Try.prog x.dir.x (-x.dir.x) x.dir.y (-x.dir.y) 1
      have big1 : big ≤ 4096 := by omega
      have nb0 : ¬ big = 0 := by omega
      obtain ⟨q, hq⟩ : ∃ q, (4096 : Int).tdiv big = q := ⟨_, rfl⟩
      have hqe : 4096 / big = q := by rw [← hq]; exact (Int.tdiv_eq_ediv_of_nonneg (by omega)).symm
      have hq1 : big * q ≤ 4096 := by rw [← hqe]; exact Int.mul_ediv_self_le (by omega)
      have hq2 : 1 ≤ q := by rw [← hqe]; exact (Int.le_ediv_iff_mul_le (by omega)).2 (by omega)
      have hq3 : q ≤ 4096 := by rw [← hqe]; exact Int.ediv_le_self _ (by omega)
      have wq : IntKind.i64.wrap q = q := IntWalk.i64_in _ (by omega)
      obtain ⟨r, hr⟩ : ∃ r, gf % q = r := ⟨_, rfl⟩
      have hr0 : 0 ≤ r := by rw [← hr]; exact Int.emod_nonneg _ (by omega)
      have hr1 : r < q := by rw [← hr]; exact Int.emod_lt_of_pos _ (by omega)
      have cq := fun (W : World) => cf q W hq2 hq3
      rw [hr] at cq
      clear hr hqe cf
      obtain ⟨f, hf⟩ : ∃ f, 1 + r = f := ⟨_, rfl⟩
      have wf : IntKind.i64.wrap (1 + r) = f := by rw [hf]; exact IntWalk.i64_in _ (by omega)
      have hf1 : 1 ≤ f := by omega
      obtain ⟨fx0, fx1⟩ := longer_in (d := x.dir.x) (f := f) g5 (by omega) g1 hq1 (by omega) (by omega)
      obtain ⟨fy0, fy1⟩ := longer_in (d := x.dir.y) (f := f) g5 (by omega) g3 hq1 (by omega) (by omega)
      have hsay := fun (t : SkyR) (hM : Moved s t ux uy) => moved_say (f := f) (qx := cx) (qy := cy) hM hsm bu0 bu1 bv0 bv1 hok ht0 ht1 hf1 ⟨⟨fx0, fx1⟩, fy0, fy1⟩ ⟨⟨by omega, by omega⟩, by omega, by omega⟩
      obtain ⟨fx, hfx⟩ : ∃ v, x.dir.x * f = v := ⟨_, rfl⟩
      obtain ⟨fy, hfy⟩ : ∃ v, x.dir.y * f = v := ⟨_, rfl⟩
      have wfx : IntKind.i64.wrap (x.dir.x * f) = fx := by rw [hfx]; exact IntWalk.i64_in _ (by omega)
      have wfy : IntKind.i64.wrap (x.dir.y * f) = fy := by rw [hfy]; exact IntWalk.i64_in _ (by omega)
      obtain ⟨zx, hzx⟩ : ∃ v, cx + ux = v := ⟨_, rfl⟩
      obtain ⟨zy, hzy⟩ : ∃ v, cy + uy = v := ⟨_, rfl⟩
      have wzx : IntKind.i64.wrap (cx + ux) = zx := by rw [hzx]; exact IntWalk.i64_in _ (by omega)
      have wzy : IntKind.i64.wrap (cy + uy) = zy := by rw [hzy]; exact IntWalk.i64_in _ (by omega)
      replace hsay := Go.Lib.hid hsay
      clear g1 g2 g3 g4 g5 g6
      replace hfx := Go.Lib.hid hfx
      replace hfy := Go.Lib.hid hfy
      replace hzx := Go.Lib.hid hzx
      replace hzy := Go.Lib.hid hzy
      replace hf := Go.Lib.hid hf
      go_wp2_with (first | ((first | with_reducible refine wp_region_ext2 (by kernel_rfl) (by kernel_rfl) ?_ | with_reducible refine wp_region_ext (by kernel_rfl) (by kernel_rfl) ?_); (repeat (first | go_big_quiet_step ((first | (go_at_call 20; with_reducible exact Calls.ext (cq _)))) | quiet_step ((first | (go_at_call 20; with_reducible exact Calls.ext (cq _)))))); refine wpQuiet_nil ?_; rintro _ ⟨yr, rfl⟩; have syr := Ext.size yr; (repeat (first | rw [World.size_alloc] at syr | rw [World.size_setCell] at syr | rw [World.size_drew] at syr)); have : SB < yr.now.heap.size := (by omega); have : SB ≤ yr.now.heap.size := (by omega); have : SB < yr.now.heap.size + 1 + 1 := (by omega); have : SB + 1 + 1 < yr.now.heap.size := (by omega); have : SB + 1 + 1 ≤ yr.now.heap.size := (by omega); have : SB + 1 + 1 < yr.now.heap.size + 1 + 1 := (by omega); have : QB < yr.now.heap.size := (by omega); have : QB ≤ yr.now.heap.size := (by omega); have : QB < yr.now.heap.size + 1 + 1 := (by omega); have : TB < yr.now.heap.size := (by omega); have : TB ≤ yr.now.heap.size := (by omega); have : TB < yr.now.heap.size + 1 + 1 := (by omega); have : YB < yr.now.heap.size := (by omega); have : YB ≤ yr.now.heap.size := (by omega); have : YB < yr.now.heap.size + 1 + 1 := (by omega)) | (go_at_call 20; (first | with_reducible refine (Calls.giv2 (cq _)).mono ?_ | with_reducible refine (Calls.giv (cq _)).mono ?_); rintro _ _ ⟨y1, rfl, rfl⟩; have sy1 := Ext.size y1; (repeat (first | rw [World.size_alloc] at sy1 | rw [World.size_setCell] at sy1 | rw [World.size_drew] at sy1)); have : SB < y1.now.heap.size := (by omega); have : SB ≤ y1.now.heap.size := (by omega); have : SB < y1.now.heap.size + 1 + 1 := (by omega); have : SB + 1 + 1 < y1.now.heap.size := (by omega); have : SB + 1 + 1 ≤ y1.now.heap.size := (by omega); have : SB + 1 + 1 < y1.now.heap.size + 1 + 1 := (by omega); have : QB < y1.now.heap.size := (by omega); have : QB ≤ y1.now.heap.size := (by omega); have : QB < y1.now.heap.size + 1 + 1 := (by omega); have : TB < y1.now.heap.size := (by omega); have : TB ≤ y1.now.heap.size := (by omega); have : TB < y1.now.heap.size + 1 + 1 := (by omega); have : YB < y1.now.heap.size := (by omega); have : YB ≤ y1.now.heap.size := (by omega); have : YB < y1.now.heap.size + 1 + 1 := (by omega)))
      have z1 : YB ≠ SB := by omega
      have z2 : YB ≠ SB + 1 + 1 := by omega
      have z4 : YB ≠ TB := fun e => hTY e.symm
      have z3 : YB ≠ QB := by omega
      refine wp_named (fun W6 hW => ?_)
      obtain ⟨hAt6, hM⟩ := cB.out y1 _ _ _ W6 hW.symm
      have hY6 : Below SB W1 W6 := by rw [← hW]; repeat' (first | (with_reducible exact Below.refl _ _) | (with_reducible assumption) | (with_reducible refine Ext.below _ ?_ ?_) | (with_reducible refine Below.on ?_ (by with_reducible assumption) ?_) | (with_reducible refine Below.alloc ?_ ?_ _) | (with_reducible refine Below.drew ?_) | (with_reducible refine Below.setCell ?_ ?_ _) | (with_reducible exact Nat.le_refl _) | omega | (simp; done) | (simp [go_sem]; done) | (simp at *; omega))
      have hcell : ∀ (B o : Nat) (v : Value), YB ≠ B → B < W.heap.size → W.cell? ⟨B, o, none⟩ = some v → W6.cell? ⟨B, o, none⟩ = some v := fun B o v h1 h2 h3 => by rw [← hW]; exact cell_up (cell_st h1 (cell_st h1 ((y1.cell h2).trans h3)))
      replace k0 := hcell _ _ _ z1 w50 k0
      replace k1 := hcell _ _ _ z1 w50 k1
      replace k2 := hcell _ _ _ z1 w50 k2
      replace k3 := hcell _ _ _ z1 w50 k3
      replace x0 := hcell _ _ _ z2 w5 x0
      replace x1 := hcell _ _ _ z2 w5 x1
      replace x2 := hcell _ _ _ z2 w5 x2
      replace x3 := hcell _ _ _ z2 w5 x3
      replace x4 := hcell _ _ _ z2 w5 x4
      replace x5 := hcell _ _ _ z2 w5 x5
      replace x6 := hcell _ _ _ z2 w5 x6
      replace x7 := hcell _ _ _ z2 w5 x7
      replace x8 := hcell _ _ _ z2 w5 x8
      replace kv0 := hcell _ _ _ z3 w5q kv0
      replace kv1 := hcell _ _ _ z3 w5q kv1
      replace c0 := hcell _ _ _ z4 (by omega) c0
      replace c1 := hcell _ _ _ z4 (by omega) c1
      replace c2 := hcell _ _ _ z4 (by omega) c2
      replace c3 := hcell _ _ _ z4 (by omega) c3
      have d0 := (y1.cell (o := 0) w5y).trans e0
      have d1 := (y1.cell (o := 1) w5y).trans e1
      have d2 := (y1.cell (o := 2) w5y).trans e2
      have d3 := (y1.cell (o := 3) w5y).trans e3
      have d4 := (y1.cell (o := 4) w5y).trans e4
      have d5 := (y1.cell (o := 5) w5y).trans e5
      have d6 := (y1.cell (o := 6) w5y).trans e6
      have d7 := (y1.cell (o := 7) w5y).trans e7
      have d8 := (y1.cell (o := 8) w5y).trans e8
      have e4' := e4
      have q0 : W6.cell? ⟨YB, 0, none⟩ = some (.int .i64 x.kind) := by rw [← hW]; refine cell_up ?_; simp [go_sem, d0]
      have q1 : W6.cell? ⟨YB, 1, none⟩ = some (.int .i64 x.st) := by rw [← hW]; refine cell_up ?_; simp [go_sem, d1]
      have q2 : W6.cell? ⟨YB, 2, none⟩ = some (.int .i64 x.cat) := by rw [← hW]; refine cell_up ?_; simp [go_sem, d2]
      have q3 : W6.cell? ⟨YB, 3, none⟩ = some (.int .i64 x.tick) := by rw [← hW]; refine cell_up ?_; simp [go_sem, d3]
      have q4 : W6.cell? ⟨YB, 4, none⟩ = some (.int .i64 fx) := by rw [← hW]; refine cell_up ?_; simp [go_sem, d4]
      have q5 : W6.cell? ⟨YB, 5, none⟩ = some (.int .i64 fy) := by rw [← hW]; refine cell_up ?_; simp [go_sem, d5]
      have q6 : W6.cell? ⟨YB, 6, none⟩ = some (.int .i64 x.err) := by rw [← hW]; refine cell_up ?_; simp [go_sem, d6]
      have q7 : W6.cell? ⟨YB, 7, none⟩ = some (.int .i64 x.lo) := by rw [← hW]; refine cell_up ?_; simp [go_sem, d7]
      have q8 : W6.cell? ⟨YB, 8, none⟩ = some (.int .i64 x.hi) := by rw [← hW]; refine cell_up ?_; simp [go_sem, d8]
      have r0 : W6.cell? ⟨y1.now.heap.size, 0, none⟩ = some (.int .i64 zx) := by rw [← hW]; simp [go_sem]
      have r1 : W6.cell? ⟨y1.now.heap.size, 1, none⟩ = some (.int .i64 zy) := by rw [← hW]; simp [go_sem]
      have v1 : SB < W6.heap.size := by rw [← hW]; simp only [World.size_alloc, World.size_setCell]; omega
      have v2 : SB + 1 + 1 < W6.heap.size := by rw [← hW]; simp only [World.size_alloc, World.size_setCell]; omega
      have v3 : QB < W6.heap.size := by rw [← hW]; simp only [World.size_alloc, World.size_setCell]; omega
      have v4 : TB < W6.heap.size := by rw [← hW]; simp only [World.size_alloc, World.size_setCell]; omega
      have v5 : YB < W6.heap.size := by rw [← hW]; simp only [World.size_alloc, World.size_setCell]; omega
      have v6 : y1.now.heap.size < W6.heap.size := by rw [← hW]; simp only [World.size_alloc, World.size_setCell]; omega
      clear e0 e1 e2 e3 e4 e4' e5 e6 e7 e8 d0 d1 d2 d3 d4 d5 d6 d7 d8 ef4 ef5 hW cB hcell
      generalize y1.now.heap.size = ZB at *
      obtain ⟨say1, say2⟩ := hsay.out _ hM
      replace say2 := say2 30 20 (by omega) (by omega) (by omega) (by omega)
      rw [hzx.out, hzy.out] at say1 say2
      have hl6 : (movedSky s' ux uy).bodies.length = n := by unfold movedSky; rw [List.length_map]; exact hn.out
      have dA : ∀ V, Below W6.heap.size W6 V → Calls Try.prog 21 #[.agg #[.slice s'.bp n s'.bc, .int .i64 s'.home, .slice s'.sp s'.sts.length s'.sc, .slice s'.cp s'.cats.length s'.cc], .agg #[.int .i64 x.kind, .int .i64 x.st, .int .i64 x.cat, .int .i64 x.tick, .int .i64 fx, .int .i64 fy, .int .i64 x.err, .int .i64 x.lo, .int .i64 x.hi], .agg #[.int .i64 zx, .int .i64 zy]] V (Gives (.bool (agreesV s x ⟨cx, cy⟩)) V) := fun V y => by
        have := Agrees_any (movedSky s' ux uy) (x.longer f) ⟨zx, zy⟩ V (hAt6.on y)
        rw [say1] at this
        unfold SkyR.val SightR.val at this
        rw [hl6] at this
        unfold SightR.longer at this
        simp only [hfx.out, hfy.out] at this
        exact this
      have dE : ∀ V, Below W6.heap.size W6 V → Calls Try.prog 22 #[.agg #[.slice s'.bp n s'.bc, .int .i64 s'.home, .slice s'.sp s'.sts.length s'.sc, .slice s'.cp s'.cats.length s'.cc], .agg #[.int .i64 x.kind, .int .i64 x.st, .int .i64 x.cat, .int .i64 x.tick, .int .i64 fx, .int .i64 fy, .int .i64 x.err, .int .i64 x.lo, .int .i64 x.hi], .agg #[.int .i64 (zx - 30), .int .i64 (zx + 30), .int .i64 (zy - 20), .int .i64 (zy + 20)]] V (Gives (.bool (excludesV s x (cx - 30) (cx + 30) (cy - 20) (cy + 20))) V) := fun V y => by
        have := Excludes_any (movedSky s' ux uy) (x.longer f) (zx - 30) (zx + 30) (zy - 20) (zy + 20) V (hAt6.on y)
        rw [say2] at this
        unfold SkyR.val SightR.val at this
        rw [hl6] at this
        unfold SightR.longer at this
        simp only [hfx.out, hfy.out] at this
        exact this
      have cA1 := cA.out ⟨cx, cy⟩
      have cE1 := cE.out (cx - 30) (cx + 30) (cy - 20) (cy + 20)
      have o1 := fun V => around_any cx cy 30 20 V (by omega) (by omega) (by omega) (by omega)
      have o2 := fun V => around_any zx zy 30 20 V (by have := hzx.out; omega) (by have := hzy.out; omega) (by omega) (by omega)
      generalize agreesV s x ⟨cx, cy⟩ = ag at *
      generalize excludesV s x (cx - 30) (cx + 30) (cy - 20) (cy + 20) = ex at *
      simp only at cA1
      clear say1 say2 hAt6 hM hsay cA cE
      have hag : (ag == ag) = true := by simp
      have hex : (ex == ex) = true := by simp
      go_wp2_with (first | ((first | with_reducible refine wp_region_ext2 (by kernel_rfl) (by kernel_rfl) ?_ | with_reducible refine wp_region_ext (by kernel_rfl) (by kernel_rfl) ?_); (repeat (first | go_big_quiet_step ((first | (go_at_call 21; with_reducible exact Calls.ext (cA1 _ (by repeat' (first | (with_reducible exact Below.refl _ _) | (with_reducible assumption) | (with_reducible refine Ext.below _ ?_ ?_) | (with_reducible refine Below.on ?_ (by with_reducible assumption) ?_) | (with_reducible refine Below.alloc ?_ ?_ _) | (with_reducible refine Below.drew ?_) | (with_reducible refine Below.setCell ?_ ?_ _) | (with_reducible exact Nat.le_refl _) | omega | (simp; done) | (simp [go_sem]; done) | (simp at *; omega))))) | (go_at_call 21; with_reducible exact Calls.ext (dA _ (by repeat' (first | (with_reducible exact Below.refl _ _) | (with_reducible assumption) | (with_reducible refine Ext.below _ ?_ ?_) | (with_reducible refine Below.on ?_ (by with_reducible assumption) ?_) | (with_reducible refine Below.alloc ?_ ?_ _) | (with_reducible refine Below.drew ?_) | (with_reducible refine Below.setCell ?_ ?_ _) | (with_reducible exact Nat.le_refl _) | omega | (simp; done) | (simp [go_sem]; done) | (simp at *; omega))))) | (go_at_call 22; with_reducible exact Calls.ext (cE1 _ (by repeat' (first | (with_reducible exact Below.refl _ _) | (with_reducible assumption) | (with_reducible refine Ext.below _ ?_ ?_) | (with_reducible refine Below.on ?_ (by with_reducible assumption) ?_) | (with_reducible refine Below.alloc ?_ ?_ _) | (with_reducible refine Below.drew ?_) | (with_reducible refine Below.setCell ?_ ?_ _) | (with_reducible exact Nat.le_refl _) | omega | (simp; done) | (simp [go_sem]; done) | (simp at *; omega))))) | (go_at_call 22; with_reducible exact Calls.ext (dE _ (by repeat' (first | (with_reducible exact Below.refl _ _) | (with_reducible assumption) | (with_reducible refine Ext.below _ ?_ ?_) | (with_reducible refine Below.on ?_ (by with_reducible assumption) ?_) | (with_reducible refine Below.alloc ?_ ?_ _) | (with_reducible refine Below.drew ?_) | (with_reducible refine Below.setCell ?_ ?_ _) | (with_reducible exact Nat.le_refl _) | omega | (simp; done) | (simp [go_sem]; done) | (simp at *; omega))))) | (go_at_call 23; with_reducible exact Calls.ext (o1 _)) | (go_at_call 23; with_reducible exact Calls.ext (o2 _)) | (go_at_call 8; with_reducible exact Calls.ext (ca _)))) | quiet_step ((first | (go_at_call 21; with_reducible exact Calls.ext (cA1 _ (by repeat' (first | (with_reducible exact Below.refl _ _) | (with_reducible assumption) | (with_reducible refine Ext.below _ ?_ ?_) | (with_reducible refine Below.on ?_ (by with_reducible assumption) ?_) | (with_reducible refine Below.alloc ?_ ?_ _) | (with_reducible refine Below.drew ?_) | (with_reducible refine Below.setCell ?_ ?_ _) | (with_reducible exact Nat.le_refl _) | omega | (simp; done) | (simp [go_sem]; done) | (simp at *; omega))))) | (go_at_call 21; with_reducible exact Calls.ext (dA _ (by repeat' (first | (with_reducible exact Below.refl _ _) | (with_reducible assumption) | (with_reducible refine Ext.below _ ?_ ?_) | (with_reducible refine Below.on ?_ (by with_reducible assumption) ?_) | (with_reducible refine Below.alloc ?_ ?_ _) | (with_reducible refine Below.drew ?_) | (with_reducible refine Below.setCell ?_ ?_ _) | (with_reducible exact Nat.le_refl _) | omega | (simp; done) | (simp [go_sem]; done) | (simp at *; omega))))) | (go_at_call 22; with_reducible exact Calls.ext (cE1 _ (by repeat' (first | (with_reducible exact Below.refl _ _) | (with_reducible assumption) | (with_reducible refine Ext.below _ ?_ ?_) | (with_reducible refine Below.on ?_ (by with_reducible assumption) ?_) | (with_reducible refine Below.alloc ?_ ?_ _) | (with_reducible refine Below.drew ?_) | (with_reducible refine Below.setCell ?_ ?_ _) | (with_reducible exact Nat.le_refl _) | omega | (simp; done) | (simp [go_sem]; done) | (simp at *; omega))))) | (go_at_call 22; with_reducible exact Calls.ext (dE _ (by repeat' (first | (with_reducible exact Below.refl _ _) | (with_reducible assumption) | (with_reducible refine Ext.below _ ?_ ?_) | (with_reducible refine Below.on ?_ (by with_reducible assumption) ?_) | (with_reducible refine Below.alloc ?_ ?_ _) | (with_reducible refine Below.drew ?_) | (with_reducible refine Below.setCell ?_ ?_ _) | (with_reducible exact Nat.le_refl _) | omega | (simp; done) | (simp [go_sem]; done) | (simp at *; omega))))) | (go_at_call 23; with_reducible exact Calls.ext (o1 _)) | (go_at_call 23; with_reducible exact Calls.ext (o2 _)) | (go_at_call 8; with_reducible exact Calls.ext (ca _)))))); refine wpQuiet_nil ?_; rintro _ ⟨yr, rfl⟩; have syr := Ext.size yr; (repeat (first | rw [World.size_alloc] at syr | rw [World.size_setCell] at syr | rw [World.size_drew] at syr)); have : SB < yr.now.heap.size := (by omega); have : SB ≤ yr.now.heap.size := (by omega); have : SB < yr.now.heap.size + 1 + 1 := (by omega); have : SB + 1 + 1 < yr.now.heap.size := (by omega); have : SB + 1 + 1 ≤ yr.now.heap.size := (by omega); have : SB + 1 + 1 < yr.now.heap.size + 1 + 1 := (by omega); have : QB < yr.now.heap.size := (by omega); have : QB ≤ yr.now.heap.size := (by omega); have : QB < yr.now.heap.size + 1 + 1 := (by omega); have : TB < yr.now.heap.size := (by omega); have : TB ≤ yr.now.heap.size := (by omega); have : TB < yr.now.heap.size + 1 + 1 := (by omega); have : YB < yr.now.heap.size := (by omega); have : YB ≤ yr.now.heap.size := (by omega); have : YB < yr.now.heap.size + 1 + 1 := (by omega); have : ZB < yr.now.heap.size := (by omega); have : ZB ≤ yr.now.heap.size := (by omega); have : ZB < yr.now.heap.size + 1 + 1 := (by omega)) | (go_at_call 21; (first | with_reducible refine (Calls.giv2 (cA1 _ (by repeat' (first | (with_reducible exact Below.refl _ _) | (with_reducible assumption) | (with_reducible refine Ext.below _ ?_ ?_) | (with_reducible refine Below.on ?_ (by with_reducible assumption) ?_) | (with_reducible refine Below.alloc ?_ ?_ _) | (with_reducible refine Below.drew ?_) | (with_reducible refine Below.setCell ?_ ?_ _) | (with_reducible exact Nat.le_refl _) | omega | (simp; done) | (simp [go_sem]; done) | (simp at *; omega))))).mono ?_ | with_reducible refine (Calls.giv (cA1 _ (by repeat' (first | (with_reducible exact Below.refl _ _) | (with_reducible assumption) | (with_reducible refine Ext.below _ ?_ ?_) | (with_reducible refine Below.on ?_ (by with_reducible assumption) ?_) | (with_reducible refine Below.alloc ?_ ?_ _) | (with_reducible refine Below.drew ?_) | (with_reducible refine Below.setCell ?_ ?_ _) | (with_reducible exact Nat.le_refl _) | omega | (simp; done) | (simp [go_sem]; done) | (simp at *; omega))))).mono ?_); rintro _ _ ⟨y1, rfl, rfl⟩; have sy1 := Ext.size y1; (repeat (first | rw [World.size_alloc] at sy1 | rw [World.size_setCell] at sy1 | rw [World.size_drew] at sy1)); have : SB < y1.now.heap.size := (by omega); have : SB ≤ y1.now.heap.size := (by omega); have : SB < y1.now.heap.size + 1 + 1 := (by omega); have : SB + 1 + 1 < y1.now.heap.size := (by omega); have : SB + 1 + 1 ≤ y1.now.heap.size := (by omega); have : SB + 1 + 1 < y1.now.heap.size + 1 + 1 := (by omega); have : QB < y1.now.heap.size := (by omega); have : QB ≤ y1.now.heap.size := (by omega); have : QB < y1.now.heap.size + 1 + 1 := (by omega); have : TB < y1.now.heap.size := (by omega); have : TB ≤ y1.now.heap.size := (by omega); have : TB < y1.now.heap.size + 1 + 1 := (by omega); have : YB < y1.now.heap.size := (by omega); have : YB ≤ y1.now.heap.size := (by omega); have : YB < y1.now.heap.size + 1 + 1 := (by omega); have : ZB < y1.now.heap.size := (by omega); have : ZB ≤ y1.now.heap.size := (by omega); have : ZB < y1.now.heap.size + 1 + 1 := (by omega)) | (go_at_call 21; (first | with_reducible refine (Calls.giv2 (dA _ (by repeat' (first | (with_reducible exact Below.refl _ _) | (with_reducible assumption) | (with_reducible refine Ext.below _ ?_ ?_) | (with_reducible refine Below.on ?_ (by with_reducible assumption) ?_) | (with_reducible refine Below.alloc ?_ ?_ _) | (with_reducible refine Below.drew ?_) | (with_reducible refine Below.setCell ?_ ?_ _) | (with_reducible exact Nat.le_refl _) | omega | (simp; done) | (simp [go_sem]; done) | (simp at *; omega))))).mono ?_ | with_reducible refine (Calls.giv (dA _ (by repeat' (first | (with_reducible exact Below.refl _ _) | (with_reducible assumption) | (with_reducible refine Ext.below _ ?_ ?_) | (with_reducible refine Below.on ?_ (by with_reducible assumption) ?_) | (with_reducible refine Below.alloc ?_ ?_ _) | (with_reducible refine Below.drew ?_) | (with_reducible refine Below.setCell ?_ ?_ _) | (with_reducible exact Nat.le_refl _) | omega | (simp; done) | (simp [go_sem]; done) | (simp at *; omega))))).mono ?_); rintro _ _ ⟨y2, rfl, rfl⟩; have sy2 := Ext.size y2; (repeat (first | rw [World.size_alloc] at sy2 | rw [World.size_setCell] at sy2 | rw [World.size_drew] at sy2)); have : SB < y2.now.heap.size := (by omega); have : SB ≤ y2.now.heap.size := (by omega); have : SB < y2.now.heap.size + 1 + 1 := (by omega); have : SB + 1 + 1 < y2.now.heap.size := (by omega); have : SB + 1 + 1 ≤ y2.now.heap.size := (by omega); have : SB + 1 + 1 < y2.now.heap.size + 1 + 1 := (by omega); have : QB < y2.now.heap.size := (by omega); have : QB ≤ y2.now.heap.size := (by omega); have : QB < y2.now.heap.size + 1 + 1 := (by omega); have : TB < y2.now.heap.size := (by omega); have : TB ≤ y2.now.heap.size := (by omega); have : TB < y2.now.heap.size + 1 + 1 := (by omega); have : YB < y2.now.heap.size := (by omega); have : YB ≤ y2.now.heap.size := (by omega); have : YB < y2.now.heap.size + 1 + 1 := (by omega); have : ZB < y2.now.heap.size := (by omega); have : ZB ≤ y2.now.heap.size := (by omega); have : ZB < y2.now.heap.size + 1 + 1 := (by omega)) | (go_at_call 22; (first | with_reducible refine (Calls.giv2 (cE1 _ (by repeat' (first | (with_reducible exact Below.refl _ _) | (with_reducible assumption) | (with_reducible refine Ext.below _ ?_ ?_) | (with_reducible refine Below.on ?_ (by with_reducible assumption) ?_) | (with_reducible refine Below.alloc ?_ ?_ _) | (with_reducible refine Below.drew ?_) | (with_reducible refine Below.setCell ?_ ?_ _) | (with_reducible exact Nat.le_refl _) | omega | (simp; done) | (simp [go_sem]; done) | (simp at *; omega))))).mono ?_ | with_reducible refine (Calls.giv (cE1 _ (by repeat' (first | (with_reducible exact Below.refl _ _) | (with_reducible assumption) | (with_reducible refine Ext.below _ ?_ ?_) | (with_reducible refine Below.on ?_ (by with_reducible assumption) ?_) | (with_reducible refine Below.alloc ?_ ?_ _) | (with_reducible refine Below.drew ?_) | (with_reducible refine Below.setCell ?_ ?_ _) | (with_reducible exact Nat.le_refl _) | omega | (simp; done) | (simp [go_sem]; done) | (simp at *; omega))))).mono ?_); rintro _ _ ⟨y3, rfl, rfl⟩; have sy3 := Ext.size y3; (repeat (first | rw [World.size_alloc] at sy3 | rw [World.size_setCell] at sy3 | rw [World.size_drew] at sy3)); have : SB < y3.now.heap.size := (by omega); have : SB ≤ y3.now.heap.size := (by omega); have : SB < y3.now.heap.size + 1 + 1 := (by omega); have : SB + 1 + 1 < y3.now.heap.size := (by omega); have : SB + 1 + 1 ≤ y3.now.heap.size := (by omega); have : SB + 1 + 1 < y3.now.heap.size + 1 + 1 := (by omega); have : QB < y3.now.heap.size := (by omega); have : QB ≤ y3.now.heap.size := (by omega); have : QB < y3.now.heap.size + 1 + 1 := (by omega); have : TB < y3.now.heap.size := (by omega); have : TB ≤ y3.now.heap.size := (by omega); have : TB < y3.now.heap.size + 1 + 1 := (by omega); have : YB < y3.now.heap.size := (by omega); have : YB ≤ y3.now.heap.size := (by omega); have : YB < y3.now.heap.size + 1 + 1 := (by omega); have : ZB < y3.now.heap.size := (by omega); have : ZB ≤ y3.now.heap.size := (by omega); have : ZB < y3.now.heap.size + 1 + 1 := (by omega)) | (go_at_call 22; (first | with_reducible refine (Calls.giv2 (dE _ (by repeat' (first | (with_reducible exact Below.refl _ _) | (with_reducible assumption) | (with_reducible refine Ext.below _ ?_ ?_) | (with_reducible refine Below.on ?_ (by with_reducible assumption) ?_) | (with_reducible refine Below.alloc ?_ ?_ _) | (with_reducible refine Below.drew ?_) | (with_reducible refine Below.setCell ?_ ?_ _) | (with_reducible exact Nat.le_refl _) | omega | (simp; done) | (simp [go_sem]; done) | (simp at *; omega))))).mono ?_ | with_reducible refine (Calls.giv (dE _ (by repeat' (first | (with_reducible exact Below.refl _ _) | (with_reducible assumption) | (with_reducible refine Ext.below _ ?_ ?_) | (with_reducible refine Below.on ?_ (by with_reducible assumption) ?_) | (with_reducible refine Below.alloc ?_ ?_ _) | (with_reducible refine Below.drew ?_) | (with_reducible refine Below.setCell ?_ ?_ _) | (with_reducible exact Nat.le_refl _) | omega | (simp; done) | (simp [go_sem]; done) | (simp at *; omega))))).mono ?_); rintro _ _ ⟨y4, rfl, rfl⟩; have sy4 := Ext.size y4; (repeat (first | rw [World.size_alloc] at sy4 | rw [World.size_setCell] at sy4 | rw [World.size_drew] at sy4)); have : SB < y4.now.heap.size := (by omega); have : SB ≤ y4.now.heap.size := (by omega); have : SB < y4.now.heap.size + 1 + 1 := (by omega); have : SB + 1 + 1 < y4.now.heap.size := (by omega); have : SB + 1 + 1 ≤ y4.now.heap.size := (by omega); have : SB + 1 + 1 < y4.now.heap.size + 1 + 1 := (by omega); have : QB < y4.now.heap.size := (by omega); have : QB ≤ y4.now.heap.size := (by omega); have : QB < y4.now.heap.size + 1 + 1 := (by omega); have : TB < y4.now.heap.size := (by omega); have : TB ≤ y4.now.heap.size := (by omega); have : TB < y4.now.heap.size + 1 + 1 := (by omega); have : YB < y4.now.heap.size := (by omega); have : YB ≤ y4.now.heap.size := (by omega); have : YB < y4.now.heap.size + 1 + 1 := (by omega); have : ZB < y4.now.heap.size := (by omega); have : ZB ≤ y4.now.heap.size := (by omega); have : ZB < y4.now.heap.size + 1 + 1 := (by omega)) | (go_at_call 23; (first | with_reducible refine (Calls.giv2 (o1 _)).mono ?_ | with_reducible refine (Calls.giv (o1 _)).mono ?_); rintro _ _ ⟨y5, rfl, rfl⟩; have sy5 := Ext.size y5; (repeat (first | rw [World.size_alloc] at sy5 | rw [World.size_setCell] at sy5 | rw [World.size_drew] at sy5)); have : SB < y5.now.heap.size := (by omega); have : SB ≤ y5.now.heap.size := (by omega); have : SB < y5.now.heap.size + 1 + 1 := (by omega); have : SB + 1 + 1 < y5.now.heap.size := (by omega); have : SB + 1 + 1 ≤ y5.now.heap.size := (by omega); have : SB + 1 + 1 < y5.now.heap.size + 1 + 1 := (by omega); have : QB < y5.now.heap.size := (by omega); have : QB ≤ y5.now.heap.size := (by omega); have : QB < y5.now.heap.size + 1 + 1 := (by omega); have : TB < y5.now.heap.size := (by omega); have : TB ≤ y5.now.heap.size := (by omega); have : TB < y5.now.heap.size + 1 + 1 := (by omega); have : YB < y5.now.heap.size := (by omega); have : YB ≤ y5.now.heap.size := (by omega); have : YB < y5.now.heap.size + 1 + 1 := (by omega); have : ZB < y5.now.heap.size := (by omega); have : ZB ≤ y5.now.heap.size := (by omega); have : ZB < y5.now.heap.size + 1 + 1 := (by omega)) | (go_at_call 23; (first | with_reducible refine (Calls.giv2 (o2 _)).mono ?_ | with_reducible refine (Calls.giv (o2 _)).mono ?_); rintro _ _ ⟨y6, rfl, rfl⟩; have sy6 := Ext.size y6; (repeat (first | rw [World.size_alloc] at sy6 | rw [World.size_setCell] at sy6 | rw [World.size_drew] at sy6)); have : SB < y6.now.heap.size := (by omega); have : SB ≤ y6.now.heap.size := (by omega); have : SB < y6.now.heap.size + 1 + 1 := (by omega); have : SB + 1 + 1 < y6.now.heap.size := (by omega); have : SB + 1 + 1 ≤ y6.now.heap.size := (by omega); have : SB + 1 + 1 < y6.now.heap.size + 1 + 1 := (by omega); have : QB < y6.now.heap.size := (by omega); have : QB ≤ y6.now.heap.size := (by omega); have : QB < y6.now.heap.size + 1 + 1 := (by omega); have : TB < y6.now.heap.size := (by omega); have : TB ≤ y6.now.heap.size := (by omega); have : TB < y6.now.heap.size + 1 + 1 := (by omega); have : YB < y6.now.heap.size := (by omega); have : YB ≤ y6.now.heap.size := (by omega); have : YB < y6.now.heap.size + 1 + 1 := (by omega); have : ZB < y6.now.heap.size := (by omega); have : ZB ≤ y6.now.heap.size := (by omega); have : ZB < y6.now.heap.size + 1 + 1 := (by omega)) | (go_at_call 8; (first | with_reducible refine (Calls.giv2 (ca _)).mono ?_ | with_reducible refine (Calls.giv (ca _)).mono ?_); rintro _ _ ⟨y7, rfl, rfl⟩; have sy7 := Ext.size y7; (repeat (first | rw [World.size_alloc] at sy7 | rw [World.size_setCell] at sy7 | rw [World.size_drew] at sy7)); have : SB < y7.now.heap.size := (by omega); have : SB ≤ y7.now.heap.size := (by omega); have : SB < y7.now.heap.size + 1 + 1 := (by omega); have : SB + 1 + 1 < y7.now.heap.size := (by omega); have : SB + 1 + 1 ≤ y7.now.heap.size := (by omega); have : SB + 1 + 1 < y7.now.heap.size + 1 + 1 := (by omega); have : QB < y7.now.heap.size := (by omega); have : QB ≤ y7.now.heap.size := (by omega); have : QB < y7.now.heap.size + 1 + 1 := (by omega); have : TB < y7.now.heap.size := (by omega); have : TB ≤ y7.now.heap.size := (by omega); have : TB < y7.now.heap.size + 1 + 1 := (by omega); have : YB < y7.now.heap.size := (by omega); have : YB ≤ y7.now.heap.size := (by omega); have : YB < y7.now.heap.size + 1 + 1 := (by omega); have : ZB < y7.now.heap.size := (by omega); have : ZB ≤ y7.now.heap.size := (by omega); have : ZB < y7.now.heap.size + 1 + 1 := (by omega)))
      go_returns
      refine ⟨rfl, hfin.out _ ?_⟩
      repeat' (first | (with_reducible exact Below.refl _ _) | (with_reducible assumption) | (with_reducible refine Ext.below _ ?_ ?_) | (with_reducible refine Below.on ?_ (by with_reducible assumption) ?_) | (with_reducible refine Below.alloc ?_ ?_ _) | (with_reducible refine Below.drew ?_) | (with_reducible refine Below.setCell ?_ ?_ _) | (with_reducible exact Nat.le_refl _) | omega | (simp; done) | (simp [go_sem]; done) | (simp at *; omega))
set_option maxRecDepth 100000 in
theorem SkyMoved_lifted (os : Os) (started : os.Started) (H : Type) (enc : TypeId × Value → H) :
    ReturnsInHanded {} Try.checked os 5 .any (Rows.skyMovedSpec.pre6 enc Try.prog Try.f5 Rows.skyMovedRow.domain false) (Rows.skyMovedSpec.post enc Try.prog Try.f5 false true false false) := by
  refine returnsInHanded_of_change (C := Try.checked) own started (by kernel_rfl) Try.func5
    (ChangeSpec.witness6 (enc := enc) (C := Try.checked) false ⟨#[], #[.slice none 0 0, .int .i64 0, .int .i64 0, .int .i64 0, .int .i64 0, .int .i64 0], []⟩ 8 (by kernel_rfl) (by kernel_rfl) (by kernel_rfl) (by kernel_rfl)) ?_
  intro W base args ds gs before hval0 hW _ _
  have hval : ∀ (j : Nat) t v, Try.f5.params[j]? = some t → args[j]? = some v → Value.okWide Try.prog W .any base t v := hval0
  have hW' := hW
  obtain ⟨p, q, hA0, hV, _, _, _⟩ := hW
  have hA : DataW.TrodAll enc Try.prog W 0 (fun _ => true) true Try.f5.params.toList args.toList ds p := hA0
  rw [Try.params5] at hA hval
  obtain ⟨v0, vs0, d0, ds0, p0, q0, hargs0, rfl, _, h0, r0⟩ := trodAll_cons hA
  obtain ⟨v1, vs1, d1, ds1, p1, q1, hargs1, rfl, _, h1, r1⟩ := trodAll_cons r0
  obtain ⟨v2, vs2, d2, ds2, p2, q2, hargs2, rfl, _, h2, r2⟩ := trodAll_cons r1
  obtain ⟨v3, vs3, d3, ds3, p3, q3, hargs3, rfl, _, h3, r3⟩ := trodAll_cons r2
  obtain ⟨v4, vs4, d4, ds4, p4, q4, hargs4, rfl, _, h4, r4⟩ := trodAll_cons r3
  obtain ⟨v5, vs5, d5, ds5, p5, q5, hargs5, rfl, _, h5, r5⟩ := trodAll_cons r4
  obtain ⟨hlast, rfl, _⟩ := trodAll_nil r5
  subst hlast
  subst hargs5
  subst hargs4
  subst hargs3
  subst hargs2
  subst hargs1
  obtain rfl : args = #[v0, v1, v2, v3, v4, v5] := by cases args; simp_all
  obtain ⟨rfl, rfl⟩ := trodVars_none hV
  obtain ⟨sp0, sl0, sc0, sz0, rfl, hi0⟩ := open_list (P := Try.prog) Try.underlying42 Try.underlying3 (by kernel_rfl) (hval 0 42 v0 rfl rfl) h0
  obtain ⟨x1, rfl, hi1⟩ := open_num (P := Try.prog) Try.underlying2 (hval 1 2 v1 rfl rfl)
  obtain ⟨x2, rfl, hi2⟩ := open_num (P := Try.prog) Try.underlying2 (hval 2 2 v2 rfl rfl)
  obtain ⟨x3, rfl, hi3⟩ := open_num (P := Try.prog) Try.underlying2 (hval 3 2 v3 rfl rfl)
  obtain ⟨x4, rfl, hi4⟩ := open_num (P := Try.prog) Try.underlying2 (hval 4 2 v4 rfl rfl)
  obtain ⟨x5, rfl, hi5⟩ := open_num (P := Try.prog) Try.underlying2 (hval 5 2 v5 rfl rfl)
  exact (SkyMoved_any sp0 sl0 sc0 sz0 x1 x2 x3 x4 x5 W hi0 hi1 hi2 hi3 hi4 hi5).mono fun e W' h => law_post laid_out (by rw [Try.params5]; intro t ht; simp only [List.mem_cons, List.not_mem_nil, or_false] at ht; rcases ht with rfl | rfl | rfl | rfl | rfl | rfl | rfl | rfl; all_goals exact ⟨by kernel_rfl, by decide +kernel⟩) rfl rfl Try.underlying4 hW' rfl h
/-- The statement. -/
theorem SkyMoved_holds : Rows.SkyMovedSaid :=
  OpenClaim.holds_of_wide 5 Try.f5 rfl rfl rfl rfl rfl rfl rfl ⟨rfl, rfl, rfl, rfl, rfl⟩ rfl rfl rfl rfl rfl (by kernel_rfl) Try.func5 (by kernel_rfl)
    (of_decide_eq_true (by kernel_rfl)) (by unfold Func.isWrapper; first | (rw [if_pos (by decide +kernel)]; kernel_rfl) | (rw [if_neg (by decide +kernel)]; exact ⟨rfl, rfl⟩))
    (fun os started H enc _ => SkyMoved_lifted os started H enc)
end Go.Proofs.Ytfflbiojcoehmab

/- SkyOutside: no place of an area that a sight excludes agrees with it; a part of the area is excluded, too; an area of one place is excluded if the place does not agree. Condition: none beyond the statement's own. -/
import Derived.Test.YtfflbiojcoehmabMade
import Derived.Test.YtfflbiojcoehmabSkyOt
import Derived.Test.YtfflbiojcoehmabSkyU
import Derived.Test.YtfflbiojcoehmabLaw
import Derived.Test.YtfflbiojcoehmabKit
import Derived.Test.YtfflbiojcoehmabFreeA
namespace Go.Proofs.Ytfflbiojcoehmab
open Go.RowKit Go.Shelf Go.ChangeShapes Go.WideShapes Go.ChangeAt Go.Joins
attribute [local go_sem] Option.isSome_some Ext.cell Ext.frozen Ext.lt Ext.le Ext.lt_add Ext.le_add Ext.ne Ext.ne' lt2 lt3 lt4 lt5 le2 le3 le4
theorem sight_look {s : SkyR} {t : Int} {x : SightR} (hsm : SmallSky s) (hok : SightOk s t x) (ht0 : 0 ≤ t) (ht1 : t < 9) : ∃ k, checkedR s x = .ok k := by
  have ht : tickB x.tick = true := by rw [hok.ot]; unfold tickB; simp; omega
  have hw := whereL_found (h := homeAt s x.tick) hok.os
  have hk := hok.ok
  have hc : ∃ c, coneR s.cats x = .ok c := by
    unfold coneR
    rw [if_pos (biasL_found hok.oc), if_neg]
    · exact ⟨_, rfl⟩
    · have h1 := hok.od
      have h2 := hok.on
      have h3 := hok.oe
      unfold vwinB winB
      simp only [Bool.and_eq_false_iff, decide_eq_false_iff_not]
      omega
  obtain ⟨c, hc⟩ := hc
  have h1 := hok.ol
  have h2 := hok.oh
  have h3 := hok.orr
  have hg : ∃ g, wordR s.cats x = .ok g := by
    unfold wordR
    by_cases e2 : x.kind = 2
    · rw [if_pos e2, if_neg (by omega)]; exact ⟨_, rfl⟩
    · rw [if_neg e2, hc]
      simp only
      by_cases e1 : x.kind = 1
      · rw [if_pos e1]; exact ⟨_, rfl⟩
      · rw [if_neg e1, if_neg (by omega)]; exact ⟨_, rfl⟩
  obtain ⟨g, hg⟩ := hg
  unfold checkedR lookR
  rw [if_pos hsm.e, if_neg (by omega), if_neg (by simp [ht]), if_neg (by simp [hw]), hg]
  exact ⟨_, rfl⟩
theorem out_say {s : SkyR} {t : Int} {x : SightR} {al ah bl bh qx qy : Int} (hsm : SmallSky s) (hok : SightOk s t x) (ht0 : 0 ≤ t) (ht1 : t < 9) (h1 : -20000 ≤ al) (h2 : al ≤ qx) (h3 : qx ≤ ah) (h4 : ah ≤ 20000) (h5 : -20000 ≤ bl) (h6 : bl ≤ qy) (h7 : qy ≤ bh) (h8 : bh ≤ 20000) :
    ∃ i g e : Bool, excludesV s x al ah bl bh = i ∧ agreesV s x ⟨qx, qy⟩ = g ∧ excludesV s x qx qx qy qy = !g ∧ excludesV s x al qx qy bh = e ∧ (i = true → g = false ∧ e = true) := by
  obtain ⟨k, hk⟩ := sight_look hsm hok ht0 ht1
  have pq : vwinB ⟨qx, qy⟩ 33554432 = true := by unfold vwinB winB; simp only [Bool.and_eq_true, decide_eq_true_eq]; omega
  have pp : ∀ a b : Int, -20000 ≤ a → a ≤ b → b ≤ 20000 → partB a b = true := fun a b e1 e2 e3 => by unfold partB; simp only [Bool.and_eq_true, decide_eq_true_eq]; omega
  refine ⟨_, _, _, rfl, rfl, ?_, rfl, ?_⟩
  · unfold excludesV agreesV
    rw [hk]
    simp only [LookR.agrees, pq, pp qx qx (by omega) (by omega) (by omega), pp qy qy (by omega) (by omega) (by omega), Bool.true_and]
    exact excl_point _ _ _
  · unfold excludesV agreesV
    rw [hk]
    simp only [LookR.agrees, pq, pp al ah h1 (by omega) h4, pp bl bh h5 (by omega) h8, pp al qx h1 h2 (by omega), pp qy bh (by omega) h7 h8, Bool.true_and]
    intro h
    exact ⟨excl_out h (by omega) (by omega) (by omega) (by omega), excl_part h (by omega) (by omega) (by omega) (by omega) (by omega) (by omega)⟩
theorem around_any (x y u v : Int) (w : World) (hx : -20000 ≤ x ∧ x ≤ 20000) (hy : -20000 ≤ y ∧ y ≤ 20000) (hu : 0 ≤ u ∧ u ≤ 600) (hv : 0 ≤ v ∧ v ≤ 600) : Calls Try.prog 23 #[.agg #[.int .i64 x, .int .i64 y], .int .i64 u, .int .i64 v] w (Gives (.agg #[.int .i64 (x - u), .int .i64 (x + u), .int .i64 (y - v), .int .i64 (y + v)]) w) := by
  obtain ⟨a1, a2⟩ := hx
  obtain ⟨b1, b2⟩ := hy
  obtain ⟨c1, c2⟩ := hu
  obtain ⟨d1, d2⟩ := hv
  have ca := fun W => area_any (x - u) (x + u) (y - v) (y + v) W
  go_enter Try.func23, Try.ntmps23
  go_wp2_with (first | ((first | with_reducible refine wp_region_ext2 (by kernel_rfl) (by kernel_rfl) ?_ | with_reducible refine wp_region_ext (by kernel_rfl) (by kernel_rfl) ?_); (repeat (first | go_big_quiet_step ((first | (go_at_call 52; with_reducible exact Calls.ext (ca _)))) | quiet_step ((first | (go_at_call 52; with_reducible exact Calls.ext (ca _)))))); refine wpQuiet_nil ?_; rintro _ ⟨yr, rfl⟩; have syr := Ext.size yr; (repeat (first | rw [World.size_alloc] at syr | rw [World.size_setCell] at syr | rw [World.size_drew] at syr))) | (go_at_call 52; (first | with_reducible refine (Calls.giv2 (ca _)).mono ?_ | with_reducible refine (Calls.giv (ca _)).mono ?_); rintro _ _ ⟨y1, rfl, rfl⟩; have sy1 := Ext.size y1; (repeat (first | rw [World.size_alloc] at sy1 | rw [World.size_setCell] at sy1 | rw [World.size_drew] at sy1))))
  go_returns
  refine ⟨rfl, ?_⟩
  repeat' (first | (with_reducible exact Below.refl _ _) | (with_reducible assumption) | (with_reducible refine Ext.below _ ?_ ?_) | (with_reducible refine Below.on ?_ (by with_reducible assumption) ?_) | (with_reducible refine Below.alloc ?_ ?_ _) | (with_reducible refine Below.drew ?_) | (with_reducible refine Below.setCell ?_ ?_ _) | (with_reducible exact Nat.le_refl _) | omega | (simp; done) | (simp [go_sem]; done) | (simp at *; omega))
set_option maxRecDepth 100000 in
set_option maxHeartbeats 16000000 in
theorem SkyOutside_any (sp : Option Addr) (sl sc : Nat) (sz : Nat → Int) (dx dy dw dh px py : Int) (w : World) (hw : ListIn w sp sl sz) (h1 : I64 dx) (h2 : I64 dy) (h3 : I64 dw) (h4 : I64 dh) (h5 : I64 px) (h6 : I64 py) : Calls Try.prog 6 #[.slice sp sl sc, .int .i64 dx, .int .i64 dy, .int .i64 dw, .int .i64 dh, .int .i64 px, .int .i64 py] w (Gives (.bool true) w) := by
  have cm1 := fun W => Mod64_any dx 4001 W h1 (by omega) (by omega)
  have cm2 := fun W => Mod64_any dy 4001 W h2 (by omega) (by omega)
  have cm3 := fun W => Mod64_any dw 600 W h3 (by omega) (by omega)
  have cm4 := fun W => Mod64_any dh 600 W h4 (by omega) (by omega)
  have ca := fun W => skyAwake_any W
  obtain ⟨mx, hmx⟩ : ∃ m, dx % 4001 = m := ⟨_, rfl⟩
  obtain ⟨my, hmy⟩ : ∃ m, dy % 4001 = m := ⟨_, rfl⟩
  obtain ⟨mw, hmw⟩ : ∃ m, dw % 600 = m := ⟨_, rfl⟩
  obtain ⟨mh, hmh⟩ : ∃ m, dh % 600 = m := ⟨_, rfl⟩
  have bx0 : 0 ≤ mx := by omega
  have bx1 : mx < 4001 := by omega
  have by0 : 0 ≤ my := by omega
  have by1 : my < 4001 := by omega
  have bw0 : 0 ≤ mw := by omega
  have bw1 : mw < 600 := by omega
  have bh0 : 0 ≤ mh := by omega
  have bh1 : mh < 600 := by omega
  rw [hmx] at cm1
  rw [hmy] at cm2
  rw [hmw] at cm3
  rw [hmh] at cm4
  clear hmx hmy hmw hmh h1 h2 h3 h4
  go_enter Try.func6, Try.ntmps6
  go_wp2_with (first | ((first | with_reducible refine wp_region_ext2 (by kernel_rfl) (by kernel_rfl) ?_ | with_reducible refine wp_region_ext (by kernel_rfl) (by kernel_rfl) ?_); (repeat (first | go_big_quiet_step ((first | fail)) | quiet_step ((first | fail)))); refine wpQuiet_nil ?_; rintro _ ⟨yr, rfl⟩; have syr := Ext.size yr; (repeat (first | rw [World.size_alloc] at syr | rw [World.size_setCell] at syr | rw [World.size_drew] at syr))) | (go_at_call 19; refine (made_y sp sl sc sz _ hw).mono ?_; rintro _ W1 ⟨s, p, x, t, rfl, hb1, hsm, hAt, hp, hok, ht0, ht1⟩; unfold SkyR.val SightR.val; have hs1 := hb1.size))
  refine wp_named (fun W2 hW => ?_)
  have hY2 : Below W1.heap.size W1 W2 := by rw [← hW]; repeat' (first | (with_reducible exact Below.refl _ _) | (with_reducible assumption) | (with_reducible refine Ext.below _ ?_ ?_) | (with_reducible refine Below.on ?_ (by with_reducible assumption) ?_) | (with_reducible refine Below.alloc ?_ ?_ _) | (with_reducible refine Below.drew ?_) | (with_reducible refine Below.setCell ?_ ?_ _) | (with_reducible exact Nat.le_refl _) | omega | (simp; done) | (simp [go_sem]; done) | (simp at *; omega))
  have k0 : W2.cell? ⟨W1.heap.size, 0, none⟩ = some (.slice s.bp s.bodies.length s.bc) := by rw [← hW]; simp [go_sem]
  have k1 : W2.cell? ⟨W1.heap.size, 1, none⟩ = some (.int .i64 s.home) := by rw [← hW]; simp [go_sem]
  have k2 : W2.cell? ⟨W1.heap.size, 2, none⟩ = some (.slice s.sp s.sts.length s.sc) := by rw [← hW]; simp [go_sem]
  have k3 : W2.cell? ⟨W1.heap.size, 3, none⟩ = some (.slice s.cp s.cats.length s.cc) := by rw [← hW]; simp [go_sem]
  have p0 : W2.cell? ⟨W1.heap.size + 1, 0, none⟩ = some (.int .i64 p.x) := by rw [← hW]; simp [go_sem]
  have p1 : W2.cell? ⟨W1.heap.size + 1, 1, none⟩ = some (.int .i64 p.y) := by rw [← hW]; simp [go_sem]
  have x0 : W2.cell? ⟨W1.heap.size + 1 + 1, 0, none⟩ = some (.int .i64 x.kind) := by rw [← hW]; simp [go_sem]
  have x1 : W2.cell? ⟨W1.heap.size + 1 + 1, 1, none⟩ = some (.int .i64 x.st) := by rw [← hW]; simp [go_sem]
  have x2 : W2.cell? ⟨W1.heap.size + 1 + 1, 2, none⟩ = some (.int .i64 x.cat) := by rw [← hW]; simp [go_sem]
  have x3 : W2.cell? ⟨W1.heap.size + 1 + 1, 3, none⟩ = some (.int .i64 x.tick) := by rw [← hW]; simp [go_sem]
  have x4 : W2.cell? ⟨W1.heap.size + 1 + 1, 4, none⟩ = some (.int .i64 x.dir.x) := by rw [← hW]; simp [go_sem]
  have x5 : W2.cell? ⟨W1.heap.size + 1 + 1, 5, none⟩ = some (.int .i64 x.dir.y) := by rw [← hW]; simp [go_sem]
  have x6 : W2.cell? ⟨W1.heap.size + 1 + 1, 6, none⟩ = some (.int .i64 x.err) := by rw [← hW]; simp [go_sem]
  have x7 : W2.cell? ⟨W1.heap.size + 1 + 1, 7, none⟩ = some (.int .i64 x.lo) := by rw [← hW]; simp [go_sem]
  have x8 : W2.cell? ⟨W1.heap.size + 1 + 1, 8, none⟩ = some (.int .i64 x.hi) := by rw [← hW]; simp [go_sem]
  have l2 : W1.heap.size + 1 + 1 < W2.heap.size := by rw [← hW]; simp
  have l20 : W1.heap.size < W2.heap.size := by omega
  have l21 : W1.heap.size + 1 < W2.heap.size := by omega
  clear hW
  generalize hSB : W1.heap.size = SB at *
  have cE := fun (a b c d : Int) (W : World) (y : Below SB W1 W) => Excludes_any s x a b c d W (hAt.on (hSB ▸ y))
  have cA := fun (q : V2) (W : World) (y : Below SB W1 W) => Agrees_any s x q W (hAt.on (hSB ▸ y))
  have hfin : ∀ W, Below SB W1 W → Below w.heap.size w W := fun W y => hb1.trans (y.mono (by omega))
  unfold SkyR.val SightR.val at cE cA
  clear hb1 hAt
  replace hfin := Go.Lib.hid hfin
  obtain ⟨⟨px0, px1⟩, py0, py1⟩ := hp
  (apply wp_region_free1 13 18 42 #[.int .i64 0, .int .i64 0] #[.int .i64 (IntKind.i64.wrap (IntKind.i64.wrap (p.x + mx) - 2000)), .int .i64 (IntKind.i64.wrap (IntKind.i64.wrap (p.y + my) - 2000))] 33 (by kernel_rfl) (by kernel_rfl)); (case hal1 => (intro a' W' K hk; refine wpOp_step rfl (fun K' hK' => ?_); go_simp; exact hK' _ _ hk)); (case h => (intro z; have sz := z.size; (repeat (first | rw [World.size_alloc] at sz | rw [World.size_setCell] at sz | rw [World.size_drew] at sz)); have : SB < z.now.heap.size := (by omega); have : SB ≤ z.now.heap.size := (by omega); have : SB + 1 < z.now.heap.size := (by omega); have : SB + 1 ≤ z.now.heap.size := (by omega); have : SB + 1 + 1 < z.now.heap.size := (by omega); have : SB + 1 + 1 ≤ z.now.heap.size := (by omega); (repeat (first | go_big_quiet_step ((first | (go_at_call 20; with_reducible exact Calls.ext (cm1 _)) | (go_at_call 20; with_reducible exact Calls.ext (cm2 _)))) | quiet_step ((first | (go_at_call 20; with_reducible exact Calls.ext (cm1 _)) | (go_at_call 20; with_reducible exact Calls.ext (cm2 _)))))); exact wpQuiet_nil rfl)); (case hfs => exact Nat.le_of_ble_eq_true rfl); (case hs1 => (intro a' W' K O hp hx hg hk; refine wpOp_step rfl (fun K' hK' => ?_); refine (if_pos (by rfl)).mpr ?_; exact store_op 33 (.tmp 18) (.tmp 42) rfl O #[.int .i64 (IntKind.i64.wrap (IntKind.i64.wrap (p.x + mx) - 2000)), .int .i64 (IntKind.i64.wrap (IntKind.i64.wrap (p.y + my) - 2000))] hp (hx.trans rfl) 33 _ hg (by kernel_rfl) rfl (by simp [Value.oneCell']) (hK' _ _ hk))); intro yr BV gB1 gB2 gB3; have syr := yr.size; (repeat (first | rw [World.size_alloc] at syr | rw [World.size_setCell] at syr | rw [World.size_drew] at syr)); (repeat (first | rw [World.size_alloc] at gB1 | rw [World.size_setCell] at gB1 | rw [World.size_drew] at gB1)); have : SB < yr.now.heap.size := (by omega); have : SB ≤ yr.now.heap.size := (by omega); have : SB < yr.now.heap.size + 1 := (by omega); have : SB + 1 < yr.now.heap.size := (by omega); have : SB + 1 ≤ yr.now.heap.size := (by omega); have : SB + 1 < yr.now.heap.size + 1 := (by omega); have : SB + 1 + 1 < yr.now.heap.size := (by omega); have : SB + 1 + 1 ≤ yr.now.heap.size := (by omega); have : SB + 1 + 1 < yr.now.heap.size + 1 := (by omega); have kv0 := one_row yr gB3 0; have kv1 := one_row yr gB3 1; simp only [List.getElem?_toArray, List.getElem?_cons_zero, List.getElem?_cons_succ] at kv0 kv1; clear gB3
  have hY3 : Below SB W1 yr.now := hY2.trans (yr.grew.mono (by omega))
  replace k0 := (yr.cell l20).trans k0
  replace k1 := (yr.cell l20).trans k1
  replace k2 := (yr.cell l20).trans k2
  replace k3 := (yr.cell l20).trans k3
  replace x0 := (yr.cell l2).trans x0
  replace x1 := (yr.cell l2).trans x1
  replace x2 := (yr.cell l2).trans x2
  replace x3 := (yr.cell l2).trans x3
  replace x4 := (yr.cell l2).trans x4
  replace x5 := (yr.cell l2).trans x5
  replace x6 := (yr.cell l2).trans x6
  replace x7 := (yr.cell l2).trans x7
  replace x8 := (yr.cell l2).trans x8
  have l3 : SB + 1 + 1 < yr.now.heap.size := by omega
  have l30 : SB < yr.now.heap.size := by omega
  have hBV1 : BV < yr.now.heap.size := by omega
  obtain ⟨cx, hcx⟩ : ∃ q, p.x + mx - 2000 = q := ⟨_, rfl⟩
  obtain ⟨cy, hcy⟩ : ∃ q, p.y + my - 2000 = q := ⟨_, rfl⟩
  have wx1 : IntKind.i64.wrap (p.x + mx) = p.x + mx := IntWalk.i64_in _ (by omega)
  have wy1 : IntKind.i64.wrap (p.y + my) = p.y + my := IntWalk.i64_in _ (by omega)
  have wx3 : IntKind.i64.wrap cx = cx := IntWalk.i64_in _ (by omega)
  have wy3 : IntKind.i64.wrap cy = cy := IntWalk.i64_in _ (by omega)
  simp only [wx1, wx3, wy1, wy3, hcx, hcy] at kv0 kv1 ⊢
  have bcx : -6000 ≤ cx ∧ cx ≤ 6001 := by omega
  have bcy : -6000 ≤ cy ∧ cy ≤ 6001 := by omega
  clear hcx hcy wx1 wy1 wx3 wy3 hY2 l2 l20 l21 p0 p1 cm1 cm2
  clear gB1 gB2 syr
  generalize BV = CB at *
  generalize yr.now = W3 at *
  have cr := fun W => around_any cx cy mw mh W (by omega) (by omega) (by omega) (by omega)
  obtain ⟨al, hal⟩ : ∃ q, cx - mw = q := ⟨_, rfl⟩
  obtain ⟨ah, hah⟩ : ∃ q, cx + mw = q := ⟨_, rfl⟩
  obtain ⟨bl, hbl⟩ : ∃ q, cy - mh = q := ⟨_, rfl⟩
  obtain ⟨bh, hbh⟩ : ∃ q, cy + mh = q := ⟨_, rfl⟩
  rw [hal, hah, hbl, hbh] at cr
  have oa : -20000 ≤ al ∧ al ≤ ah ∧ ah ≤ 20000 := by omega
  have ob : -20000 ≤ bl ∧ bl ≤ bh ∧ bh ≤ 20000 := by omega
  clear hal hah hbl hbh
  go_wp2_with fail
  (apply wp_region_free1 6 19 48 #[.int .i64 0, .int .i64 0, .int .i64 0, .int .i64 0] #[.int .i64 al, .int .i64 ah, .int .i64 bl, .int .i64 bh] 57 (by kernel_rfl) (by kernel_rfl)); (case hal1 => (intro a' W' K hk; refine wpOp_step rfl (fun K' hK' => ?_); go_simp; exact hK' _ _ hk)); (case h => (intro z; have sz := z.size; (repeat (first | rw [World.size_alloc] at sz | rw [World.size_setCell] at sz | rw [World.size_drew] at sz)); have : SB < z.now.heap.size := (by omega); have : SB ≤ z.now.heap.size := (by omega); have : SB + 1 < z.now.heap.size := (by omega); have : SB + 1 ≤ z.now.heap.size := (by omega); have : SB + 1 + 1 < z.now.heap.size := (by omega); have : SB + 1 + 1 ≤ z.now.heap.size := (by omega); have : CB < z.now.heap.size := (by omega); have : CB ≤ z.now.heap.size := (by omega); (repeat (first | go_big_quiet_step ((first | (go_at_call 20; with_reducible exact Calls.ext (cm3 _)) | (go_at_call 20; with_reducible exact Calls.ext (cm4 _)) | (go_at_call 23; with_reducible exact Calls.ext (cr _)))) | quiet_step ((first | (go_at_call 20; with_reducible exact Calls.ext (cm3 _)) | (go_at_call 20; with_reducible exact Calls.ext (cm4 _)) | (go_at_call 23; with_reducible exact Calls.ext (cr _)))))); exact wpQuiet_nil rfl)); (case hfs => exact Nat.le_of_ble_eq_true rfl); (case hs1 => (intro a' W' K O hp hx hg hk; refine wpOp_step rfl (fun K' hK' => ?_); refine (if_pos (by rfl)).mpr ?_; exact store_op 57 (.tmp 19) (.tmp 48) rfl O #[.int .i64 al, .int .i64 ah, .int .i64 bl, .int .i64 bh] hp (hx.trans rfl) 57 _ hg (by kernel_rfl) rfl (by simp [Value.oneCell']) (hK' _ _ hk))); intro yr BV gB1 gB2 gB3; have syr := yr.size; (repeat (first | rw [World.size_alloc] at syr | rw [World.size_setCell] at syr | rw [World.size_drew] at syr)); (repeat (first | rw [World.size_alloc] at gB1 | rw [World.size_setCell] at gB1 | rw [World.size_drew] at gB1)); have : SB < yr.now.heap.size := (by omega); have : SB ≤ yr.now.heap.size := (by omega); have : SB < yr.now.heap.size + 1 := (by omega); have : SB + 1 < yr.now.heap.size := (by omega); have : SB + 1 ≤ yr.now.heap.size := (by omega); have : SB + 1 < yr.now.heap.size + 1 := (by omega); have : SB + 1 + 1 < yr.now.heap.size := (by omega); have : SB + 1 + 1 ≤ yr.now.heap.size := (by omega); have : SB + 1 + 1 < yr.now.heap.size + 1 := (by omega); have : CB < yr.now.heap.size := (by omega); have : CB ≤ yr.now.heap.size := (by omega); have : CB < yr.now.heap.size + 1 := (by omega); have kv0 := one_row yr gB3 0; have kv1 := one_row yr gB3 1; have kv2 := one_row yr gB3 2; have kv3 := one_row yr gB3 3; simp only [List.getElem?_toArray, List.getElem?_cons_zero, List.getElem?_cons_succ] at kv0 kv1 kv2 kv3; clear gB3
  have hY4 : Below SB W1 yr.now := hY3.trans (yr.grew.mono (by omega))
  replace k0 := (yr.cell l30).trans k0
  replace k1 := (yr.cell l30).trans k1
  replace k2 := (yr.cell l30).trans k2
  replace k3 := (yr.cell l30).trans k3
  replace x0 := (yr.cell l3).trans x0
  replace x1 := (yr.cell l3).trans x1
  replace x2 := (yr.cell l3).trans x2
  replace x3 := (yr.cell l3).trans x3
  replace x4 := (yr.cell l3).trans x4
  replace x5 := (yr.cell l3).trans x5
  replace x6 := (yr.cell l3).trans x6
  replace x7 := (yr.cell l3).trans x7
  replace x8 := (yr.cell l3).trans x8
  have l4 : SB + 1 + 1 < yr.now.heap.size := by omega
  have l40 : SB < yr.now.heap.size := by omega
  have hBV1 : BV < yr.now.heap.size := by omega
  have a0 := kv0
  have a1 := kv1
  have a2 := kv2
  have a3 := kv3
  clear kv0 kv1 kv2 kv3 hY3 l3 l30 gB1 gB2 syr cm3 cm4 cr
  generalize BV = AB at *
  generalize yr.now = W4 at *
  obtain ⟨ux, hux⟩ : ∃ m, px % (ah - al + 1) = m := ⟨_, rfl⟩
  obtain ⟨uy, huy⟩ : ∃ m, py % (bh - bl + 1) = m := ⟨_, rfl⟩
  have bu0 : 0 ≤ ux := by rw [← hux]; exact Int.emod_nonneg _ (by omega)
  have bu1 : ux < ah - al + 1 := by rw [← hux]; exact Int.emod_lt_of_pos _ (by omega)
  have bu2 : 0 ≤ uy := by rw [← huy]; exact Int.emod_nonneg _ (by omega)
  have bu3 : uy < bh - bl + 1 := by rw [← huy]; exact Int.emod_lt_of_pos _ (by omega)
  have cm5 : ∀ W, Calls Try.prog 20 #[.int .i64 px, .int .i64 (IntKind.i64.wrap (IntKind.i64.wrap (ah - al) + 1))] W (Gives (.int .i64 ux) W) := fun W => by
    have wa : IntKind.i64.wrap (ah - al) = ah - al := IntWalk.i64_in _ (by omega)
    have wb : IntKind.i64.wrap (ah - al + 1) = ah - al + 1 := IntWalk.i64_in _ (by omega)
    rw [wa, wb, ← hux]
    exact Mod64_any px (ah - al + 1) W h5 (by omega) (by omega)
  have cm6 : ∀ W, Calls Try.prog 20 #[.int .i64 py, .int .i64 (IntKind.i64.wrap (IntKind.i64.wrap (bh - bl) + 1))] W (Gives (.int .i64 uy) W) := fun W => by
    have wa : IntKind.i64.wrap (bh - bl) = bh - bl := IntWalk.i64_in _ (by omega)
    have wb : IntKind.i64.wrap (bh - bl + 1) = bh - bl + 1 := IntWalk.i64_in _ (by omega)
    rw [wa, wb, ← huy]
    exact Mod64_any py (bh - bl + 1) W h6 (by omega) (by omega)
  clear hux huy h5 h6
  go_wp2_with fail
  (apply wp_region_free1 29 20 77 #[.int .i64 0, .int .i64 0] #[.int .i64 (IntKind.i64.wrap (al + ux)), .int .i64 (IntKind.i64.wrap (bl + uy))] 33 (by kernel_rfl) (by kernel_rfl)); (case hal1 => (intro a' W' K hk; refine wpOp_step rfl (fun K' hK' => ?_); go_simp; exact hK' _ _ hk)); (case h => (intro z; have sz := z.size; (repeat (first | rw [World.size_alloc] at sz | rw [World.size_setCell] at sz | rw [World.size_drew] at sz)); have : SB < z.now.heap.size := (by omega); have : SB ≤ z.now.heap.size := (by omega); have : SB + 1 < z.now.heap.size := (by omega); have : SB + 1 ≤ z.now.heap.size := (by omega); have : SB + 1 + 1 < z.now.heap.size := (by omega); have : SB + 1 + 1 ≤ z.now.heap.size := (by omega); have : CB < z.now.heap.size := (by omega); have : CB ≤ z.now.heap.size := (by omega); have : AB < z.now.heap.size := (by omega); have : AB ≤ z.now.heap.size := (by omega); (repeat (first | go_big_quiet_step ((first | (go_at_call 20; with_reducible exact Calls.ext (cm5 _)) | (go_at_call 20; with_reducible exact Calls.ext (cm6 _)))) | quiet_step ((first | (go_at_call 20; with_reducible exact Calls.ext (cm5 _)) | (go_at_call 20; with_reducible exact Calls.ext (cm6 _)))))); exact wpQuiet_nil rfl)); (case hfs => exact Nat.le_of_ble_eq_true rfl); (case hs1 => (intro a' W' K O hp hx hg hk; refine wpOp_step rfl (fun K' hK' => ?_); refine (if_pos (by rfl)).mpr ?_; exact store_op 33 (.tmp 20) (.tmp 77) rfl O #[.int .i64 (IntKind.i64.wrap (al + ux)), .int .i64 (IntKind.i64.wrap (bl + uy))] hp (hx.trans rfl) 33 _ hg (by kernel_rfl) rfl (by simp [Value.oneCell']) (hK' _ _ hk))); intro yr BV gB1 gB2 gB3; have syr := yr.size; (repeat (first | rw [World.size_alloc] at syr | rw [World.size_setCell] at syr | rw [World.size_drew] at syr)); (repeat (first | rw [World.size_alloc] at gB1 | rw [World.size_setCell] at gB1 | rw [World.size_drew] at gB1)); have : SB < yr.now.heap.size := (by omega); have : SB ≤ yr.now.heap.size := (by omega); have : SB < yr.now.heap.size + 1 := (by omega); have : SB + 1 < yr.now.heap.size := (by omega); have : SB + 1 ≤ yr.now.heap.size := (by omega); have : SB + 1 < yr.now.heap.size + 1 := (by omega); have : SB + 1 + 1 < yr.now.heap.size := (by omega); have : SB + 1 + 1 ≤ yr.now.heap.size := (by omega); have : SB + 1 + 1 < yr.now.heap.size + 1 := (by omega); have : CB < yr.now.heap.size := (by omega); have : CB ≤ yr.now.heap.size := (by omega); have : CB < yr.now.heap.size + 1 := (by omega); have : AB < yr.now.heap.size := (by omega); have : AB ≤ yr.now.heap.size := (by omega); have : AB < yr.now.heap.size + 1 := (by omega); have kv0 := one_row yr gB3 0; have kv1 := one_row yr gB3 1; simp only [List.getElem?_toArray, List.getElem?_cons_zero, List.getElem?_cons_succ] at kv0 kv1; clear gB3
  have hY5 : Below SB W1 yr.now := hY4.trans (yr.grew.mono (by omega))
  replace k0 := (yr.cell l40).trans k0
  replace k1 := (yr.cell l40).trans k1
  replace k2 := (yr.cell l40).trans k2
  replace k3 := (yr.cell l40).trans k3
  replace x0 := (yr.cell l4).trans x0
  replace x1 := (yr.cell l4).trans x1
  replace x2 := (yr.cell l4).trans x2
  replace x3 := (yr.cell l4).trans x3
  replace x4 := (yr.cell l4).trans x4
  replace x5 := (yr.cell l4).trans x5
  replace x6 := (yr.cell l4).trans x6
  replace x7 := (yr.cell l4).trans x7
  replace x8 := (yr.cell l4).trans x8
  replace a0 := (yr.cell hBV1).trans a0
  replace a1 := (yr.cell hBV1).trans a1
  replace a2 := (yr.cell hBV1).trans a2
  replace a3 := (yr.cell hBV1).trans a3
  have l5 : SB + 1 + 1 < yr.now.heap.size := by omega
  have l50 : SB < yr.now.heap.size := by omega
  have hAB : AB < yr.now.heap.size := by omega
  have hBV2 : BV < yr.now.heap.size := by omega
  obtain ⟨qx, hqx⟩ : ∃ q, al + ux = q := ⟨_, rfl⟩
  obtain ⟨qy, hqy⟩ : ∃ q, bl + uy = q := ⟨_, rfl⟩
  have wx3 : IntKind.i64.wrap qx = qx := IntWalk.i64_in _ (by omega)
  have wy3 : IntKind.i64.wrap qy = qy := IntWalk.i64_in _ (by omega)
  simp only [hqx, hqy, wx3, wy3] at kv0 kv1 ⊢
  clear wx3 wy3
  have bq : al ≤ qx ∧ qx ≤ ah ∧ bl ≤ qy ∧ qy ≤ bh := by omega
  obtain ⟨i, g, e, e1, e2, e3, e4, himp⟩ := out_say (al := al) (ah := ah) (bl := bl) (bh := bh) (qx := qx) (qy := qy) hsm hok ht0 ht1 (by omega) (by omega) (by omega) (by omega) (by omega) (by omega) (by omega) (by omega)
  have c0 := fun W => around_any qx qy 0 0 W (by omega) (by omega) (by omega) (by omega)
  simp only [Int.sub_zero, Int.add_zero] at c0
  have ce1 := cE al ah bl bh
  have ce2 := cE qx qx qy qy
  have ce3 := cE al qx qy bh
  have cg := cA ⟨qx, qy⟩
  rw [e1] at ce1
  rw [e3] at ce2
  rw [e4] at ce3
  rw [e2] at cg
  clear e1 e2 e3 e4 hsm hok ht0 ht1 cE cA hqx hqy hY4 l4 l40 hBV1 gB1 gB2 syr cm5 cm6 bu0 bu1 bu2 bu3
  generalize BV = QB at *
  generalize yr.now = W5 at *
  cases i <;> cases g
  case true.true => exact absurd (himp rfl).1 (by decide)
  case true.false =>
    obtain rfl : e = true := (himp rfl).2
    clear himp
    go_wp2_with (first | ((first | with_reducible refine wp_region_ext2 (by kernel_rfl) (by kernel_rfl) ?_ | with_reducible refine wp_region_ext (by kernel_rfl) (by kernel_rfl) ?_); (repeat (first | go_big_quiet_step ((first | (go_at_call 22; with_reducible exact Calls.ext (ce1 _ (by repeat' (first | (with_reducible exact Below.refl _ _) | (with_reducible assumption) | (with_reducible refine Ext.below _ ?_ ?_) | (with_reducible refine Below.on ?_ (by with_reducible assumption) ?_) | (with_reducible refine Below.alloc ?_ ?_ _) | (with_reducible refine Below.drew ?_) | (with_reducible refine Below.setCell ?_ ?_ _) | (with_reducible exact Nat.le_refl _) | omega | (simp; done) | (simp [go_sem]; done) | (simp at *; omega))))) | (go_at_call 22; with_reducible exact Calls.ext (ce2 _ (by repeat' (first | (with_reducible exact Below.refl _ _) | (with_reducible assumption) | (with_reducible refine Ext.below _ ?_ ?_) | (with_reducible refine Below.on ?_ (by with_reducible assumption) ?_) | (with_reducible refine Below.alloc ?_ ?_ _) | (with_reducible refine Below.drew ?_) | (with_reducible refine Below.setCell ?_ ?_ _) | (with_reducible exact Nat.le_refl _) | omega | (simp; done) | (simp [go_sem]; done) | (simp at *; omega))))) | (go_at_call 22; with_reducible exact Calls.ext (ce3 _ (by repeat' (first | (with_reducible exact Below.refl _ _) | (with_reducible assumption) | (with_reducible refine Ext.below _ ?_ ?_) | (with_reducible refine Below.on ?_ (by with_reducible assumption) ?_) | (with_reducible refine Below.alloc ?_ ?_ _) | (with_reducible refine Below.drew ?_) | (with_reducible refine Below.setCell ?_ ?_ _) | (with_reducible exact Nat.le_refl _) | omega | (simp; done) | (simp [go_sem]; done) | (simp at *; omega))))) | (go_at_call 21; with_reducible exact Calls.ext (cg _ (by repeat' (first | (with_reducible exact Below.refl _ _) | (with_reducible assumption) | (with_reducible refine Ext.below _ ?_ ?_) | (with_reducible refine Below.on ?_ (by with_reducible assumption) ?_) | (with_reducible refine Below.alloc ?_ ?_ _) | (with_reducible refine Below.drew ?_) | (with_reducible refine Below.setCell ?_ ?_ _) | (with_reducible exact Nat.le_refl _) | omega | (simp; done) | (simp [go_sem]; done) | (simp at *; omega))))) | (go_at_call 23; with_reducible exact Calls.ext (c0 _)) | (go_at_call 8; with_reducible exact Calls.ext (ca _)))) | quiet_step ((first | (go_at_call 22; with_reducible exact Calls.ext (ce1 _ (by repeat' (first | (with_reducible exact Below.refl _ _) | (with_reducible assumption) | (with_reducible refine Ext.below _ ?_ ?_) | (with_reducible refine Below.on ?_ (by with_reducible assumption) ?_) | (with_reducible refine Below.alloc ?_ ?_ _) | (with_reducible refine Below.drew ?_) | (with_reducible refine Below.setCell ?_ ?_ _) | (with_reducible exact Nat.le_refl _) | omega | (simp; done) | (simp [go_sem]; done) | (simp at *; omega))))) | (go_at_call 22; with_reducible exact Calls.ext (ce2 _ (by repeat' (first | (with_reducible exact Below.refl _ _) | (with_reducible assumption) | (with_reducible refine Ext.below _ ?_ ?_) | (with_reducible refine Below.on ?_ (by with_reducible assumption) ?_) | (with_reducible refine Below.alloc ?_ ?_ _) | (with_reducible refine Below.drew ?_) | (with_reducible refine Below.setCell ?_ ?_ _) | (with_reducible exact Nat.le_refl _) | omega | (simp; done) | (simp [go_sem]; done) | (simp at *; omega))))) | (go_at_call 22; with_reducible exact Calls.ext (ce3 _ (by repeat' (first | (with_reducible exact Below.refl _ _) | (with_reducible assumption) | (with_reducible refine Ext.below _ ?_ ?_) | (with_reducible refine Below.on ?_ (by with_reducible assumption) ?_) | (with_reducible refine Below.alloc ?_ ?_ _) | (with_reducible refine Below.drew ?_) | (with_reducible refine Below.setCell ?_ ?_ _) | (with_reducible exact Nat.le_refl _) | omega | (simp; done) | (simp [go_sem]; done) | (simp at *; omega))))) | (go_at_call 21; with_reducible exact Calls.ext (cg _ (by repeat' (first | (with_reducible exact Below.refl _ _) | (with_reducible assumption) | (with_reducible refine Ext.below _ ?_ ?_) | (with_reducible refine Below.on ?_ (by with_reducible assumption) ?_) | (with_reducible refine Below.alloc ?_ ?_ _) | (with_reducible refine Below.drew ?_) | (with_reducible refine Below.setCell ?_ ?_ _) | (with_reducible exact Nat.le_refl _) | omega | (simp; done) | (simp [go_sem]; done) | (simp at *; omega))))) | (go_at_call 23; with_reducible exact Calls.ext (c0 _)) | (go_at_call 8; with_reducible exact Calls.ext (ca _)))))); refine wpQuiet_nil ?_; rintro _ ⟨yr, rfl⟩; have syr := Ext.size yr; (repeat (first | rw [World.size_alloc] at syr | rw [World.size_setCell] at syr | rw [World.size_drew] at syr)); have : SB < yr.now.heap.size := (by omega); have : SB ≤ yr.now.heap.size := (by omega); have : SB < yr.now.heap.size + 1 + 1 := (by omega); have : SB + 1 < yr.now.heap.size := (by omega); have : SB + 1 ≤ yr.now.heap.size := (by omega); have : SB + 1 < yr.now.heap.size + 1 + 1 := (by omega); have : SB + 1 + 1 < yr.now.heap.size := (by omega); have : SB + 1 + 1 ≤ yr.now.heap.size := (by omega); have : SB + 1 + 1 < yr.now.heap.size + 1 + 1 := (by omega); have : CB < yr.now.heap.size := (by omega); have : CB ≤ yr.now.heap.size := (by omega); have : CB < yr.now.heap.size + 1 + 1 := (by omega); have : AB < yr.now.heap.size := (by omega); have : AB ≤ yr.now.heap.size := (by omega); have : AB < yr.now.heap.size + 1 + 1 := (by omega); have : QB < yr.now.heap.size := (by omega); have : QB ≤ yr.now.heap.size := (by omega); have : QB < yr.now.heap.size + 1 + 1 := (by omega)) | (go_at_call 22; (first | with_reducible refine (Calls.giv2 (ce1 _ (by repeat' (first | (with_reducible exact Below.refl _ _) | (with_reducible assumption) | (with_reducible refine Ext.below _ ?_ ?_) | (with_reducible refine Below.on ?_ (by with_reducible assumption) ?_) | (with_reducible refine Below.alloc ?_ ?_ _) | (with_reducible refine Below.drew ?_) | (with_reducible refine Below.setCell ?_ ?_ _) | (with_reducible exact Nat.le_refl _) | omega | (simp; done) | (simp [go_sem]; done) | (simp at *; omega))))).mono ?_ | with_reducible refine (Calls.giv (ce1 _ (by repeat' (first | (with_reducible exact Below.refl _ _) | (with_reducible assumption) | (with_reducible refine Ext.below _ ?_ ?_) | (with_reducible refine Below.on ?_ (by with_reducible assumption) ?_) | (with_reducible refine Below.alloc ?_ ?_ _) | (with_reducible refine Below.drew ?_) | (with_reducible refine Below.setCell ?_ ?_ _) | (with_reducible exact Nat.le_refl _) | omega | (simp; done) | (simp [go_sem]; done) | (simp at *; omega))))).mono ?_); rintro _ _ ⟨y1, rfl, rfl⟩; have sy1 := Ext.size y1; (repeat (first | rw [World.size_alloc] at sy1 | rw [World.size_setCell] at sy1 | rw [World.size_drew] at sy1)); have : SB < y1.now.heap.size := (by omega); have : SB ≤ y1.now.heap.size := (by omega); have : SB < y1.now.heap.size + 1 + 1 := (by omega); have : SB + 1 < y1.now.heap.size := (by omega); have : SB + 1 ≤ y1.now.heap.size := (by omega); have : SB + 1 < y1.now.heap.size + 1 + 1 := (by omega); have : SB + 1 + 1 < y1.now.heap.size := (by omega); have : SB + 1 + 1 ≤ y1.now.heap.size := (by omega); have : SB + 1 + 1 < y1.now.heap.size + 1 + 1 := (by omega); have : CB < y1.now.heap.size := (by omega); have : CB ≤ y1.now.heap.size := (by omega); have : CB < y1.now.heap.size + 1 + 1 := (by omega); have : AB < y1.now.heap.size := (by omega); have : AB ≤ y1.now.heap.size := (by omega); have : AB < y1.now.heap.size + 1 + 1 := (by omega); have : QB < y1.now.heap.size := (by omega); have : QB ≤ y1.now.heap.size := (by omega); have : QB < y1.now.heap.size + 1 + 1 := (by omega)) | (go_at_call 22; (first | with_reducible refine (Calls.giv2 (ce2 _ (by repeat' (first | (with_reducible exact Below.refl _ _) | (with_reducible assumption) | (with_reducible refine Ext.below _ ?_ ?_) | (with_reducible refine Below.on ?_ (by with_reducible assumption) ?_) | (with_reducible refine Below.alloc ?_ ?_ _) | (with_reducible refine Below.drew ?_) | (with_reducible refine Below.setCell ?_ ?_ _) | (with_reducible exact Nat.le_refl _) | omega | (simp; done) | (simp [go_sem]; done) | (simp at *; omega))))).mono ?_ | with_reducible refine (Calls.giv (ce2 _ (by repeat' (first | (with_reducible exact Below.refl _ _) | (with_reducible assumption) | (with_reducible refine Ext.below _ ?_ ?_) | (with_reducible refine Below.on ?_ (by with_reducible assumption) ?_) | (with_reducible refine Below.alloc ?_ ?_ _) | (with_reducible refine Below.drew ?_) | (with_reducible refine Below.setCell ?_ ?_ _) | (with_reducible exact Nat.le_refl _) | omega | (simp; done) | (simp [go_sem]; done) | (simp at *; omega))))).mono ?_); rintro _ _ ⟨y2, rfl, rfl⟩; have sy2 := Ext.size y2; (repeat (first | rw [World.size_alloc] at sy2 | rw [World.size_setCell] at sy2 | rw [World.size_drew] at sy2)); have : SB < y2.now.heap.size := (by omega); have : SB ≤ y2.now.heap.size := (by omega); have : SB < y2.now.heap.size + 1 + 1 := (by omega); have : SB + 1 < y2.now.heap.size := (by omega); have : SB + 1 ≤ y2.now.heap.size := (by omega); have : SB + 1 < y2.now.heap.size + 1 + 1 := (by omega); have : SB + 1 + 1 < y2.now.heap.size := (by omega); have : SB + 1 + 1 ≤ y2.now.heap.size := (by omega); have : SB + 1 + 1 < y2.now.heap.size + 1 + 1 := (by omega); have : CB < y2.now.heap.size := (by omega); have : CB ≤ y2.now.heap.size := (by omega); have : CB < y2.now.heap.size + 1 + 1 := (by omega); have : AB < y2.now.heap.size := (by omega); have : AB ≤ y2.now.heap.size := (by omega); have : AB < y2.now.heap.size + 1 + 1 := (by omega); have : QB < y2.now.heap.size := (by omega); have : QB ≤ y2.now.heap.size := (by omega); have : QB < y2.now.heap.size + 1 + 1 := (by omega)) | (go_at_call 22; (first | with_reducible refine (Calls.giv2 (ce3 _ (by repeat' (first | (with_reducible exact Below.refl _ _) | (with_reducible assumption) | (with_reducible refine Ext.below _ ?_ ?_) | (with_reducible refine Below.on ?_ (by with_reducible assumption) ?_) | (with_reducible refine Below.alloc ?_ ?_ _) | (with_reducible refine Below.drew ?_) | (with_reducible refine Below.setCell ?_ ?_ _) | (with_reducible exact Nat.le_refl _) | omega | (simp; done) | (simp [go_sem]; done) | (simp at *; omega))))).mono ?_ | with_reducible refine (Calls.giv (ce3 _ (by repeat' (first | (with_reducible exact Below.refl _ _) | (with_reducible assumption) | (with_reducible refine Ext.below _ ?_ ?_) | (with_reducible refine Below.on ?_ (by with_reducible assumption) ?_) | (with_reducible refine Below.alloc ?_ ?_ _) | (with_reducible refine Below.drew ?_) | (with_reducible refine Below.setCell ?_ ?_ _) | (with_reducible exact Nat.le_refl _) | omega | (simp; done) | (simp [go_sem]; done) | (simp at *; omega))))).mono ?_); rintro _ _ ⟨y3, rfl, rfl⟩; have sy3 := Ext.size y3; (repeat (first | rw [World.size_alloc] at sy3 | rw [World.size_setCell] at sy3 | rw [World.size_drew] at sy3)); have : SB < y3.now.heap.size := (by omega); have : SB ≤ y3.now.heap.size := (by omega); have : SB < y3.now.heap.size + 1 + 1 := (by omega); have : SB + 1 < y3.now.heap.size := (by omega); have : SB + 1 ≤ y3.now.heap.size := (by omega); have : SB + 1 < y3.now.heap.size + 1 + 1 := (by omega); have : SB + 1 + 1 < y3.now.heap.size := (by omega); have : SB + 1 + 1 ≤ y3.now.heap.size := (by omega); have : SB + 1 + 1 < y3.now.heap.size + 1 + 1 := (by omega); have : CB < y3.now.heap.size := (by omega); have : CB ≤ y3.now.heap.size := (by omega); have : CB < y3.now.heap.size + 1 + 1 := (by omega); have : AB < y3.now.heap.size := (by omega); have : AB ≤ y3.now.heap.size := (by omega); have : AB < y3.now.heap.size + 1 + 1 := (by omega); have : QB < y3.now.heap.size := (by omega); have : QB ≤ y3.now.heap.size := (by omega); have : QB < y3.now.heap.size + 1 + 1 := (by omega)) | (go_at_call 21; (first | with_reducible refine (Calls.giv2 (cg _ (by repeat' (first | (with_reducible exact Below.refl _ _) | (with_reducible assumption) | (with_reducible refine Ext.below _ ?_ ?_) | (with_reducible refine Below.on ?_ (by with_reducible assumption) ?_) | (with_reducible refine Below.alloc ?_ ?_ _) | (with_reducible refine Below.drew ?_) | (with_reducible refine Below.setCell ?_ ?_ _) | (with_reducible exact Nat.le_refl _) | omega | (simp; done) | (simp [go_sem]; done) | (simp at *; omega))))).mono ?_ | with_reducible refine (Calls.giv (cg _ (by repeat' (first | (with_reducible exact Below.refl _ _) | (with_reducible assumption) | (with_reducible refine Ext.below _ ?_ ?_) | (with_reducible refine Below.on ?_ (by with_reducible assumption) ?_) | (with_reducible refine Below.alloc ?_ ?_ _) | (with_reducible refine Below.drew ?_) | (with_reducible refine Below.setCell ?_ ?_ _) | (with_reducible exact Nat.le_refl _) | omega | (simp; done) | (simp [go_sem]; done) | (simp at *; omega))))).mono ?_); rintro _ _ ⟨y4, rfl, rfl⟩; have sy4 := Ext.size y4; (repeat (first | rw [World.size_alloc] at sy4 | rw [World.size_setCell] at sy4 | rw [World.size_drew] at sy4)); have : SB < y4.now.heap.size := (by omega); have : SB ≤ y4.now.heap.size := (by omega); have : SB < y4.now.heap.size + 1 + 1 := (by omega); have : SB + 1 < y4.now.heap.size := (by omega); have : SB + 1 ≤ y4.now.heap.size := (by omega); have : SB + 1 < y4.now.heap.size + 1 + 1 := (by omega); have : SB + 1 + 1 < y4.now.heap.size := (by omega); have : SB + 1 + 1 ≤ y4.now.heap.size := (by omega); have : SB + 1 + 1 < y4.now.heap.size + 1 + 1 := (by omega); have : CB < y4.now.heap.size := (by omega); have : CB ≤ y4.now.heap.size := (by omega); have : CB < y4.now.heap.size + 1 + 1 := (by omega); have : AB < y4.now.heap.size := (by omega); have : AB ≤ y4.now.heap.size := (by omega); have : AB < y4.now.heap.size + 1 + 1 := (by omega); have : QB < y4.now.heap.size := (by omega); have : QB ≤ y4.now.heap.size := (by omega); have : QB < y4.now.heap.size + 1 + 1 := (by omega)) | (go_at_call 23; (first | with_reducible refine (Calls.giv2 (c0 _)).mono ?_ | with_reducible refine (Calls.giv (c0 _)).mono ?_); rintro _ _ ⟨y5, rfl, rfl⟩; have sy5 := Ext.size y5; (repeat (first | rw [World.size_alloc] at sy5 | rw [World.size_setCell] at sy5 | rw [World.size_drew] at sy5)); have : SB < y5.now.heap.size := (by omega); have : SB ≤ y5.now.heap.size := (by omega); have : SB < y5.now.heap.size + 1 + 1 := (by omega); have : SB + 1 < y5.now.heap.size := (by omega); have : SB + 1 ≤ y5.now.heap.size := (by omega); have : SB + 1 < y5.now.heap.size + 1 + 1 := (by omega); have : SB + 1 + 1 < y5.now.heap.size := (by omega); have : SB + 1 + 1 ≤ y5.now.heap.size := (by omega); have : SB + 1 + 1 < y5.now.heap.size + 1 + 1 := (by omega); have : CB < y5.now.heap.size := (by omega); have : CB ≤ y5.now.heap.size := (by omega); have : CB < y5.now.heap.size + 1 + 1 := (by omega); have : AB < y5.now.heap.size := (by omega); have : AB ≤ y5.now.heap.size := (by omega); have : AB < y5.now.heap.size + 1 + 1 := (by omega); have : QB < y5.now.heap.size := (by omega); have : QB ≤ y5.now.heap.size := (by omega); have : QB < y5.now.heap.size + 1 + 1 := (by omega)) | (go_at_call 8; (first | with_reducible refine (Calls.giv2 (ca _)).mono ?_ | with_reducible refine (Calls.giv (ca _)).mono ?_); rintro _ _ ⟨y6, rfl, rfl⟩; have sy6 := Ext.size y6; (repeat (first | rw [World.size_alloc] at sy6 | rw [World.size_setCell] at sy6 | rw [World.size_drew] at sy6)); have : SB < y6.now.heap.size := (by omega); have : SB ≤ y6.now.heap.size := (by omega); have : SB < y6.now.heap.size + 1 + 1 := (by omega); have : SB + 1 < y6.now.heap.size := (by omega); have : SB + 1 ≤ y6.now.heap.size := (by omega); have : SB + 1 < y6.now.heap.size + 1 + 1 := (by omega); have : SB + 1 + 1 < y6.now.heap.size := (by omega); have : SB + 1 + 1 ≤ y6.now.heap.size := (by omega); have : SB + 1 + 1 < y6.now.heap.size + 1 + 1 := (by omega); have : CB < y6.now.heap.size := (by omega); have : CB ≤ y6.now.heap.size := (by omega); have : CB < y6.now.heap.size + 1 + 1 := (by omega); have : AB < y6.now.heap.size := (by omega); have : AB ≤ y6.now.heap.size := (by omega); have : AB < y6.now.heap.size + 1 + 1 := (by omega); have : QB < y6.now.heap.size := (by omega); have : QB ≤ y6.now.heap.size := (by omega); have : QB < y6.now.heap.size + 1 + 1 := (by omega)))
    go_returns
    refine ⟨rfl, hfin.out _ ?_⟩
    repeat' (first | (with_reducible exact Below.refl _ _) | (with_reducible assumption) | (with_reducible refine Ext.below _ ?_ ?_) | (with_reducible refine Below.on ?_ (by with_reducible assumption) ?_) | (with_reducible refine Below.alloc ?_ ?_ _) | (with_reducible refine Below.drew ?_) | (with_reducible refine Below.setCell ?_ ?_ _) | (with_reducible exact Nat.le_refl _) | omega | (simp; done) | (simp [go_sem]; done) | (simp at *; omega))
  all_goals
    clear himp ce3
    go_wp2_with (first | ((first | with_reducible refine wp_region_ext2 (by kernel_rfl) (by kernel_rfl) ?_ | with_reducible refine wp_region_ext (by kernel_rfl) (by kernel_rfl) ?_); (repeat (first | go_big_quiet_step ((first | (go_at_call 22; with_reducible exact Calls.ext (ce1 _ (by repeat' (first | (with_reducible exact Below.refl _ _) | (with_reducible assumption) | (with_reducible refine Ext.below _ ?_ ?_) | (with_reducible refine Below.on ?_ (by with_reducible assumption) ?_) | (with_reducible refine Below.alloc ?_ ?_ _) | (with_reducible refine Below.drew ?_) | (with_reducible refine Below.setCell ?_ ?_ _) | (with_reducible exact Nat.le_refl _) | omega | (simp; done) | (simp [go_sem]; done) | (simp at *; omega))))) | (go_at_call 22; with_reducible exact Calls.ext (ce2 _ (by repeat' (first | (with_reducible exact Below.refl _ _) | (with_reducible assumption) | (with_reducible refine Ext.below _ ?_ ?_) | (with_reducible refine Below.on ?_ (by with_reducible assumption) ?_) | (with_reducible refine Below.alloc ?_ ?_ _) | (with_reducible refine Below.drew ?_) | (with_reducible refine Below.setCell ?_ ?_ _) | (with_reducible exact Nat.le_refl _) | omega | (simp; done) | (simp [go_sem]; done) | (simp at *; omega))))) | (go_at_call 21; with_reducible exact Calls.ext (cg _ (by repeat' (first | (with_reducible exact Below.refl _ _) | (with_reducible assumption) | (with_reducible refine Ext.below _ ?_ ?_) | (with_reducible refine Below.on ?_ (by with_reducible assumption) ?_) | (with_reducible refine Below.alloc ?_ ?_ _) | (with_reducible refine Below.drew ?_) | (with_reducible refine Below.setCell ?_ ?_ _) | (with_reducible exact Nat.le_refl _) | omega | (simp; done) | (simp [go_sem]; done) | (simp at *; omega))))) | (go_at_call 23; with_reducible exact Calls.ext (c0 _)) | (go_at_call 8; with_reducible exact Calls.ext (ca _)))) | quiet_step ((first | (go_at_call 22; with_reducible exact Calls.ext (ce1 _ (by repeat' (first | (with_reducible exact Below.refl _ _) | (with_reducible assumption) | (with_reducible refine Ext.below _ ?_ ?_) | (with_reducible refine Below.on ?_ (by with_reducible assumption) ?_) | (with_reducible refine Below.alloc ?_ ?_ _) | (with_reducible refine Below.drew ?_) | (with_reducible refine Below.setCell ?_ ?_ _) | (with_reducible exact Nat.le_refl _) | omega | (simp; done) | (simp [go_sem]; done) | (simp at *; omega))))) | (go_at_call 22; with_reducible exact Calls.ext (ce2 _ (by repeat' (first | (with_reducible exact Below.refl _ _) | (with_reducible assumption) | (with_reducible refine Ext.below _ ?_ ?_) | (with_reducible refine Below.on ?_ (by with_reducible assumption) ?_) | (with_reducible refine Below.alloc ?_ ?_ _) | (with_reducible refine Below.drew ?_) | (with_reducible refine Below.setCell ?_ ?_ _) | (with_reducible exact Nat.le_refl _) | omega | (simp; done) | (simp [go_sem]; done) | (simp at *; omega))))) | (go_at_call 21; with_reducible exact Calls.ext (cg _ (by repeat' (first | (with_reducible exact Below.refl _ _) | (with_reducible assumption) | (with_reducible refine Ext.below _ ?_ ?_) | (with_reducible refine Below.on ?_ (by with_reducible assumption) ?_) | (with_reducible refine Below.alloc ?_ ?_ _) | (with_reducible refine Below.drew ?_) | (with_reducible refine Below.setCell ?_ ?_ _) | (with_reducible exact Nat.le_refl _) | omega | (simp; done) | (simp [go_sem]; done) | (simp at *; omega))))) | (go_at_call 23; with_reducible exact Calls.ext (c0 _)) | (go_at_call 8; with_reducible exact Calls.ext (ca _)))))); refine wpQuiet_nil ?_; rintro _ ⟨yr, rfl⟩; have syr := Ext.size yr; (repeat (first | rw [World.size_alloc] at syr | rw [World.size_setCell] at syr | rw [World.size_drew] at syr)); have : SB < yr.now.heap.size := (by omega); have : SB ≤ yr.now.heap.size := (by omega); have : SB < yr.now.heap.size + 1 + 1 := (by omega); have : SB + 1 < yr.now.heap.size := (by omega); have : SB + 1 ≤ yr.now.heap.size := (by omega); have : SB + 1 < yr.now.heap.size + 1 + 1 := (by omega); have : SB + 1 + 1 < yr.now.heap.size := (by omega); have : SB + 1 + 1 ≤ yr.now.heap.size := (by omega); have : SB + 1 + 1 < yr.now.heap.size + 1 + 1 := (by omega); have : CB < yr.now.heap.size := (by omega); have : CB ≤ yr.now.heap.size := (by omega); have : CB < yr.now.heap.size + 1 + 1 := (by omega); have : AB < yr.now.heap.size := (by omega); have : AB ≤ yr.now.heap.size := (by omega); have : AB < yr.now.heap.size + 1 + 1 := (by omega); have : QB < yr.now.heap.size := (by omega); have : QB ≤ yr.now.heap.size := (by omega); have : QB < yr.now.heap.size + 1 + 1 := (by omega)) | (go_at_call 22; (first | with_reducible refine (Calls.giv2 (ce1 _ (by repeat' (first | (with_reducible exact Below.refl _ _) | (with_reducible assumption) | (with_reducible refine Ext.below _ ?_ ?_) | (with_reducible refine Below.on ?_ (by with_reducible assumption) ?_) | (with_reducible refine Below.alloc ?_ ?_ _) | (with_reducible refine Below.drew ?_) | (with_reducible refine Below.setCell ?_ ?_ _) | (with_reducible exact Nat.le_refl _) | omega | (simp; done) | (simp [go_sem]; done) | (simp at *; omega))))).mono ?_ | with_reducible refine (Calls.giv (ce1 _ (by repeat' (first | (with_reducible exact Below.refl _ _) | (with_reducible assumption) | (with_reducible refine Ext.below _ ?_ ?_) | (with_reducible refine Below.on ?_ (by with_reducible assumption) ?_) | (with_reducible refine Below.alloc ?_ ?_ _) | (with_reducible refine Below.drew ?_) | (with_reducible refine Below.setCell ?_ ?_ _) | (with_reducible exact Nat.le_refl _) | omega | (simp; done) | (simp [go_sem]; done) | (simp at *; omega))))).mono ?_); rintro _ _ ⟨y1, rfl, rfl⟩; have sy1 := Ext.size y1; (repeat (first | rw [World.size_alloc] at sy1 | rw [World.size_setCell] at sy1 | rw [World.size_drew] at sy1)); have : SB < y1.now.heap.size := (by omega); have : SB ≤ y1.now.heap.size := (by omega); have : SB < y1.now.heap.size + 1 + 1 := (by omega); have : SB + 1 < y1.now.heap.size := (by omega); have : SB + 1 ≤ y1.now.heap.size := (by omega); have : SB + 1 < y1.now.heap.size + 1 + 1 := (by omega); have : SB + 1 + 1 < y1.now.heap.size := (by omega); have : SB + 1 + 1 ≤ y1.now.heap.size := (by omega); have : SB + 1 + 1 < y1.now.heap.size + 1 + 1 := (by omega); have : CB < y1.now.heap.size := (by omega); have : CB ≤ y1.now.heap.size := (by omega); have : CB < y1.now.heap.size + 1 + 1 := (by omega); have : AB < y1.now.heap.size := (by omega); have : AB ≤ y1.now.heap.size := (by omega); have : AB < y1.now.heap.size + 1 + 1 := (by omega); have : QB < y1.now.heap.size := (by omega); have : QB ≤ y1.now.heap.size := (by omega); have : QB < y1.now.heap.size + 1 + 1 := (by omega)) | (go_at_call 22; (first | with_reducible refine (Calls.giv2 (ce2 _ (by repeat' (first | (with_reducible exact Below.refl _ _) | (with_reducible assumption) | (with_reducible refine Ext.below _ ?_ ?_) | (with_reducible refine Below.on ?_ (by with_reducible assumption) ?_) | (with_reducible refine Below.alloc ?_ ?_ _) | (with_reducible refine Below.drew ?_) | (with_reducible refine Below.setCell ?_ ?_ _) | (with_reducible exact Nat.le_refl _) | omega | (simp; done) | (simp [go_sem]; done) | (simp at *; omega))))).mono ?_ | with_reducible refine (Calls.giv (ce2 _ (by repeat' (first | (with_reducible exact Below.refl _ _) | (with_reducible assumption) | (with_reducible refine Ext.below _ ?_ ?_) | (with_reducible refine Below.on ?_ (by with_reducible assumption) ?_) | (with_reducible refine Below.alloc ?_ ?_ _) | (with_reducible refine Below.drew ?_) | (with_reducible refine Below.setCell ?_ ?_ _) | (with_reducible exact Nat.le_refl _) | omega | (simp; done) | (simp [go_sem]; done) | (simp at *; omega))))).mono ?_); rintro _ _ ⟨y2, rfl, rfl⟩; have sy2 := Ext.size y2; (repeat (first | rw [World.size_alloc] at sy2 | rw [World.size_setCell] at sy2 | rw [World.size_drew] at sy2)); have : SB < y2.now.heap.size := (by omega); have : SB ≤ y2.now.heap.size := (by omega); have : SB < y2.now.heap.size + 1 + 1 := (by omega); have : SB + 1 < y2.now.heap.size := (by omega); have : SB + 1 ≤ y2.now.heap.size := (by omega); have : SB + 1 < y2.now.heap.size + 1 + 1 := (by omega); have : SB + 1 + 1 < y2.now.heap.size := (by omega); have : SB + 1 + 1 ≤ y2.now.heap.size := (by omega); have : SB + 1 + 1 < y2.now.heap.size + 1 + 1 := (by omega); have : CB < y2.now.heap.size := (by omega); have : CB ≤ y2.now.heap.size := (by omega); have : CB < y2.now.heap.size + 1 + 1 := (by omega); have : AB < y2.now.heap.size := (by omega); have : AB ≤ y2.now.heap.size := (by omega); have : AB < y2.now.heap.size + 1 + 1 := (by omega); have : QB < y2.now.heap.size := (by omega); have : QB ≤ y2.now.heap.size := (by omega); have : QB < y2.now.heap.size + 1 + 1 := (by omega)) | (go_at_call 21; (first | with_reducible refine (Calls.giv2 (cg _ (by repeat' (first | (with_reducible exact Below.refl _ _) | (with_reducible assumption) | (with_reducible refine Ext.below _ ?_ ?_) | (with_reducible refine Below.on ?_ (by with_reducible assumption) ?_) | (with_reducible refine Below.alloc ?_ ?_ _) | (with_reducible refine Below.drew ?_) | (with_reducible refine Below.setCell ?_ ?_ _) | (with_reducible exact Nat.le_refl _) | omega | (simp; done) | (simp [go_sem]; done) | (simp at *; omega))))).mono ?_ | with_reducible refine (Calls.giv (cg _ (by repeat' (first | (with_reducible exact Below.refl _ _) | (with_reducible assumption) | (with_reducible refine Ext.below _ ?_ ?_) | (with_reducible refine Below.on ?_ (by with_reducible assumption) ?_) | (with_reducible refine Below.alloc ?_ ?_ _) | (with_reducible refine Below.drew ?_) | (with_reducible refine Below.setCell ?_ ?_ _) | (with_reducible exact Nat.le_refl _) | omega | (simp; done) | (simp [go_sem]; done) | (simp at *; omega))))).mono ?_); rintro _ _ ⟨y3, rfl, rfl⟩; have sy3 := Ext.size y3; (repeat (first | rw [World.size_alloc] at sy3 | rw [World.size_setCell] at sy3 | rw [World.size_drew] at sy3)); have : SB < y3.now.heap.size := (by omega); have : SB ≤ y3.now.heap.size := (by omega); have : SB < y3.now.heap.size + 1 + 1 := (by omega); have : SB + 1 < y3.now.heap.size := (by omega); have : SB + 1 ≤ y3.now.heap.size := (by omega); have : SB + 1 < y3.now.heap.size + 1 + 1 := (by omega); have : SB + 1 + 1 < y3.now.heap.size := (by omega); have : SB + 1 + 1 ≤ y3.now.heap.size := (by omega); have : SB + 1 + 1 < y3.now.heap.size + 1 + 1 := (by omega); have : CB < y3.now.heap.size := (by omega); have : CB ≤ y3.now.heap.size := (by omega); have : CB < y3.now.heap.size + 1 + 1 := (by omega); have : AB < y3.now.heap.size := (by omega); have : AB ≤ y3.now.heap.size := (by omega); have : AB < y3.now.heap.size + 1 + 1 := (by omega); have : QB < y3.now.heap.size := (by omega); have : QB ≤ y3.now.heap.size := (by omega); have : QB < y3.now.heap.size + 1 + 1 := (by omega)) | (go_at_call 23; (first | with_reducible refine (Calls.giv2 (c0 _)).mono ?_ | with_reducible refine (Calls.giv (c0 _)).mono ?_); rintro _ _ ⟨y4, rfl, rfl⟩; have sy4 := Ext.size y4; (repeat (first | rw [World.size_alloc] at sy4 | rw [World.size_setCell] at sy4 | rw [World.size_drew] at sy4)); have : SB < y4.now.heap.size := (by omega); have : SB ≤ y4.now.heap.size := (by omega); have : SB < y4.now.heap.size + 1 + 1 := (by omega); have : SB + 1 < y4.now.heap.size := (by omega); have : SB + 1 ≤ y4.now.heap.size := (by omega); have : SB + 1 < y4.now.heap.size + 1 + 1 := (by omega); have : SB + 1 + 1 < y4.now.heap.size := (by omega); have : SB + 1 + 1 ≤ y4.now.heap.size := (by omega); have : SB + 1 + 1 < y4.now.heap.size + 1 + 1 := (by omega); have : CB < y4.now.heap.size := (by omega); have : CB ≤ y4.now.heap.size := (by omega); have : CB < y4.now.heap.size + 1 + 1 := (by omega); have : AB < y4.now.heap.size := (by omega); have : AB ≤ y4.now.heap.size := (by omega); have : AB < y4.now.heap.size + 1 + 1 := (by omega); have : QB < y4.now.heap.size := (by omega); have : QB ≤ y4.now.heap.size := (by omega); have : QB < y4.now.heap.size + 1 + 1 := (by omega)) | (go_at_call 8; (first | with_reducible refine (Calls.giv2 (ca _)).mono ?_ | with_reducible refine (Calls.giv (ca _)).mono ?_); rintro _ _ ⟨y5, rfl, rfl⟩; have sy5 := Ext.size y5; (repeat (first | rw [World.size_alloc] at sy5 | rw [World.size_setCell] at sy5 | rw [World.size_drew] at sy5)); have : SB < y5.now.heap.size := (by omega); have : SB ≤ y5.now.heap.size := (by omega); have : SB < y5.now.heap.size + 1 + 1 := (by omega); have : SB + 1 < y5.now.heap.size := (by omega); have : SB + 1 ≤ y5.now.heap.size := (by omega); have : SB + 1 < y5.now.heap.size + 1 + 1 := (by omega); have : SB + 1 + 1 < y5.now.heap.size := (by omega); have : SB + 1 + 1 ≤ y5.now.heap.size := (by omega); have : SB + 1 + 1 < y5.now.heap.size + 1 + 1 := (by omega); have : CB < y5.now.heap.size := (by omega); have : CB ≤ y5.now.heap.size := (by omega); have : CB < y5.now.heap.size + 1 + 1 := (by omega); have : AB < y5.now.heap.size := (by omega); have : AB ≤ y5.now.heap.size := (by omega); have : AB < y5.now.heap.size + 1 + 1 := (by omega); have : QB < y5.now.heap.size := (by omega); have : QB ≤ y5.now.heap.size := (by omega); have : QB < y5.now.heap.size + 1 + 1 := (by omega)))
    go_returns
    refine ⟨rfl, hfin.out _ ?_⟩
    repeat' (first | (with_reducible exact Below.refl _ _) | (with_reducible assumption) | (with_reducible refine Ext.below _ ?_ ?_) | (with_reducible refine Below.on ?_ (by with_reducible assumption) ?_) | (with_reducible refine Below.alloc ?_ ?_ _) | (with_reducible refine Below.drew ?_) | (with_reducible refine Below.setCell ?_ ?_ _) | (with_reducible exact Nat.le_refl _) | omega | (simp; done) | (simp [go_sem]; done) | (simp at *; omega))
set_option maxRecDepth 100000 in
theorem SkyOutside_lifted (os : Os) (started : os.Started) (H : Type) (enc : TypeId × Value → H) :
    ReturnsInHanded {} Try.checked os 6 .any (Rows.skyOutsideSpec.pre6 enc Try.prog Try.f6 Rows.skyOutsideRow.domain false) (Rows.skyOutsideSpec.post enc Try.prog Try.f6 false true false false) := by
  refine returnsInHanded_of_change (C := Try.checked) own started (by kernel_rfl) Try.func6
    (ChangeSpec.witness6 (enc := enc) (C := Try.checked) false ⟨#[], #[.slice none 0 0, .int .i64 0, .int .i64 0, .int .i64 0, .int .i64 0, .int .i64 0, .int .i64 0], []⟩ 8 (by kernel_rfl) (by kernel_rfl) (by kernel_rfl) (by kernel_rfl)) ?_
  intro W base args ds gs before hval0 hW _ _
  have hval : ∀ (j : Nat) t v, Try.f6.params[j]? = some t → args[j]? = some v → Value.okWide Try.prog W .any base t v := hval0
  have hW' := hW
  obtain ⟨p, q, hA0, hV, _, _, _⟩ := hW
  have hA : DataW.TrodAll enc Try.prog W 0 (fun _ => true) true Try.f6.params.toList args.toList ds p := hA0
  rw [Try.params6] at hA hval
  obtain ⟨v0, vs0, d0, ds0, p0, q0, hargs0, rfl, _, h0, r0⟩ := trodAll_cons hA
  obtain ⟨v1, vs1, d1, ds1, p1, q1, hargs1, rfl, _, h1, r1⟩ := trodAll_cons r0
  obtain ⟨v2, vs2, d2, ds2, p2, q2, hargs2, rfl, _, h2, r2⟩ := trodAll_cons r1
  obtain ⟨v3, vs3, d3, ds3, p3, q3, hargs3, rfl, _, h3, r3⟩ := trodAll_cons r2
  obtain ⟨v4, vs4, d4, ds4, p4, q4, hargs4, rfl, _, h4, r4⟩ := trodAll_cons r3
  obtain ⟨v5, vs5, d5, ds5, p5, q5, hargs5, rfl, _, h5, r5⟩ := trodAll_cons r4
  obtain ⟨v6, vs6, d6, ds6, p6, q6, hargs6, rfl, _, h6, r6⟩ := trodAll_cons r5
  obtain ⟨hlast, rfl, _⟩ := trodAll_nil r6
  subst hlast
  subst hargs6
  subst hargs5
  subst hargs4
  subst hargs3
  subst hargs2
  subst hargs1
  obtain rfl : args = #[v0, v1, v2, v3, v4, v5, v6] := by cases args; simp_all
  obtain ⟨rfl, rfl⟩ := trodVars_none hV
  obtain ⟨sp0, sl0, sc0, sz0, rfl, hi0⟩ := open_list (P := Try.prog) Try.underlying42 Try.underlying3 (by kernel_rfl) (hval 0 42 v0 rfl rfl) h0
  obtain ⟨x1, rfl, hi1⟩ := open_num (P := Try.prog) Try.underlying2 (hval 1 2 v1 rfl rfl)
  obtain ⟨x2, rfl, hi2⟩ := open_num (P := Try.prog) Try.underlying2 (hval 2 2 v2 rfl rfl)
  obtain ⟨x3, rfl, hi3⟩ := open_num (P := Try.prog) Try.underlying2 (hval 3 2 v3 rfl rfl)
  obtain ⟨x4, rfl, hi4⟩ := open_num (P := Try.prog) Try.underlying2 (hval 4 2 v4 rfl rfl)
  obtain ⟨x5, rfl, hi5⟩ := open_num (P := Try.prog) Try.underlying2 (hval 5 2 v5 rfl rfl)
  obtain ⟨x6, rfl, hi6⟩ := open_num (P := Try.prog) Try.underlying2 (hval 6 2 v6 rfl rfl)
  exact (SkyOutside_any sp0 sl0 sc0 sz0 x1 x2 x3 x4 x5 x6 W hi0 hi1 hi2 hi3 hi4 hi5 hi6).mono fun e W' h => law_post laid_out (by rw [Try.params6]; intro t ht; simp only [List.mem_cons, List.not_mem_nil, or_false] at ht; rcases ht with rfl | rfl | rfl | rfl | rfl | rfl | rfl | rfl; all_goals exact ⟨by kernel_rfl, by decide +kernel⟩) rfl rfl Try.underlying4 hW' rfl h
/-- The statement. -/
theorem SkyOutside_holds : Rows.SkyOutsideSaid :=
  OpenClaim.holds_of_wide 6 Try.f6 rfl rfl rfl rfl rfl rfl rfl ⟨rfl, rfl, rfl, rfl, rfl⟩ rfl rfl rfl rfl rfl (by kernel_rfl) Try.func6 (by kernel_rfl)
    (of_decide_eq_true (by kernel_rfl)) (by unfold Func.isWrapper; first | (rw [if_pos (by decide +kernel)]; kernel_rfl) | (rw [if_neg (by decide +kernel)]; exact ⟨rfl, rfl⟩))
    (fun os started H enc _ => SkyOutside_lifted os started H enc)
end Go.Proofs.Ytfflbiojcoehmab

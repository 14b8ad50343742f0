/- For BlastHolds: a pile that does not spin holds like a stone that is none, one with a Spin of 1000 holds nothing; the fourth power of a crater is at most the energy, that of the next number greater. Condition: none beyond the statement's own. -/
import Derived.Test.YtaakbhldgbiaiaaDoorBlA
import Derived.Test.YtaakbhldgbiaiaaDoorBlRock
import Derived.Test.YtaakbhldgbiaiaaDoorBlStone
namespace Go.Proofs.YtaakbhldgbiaiaaDoor
open Go.RowKit Go.Shelf
attribute [local go_sem] Option.isSome_some Ext.cell Ext.frozen Ext.lt Ext.le Ext.lt_add Ext.le_add Ext.ne Ext.ne' lt2 lt3 lt4 lt5 le2 le3 le4
attribute [local go_sem] RExt.cell RExt.frozen RExt.lt RExt.le RExt.lt_add RExt.le_add RExt.ne RExt.ne'
theorem Crater_any (e : Int) (w : World) (h0 : 0 ≤ e) (h1 : e < 1152921504606846976) : Calls Tryd.prog 52 #[.int .i64 e] w (Gives (.int .i64 (craterI e)) w) := by
  have hm : max e 0 = e := by omega
  have a := rootI_spec h0 (show e < 18446744073709551616 by omega)
  have c1 := fun W => Root_any e W (by unfold I64; omega)
  unfold craterI
  rw [hm]
  generalize rootI e = r at *
  have hr : r ≤ e := by
    rcases Int.lt_or_le e r with h | h
    · have := Int.mul_le_mul (show 1 ≤ r by omega) (Int.le_refl r) (by omega) (by omega); omega
    · exact h
  have c2 := fun W => Root_any r W (by unfold I64; omega)
  generalize rootI r = c at *
  obtain ⟨a1, -, -⟩ := a
  go_enter Tryd.func52, Tryd.ntmps52
  go_wp2_with (first | ((first | with_reducible refine wp_region_ext2 (by kernel_rfl) (by kernel_rfl) ?_ | with_reducible refine wp_region_ext (by kernel_rfl) (by kernel_rfl) ?_); (repeat (first | go_big_quiet_step ((first | (go_at_call 95; with_reducible exact Calls.ext (c1 _)) | (go_at_call 95; with_reducible exact Calls.ext (c2 _)))) | quiet_step ((first | (go_at_call 95; with_reducible exact Calls.ext (c1 _)) | (go_at_call 95; with_reducible exact Calls.ext (c2 _)))))); refine wpQuiet_nil ?_; rintro _ ⟨yr, rfl⟩; have syr := Ext.size yr; (repeat (first | rw [World.size_alloc] at syr | rw [World.size_setCell] at syr | rw [World.size_drew] at syr))) | (go_at_call 95; (first | with_reducible refine (Calls.giv2 (c1 _)).mono ?_ | with_reducible refine (Calls.giv (c1 _)).mono ?_); rintro _ _ ⟨y1, rfl, rfl⟩; have sy1 := Ext.size y1; (repeat (first | rw [World.size_alloc] at sy1 | rw [World.size_setCell] at sy1 | rw [World.size_drew] at sy1))) | (go_at_call 95; (first | with_reducible refine (Calls.giv2 (c2 _)).mono ?_ | with_reducible refine (Calls.giv (c2 _)).mono ?_); rintro _ _ ⟨y2, rfl, rfl⟩; have sy2 := Ext.size y2; (repeat (first | rw [World.size_alloc] at sy2 | rw [World.size_setCell] at sy2 | rw [World.size_drew] at sy2))))
  all_goals go_returns
  all_goals refine ⟨rfl, ?_⟩
  repeat' (first | (with_reducible exact Below.refl _ _) | (with_reducible assumption) | (with_reducible refine Ext.below _ ?_ ?_) | (with_reducible refine Below.on ?_ (by with_reducible assumption) ?_) | (with_reducible refine Below.alloc ?_ ?_ _) | (with_reducible refine Below.drew ?_) | (with_reducible refine Below.setCell ?_ ?_ _) | (with_reducible exact Nat.le_refl _) | omega | (simp; done) | (simp [go_sem]; done) | (simp at *; omega))
theorem stone_ok {s : StoneR} {k : RockR} {f : FallR} (h : StoneIn s k f) (hk : RockOk k f) : s.Ok :=
  ⟨by have := h.size; have := hk.size; omega, by have := h.dens; have := hk.dens; omega, by have := h.strong; have := hk.strong; omega, by have := h.spin; have := hk.spin; omega, by have := h.shape; have := hk.shape; omega, by have := h.speed; have := hk.speed; omega, by have := h.slope; have := hk.slope; omega⟩
theorem hold_none {s : StoneR} (h : s.Ok) : holdsI ⟨s.size, s.dens, s.strong, s.spin, s.shape, false, s.speed, s.slope⟩ = s.strong := by
  have ok : StoneR.Ok ⟨s.size, s.dens, s.strong, s.spin, s.shape, false, s.speed, s.slope⟩ := ⟨h.size, h.dens, h.strong, h.spin, h.shape, h.speed, h.slope⟩
  rw [holdsI_ok ok]; rfl
theorem hold_still {s : StoneR} (h : s.Ok) : holdsI ⟨s.size, s.dens, s.strong, 0, s.shape, true, s.speed, s.slope⟩ = s.strong := by
  have ok : StoneR.Ok ⟨s.size, s.dens, s.strong, 0, s.shape, true, s.speed, s.slope⟩ := ⟨h.size, h.dens, h.strong, ⟨show (0 : Int) ≤ 0 by decide, show (0 : Int) ≤ 1000 by decide⟩, h.shape, h.speed, h.slope⟩
  rw [holdsI_ok ok]
  show s.strong * (1000 - 0) / 1000 = s.strong
  omega
theorem hold_spun {s : StoneR} (h : s.Ok) : holdsI ⟨s.size, s.dens, s.strong, 1000, s.shape, true, s.speed, s.slope⟩ = 0 := by
  have ok : StoneR.Ok ⟨s.size, s.dens, s.strong, 1000, s.shape, true, s.speed, s.slope⟩ := ⟨h.size, h.dens, h.strong, ⟨show (0 : Int) ≤ 1000 by decide, show (1000 : Int) ≤ 1000 by decide⟩, h.shape, h.speed, h.slope⟩
  rw [holdsI_ok ok]
  show s.strong * (1000 - 1000) / 1000 = 0
  simp
set_option maxRecDepth 100000 in
set_option maxHeartbeats 16000000 in
theorem BlastHolds_any (sp : Option Addr) (sl sc : Nat) (sz : Nat → Int) (en : Int) (w : World) (hlim : LimAt w) (hw : ListIn w sp sl sz) (h1 : I64 en) : Calls Tryd.prog 14 #[.slice sp sl sc, .int .i64 en] w (Gives (.bool true) w) := by
  have cm := fun W => Mod64_any en 1152921504606846976 W h1 (by omega) (by omega)
  have e0 := Int.emod_nonneg en (b := 1152921504606846976) (by decide)
  have e1 := Int.emod_lt_of_pos en (b := 1152921504606846976) (by decide)
  generalize en % 1152921504606846976 = E at *
  have cc := fun W => Crater_any E W e0 e1
  obtain ⟨q0, q1, q2, q3⟩ := crater_spec e0 e1
  generalize craterI E = c at *
  have hl0 := hlim.lt
  go_enter Tryd.func14, Tryd.ntmps14
  go_upto_region 2 with (first | ((first | with_reducible refine wp_region_ext2 (by kernel_rfl) (by kernel_rfl) ?_ | with_reducible refine wp_region_ext (by kernel_rfl) (by kernel_rfl) ?_); (repeat (first | go_big_quiet_step ((first | fail)) | quiet_step ((first | fail)))); refine wpQuiet_nil ?_; rintro _ ⟨yr, rfl⟩; have syr := Ext.size yr; (repeat (first | rw [World.size_alloc] at syr | rw [World.size_setCell] at syr | rw [World.size_drew] at syr))) | (go_at_call 16; refine (NewRing_r sp sl sc sz _ hw).mono ?_; rintro _ _ ⟨y0, rfl, rfl, hs0, hr0⟩))
  have hR0 : RingM y0.now w.heap.size 0 := ⟨_, _, _, _, _, hr0, Nat.le_refl _⟩
  have hlim1 : LimAt y0.now := hlim.ext y0
  have hb0 : Below w.heap.size w y0.now := y0.grew
  generalize y0.now = W1 at *
  clear hr0 hw hlim
  go_upto_region 3 with (first | ((first | with_reducible refine wp_region_ext2 (by kernel_rfl) (by kernel_rfl) ?_ | with_reducible refine wp_region_ext (by kernel_rfl) (by kernel_rfl) ?_); (repeat (first | go_big_quiet_step ((first | fail)) | quiet_step ((first | fail)))); refine wpQuiet_nil ?_; rintro _ ⟨yr, rfl⟩; have syr := Ext.size yr; (repeat (first | rw [World.size_alloc] at syr | rw [World.size_setCell] at syr | rw [World.size_drew] at syr))) | (go_at_call 17; refine (RockOf_y w.heap.size 0 _ (by omega) hR0).mono ?_; rintro _ _ ⟨y1, k, f, rfl, hok, rfl, hr1⟩; unfold RockR.val FallR.val))
  have sy1 := y1.size
  have hb1 : BelowX w.heap.size w.heap.size w y1.now := (BelowX.of hb0).trans (y1.grew.mono (by omega))
  have hl2 : LimAt y1.now := hlim1.rext (by omega) y1
  have hl1 := hr1.lt
  have cst := fun (W : World) (hR : RingM W w.heap.size 16) => StoneOf_y w.heap.size 16 k f W (by omega) hok hR
  unfold RockR.val FallR.val at cst
  go_upto_region 6 with (first | ((first | with_reducible refine wp_region_ext2 (by kernel_rfl) (by kernel_rfl) ?_ | with_reducible refine wp_region_ext (by kernel_rfl) (by kernel_rfl) ?_); (repeat (first | go_big_quiet_step ((first | fail)) | quiet_step ((first | fail)))); refine wpQuiet_nil ?_; rintro _ ⟨yr, rfl⟩; have syr := Ext.size yr; (repeat (first | rw [World.size_alloc] at syr | rw [World.size_setCell] at syr | rw [World.size_drew] at syr))) | (go_at_call 18; refine (cst _ ((hr1.alloc _).alloc _)).mono ?_; rintro _ _ ⟨y2, s, rfl, hin, rfl, hr2⟩; unfold StoneR.val StoneR.vals))
  have sy2 := y2.size
  simp only [World.size_alloc] at sy2
  have hs := stone_ok hin hok
  refine wp_named (fun W2 hW => ?_)
  have l2 : y2.now.heap.size + 1 < W2.heap.size := by rw [← hW]; simp
  have hBW : Below w.heap.size w W2 := by
    have h1 : BelowX w.heap.size w.heap.size w W2 := by
      rw [← hW]
      have h2 := (((hb1.alloc (by omega) (.cells #[.int .i64 k.size.x, .int .i64 k.size.y, .int .i64 k.dens.x, .int .i64 k.dens.y, .int .i64 k.strong.x, .int .i64 k.strong.y, .int .i64 k.spin.x, .int .i64 k.spin.y, .int .i64 k.shape.x, .int .i64 k.shape.y, .bool k.pile] 26)).alloc (by simp; omega) (.cells #[.int .i64 f.speed.x, .int .i64 f.speed.y, .int .i64 f.slope.x, .int .i64 f.slope.y] 28))).trans (y2.grew.mono (by simp; omega))
      repeat' (first | (with_reducible exact BelowX.refl _ _ _) | (with_reducible assumption) | (with_reducible refine RExt.belowX _ ?_ ?_) | (with_reducible refine Ext.belowX _ ?_ ?_) | (with_reducible refine BelowX.alloc ?_ ?_ _) | (with_reducible refine BelowX.drew ?_) | (with_reducible refine BelowX.setCell ?_ ?_ _) | (with_reducible exact Nat.le_refl _) | omega | (simp; done) | (simp [go_sem]; done) | (simp at *; omega))
    exact h1.below (Nat.le_refl _)
  have hlW : LimAt W2 := by
    rw [← hW]
    have hlim : LimAt y2.now := ((hl2.alloc _).alloc _).rext (by omega) y2
    exact (by repeat (first | exact hlim | (with_reducible refine LimAt.ext ?_ _) | (with_reducible refine LimAt.alloc ?_ _) | (with_reducible refine LimAt.drew ?_) | (with_reducible refine LimAt.rext ?_ (by omega) _) | (with_reducible refine LimAt.set ?_ (by omega) _)))
  have a0 : W2.cell? ⟨y2.now.heap.size, 0, none⟩ = some (.int .i64 s.size) := by rw [← hW]; simp [go_sem]
  have a1 : W2.cell? ⟨y2.now.heap.size, 1, none⟩ = some (.int .i64 s.dens) := by rw [← hW]; simp [go_sem]
  have a2 : W2.cell? ⟨y2.now.heap.size, 2, none⟩ = some (.int .i64 s.strong) := by rw [← hW]; simp [go_sem]
  have a3 : W2.cell? ⟨y2.now.heap.size, 3, none⟩ = some (.int .i64 s.spin) := by rw [← hW]; simp [go_sem]
  have a4 : W2.cell? ⟨y2.now.heap.size, 4, none⟩ = some (.int .i64 s.shape) := by rw [← hW]; simp [go_sem]
  have a5 : W2.cell? ⟨y2.now.heap.size, 5, none⟩ = some (.bool false) := by rw [← hW]; simp [go_sem]
  have a6 : W2.cell? ⟨y2.now.heap.size, 6, none⟩ = some (.int .i64 s.speed) := by rw [← hW]; simp [go_sem]
  have a7 : W2.cell? ⟨y2.now.heap.size, 7, none⟩ = some (.int .i64 s.slope) := by rw [← hW]; simp [go_sem]
  have b0 : W2.cell? ⟨y2.now.heap.size + 1, 0, none⟩ = some (.int .i64 s.size) := by rw [← hW]; simp [go_sem]
  have b1 : W2.cell? ⟨y2.now.heap.size + 1, 1, none⟩ = some (.int .i64 s.dens) := by rw [← hW]; simp [go_sem]
  have b2 : W2.cell? ⟨y2.now.heap.size + 1, 2, none⟩ = some (.int .i64 s.strong) := by rw [← hW]; simp [go_sem]
  have b3 : W2.cell? ⟨y2.now.heap.size + 1, 3, none⟩ = some (.int .i64 0) := by rw [← hW]; simp [go_sem]
  have b4 : W2.cell? ⟨y2.now.heap.size + 1, 4, none⟩ = some (.int .i64 s.shape) := by rw [← hW]; simp [go_sem]
  have b5 : W2.cell? ⟨y2.now.heap.size + 1, 5, none⟩ = some (.bool true) := by rw [← hW]; simp [go_sem]
  have b6 : W2.cell? ⟨y2.now.heap.size + 1, 6, none⟩ = some (.int .i64 s.speed) := by rw [← hW]; simp [go_sem]
  have b7 : W2.cell? ⟨y2.now.heap.size + 1, 7, none⟩ = some (.int .i64 s.slope) := by rw [← hW]; simp [go_sem]
  have hF3 : W2.frozen? ⟨y2.now.heap.size + 1, 3, none⟩ = false := by rw [← hW]; simp [go_sem]
  clear hW
  have hlim := hlW
  have c1 := fun (W : World) (y : LimAt W) => Holds_any ⟨s.size, s.dens, s.strong, s.spin, s.shape, false, s.speed, s.slope⟩ W y
  have c2 := fun (W : World) (y : LimAt W) => Holds_any ⟨s.size, s.dens, s.strong, 0, s.shape, true, s.speed, s.slope⟩ W y
  have c3 := fun (W : World) (y : LimAt W) => Holds_any ⟨s.size, s.dens, s.strong, 1000, s.shape, true, s.speed, s.slope⟩ W y
  rw [hold_none hs] at c1
  rw [hold_still hs] at c2
  rw [hold_spun hs] at c3
  have ca := fun (W : World) (y : LimAt W) => blastAwake_any W y
  unfold StoneR.val StoneR.vals at c1 c2 c3
  have f3 : W2.frozen? ⟨y2.now.heap.size + 1, 3, none⟩ = false := hF3
  have p1 := Int.mul_nonneg q0 q0
  have p2 := Int.mul_nonneg p1 q0
  have p3 := Int.mul_nonneg p2 q0
  have g0 : 0 ≤ c + 1 := by omega
  have g1 := Int.mul_nonneg g0 g0
  have g2 := Int.mul_nonneg g1 g0
  have b1 := Int.mul_le_mul (show c + 1 ≤ 32768 by omega) (show c + 1 ≤ 32768 by omega) g0 (by omega)
  have b2 := Int.mul_le_mul b1 (show c + 1 ≤ 32768 by omega) g0 (by omega)
  have b3 := Int.mul_le_mul b2 (show c + 1 ≤ 32768 by omega) g0 (by omega)
  have d1 := Int.mul_le_mul (show c ≤ 32768 by omega) (show c ≤ 32768 by omega) q0 (by omega)
  have d2 := Int.mul_le_mul d1 (show c ≤ 32768 by omega) q0 (by omega)
  have x1 : wrap64 (c * c) = c * c := IntWalk.wrap64_in _ (by omega)
  have x2 : wrap64 (c * c * c) = c * c * c := IntWalk.wrap64_in _ (by omega)
  have x3 : wrap64 (c * c * c * c) = c * c * c * c := IntWalk.wrap64_in _ (by omega)
  have y1' : wrap64 ((c + 1) * (c + 1)) = (c + 1) * (c + 1) := IntWalk.wrap64_in _ (by omega)
  have y2' : wrap64 ((c + 1) * (c + 1) * (c + 1)) = (c + 1) * (c + 1) * (c + 1) := IntWalk.wrap64_in _ (by omega)
  have y3' : wrap64 ((c + 1) * (c + 1) * (c + 1) * (c + 1)) = (c + 1) * (c + 1) * (c + 1) * (c + 1) := IntWalk.wrap64_in _ (by omega)
  have hlim0 : 0 < y2.now.heap.size := by omega
  clear p1 p2 p3 g0 g1 g2 b1 b2 b3 d1 d2 hs hin hok cst
  generalize y2.now.heap.size = SB at *
  have l20 : SB < W2.heap.size := by omega
  go_upto_region 8 with (first | ((first | with_reducible refine wp_region_ext2 (by kernel_rfl) (by kernel_rfl) ?_ | with_reducible refine wp_region_ext (by kernel_rfl) (by kernel_rfl) ?_); (repeat (first | go_big_quiet_step ((first | (go_at_call 27; with_reducible exact Calls.ext (c1 _ (by repeat (first | exact hlim | (with_reducible refine LimAt.ext ?_ _) | (with_reducible refine LimAt.alloc ?_ _) | (with_reducible refine LimAt.drew ?_) | (with_reducible refine LimAt.rext ?_ (by omega) _) | (with_reducible refine LimAt.set ?_ (by omega) _))))) | (go_at_call 27; with_reducible exact Calls.ext (c2 _ (by repeat (first | exact hlim | (with_reducible refine LimAt.ext ?_ _) | (with_reducible refine LimAt.alloc ?_ _) | (with_reducible refine LimAt.drew ?_) | (with_reducible refine LimAt.rext ?_ (by omega) _) | (with_reducible refine LimAt.set ?_ (by omega) _))))))) | quiet_step ((first | (go_at_call 27; with_reducible exact Calls.ext (c1 _ (by repeat (first | exact hlim | (with_reducible refine LimAt.ext ?_ _) | (with_reducible refine LimAt.alloc ?_ _) | (with_reducible refine LimAt.drew ?_) | (with_reducible refine LimAt.rext ?_ (by omega) _) | (with_reducible refine LimAt.set ?_ (by omega) _))))) | (go_at_call 27; with_reducible exact Calls.ext (c2 _ (by repeat (first | exact hlim | (with_reducible refine LimAt.ext ?_ _) | (with_reducible refine LimAt.alloc ?_ _) | (with_reducible refine LimAt.drew ?_) | (with_reducible refine LimAt.rext ?_ (by omega) _) | (with_reducible refine LimAt.set ?_ (by omega) _))))))))); refine wpQuiet_nil ?_; rintro _ ⟨yr, rfl⟩; have syr := Ext.size yr; (repeat (first | rw [World.size_alloc] at syr | rw [World.size_setCell] at syr | rw [World.size_drew] at syr)); have : SB < yr.now.heap.size := (by omega); have : SB ≤ yr.now.heap.size := (by omega); have : SB < yr.now.heap.size + 1 + 1 := (by omega); have : SB + 1 < yr.now.heap.size := (by omega); have : SB + 1 ≤ yr.now.heap.size := (by omega); have : SB + 1 < yr.now.heap.size + 1 + 1 := (by omega)) | (go_at_call 27; (first | with_reducible refine (Calls.giv2 (c1 _ (by repeat (first | exact hlim | (with_reducible refine LimAt.ext ?_ _) | (with_reducible refine LimAt.alloc ?_ _) | (with_reducible refine LimAt.drew ?_) | (with_reducible refine LimAt.rext ?_ (by omega) _) | (with_reducible refine LimAt.set ?_ (by omega) _))))).mono ?_ | with_reducible refine (Calls.giv (c1 _ (by repeat (first | exact hlim | (with_reducible refine LimAt.ext ?_ _) | (with_reducible refine LimAt.alloc ?_ _) | (with_reducible refine LimAt.drew ?_) | (with_reducible refine LimAt.rext ?_ (by omega) _) | (with_reducible refine LimAt.set ?_ (by omega) _))))).mono ?_); rintro _ _ ⟨y1, rfl, rfl⟩; have sy1 := Ext.size y1; (repeat (first | rw [World.size_alloc] at sy1 | rw [World.size_setCell] at sy1 | rw [World.size_drew] at sy1)); have : SB < y1.now.heap.size := (by omega); have : SB ≤ y1.now.heap.size := (by omega); have : SB < y1.now.heap.size + 1 + 1 := (by omega); have : SB + 1 < y1.now.heap.size := (by omega); have : SB + 1 ≤ y1.now.heap.size := (by omega); have : SB + 1 < y1.now.heap.size + 1 + 1 := (by omega)) | (go_at_call 27; (first | with_reducible refine (Calls.giv2 (c2 _ (by repeat (first | exact hlim | (with_reducible refine LimAt.ext ?_ _) | (with_reducible refine LimAt.alloc ?_ _) | (with_reducible refine LimAt.drew ?_) | (with_reducible refine LimAt.rext ?_ (by omega) _) | (with_reducible refine LimAt.set ?_ (by omega) _))))).mono ?_ | with_reducible refine (Calls.giv (c2 _ (by repeat (first | exact hlim | (with_reducible refine LimAt.ext ?_ _) | (with_reducible refine LimAt.alloc ?_ _) | (with_reducible refine LimAt.drew ?_) | (with_reducible refine LimAt.rext ?_ (by omega) _) | (with_reducible refine LimAt.set ?_ (by omega) _))))).mono ?_); rintro _ _ ⟨y2, rfl, rfl⟩; have sy2 := Ext.size y2; (repeat (first | rw [World.size_alloc] at sy2 | rw [World.size_setCell] at sy2 | rw [World.size_drew] at sy2)); have : SB < y2.now.heap.size := (by omega); have : SB ≤ y2.now.heap.size := (by omega); have : SB < y2.now.heap.size + 1 + 1 := (by omega); have : SB + 1 < y2.now.heap.size := (by omega); have : SB + 1 ≤ y2.now.heap.size := (by omega); have : SB + 1 < y2.now.heap.size + 1 + 1 := (by omega)))
  have f33 : yr.now.frozen? ⟨SB + 1, 3, none⟩ = false := (yr.frozen l2).trans f3
  go_wp2_with (first | ((first | with_reducible refine wp_region_ext2 (by kernel_rfl) (by kernel_rfl) ?_ | with_reducible refine wp_region_ext (by kernel_rfl) (by kernel_rfl) ?_); (repeat (first | go_big_quiet_step ((first | (go_at_call 65; with_reducible exact Calls.ext (cm _)) | (go_at_call 52; with_reducible exact Calls.ext (cc _)) | (go_at_call 27; with_reducible exact Calls.ext (c3 _ (by repeat (first | exact hlim | (with_reducible refine LimAt.ext ?_ _) | (with_reducible refine LimAt.alloc ?_ _) | (with_reducible refine LimAt.drew ?_) | (with_reducible refine LimAt.rext ?_ (by omega) _) | (with_reducible refine LimAt.set ?_ (by omega) _))))) | (go_at_call 15; with_reducible exact Calls.ext (ca _ (by repeat (first | exact hlim | (with_reducible refine LimAt.ext ?_ _) | (with_reducible refine LimAt.alloc ?_ _) | (with_reducible refine LimAt.drew ?_) | (with_reducible refine LimAt.rext ?_ (by omega) _) | (with_reducible refine LimAt.set ?_ (by omega) _))))))) | quiet_step ((first | (go_at_call 65; with_reducible exact Calls.ext (cm _)) | (go_at_call 52; with_reducible exact Calls.ext (cc _)) | (go_at_call 27; with_reducible exact Calls.ext (c3 _ (by repeat (first | exact hlim | (with_reducible refine LimAt.ext ?_ _) | (with_reducible refine LimAt.alloc ?_ _) | (with_reducible refine LimAt.drew ?_) | (with_reducible refine LimAt.rext ?_ (by omega) _) | (with_reducible refine LimAt.set ?_ (by omega) _))))) | (go_at_call 15; with_reducible exact Calls.ext (ca _ (by repeat (first | exact hlim | (with_reducible refine LimAt.ext ?_ _) | (with_reducible refine LimAt.alloc ?_ _) | (with_reducible refine LimAt.drew ?_) | (with_reducible refine LimAt.rext ?_ (by omega) _) | (with_reducible refine LimAt.set ?_ (by omega) _))))))))); refine wpQuiet_nil ?_; rintro _ ⟨yr, rfl⟩; have syr := Ext.size yr; (repeat (first | rw [World.size_alloc] at syr | rw [World.size_setCell] at syr | rw [World.size_drew] at syr)); have : SB < yr.now.heap.size := (by omega); have : SB ≤ yr.now.heap.size := (by omega); have : SB < yr.now.heap.size + 1 + 1 := (by omega); have : SB + 1 < yr.now.heap.size := (by omega); have : SB + 1 ≤ yr.now.heap.size := (by omega); have : SB + 1 < yr.now.heap.size + 1 + 1 := (by omega)) | (go_at_call 65; (first | with_reducible refine (Calls.giv2 (cm _)).mono ?_ | with_reducible refine (Calls.giv (cm _)).mono ?_); rintro _ _ ⟨y1, rfl, rfl⟩; have sy1 := Ext.size y1; (repeat (first | rw [World.size_alloc] at sy1 | rw [World.size_setCell] at sy1 | rw [World.size_drew] at sy1)); have : SB < y1.now.heap.size := (by omega); have : SB ≤ y1.now.heap.size := (by omega); have : SB < y1.now.heap.size + 1 + 1 := (by omega); have : SB + 1 < y1.now.heap.size := (by omega); have : SB + 1 ≤ y1.now.heap.size := (by omega); have : SB + 1 < y1.now.heap.size + 1 + 1 := (by omega)) | (go_at_call 52; (first | with_reducible refine (Calls.giv2 (cc _)).mono ?_ | with_reducible refine (Calls.giv (cc _)).mono ?_); rintro _ _ ⟨y2, rfl, rfl⟩; have sy2 := Ext.size y2; (repeat (first | rw [World.size_alloc] at sy2 | rw [World.size_setCell] at sy2 | rw [World.size_drew] at sy2)); have : SB < y2.now.heap.size := (by omega); have : SB ≤ y2.now.heap.size := (by omega); have : SB < y2.now.heap.size + 1 + 1 := (by omega); have : SB + 1 < y2.now.heap.size := (by omega); have : SB + 1 ≤ y2.now.heap.size := (by omega); have : SB + 1 < y2.now.heap.size + 1 + 1 := (by omega)) | (go_at_call 27; (first | with_reducible refine (Calls.giv2 (c3 _ (by repeat (first | exact hlim | (with_reducible refine LimAt.ext ?_ _) | (with_reducible refine LimAt.alloc ?_ _) | (with_reducible refine LimAt.drew ?_) | (with_reducible refine LimAt.rext ?_ (by omega) _) | (with_reducible refine LimAt.set ?_ (by omega) _))))).mono ?_ | with_reducible refine (Calls.giv (c3 _ (by repeat (first | exact hlim | (with_reducible refine LimAt.ext ?_ _) | (with_reducible refine LimAt.alloc ?_ _) | (with_reducible refine LimAt.drew ?_) | (with_reducible refine LimAt.rext ?_ (by omega) _) | (with_reducible refine LimAt.set ?_ (by omega) _))))).mono ?_); rintro _ _ ⟨y3, rfl, rfl⟩; have sy3 := Ext.size y3; (repeat (first | rw [World.size_alloc] at sy3 | rw [World.size_setCell] at sy3 | rw [World.size_drew] at sy3)); have : SB < y3.now.heap.size := (by omega); have : SB ≤ y3.now.heap.size := (by omega); have : SB < y3.now.heap.size + 1 + 1 := (by omega); have : SB + 1 < y3.now.heap.size := (by omega); have : SB + 1 ≤ y3.now.heap.size := (by omega); have : SB + 1 < y3.now.heap.size + 1 + 1 := (by omega)) | (go_at_call 15; (first | with_reducible refine (Calls.giv2 (ca _ (by repeat (first | exact hlim | (with_reducible refine LimAt.ext ?_ _) | (with_reducible refine LimAt.alloc ?_ _) | (with_reducible refine LimAt.drew ?_) | (with_reducible refine LimAt.rext ?_ (by omega) _) | (with_reducible refine LimAt.set ?_ (by omega) _))))).mono ?_ | with_reducible refine (Calls.giv (ca _ (by repeat (first | exact hlim | (with_reducible refine LimAt.ext ?_ _) | (with_reducible refine LimAt.alloc ?_ _) | (with_reducible refine LimAt.drew ?_) | (with_reducible refine LimAt.rext ?_ (by omega) _) | (with_reducible refine LimAt.set ?_ (by omega) _))))).mono ?_); rintro _ _ ⟨y4, rfl, rfl⟩; have sy4 := Ext.size y4; (repeat (first | rw [World.size_alloc] at sy4 | rw [World.size_setCell] at sy4 | rw [World.size_drew] at sy4)); have : SB < y4.now.heap.size := (by omega); have : SB ≤ y4.now.heap.size := (by omega); have : SB < y4.now.heap.size + 1 + 1 := (by omega); have : SB + 1 < y4.now.heap.size := (by omega); have : SB + 1 ≤ y4.now.heap.size := (by omega); have : SB + 1 < y4.now.heap.size + 1 + 1 := (by omega)))
  go_returns
  refine ⟨rfl, ?_⟩
  repeat' (first | (with_reducible exact Below.refl _ _) | (with_reducible assumption) | (with_reducible refine Ext.below _ ?_ ?_) | (with_reducible refine Below.on ?_ (by with_reducible assumption) ?_) | (with_reducible refine Below.alloc ?_ ?_ _) | (with_reducible refine Below.drew ?_) | (with_reducible refine Below.setCell ?_ ?_ _) | (with_reducible exact Nat.le_refl _) | omega | (simp; done) | (simp [go_sem]; done) | (simp at *; omega))
end Go.Proofs.YtaakbhldgbiaiaaDoor

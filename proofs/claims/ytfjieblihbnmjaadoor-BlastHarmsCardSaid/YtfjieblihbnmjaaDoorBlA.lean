/- Contract of the statements' awake: some of the chapter's examples. Condition: the table of limits stands as it was laid. -/
import Derived.Test.YtfjieblihbnmjaaDoorBlEnds
import Derived.Test.YtfjieblihbnmjaaDoorBlW
namespace Go.Proofs.YtfjieblihbnmjaaDoor
open Go.RowKit Go.Shelf
attribute [local go_sem] Option.isSome_some Ext.cell Ext.frozen Ext.lt Ext.le Ext.lt_add Ext.le_add Ext.ne Ext.ne' lt2 lt3 lt4 lt5 le2 le3 le4
def airL : List V2 := [⟨100, 1⟩, ⟨100, 10⟩]
def stoneL : StoneR := ⟨10, 1000, 1000000, 0, 1000, false, 100, 1000⟩
def landL (p q : Option Addr) : LandR := ⟨p, 5, [10, 20, 30, 40, 50], q, 5, [false, false, true, true, false]⟩
theorem air_any (w : World) : Calls Tryd.prog 40 #[] w (fun e w' => ∃ p, e = .returned (.slice p 2 2) ∧ Below w.heap.size w w' ∧ VecsAt w' p airL) := by
  go_enter Tryd.func40, Tryd.ntmps40
  go_wp2_with (first | ((first | with_reducible refine wp_region_ext2 (by kernel_rfl) (by kernel_rfl) ?_ | with_reducible refine wp_region_ext (by kernel_rfl) (by kernel_rfl) ?_); (repeat (first | go_big_quiet_step ((first | fail)) | quiet_step ((first | fail)))); refine wpQuiet_nil ?_; rintro _ ⟨yr, rfl⟩; have syr := Ext.size yr; (repeat (first | rw [World.size_alloc] at syr | rw [World.size_setCell] at syr | rw [World.size_drew] at syr))))
  go_returns
  refine ⟨_, rfl, (Below.refl _ _).alloc (Nat.le_refl _) _, ?_⟩
  intro j hj
  rcases (show j = 0 ∨ j = 1 by simp [airL] at hj; omega) with rfl | rfl
  · exact ⟨_, _, rfl, by simp, by simp [go_sem, airL], by simp [go_sem, airL]⟩
  · exact ⟨_, _, rfl, by simp, by simp [go_sem, airL], by simp [go_sem, airL]⟩
theorem stone_any (w : World) : Calls Tryd.prog 41 #[] w (Gives stoneL.val w) := by
  unfold StoneR.val StoneR.vals stoneL
  go_enter Tryd.func41, Tryd.ntmps41
  go_wp2_with (first | ((first | with_reducible refine wp_region_ext2 (by kernel_rfl) (by kernel_rfl) ?_ | with_reducible refine wp_region_ext (by kernel_rfl) (by kernel_rfl) ?_); (repeat (first | go_big_quiet_step ((first | fail)) | quiet_step ((first | fail)))); refine wpQuiet_nil ?_; rintro _ ⟨yr, rfl⟩; have syr := Ext.size yr; (repeat (first | rw [World.size_alloc] at syr | rw [World.size_setCell] at syr | rw [World.size_drew] at syr))))
  refine bodyPost_ret (v := .agg #[.int .i64 10, .int .i64 1000, .int .i64 1000000, .int .i64 0, .int .i64 1000, .bool false, .int .i64 100, .int .i64 1000]) (by simp (maxDischargeDepth := 9) [results, Tryd.results41, go_sem]) rfl ?_
  refine ⟨rfl, ?_⟩
  repeat' (first | (with_reducible exact Below.refl _ _) | (with_reducible assumption) | (with_reducible refine Ext.below _ ?_ ?_) | (with_reducible refine Below.on ?_ (by with_reducible assumption) ?_) | (with_reducible refine Below.alloc ?_ ?_ _) | (with_reducible refine Below.drew ?_) | (with_reducible refine Below.setCell ?_ ?_ _) | (with_reducible exact Nat.le_refl _) | omega | (simp; done) | (simp [go_sem]; done) | (simp at *; omega))
theorem land_any (w : World) : Calls Tryd.prog 42 #[] w (fun e w' => ∃ p q, e = .returned (landL p q).val ∧ Below w.heap.size w w' ∧ (landL p q).At w') := by
  go_enter Tryd.func42, Tryd.ntmps42
  go_wp2_with (first | ((first | with_reducible refine wp_region_ext2 (by kernel_rfl) (by kernel_rfl) ?_ | with_reducible refine wp_region_ext (by kernel_rfl) (by kernel_rfl) ?_); (repeat (first | go_big_quiet_step ((first | fail)) | quiet_step ((first | fail)))); refine wpQuiet_nil ?_; rintro _ ⟨yr, rfl⟩; have syr := Ext.size yr; (repeat (first | rw [World.size_alloc] at syr | rw [World.size_setCell] at syr | rw [World.size_drew] at syr))))
  refine bodyPost_ret (v := .agg #[.slice (some ⟨w.heap.size + 1, 0, none⟩) 5 5, .slice (some ⟨w.heap.size + 1 + 1, 0, none⟩) 5 5]) (by simp (maxDischargeDepth := 9) [results, Tryd.results42, go_sem]) rfl ?_
  refine ⟨_, _, rfl, ?_, ⟨fun j hj => ?_, fun j hj => ?_, by simp [landL]⟩⟩
  · repeat' (first | (with_reducible exact Below.refl _ _) | (with_reducible assumption) | (with_reducible refine Ext.below _ ?_ ?_) | (with_reducible refine Below.on ?_ (by with_reducible assumption) ?_) | (with_reducible refine Below.alloc ?_ ?_ _) | (with_reducible refine Below.drew ?_) | (with_reducible refine Below.setCell ?_ ?_ _) | (with_reducible exact Nat.le_refl _) | omega | (simp; done) | (simp [go_sem]; done) | (simp at *; omega))
  · rcases (show j = 0 ∨ j = 1 ∨ j = 2 ∨ j = 3 ∨ j = 4 by simp [landL] at hj; omega) with rfl | rfl | rfl | rfl | rfl <;> exact ⟨_, _, rfl, by simp, by simp [go_sem, landL]⟩
  · rcases (show j = 0 ∨ j = 1 ∨ j = 2 ∨ j = 3 ∨ j = 4 by simp [landL] at hj; omega) with rfl | rfl | rfl | rfl | rfl <;> exact ⟨_, _, rfl, by simp, by simp [go_sem, landL]⟩
theorem landL_ok (p q : Option Addr) : (landL p q).Ok := ⟨by simp [landL], by simp [landL], by simp [landL], by simp [landL]⟩
theorem stoneL_ok : stoneL.Ok := stoneB_ok.1 (by decide)
theorem endL : endOf airL stoneL = (2, 8910) := by decide +kernel
theorem massL : massV stoneL = 1000 := by decide +kernel
theorem airL_ok : airE airL = 0 := by decide +kernel
theorem harmL (p q : Option Addr) : harmV (landL p q) 0 1 = 30 := by
  show seg [10, 20, 30, 40, 50] (max (0 - min 1 400) 0) (min (0 + min 1 400) (5 - 1)) = 30
  decide +kernel
theorem waveL (p q : Option Addr) : waveI (landL p q) 3 5 = 140 := by
  show (if [false, false, true, true, false].getD 3 false = true then seg [10, 20, 30, 40, 50] (runI [false, false, true, true, false] (-1) 5 3) (runI [false, false, true, true, false] 1 5 3) else 0) = 140
  decide +kernel
theorem aw_ends (p : Option Addr) (w : World) (hlim : LimAt w) (hP : VecsAt w p airL) : Calls Tryd.prog 12 #[.slice p 2 2, stoneL.val] w (Gives (.tuple #[.int .i64 2, .int .i64 8910000, .int .i64 0]) w) := by
  have := Ends_ok p 2 airL stoneL w hlim hP airL_ok stoneL_ok
  rw [endL, massL] at this
  exact this
theorem aw_harm (p q : Option Addr) (w : World) (h : (landL p q).At w) : Calls Tryd.prog 28 #[(landL p q).val, .int .i64 0, .int .i64 1] w (Gives (.int .i64 30) w) := by
  have := Harm_ok (landL p q) 0 1 w h (landL_ok p q) (by omega) (by simp [landL]) (by omega) (by unfold I64; omega)
  rwa [harmL] at this
theorem aw_wave (p q : Option Addr) (w : World) (h : (landL p q).At w) : Calls Tryd.prog 30 #[(landL p q).val, .int .i64 3, .int .i64 5] w (Gives (.int .i64 140) w) := by
  have := Wave_ok (landL p q) 3 5 w h (landL_ok p q) (by omega) (by simp [landL]) (by omega) (by unfold I64; omega)
  rwa [waveL] at this
set_option maxHeartbeats 4000000 in
theorem blastAwake_any (w : World) (hlim : LimAt w) : Calls Tryd.prog 7 #[] w (Gives (.bool true) w) := by
  have cs := fun W => stone_any W
  go_enter Tryd.func7, Tryd.ntmps7
  go_upto_region 2 with (first | ((first | with_reducible refine wp_region_ext2 (by kernel_rfl) (by kernel_rfl) ?_ | with_reducible refine wp_region_ext (by kernel_rfl) (by kernel_rfl) ?_); (repeat (first | go_big_quiet_step ((first | (go_at_call 41; with_reducible exact Calls.ext (cs _)))) | quiet_step ((first | (go_at_call 41; with_reducible exact Calls.ext (cs _)))))); refine wpQuiet_nil ?_; rintro _ ⟨yr, rfl⟩; have syr := Ext.size yr; (repeat (first | rw [World.size_alloc] at syr | rw [World.size_setCell] at syr | rw [World.size_drew] at syr))) | (go_at_call 41; (first | with_reducible refine (Calls.giv2 (cs _)).mono ?_ | with_reducible refine (Calls.giv (cs _)).mono ?_); rintro _ _ ⟨y1, rfl, rfl⟩; have sy1 := Ext.size y1; (repeat (first | rw [World.size_alloc] at sy1 | rw [World.size_setCell] at sy1 | rw [World.size_drew] at sy1))) | (go_at_call 40; refine (air_any _).mono ?_; rintro _ W1 ⟨p, rfl, hb1, hv1⟩; have sz1 := hb1.size) | (go_at_call 12; refine (aw_ends p _ (LimAt.on hlim (by repeat' (first | (with_reducible exact Below.refl _ _) | (with_reducible assumption) | (with_reducible refine Ext.below _ ?_ ?_) | (with_reducible refine Below.on ?_ (by with_reducible assumption) ?_) | (with_reducible refine Below.alloc ?_ ?_ _) | (with_reducible refine Below.drew ?_) | (with_reducible refine Below.setCell ?_ ?_ _) | (with_reducible exact Nat.le_refl _) | omega | (simp; done) | (simp [go_sem]; done) | (simp at *; omega)))) (hv1.on (by repeat' (first | (with_reducible exact Below.refl _ _) | (with_reducible assumption) | (with_reducible refine Ext.below _ ?_ ?_) | (with_reducible refine Below.on ?_ (by with_reducible assumption) ?_) | (with_reducible refine Below.alloc ?_ ?_ _) | (with_reducible refine Below.drew ?_) | (with_reducible refine Below.setCell ?_ ?_ _) | (with_reducible exact Nat.le_refl _) | omega | (simp; done) | (simp [go_sem]; done) | (simp at *; omega))))).mono ?_; rintro _ W2 ⟨rfl, hb2⟩; have sz2 := hb2.size))
  go_wp2_with (first | ((first | with_reducible refine wp_region_ext2 (by kernel_rfl) (by kernel_rfl) ?_ | with_reducible refine wp_region_ext (by kernel_rfl) (by kernel_rfl) ?_); (repeat (first | go_big_quiet_step ((first | fail)) | quiet_step ((first | fail)))); refine wpQuiet_nil ?_; rintro _ ⟨yr, rfl⟩; have syr := Ext.size yr; (repeat (first | rw [World.size_alloc] at syr | rw [World.size_setCell] at syr | rw [World.size_drew] at syr))) | (go_at_call 42; refine (land_any _).mono ?_; rintro _ W3 ⟨p3, q3, rfl, hb3, ha3⟩; have sz3 := hb3.size) | (go_at_call 28; refine (aw_harm _ _ _ ha3).mono ?_; rintro _ W4 ⟨rfl, hb4⟩; have sz4 := hb4.size) | (go_at_call 30; refine (aw_wave _ _ _ ha3).mono ?_; rintro _ W5 ⟨rfl, hb5⟩; have sz5 := hb5.size))
  go_returns
  refine ⟨rfl, ?_⟩
  repeat' (first | (with_reducible exact Below.refl _ _) | (with_reducible assumption) | (with_reducible refine Ext.below _ ?_ ?_) | (with_reducible refine Below.on ?_ (by with_reducible assumption) ?_) | (with_reducible refine Below.alloc ?_ ?_ _) | (with_reducible refine Below.drew ?_) | (with_reducible refine Below.setCell ?_ ?_ _) | (with_reducible exact Nat.le_refl _) | omega | (simp; done) | (simp [go_sem]; done) | (simp at *; omega))
end Go.Proofs.YtfjieblihbnmjaaDoor

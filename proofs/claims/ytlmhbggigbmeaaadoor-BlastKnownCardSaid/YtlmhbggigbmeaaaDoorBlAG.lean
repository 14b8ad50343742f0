/- Contracts of waveOf, Harm and Wave for a valid land. Condition: the land stands in memory. Contract of the statements' awake: some of the chapter's examples. Condition: the table of limits stands as it was laid. -/
import Derived.Test.YtlmhbggigbmeaaaDoorBlCLG
import Derived.Test.YtlmhbggigbmeaaaDoorBlLG
namespace Go.Proofs.YtlmhbggigbmeaaaDoor
open Go.RowKit Go.Shelf
attribute [local go_sem] Option.isSome_some Ext.cell Ext.frozen Ext.lt Ext.le Ext.lt_add Ext.le_add Ext.ne Ext.ne' lt2 lt3 lt4 lt5 le2 le3 le4
/-- Whom a blow, and a wave harms. -/
def harmV (x : LandR) (at' r : Int) : Int := seg x.pl (max (at' - min r 400) 0) (min (at' + min r 400) (x.pl.length - 1))
def waveV (x : LandR) (at' r : Int) : Int := seg x.pl (runI x.wl (-1) r.toNat at') (runI x.wl 1 r.toNat at')
set_option maxRecDepth 100000 in
theorem waveOf_any (x : LandR) (at' r : Int) (w : World) (hx : x.At w) (hok : x.Ok) (h0 : 0 ≤ at') (h1 : at' < x.pl.length) (hr : 0 ≤ r) (hr2 : I64 r) : Calls Tryd.prog 61 #[x.val, .int .i64 at', .int .i64 r] w (Gives (.int .i64 (waveV x at' r)) w) := by
  have a1 := run_left x.wl r.toNat at' h0
  have a2 := run_right x.wl r.toNat at' (by rw [hok.len]; exact h1)
  have c1 := fun (W : World) (y : Below w.heap.size w W) => run_any x at' r (-1) W (hx.on y) hok h0 h1 hr hr2 (.inl rfl)
  have c2 := fun (W : World) (y : Below w.heap.size w W) => run_any x at' r 1 W (hx.on y) hok h0 h1 hr hr2 (.inr rfl)
  have cp := fun (W : World) (y : Below w.heap.size w W) => people_any x (runI x.wl (-1) r.toNat at') (runI x.wl 1 r.toNat at') W (hx.on y) hok a1.1 (by omega) (by have := hok.len; omega)
  unfold waveV
  unfold LandR.val at *
  generalize seg x.pl (runI x.wl (-1) r.toNat at') (runI x.wl 1 r.toNat at') = S at *
  generalize runI x.wl (-1) r.toNat at' = A at *
  generalize runI x.wl 1 r.toNat at' = B at *
  clear a1 a2 hx hok h0 h1 hr hr2
  go_enter Tryd.func61, Tryd.ntmps61
  go_wp2_with (first | ((first | with_reducible refine wrx2 ?_ | with_reducible refine wrx ?_); (repeat (first | go_big_quiet_step ((first | (go_at_call 85; with_reducible exact Calls.ext (c1 _ bcl)) | (go_at_call 85; with_reducible exact Calls.ext (c2 _ bcl)) | (go_at_call 84; with_reducible exact Calls.ext (cp _ bcl)))) | quiet_step ((first | (go_at_call 85; with_reducible exact Calls.ext (c1 _ bcl)) | (go_at_call 85; with_reducible exact Calls.ext (c2 _ bcl)) | (go_at_call 84; with_reducible exact Calls.ext (cp _ bcl)))))); refine wpQuiet_nil ?_; rintro _ ⟨yr, rfl⟩; have syr := Ext.size yr; (repeat (first | rw [World.size_alloc] at syr | rw [World.size_setCell] at syr | rw [World.size_drew] at syr))) | (go_at_call 85; (first | with_reducible refine (Calls.giv2 (c1 _ bcl)).mono ?_ | with_reducible refine (Calls.giv (c1 _ bcl)).mono ?_); rintro _ _ ⟨y1, rfl, rfl⟩; have sy1 := Ext.size y1; (repeat (first | rw [World.size_alloc] at sy1 | rw [World.size_setCell] at sy1 | rw [World.size_drew] at sy1))) | (go_at_call 85; (first | with_reducible refine (Calls.giv2 (c2 _ bcl)).mono ?_ | with_reducible refine (Calls.giv (c2 _ bcl)).mono ?_); rintro _ _ ⟨y2, rfl, rfl⟩; have sy2 := Ext.size y2; (repeat (first | rw [World.size_alloc] at sy2 | rw [World.size_setCell] at sy2 | rw [World.size_drew] at sy2))) | (go_at_call 84; (first | with_reducible refine (Calls.giv2 (cp _ bcl)).mono ?_ | with_reducible refine (Calls.giv (cp _ bcl)).mono ?_); rintro _ _ ⟨y3, rfl, rfl⟩; have sy3 := Ext.size y3; (repeat (first | rw [World.size_alloc] at sy3 | rw [World.size_setCell] at sy3 | rw [World.size_drew] at sy3))))
  go_returns
  refine ⟨rfl, ?_⟩
  repeat' (first | (with_reducible exact Below.refl _ _) | (with_reducible assumption) | (with_reducible refine Ext.below _ ?_ ?_) | (with_reducible refine Below.on ?_ (by with_reducible assumption) ?_) | (with_reducible refine Below.alloc ?_ ?_ _) | (with_reducible refine Below.drew ?_) | (with_reducible refine Below.setCell ?_ ?_ _) | (with_reducible exact Nat.le_refl _) | omega | (simp; done) | (simp [go_sem]; done) | (simp at *; omega))
theorem Harm_ok (x : LandR) (at' r : Int) (w : World) (hx : x.At w) (hok : x.Ok) (h0 : 0 ≤ at') (h1 : at' < x.pl.length) (hr : 0 ≤ r) (hr2 : I64 r) : Calls Tryd.prog 32 #[x.val, .int .i64 at', .int .i64 r] w (Gives (.int .i64 (harmV x at' r)) w) := by
  have cc := fun (W : World) (y : Below w.heap.size w W) => CheckLand_any x W (hx.on y).nums
  rw [hok.e] at cc
  have ci := fun (W : World) => isCell_any x at' W
  rw [decide_eq_true (And.intro h0 h1)] at ci
  have ch := fun (W : World) (y : Below w.heap.size w W) => harmOf_any x at' r W (hx.on y) hok h0 h1 hr hr2
  unfold harmV
  unfold LandR.val at *
  generalize seg x.pl (max (at' - min r 400) 0) (min (at' + min r 400) (x.pl.length - 1)) = S at *
  clear hx hok h0 h1 hr2
  generalize x.pl.length = n at *
  go_enter Tryd.func32, Tryd.ntmps32
  go_wp2_with (first | ((first | with_reducible refine wrx2 ?_ | with_reducible refine wrx ?_); (repeat (first | go_big_quiet_step ((first | (go_at_call 58; with_reducible exact Calls.ext (cc _ bcl)) | (go_at_call 59; with_reducible exact Calls.ext (ci _)) | (go_at_call 60; with_reducible exact Calls.ext (ch _ bcl)))) | quiet_step ((first | (go_at_call 58; with_reducible exact Calls.ext (cc _ bcl)) | (go_at_call 59; with_reducible exact Calls.ext (ci _)) | (go_at_call 60; with_reducible exact Calls.ext (ch _ bcl)))))); refine wpQuiet_nil ?_; rintro _ ⟨yr, rfl⟩; have syr := Ext.size yr; (repeat (first | rw [World.size_alloc] at syr | rw [World.size_setCell] at syr | rw [World.size_drew] at syr))) | (go_at_call 58; (first | with_reducible refine (Calls.giv2 (cc _ bcl)).mono ?_ | with_reducible refine (Calls.giv (cc _ bcl)).mono ?_); rintro _ _ ⟨y1, rfl, rfl⟩; have sy1 := Ext.size y1; (repeat (first | rw [World.size_alloc] at sy1 | rw [World.size_setCell] at sy1 | rw [World.size_drew] at sy1))) | (go_at_call 59; (first | with_reducible refine (Calls.giv2 (ci _)).mono ?_ | with_reducible refine (Calls.giv (ci _)).mono ?_); rintro _ _ ⟨y2, rfl, rfl⟩; have sy2 := Ext.size y2; (repeat (first | rw [World.size_alloc] at sy2 | rw [World.size_setCell] at sy2 | rw [World.size_drew] at sy2))) | (go_at_call 60; (first | with_reducible refine (Calls.giv2 (ch _ bcl)).mono ?_ | with_reducible refine (Calls.giv (ch _ bcl)).mono ?_); rintro _ _ ⟨y3, rfl, rfl⟩; have sy3 := Ext.size y3; (repeat (first | rw [World.size_alloc] at sy3 | rw [World.size_setCell] at sy3 | rw [World.size_drew] at sy3))))
  go_returns
  refine ⟨rfl, ?_⟩
  repeat' (first | (with_reducible exact Below.refl _ _) | (with_reducible assumption) | (with_reducible refine Ext.below _ ?_ ?_) | (with_reducible refine Below.on ?_ (by with_reducible assumption) ?_) | (with_reducible refine Below.alloc ?_ ?_ _) | (with_reducible refine Below.drew ?_) | (with_reducible refine Below.setCell ?_ ?_ _) | (with_reducible exact Nat.le_refl _) | omega | (simp; done) | (simp [go_sem]; done) | (simp at *; omega))
/-- What Wave says of a cell of a valid land. -/
def waveI (x : LandR) (at' r : Int) : Int := if x.wl.getD at'.toNat false = true then waveV x at' r else 0
theorem Wave_ok (x : LandR) (at' r : Int) (w : World) (hx : x.At w) (hok : x.Ok) (h0 : 0 ≤ at') (h1 : at' < x.pl.length) (hr : 0 ≤ r) (hr2 : I64 r) : Calls Tryd.prog 34 #[x.val, .int .i64 at', .int .i64 r] w (Gives (.int .i64 (waveI x at' r)) w) := by
  have cc := fun (W : World) (y : Below w.heap.size w W) => CheckLand_any x W (hx.on y).nums
  rw [hok.e] at cc
  have ci := fun (W : World) => isCell_any x at' W
  rw [decide_eq_true (And.intro h0 h1)] at ci
  have ch := fun (W : World) (y : Below w.heap.size w W) => waveOf_any x at' r W (hx.on y) hok h0 h1 hr hr2
  unfold waveI
  obtain ⟨a, rfl⟩ := Int.eq_ofNat_of_zero_le h0
  have hlen := hok.len
  have hle := hok.le
  have h1n : a < x.wl.length := by omega
  obtain ⟨B, o, hp, hB, c1⟩ := hx.bools a h1n
  have hget : x.wl.getD (a : Int).toNat false = x.wl[a] := by simp [List.getD, h1n]
  rw [hget]
  generalize x.wl[a] = bw at *
  unfold LandR.val at *
  generalize waveV x a r = S at *
  rw [hlen] at cc ci ch ⊢
  simp only [hp] at cc ci ch ⊢
  clear hx hok h0 hr2 hget h1n hlen hp
  generalize x.pl.length = n at *
  cases bw
  · simp only [Bool.false_eq_true, if_false]
    go_enter Tryd.func34, Tryd.ntmps34
    go_wp2_with (first | ((first | with_reducible refine wrx2 ?_ | with_reducible refine wrx ?_); (repeat (first | go_big_quiet_step ((first | (go_at_call 58; with_reducible exact Calls.ext (cc _ bcl)) | (go_at_call 59; with_reducible exact Calls.ext (ci _)))) | quiet_step ((first | (go_at_call 58; with_reducible exact Calls.ext (cc _ bcl)) | (go_at_call 59; with_reducible exact Calls.ext (ci _)))))); refine wpQuiet_nil ?_; rintro _ ⟨yr, rfl⟩; have syr := Ext.size yr; (repeat (first | rw [World.size_alloc] at syr | rw [World.size_setCell] at syr | rw [World.size_drew] at syr)); have : B < yr.now.heap.size := (by omega); have : B ≤ yr.now.heap.size := (by omega); have : B < yr.now.heap.size + 1 + 1 := (by omega)) | (go_at_call 58; (first | with_reducible refine (Calls.giv2 (cc _ bcl)).mono ?_ | with_reducible refine (Calls.giv (cc _ bcl)).mono ?_); rintro _ _ ⟨y1, rfl, rfl⟩; have sy1 := Ext.size y1; (repeat (first | rw [World.size_alloc] at sy1 | rw [World.size_setCell] at sy1 | rw [World.size_drew] at sy1)); have : B < y1.now.heap.size := (by omega); have : B ≤ y1.now.heap.size := (by omega); have : B < y1.now.heap.size + 1 + 1 := (by omega)) | (go_at_call 59; (first | with_reducible refine (Calls.giv2 (ci _)).mono ?_ | with_reducible refine (Calls.giv (ci _)).mono ?_); rintro _ _ ⟨y2, rfl, rfl⟩; have sy2 := Ext.size y2; (repeat (first | rw [World.size_alloc] at sy2 | rw [World.size_setCell] at sy2 | rw [World.size_drew] at sy2)); have : B < y2.now.heap.size := (by omega); have : B ≤ y2.now.heap.size := (by omega); have : B < y2.now.heap.size + 1 + 1 := (by omega)))
    go_returns
    refine ⟨rfl, ?_⟩
    repeat' (first | (with_reducible exact Below.refl _ _) | (with_reducible assumption) | (with_reducible refine Ext.below _ ?_ ?_) | (with_reducible refine Below.on ?_ (by with_reducible assumption) ?_) | (with_reducible refine Below.alloc ?_ ?_ _) | (with_reducible refine Below.drew ?_) | (with_reducible refine Below.setCell ?_ ?_ _) | (with_reducible exact Nat.le_refl _) | omega | (simp; done) | (simp [go_sem]; done) | (simp at *; omega))
  · simp only [if_true]
    go_enter Tryd.func34, Tryd.ntmps34
    go_wp2_with (first | ((first | with_reducible refine wrx2 ?_ | with_reducible refine wrx ?_); (repeat (first | go_big_quiet_step ((first | (go_at_call 58; with_reducible exact Calls.ext (cc _ bcl)) | (go_at_call 59; with_reducible exact Calls.ext (ci _)) | (go_at_call 61; with_reducible exact Calls.ext (ch _ bcl)))) | quiet_step ((first | (go_at_call 58; with_reducible exact Calls.ext (cc _ bcl)) | (go_at_call 59; with_reducible exact Calls.ext (ci _)) | (go_at_call 61; with_reducible exact Calls.ext (ch _ bcl)))))); refine wpQuiet_nil ?_; rintro _ ⟨yr, rfl⟩; have syr := Ext.size yr; (repeat (first | rw [World.size_alloc] at syr | rw [World.size_setCell] at syr | rw [World.size_drew] at syr)); have : B < yr.now.heap.size := (by omega); have : B ≤ yr.now.heap.size := (by omega); have : B < yr.now.heap.size + 1 + 1 := (by omega)) | (go_at_call 58; (first | with_reducible refine (Calls.giv2 (cc _ bcl)).mono ?_ | with_reducible refine (Calls.giv (cc _ bcl)).mono ?_); rintro _ _ ⟨y1, rfl, rfl⟩; have sy1 := Ext.size y1; (repeat (first | rw [World.size_alloc] at sy1 | rw [World.size_setCell] at sy1 | rw [World.size_drew] at sy1)); have : B < y1.now.heap.size := (by omega); have : B ≤ y1.now.heap.size := (by omega); have : B < y1.now.heap.size + 1 + 1 := (by omega)) | (go_at_call 59; (first | with_reducible refine (Calls.giv2 (ci _)).mono ?_ | with_reducible refine (Calls.giv (ci _)).mono ?_); rintro _ _ ⟨y2, rfl, rfl⟩; have sy2 := Ext.size y2; (repeat (first | rw [World.size_alloc] at sy2 | rw [World.size_setCell] at sy2 | rw [World.size_drew] at sy2)); have : B < y2.now.heap.size := (by omega); have : B ≤ y2.now.heap.size := (by omega); have : B < y2.now.heap.size + 1 + 1 := (by omega)) | (go_at_call 61; (first | with_reducible refine (Calls.giv2 (ch _ bcl)).mono ?_ | with_reducible refine (Calls.giv (ch _ bcl)).mono ?_); rintro _ _ ⟨y3, rfl, rfl⟩; have sy3 := Ext.size y3; (repeat (first | rw [World.size_alloc] at sy3 | rw [World.size_setCell] at sy3 | rw [World.size_drew] at sy3)); have : B < y3.now.heap.size := (by omega); have : B ≤ y3.now.heap.size := (by omega); have : B < y3.now.heap.size + 1 + 1 := (by omega)))
    go_returns
    refine ⟨rfl, ?_⟩
    repeat' (first | (with_reducible exact Below.refl _ _) | (with_reducible assumption) | (with_reducible refine Ext.below _ ?_ ?_) | (with_reducible refine Below.on ?_ (by with_reducible assumption) ?_) | (with_reducible refine Below.alloc ?_ ?_ _) | (with_reducible refine Below.drew ?_) | (with_reducible refine Below.setCell ?_ ?_ _) | (with_reducible exact Nat.le_refl _) | omega | (simp; done) | (simp [go_sem]; done) | (simp at *; omega))
end Go.Proofs.YtlmhbggigbmeaaaDoor
namespace Go.Proofs.YtlmhbggigbmeaaaDoor
open Go.RowKit Go.Shelf
attribute [local go_sem] Option.isSome_some Ext.cell Ext.frozen Ext.lt Ext.le Ext.lt_add Ext.le_add Ext.ne Ext.ne' lt2 lt3 lt4 lt5 le2 le3 le4
def airL : List V2 := [⟨100, 1⟩, ⟨100, 10⟩]
def stoneL : StoneR := ⟨10, 1000, 1000000, 0, 1000, false, 100, 1000⟩
def landL (p q : Option Addr) : LandR := ⟨p, 5, [10, 20, 30, 40, 50], q, 5, [false, false, true, true, false]⟩
theorem air_any (w : World) : Calls Tryd.prog 24 #[] w (fun e w' => ∃ p, e = .returned (.slice p 2 2) ∧ Below w.heap.size w w' ∧ VecsAt w' p airL) := by
  go_enter Tryd.func24, Tryd.ntmps24
  go_wp2_with (first | ((first | with_reducible refine wrx2 ?_ | with_reducible refine wrx ?_); (repeat (first | go_big_quiet_step ((first | fail)) | quiet_step ((first | fail)))); refine wpQuiet_nil ?_; rintro _ ⟨yr, rfl⟩; have syr := Ext.size yr; (repeat (first | rw [World.size_alloc] at syr | rw [World.size_setCell] at syr | rw [World.size_drew] at syr))))
  go_returns
  refine ⟨_, rfl, (Below.refl _ _).alloc (Nat.le_refl _) _, ?_⟩
  intro j hj
  rcases (show j = 0 ∨ j = 1 by simp [airL] at hj; omega) with rfl | rfl
  · exact ⟨_, _, rfl, by simp, by simp [go_sem, airL], by simp [go_sem, airL]⟩
  · exact ⟨_, _, rfl, by simp, by simp [go_sem, airL], by simp [go_sem, airL]⟩
theorem stone_any (w : World) : Calls Tryd.prog 20 #[] w (Gives stoneL.val w) := by
  unfold StoneR.val StoneR.vals stoneL
  go_enter Tryd.func20, Tryd.ntmps20
  go_wp2_with (first | ((first | with_reducible refine wrx2 ?_ | with_reducible refine wrx ?_); (repeat (first | go_big_quiet_step ((first | fail)) | quiet_step ((first | fail)))); refine wpQuiet_nil ?_; rintro _ ⟨yr, rfl⟩; have syr := Ext.size yr; (repeat (first | rw [World.size_alloc] at syr | rw [World.size_setCell] at syr | rw [World.size_drew] at syr))))
  refine bodyPost_ret (v := .agg #[.int .i64 10, .int .i64 1000, .int .i64 1000000, .int .i64 0, .int .i64 1000, .bool false, .int .i64 100, .int .i64 1000]) (by simp (maxDischargeDepth := 9) [results, Tryd.results20, go_sem]) rfl ?_
  refine ⟨rfl, ?_⟩
  repeat' (first | (with_reducible exact Below.refl _ _) | (with_reducible assumption) | (with_reducible refine Ext.below _ ?_ ?_) | (with_reducible refine Below.on ?_ (by with_reducible assumption) ?_) | (with_reducible refine Below.alloc ?_ ?_ _) | (with_reducible refine Below.drew ?_) | (with_reducible refine Below.setCell ?_ ?_ _) | (with_reducible exact Nat.le_refl _) | omega | (simp; done) | (simp [go_sem]; done) | (simp at *; omega))
theorem land_any (w : World) : Calls Tryd.prog 33 #[] w (fun e w' => ∃ p q, e = .returned (landL p q).val ∧ Below w.heap.size w w' ∧ (landL p q).At w') := by
  go_enter Tryd.func33, Tryd.ntmps33
  go_wp2_with (first | ((first | with_reducible refine wrx2 ?_ | with_reducible refine wrx ?_); (repeat (first | go_big_quiet_step ((first | fail)) | quiet_step ((first | fail)))); refine wpQuiet_nil ?_; rintro _ ⟨yr, rfl⟩; have syr := Ext.size yr; (repeat (first | rw [World.size_alloc] at syr | rw [World.size_setCell] at syr | rw [World.size_drew] at syr))))
  refine bodyPost_ret (v := .agg #[.slice (some ⟨w.heap.size + 1, 0, none⟩) 5 5, .slice (some ⟨w.heap.size + 1 + 1, 0, none⟩) 5 5]) (by simp (maxDischargeDepth := 9) [results, Tryd.results33, go_sem]) rfl ?_
  refine ⟨_, _, rfl, ?_, ⟨fun j hj => ?_, fun j hj => ?_, by simp [landL]⟩⟩
  · repeat' (first | (with_reducible exact Below.refl _ _) | (with_reducible assumption) | (with_reducible refine Ext.below _ ?_ ?_) | (with_reducible refine Below.on ?_ (by with_reducible assumption) ?_) | (with_reducible refine Below.alloc ?_ ?_ _) | (with_reducible refine Below.drew ?_) | (with_reducible refine Below.setCell ?_ ?_ _) | (with_reducible exact Nat.le_refl _) | omega | (simp; done) | (simp [go_sem]; done) | (simp at *; omega))
  · rcases (show j = 0 ∨ j = 1 ∨ j = 2 ∨ j = 3 ∨ j = 4 by simp [landL] at hj; omega) with rfl | rfl | rfl | rfl | rfl <;> exact ⟨_, _, rfl, by simp, by simp [go_sem, landL]⟩
  · rcases (show j = 0 ∨ j = 1 ∨ j = 2 ∨ j = 3 ∨ j = 4 by simp [landL] at hj; omega) with rfl | rfl | rfl | rfl | rfl <;> exact ⟨_, _, rfl, by simp, by simp [go_sem, landL]⟩
theorem landL_ok (p q : Option Addr) : (landL p q).Ok := ⟨by simp [landL], by simp [landL], by simp [landL], by simp [landL]⟩
theorem stoneL_ok : stoneL.Ok := stoneB_ok.1 (by decide)
theorem endL : endOf airL stoneL = (2, 8910) := by decide +kernel
theorem massL : massV stoneL = 1000 := by decide +kernel
theorem airL_ok : airE airL = 0 := by decide +kernel
theorem harmL (p q : Option Addr) : harmV (landL p q) 0 1 = 30 := by
  show seg [10, 20, 30, 40, 50] (max (0 - min 1 400) 0) (min (0 + min 1 400) (5 - 1)) = 30
  decide +kernel
theorem waveL (p q : Option Addr) : waveI (landL p q) 3 5 = 140 := by
  show (if [false, false, true, true, false].getD 3 false = true then seg [10, 20, 30, 40, 50] (runI [false, false, true, true, false] (-1) 5 3) (runI [false, false, true, true, false] 1 5 3) else 0) = 140
  decide +kernel
theorem aw_ends (p : Option Addr) (w : World) (hlim : LimAt w) (hP : VecsAt w p airL) : Calls Tryd.prog 23 #[.slice p 2 2, stoneL.val] w (Gives (.tuple #[.int .i64 2, .int .i64 8910000, .int .i64 0]) w) := by
  have := Ends_ok p 2 airL stoneL w hlim hP airL_ok stoneL_ok
  rw [endL, massL] at this
  exact this
theorem aw_harm (p q : Option Addr) (w : World) (h : (landL p q).At w) : Calls Tryd.prog 32 #[(landL p q).val, .int .i64 0, .int .i64 1] w (Gives (.int .i64 30) w) := by
  have := Harm_ok (landL p q) 0 1 w h (landL_ok p q) (by omega) (by simp [landL]) (by omega) (by unfold I64; omega)
  rwa [harmL] at this
theorem aw_wave (p q : Option Addr) (w : World) (h : (landL p q).At w) : Calls Tryd.prog 34 #[(landL p q).val, .int .i64 3, .int .i64 5] w (Gives (.int .i64 140) w) := by
  have := Wave_ok (landL p q) 3 5 w h (landL_ok p q) (by omega) (by simp [landL]) (by omega) (by unfold I64; omega)
  rwa [waveL] at this
set_option maxHeartbeats 4000000 in
theorem blastAwake_any (w : World) (hlim : LimAt w) : Calls Tryd.prog 9 #[] w (Gives (.bool true) w) := by
  have cs := fun W => stone_any W
  go_enter Tryd.func9, Tryd.ntmps9
  go_upto_region 2 with (first | ((first | with_reducible refine wrx2 ?_ | with_reducible refine wrx ?_); (repeat (first | go_big_quiet_step ((first | (go_at_call 20; with_reducible exact Calls.ext (cs _)))) | quiet_step ((first | (go_at_call 20; with_reducible exact Calls.ext (cs _)))))); refine wpQuiet_nil ?_; rintro _ ⟨yr, rfl⟩; have syr := Ext.size yr; (repeat (first | rw [World.size_alloc] at syr | rw [World.size_setCell] at syr | rw [World.size_drew] at syr))) | (go_at_call 20; (first | with_reducible refine (Calls.giv2 (cs _)).mono ?_ | with_reducible refine (Calls.giv (cs _)).mono ?_); rintro _ _ ⟨y1, rfl, rfl⟩; have sy1 := Ext.size y1; (repeat (first | rw [World.size_alloc] at sy1 | rw [World.size_setCell] at sy1 | rw [World.size_drew] at sy1))) | (go_at_call 24; refine (air_any _).mono ?_; rintro _ W1 ⟨p, rfl, hb1, hv1⟩; have sz1 := hb1.size) | (go_at_call 23; refine (aw_ends p _ (LimAt.on hlim bcl) (hv1.on bcl)).mono ?_; rintro _ W2 ⟨rfl, hb2⟩; have sz2 := hb2.size))
  go_wp2_with (first | ((first | with_reducible refine wrx2 ?_ | with_reducible refine wrx ?_); (repeat (first | go_big_quiet_step ((first | fail)) | quiet_step ((first | fail)))); refine wpQuiet_nil ?_; rintro _ ⟨yr, rfl⟩; have syr := Ext.size yr; (repeat (first | rw [World.size_alloc] at syr | rw [World.size_setCell] at syr | rw [World.size_drew] at syr))) | (go_at_call 33; refine (land_any _).mono ?_; rintro _ W3 ⟨p3, q3, rfl, hb3, ha3⟩; have sz3 := hb3.size) | (go_at_call 32; refine (aw_harm _ _ _ ha3).mono ?_; rintro _ W4 ⟨rfl, hb4⟩; have sz4 := hb4.size) | (go_at_call 34; refine (aw_wave _ _ _ ha3).mono ?_; rintro _ W5 ⟨rfl, hb5⟩; have sz5 := hb5.size))
  go_returns
  refine ⟨rfl, ?_⟩
  repeat' (first | (with_reducible exact Below.refl _ _) | (with_reducible assumption) | (with_reducible refine Ext.below _ ?_ ?_) | (with_reducible refine Below.on ?_ (by with_reducible assumption) ?_) | (with_reducible refine Below.alloc ?_ ?_ _) | (with_reducible refine Below.drew ?_) | (with_reducible refine Below.setCell ?_ ?_ _) | (with_reducible exact Nat.le_refl _) | omega | (simp; done) | (simp [go_sem]; done) | (simp at *; omega))
end Go.Proofs.YtlmhbggigbmeaaaDoor

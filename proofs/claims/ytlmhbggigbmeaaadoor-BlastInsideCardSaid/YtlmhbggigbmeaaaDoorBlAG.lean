/- The region 'l, s := LayersOf(r), StoneOf(r, k, f)' of two laws: what holds between its operations, and what it leaves. Written by gen_two.py. No condition. Contract of the statements' awake: some of the chapter's examples. Condition: the table of limits stands as it was laid. -/
import Derived.Test.YtlmhbggigbmeaaaDoorBlLy
import Derived.Test.YtlmhbggigbmeaaaDoorBlStone
import Derived.Test.YtlmhbggigbmeaaaDoorBlV1G
import Derived.Test.YtlmhbggigbmeaaaDoorBlBgG
import Derived.Test.YtlmhbggigbmeaaaDoorBlWG
namespace Go.Proofs.YtlmhbggigbmeaaaDoor
open Go.RowKit Go.Shelf
theorem grown_setRow (W : World) (g : Nat) (cs : Array Value) : W.grownBy (W.setRow g cs) (some g) := by
  have k : Below 0 W (W.setRow g cs) := below_setRow (Below.refl _ _) (Nat.zero_le _) cs
  exact ⟨k.os, k.tape, k.output, k.size, fun B _ hn => setRow_other W g B cs (fun e => hn (by rw [e]))⟩
theorem size_setRow' (W : World) (g : Nat) (cs : Array Value) : (W.setRow g cs).heap.size = W.heap.size := by simp [World.setRow]
theorem belowX_row {b n g : Nat} {w W : World} (h : BelowX b n w W) (hg : n ≤ g) (cs : Array Value) : BelowX b n w (W.setRow g cs) := by
  have k : Below 0 W (W.setRow g cs) := below_setRow (Below.refl _ _) (Nat.zero_le _) cs
  exact ⟨k.os.trans h.os, k.tape.trans h.tape, k.output.trans h.output, Nat.le_trans h.size k.size, fun B hB hb => (setRow_other W g B cs (by omega)).trans (h.block B hB hb)⟩
theorem list9 {α : Type} {l : List α} (h : l.length = 9) : ∃ b0 b1 b2 b3 b4 b5 b6 b7 b8, l = [b0, b1, b2, b3, b4, b5, b6, b7, b8] := by
  match l, h with
  | [b0, b1, b2, b3, b4, b5, b6, b7, b8], _ => exact ⟨_, _, _, _, _, _, _, _, _, rfl⟩
def ordDeps : List (List Nat) := [[], [0], [], [], [], [2, 3, 4, 1], [], [1, 5], [6, 5, 7]]
def ordInv (b m : Nat) (k : RockR) (f : FallR) (a0 : Act) (X : World) (l : List Bool) (fr : Act) (W : World) : Prop :=
  ∃ s12 s13 s36 s37 s38 s39 s40 s41 : Value, fr = sets a0 [(12, s12), (13, s13), (36, s36), (37, s37), (38, s38), (39, s39), (40, s40), (41, s41)] ∧ BelowX b X.heap.size X W ∧
    (RingM W b (m + (20 * (l.getD 1 false).toNat + 14 * (l.getD 5 false).toNat))) ∧
    (l.getD 7 false = true → l.getD 1 false = true ∧ l.getD 5 false = true) ∧
    (l.getD 8 false = true → l.getD 6 false = true) ∧
    (l.getD 0 false = true → s36 = .pointer (some ⟨b, 0, none⟩)) ∧
    (l.getD 1 false = true → ∃ (lv : Value) (ls : List V2), s37 = lv ∧ LaysOk ls ∧ W.ownsRow X.heap.size 90 2 lv ls.length (vrows ls)) ∧
    (l.getD 2 false = true → s38 = .pointer (some ⟨b, 0, none⟩)) ∧
    (l.getD 3 false = true → s39 = .agg #[.int .i64 k.size.x, .int .i64 k.size.y, .int .i64 k.dens.x, .int .i64 k.dens.y, .int .i64 k.strong.x, .int .i64 k.strong.y, .int .i64 k.spin.x, .int .i64 k.spin.y, .int .i64 k.shape.x, .int .i64 k.shape.y, .bool k.pile]) ∧
    (l.getD 4 false = true → s40 = .agg #[.int .i64 f.speed.x, .int .i64 f.speed.y, .int .i64 f.slope.x, .int .i64 f.slope.y]) ∧
    (l.getD 5 false = true → ∃ s : StoneR, StoneIn s k f ∧ s41 = .agg s.vals) ∧
    (l.getD 6 false = true → ∃ g : Nat, s13 = .pointer (some ⟨g, 0, none⟩) ∧ X.heap.size ≤ g ∧ g < W.heap.size ∧ (l.getD 8 false = false → W.heap[g]? = some (.cells #[.int .i64 0, .int .i64 0, .int .i64 0, .int .i64 0, .int .i64 0, .bool false, .int .i64 0, .int .i64 0] 57 (0, 0))) ∧ (l.getD 8 false = true → ∃ s : StoneR, StoneIn s k f ∧ W.heap[g]? = some (.cells s.vals 57 (0, 0)))) ∧
    (l.getD 7 false = true → s12 = s37)
def ordTold (b m : Nat) (k : RockR) (f : FallR) : Act → World → Act → World → Prop := fun a X a' W => ∃ (g : Nat) (lv : Value) (ls : List V2) (s : StoneR), LaysOk ls ∧ StoneIn s k f ∧ a' = sets a [(12, lv), (13, .pointer (some ⟨g, 0, none⟩)), (36, a'.tmps.getD 36 undef), (37, a'.tmps.getD 37 undef), (38, a'.tmps.getD 38 undef), (39, a'.tmps.getD 39 undef), (40, a'.tmps.getD 40 undef), (41, a'.tmps.getD 41 undef)] ∧ X.heap.size ≤ g ∧ BelowX b X.heap.size X W ∧ RingM W b (m + 34) ∧ W.ownsRow X.heap.size 90 2 lv ls.length (vrows ls) ∧ W.heap[g]? = some (.cells s.vals 57 (0, 0))
def solDeps : List (List Nat) := [[], [0], [], [], [], [2, 3, 4, 1], [], [1, 5], [6, 5, 7]]
def solInv (b m : Nat) (k : RockR) (f : FallR) (a0 : Act) (X : World) (l : List Bool) (fr : Act) (W : World) : Prop :=
  ∃ s6 s7 s20 s21 s22 s23 s24 s25 : Value, fr = sets a0 [(6, s6), (7, s7), (20, s20), (21, s21), (22, s22), (23, s23), (24, s24), (25, s25)] ∧ BelowX b X.heap.size X W ∧
    (RingM W b (m + (20 * (l.getD 1 false).toNat + 14 * (l.getD 5 false).toNat))) ∧
    (l.getD 7 false = true → l.getD 1 false = true ∧ l.getD 5 false = true) ∧
    (l.getD 8 false = true → l.getD 6 false = true) ∧
    (l.getD 0 false = true → s20 = .pointer (some ⟨b, 0, none⟩)) ∧
    (l.getD 1 false = true → ∃ (lv : Value) (ls : List V2), s21 = lv ∧ LaysOk ls ∧ W.ownsRow X.heap.size 90 2 lv ls.length (vrows ls)) ∧
    (l.getD 2 false = true → s22 = .pointer (some ⟨b, 0, none⟩)) ∧
    (l.getD 3 false = true → s23 = .agg #[.int .i64 k.size.x, .int .i64 k.size.y, .int .i64 k.dens.x, .int .i64 k.dens.y, .int .i64 k.strong.x, .int .i64 k.strong.y, .int .i64 k.spin.x, .int .i64 k.spin.y, .int .i64 k.shape.x, .int .i64 k.shape.y, .bool k.pile]) ∧
    (l.getD 4 false = true → s24 = .agg #[.int .i64 f.speed.x, .int .i64 f.speed.y, .int .i64 f.slope.x, .int .i64 f.slope.y]) ∧
    (l.getD 5 false = true → ∃ s : StoneR, StoneIn s k f ∧ s25 = .agg s.vals) ∧
    (l.getD 6 false = true → ∃ g : Nat, s7 = .pointer (some ⟨g, 0, none⟩) ∧ X.heap.size ≤ g ∧ g < W.heap.size ∧ (l.getD 8 false = false → W.heap[g]? = some (.cells #[.int .i64 0, .int .i64 0, .int .i64 0, .int .i64 0, .int .i64 0, .bool false, .int .i64 0, .int .i64 0] 57 (0, 0))) ∧ (l.getD 8 false = true → ∃ s : StoneR, StoneIn s k f ∧ W.heap[g]? = some (.cells s.vals 57 (0, 0)))) ∧
    (l.getD 7 false = true → s6 = s21)
def solTold (b m : Nat) (k : RockR) (f : FallR) : Act → World → Act → World → Prop := fun a X a' W => ∃ (g : Nat) (lv : Value) (ls : List V2) (s : StoneR), LaysOk ls ∧ StoneIn s k f ∧ a' = sets a [(6, lv), (7, .pointer (some ⟨g, 0, none⟩)), (20, a'.tmps.getD 20 undef), (21, a'.tmps.getD 21 undef), (22, a'.tmps.getD 22 undef), (23, a'.tmps.getD 23 undef), (24, a'.tmps.getD 24 undef), (25, a'.tmps.getD 25 undef)] ∧ X.heap.size ≤ g ∧ BelowX b X.heap.size X W ∧ RingM W b (m + 34) ∧ W.ownsRow X.heap.size 90 2 lv ls.length (vrows ls) ∧ W.heap[g]? = some (.cells s.vals 57 (0, 0))
end Go.Proofs.YtlmhbggigbmeaaaDoor
namespace Go.Proofs.YtlmhbggigbmeaaaDoor
open Go.RowKit Go.Shelf
attribute [local go_sem] Option.isSome_some Ext.cell Ext.frozen Ext.lt Ext.le Ext.lt_add Ext.le_add Ext.ne Ext.ne' lt2 lt3 lt4 lt5 le2 le3 le4
def airL : List V2 := [⟨100, 1⟩, ⟨100, 10⟩]
def stoneL : StoneR := ⟨10, 1000, 1000000, 0, 1000, false, 100, 1000⟩
def landL (p q : Option Addr) : LandR := ⟨p, 5, [10, 20, 30, 40, 50], q, 5, [false, false, true, true, false]⟩
theorem air_any (w : World) : Calls Tryd.prog 24 #[] w (fun e w' => ∃ p, e = .returned (.slice p 2 2) ∧ Below w.heap.size w w' ∧ VecsAt w' p airL) := by
  go_enter Tryd.func24, Tryd.ntmps24
  go_wp2_with (first | ((first | with_reducible refine wrx2 ?_ | with_reducible refine wrx ?_); (repeat (first | go_big_quiet_step ((first | fail)) | quiet_step ((first | fail)))); refine wpQuiet_nil ?_; rintro _ ⟨yr, rfl⟩; have syr := Ext.size yr; (repeat (first | rw [World.size_alloc] at syr | rw [World.size_setCell] at syr | rw [World.size_drew] at syr))))
  go_returns
  refine ⟨_, rfl, (Below.refl _ _).alloc (Nat.le_refl _) _, ?_⟩
  intro j hj
  rcases (show j = 0 ∨ j = 1 by simp [airL] at hj; omega) with rfl | rfl
  · exact ⟨_, _, rfl, by simp, by simp [go_sem, airL], by simp [go_sem, airL]⟩
  · exact ⟨_, _, rfl, by simp, by simp [go_sem, airL], by simp [go_sem, airL]⟩
theorem stone_any (w : World) : Calls Tryd.prog 20 #[] w (Gives stoneL.val w) := by
  unfold StoneR.val StoneR.vals stoneL
  go_enter Tryd.func20, Tryd.ntmps20
  go_wp2_with (first | ((first | with_reducible refine wrx2 ?_ | with_reducible refine wrx ?_); (repeat (first | go_big_quiet_step ((first | fail)) | quiet_step ((first | fail)))); refine wpQuiet_nil ?_; rintro _ ⟨yr, rfl⟩; have syr := Ext.size yr; (repeat (first | rw [World.size_alloc] at syr | rw [World.size_setCell] at syr | rw [World.size_drew] at syr))))
  refine bodyPost_ret (v := .agg #[.int .i64 10, .int .i64 1000, .int .i64 1000000, .int .i64 0, .int .i64 1000, .bool false, .int .i64 100, .int .i64 1000]) (by simp (maxDischargeDepth := 9) [results, Tryd.results20, go_sem]) rfl ?_
  refine ⟨rfl, ?_⟩
  repeat' (first | (with_reducible exact Below.refl _ _) | (with_reducible assumption) | (with_reducible refine Ext.below _ ?_ ?_) | (with_reducible refine Below.on ?_ (by with_reducible assumption) ?_) | (with_reducible refine Below.alloc ?_ ?_ _) | (with_reducible refine Below.drew ?_) | (with_reducible refine Below.setCell ?_ ?_ _) | (with_reducible exact Nat.le_refl _) | omega | (simp; done) | (simp [go_sem]; done) | (simp at *; omega))
theorem land_any (w : World) : Calls Tryd.prog 33 #[] w (fun e w' => ∃ p q, e = .returned (landL p q).val ∧ Below w.heap.size w w' ∧ (landL p q).At w') := by
  go_enter Tryd.func33, Tryd.ntmps33
  go_wp2_with (first | ((first | with_reducible refine wrx2 ?_ | with_reducible refine wrx ?_); (repeat (first | go_big_quiet_step ((first | fail)) | quiet_step ((first | fail)))); refine wpQuiet_nil ?_; rintro _ ⟨yr, rfl⟩; have syr := Ext.size yr; (repeat (first | rw [World.size_alloc] at syr | rw [World.size_setCell] at syr | rw [World.size_drew] at syr))))
  refine bodyPost_ret (v := .agg #[.slice (some ⟨w.heap.size + 1, 0, none⟩) 5 5, .slice (some ⟨w.heap.size + 1 + 1, 0, none⟩) 5 5]) (by simp (maxDischargeDepth := 9) [results, Tryd.results33, go_sem]) rfl ?_
  refine ⟨_, _, rfl, ?_, ⟨fun j hj => ?_, fun j hj => ?_, by simp [landL]⟩⟩
  · repeat' (first | (with_reducible exact Below.refl _ _) | (with_reducible assumption) | (with_reducible refine Ext.below _ ?_ ?_) | (with_reducible refine Below.on ?_ (by with_reducible assumption) ?_) | (with_reducible refine Below.alloc ?_ ?_ _) | (with_reducible refine Below.drew ?_) | (with_reducible refine Below.setCell ?_ ?_ _) | (with_reducible exact Nat.le_refl _) | omega | (simp; done) | (simp [go_sem]; done) | (simp at *; omega))
  · rcases (show j = 0 ∨ j = 1 ∨ j = 2 ∨ j = 3 ∨ j = 4 by simp [landL] at hj; omega) with rfl | rfl | rfl | rfl | rfl <;> exact ⟨_, _, rfl, by simp, by simp [go_sem, landL]⟩
  · rcases (show j = 0 ∨ j = 1 ∨ j = 2 ∨ j = 3 ∨ j = 4 by simp [landL] at hj; omega) with rfl | rfl | rfl | rfl | rfl <;> exact ⟨_, _, rfl, by simp, by simp [go_sem, landL]⟩
theorem landL_ok (p q : Option Addr) : (landL p q).Ok := ⟨by simp [landL], by simp [landL], by simp [landL], by simp [landL]⟩
theorem stoneL_ok : stoneL.Ok := stoneB_ok.1 (by decide)
theorem endL : endOf airL stoneL = (2, 8910) := by decide +kernel
theorem massL : massV stoneL = 1000 := by decide +kernel
theorem airL_ok : airE airL = 0 := by decide +kernel
theorem harmL (p q : Option Addr) : harmV (landL p q) 0 1 = 30 := by
  show seg [10, 20, 30, 40, 50] (max (0 - min 1 400) 0) (min (0 + min 1 400) (5 - 1)) = 30
  decide +kernel
theorem waveL (p q : Option Addr) : waveI (landL p q) 3 5 = 140 := by
  show (if [false, false, true, true, false].getD 3 false = true then seg [10, 20, 30, 40, 50] (runI [false, false, true, true, false] (-1) 5 3) (runI [false, false, true, true, false] 1 5 3) else 0) = 140
  decide +kernel
theorem aw_ends (p : Option Addr) (w : World) (hlim : LimAt w) (hP : VecsAt w p airL) : Calls Tryd.prog 23 #[.slice p 2 2, stoneL.val] w (Gives (.tuple #[.int .i64 2, .int .i64 8910000, .int .i64 0]) w) := by
  have := Ends_ok p 2 airL stoneL w hlim hP airL_ok stoneL_ok
  rw [endL, massL] at this
  exact this
theorem aw_harm (p q : Option Addr) (w : World) (h : (landL p q).At w) : Calls Tryd.prog 32 #[(landL p q).val, .int .i64 0, .int .i64 1] w (Gives (.int .i64 30) w) := by
  have := Harm_ok (landL p q) 0 1 w h (landL_ok p q) (by omega) (by simp [landL]) (by omega) (by unfold I64; omega)
  rwa [harmL] at this
theorem aw_wave (p q : Option Addr) (w : World) (h : (landL p q).At w) : Calls Tryd.prog 34 #[(landL p q).val, .int .i64 3, .int .i64 5] w (Gives (.int .i64 140) w) := by
  have := Wave_ok (landL p q) 3 5 w h (landL_ok p q) (by omega) (by simp [landL]) (by omega) (by unfold I64; omega)
  rwa [waveL] at this
set_option maxHeartbeats 4000000 in
theorem blastAwake_any (w : World) (hlim : LimAt w) : Calls Tryd.prog 9 #[] w (Gives (.bool true) w) := by
  have cs := fun W => stone_any W
  go_enter Tryd.func9, Tryd.ntmps9
  go_upto_region 2 with (first | ((first | with_reducible refine wrx2 ?_ | with_reducible refine wrx ?_); (repeat (first | go_big_quiet_step ((first | (go_at_call 20; with_reducible exact Calls.ext (cs _)))) | quiet_step ((first | (go_at_call 20; with_reducible exact Calls.ext (cs _)))))); refine wpQuiet_nil ?_; rintro _ ⟨yr, rfl⟩; have syr := Ext.size yr; (repeat (first | rw [World.size_alloc] at syr | rw [World.size_setCell] at syr | rw [World.size_drew] at syr))) | (go_at_call 20; (first | with_reducible refine (Calls.giv2 (cs _)).mono ?_ | with_reducible refine (Calls.giv (cs _)).mono ?_); rintro _ _ ⟨y1, rfl, rfl⟩; have sy1 := Ext.size y1; (repeat (first | rw [World.size_alloc] at sy1 | rw [World.size_setCell] at sy1 | rw [World.size_drew] at sy1))) | (go_at_call 24; refine (air_any _).mono ?_; rintro _ W1 ⟨p, rfl, hb1, hv1⟩; have sz1 := hb1.size) | (go_at_call 23; refine (aw_ends p _ (LimAt.on hlim bcl) (hv1.on bcl)).mono ?_; rintro _ W2 ⟨rfl, hb2⟩; have sz2 := hb2.size))
  go_wp2_with (first | ((first | with_reducible refine wrx2 ?_ | with_reducible refine wrx ?_); (repeat (first | go_big_quiet_step ((first | fail)) | quiet_step ((first | fail)))); refine wpQuiet_nil ?_; rintro _ ⟨yr, rfl⟩; have syr := Ext.size yr; (repeat (first | rw [World.size_alloc] at syr | rw [World.size_setCell] at syr | rw [World.size_drew] at syr))) | (go_at_call 33; refine (land_any _).mono ?_; rintro _ W3 ⟨p3, q3, rfl, hb3, ha3⟩; have sz3 := hb3.size) | (go_at_call 32; refine (aw_harm _ _ _ ha3).mono ?_; rintro _ W4 ⟨rfl, hb4⟩; have sz4 := hb4.size) | (go_at_call 34; refine (aw_wave _ _ _ ha3).mono ?_; rintro _ W5 ⟨rfl, hb5⟩; have sz5 := hb5.size))
  go_returns
  refine ⟨rfl, ?_⟩
  repeat' (first | (with_reducible exact Below.refl _ _) | (with_reducible assumption) | (with_reducible refine Ext.below _ ?_ ?_) | (with_reducible refine Below.on ?_ (by with_reducible assumption) ?_) | (with_reducible refine Below.alloc ?_ ?_ _) | (with_reducible refine Below.drew ?_) | (with_reducible refine Below.setCell ?_ ?_ _) | (with_reducible exact Nat.le_refl _) | omega | (simp; done) | (simp [go_sem]; done) | (simp at *; omega))
end Go.Proofs.YtlmhbggigbmeaaaDoor

/- The chapter's examples as contracts: what the functions answer there. Condition: the table of limits stands as it was laid. -/
import Derived.Test.YtlmhbggigbmeaaaDoorBlAG
import Derived.Test.YtlmhbggigbmeaaaDoorBlX1
import Derived.Test.YtlmhbggigbmeaaaDoorBlHolds
import Derived.Test.YtlmhbggigbmeaaaDoorPairG
import Derived.Test.YtlmhbggigbmeaaaDoorBlAlG
namespace Go.Proofs.YtlmhbggigbmeaaaDoor
open Go.RowKit Go.Shelf
attribute [local go_sem] Option.isSome_some Ext.cell Ext.frozen Ext.lt Ext.le Ext.lt_add Ext.le_add Ext.ne Ext.ne' lt2 lt3 lt4 lt5 le2 le3 le4
def gradesL : List V2 := [⟨0, 1⟩, ⟨5000000, 2⟩, ⟨20000000, 4⟩]
def stoneS (n : Int) : StoneR := ⟨10, 1000, n, 0, 1000, false, 100, 1000⟩
def pileS : StoneR := ⟨10, 1000, 1000000, 250, 1000, true, 100, 1000⟩
def rockL : RockR := ⟨⟨10, 10⟩, ⟨1000, 1000⟩, ⟨50000, 1000000⟩, ⟨0, 0⟩, ⟨1000, 1000⟩, false⟩
def fallL : FallR := ⟨⟨100, 100⟩, ⟨1000, 1000⟩⟩
theorem grades_any (w : World) : Calls Tryd.prog 31 #[] w (fun e w' => ∃ p, e = .returned (.slice p 3 3) ∧ Below w.heap.size w w' ∧ VecsAt w' p gradesL) := by
  go_enter Tryd.func31, Tryd.ntmps31
  go_wp2_with (first | ((first | with_reducible refine wrx2 ?_ | with_reducible refine wrx ?_); (repeat (first | go_big_quiet_step ((first | fail)) | quiet_step ((first | fail)))); refine wpQuiet_nil ?_; rintro _ ⟨yr, rfl⟩; have syr := Ext.size yr; (repeat (first | rw [World.size_alloc] at syr | rw [World.size_setCell] at syr | rw [World.size_drew] at syr))))
  go_returns
  refine ⟨_, rfl, (Below.refl _ _).alloc (Nat.le_refl _) _, ?_⟩
  intro j hj
  rcases (show j = 0 ∨ j = 1 ∨ j = 2 by simp [gradesL] at hj; omega) with rfl | rfl | rfl <;> exact ⟨_, _, rfl, by simp, by simp [go_sem, gradesL], by simp [go_sem, gradesL]⟩
theorem gradesL_ok : GradesOk gradesL := gradesE_ok (by decide +kernel)
theorem kn_mass (w : World) (hlim : LimAt w) : Calls Tryd.prog 21 #[stoneL.val] w (Gives (.int .i64 1000) w) := by
  have := Mass_any stoneL w hlim
  rwa [show massI stoneL = 1000 by decide +kernel] at this
theorem kn_holds (w : World) (hlim : LimAt w) : Calls Tryd.prog 22 #[stoneL.val] w (Gives (.int .i64 1000000) w) := by
  have := Holds_any stoneL w hlim
  rwa [show holdsI stoneL = 1000000 by decide +kernel] at this
theorem kn_pile (w : World) (hlim : LimAt w) : Calls Tryd.prog 22 #[pileS.val] w (Gives (.int .i64 750000) w) := by
  have := Holds_any pileS w hlim
  rwa [show holdsI pileS = 750000 by decide +kernel] at this
theorem kn_ends1 (p : Option Addr) (w : World) (hlim : LimAt w) (hP : VecsAt w p airL) : Calls Tryd.prog 23 #[.slice p 2 2, (stoneS 99000).val] w (Gives (.tuple #[.int .i64 1, .int .i64 9900000, .int .i64 0]) w) := by
  have := Ends_ok p 2 airL (stoneS 99000) w hlim hP airL_ok (stoneB_ok.1 (by decide))
  rw [show endOf airL (stoneS 99000) = (1, 9900) by decide +kernel, show massV (stoneS 99000) = 1000 by decide +kernel] at this
  exact this
theorem kn_ends2 (p : Option Addr) (w : World) (hlim : LimAt w) (hP : VecsAt w p airL) : Calls Tryd.prog 23 #[.slice p 2 2, (stoneS 10000).val] w (Gives (.tuple #[.int .i64 0, .int .i64 10000000, .int .i64 0]) w) := by
  have := Ends_ok p 2 airL (stoneS 10000) w hlim hP airL_ok (stoneB_ok.1 (by decide))
  rw [show endOf airL (stoneS 10000) = (0, 10000) by decide +kernel, show massV (stoneS 10000) = 1000 by decide +kernel] at this
  exact this
theorem kn_blowsE : blowsE airL rockL fallL = 0 := by decide +kernel
def blowsK : List BlowR := [⟨1, 9900000, 9900000, false⟩, ⟨2, 8910000, 8910000, true⟩]
theorem kn_blowsA : blowsA airL rockL fallL = blowsK := by kernel_rfl
theorem kn_tollE (p q : Option Addr) : tollE airL gradesL (landL p q) rockL fallL 0 1 = 0 := by
  refine tollE_of kn_blowsE (sceneE_of gradesL_ok (landL_ok p q)) (by decide) (by decide) (by simp [landL])
theorem kn_tolls (p q : Option Addr) : tollsV airL gradesL (landL p q) rockL fallL 0 1 = [⟨30, 60⟩, ⟨60, 100⟩] := by
  rw [tolls_of (kn_tollE p q), kn_blowsA]
  kernel_rfl
theorem kn_toll (pa pg p q : Option Addr) (w : World) (hlim : LimAt w) (hl : VecsAt w pa airL) (hg : VecsAt w pg gradesL) (hx : (landL p q).At w) : Calls Tryd.prog 16 #[.slice pa 2 2, .slice pg 3 3, (landL p q).val, rockL.val, fallL.val, .int .i64 0, .int .i64 1] w (Gives (.tuple #[.agg #[.int .i64 30, .int .i64 100], .int .i64 0]) w) := by
  have := Toll_any pa 2 airL pg 3 gradesL (landL p q) rockL fallL 0 1 w hlim hl hg hx
  rw [kn_tollE, kn_tolls] at this
  exact this
theorem kn_worst (pa pg p q : Option Addr) (w : World) (hlim : LimAt w) (hl : VecsAt w pa airL) (hg : VecsAt w pg gradesL) (hx : (landL p q).At w) : Calls Tryd.prog 18 #[.slice pa 2 2, .slice pg 3 3, (landL p q).val, rockL.val, fallL.val, .int .i64 0, .int .i64 1] w (Gives (.tuple #[.int .i64 1, .int .i64 0]) w) := by
  have := Worst_any pa 2 airL pg 3 gradesL (landL p q) rockL fallL 0 1 w hlim hl hg hx
  unfold worstV at this
  rw [kn_tollE, kn_tolls] at this
  exact this
theorem kn_harms (layer e a V : Int) (pa pg p q : Option Addr) (w : World) (hl : VecsAt w pa airL) (hg : VecsAt w pg gradesL) (hx : (landL p q).At w) (h1 : 0 ≤ layer) (h2 : layer ≤ 2) (h3 : 0 ≤ a) (h4 : a < 5) (hV : harmsV 2 gradesL (landL none none) layer e a = V) : Calls Tryd.prog 35 #[.slice pa 2 2, .slice pg 3 3, (landL p q).val, .int .i64 layer, .int .i64 e, .int .i64 a] w (Gives (.tuple #[.int .i64 V, .int .i64 0]) w) := by
  have := Harms_any pa 2 airL pg 3 gradesL (landL p q) layer e a w hl hg hx
  have e0 : harmsE airL gradesL (landL p q) layer a = 0 := harmsE_of airL_ok (sceneE_of gradesL_ok (landL_ok p q)) h1 h2 h3 (by simpa [landL] using h4)
  rw [harmsA_of e0, e0, show harmsV airL.length gradesL (landL p q) layer e a = V from hV] at this
  exact this
theorem kn_reach (e V : Int) (p : Option Addr) (w : World) (hg : VecsAt w p gradesL) (hV : reachL e gradesL 0 = V) : Calls Tryd.prog 30 #[.slice p 3 3, .int .i64 e] w (Gives (.int .i64 V) w) := by
  have := Reach_ok p 3 gradesL e w hg gradesL_ok
  rw [hV] at this
  exact this
theorem kn_crater (w : World) : Calls Tryd.prog 29 #[.int .i64 8910000] w (Gives (.int .i64 54) w) := by
  have := Crater_any 8910000 w (by decide) (by decide)
  rwa [show craterI 8910000 = 54 by decide +kernel] at this
theorem kn_harm (p q : Option Addr) (w : World) (h : (landL p q).At w) : Calls Tryd.prog 32 #[(landL p q).val, .int .i64 4, .int .i64 9] w (Gives (.int .i64 150) w) := by
  have := Harm_ok (landL p q) 4 9 w h (landL_ok p q) (by omega) (by simp [landL]) (by omega) (by unfold I64; omega)
  rwa [show harmV (landL p q) 4 9 = 150 from (by decide +kernel : harmV (landL none none) 4 9 = 150)] at this
theorem kn_wave (a V : Int) (p q : Option Addr) (w : World) (h : (landL p q).At w) (h0 : 0 ≤ a) (h1 : a < 5) (hV : waveI (landL none none) a 1 = V) : Calls Tryd.prog 34 #[(landL p q).val, .int .i64 a, .int .i64 1] w (Gives (.int .i64 V) w) := by
  have := Wave_ok (landL p q) a 1 w h (landL_ok p q) h0 (by simpa [landL] using h1) (by omega) (by unfold I64; omega)
  rw [show waveI (landL p q) a 1 = V from hV] at this
  exact this
theorem kn_waves : waveI (landL none none) 2 1 = 90 ∧ waveI (landL none none) 0 1 = 0 ∧ reachL 8910000 gradesL 0 = 2 ∧ reachL 4999999 gradesL 0 = 1 ∧ reachL 20000000 gradesL 0 = 4 ∧ harmsV 2 gradesL (landL none none) 2 8910000 2 = 140 ∧ harmsV 2 gradesL (landL none none) 2 8910000 1 = 100 ∧ harmsV 2 gradesL (landL none none) 1 9900000 1 = 60 := by decide +kernel
theorem kn_blows (p : Option Addr) (w : World) (hlim : LimAt w) (hP : VecsAt w p airL) : Calls Tryd.prog 26 #[.slice p 2 2, rockL.val, fallL.val] w (fun e w' => ∃ q c, e = .returned (.tuple #[.slice q 2 c, .int .i64 0]) ∧ Below w.heap.size w w' ∧ V3At w' q [⟨1, 9900000, 9900000⟩, ⟨2, 8910000, 8910000⟩]) := by
  refine (Blows_any p 2 airL rockL fallL w hlim hP).mono ?_
  rintro _ w' ⟨v, rfl, hb, hr⟩
  rw [kn_blowsA] at hr
  obtain ⟨q, c, rfl, hv⟩ := v3_of hr
  exact ⟨q, c, by rw [kn_blowsE]; rfl, hb, hv⟩
/-- What stands: all blocks but two. -/
structure KeptR (R0 R1 : Nat) (X W : World) : Prop where
  os : W.os = X.os
  tape : W.tape = X.tape
  output : W.output = X.output
  size : W.heap.size = X.heap.size
  block : ∀ B, B < X.heap.size → B ≠ R0 → B ≠ R1 → W.heap[B]? = X.heap[B]?
theorem KeptR.refl (R0 R1 : Nat) (X : World) : KeptR R0 R1 X X := ⟨rfl, rfl, rfl, rfl, fun _ _ _ _ => rfl⟩
theorem KeptR.drew {R0 R1 : Nat} {X W : World} (h : KeptR R0 R1 X W) : KeptR R0 R1 X W.drew := ⟨h.os, h.tape, h.output, h.size, h.block⟩
theorem KeptR.row0 {R0 R1 : Nat} {X W : World} (h : KeptR R0 R1 X W) (cs : Array Value) : KeptR R0 R1 X (W.setRow R0 cs) := by
  have k : Below 0 W (W.setRow R0 cs) := below_setRow (Below.refl _ _) (Nat.zero_le _) cs
  exact ⟨k.os.trans h.os, k.tape.trans h.tape, k.output.trans h.output, (size_setRow' W R0 cs).trans h.size, fun B hB h0 h1 => (setRow_other W R0 B cs (by omega)).trans (h.block B hB h0 h1)⟩
theorem KeptR.row1 {R0 R1 : Nat} {X W : World} (h : KeptR R0 R1 X W) (cs : Array Value) : KeptR R0 R1 X (W.setRow R1 cs) := by
  have k : Below 0 W (W.setRow R1 cs) := below_setRow (Below.refl _ _) (Nat.zero_le _) cs
  exact ⟨k.os.trans h.os, k.tape.trans h.tape, k.output.trans h.output, (size_setRow' W R1 cs).trans h.size, fun B hB h0 h1 => (setRow_other W R1 B cs (by omega)).trans (h.block B hB h0 h1)⟩
theorem KeptR.below {R0 R1 n : Nat} {w X W : World} (h : KeptR R0 R1 X W) (k : Below n w X) (h0 : n ≤ R0) (h1 : n ≤ R1) (hn : n ≤ w.heap.size) : Below n w W :=
  ⟨h.os.trans k.os, h.tape.trans k.tape, h.output.trans k.output, Nat.le_trans k.size (Nat.le_of_eq h.size.symm), fun B hB => (h.block B (by have := k.size; omega) (by omega) (by omega)).trans (k.block B hB)⟩
theorem KeptR.belowX {R0 R1 b n : Nat} {w X W : World} (h : KeptR R0 R1 X W) (k : BelowX b n w X) (h0 : n ≤ R0) (h1 : n ≤ R1) (hn : n ≤ w.heap.size) : BelowX b n w W :=
  ⟨h.os.trans k.os, h.tape.trans k.tape, h.output.trans k.output, Nat.le_trans k.size (Nat.le_of_eq h.size.symm), fun B hB hb => (h.block B (by have := k.size; omega) (by omega) (by omega)).trans (k.block B hB hb)⟩
def rk3Deps : List (List Nat) := [[], [], [0], [1]]
def rk3Inv (b m R0 R1 : Nat) (k : RockR) (f : FallR) (a0 : Act) (X : World) (l : List Bool) (fr : Act) (W : World) : Prop :=
  ∃ s11 s12 : Value, fr = sets a0 [(11, s11), (12, s12)] ∧ KeptR R0 R1 X W ∧
    (b < R0 ∧ b < R1 → RingM X b m → RingM W b m) ∧
    ((l.getD 2 false = false → W.heap[R0]? = some (.cells #[.int .i64 0, .int .i64 0, .int .i64 0, .int .i64 0, .int .i64 0, .int .i64 0, .int .i64 0, .int .i64 0, .int .i64 0, .int .i64 0, .bool false] 31 (0, 0)))) ∧
    ((l.getD 2 false = true → W.heap[R0]? = some (.cells #[.int .i64 k.size.x, .int .i64 k.size.y, .int .i64 k.dens.x, .int .i64 k.dens.y, .int .i64 k.strong.x, .int .i64 k.strong.y, .int .i64 k.spin.x, .int .i64 k.spin.y, .int .i64 k.shape.x, .int .i64 k.shape.y, .bool k.pile] 31 (0, 0)))) ∧
    ((l.getD 3 false = false → W.heap[R1]? = some (.cells #[.int .i64 0, .int .i64 0, .int .i64 0, .int .i64 0] 33 (0, 0)))) ∧
    ((l.getD 3 false = true → W.heap[R1]? = some (.cells #[.int .i64 f.speed.x, .int .i64 f.speed.y, .int .i64 f.slope.x, .int .i64 f.slope.y] 33 (0, 0)))) ∧
    (l.getD 0 false = true → s11 = .agg #[.int .i64 k.size.x, .int .i64 k.size.y, .int .i64 k.dens.x, .int .i64 k.dens.y, .int .i64 k.strong.x, .int .i64 k.strong.y, .int .i64 k.spin.x, .int .i64 k.spin.y, .int .i64 k.shape.x, .int .i64 k.shape.y, .bool k.pile]) ∧
    (l.getD 1 false = true → s12 = .agg #[.int .i64 f.speed.x, .int .i64 f.speed.y, .int .i64 f.slope.x, .int .i64 f.slope.y])
def rk3Told (b m R0 R1 : Nat) (k : RockR) (f : FallR) : Act → World → Act → World → Prop := fun a X a' W => a' = sets a [(11, a'.tmps.getD 11 undef), (12, a'.tmps.getD 12 undef)] ∧ KeptR R0 R1 X W ∧ (b < R0 ∧ b < R1 → RingM X b m → RingM W b m) ∧ W.heap[R0]? = some (.cells #[.int .i64 k.size.x, .int .i64 k.size.y, .int .i64 k.dens.x, .int .i64 k.dens.y, .int .i64 k.strong.x, .int .i64 k.strong.y, .int .i64 k.spin.x, .int .i64 k.spin.y, .int .i64 k.shape.x, .int .i64 k.shape.y, .bool k.pile] 31 (0, 0)) ∧ W.heap[R1]? = some (.cells #[.int .i64 f.speed.x, .int .i64 f.speed.y, .int .i64 f.slope.x, .int .i64 f.slope.y] 33 (0, 0))
set_option maxRecDepth 100000 in
set_option maxHeartbeats 8000000 in
theorem rock_any (w : World) : Calls Tryd.prog 25 #[] w (Gives (.tuple #[rockL.val, fallL.val]) w) := by
  have c1 := fun W => stone_any W
  have c2 := fun W => SoleRock_any stoneL W
  have c3 := fun W => of_any 50000 1000000 W
  unfold rockL fallL
  unfold stoneL soleK soleF StoneR.val StoneR.vals RockR.val FallR.val at *
  simp only at c2 ⊢
  go_enter Tryd.func25, Tryd.ntmps25
  go_upto_region 1 with (first | ((first | with_reducible refine wrx2 ?_ | with_reducible refine wrx ?_); (repeat (first | go_big_quiet_step ((first | fail)) | quiet_step ((first | fail)))); refine wpQuiet_nil ?_; rintro _ ⟨yr, rfl⟩; have syr := Ext.size yr; (repeat (first | rw [World.size_alloc] at syr | rw [World.size_setCell] at syr | rw [World.size_drew] at syr))))
  refine wp_named (fun W0 hW => ?_)
  obtain ⟨hr0, hr1⟩ := alloc2_rows hW
  have hB0 : Below w.heap.size w W0 := by rw [← hW]; repeat' (first | (with_reducible exact Below.refl _ _) | (with_reducible assumption) | (with_reducible refine Ext.below _ ?_ ?_) | (with_reducible refine Below.on ?_ (by with_reducible assumption) ?_) | (with_reducible refine Below.alloc ?_ ?_ _) | (with_reducible refine Below.drew ?_) | (with_reducible refine Below.setCell ?_ ?_ _) | (with_reducible exact Nat.le_refl _) | omega | (simp; done) | (simp [go_sem]; done) | (simp at *; omega))
  have s0 : W0.heap.size = w.heap.size + 1 + 1 := by rw [← hW]; simp
  clear hW
  go_upto_region 2 with (first | ((first | with_reducible refine wrx2 ?_ | with_reducible refine wrx ?_); (repeat (first | go_big_quiet_step ((first | (go_at_call 20; with_reducible exact Calls.ext (c1 _)) | (go_at_call 52; with_reducible exact Calls.ext (c2 _)))) | quiet_step ((first | (go_at_call 20; with_reducible exact Calls.ext (c1 _)) | (go_at_call 52; with_reducible exact Calls.ext (c2 _)))))); refine wpQuiet_nil ?_; rintro _ ⟨yr, rfl⟩; have syr := Ext.size yr; (repeat (first | rw [World.size_alloc] at syr | rw [World.size_setCell] at syr | rw [World.size_drew] at syr))) | (go_at_call 20; (first | with_reducible refine (Calls.giv2 (c1 _)).mono ?_ | with_reducible refine (Calls.giv (c1 _)).mono ?_); rintro _ _ ⟨y1, rfl, rfl⟩; have sy1 := Ext.size y1; (repeat (first | rw [World.size_alloc] at sy1 | rw [World.size_setCell] at sy1 | rw [World.size_drew] at sy1))) | (go_at_call 52; (first | with_reducible refine (Calls.giv2 (c2 _)).mono ?_ | with_reducible refine (Calls.giv (c2 _)).mono ?_); rintro _ _ ⟨y2, rfl, rfl⟩; have sy2 := Ext.size y2; (repeat (first | rw [World.size_alloc] at sy2 | rw [World.size_setCell] at sy2 | rw [World.size_drew] at sy2))))
  have s2 := y2.size
  refine wp_named (fun W1 hW => ?_)
  obtain ⟨hk, hf⟩ := alloc2_rows hW
  have hB1 : Below W0.heap.size W0 W1 := by rw [← hW]; exact (y2.grew.alloc y2.size _).alloc (by have := y2.size; simp only [World.size_alloc]; omega) _
  have s1 : W1.heap.size = y2.now.heap.size + 1 + 1 := by rw [← hW]; simp
  clear hW
  replace hr0 := (hB1.block w.heap.size (by omega)).trans hr0
  replace hr1 := (hB1.block (w.heap.size + 1) (by omega)).trans hr1
  have sK : w.heap.size + 1 + 1 ≤ y2.now.heap.size := by omega
  obtain ⟨KB, hKB⟩ : ∃ n, y2.now.heap.size = n := ⟨_, rfl⟩
  rw [hKB] at hk hf s1 s2 sK
  rw [hKB]
  have c4 : W1.cell? ⟨KB, 4, none⟩ = some (.int .i64 1000000) := (cell_of_row W1 _ 4 _ _ _ hk).trans rfl
  have c5 : W1.cell? ⟨KB, 5, none⟩ = some (.int .i64 1000000) := (cell_of_row W1 _ 5 _ _ _ hk).trans rfl
  have z4 : W1.frozen? ⟨KB, 4, none⟩ = false := frozen_row hk
  have z5 : W1.frozen? ⟨KB, 5, none⟩ = false := frozen_row hk
  have lK := row_lt hk
  have hB2 : Below w.heap.size w W1 := hB0.trans (hB1.mono hB0.size)
  go_upto_region 3 with (first | ((first | with_reducible refine wrx2 ?_ | with_reducible refine wrx ?_); (repeat (first | go_big_quiet_step ((first | (go_at_call 28; with_reducible exact Calls.ext (c3 _)))) | quiet_step ((first | (go_at_call 28; with_reducible exact Calls.ext (c3 _)))))); refine wpQuiet_nil ?_; rintro _ ⟨yr, rfl⟩; have syr := Ext.size yr; (repeat (first | rw [World.size_alloc] at syr | rw [World.size_setCell] at syr | rw [World.size_drew] at syr)); have : KB < yr.now.heap.size := (by omega); have : KB ≤ yr.now.heap.size := (by omega); have : KB < yr.now.heap.size + 1 + 1 := (by omega)) | (go_at_call 28; (first | with_reducible refine (Calls.giv2 (c3 _)).mono ?_ | with_reducible refine (Calls.giv (c3 _)).mono ?_); rintro _ _ ⟨y1, rfl, rfl⟩; have sy1 := Ext.size y1; (repeat (first | rw [World.size_alloc] at sy1 | rw [World.size_setCell] at sy1 | rw [World.size_drew] at sy1)); have : KB < y1.now.heap.size := (by omega); have : KB ≤ y1.now.heap.size := (by omega); have : KB < y1.now.heap.size + 1 + 1 := (by omega)))
  have s3 := y1.size
  refine wp_named (fun W2 hW => ?_)
  have hk1 := (y1.grew.block KB lK).trans hk
  have hk2 := heap_setCell (o := 4) hk1 (.int .i64 50000)
  have hk3 := heap_setCell (o := 5) hk2 (.int .i64 1000000)
  have ho : ∀ B, B < W1.heap.size → B ≠ KB → W2.heap[B]? = W1.heap[B]? := fun B hB hne => by rw [← hW]; exact (heap_setCell_ne hne _).trans ((heap_setCell_ne hne _).trans (y1.grew.block B hB))
  have hf1 := (y1.grew.block (KB + 1) (row_lt hf)).trans hf
  rw [hW] at hk3
  have hk4 : W2.heap[KB]? = some (.cells #[.int .i64 10, .int .i64 10, .int .i64 1000, .int .i64 1000, .int .i64 50000, .int .i64 1000000, .int .i64 0, .int .i64 0, .int .i64 1000, .int .i64 1000, .bool false] 31 (0, 0)) := hk3.trans rfl
  clear hk3
  have hB3 : Below w.heap.size w W2 := by
    rw [← hW]
    have h6 := hB2.trans (y1.grew.mono hB2.size)
    exact (h6.setCell (show w.heap.size ≤ KB by omega) _).setCell (show w.heap.size ≤ KB by omega) _
  replace hf := (ho (KB + 1) (row_lt hf) (by omega)).trans hf
  replace hr0 := (ho w.heap.size (row_lt hr0) (by omega)).trans hr0
  replace hr1 := (ho (w.heap.size + 1) (row_lt hr1) (by omega)).trans hr1
  clear hW hk hk1 hk2 hf1 ho c4 c5 z4 z5 c1 c2 c3 hB0 hB1
  have hne0 : w.heap.size ≠ KB ∧ w.heap.size ≠ KB + 1 ∧ w.heap.size + 1 ≠ KB ∧ w.heap.size + 1 ≠ KB + 1 := by omega
  refine wp_tell (rk3Told 0 0 w.heap.size (w.heap.size + 1) ⟨⟨10, 10⟩, ⟨1000, 1000⟩, ⟨50000, 1000000⟩, ⟨0, 0⟩, ⟨1000, 1000⟩, false⟩ ⟨⟨100, 100⟩, ⟨1000, 1000⟩⟩) ?_ ?_
  focus
    repeat (rename_i zz; clear zz)
    clear hB2 hB3
    have hR01 : w.heap.size ≠ w.heap.size + 1 := by omega
    obtain ⟨k, hkq⟩ : ∃ k : RockR, (⟨⟨10, 10⟩, ⟨1000, 1000⟩, ⟨50000, 1000000⟩, ⟨0, 0⟩, ⟨1000, 1000⟩, false⟩ : RockR) = k := ⟨_, rfl⟩
    have hk5 : W2.heap[KB]? = some (.cells #[.int .i64 k.size.x, .int .i64 k.size.y, .int .i64 k.dens.x, .int .i64 k.dens.y, .int .i64 k.strong.x, .int .i64 k.strong.y, .int .i64 k.spin.x, .int .i64 k.spin.y, .int .i64 k.shape.x, .int .i64 k.shape.y, .bool k.pile] 31 (0, 0)) := by rw [← hkq]; exact hk4
    obtain ⟨f, hfq⟩ : ∃ f : FallR, (⟨⟨100, 100⟩, ⟨1000, 1000⟩⟩ : FallR) = f := ⟨_, rfl⟩
    have hf5 : W2.heap[KB + 1]? = some (.cells #[.int .i64 f.speed.x, .int .i64 f.speed.y, .int .i64 f.slope.x, .int .i64 f.slope.y] 33 (0, 0)) := by rw [← hfq]; exact hf
    rw [hkq, hfq]
    clear hkq hfq hk4 hf
    generalize w.heap.size + 1 = R1 at *
    generalize w.heap.size = R0 at *
    refine region_dep (by kernel_rfl) rk3Deps (by kernel_rfl) (rk3Inv 0 0 R0 R1 k f) ?h0 ?hstep ?hend
    case h0 =>
      refine ⟨?z11, ?z12, ?fr, (KeptR.refl _ _ _).drew, (fun _ h => h.drew), (fun _ => hr0), (by simp), (fun _ => hr1), (by simp), by simp, by simp⟩
      case fr =>
        simp only [sets, List.foldl_cons, List.foldl_nil, List.set_cons_succ, List.set_cons_zero]
        rfl
    case hend =>
      intro l' fr W hl hall hInv
      unfold rk3Inv at hInv
      obtain ⟨s11, s12, hInv⟩ := hInv
      obtain ⟨hfr, hB, g0, g1, g2, g3, g4, f0, f1⟩ := hInv
      subst hfr
      obtain ⟨b0, b1, b2, b3, rfl⟩ := list4 hl
      simp only [List.getD_cons_zero, List.getD_cons_succ] at g0 g1 g2 g3 g4 f0 f1
      simp only [List.all_cons, id, Bool.and_eq_true] at hall
      obtain ⟨e0, e1, e2, e3, -⟩ := hall
      exact ⟨rfl, by kernel_rfl, hB, g0, g2 e2, g4 e3⟩
    case hstep =>
      intro l' fr W ii hl hInv hr hi
      unfold rk3Inv at hInv
      obtain ⟨s11, s12, hInv⟩ := hInv
      obtain ⟨hfr, hB, g0, g1, g2, g3, g4, f0, f1⟩ := hInv
      subst hfr
      obtain ⟨b0, b1, b2, b3, rfl⟩ := list4 hl
      have sW := hB.size
      replace hk5 := (hB.block KB (row_lt hk5) (by omega) (by omega)).trans hk5
      replace hf5 := (hB.block (KB + 1) (row_lt hf5) (by omega) (by omega)).trans hf5
      have c0 : W.cell? ⟨KB, 0, none⟩ = some (.int .i64 k.size.x) := (cell_of_row W _ 0 _ _ _ hk5).trans rfl
      have c1 : W.cell? ⟨KB, 1, none⟩ = some (.int .i64 k.size.y) := (cell_of_row W _ 1 _ _ _ hk5).trans rfl
      have c2 : W.cell? ⟨KB, 2, none⟩ = some (.int .i64 k.dens.x) := (cell_of_row W _ 2 _ _ _ hk5).trans rfl
      have c3 : W.cell? ⟨KB, 3, none⟩ = some (.int .i64 k.dens.y) := (cell_of_row W _ 3 _ _ _ hk5).trans rfl
      have c4 : W.cell? ⟨KB, 4, none⟩ = some (.int .i64 k.strong.x) := (cell_of_row W _ 4 _ _ _ hk5).trans rfl
      have c5 : W.cell? ⟨KB, 5, none⟩ = some (.int .i64 k.strong.y) := (cell_of_row W _ 5 _ _ _ hk5).trans rfl
      have c6 : W.cell? ⟨KB, 6, none⟩ = some (.int .i64 k.spin.x) := (cell_of_row W _ 6 _ _ _ hk5).trans rfl
      have c7 : W.cell? ⟨KB, 7, none⟩ = some (.int .i64 k.spin.y) := (cell_of_row W _ 7 _ _ _ hk5).trans rfl
      have c8 : W.cell? ⟨KB, 8, none⟩ = some (.int .i64 k.shape.x) := (cell_of_row W _ 8 _ _ _ hk5).trans rfl
      have c9 : W.cell? ⟨KB, 9, none⟩ = some (.int .i64 k.shape.y) := (cell_of_row W _ 9 _ _ _ hk5).trans rfl
      have c10 : W.cell? ⟨KB, 10, none⟩ = some (.bool k.pile) := (cell_of_row W _ 10 _ _ _ hk5).trans rfl
      have d0 : W.cell? ⟨(KB + 1), 0, none⟩ = some (.int .i64 f.speed.x) := (cell_of_row W _ 0 _ _ _ hf5).trans rfl
      have d1 : W.cell? ⟨(KB + 1), 1, none⟩ = some (.int .i64 f.speed.y) := (cell_of_row W _ 1 _ _ _ hf5).trans rfl
      have d2 : W.cell? ⟨(KB + 1), 2, none⟩ = some (.int .i64 f.slope.x) := (cell_of_row W _ 2 _ _ _ hf5).trans rfl
      have d3 : W.cell? ⟨(KB + 1), 3, none⟩ = some (.int .i64 f.slope.y) := (cell_of_row W _ 3 _ _ _ hf5).trans rfl
      simp only [List.getD_cons_zero, List.getD_cons_succ] at g0 g1 g2 g3 g4 f0 f1
      replace hB := Go.Lib.hid hB
      replace hi := Go.Lib.hid hi
      replace g0 := Go.Lib.hid g0
      replace g1 := Go.Lib.hid g1
      replace g2 := Go.Lib.hid g2
      replace g3 := Go.Lib.hid g3
      replace g4 := Go.Lib.hid g4
      replace f0 := Go.Lib.hid f0
      replace f1 := Go.Lib.hid f1
      rcases ii with _ | _ | _ | _ | ii
      · refine wpOp_step rfl (fun K hK => ?_)
        simp only [sets, List.foldl_cons, List.foldl_nil, List.set_cons_succ, List.set_cons_zero]
        go_simp
        exact hK _ _ ⟨(.agg #[.int .i64 k.size.x, .int .i64 k.size.y, .int .i64 k.dens.x, .int .i64 k.dens.y, .int .i64 k.strong.x, .int .i64 k.strong.y, .int .i64 k.spin.x, .int .i64 k.spin.y, .int .i64 k.shape.x, .int .i64 k.shape.y, .bool k.pile]), s12, by kernel_rfl, hB.out, g0.out, g1.out, g2.out, g3.out, g4.out, fun _ => rfl, f1.out⟩
      · refine wpOp_step rfl (fun K hK => ?_)
        simp only [sets, List.foldl_cons, List.foldl_nil, List.set_cons_succ, List.set_cons_zero]
        go_simp
        exact hK _ _ ⟨s11, (.agg #[.int .i64 f.speed.x, .int .i64 f.speed.y, .int .i64 f.slope.x, .int .i64 f.slope.y]), by kernel_rfl, hB.out, g0.out, g1.out, g2.out, g3.out, g4.out, f0.out, fun _ => rfl⟩
      · simp only [rk3Deps, List.getD_cons_zero, List.getD_cons_succ, List.all_cons, List.all_nil, Bool.and_true] at hr
        have hd0 := hr
        obtain rfl := f0.out hd0
        have hi := hi.out
        simp only [List.getElem?_cons_zero, List.getElem?_cons_succ, Option.some.injEq] at hi
        subst hi
        have e := g1.out rfl
        refine wpOp_step rfl (fun K hK => ?_)
        simp only [sets, List.foldl_cons, List.foldl_nil, List.set_cons_succ, List.set_cons_zero]
        simp only [Region.wanted]
        refine store_op 31 (.tmp 0) (.tmp 11) rfl R0 #[.int .i64 k.size.x, .int .i64 k.size.y, .int .i64 k.dens.x, .int .i64 k.dens.y, .int .i64 k.strong.x, .int .i64 k.strong.y, .int .i64 k.spin.x, .int .i64 k.spin.y, .int .i64 k.shape.x, .int .i64 k.shape.y, .bool k.pile] (by kernel_rfl) (by kernel_rfl) 31 _ e (by kernel_rfl) rfl (by simp [Value.oneCell']) ?_
        exact hK _ _ ⟨(.agg #[.int .i64 k.size.x, .int .i64 k.size.y, .int .i64 k.dens.x, .int .i64 k.dens.y, .int .i64 k.strong.x, .int .i64 k.strong.y, .int .i64 k.spin.x, .int .i64 k.spin.y, .int .i64 k.shape.x, .int .i64 k.shape.y, .bool k.pile]), s12, by kernel_rfl, hB.out.row0 _, (fun q h => RingM.row (g0.out q h) (by omega) _), (fun h => by cases h), (fun _ => setRow_heap _ _ _ _ _ _ e), (fun q => (setRow_other W R0 R1 _ (by omega)).trans (g3.out q)), (fun q => (setRow_other W R0 R1 _ (by omega)).trans (g4.out q)), f0.out, f1.out⟩
      · simp only [rk3Deps, List.getD_cons_zero, List.getD_cons_succ, List.all_cons, List.all_nil, Bool.and_true] at hr
        have hd1 := hr
        obtain rfl := f1.out hd1
        have hi := hi.out
        simp only [List.getElem?_cons_zero, List.getElem?_cons_succ, Option.some.injEq] at hi
        subst hi
        have e := g3.out rfl
        refine wpOp_step rfl (fun K hK => ?_)
        simp only [sets, List.foldl_cons, List.foldl_nil, List.set_cons_succ, List.set_cons_zero]
        simp only [Region.wanted]
        refine store_op 33 (.tmp 1) (.tmp 12) rfl R1 #[.int .i64 f.speed.x, .int .i64 f.speed.y, .int .i64 f.slope.x, .int .i64 f.slope.y] (by kernel_rfl) (by kernel_rfl) 33 _ e (by kernel_rfl) rfl (by simp [Value.oneCell']) ?_
        exact hK _ _ ⟨s11, (.agg #[.int .i64 f.speed.x, .int .i64 f.speed.y, .int .i64 f.slope.x, .int .i64 f.slope.y]), by kernel_rfl, hB.out.row1 _, (fun q h => RingM.row (g0.out q h) (by omega) _), (fun q => (setRow_other W R1 R0 _ (by omega)).trans (g1.out q)), (fun q => (setRow_other W R1 R0 _ (by omega)).trans (g2.out q)), (fun h => by cases h), (fun _ => setRow_heap _ _ _ _ _ _ e), f0.out, f1.out⟩
      · have hi := hi.out; simp at hi
  rintro a4 W4 ⟨ha4, hK4, -, g0, g1⟩
  generalize a4.tmps.getD 11 undef = s11 at ha4
  generalize a4.tmps.getD 12 undef = s12 at ha4
  subst ha4
  simp only [sets, List.foldl_cons, List.foldl_nil, List.set_cons_succ, List.set_cons_zero]
  have hB4 : Below w.heap.size w W4 := hK4.below hB3 (Nat.le_refl _) (by omega) (Nat.le_refl _)
  have u0 : ∀ o, W4.cell? ⟨w.heap.size, o, none⟩ = (#[.int .i64 10, .int .i64 10, .int .i64 1000, .int .i64 1000, .int .i64 50000, .int .i64 1000000, .int .i64 0, .int .i64 0, .int .i64 1000, .int .i64 1000, .bool false] : Array Value)[o]? := fun o => cell_of_row W4 _ o _ _ _ g0
  have u1 : ∀ o, W4.cell? ⟨w.heap.size + 1, o, none⟩ = (#[.int .i64 100, .int .i64 100, .int .i64 1000, .int .i64 1000] : Array Value)[o]? := fun o => cell_of_row W4 _ o _ _ _ g1
  have l0 := row_lt g0
  have l1 := row_lt g1
  go_wp2_with (first | ((first | with_reducible refine wrx2 ?_ | with_reducible refine wrx ?_); (repeat (first | go_big_quiet_step ((first | fail)) | quiet_step ((first | fail)))); refine wpQuiet_nil ?_; rintro _ ⟨yr, rfl⟩; have syr := Ext.size yr; (repeat (first | rw [World.size_alloc] at syr | rw [World.size_setCell] at syr | rw [World.size_drew] at syr))))
  refine bodyPost_ret (v := .tuple #[.agg #[.int .i64 10, .int .i64 10, .int .i64 1000, .int .i64 1000, .int .i64 50000, .int .i64 1000000, .int .i64 0, .int .i64 0, .int .i64 1000, .int .i64 1000, .bool false], .agg #[.int .i64 100, .int .i64 100, .int .i64 1000, .int .i64 1000]]) (by simp (maxDischargeDepth := 9) [results, Tryd.results25, go_sem, u0, u1]) rfl ?_
  exact ⟨rfl, hB4⟩
theorem land_any2 (w : World) : Calls Tryd.prog 33 #[] w (fun e w' => ∃ p q, e = .returned (.agg #[.slice p 5 5, .slice q 5 5]) ∧ Below w.heap.size w w' ∧ (landL p q).At w') := land_any w
theorem kn_harm2 (p q : Option Addr) (w : World) (h : (landL p q).At w) : Calls Tryd.prog 32 #[.agg #[.slice p 5 5, .slice q 5 5], .int .i64 4, .int .i64 9] w (Gives (.int .i64 150) w) := kn_harm p q w h
theorem kn_wave2 (p q : Option Addr) (w : World) (h : (landL p q).At w) : Calls Tryd.prog 34 #[.agg #[.slice p 5 5, .slice q 5 5], .int .i64 2, .int .i64 1] w (Gives (.int .i64 90) w) := kn_wave 2 90 p q w h (by decide) (by decide) kn_waves.1
theorem kn_wave0 (p q : Option Addr) (w : World) (h : (landL p q).At w) : Calls Tryd.prog 34 #[.agg #[.slice p 5 5, .slice q 5 5], .int .i64 0, .int .i64 1] w (Gives (.int .i64 0) w) := kn_wave 0 0 p q w h (by decide) (by decide) kn_waves.2.1
theorem kn_harms1 (pa pg p q : Option Addr) (w : World) (hl : VecsAt w pa airL) (hg : VecsAt w pg gradesL) (hx : (landL p q).At w) : Calls Tryd.prog 35 #[.slice pa 2 2, .slice pg 3 3, .agg #[.slice p 5 5, .slice q 5 5], .int .i64 2, .int .i64 8910000, .int .i64 2] w (Gives (.tuple #[.int .i64 140, .int .i64 0]) w) := kn_harms 2 8910000 2 140 pa pg p q w hl hg hx (by decide) (by decide) (by decide) (by decide) kn_waves.2.2.2.2.2.1
theorem kn_harms2 (pa pg p q : Option Addr) (w : World) (hl : VecsAt w pa airL) (hg : VecsAt w pg gradesL) (hx : (landL p q).At w) : Calls Tryd.prog 35 #[.slice pa 2 2, .slice pg 3 3, .agg #[.slice p 5 5, .slice q 5 5], .int .i64 2, .int .i64 8910000, .int .i64 1] w (Gives (.tuple #[.int .i64 100, .int .i64 0]) w) := kn_harms 2 8910000 1 100 pa pg p q w hl hg hx (by decide) (by decide) (by decide) (by decide) kn_waves.2.2.2.2.2.2.1
theorem kn_harms3 (pa pg p q : Option Addr) (w : World) (hl : VecsAt w pa airL) (hg : VecsAt w pg gradesL) (hx : (landL p q).At w) : Calls Tryd.prog 35 #[.slice pa 2 2, .slice pg 3 3, .agg #[.slice p 5 5, .slice q 5 5], .int .i64 1, .int .i64 9900000, .int .i64 1] w (Gives (.tuple #[.int .i64 60, .int .i64 0]) w) := kn_harms 1 9900000 1 60 pa pg p q w hl hg hx (by decide) (by decide) (by decide) (by decide) kn_waves.2.2.2.2.2.2.2
end Go.Proofs.YtlmhbggigbmeaaaDoor

/- Contract of CheckRock. Condition: the table of limits stands as it was laid. -/
import Derived.Test.YtlmhbggigbmeaaaDoorBlS
import Derived.Test.YtlmhbggigbmeaaaDoorBlGrG
namespace Go.Proofs.YtlmhbggigbmeaaaDoor
open Go.RowKit Go.Shelf
attribute [local go_sem] Option.isSome_some Ext.cell Ext.frozen Ext.lt Ext.le Ext.lt_add Ext.le_add Ext.ne Ext.ne' lt2 lt3 lt4 lt5 le2 le3 le4
def spansL (k : RockR) (f : FallR) : List V2 := [k.size, k.dens, k.strong, k.spin, k.shape, f.speed, f.slope]
def limsL : List V2 := [⟨1, 1000⟩, ⟨1, 9000⟩, ⟨0, 1099511627776⟩, ⟨0, 1000⟩, ⟨500, 2000⟩, ⟨1, 8000⟩, ⟨1, 1000⟩]
/-- What is wrong with a span; with a rock and its fall. -/
def spE (v m : V2) : Int := if v.y < v.x then 11 else if m.x ≤ v.x ∧ v.y ≤ m.y then 0 else 2
def firstE : List V2 → List V2 → Int
  | v :: l, m :: q => if spE v m = 0 then firstE l q else spE v m
  | _, _ => 0
def rockE (k : RockR) (f : FallR) : Int := firstE (spansL k f) limsL
theorem inside_lim {a b c d : Int} (h1 : -1152921504606846976 ≤ c) (h2 : c ≤ d) (h3 : d ≤ 1152921504606846976) (hab : a ≤ b) : insideB a b c d = decide (c ≤ a ∧ b ≤ d) := by
  have hcd : chk c d = 0 := (chk_ok c d).2 ⟨h1, h3, h2⟩
  unfold insideB
  by_cases h : c ≤ a ∧ b ≤ d
  · have hc : chkB a b c d = 0 := by unfold chkB; rw [if_pos ((chk_ok a b).2 ⟨by omega, by omega, hab⟩)]; exact hcd
    rw [hc]; simp [h]
  · rw [decide_eq_false h]
    cases hc : (chkB a b c d == 0)
    · rfl
    · by_cases q1 : c ≤ a
      · have q2 : ¬ b ≤ d := fun q => h ⟨q1, q⟩
        simp [q1, q2]
      · simp [q1]
theorem spansOf_any (k : RockR) (f : FallR) (w : World) : Calls Tryd.prog 65 #[k.val, f.val] w (Gives (.agg #[.int .i64 k.size.x, .int .i64 k.size.y, .int .i64 k.dens.x, .int .i64 k.dens.y, .int .i64 k.strong.x, .int .i64 k.strong.y, .int .i64 k.spin.x, .int .i64 k.spin.y, .int .i64 k.shape.x, .int .i64 k.shape.y, .int .i64 f.speed.x, .int .i64 f.speed.y, .int .i64 f.slope.x, .int .i64 f.slope.y]) w) := by
  unfold RockR.val FallR.val
  go_enter Tryd.func65, Tryd.ntmps65
  go_wp2_with (first | ((first | with_reducible refine wrx2 ?_ | with_reducible refine wrx ?_); (repeat (first | go_big_quiet_step ((first | fail)) | quiet_step ((first | fail)))); refine wpQuiet_nil ?_; rintro _ ⟨yr, rfl⟩; have syr := Ext.size yr; (repeat (first | rw [World.size_alloc] at syr | rw [World.size_setCell] at syr | rw [World.size_drew] at syr))))
  refine bodyPost_ret (v := .agg #[.int .i64 k.size.x, .int .i64 k.size.y, .int .i64 k.dens.x, .int .i64 k.dens.y, .int .i64 k.strong.x, .int .i64 k.strong.y, .int .i64 k.spin.x, .int .i64 k.spin.y, .int .i64 k.shape.x, .int .i64 k.shape.y, .int .i64 f.speed.x, .int .i64 f.speed.y, .int .i64 f.slope.x, .int .i64 f.slope.y]) (by simp (maxDischargeDepth := 9) [results, Tryd.results65, go_sem]) rfl ?_
  refine ⟨rfl, ?_⟩
  repeat' (first | (with_reducible exact Below.refl _ _) | (with_reducible assumption) | (with_reducible refine Ext.below _ ?_ ?_) | (with_reducible refine Below.on ?_ (by with_reducible assumption) ?_) | (with_reducible refine Below.alloc ?_ ?_ _) | (with_reducible refine Below.drew ?_) | (with_reducible refine Below.setCell ?_ ?_ _) | (with_reducible exact Nat.le_refl _) | omega | (simp; done) | (simp [go_sem]; done) | (simp at *; omega))
theorem s7_at0 (a0 a1 a2 a3 a4 a5 a6 a7 a8 a9 a10 a11 a12 a13 : Int) (w : World) : (Instr.index 119 (.agg #[.int .i64 a0, .int .i64 a1, .int .i64 a2, .int .i64 a3, .int .i64 a4, .int .i64 a5, .int .i64 a6, .int .i64 a7, .int .i64 a8, .int .i64 a9, .int .i64 a10, .int .i64 a11, .int .i64 a12, .int .i64 a13]) (.int .i64 0)).run Tryd.prog w = .ok (.agg #[.int .i64 a0, .int .i64 a1]) w := by kernel_rfl
theorem s7_at1 (a0 a1 a2 a3 a4 a5 a6 a7 a8 a9 a10 a11 a12 a13 : Int) (w : World) : (Instr.index 119 (.agg #[.int .i64 a0, .int .i64 a1, .int .i64 a2, .int .i64 a3, .int .i64 a4, .int .i64 a5, .int .i64 a6, .int .i64 a7, .int .i64 a8, .int .i64 a9, .int .i64 a10, .int .i64 a11, .int .i64 a12, .int .i64 a13]) (.int .i64 1)).run Tryd.prog w = .ok (.agg #[.int .i64 a2, .int .i64 a3]) w := by kernel_rfl
theorem s7_at2 (a0 a1 a2 a3 a4 a5 a6 a7 a8 a9 a10 a11 a12 a13 : Int) (w : World) : (Instr.index 119 (.agg #[.int .i64 a0, .int .i64 a1, .int .i64 a2, .int .i64 a3, .int .i64 a4, .int .i64 a5, .int .i64 a6, .int .i64 a7, .int .i64 a8, .int .i64 a9, .int .i64 a10, .int .i64 a11, .int .i64 a12, .int .i64 a13]) (.int .i64 2)).run Tryd.prog w = .ok (.agg #[.int .i64 a4, .int .i64 a5]) w := by kernel_rfl
theorem s7_at3 (a0 a1 a2 a3 a4 a5 a6 a7 a8 a9 a10 a11 a12 a13 : Int) (w : World) : (Instr.index 119 (.agg #[.int .i64 a0, .int .i64 a1, .int .i64 a2, .int .i64 a3, .int .i64 a4, .int .i64 a5, .int .i64 a6, .int .i64 a7, .int .i64 a8, .int .i64 a9, .int .i64 a10, .int .i64 a11, .int .i64 a12, .int .i64 a13]) (.int .i64 3)).run Tryd.prog w = .ok (.agg #[.int .i64 a6, .int .i64 a7]) w := by kernel_rfl
theorem s7_at4 (a0 a1 a2 a3 a4 a5 a6 a7 a8 a9 a10 a11 a12 a13 : Int) (w : World) : (Instr.index 119 (.agg #[.int .i64 a0, .int .i64 a1, .int .i64 a2, .int .i64 a3, .int .i64 a4, .int .i64 a5, .int .i64 a6, .int .i64 a7, .int .i64 a8, .int .i64 a9, .int .i64 a10, .int .i64 a11, .int .i64 a12, .int .i64 a13]) (.int .i64 4)).run Tryd.prog w = .ok (.agg #[.int .i64 a8, .int .i64 a9]) w := by kernel_rfl
theorem s7_at5 (a0 a1 a2 a3 a4 a5 a6 a7 a8 a9 a10 a11 a12 a13 : Int) (w : World) : (Instr.index 119 (.agg #[.int .i64 a0, .int .i64 a1, .int .i64 a2, .int .i64 a3, .int .i64 a4, .int .i64 a5, .int .i64 a6, .int .i64 a7, .int .i64 a8, .int .i64 a9, .int .i64 a10, .int .i64 a11, .int .i64 a12, .int .i64 a13]) (.int .i64 5)).run Tryd.prog w = .ok (.agg #[.int .i64 a10, .int .i64 a11]) w := by kernel_rfl
theorem s7_at6 (a0 a1 a2 a3 a4 a5 a6 a7 a8 a9 a10 a11 a12 a13 : Int) (w : World) : (Instr.index 119 (.agg #[.int .i64 a0, .int .i64 a1, .int .i64 a2, .int .i64 a3, .int .i64 a4, .int .i64 a5, .int .i64 a6, .int .i64 a7, .int .i64 a8, .int .i64 a9, .int .i64 a10, .int .i64 a11, .int .i64 a12, .int .i64 a13]) (.int .i64 6)).run Tryd.prog w = .ok (.agg #[.int .i64 a12, .int .i64 a13]) w := by kernel_rfl
theorem s7_at (k : RockR) (f : FallR) (i : Nat) (hi : i < (spansL k f).length) (w : World) : (Instr.index 119 (.agg #[.int .i64 k.size.x, .int .i64 k.size.y, .int .i64 k.dens.x, .int .i64 k.dens.y, .int .i64 k.strong.x, .int .i64 k.strong.y, .int .i64 k.spin.x, .int .i64 k.spin.y, .int .i64 k.shape.x, .int .i64 k.shape.y, .int .i64 f.speed.x, .int .i64 f.speed.y, .int .i64 f.slope.x, .int .i64 f.slope.y]) (.int .i64 i)).run Tryd.prog w = .ok (.agg #[.int .i64 ((spansL k f)[i]).x, .int .i64 ((spansL k f)[i]).y]) w := by
  have hi7 : i < 7 := hi
  rcases (show i = 0 ∨ i = 1 ∨ i = 2 ∨ i = 3 ∨ i = 4 ∨ i = 5 ∨ i = 6 by omega) with rfl | rfl | rfl | rfl | rfl | rfl | rfl
  · exact s7_at0 _ _ _ _ _ _ _ _ _ _ _ _ _ _ w
  · exact s7_at1 _ _ _ _ _ _ _ _ _ _ _ _ _ _ w
  · exact s7_at2 _ _ _ _ _ _ _ _ _ _ _ _ _ _ w
  · exact s7_at3 _ _ _ _ _ _ _ _ _ _ _ _ _ _ w
  · exact s7_at4 _ _ _ _ _ _ _ _ _ _ _ _ _ _ w
  · exact s7_at5 _ _ _ _ _ _ _ _ _ _ _ _ _ _ w
  · exact s7_at6 _ _ _ _ _ _ _ _ _ _ _ _ _ _ w
theorem lim_at {W : World} (h : LimAt W) (i : Nat) (hi : i < limsL.length) : W.cell? ⟨0, i * 2, none⟩ = some (.int .i64 (limsL[i]).x) ∧ W.cell? ⟨0, i * 2 + 1, none⟩ = some (.int .i64 (limsL[i]).y) := by
  have hi7 : i < 7 := hi
  rcases (show i = 0 ∨ i = 1 ∨ i = 2 ∨ i = 3 ∨ i = 4 ∨ i = 5 ∨ i = 6 by omega) with rfl | rfl | rfl | rfl | rfl | rfl | rfl
  all_goals exact ⟨h.cell _ (by decide), h.cell _ (by decide)⟩
theorem lims_in : ∀ m ∈ limsL, (-1152921504606846976 ≤ m.x ∧ m.x ≤ m.y) ∧ m.y ≤ 1152921504606846976 := by
  intro m hm
  simp only [limsL, List.mem_cons, List.not_mem_nil, or_false] at hm
  rcases hm with rfl | rfl | rfl | rfl | rfl | rfl | rfl <;> decide
set_option maxRecDepth 100000 in
set_option maxHeartbeats 8000000 in
theorem CheckRock_any (k : RockR) (f : FallR) (w : World) (hlim : LimAt w) : Calls Tryd.prog 53 #[k.val, f.val] w (Gives (.int .i64 (rockE k f)) w) := by
  obtain ⟨V, hV⟩ : ∃ V, rockE k f = V := ⟨_, rfl⟩
  rw [hV]
  replace hV := Go.Lib.hid hV
  have co := fun W => spansOf_any k f W
  have hat := fun (i : Nat) (hi : i < (spansL k f).length) (W : World) => s7_at k f i hi W
  replace hat := Go.Lib.hid hat
  have hsl : (spansL k f).length = 7 := rfl
  have hll : limsL.length = 7 := rfl
  unfold rockE at hV
  generalize spansL k f = SL at *
  have hli := Go.Lib.hid (fun (W : World) (y : Below w.heap.size w W) => lim_at (hlim.on y))
  have hlm := Go.Lib.hid lims_in
  have hlt0 := hlim.lt
  generalize limsL = ML at *
  clear hlim
  unfold RockR.val FallR.val at *
  go_enter Tryd.func53, Tryd.ntmps53
  go_wp2_with (first | ((first | with_reducible refine wrx2 ?_ | with_reducible refine wrx ?_); (repeat (first | go_big_quiet_step ((first | (go_at_call 65; with_reducible exact Calls.ext (co _)))) | quiet_step ((first | (go_at_call 65; with_reducible exact Calls.ext (co _)))))); refine wpQuiet_nil ?_; rintro _ ⟨yr, rfl⟩; have syr := Ext.size yr; (repeat (first | rw [World.size_alloc] at syr | rw [World.size_setCell] at syr | rw [World.size_drew] at syr))) | (go_at_call 65; (first | with_reducible refine (Calls.giv2 (co _)).mono ?_ | with_reducible refine (Calls.giv (co _)).mono ?_); rintro _ _ ⟨y1, rfl, rfl⟩; have sy1 := Ext.size y1; (repeat (first | rw [World.size_alloc] at sy1 | rw [World.size_setCell] at sy1 | rw [World.size_drew] at sy1))))
  go_loopw [10] (fun s W => ∃ (i : Nat) (x : Ext w), s = .int .i64 i ∧ W = x.now ∧ Hid (i ≤ 7 ∧ firstE (SL.drop i) (ML.drop i) = V)) (fun s _ => 7 - (intOf s).toNat)
  case atStart => exact ⟨0, ⟨_, by repeat' (first | (with_reducible exact Below.refl _ _) | (with_reducible assumption) | (with_reducible refine Ext.below _ ?_ ?_) | (with_reducible refine Below.on ?_ (by with_reducible assumption) ?_) | (with_reducible refine Below.alloc ?_ ?_ _) | (with_reducible refine Below.drew ?_) | (with_reducible refine Below.setCell ?_ ?_ _) | (with_reducible exact Nat.le_refl _) | omega | (simp; done) | (simp [go_sem]; done) | (simp at *; omega))⟩, rfl, rfl, Go.Lib.hid ⟨by omega, by simpa using hV.out⟩⟩
  case round =>
    obtain ⟨i, x, rfl, rfl, hi⟩ := hrel
    have xs := x.size
    by_cases hlt : i < 7
    · have hlt2 : (i : Int) < 7 := by omega
      have hs2 : i < SL.length := by omega
      have hm2 : i < ML.length := by omega
      have ii := fun W => hat.out i hs2 W
      obtain ⟨l0, l1⟩ := hli.out x.now x.grew i hm2
      obtain ⟨⟨m0, m1⟩, m2⟩ := hlm.out ML[i] (List.getElem_mem _)
      have hE := hi.out.2
      rw [drop_at hs2, drop_at hm2, firstE] at hE
      have hg : 0 < x.now.heap.size := by omega
      generalize SL[i] = v at *
      generalize ML[i] = m at *
      obtain ⟨vx, vy⟩ := v
      obtain ⟨mx, my⟩ := m
      simp only at ii l0 l1 m0 m1 m2
      have ci := fun W => Inside_any vx vy mx my W
      unfold spE at hE
      simp only at hE
      clear hi
      by_cases hgt : vy < vx
      · rw [if_pos hgt, if_neg (by decide)] at hE
        subst hE
        go_wp2_with (first | ((first | with_reducible refine wrx2 ?_ | with_reducible refine wrx ?_); (repeat (first | go_big_quiet_step ((first | fail)) | quiet_step ((first | fail)))); refine wpQuiet_nil ?_; rintro _ ⟨yr, rfl⟩; have syr := Ext.size yr; (repeat (first | rw [World.size_alloc] at syr | rw [World.size_setCell] at syr | rw [World.size_drew] at syr)); have : 0 < yr.now.heap.size := (by omega); have : 0 ≤ yr.now.heap.size := (by omega); have : 0 < yr.now.heap.size + 1 + 1 := (by omega)))
        go_returns
        refine ⟨rfl, ?_⟩
        repeat' (first | (with_reducible exact Below.refl _ _) | (with_reducible assumption) | (with_reducible refine Ext.below _ ?_ ?_) | (with_reducible refine Below.on ?_ (by with_reducible assumption) ?_) | (with_reducible refine Below.alloc ?_ ?_ _) | (with_reducible refine Below.drew ?_) | (with_reducible refine Below.setCell ?_ ?_ _) | (with_reducible exact Nat.le_refl _) | omega | (simp; done) | (simp [go_sem]; done) | (simp at *; omega))
      · rw [if_neg hgt] at hE
        rw [inside_lim m0 m1 m2 (by omega)] at ci
        by_cases hin : mx ≤ vx ∧ vy ≤ my
        · rw [decide_eq_true hin] at ci
          rw [if_pos hin, if_pos rfl] at hE
          have key : Hid (i + 1 ≤ 7 ∧ firstE (SL.drop (i + 1)) (ML.drop (i + 1)) = V) := Go.Lib.hid ⟨hlt, hE⟩
          clear hE hin
          go_wp2_with (first | ((first | with_reducible refine wrx2 ?_ | with_reducible refine wrx ?_); (repeat (first | go_big_quiet_step ((first | (go_at_call 78; with_reducible exact Calls.ext (ci _)))) | quiet_step ((first | (go_at_call 78; with_reducible exact Calls.ext (ci _)))))); refine wpQuiet_nil ?_; rintro _ ⟨yr, rfl⟩; have syr := Ext.size yr; (repeat (first | rw [World.size_alloc] at syr | rw [World.size_setCell] at syr | rw [World.size_drew] at syr)); have : 0 < yr.now.heap.size := (by omega); have : 0 ≤ yr.now.heap.size := (by omega); have : 0 < yr.now.heap.size + 1 + 1 := (by omega)) | (go_at_call 78; (first | with_reducible refine (Calls.giv2 (ci _)).mono ?_ | with_reducible refine (Calls.giv (ci _)).mono ?_); rintro _ _ ⟨y1, rfl, rfl⟩; have sy1 := Ext.size y1; (repeat (first | rw [World.size_alloc] at sy1 | rw [World.size_setCell] at sy1 | rw [World.size_drew] at sy1)); have : 0 < y1.now.heap.size := (by omega); have : 0 ≤ y1.now.heap.size := (by omega); have : 0 < y1.now.heap.size + 1 + 1 := (by omega)))
          exact ⟨⟨i + 1, ⟨_, by repeat' (first | (with_reducible exact Below.refl _ _) | (with_reducible assumption) | (with_reducible refine Ext.below _ ?_ ?_) | (with_reducible refine Below.on ?_ (by with_reducible assumption) ?_) | (with_reducible refine Below.alloc ?_ ?_ _) | (with_reducible refine Below.drew ?_) | (with_reducible refine Below.setCell ?_ ?_ _) | (with_reducible exact Nat.le_refl _) | omega | (simp; done) | (simp [go_sem]; done) | (simp at *; omega))⟩, by simp, rfl, key⟩, by simp [intOf]; omega⟩
        · rw [decide_eq_false hin] at ci
          rw [if_neg hin, if_neg (by decide)] at hE
          subst hE
          clear hin
          go_wp2_with (first | ((first | with_reducible refine wrx2 ?_ | with_reducible refine wrx ?_); (repeat (first | go_big_quiet_step ((first | (go_at_call 78; with_reducible exact Calls.ext (ci _)))) | quiet_step ((first | (go_at_call 78; with_reducible exact Calls.ext (ci _)))))); refine wpQuiet_nil ?_; rintro _ ⟨yr, rfl⟩; have syr := Ext.size yr; (repeat (first | rw [World.size_alloc] at syr | rw [World.size_setCell] at syr | rw [World.size_drew] at syr)); have : 0 < yr.now.heap.size := (by omega); have : 0 ≤ yr.now.heap.size := (by omega); have : 0 < yr.now.heap.size + 1 + 1 := (by omega)) | (go_at_call 78; (first | with_reducible refine (Calls.giv2 (ci _)).mono ?_ | with_reducible refine (Calls.giv (ci _)).mono ?_); rintro _ _ ⟨y1, rfl, rfl⟩; have sy1 := Ext.size y1; (repeat (first | rw [World.size_alloc] at sy1 | rw [World.size_setCell] at sy1 | rw [World.size_drew] at sy1)); have : 0 < y1.now.heap.size := (by omega); have : 0 ≤ y1.now.heap.size := (by omega); have : 0 < y1.now.heap.size + 1 + 1 := (by omega)))
          go_returns
          refine ⟨rfl, ?_⟩
          repeat' (first | (with_reducible exact Below.refl _ _) | (with_reducible assumption) | (with_reducible refine Ext.below _ ?_ ?_) | (with_reducible refine Below.on ?_ (by with_reducible assumption) ?_) | (with_reducible refine Below.alloc ?_ ?_ _) | (with_reducible refine Below.drew ?_) | (with_reducible refine Below.setCell ?_ ?_ _) | (with_reducible exact Nat.le_refl _) | omega | (simp; done) | (simp [go_sem]; done) | (simp at *; omega))
    · have hge : i = 7 := by have := hi.out.1; omega
      subst hge
      have eV : V = 0 := by have hE := hi.out.2; rw [List.drop_of_length_le (by omega), firstE] at hE; exact hE.symm; intro v l m q e; cases e
      clear hi hV
      subst eV
      go_wp2_with (first | ((first | with_reducible refine wrx2 ?_ | with_reducible refine wrx ?_); (repeat (first | go_big_quiet_step ((first | fail)) | quiet_step ((first | fail)))); refine wpQuiet_nil ?_; rintro _ ⟨yr, rfl⟩; have syr := Ext.size yr; (repeat (first | rw [World.size_alloc] at syr | rw [World.size_setCell] at syr | rw [World.size_drew] at syr))))
      go_returns
      refine ⟨rfl, ?_⟩
      repeat' (first | (with_reducible exact Below.refl _ _) | (with_reducible assumption) | (with_reducible refine Ext.below _ ?_ ?_) | (with_reducible refine Below.on ?_ (by with_reducible assumption) ?_) | (with_reducible refine Below.alloc ?_ ?_ _) | (with_reducible refine Below.drew ?_) | (with_reducible refine Below.setCell ?_ ?_ _) | (with_reducible exact Nat.le_refl _) | omega | (simp; done) | (simp [go_sem]; done) | (simp at *; omega))
end Go.Proofs.YtlmhbggigbmeaaaDoor

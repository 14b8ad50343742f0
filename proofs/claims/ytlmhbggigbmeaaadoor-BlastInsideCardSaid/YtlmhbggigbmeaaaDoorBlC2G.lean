/- The reference's rows of numbers, of spans, of limits; CheckRock, CheckStone, Mass, Holds, CheckAir of the reference. No condition. The reference's CheckRock and CheckStone. No condition. -/
import Derived.Test.YtlmhbggigbmeaaaDoorBlCR
namespace Go.Proofs.YtlmhbggigbmeaaaDoor
open Go.RowKit Go.Shelf
attribute [local go_sem] Option.isSome_some Ext.cell Ext.frozen Ext.lt Ext.le Ext.lt_add Ext.le_add Ext.ne Ext.ne' lt2 lt3 lt4 lt5 le2 le3 le4
theorem rbetween_any (n a b : Int) (w : World) : Calls Tryd.prog 102 #[.int .i64 n, .int .i64 a, .int .i64 b] w (Gives (.bool (decide (a ≤ n ∧ n ≤ b))) w) := by
  go_enter Tryd.func102, Tryd.ntmps102
  go_wp2_with (first | ((first | with_reducible refine wrx2 ?_ | with_reducible refine wrx ?_); (repeat (first | go_big_quiet_step ((first | fail)) | quiet_step ((first | fail)))); refine wpQuiet_nil ?_; rintro _ ⟨yr, rfl⟩; have syr := Ext.size yr; (repeat (first | rw [World.size_alloc] at syr | rw [World.size_setCell] at syr | rw [World.size_drew] at syr))))
  all_goals go_returns
  all_goals refine ⟨ret_bool ?_, ?_⟩
  all_goals first
    | (rw [decide_eq_decide]; omega)
    | (simp; omega)
    | (symm; simp; omega)
    | ((repeat' (first | (with_reducible exact Below.refl _ _) | (with_reducible assumption) | (with_reducible refine Ext.below _ ?_ ?_) | (with_reducible refine Below.on ?_ (by with_reducible assumption) ?_) | (with_reducible refine Below.alloc ?_ ?_ _) | (with_reducible refine Below.drew ?_) | (with_reducible refine Below.setCell ?_ ?_ _) | (with_reducible exact Nat.le_refl _) | omega | (simp; done) | (simp [go_sem]; done) | (simp at *; omega))); done)
def numsL (s : StoneR) : List Int := [s.size, s.dens, s.strong, s.spin, s.shape, s.speed, s.slope]
theorem rspans_any (k : RockR) (f : FallR) (w : World) : Calls Tryd.prog 103 #[k.val, f.val] w fun e w' => e = .returned (.slice (some ⟨w.heap.size + 1 + 1, 0, none⟩) 7 7) ∧ w' = ((w.alloc (.cells #[.int .i64 k.size.x, .int .i64 k.size.y, .int .i64 k.dens.x, .int .i64 k.dens.y, .int .i64 k.strong.x, .int .i64 k.strong.y, .int .i64 k.spin.x, .int .i64 k.spin.y, .int .i64 k.shape.x, .int .i64 k.shape.y, .bool k.pile] 31)).alloc (.cells #[.int .i64 f.speed.x, .int .i64 f.speed.y, .int .i64 f.slope.x, .int .i64 f.slope.y] 33)).alloc (.cells #[.int .i64 k.size.x, .int .i64 k.size.y, .int .i64 k.dens.x, .int .i64 k.dens.y, .int .i64 k.strong.x, .int .i64 k.strong.y, .int .i64 k.spin.x, .int .i64 k.spin.y, .int .i64 k.shape.x, .int .i64 k.shape.y, .int .i64 f.speed.x, .int .i64 f.speed.y, .int .i64 f.slope.x, .int .i64 f.slope.y] 29) := by
  unfold RockR.val FallR.val
  go_enter Tryd.func103, Tryd.ntmps103
  go_wp2_with (first | ((first | with_reducible refine wrx2 ?_ | with_reducible refine wrx ?_); (repeat (first | go_big_quiet_step ((first | fail)) | quiet_step ((first | fail)))); refine wpQuiet_nil ?_; rintro _ ⟨yr, rfl⟩; have syr := Ext.size yr; (repeat (first | rw [World.size_alloc] at syr | rw [World.size_setCell] at syr | rw [World.size_drew] at syr))))
  go_returns
  exact ⟨rfl, rfl⟩
theorem rlimits_any (w : World) : Calls Tryd.prog 104 #[] w fun e w' => e = .returned (.slice (some ⟨w.heap.size, 0, none⟩) 7 7) ∧ w' = w.alloc (.cells #[.int .i64 1, .int .i64 1000, .int .i64 1, .int .i64 9000, .int .i64 0, .int .i64 1099511627776, .int .i64 0, .int .i64 1000, .int .i64 500, .int .i64 2000, .int .i64 1, .int .i64 8000, .int .i64 1, .int .i64 1000] 149) := by
  go_enter Tryd.func104, Tryd.ntmps104
  go_wp2_with (first | ((first | with_reducible refine wrx2 ?_ | with_reducible refine wrx ?_); (repeat (first | go_big_quiet_step ((first | fail)) | quiet_step ((first | fail)))); refine wpQuiet_nil ?_; rintro _ ⟨yr, rfl⟩; have syr := Ext.size yr; (repeat (first | rw [World.size_alloc] at syr | rw [World.size_setCell] at syr | rw [World.size_drew] at syr))))
  go_returns
  exact ⟨rfl, rfl⟩
/-- A row of seven pairs, of seven numbers in one block. -/
def P7At (W : World) (G : Nat) (l : List V2) : Prop := G < W.heap.size ∧ ∀ i (h : i < l.length), W.cell? ⟨G, i * 2, none⟩ = some (.int .i64 l[i].x) ∧ W.cell? ⟨G, i * 2 + 1, none⟩ = some (.int .i64 l[i].y)
def N7At (W : World) (G : Nat) (l : List Int) : Prop := G < W.heap.size ∧ ∀ i (h : i < l.length), W.cell? ⟨G, i, none⟩ = some (.int .i64 l[i])
theorem P7At.on {W W' : World} {G : Nat} {l : List V2} (h : P7At W G l) (b : Below W.heap.size W W') : P7At W' G l :=
  ⟨Nat.lt_of_lt_of_le h.1 b.size, fun i hi => ⟨(b.cell (p := ⟨G, i * 2, none⟩) h.1).trans (h.2 i hi).1, (b.cell (p := ⟨G, i * 2 + 1, none⟩) h.1).trans (h.2 i hi).2⟩⟩
theorem N7At.on {W W' : World} {G : Nat} {l : List Int} (h : N7At W G l) (b : Below W.heap.size W W') : N7At W' G l :=
  ⟨Nat.lt_of_lt_of_le h.1 b.size, fun i hi => (b.cell (p := ⟨G, i, none⟩) h.1).trans (h.2 i hi)⟩
theorem p7_row {W : World} {G : Nat} {T : TypeId} {a0 a1 a2 a3 a4 a5 a6 a7 a8 a9 a10 a11 a12 a13 : Int} (h : W.heap[G]? = some (.cells #[.int .i64 a0, .int .i64 a1, .int .i64 a2, .int .i64 a3, .int .i64 a4, .int .i64 a5, .int .i64 a6, .int .i64 a7, .int .i64 a8, .int .i64 a9, .int .i64 a10, .int .i64 a11, .int .i64 a12, .int .i64 a13] T (0, 0))) : P7At W G [⟨a0, a1⟩, ⟨a2, a3⟩, ⟨a4, a5⟩, ⟨a6, a7⟩, ⟨a8, a9⟩, ⟨a10, a11⟩, ⟨a12, a13⟩] := by
  refine ⟨row_lt h, fun i hi => ?_⟩
  have hi7 : i < 7 := hi
  rcases (show i = 0 ∨ i = 1 ∨ i = 2 ∨ i = 3 ∨ i = 4 ∨ i = 5 ∨ i = 6 by omega) with rfl | rfl | rfl | rfl | rfl | rfl | rfl
  all_goals exact ⟨(cell_of_row W _ _ _ _ _ h).trans rfl, (cell_of_row W _ _ _ _ _ h).trans rfl⟩
theorem n7_row {W : World} {G : Nat} {T : TypeId} {a0 a1 a2 a3 a4 a5 a6 : Int} (h : W.heap[G]? = some (.cells #[.int .i64 a0, .int .i64 a1, .int .i64 a2, .int .i64 a3, .int .i64 a4, .int .i64 a5, .int .i64 a6] T (0, 0))) : N7At W G [a0, a1, a2, a3, a4, a5, a6] := by
  refine ⟨row_lt h, fun i hi => ?_⟩
  have hi7 : i < 7 := hi
  rcases (show i = 0 ∨ i = 1 ∨ i = 2 ∨ i = 3 ∨ i = 4 ∨ i = 5 ∨ i = 6 by omega) with rfl | rfl | rfl | rfl | rfl | rfl | rfl
  all_goals exact (cell_of_row W _ _ _ _ _ h).trans rfl
/-- The three rows as the calls leave them, with what was there before. -/
theorem rspans_g (k : RockR) (f : FallR) (w : World) : Calls Tryd.prog 103 #[k.val, f.val] w fun e w' => ∃ (y : Ext w) (G : Nat), e = .returned (.slice (some ⟨G, 0, none⟩) 7 7) ∧ w' = y.now ∧ P7At y.now G (spansL k f) := by
  refine (rspans_any k f w).mono ?_
  rintro _ w' ⟨rfl, hw'⟩
  have hB : Below w.heap.size w w' := by rw [hw']; repeat' (first | (with_reducible exact Below.refl _ _) | (with_reducible assumption) | (with_reducible refine Ext.below _ ?_ ?_) | (with_reducible refine Below.on ?_ (by with_reducible assumption) ?_) | (with_reducible refine Below.alloc ?_ ?_ _) | (with_reducible refine Below.drew ?_) | (with_reducible refine Below.setCell ?_ ?_ _) | (with_reducible exact Nat.le_refl _) | omega | (simp; done) | (simp [go_sem]; done) | (simp at *; omega))
  have hr : w'.heap[w.heap.size + 1 + 1]? = some (.cells #[.int .i64 k.size.x, .int .i64 k.size.y, .int .i64 k.dens.x, .int .i64 k.dens.y, .int .i64 k.strong.x, .int .i64 k.strong.y, .int .i64 k.spin.x, .int .i64 k.spin.y, .int .i64 k.shape.x, .int .i64 k.shape.y, .int .i64 f.speed.x, .int .i64 f.speed.y, .int .i64 f.slope.x, .int .i64 f.slope.y] 29 (0, 0)) := by rw [hw']; have := heap_alloc_new ((w.alloc (.cells #[.int .i64 k.size.x, .int .i64 k.size.y, .int .i64 k.dens.x, .int .i64 k.dens.y, .int .i64 k.strong.x, .int .i64 k.strong.y, .int .i64 k.spin.x, .int .i64 k.spin.y, .int .i64 k.shape.x, .int .i64 k.shape.y, .bool k.pile] 31)).alloc (.cells #[.int .i64 f.speed.x, .int .i64 f.speed.y, .int .i64 f.slope.x, .int .i64 f.slope.y] 33)) (.cells #[.int .i64 k.size.x, .int .i64 k.size.y, .int .i64 k.dens.x, .int .i64 k.dens.y, .int .i64 k.strong.x, .int .i64 k.strong.y, .int .i64 k.spin.x, .int .i64 k.spin.y, .int .i64 k.shape.x, .int .i64 k.shape.y, .int .i64 f.speed.x, .int .i64 f.speed.y, .int .i64 f.slope.x, .int .i64 f.slope.y] 29); simp only [World.size_alloc] at this; exact this
  exact ⟨⟨w', hB⟩, _, rfl, rfl, p7_row hr⟩
theorem rlimits_g (w : World) : Calls Tryd.prog 104 #[] w fun e w' => ∃ (y : Ext w) (G : Nat), e = .returned (.slice (some ⟨G, 0, none⟩) 7 7) ∧ w' = y.now ∧ P7At y.now G limsL := by
  refine (rlimits_any w).mono ?_
  rintro _ w' ⟨rfl, hw'⟩
  have hB : Below w.heap.size w w' := by rw [hw']; repeat' (first | (with_reducible exact Below.refl _ _) | (with_reducible assumption) | (with_reducible refine Ext.below _ ?_ ?_) | (with_reducible refine Below.on ?_ (by with_reducible assumption) ?_) | (with_reducible refine Below.alloc ?_ ?_ _) | (with_reducible refine Below.drew ?_) | (with_reducible refine Below.setCell ?_ ?_ _) | (with_reducible exact Nat.le_refl _) | omega | (simp; done) | (simp [go_sem]; done) | (simp at *; omega))
  have hr : w'.heap[w.heap.size]? = some (.cells #[.int .i64 1, .int .i64 1000, .int .i64 1, .int .i64 9000, .int .i64 0, .int .i64 1099511627776, .int .i64 0, .int .i64 1000, .int .i64 500, .int .i64 2000, .int .i64 1, .int .i64 8000, .int .i64 1, .int .i64 1000] 149 (0, 0)) := by rw [hw']; exact heap_alloc_new _ _
  exact ⟨⟨w', hB⟩, _, rfl, rfl, p7_row hr⟩
end Go.Proofs.YtlmhbggigbmeaaaDoor
namespace Go.Proofs.YtlmhbggigbmeaaaDoor
open Go.RowKit Go.Shelf
attribute [local go_sem] Option.isSome_some Ext.cell Ext.frozen Ext.lt Ext.le Ext.lt_add Ext.le_add Ext.ne Ext.ne' lt2 lt3 lt4 lt5 le2 le3 le4
set_option maxRecDepth 100000 in
set_option maxHeartbeats 8000000 in
theorem rCheckRock_any (k : RockR) (f : FallR) (w : World) : Calls Tryd.prog 90 #[k.val, f.val] w (Gives (.int .i64 (rockE k f)) w) := by
  obtain ⟨V, hV⟩ : ∃ V, rockE k f = V := ⟨_, rfl⟩
  rw [hV]
  replace hV := Go.Lib.hid hV
  have cs := fun W => rspans_g k f W
  have cl := fun W => rlimits_g W
  have hsl : (spansL k f).length = 7 := rfl
  have hll : limsL.length = 7 := rfl
  unfold rockE at hV
  generalize spansL k f = SL at *
  generalize limsL = ML at *
  unfold RockR.val FallR.val at *
  go_enter Tryd.func90, Tryd.ntmps90
  go_wp2_with (first | ((first | with_reducible refine wrx2 ?_ | with_reducible refine wrx ?_); (repeat (first | go_big_quiet_step ((first | fail)) | quiet_step ((first | fail)))); refine wpQuiet_nil ?_; rintro _ ⟨yr, rfl⟩; have syr := Ext.size yr; (repeat (first | rw [World.size_alloc] at syr | rw [World.size_setCell] at syr | rw [World.size_drew] at syr))) | (go_at_call 103; refine (cs _).mono ?_; rintro _ _ ⟨y1, G, rfl, rfl, hP⟩; have sy1 := y1.size) | (go_at_call 104; refine (cl _).mono ?_; rintro _ _ ⟨y2, H, rfl, rfl, hQ⟩; have sy2 := y2.size))
  refine wp_named (fun W0 hW => ?_)
  have hB0 : Below w.heap.size w W0 := by rw [← hW]; repeat' (first | (with_reducible exact Below.refl _ _) | (with_reducible assumption) | (with_reducible refine Ext.below _ ?_ ?_) | (with_reducible refine Below.on ?_ (by with_reducible assumption) ?_) | (with_reducible refine Below.alloc ?_ ?_ _) | (with_reducible refine Below.drew ?_) | (with_reducible refine Below.setCell ?_ ?_ _) | (with_reducible exact Nat.le_refl _) | omega | (simp; done) | (simp [go_sem]; done) | (simp at *; omega))
  have hP0 : P7At W0 G SL := by rw [← hW]; exact hP.on y2.grew
  have hQ0 : P7At W0 H ML := by rw [← hW]; exact hQ
  clear hW hP hQ
  have hG := hP0.1
  have hH := hQ0.1
  replace hP0 := Go.Lib.hid hP0
  replace hQ0 := Go.Lib.hid hQ0
  go_loopw [7] (fun s W => ∃ (i : Nat) (x : Ext W0), s = .int .i64 i ∧ W = x.now ∧ Hid (i ≤ 7 ∧ firstE (SL.drop i) (ML.drop i) = V)) (fun s _ => 7 - (intOf s).toNat)
  case atStart => exact ⟨0, ⟨W0, Below.refl _ _⟩, rfl, rfl, Go.Lib.hid ⟨by omega, by simpa using hV.out⟩⟩
  case round =>
    obtain ⟨i, x, rfl, rfl, hi⟩ := hrel
    have xs := x.size
    have sB0 := hB0.size
    by_cases hlt : i < 7
    · have hlt2 : (i : Int) < 7 := by omega
      have hs2 : i < SL.length := by omega
      have hm2 : i < ML.length := by omega
      obtain ⟨a0, a1⟩ := hP0.out.2 i hs2
      obtain ⟨l0, l1⟩ := hQ0.out.2 i hm2
      have hE := hi.out.2
      rw [drop_at hs2, drop_at hm2, firstE] at hE
      generalize SL[i] = v at *
      generalize ML[i] = m at *
      obtain ⟨vx, vy⟩ := v
      obtain ⟨mx, my⟩ := m
      simp only at a0 a1 l0 l1
      unfold spE at hE
      simp only at hE
      clear hi
      by_cases hgt : vy < vx
      · rw [if_pos hgt, if_neg (by decide)] at hE
        subst hE
        go_wp2_with (first | ((first | with_reducible refine wrx2 ?_ | with_reducible refine wrx ?_); (repeat (first | go_big_quiet_step ((first | fail)) | quiet_step ((first | fail)))); refine wpQuiet_nil ?_; rintro _ ⟨yr, rfl⟩; have syr := Ext.size yr; (repeat (first | rw [World.size_alloc] at syr | rw [World.size_setCell] at syr | rw [World.size_drew] at syr)); have : G < yr.now.heap.size := (by omega); have : G ≤ yr.now.heap.size := (by omega); have : G < yr.now.heap.size + 1 + 1 := (by omega); have : H < yr.now.heap.size := (by omega); have : H ≤ yr.now.heap.size := (by omega); have : H < yr.now.heap.size + 1 + 1 := (by omega)))
        go_returns
        refine ⟨rfl, ?_⟩
        repeat' (first | (with_reducible exact Below.refl _ _) | (with_reducible assumption) | (with_reducible refine Ext.below _ ?_ ?_) | (with_reducible refine Below.on ?_ (by with_reducible assumption) ?_) | (with_reducible refine Below.alloc ?_ ?_ _) | (with_reducible refine Below.drew ?_) | (with_reducible refine Below.setCell ?_ ?_ _) | (with_reducible exact Nat.le_refl _) | omega | (simp; done) | (simp [go_sem]; done) | (simp at *; omega))
      · rw [if_neg hgt] at hE
        by_cases h1 : vx < mx
        · have hin : ¬ (mx ≤ vx ∧ vy ≤ my) := by omega
          rw [if_neg hin, if_neg (by decide)] at hE
          clear hin
          subst hE
          go_wp2_with (first | ((first | with_reducible refine wrx2 ?_ | with_reducible refine wrx ?_); (repeat (first | go_big_quiet_step ((first | fail)) | quiet_step ((first | fail)))); refine wpQuiet_nil ?_; rintro _ ⟨yr, rfl⟩; have syr := Ext.size yr; (repeat (first | rw [World.size_alloc] at syr | rw [World.size_setCell] at syr | rw [World.size_drew] at syr)); have : G < yr.now.heap.size := (by omega); have : G ≤ yr.now.heap.size := (by omega); have : G < yr.now.heap.size + 1 + 1 := (by omega); have : H < yr.now.heap.size := (by omega); have : H ≤ yr.now.heap.size := (by omega); have : H < yr.now.heap.size + 1 + 1 := (by omega)))
          go_returns
          refine ⟨rfl, ?_⟩
          repeat' (first | (with_reducible exact Below.refl _ _) | (with_reducible assumption) | (with_reducible refine Ext.below _ ?_ ?_) | (with_reducible refine Below.on ?_ (by with_reducible assumption) ?_) | (with_reducible refine Below.alloc ?_ ?_ _) | (with_reducible refine Below.drew ?_) | (with_reducible refine Below.setCell ?_ ?_ _) | (with_reducible exact Nat.le_refl _) | omega | (simp; done) | (simp [go_sem]; done) | (simp at *; omega))
        · by_cases h2 : my < vy
          · have hin : ¬ (mx ≤ vx ∧ vy ≤ my) := by omega
            rw [if_neg hin, if_neg (by decide)] at hE
            clear hin
            subst hE
            go_wp2_with (first | ((first | with_reducible refine wrx2 ?_ | with_reducible refine wrx ?_); (repeat (first | go_big_quiet_step ((first | fail)) | quiet_step ((first | fail)))); refine wpQuiet_nil ?_; rintro _ ⟨yr, rfl⟩; have syr := Ext.size yr; (repeat (first | rw [World.size_alloc] at syr | rw [World.size_setCell] at syr | rw [World.size_drew] at syr)); have : G < yr.now.heap.size := (by omega); have : G ≤ yr.now.heap.size := (by omega); have : G < yr.now.heap.size + 1 + 1 := (by omega); have : H < yr.now.heap.size := (by omega); have : H ≤ yr.now.heap.size := (by omega); have : H < yr.now.heap.size + 1 + 1 := (by omega)))
            go_returns
            refine ⟨rfl, ?_⟩
            repeat' (first | (with_reducible exact Below.refl _ _) | (with_reducible assumption) | (with_reducible refine Ext.below _ ?_ ?_) | (with_reducible refine Below.on ?_ (by with_reducible assumption) ?_) | (with_reducible refine Below.alloc ?_ ?_ _) | (with_reducible refine Below.drew ?_) | (with_reducible refine Below.setCell ?_ ?_ _) | (with_reducible exact Nat.le_refl _) | omega | (simp; done) | (simp [go_sem]; done) | (simp at *; omega))
          · have hin : mx ≤ vx ∧ vy ≤ my := by omega
            rw [if_pos hin, if_pos rfl] at hE
            clear hin
            have key : Hid (i + 1 ≤ 7 ∧ firstE (SL.drop (i + 1)) (ML.drop (i + 1)) = V) := Go.Lib.hid ⟨hlt, hE⟩
            clear hE
            go_wp2_with (first | ((first | with_reducible refine wrx2 ?_ | with_reducible refine wrx ?_); (repeat (first | go_big_quiet_step ((first | fail)) | quiet_step ((first | fail)))); refine wpQuiet_nil ?_; rintro _ ⟨yr, rfl⟩; have syr := Ext.size yr; (repeat (first | rw [World.size_alloc] at syr | rw [World.size_setCell] at syr | rw [World.size_drew] at syr)); have : G < yr.now.heap.size := (by omega); have : G ≤ yr.now.heap.size := (by omega); have : G < yr.now.heap.size + 1 + 1 := (by omega); have : H < yr.now.heap.size := (by omega); have : H ≤ yr.now.heap.size := (by omega); have : H < yr.now.heap.size + 1 + 1 := (by omega)))
            exact ⟨⟨i + 1, ⟨_, by repeat' (first | (with_reducible exact Below.refl _ _) | (with_reducible assumption) | (with_reducible refine Ext.below _ ?_ ?_) | (with_reducible refine Below.on ?_ (by with_reducible assumption) ?_) | (with_reducible refine Below.alloc ?_ ?_ _) | (with_reducible refine Below.drew ?_) | (with_reducible refine Below.setCell ?_ ?_ _) | (with_reducible exact Nat.le_refl _) | omega | (simp; done) | (simp [go_sem]; done) | (simp at *; omega))⟩, by simp, rfl, key⟩, by simp [intOf]; omega⟩
    · have hge : i = 7 := by have := hi.out.1; omega
      subst hge
      have eV : V = 0 := by have hE := hi.out.2; rw [List.drop_of_length_le (by omega), firstE] at hE; exact hE.symm; intro v l m q e; cases e
      clear hi hV
      subst eV
      go_wp2_with (first | ((first | with_reducible refine wrx2 ?_ | with_reducible refine wrx ?_); (repeat (first | go_big_quiet_step ((first | fail)) | quiet_step ((first | fail)))); refine wpQuiet_nil ?_; rintro _ ⟨yr, rfl⟩; have syr := Ext.size yr; (repeat (first | rw [World.size_alloc] at syr | rw [World.size_setCell] at syr | rw [World.size_drew] at syr))))
      go_returns
      refine ⟨rfl, ?_⟩
      repeat' (first | (with_reducible exact Below.refl _ _) | (with_reducible assumption) | (with_reducible refine Ext.below _ ?_ ?_) | (with_reducible refine Below.on ?_ (by with_reducible assumption) ?_) | (with_reducible refine Below.alloc ?_ ?_ _) | (with_reducible refine Below.drew ?_) | (with_reducible refine Below.setCell ?_ ?_ _) | (with_reducible exact Nat.le_refl _) | omega | (simp; done) | (simp [go_sem]; done) | (simp at *; omega))
def numE : List Int → List V2 → Int
  | n :: l, m :: q => if m.x ≤ n ∧ n ≤ m.y then numE l q else 2
  | _, _ => 0
theorem numE_stone (s : StoneR) : numE (numsL s) limsL = stoneE s := by
  unfold stoneE stoneB numsL limsL
  simp only [numE]
  by_cases h : (1 ≤ s.size ∧ s.size ≤ 1000) ∧ (1 ≤ s.dens ∧ s.dens ≤ 9000) ∧ (0 ≤ s.strong ∧ s.strong ≤ 1099511627776) ∧ (0 ≤ s.spin ∧ s.spin ≤ 1000) ∧ (500 ≤ s.shape ∧ s.shape ≤ 2000) ∧ (1 ≤ s.speed ∧ s.speed ≤ 8000) ∧ 1 ≤ s.slope ∧ s.slope ≤ 1000
  · obtain ⟨h0, h1, h2, h3, h4, h5, h6⟩ := h
    rw [if_pos h0, if_pos h1, if_pos h2, if_pos h3, if_pos h4, if_pos h5, if_pos h6, if_pos (decide_eq_true ⟨h0, h1, h2, h3, h4, h5, h6⟩)]
  · rw [if_neg (show ¬ decide _ = true from fun q => h (of_decide_eq_true q))]
    by_cases h0 : 1 ≤ s.size ∧ s.size ≤ 1000
    · rw [if_pos h0]
      by_cases h1 : 1 ≤ s.dens ∧ s.dens ≤ 9000
      · rw [if_pos h1]
        by_cases h2 : 0 ≤ s.strong ∧ s.strong ≤ 1099511627776
        · rw [if_pos h2]
          by_cases h3 : 0 ≤ s.spin ∧ s.spin ≤ 1000
          · rw [if_pos h3]
            by_cases h4 : 500 ≤ s.shape ∧ s.shape ≤ 2000
            · rw [if_pos h4]
              by_cases h5 : 1 ≤ s.speed ∧ s.speed ≤ 8000
              · rw [if_pos h5]
                by_cases h6 : 1 ≤ s.slope ∧ s.slope ≤ 1000
                · exact absurd ⟨h0, h1, h2, h3, h4, h5, h6⟩ h
                · rw [if_neg h6]
              · rw [if_neg h5]
            · rw [if_neg h4]
          · rw [if_neg h3]
        · rw [if_neg h2]
      · rw [if_neg h1]
    · rw [if_neg h0]
end Go.Proofs.YtlmhbggigbmeaaaDoor

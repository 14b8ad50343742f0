/- The reference's toll as mathematics: what it keeps while it goes through cells and blows, and that this is the least, the greatest and the first worst of the tolls. No condition. The reference's rows of numbers, of spans, of limits; CheckRock, CheckStone, Mass, Holds, CheckAir of the reference. No condition. -/
import Derived.Test.YtlmhbggigbmeaaaDoorBlV7G
import Derived.Test.YtlmhbggigbmeaaaDoorBlV1G
namespace Go.Proofs.YtlmhbggigbmeaaaDoor
open Go.RowKit Go.Shelf
/-- What the reference's toll keeps. -/
structure TollSt where
  lo : Int
  hi : Int
  worst : Int
  first : Bool
def TollSt.next (st : TollSt) (s : SceneR) (a : Int) (b : V3) : TollSt := ⟨if st.first = true ∨ s.lo a b < st.lo then s.lo a b else st.lo, if st.first = true ∨ st.hi < s.hi a b then s.hi a b else st.hi, if st.first = true ∨ st.hi < s.hi a b then a else st.worst, false⟩
def TollSt.blows (s : SceneR) (a : Int) : TollSt → List V3 → TollSt
  | st, [] => st
  | st, b :: r => TollSt.blows s a (st.next s a b) r
/-- After so many cells. -/
def TollSt.cells (s : SceneR) (L : List V3) (a : Int) : Nat → TollSt
  | 0 => ⟨0, 0, a, true⟩
  | n + 1 => TollSt.blows s (a + n) (TollSt.cells s L a n) L
theorem blows_later (s : SceneR) (a : Int) : ∀ (r : List V3) (m h w : Int), TollSt.blows s a ⟨m, h, w, false⟩ r = ⟨s.lowsF a m r, s.highsF a h r, if h < s.highsF a h r then a else w, false⟩
  | [], m, h, w => by simp [TollSt.blows, SceneR.lowsF, SceneR.highsF]
  | b :: r, m, h, w => by
    have hge : ∀ (r : List V3) (k : Int), k ≤ s.highsF a k r := by
      intro r
      induction r with
      | nil => intro k; exact Int.le_refl _
      | cons c r ih => intro k; rw [SceneR.highsF]; have := ih (max k (s.hi a c)); omega
    rw [TollSt.blows, SceneR.lowsF, SceneR.highsF]
    have e1 : (TollSt.mk m h w false).next s a b = ⟨min m (s.lo a b), max h (s.hi a b), if h < s.hi a b then a else w, false⟩ := by
      unfold TollSt.next
      simp only [Bool.false_eq_true, false_or]
      congr 1
      · split <;> omega
      · split <;> omega
    rw [e1, blows_later s a r]
    have h1 := hge r (max h (s.hi a b))
    congr 1
    by_cases q : h < s.hi a b
    · rw [if_pos q, if_pos (show h < s.highsF a (max h (s.hi a b)) r by omega)]
      split <;> rfl
    · rw [if_neg q, show max h (s.hi a b) = h by omega]
theorem blows_first (s : SceneR) (a : Int) (b : V3) (r : List V3) (m h w : Int) : TollSt.blows s a ⟨m, h, w, true⟩ (b :: r) = ⟨s.lows a (b :: r), s.highs a (b :: r), a, false⟩ := by
  rw [TollSt.blows, SceneR.lows, SceneR.highs]
  have e1 : (TollSt.mk m h w true).next s a b = ⟨s.lo a b, s.hi a b, a, false⟩ := by
    unfold TollSt.next
    simp
  rw [e1, blows_later]
  congr 1
  split <;> rfl
theorem lowsF_min (s : SceneR) (a : Int) : ∀ (r : List V3) (m k : Int), s.lowsF a (min m k) r = min m (s.lowsF a k r)
  | [], m, k => rfl
  | b :: r, m, k => by
    rw [SceneR.lowsF, SceneR.lowsF, ← lowsF_min s a r m (min k (s.lo a b))]
    congr 1
    omega
theorem highsF_max (s : SceneR) (a : Int) : ∀ (r : List V3) (m k : Int), s.highsF a (max m k) r = max m (s.highsF a k r)
  | [], m, k => rfl
  | b :: r, m, k => by
    rw [SceneR.highsF, SceneR.highsF, ← highsF_max s a r m (max k (s.hi a b))]
    congr 1
    omega
theorem minsF_add : ∀ (l : List V2) (m : Int) (v : V2), minsF m (l ++ [v]) = min (minsF m l) v.x
  | [], _, _ => rfl
  | u :: l, m, v => by rw [List.cons_append, minsF, minsF, minsF_add l]
theorem maxsF_add : ∀ (l : List V2) (m : Int) (v : V2), maxsF m (l ++ [v]) = max (maxsF m l) v.y
  | [], _, _ => rfl
  | u :: l, m, v => by rw [List.cons_append, maxsF, maxsF, maxsF_add l]
theorem bestI_pre (l : List V2) (v : V2) : ∀ n, n ≤ l.length → bestI (l ++ [v]) n = bestI l n
  | 0, _ => rfl
  | n + 1, h => by
    have hb := bestI_le l n
    rw [bestI, bestI, bestI_pre l v n (by omega)]
    have g : ∀ k, k < l.length → (l ++ [v]).getD k ⟨0, 0⟩ = l.getD k ⟨0, 0⟩ := fun k hk => by simp [List.getD, List.getElem?_append_left hk]
    rw [g n (by omega), g _ (by omega)]
theorem tollsL_add (s : SceneR) (L : List V3) : ∀ (n : Nat) (a : Int), s.tollsL L a (n + 1) = s.tollsL L a n ++ [⟨s.lows (a + n) L, s.highs (a + n) L⟩]
  | 0, a => by simp [SceneR.tollsL]
  | n + 1, a => by
    rw [SceneR.tollsL, tollsL_add s L n (a + 1)]
    rw [show s.tollsL L a (n + 1) = ⟨s.lows a L, s.highs a L⟩ :: s.tollsL L (a + 1) n from rfl, List.cons_append, show a + 1 + (n : Int) = a + ((n + 1 : Nat) : Int) by omega]
theorem cells_toll (s : SceneR) (b : V3) (r : List V3) (a : Int) : ∀ n : Nat, TollSt.cells s (b :: r) a (n + 1) = ⟨minsV (s.tollsL (b :: r) a (n + 1)), maxsV (s.tollsL (b :: r) a (n + 1)), a + bestI (s.tollsL (b :: r) a (n + 1)) (n + 1), false⟩ ∧ ((s.tollsL (b :: r) a (n + 1)).getD (bestI (s.tollsL (b :: r) a (n + 1)) (n + 1)) ⟨0, 0⟩).y = maxsV (s.tollsL (b :: r) a (n + 1))
  | 0 => by
    rw [TollSt.cells, TollSt.cells, blows_first]
    simp [SceneR.tollsL, minsV, maxsV, minsF, maxsF, bestI]
  | n + 1 => by
    obtain ⟨i1, i2⟩ := cells_toll s b r a n
    have hlen := tollsL_len s (b :: r) (n + 1) a
    rw [TollSt.cells, i1, blows_later, tollsL_add s (b :: r) (n + 1) a]
    generalize s.tollsL (b :: r) a (n + 1) = T at *
    have hb := bestI_lt T (by omega) (n + 1) (by omega)
    have hl : s.lowsF (a + ((n + 1 : Nat) : Int)) (minsV T) (b :: r) = min (minsV T) (s.lows (a + ((n + 1 : Nat) : Int)) (b :: r)) := by
      rw [SceneR.lowsF, SceneR.lows, ← lowsF_min]
    have hh : s.highsF (a + ((n + 1 : Nat) : Int)) (maxsV T) (b :: r) = max (maxsV T) (s.highs (a + ((n + 1 : Nat) : Int)) (b :: r)) := by
      rw [SceneR.highsF, SceneR.highs, ← highsF_max]
    rw [hl, hh]
    generalize s.lows (a + ((n + 1 : Nat) : Int)) (b :: r) = lo at *
    generalize s.highs (a + ((n + 1 : Nat) : Int)) (b :: r) = hi at *
    have e1 : minsV (T ++ [⟨lo, hi⟩]) = min (minsV T) lo := by
      cases T with
      | nil => simp at hlen
      | cons v q => rw [List.cons_append, minsV, minsV, minsF_add]
    have e2 : maxsV (T ++ [⟨lo, hi⟩]) = max (maxsV T) hi := by
      cases T with
      | nil => simp at hlen
      | cons v q => rw [List.cons_append, maxsV, maxsV, maxsF_add]
    have e3 : (T ++ [(⟨lo, hi⟩ : V2)]).getD (n + 1) ⟨0, 0⟩ = ⟨lo, hi⟩ := by
      rw [show n + 1 = T.length by omega]
      simp [List.getD]
    have e4 : ∀ k, k < T.length → (T ++ [(⟨lo, hi⟩ : V2)]).getD k ⟨0, 0⟩ = T.getD k ⟨0, 0⟩ := fun k hk => by simp [List.getD, List.getElem?_append_left hk]
    have e5 : bestI (T ++ [⟨lo, hi⟩]) (n + 1 + 1) = if maxsV T < hi then n + 1 else bestI T (n + 1) := by
      rw [bestI, bestI_pre T _ (n + 1) (by omega), e3, e4 _ hb, i2]
    rw [e1, e2, e5]
    by_cases q : maxsV T < hi
    · rw [if_pos q, if_pos (show maxsV T < max (maxsV T) hi by omega), e3]
      exact ⟨rfl, by simp only; omega⟩
    · rw [if_neg q, if_neg (show ¬ maxsV T < max (maxsV T) hi by omega), e4 _ hb, i2]
      exact ⟨rfl, by omega⟩
end Go.Proofs.YtlmhbggigbmeaaaDoor
namespace Go.Proofs.YtlmhbggigbmeaaaDoor
open Go.RowKit Go.Shelf
attribute [local go_sem] Option.isSome_some Ext.cell Ext.frozen Ext.lt Ext.le Ext.lt_add Ext.le_add Ext.ne Ext.ne' lt2 lt3 lt4 lt5 le2 le3 le4
theorem rbetween_any (n a b : Int) (w : World) : Calls Tryd.prog 102 #[.int .i64 n, .int .i64 a, .int .i64 b] w (Gives (.bool (decide (a ≤ n ∧ n ≤ b))) w) := by
  go_enter Tryd.func102, Tryd.ntmps102
  go_wp2_with (first | ((first | with_reducible refine wrx2 ?_ | with_reducible refine wrx ?_); (repeat (first | go_big_quiet_step ((first | fail)) | quiet_step ((first | fail)))); refine wpQuiet_nil ?_; rintro _ ⟨yr, rfl⟩; have syr := Ext.size yr; (repeat (first | rw [World.size_alloc] at syr | rw [World.size_setCell] at syr | rw [World.size_drew] at syr))))
  all_goals go_returns
  all_goals refine ⟨ret_bool ?_, ?_⟩
  all_goals first
    | (rw [decide_eq_decide]; omega)
    | (simp; omega)
    | (symm; simp; omega)
    | ((repeat' (first | (with_reducible exact Below.refl _ _) | (with_reducible assumption) | (with_reducible refine Ext.below _ ?_ ?_) | (with_reducible refine Below.on ?_ (by with_reducible assumption) ?_) | (with_reducible refine Below.alloc ?_ ?_ _) | (with_reducible refine Below.drew ?_) | (with_reducible refine Below.setCell ?_ ?_ _) | (with_reducible exact Nat.le_refl _) | omega | (simp; done) | (simp [go_sem]; done) | (simp at *; omega))); done)
def numsL (s : StoneR) : List Int := [s.size, s.dens, s.strong, s.spin, s.shape, s.speed, s.slope]
theorem rspans_any (k : RockR) (f : FallR) (w : World) : Calls Tryd.prog 103 #[k.val, f.val] w fun e w' => e = .returned (.slice (some ⟨w.heap.size + 1 + 1, 0, none⟩) 7 7) ∧ w' = ((w.alloc (.cells #[.int .i64 k.size.x, .int .i64 k.size.y, .int .i64 k.dens.x, .int .i64 k.dens.y, .int .i64 k.strong.x, .int .i64 k.strong.y, .int .i64 k.spin.x, .int .i64 k.spin.y, .int .i64 k.shape.x, .int .i64 k.shape.y, .bool k.pile] 31)).alloc (.cells #[.int .i64 f.speed.x, .int .i64 f.speed.y, .int .i64 f.slope.x, .int .i64 f.slope.y] 33)).alloc (.cells #[.int .i64 k.size.x, .int .i64 k.size.y, .int .i64 k.dens.x, .int .i64 k.dens.y, .int .i64 k.strong.x, .int .i64 k.strong.y, .int .i64 k.spin.x, .int .i64 k.spin.y, .int .i64 k.shape.x, .int .i64 k.shape.y, .int .i64 f.speed.x, .int .i64 f.speed.y, .int .i64 f.slope.x, .int .i64 f.slope.y] 29) := by
  unfold RockR.val FallR.val
  go_enter Tryd.func103, Tryd.ntmps103
  go_wp2_with (first | ((first | with_reducible refine wrx2 ?_ | with_reducible refine wrx ?_); (repeat (first | go_big_quiet_step ((first | fail)) | quiet_step ((first | fail)))); refine wpQuiet_nil ?_; rintro _ ⟨yr, rfl⟩; have syr := Ext.size yr; (repeat (first | rw [World.size_alloc] at syr | rw [World.size_setCell] at syr | rw [World.size_drew] at syr))))
  go_returns
  exact ⟨rfl, rfl⟩
theorem rlimits_any (w : World) : Calls Tryd.prog 104 #[] w fun e w' => e = .returned (.slice (some ⟨w.heap.size, 0, none⟩) 7 7) ∧ w' = w.alloc (.cells #[.int .i64 1, .int .i64 1000, .int .i64 1, .int .i64 9000, .int .i64 0, .int .i64 1099511627776, .int .i64 0, .int .i64 1000, .int .i64 500, .int .i64 2000, .int .i64 1, .int .i64 8000, .int .i64 1, .int .i64 1000] 149) := by
  go_enter Tryd.func104, Tryd.ntmps104
  go_wp2_with (first | ((first | with_reducible refine wrx2 ?_ | with_reducible refine wrx ?_); (repeat (first | go_big_quiet_step ((first | fail)) | quiet_step ((first | fail)))); refine wpQuiet_nil ?_; rintro _ ⟨yr, rfl⟩; have syr := Ext.size yr; (repeat (first | rw [World.size_alloc] at syr | rw [World.size_setCell] at syr | rw [World.size_drew] at syr))))
  go_returns
  exact ⟨rfl, rfl⟩
/-- A row of seven pairs, of seven numbers in one block. -/
def P7At (W : World) (G : Nat) (l : List V2) : Prop := G < W.heap.size ∧ ∀ i (h : i < l.length), W.cell? ⟨G, i * 2, none⟩ = some (.int .i64 l[i].x) ∧ W.cell? ⟨G, i * 2 + 1, none⟩ = some (.int .i64 l[i].y)
def N7At (W : World) (G : Nat) (l : List Int) : Prop := G < W.heap.size ∧ ∀ i (h : i < l.length), W.cell? ⟨G, i, none⟩ = some (.int .i64 l[i])
theorem P7At.on {W W' : World} {G : Nat} {l : List V2} (h : P7At W G l) (b : Below W.heap.size W W') : P7At W' G l :=
  ⟨Nat.lt_of_lt_of_le h.1 b.size, fun i hi => ⟨(b.cell (p := ⟨G, i * 2, none⟩) h.1).trans (h.2 i hi).1, (b.cell (p := ⟨G, i * 2 + 1, none⟩) h.1).trans (h.2 i hi).2⟩⟩
theorem N7At.on {W W' : World} {G : Nat} {l : List Int} (h : N7At W G l) (b : Below W.heap.size W W') : N7At W' G l :=
  ⟨Nat.lt_of_lt_of_le h.1 b.size, fun i hi => (b.cell (p := ⟨G, i, none⟩) h.1).trans (h.2 i hi)⟩
theorem p7_row {W : World} {G : Nat} {T : TypeId} {a0 a1 a2 a3 a4 a5 a6 a7 a8 a9 a10 a11 a12 a13 : Int} (h : W.heap[G]? = some (.cells #[.int .i64 a0, .int .i64 a1, .int .i64 a2, .int .i64 a3, .int .i64 a4, .int .i64 a5, .int .i64 a6, .int .i64 a7, .int .i64 a8, .int .i64 a9, .int .i64 a10, .int .i64 a11, .int .i64 a12, .int .i64 a13] T (0, 0))) : P7At W G [⟨a0, a1⟩, ⟨a2, a3⟩, ⟨a4, a5⟩, ⟨a6, a7⟩, ⟨a8, a9⟩, ⟨a10, a11⟩, ⟨a12, a13⟩] := by
  refine ⟨row_lt h, fun i hi => ?_⟩
  have hi7 : i < 7 := hi
  rcases (show i = 0 ∨ i = 1 ∨ i = 2 ∨ i = 3 ∨ i = 4 ∨ i = 5 ∨ i = 6 by omega) with rfl | rfl | rfl | rfl | rfl | rfl | rfl
  all_goals exact ⟨(cell_of_row W _ _ _ _ _ h).trans rfl, (cell_of_row W _ _ _ _ _ h).trans rfl⟩
theorem n7_row {W : World} {G : Nat} {T : TypeId} {a0 a1 a2 a3 a4 a5 a6 : Int} (h : W.heap[G]? = some (.cells #[.int .i64 a0, .int .i64 a1, .int .i64 a2, .int .i64 a3, .int .i64 a4, .int .i64 a5, .int .i64 a6] T (0, 0))) : N7At W G [a0, a1, a2, a3, a4, a5, a6] := by
  refine ⟨row_lt h, fun i hi => ?_⟩
  have hi7 : i < 7 := hi
  rcases (show i = 0 ∨ i = 1 ∨ i = 2 ∨ i = 3 ∨ i = 4 ∨ i = 5 ∨ i = 6 by omega) with rfl | rfl | rfl | rfl | rfl | rfl | rfl
  all_goals exact (cell_of_row W _ _ _ _ _ h).trans rfl
/-- The three rows as the calls leave them, with what was there before. -/
theorem rspans_g (k : RockR) (f : FallR) (w : World) : Calls Tryd.prog 103 #[k.val, f.val] w fun e w' => ∃ (y : Ext w) (G : Nat), e = .returned (.slice (some ⟨G, 0, none⟩) 7 7) ∧ w' = y.now ∧ P7At y.now G (spansL k f) := by
  refine (rspans_any k f w).mono ?_
  rintro _ w' ⟨rfl, hw'⟩
  have hB : Below w.heap.size w w' := by rw [hw']; repeat' (first | (with_reducible exact Below.refl _ _) | (with_reducible assumption) | (with_reducible refine Ext.below _ ?_ ?_) | (with_reducible refine Below.on ?_ (by with_reducible assumption) ?_) | (with_reducible refine Below.alloc ?_ ?_ _) | (with_reducible refine Below.drew ?_) | (with_reducible refine Below.setCell ?_ ?_ _) | (with_reducible exact Nat.le_refl _) | omega | (simp; done) | (simp [go_sem]; done) | (simp at *; omega))
  have hr : w'.heap[w.heap.size + 1 + 1]? = some (.cells #[.int .i64 k.size.x, .int .i64 k.size.y, .int .i64 k.dens.x, .int .i64 k.dens.y, .int .i64 k.strong.x, .int .i64 k.strong.y, .int .i64 k.spin.x, .int .i64 k.spin.y, .int .i64 k.shape.x, .int .i64 k.shape.y, .int .i64 f.speed.x, .int .i64 f.speed.y, .int .i64 f.slope.x, .int .i64 f.slope.y] 29 (0, 0)) := by rw [hw']; have := heap_alloc_new ((w.alloc (.cells #[.int .i64 k.size.x, .int .i64 k.size.y, .int .i64 k.dens.x, .int .i64 k.dens.y, .int .i64 k.strong.x, .int .i64 k.strong.y, .int .i64 k.spin.x, .int .i64 k.spin.y, .int .i64 k.shape.x, .int .i64 k.shape.y, .bool k.pile] 31)).alloc (.cells #[.int .i64 f.speed.x, .int .i64 f.speed.y, .int .i64 f.slope.x, .int .i64 f.slope.y] 33)) (.cells #[.int .i64 k.size.x, .int .i64 k.size.y, .int .i64 k.dens.x, .int .i64 k.dens.y, .int .i64 k.strong.x, .int .i64 k.strong.y, .int .i64 k.spin.x, .int .i64 k.spin.y, .int .i64 k.shape.x, .int .i64 k.shape.y, .int .i64 f.speed.x, .int .i64 f.speed.y, .int .i64 f.slope.x, .int .i64 f.slope.y] 29); simp only [World.size_alloc] at this; exact this
  exact ⟨⟨w', hB⟩, _, rfl, rfl, p7_row hr⟩
theorem rlimits_g (w : World) : Calls Tryd.prog 104 #[] w fun e w' => ∃ (y : Ext w) (G : Nat), e = .returned (.slice (some ⟨G, 0, none⟩) 7 7) ∧ w' = y.now ∧ P7At y.now G limsL := by
  refine (rlimits_any w).mono ?_
  rintro _ w' ⟨rfl, hw'⟩
  have hB : Below w.heap.size w w' := by rw [hw']; repeat' (first | (with_reducible exact Below.refl _ _) | (with_reducible assumption) | (with_reducible refine Ext.below _ ?_ ?_) | (with_reducible refine Below.on ?_ (by with_reducible assumption) ?_) | (with_reducible refine Below.alloc ?_ ?_ _) | (with_reducible refine Below.drew ?_) | (with_reducible refine Below.setCell ?_ ?_ _) | (with_reducible exact Nat.le_refl _) | omega | (simp; done) | (simp [go_sem]; done) | (simp at *; omega))
  have hr : w'.heap[w.heap.size]? = some (.cells #[.int .i64 1, .int .i64 1000, .int .i64 1, .int .i64 9000, .int .i64 0, .int .i64 1099511627776, .int .i64 0, .int .i64 1000, .int .i64 500, .int .i64 2000, .int .i64 1, .int .i64 8000, .int .i64 1, .int .i64 1000] 149 (0, 0)) := by rw [hw']; exact heap_alloc_new _ _
  exact ⟨⟨w', hB⟩, _, rfl, rfl, p7_row hr⟩
end Go.Proofs.YtlmhbggigbmeaaaDoor

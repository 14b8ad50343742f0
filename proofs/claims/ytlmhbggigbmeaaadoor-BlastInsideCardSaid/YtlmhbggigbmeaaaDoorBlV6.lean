/- The worst cell of a stretch, for any arguments: contract of the program's Worst. Condition: air, grades and land in memory; the table of limits stands as it was laid. -/
import Derived.Test.YtlmhbggigbmeaaaDoorBlV5
namespace Go.Proofs.YtlmhbggigbmeaaaDoor
open Go.RowKit Go.Shelf
attribute [local go_sem] Option.isSome_some Ext.cell Ext.frozen Ext.lt Ext.le Ext.lt_add Ext.le_add Ext.ne Ext.ne' lt2 lt3 lt4 lt5 le2 le3 le4
/-- The first of the greatest among the first tolls. -/
def bestI (l : List V2) : Nat → Nat
  | 0 => 0
  | n + 1 => if (l.getD (bestI l n) ⟨0, 0⟩).y < (l.getD n ⟨0, 0⟩).y then n else bestI l n
theorem bestI_le (l : List V2) : ∀ n, bestI l n ≤ n
  | 0 => Nat.le_refl _
  | n + 1 => by
    have := bestI_le l n
    unfold bestI
    split <;> omega
theorem bestI_lt (l : List V2) (h : 0 < l.length) : ∀ n, n ≤ l.length → bestI l n < l.length
  | 0, _ => h
  | n + 1, hn => by
    have := bestI_lt l h n (by omega)
    unfold bestI
    split <;> omega
def worstV (l g : List V2) (x : LandR) (k : RockR) (f : FallR) (a b : Int) : Int := if tollE l g x k f a b = 0 then a + bestI (tollsV l g x k f a b) (tollsV l g x k f a b).length else 0
theorem tollsL_len (s : SceneR) (L : List V3) : ∀ (n : Nat) (a : Int), (s.tollsL L a n).length = n
  | 0, _ => rfl
  | n + 1, a => by rw [SceneR.tollsL, List.length_cons, tollsL_len s L n (a + 1)]
theorem tollE_in {l g : List V2} {x : LandR} {k : RockR} {f : FallR} {a b : Int} (h : tollE l g x k f a b = 0) : blowsE l k f = 0 ∧ sceneE g x = 0 ∧ 0 ≤ a ∧ a ≤ b ∧ b < x.pl.length := by
  unfold tollE at h
  by_cases h1 : blowsE l k f = 0
  · rw [if_neg (by simpa using h1)] at h
    by_cases h2 : sceneE g x = 0
    · rw [if_neg (by simpa using h2)] at h
      by_cases h3 : (0 ≤ a ∧ a < x.pl.length) ∧ (0 ≤ b ∧ b < x.pl.length)
      · rw [if_neg (fun q => q h3)] at h
        by_cases h4 : b < a
        · rw [if_pos h4] at h; cases h
        · exact ⟨h1, h2, by omega, by omega, by omega⟩
      · rw [if_pos h3] at h; cases h
    · rw [if_pos h2] at h; exact absurd h h2
  · rw [if_pos h1] at h; exact absurd h h1
set_option maxRecDepth 100000 in
set_option maxHeartbeats 8000000 in
theorem Worst_any (lp : Option Addr) (lc : Nat) (l : List V2) (gp : Option Addr) (gc : Nat) (g : List V2) (x : LandR) (k : RockR) (f : FallR) (a b : Int) (w : World) (hlim : LimAt w) (hl : VecsAt w lp l) (hg : VecsAt w gp g) (hx : x.At w) :
    Calls Tryd.prog 18 #[.slice lp l.length lc, .slice gp g.length gc, x.val, k.val, f.val, .int .i64 a, .int .i64 b] w (Gives (.tuple #[.int .i64 (worstV l g x k f a b), .int .i64 (tollE l g x k f a b)]) w) := by
  have ct := fun (W : World) (y : Below w.heap.size w W) => tolls_any lp lc l gp gc g x k f a b W (hlim.on y) (hl.on y) (hg.on y) (hx.on y)
  unfold worstV
  by_cases hE : tollE l g x k f a b = 0
  · rw [if_pos hE, hE]
    rw [hE] at ct
    obtain ⟨-, hS, h0, h1, h2⟩ := tollE_in hE
    have hle := (sceneE_ok hS).2.le
    have hlen : (tollsV l g x k f a b).length = (b - a).toNat + 1 := by
      unfold tollsV
      rw [if_pos hE]
      exact tollsL_len _ _ _ _
    have hl400 : (tollsV l g x k f a b).length ≤ 400 := by omega
    have hlpos : 0 < (tollsV l g x k f a b).length := by omega
    have ha4 : a ≤ 400 := by omega
    generalize tollsV l g x k f a b = V at *
    unfold LandR.val RockR.val FallR.val at *
    obtain ⟨T, hT⟩ : ∃ T : Int, a + (bestI V V.length : Int) = T := ⟨_, rfl⟩
    rw [hT]
    replace hT := Go.Lib.hid hT
    clear hl hg hx hE hS hlim hlen hle h1 h2
    go_enter Tryd.func18, Tryd.ntmps18
    go_upto_region 6 with (first | ((first | with_reducible refine wrx2 ?_ | with_reducible refine wrx ?_); (repeat (first | go_big_quiet_step ((first | fail)) | quiet_step ((first | fail)))); refine wpQuiet_nil ?_; rintro _ ⟨yr, rfl⟩; have syr := Ext.size yr; (repeat (first | rw [World.size_alloc] at syr | rw [World.size_setCell] at syr | rw [World.size_drew] at syr)); have : w.heap.size < yr.now.heap.size := (by omega); have : w.heap.size ≤ yr.now.heap.size := (by omega); have : w.heap.size < yr.now.heap.size + 1 + 1 := (by omega)) | (go_at_call 44; refine (ct _ bcl).mono ?_; rintro _ W6 ⟨tv, rfl, hb6, hrows⟩; obtain ⟨q, cb, rfl, hv, -⟩ := vecs_of hrows))
    have hB6 : Below w.heap.size w W6 := by
      refine Below.trans ?_ (hb6.mono (by simp only [World.size_alloc]; omega))
      repeat' (first | (with_reducible exact Below.refl _ _) | (with_reducible assumption) | (with_reducible refine Ext.below _ ?_ ?_) | (with_reducible refine Below.on ?_ (by with_reducible assumption) ?_) | (with_reducible refine Below.alloc ?_ ?_ _) | (with_reducible refine Below.drew ?_) | (with_reducible refine Below.setCell ?_ ?_ _) | (with_reducible exact Nat.le_refl _) | omega | (simp; done) | (simp [go_sem]; done) | (simp at *; omega))
    have sB6 := hB6.size
    clear hb6 hrows ct
    replace hv := Go.Lib.hid hv
    go_loopw [18, 37] (fun u t W => ∃ (i j : Nat) (X : Ext W6), u = .int .i64 j ∧ t = .int .i64 i ∧ W = X.now ∧ Hid (i ≤ V.length ∧ j = bestI V i)) (fun _ t _ => V.length - (intOf t).toNat)
    case atStart => exact ⟨0, 0, ⟨W6, Below.refl _ _⟩, rfl, rfl, rfl, Go.Lib.hid ⟨Nat.zero_le _, rfl⟩⟩
    case round =>
      obtain ⟨i, j, X, rfl, rfl, rfl, hi⟩ := hrel
      have xs := X.size
      obtain ⟨h1, h2⟩ := hi.out
      clear hi
      by_cases hlt : i < V.length
      · have hlt2 : (i : Int) < V.length := by omega
        have hjl : j < V.length := by rw [h2]; exact bestI_lt V hlpos i h1
        have hjl2 : (j : Int) < V.length := by omega
        obtain ⟨B, o, rfl, hB, d0, d1⟩ := hv.out i hlt
        obtain ⟨B', o', e', hB', d2, d3⟩ := hv.out j hjl
        injection e' with e'
        injection e' with e1 e2
        subst e1 e2
        have hBX : B < X.now.heap.size := by omega
        have : B < (X.now).heap.size := (by omega); have : B < (X.now).heap.size + 1 := (by omega); have : B < (X.now).heap.size + 1 + 1 := (by omega); have : B ≠ (X.now).heap.size := (by omega); have : B ≠ (X.now).heap.size + 1 := (by omega)
        have hnext : bestI V (i + 1) = if V[j].y < V[i].y then i else j := by
          rw [bestI, ← h2, getD_at j _ hjl, getD_at i _ hlt]
        by_cases hg : V[j].y < V[i].y
        · rw [if_pos hg] at hnext
          have key : Hid (i + 1 ≤ V.length ∧ i = bestI V (i + 1)) := Go.Lib.hid ⟨hlt, hnext.symm⟩
          clear hnext h2
          generalize V[i].x = t0 at *
          generalize V[i].y = t1 at *
          generalize V[j].y = t3 at *
          go_wp2_with (first | ((first | with_reducible refine wrx2 ?_ | with_reducible refine wrx ?_); (repeat (first | go_big_quiet_step ((first | fail)) | quiet_step ((first | fail)))); refine wpQuiet_nil ?_; rintro _ ⟨yr, rfl⟩; have syr := Ext.size yr; (repeat (first | rw [World.size_alloc] at syr | rw [World.size_setCell] at syr | rw [World.size_drew] at syr)); have : B < yr.now.heap.size := (by omega); have : B ≤ yr.now.heap.size := (by omega); have : B < yr.now.heap.size + 1 + 1 := (by omega)))
          exact ⟨⟨i + 1, i, ⟨_, by repeat' (first | (with_reducible exact Below.refl _ _) | (with_reducible assumption) | (with_reducible refine Ext.below _ ?_ ?_) | (with_reducible refine Below.on ?_ (by with_reducible assumption) ?_) | (with_reducible refine Below.alloc ?_ ?_ _) | (with_reducible refine Below.drew ?_) | (with_reducible refine Below.setCell ?_ ?_ _) | (with_reducible exact Nat.le_refl _) | omega | (simp; done) | (simp [go_sem]; done) | (simp at *; omega))⟩, by simp, by simp, rfl, key⟩, by simp [intOf]; omega⟩
        · rw [if_neg hg] at hnext
          have key : Hid (i + 1 ≤ V.length ∧ j = bestI V (i + 1)) := Go.Lib.hid ⟨hlt, hnext.symm⟩
          clear hnext h2
          generalize V[i].x = t0 at *
          generalize V[i].y = t1 at *
          generalize V[j].y = t3 at *
          go_wp2_with (first | ((first | with_reducible refine wrx2 ?_ | with_reducible refine wrx ?_); (repeat (first | go_big_quiet_step ((first | fail)) | quiet_step ((first | fail)))); refine wpQuiet_nil ?_; rintro _ ⟨yr, rfl⟩; have syr := Ext.size yr; (repeat (first | rw [World.size_alloc] at syr | rw [World.size_setCell] at syr | rw [World.size_drew] at syr)); have : B < yr.now.heap.size := (by omega); have : B ≤ yr.now.heap.size := (by omega); have : B < yr.now.heap.size + 1 + 1 := (by omega)))
          exact ⟨⟨i + 1, j, ⟨_, by repeat' (first | (with_reducible exact Below.refl _ _) | (with_reducible assumption) | (with_reducible refine Ext.below _ ?_ ?_) | (with_reducible refine Below.on ?_ (by with_reducible assumption) ?_) | (with_reducible refine Below.alloc ?_ ?_ _) | (with_reducible refine Below.drew ?_) | (with_reducible refine Below.setCell ?_ ?_ _) | (with_reducible exact Nat.le_refl _) | omega | (simp; done) | (simp [go_sem]; done) | (simp at *; omega))⟩, by simp, by simp, rfl, key⟩, by simp [intOf]; omega⟩
      · have hge : ¬ (i : Int) < V.length := by omega
        have hj : a + (j : Int) = T := by rw [← hT.out, h2, show i = V.length by omega]
        have hj4 : (j : Int) ≤ 400 := by have := bestI_le V i; omega
        subst hj
        clear h2
        go_wp2_with (first | ((first | with_reducible refine wrx2 ?_ | with_reducible refine wrx ?_); (repeat (first | go_big_quiet_step ((first | fail)) | quiet_step ((first | fail)))); refine wpQuiet_nil ?_; rintro _ ⟨yr, rfl⟩; have syr := Ext.size yr; (repeat (first | rw [World.size_alloc] at syr | rw [World.size_setCell] at syr | rw [World.size_drew] at syr))))
        go_returns
        refine ⟨rfl, ?_⟩
        exact hB6.trans (X.grew.mono sB6)
  · rw [if_neg hE]
    have hV : tollsV l g x k f a b = [] := by unfold tollsV; rw [if_neg hE]
    rw [hV] at ct
    unfold LandR.val RockR.val FallR.val at *
    generalize tollE l g x k f a b = E at *
    clear hl hg hx hV hlim
    go_enter Tryd.func18, Tryd.ntmps18
    go_wp2_with (first | ((first | with_reducible refine wrx2 ?_ | with_reducible refine wrx ?_); (repeat (first | go_big_quiet_step ((first | fail)) | quiet_step ((first | fail)))); refine wpQuiet_nil ?_; rintro _ ⟨yr, rfl⟩; have syr := Ext.size yr; (repeat (first | rw [World.size_alloc] at syr | rw [World.size_setCell] at syr | rw [World.size_drew] at syr)); have : w.heap.size < yr.now.heap.size := (by omega); have : w.heap.size ≤ yr.now.heap.size := (by omega); have : w.heap.size < yr.now.heap.size + 1 + 1 := (by omega)) | (go_at_call 44; refine (ct _ bcl).mono ?_; rintro _ W6 ⟨tv, rfl, hb6, hrows⟩; obtain ⟨q, cb, rfl, hv, -⟩ := vecs_of hrows))
    go_returns
    refine ⟨rfl, ?_⟩
    have hB6 : Below w.heap.size w W6 := by
      refine Below.trans ?_ (hb6.mono (by simp only [World.size_alloc]; omega))
      repeat' (first | (with_reducible exact Below.refl _ _) | (with_reducible assumption) | (with_reducible refine Ext.below _ ?_ ?_) | (with_reducible refine Below.on ?_ (by with_reducible assumption) ?_) | (with_reducible refine Below.alloc ?_ ?_ _) | (with_reducible refine Below.drew ?_) | (with_reducible refine Below.setCell ?_ ?_ _) | (with_reducible exact Nat.le_refl _) | omega | (simp; done) | (simp [go_sem]; done) | (simp at *; omega))
    repeat' (first | (with_reducible exact Below.refl _ _) | (with_reducible assumption) | (with_reducible refine Ext.below _ ?_ ?_) | (with_reducible refine Below.on ?_ (by with_reducible assumption) ?_) | (with_reducible refine Below.alloc ?_ ?_ _) | (with_reducible refine Below.drew ?_) | (with_reducible refine Below.setCell ?_ ?_ _) | (with_reducible exact Nat.le_refl _) | omega | (simp; done) | (simp [go_sem]; done) | (simp at *; omega))
end Go.Proofs.YtlmhbggigbmeaaaDoor

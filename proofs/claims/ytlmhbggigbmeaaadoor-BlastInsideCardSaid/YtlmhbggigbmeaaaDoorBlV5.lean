/- The tolls of a rock with a fall at each cell of a stretch, for any arguments: contract of the program's tolls. Condition: air, grades and land in memory; the table of limits stands as it was laid. -/
import Derived.Test.YtlmhbggigbmeaaaDoorBlV4
namespace Go.Proofs.YtlmhbggigbmeaaaDoor
open Go.RowKit Go.Shelf
attribute [local go_sem] Option.isSome_some Ext.cell Ext.frozen Ext.lt Ext.le Ext.lt_add Ext.le_add Ext.ne Ext.ne' lt2 lt3 lt4 lt5 le2 le3 le4
/-- The tolls that are asked of a stretch; none where something is wrong. -/
def tollsV (l g : List V2) (x : LandR) (k : RockR) (f : FallR) (a b : Int) : List V2 := if tollE l g x k f a b = 0 then SceneR.tollsL ⟨none, l.length, 0, none, 0, g, x⟩ (v3s (blowsA l k f)) a ((b - a).toNat + 1) else []
theorem lowsF_same {s t : SceneR} (h1 : s.n = t.n) (h2 : s.g = t.g) (h3 : s.x = t.x) (a : Int) : ∀ (r : List V3) (m : Int), s.lowsF a m r = t.lowsF a m r ∧ s.highsF a m r = t.highsF a m r
  | [], m => ⟨rfl, rfl⟩
  | b :: r, m => by
    have e1 : s.lo a b = t.lo a b := by unfold SceneR.lo; rw [h1, h2, h3]
    have e2 : s.hi a b = t.hi a b := by unfold SceneR.hi; rw [h1, h2, h3]
    refine ⟨?_, ?_⟩
    · rw [SceneR.lowsF, SceneR.lowsF, e1]; exact (lowsF_same h1 h2 h3 a r _).1
    · rw [SceneR.highsF, SceneR.highsF, e2]; exact (lowsF_same h1 h2 h3 a r _).2
theorem lows_same {s t : SceneR} (h1 : s.n = t.n) (h2 : s.g = t.g) (h3 : s.x = t.x) (a : Int) (L : List V3) : s.lows a L = t.lows a L ∧ s.highs a L = t.highs a L := by
  cases L with
  | nil => exact ⟨rfl, rfl⟩
  | cons b r =>
    have e1 : s.lo a b = t.lo a b := by unfold SceneR.lo; rw [h1, h2, h3]
    have e2 : s.hi a b = t.hi a b := by unfold SceneR.hi; rw [h1, h2, h3]
    rw [SceneR.lows, SceneR.lows, SceneR.highs, SceneR.highs, e1, e2]
    exact ⟨(lowsF_same h1 h2 h3 a r _).1, (lowsF_same h1 h2 h3 a r _).2⟩
theorem tollsL_same {s t : SceneR} (h1 : s.n = t.n) (h2 : s.g = t.g) (h3 : s.x = t.x) (L : List V3) : ∀ (k : Nat) (a : Int), s.tollsL L a k = t.tollsL L a k
  | 0, _ => rfl
  | k + 1, a => by
    rw [SceneR.tollsL, SceneR.tollsL, (lows_same h1 h2 h3 a L).1, (lows_same h1 h2 h3 a L).2, tollsL_same h1 h2 h3 L k (a + 1)]
def TollsAny (w : World) (V : List V2) (E : Int) : Ending → World → Prop := fun e w' => ∃ v, e = .returned (.tuple #[v, .int .i64 E]) ∧ Below w.heap.size w w' ∧ w'.ownsRow w.heap.size 29 2 v V.length (vrows V)
theorem tollsAny_nil {w w' : World} {e : Ending} {E : Int} (h : Gives (.tuple #[.slice none 0 0, .int .i64 E]) w e w') : TollsAny w [] E e w' := ⟨_, h.1, h.2, World.ownsRow_nil _ _ _ _⟩
set_option maxRecDepth 100000 in
set_option maxHeartbeats 8000000 in
theorem tolls_any (lp : Option Addr) (lc : Nat) (l : List V2) (gp : Option Addr) (gc : Nat) (g : List V2) (x : LandR) (k : RockR) (f : FallR) (a b : Int) (w : World) (hlim : LimAt w) (hl : VecsAt w lp l) (hg : VecsAt w gp g) (hx : x.At w) :
    Calls Tryd.prog 44 #[.slice lp l.length lc, .slice gp g.length gc, x.val, k.val, f.val, .int .i64 a, .int .i64 b] w (TollsAny w (tollsV l g x k f a b) (tollE l g x k f a b)) := by
  have cbl := fun (W : World) (y : Below w.heap.size w W) => Blows_any lp lc l k f W (hlim.on y) (hl.on y)
  have c2 := fun (W : World) (y : Below w.heap.size w W) => checkScene_any gp gc g x W (hg.on y) (hx.on y)
  have c3 := fun (W : World) => isCell_any x a W
  have c4 := fun (W : World) => isCell_any x b W
  by_cases hE : blowsE l k f = 0
  · by_cases hS : sceneE g x = 0
    · by_cases hc : (0 ≤ a ∧ a < x.pl.length) ∧ (0 ≤ b ∧ b < x.pl.length)
      · by_cases hab : b < a
        · have hT : tollE l g x k f a b = 11 := by unfold tollE; rw [if_neg (by simpa using hE), if_neg (by simpa using hS), if_neg (fun h => h hc), if_pos hab]
          have hV : tollsV l g x k f a b = [] := by unfold tollsV; rw [hT]; rfl
          rw [hT, hV]
          refine Calls.mono ?_ (fun e w' h => tollsAny_nil h)
          rw [hE] at cbl
          rw [hS] at c2
          rw [decide_eq_true hc.1] at c3
          rw [decide_eq_true hc.2] at c4
          unfold LandR.val RockR.val FallR.val at *
          clear hl hg hx hT hV hE hS hc hlim
          go_enter Tryd.func44, Tryd.ntmps44
          go_upto_region 4 with (first | ((first | with_reducible refine wrx2 ?_ | with_reducible refine wrx ?_); (repeat (first | go_big_quiet_step ((first | fail)) | quiet_step ((first | fail)))); refine wpQuiet_nil ?_; rintro _ ⟨yr, rfl⟩; have syr := Ext.size yr; (repeat (first | rw [World.size_alloc] at syr | rw [World.size_setCell] at syr | rw [World.size_drew] at syr)); have : w.heap.size < yr.now.heap.size := (by omega); have : w.heap.size ≤ yr.now.heap.size := (by omega); have : w.heap.size < yr.now.heap.size + 1 + 1 := (by omega)) | (go_at_call 26; refine (cbl _ bcl).mono ?_; rintro _ W6 ⟨bv, rfl, hb6, hrows⟩; obtain ⟨q, cb, rfl, hv3⟩ := v3_of hrows))
          have hB6 : Below w.heap.size w W6 := by
            refine Below.trans ?_ (hb6.mono (by simp only [World.size_alloc]; omega))
            repeat' (first | (with_reducible exact Below.refl _ _) | (with_reducible assumption) | (with_reducible refine Ext.below _ ?_ ?_) | (with_reducible refine Below.on ?_ (by with_reducible assumption) ?_) | (with_reducible refine Below.alloc ?_ ?_ _) | (with_reducible refine Below.drew ?_) | (with_reducible refine Below.setCell ?_ ?_ _) | (with_reducible exact Nat.le_refl _) | omega | (simp; done) | (simp [go_sem]; done) | (simp at *; omega))
          have s6 := hb6.size
          simp only [World.size_alloc] at s6
          have a0 : W6.cell? ⟨w.heap.size, 0, none⟩ = some (.slice x.pp x.pl.length x.pc) := (hb6.cell (p := ⟨w.heap.size, 0, none⟩) (by simp only [World.size_alloc]; omega)).trans (by simp [go_sem])
          have a1 : W6.cell? ⟨w.heap.size, 1, none⟩ = some (.slice x.wp x.wl.length x.wc) := (hb6.cell (p := ⟨w.heap.size, 1, none⟩) (by simp only [World.size_alloc]; omega)).trans (by simp [go_sem])
          have l6 : w.heap.size < W6.heap.size := by omega
          clear hb6 s6 hrows hv3 cbl
          go_wp2_with (first | ((first | with_reducible refine wrx2 ?_ | with_reducible refine wrx ?_); (repeat (first | go_big_quiet_step ((first | (go_at_call 62; with_reducible exact Calls.ext (c2 _ bcl)) | (go_at_call 59; with_reducible exact Calls.ext (c3 _)) | (go_at_call 59; with_reducible exact Calls.ext (c4 _)))) | quiet_step ((first | (go_at_call 62; with_reducible exact Calls.ext (c2 _ bcl)) | (go_at_call 59; with_reducible exact Calls.ext (c3 _)) | (go_at_call 59; with_reducible exact Calls.ext (c4 _)))))); refine wpQuiet_nil ?_; rintro _ ⟨yr, rfl⟩; have syr := Ext.size yr; (repeat (first | rw [World.size_alloc] at syr | rw [World.size_setCell] at syr | rw [World.size_drew] at syr)); have : w.heap.size < yr.now.heap.size := (by omega); have : w.heap.size ≤ yr.now.heap.size := (by omega); have : w.heap.size < yr.now.heap.size + 1 + 1 := (by omega)) | (go_at_call 62; (first | with_reducible refine (Calls.giv2 (c2 _ bcl)).mono ?_ | with_reducible refine (Calls.giv (c2 _ bcl)).mono ?_); rintro _ _ ⟨y1, rfl, rfl⟩; have sy1 := Ext.size y1; (repeat (first | rw [World.size_alloc] at sy1 | rw [World.size_setCell] at sy1 | rw [World.size_drew] at sy1)); have : w.heap.size < y1.now.heap.size := (by omega); have : w.heap.size ≤ y1.now.heap.size := (by omega); have : w.heap.size < y1.now.heap.size + 1 + 1 := (by omega)) | (go_at_call 59; (first | with_reducible refine (Calls.giv2 (c3 _)).mono ?_ | with_reducible refine (Calls.giv (c3 _)).mono ?_); rintro _ _ ⟨y2, rfl, rfl⟩; have sy2 := Ext.size y2; (repeat (first | rw [World.size_alloc] at sy2 | rw [World.size_setCell] at sy2 | rw [World.size_drew] at sy2)); have : w.heap.size < y2.now.heap.size := (by omega); have : w.heap.size ≤ y2.now.heap.size := (by omega); have : w.heap.size < y2.now.heap.size + 1 + 1 := (by omega)) | (go_at_call 59; (first | with_reducible refine (Calls.giv2 (c4 _)).mono ?_ | with_reducible refine (Calls.giv (c4 _)).mono ?_); rintro _ _ ⟨y3, rfl, rfl⟩; have sy3 := Ext.size y3; (repeat (first | rw [World.size_alloc] at sy3 | rw [World.size_setCell] at sy3 | rw [World.size_drew] at sy3)); have : w.heap.size < y3.now.heap.size := (by omega); have : w.heap.size ≤ y3.now.heap.size := (by omega); have : w.heap.size < y3.now.heap.size + 1 + 1 := (by omega)))
          go_returns
          refine ⟨rfl, ?_⟩
          repeat' (first | (with_reducible exact Below.refl _ _) | (with_reducible assumption) | (with_reducible refine Ext.below _ ?_ ?_) | (with_reducible refine Below.on ?_ (by with_reducible assumption) ?_) | (with_reducible refine Below.alloc ?_ ?_ _) | (with_reducible refine Below.drew ?_) | (with_reducible refine Below.setCell ?_ ?_ _) | (with_reducible exact Nat.le_refl _) | omega | (simp; done) | (simp [go_sem]; done) | (simp at *; omega))
        · obtain ⟨a, rfl⟩ := Int.eq_ofNat_of_zero_le hc.1.1
          obtain ⟨m, rfl⟩ : ∃ m : Nat, b = (a : Int) + m := ⟨(b - a).toNat, by omega⟩
          have hT : tollE l g x k f a ((a : Int) + m) = 0 := by unfold tollE; rw [if_neg (by simpa using hE), if_neg (by simpa using hS), if_neg (fun h => h hc), if_neg hab]
          have hV : tollsV l g x k f a ((a : Int) + m) = SceneR.tollsL ⟨lp, l.length, lc, gp, gc, g, x⟩ (v3s (blowsA l k f)) a (m + 1) := by
            unfold tollsV
            rw [if_pos hT, show ((a : Int) + m - a).toNat = m by omega]
            exact tollsL_same (s := ⟨none, l.length, 0, none, 0, g, x⟩) (t := ⟨lp, l.length, lc, gp, gc, g, x⟩) rfl rfl rfl _ _ _
          rw [hT, hV]
          refine (tolls_ok lp lc l gp gc g x k f a m w hlim hl hg hx hE hS (by omega)).mono ?_
          rintro e w' ⟨v, h1, h2, h3⟩
          exact ⟨v, h1, h2, h3⟩
      · have hT : tollE l g x k f a b = 7 := by unfold tollE; rw [if_neg (by simpa using hE), if_neg (by simpa using hS), if_pos hc]
        have hV : tollsV l g x k f a b = [] := by unfold tollsV; rw [hT]; rfl
        rw [hT, hV]
        refine Calls.mono ?_ (fun e w' h => tollsAny_nil h)
        rw [hE] at cbl
        rw [hS] at c2
        unfold LandR.val RockR.val FallR.val at *
        by_cases h1 : 0 ≤ a ∧ a < x.pl.length
        · have h2 : ¬ (0 ≤ b ∧ b < x.pl.length) := fun q => hc ⟨h1, q⟩
          rw [decide_eq_true h1] at c3
          rw [decide_eq_false h2] at c4
          clear hl hg hx hT hV hE hS hc hlim h1 h2
          go_enter Tryd.func44, Tryd.ntmps44
          go_upto_region 4 with (first | ((first | with_reducible refine wrx2 ?_ | with_reducible refine wrx ?_); (repeat (first | go_big_quiet_step ((first | fail)) | quiet_step ((first | fail)))); refine wpQuiet_nil ?_; rintro _ ⟨yr, rfl⟩; have syr := Ext.size yr; (repeat (first | rw [World.size_alloc] at syr | rw [World.size_setCell] at syr | rw [World.size_drew] at syr)); have : w.heap.size < yr.now.heap.size := (by omega); have : w.heap.size ≤ yr.now.heap.size := (by omega); have : w.heap.size < yr.now.heap.size + 1 + 1 := (by omega)) | (go_at_call 26; refine (cbl _ bcl).mono ?_; rintro _ W6 ⟨bv, rfl, hb6, hrows⟩; obtain ⟨q, cb, rfl, hv3⟩ := v3_of hrows))
          have hB6 : Below w.heap.size w W6 := by
            refine Below.trans ?_ (hb6.mono (by simp only [World.size_alloc]; omega))
            repeat' (first | (with_reducible exact Below.refl _ _) | (with_reducible assumption) | (with_reducible refine Ext.below _ ?_ ?_) | (with_reducible refine Below.on ?_ (by with_reducible assumption) ?_) | (with_reducible refine Below.alloc ?_ ?_ _) | (with_reducible refine Below.drew ?_) | (with_reducible refine Below.setCell ?_ ?_ _) | (with_reducible exact Nat.le_refl _) | omega | (simp; done) | (simp [go_sem]; done) | (simp at *; omega))
          have s6 := hb6.size
          simp only [World.size_alloc] at s6
          have a0 : W6.cell? ⟨w.heap.size, 0, none⟩ = some (.slice x.pp x.pl.length x.pc) := (hb6.cell (p := ⟨w.heap.size, 0, none⟩) (by simp only [World.size_alloc]; omega)).trans (by simp [go_sem])
          have a1 : W6.cell? ⟨w.heap.size, 1, none⟩ = some (.slice x.wp x.wl.length x.wc) := (hb6.cell (p := ⟨w.heap.size, 1, none⟩) (by simp only [World.size_alloc]; omega)).trans (by simp [go_sem])
          have l6 : w.heap.size < W6.heap.size := by omega
          clear hb6 s6 hrows hv3 cbl
          go_wp2_with (first | ((first | with_reducible refine wrx2 ?_ | with_reducible refine wrx ?_); (repeat (first | go_big_quiet_step ((first | (go_at_call 62; with_reducible exact Calls.ext (c2 _ bcl)) | (go_at_call 59; with_reducible exact Calls.ext (c3 _)) | (go_at_call 59; with_reducible exact Calls.ext (c4 _)))) | quiet_step ((first | (go_at_call 62; with_reducible exact Calls.ext (c2 _ bcl)) | (go_at_call 59; with_reducible exact Calls.ext (c3 _)) | (go_at_call 59; with_reducible exact Calls.ext (c4 _)))))); refine wpQuiet_nil ?_; rintro _ ⟨yr, rfl⟩; have syr := Ext.size yr; (repeat (first | rw [World.size_alloc] at syr | rw [World.size_setCell] at syr | rw [World.size_drew] at syr)); have : w.heap.size < yr.now.heap.size := (by omega); have : w.heap.size ≤ yr.now.heap.size := (by omega); have : w.heap.size < yr.now.heap.size + 1 + 1 := (by omega)) | (go_at_call 62; (first | with_reducible refine (Calls.giv2 (c2 _ bcl)).mono ?_ | with_reducible refine (Calls.giv (c2 _ bcl)).mono ?_); rintro _ _ ⟨y1, rfl, rfl⟩; have sy1 := Ext.size y1; (repeat (first | rw [World.size_alloc] at sy1 | rw [World.size_setCell] at sy1 | rw [World.size_drew] at sy1)); have : w.heap.size < y1.now.heap.size := (by omega); have : w.heap.size ≤ y1.now.heap.size := (by omega); have : w.heap.size < y1.now.heap.size + 1 + 1 := (by omega)) | (go_at_call 59; (first | with_reducible refine (Calls.giv2 (c3 _)).mono ?_ | with_reducible refine (Calls.giv (c3 _)).mono ?_); rintro _ _ ⟨y2, rfl, rfl⟩; have sy2 := Ext.size y2; (repeat (first | rw [World.size_alloc] at sy2 | rw [World.size_setCell] at sy2 | rw [World.size_drew] at sy2)); have : w.heap.size < y2.now.heap.size := (by omega); have : w.heap.size ≤ y2.now.heap.size := (by omega); have : w.heap.size < y2.now.heap.size + 1 + 1 := (by omega)) | (go_at_call 59; (first | with_reducible refine (Calls.giv2 (c4 _)).mono ?_ | with_reducible refine (Calls.giv (c4 _)).mono ?_); rintro _ _ ⟨y3, rfl, rfl⟩; have sy3 := Ext.size y3; (repeat (first | rw [World.size_alloc] at sy3 | rw [World.size_setCell] at sy3 | rw [World.size_drew] at sy3)); have : w.heap.size < y3.now.heap.size := (by omega); have : w.heap.size ≤ y3.now.heap.size := (by omega); have : w.heap.size < y3.now.heap.size + 1 + 1 := (by omega)))
          go_returns
          refine ⟨rfl, ?_⟩
          repeat' (first | (with_reducible exact Below.refl _ _) | (with_reducible assumption) | (with_reducible refine Ext.below _ ?_ ?_) | (with_reducible refine Below.on ?_ (by with_reducible assumption) ?_) | (with_reducible refine Below.alloc ?_ ?_ _) | (with_reducible refine Below.drew ?_) | (with_reducible refine Below.setCell ?_ ?_ _) | (with_reducible exact Nat.le_refl _) | omega | (simp; done) | (simp [go_sem]; done) | (simp at *; omega))
        · rw [decide_eq_false h1] at c3
          clear hl hg hx hT hV hE hS hc hlim h1 c4
          go_enter Tryd.func44, Tryd.ntmps44
          go_upto_region 4 with (first | ((first | with_reducible refine wrx2 ?_ | with_reducible refine wrx ?_); (repeat (first | go_big_quiet_step ((first | fail)) | quiet_step ((first | fail)))); refine wpQuiet_nil ?_; rintro _ ⟨yr, rfl⟩; have syr := Ext.size yr; (repeat (first | rw [World.size_alloc] at syr | rw [World.size_setCell] at syr | rw [World.size_drew] at syr)); have : w.heap.size < yr.now.heap.size := (by omega); have : w.heap.size ≤ yr.now.heap.size := (by omega); have : w.heap.size < yr.now.heap.size + 1 + 1 := (by omega)) | (go_at_call 26; refine (cbl _ bcl).mono ?_; rintro _ W6 ⟨bv, rfl, hb6, hrows⟩; obtain ⟨q, cb, rfl, hv3⟩ := v3_of hrows))
          have hB6 : Below w.heap.size w W6 := by
            refine Below.trans ?_ (hb6.mono (by simp only [World.size_alloc]; omega))
            repeat' (first | (with_reducible exact Below.refl _ _) | (with_reducible assumption) | (with_reducible refine Ext.below _ ?_ ?_) | (with_reducible refine Below.on ?_ (by with_reducible assumption) ?_) | (with_reducible refine Below.alloc ?_ ?_ _) | (with_reducible refine Below.drew ?_) | (with_reducible refine Below.setCell ?_ ?_ _) | (with_reducible exact Nat.le_refl _) | omega | (simp; done) | (simp [go_sem]; done) | (simp at *; omega))
          have s6 := hb6.size
          simp only [World.size_alloc] at s6
          have a0 : W6.cell? ⟨w.heap.size, 0, none⟩ = some (.slice x.pp x.pl.length x.pc) := (hb6.cell (p := ⟨w.heap.size, 0, none⟩) (by simp only [World.size_alloc]; omega)).trans (by simp [go_sem])
          have a1 : W6.cell? ⟨w.heap.size, 1, none⟩ = some (.slice x.wp x.wl.length x.wc) := (hb6.cell (p := ⟨w.heap.size, 1, none⟩) (by simp only [World.size_alloc]; omega)).trans (by simp [go_sem])
          have l6 : w.heap.size < W6.heap.size := by omega
          clear hb6 s6 hrows hv3 cbl
          go_wp2_with (first | ((first | with_reducible refine wrx2 ?_ | with_reducible refine wrx ?_); (repeat (first | go_big_quiet_step ((first | (go_at_call 62; with_reducible exact Calls.ext (c2 _ bcl)) | (go_at_call 59; with_reducible exact Calls.ext (c3 _)))) | quiet_step ((first | (go_at_call 62; with_reducible exact Calls.ext (c2 _ bcl)) | (go_at_call 59; with_reducible exact Calls.ext (c3 _)))))); refine wpQuiet_nil ?_; rintro _ ⟨yr, rfl⟩; have syr := Ext.size yr; (repeat (first | rw [World.size_alloc] at syr | rw [World.size_setCell] at syr | rw [World.size_drew] at syr)); have : w.heap.size < yr.now.heap.size := (by omega); have : w.heap.size ≤ yr.now.heap.size := (by omega); have : w.heap.size < yr.now.heap.size + 1 + 1 := (by omega)) | (go_at_call 62; (first | with_reducible refine (Calls.giv2 (c2 _ bcl)).mono ?_ | with_reducible refine (Calls.giv (c2 _ bcl)).mono ?_); rintro _ _ ⟨y1, rfl, rfl⟩; have sy1 := Ext.size y1; (repeat (first | rw [World.size_alloc] at sy1 | rw [World.size_setCell] at sy1 | rw [World.size_drew] at sy1)); have : w.heap.size < y1.now.heap.size := (by omega); have : w.heap.size ≤ y1.now.heap.size := (by omega); have : w.heap.size < y1.now.heap.size + 1 + 1 := (by omega)) | (go_at_call 59; (first | with_reducible refine (Calls.giv2 (c3 _)).mono ?_ | with_reducible refine (Calls.giv (c3 _)).mono ?_); rintro _ _ ⟨y2, rfl, rfl⟩; have sy2 := Ext.size y2; (repeat (first | rw [World.size_alloc] at sy2 | rw [World.size_setCell] at sy2 | rw [World.size_drew] at sy2)); have : w.heap.size < y2.now.heap.size := (by omega); have : w.heap.size ≤ y2.now.heap.size := (by omega); have : w.heap.size < y2.now.heap.size + 1 + 1 := (by omega)))
          go_returns
          refine ⟨rfl, ?_⟩
          repeat' (first | (with_reducible exact Below.refl _ _) | (with_reducible assumption) | (with_reducible refine Ext.below _ ?_ ?_) | (with_reducible refine Below.on ?_ (by with_reducible assumption) ?_) | (with_reducible refine Below.alloc ?_ ?_ _) | (with_reducible refine Below.drew ?_) | (with_reducible refine Below.setCell ?_ ?_ _) | (with_reducible exact Nat.le_refl _) | omega | (simp; done) | (simp [go_sem]; done) | (simp at *; omega))
    · have hT : tollE l g x k f a b = sceneE g x := by unfold tollE; rw [if_neg (by simpa using hE), if_pos hS]
      have hV : tollsV l g x k f a b = [] := by unfold tollsV; rw [hT, if_neg hS]
      rw [hT, hV]
      refine Calls.mono ?_ (fun e w' h => tollsAny_nil h)
      rw [hE] at cbl
      unfold LandR.val RockR.val FallR.val at *
      generalize sceneE g x = E at *
      clear hl hg hx hT hV hE hlim c3 c4
      go_enter Tryd.func44, Tryd.ntmps44
      go_upto_region 4 with (first | ((first | with_reducible refine wrx2 ?_ | with_reducible refine wrx ?_); (repeat (first | go_big_quiet_step ((first | fail)) | quiet_step ((first | fail)))); refine wpQuiet_nil ?_; rintro _ ⟨yr, rfl⟩; have syr := Ext.size yr; (repeat (first | rw [World.size_alloc] at syr | rw [World.size_setCell] at syr | rw [World.size_drew] at syr)); have : w.heap.size < yr.now.heap.size := (by omega); have : w.heap.size ≤ yr.now.heap.size := (by omega); have : w.heap.size < yr.now.heap.size + 1 + 1 := (by omega)) | (go_at_call 26; refine (cbl _ bcl).mono ?_; rintro _ W6 ⟨bv, rfl, hb6, hrows⟩; obtain ⟨q, cb, rfl, hv3⟩ := v3_of hrows))
      have hB6 : Below w.heap.size w W6 := by
        refine Below.trans ?_ (hb6.mono (by simp only [World.size_alloc]; omega))
        repeat' (first | (with_reducible exact Below.refl _ _) | (with_reducible assumption) | (with_reducible refine Ext.below _ ?_ ?_) | (with_reducible refine Below.on ?_ (by with_reducible assumption) ?_) | (with_reducible refine Below.alloc ?_ ?_ _) | (with_reducible refine Below.drew ?_) | (with_reducible refine Below.setCell ?_ ?_ _) | (with_reducible exact Nat.le_refl _) | omega | (simp; done) | (simp [go_sem]; done) | (simp at *; omega))
      have s6 := hb6.size
      simp only [World.size_alloc] at s6
      have a0 : W6.cell? ⟨w.heap.size, 0, none⟩ = some (.slice x.pp x.pl.length x.pc) := (hb6.cell (p := ⟨w.heap.size, 0, none⟩) (by simp only [World.size_alloc]; omega)).trans (by simp [go_sem])
      have a1 : W6.cell? ⟨w.heap.size, 1, none⟩ = some (.slice x.wp x.wl.length x.wc) := (hb6.cell (p := ⟨w.heap.size, 1, none⟩) (by simp only [World.size_alloc]; omega)).trans (by simp [go_sem])
      have l6 : w.heap.size < W6.heap.size := by omega
      clear hb6 s6 hrows hv3 cbl
      go_wp2_with (first | ((first | with_reducible refine wrx2 ?_ | with_reducible refine wrx ?_); (repeat (first | go_big_quiet_step ((first | (go_at_call 62; with_reducible exact Calls.ext (c2 _ bcl)))) | quiet_step ((first | (go_at_call 62; with_reducible exact Calls.ext (c2 _ bcl)))))); refine wpQuiet_nil ?_; rintro _ ⟨yr, rfl⟩; have syr := Ext.size yr; (repeat (first | rw [World.size_alloc] at syr | rw [World.size_setCell] at syr | rw [World.size_drew] at syr)); have : w.heap.size < yr.now.heap.size := (by omega); have : w.heap.size ≤ yr.now.heap.size := (by omega); have : w.heap.size < yr.now.heap.size + 1 + 1 := (by omega)) | (go_at_call 62; (first | with_reducible refine (Calls.giv2 (c2 _ bcl)).mono ?_ | with_reducible refine (Calls.giv (c2 _ bcl)).mono ?_); rintro _ _ ⟨y1, rfl, rfl⟩; have sy1 := Ext.size y1; (repeat (first | rw [World.size_alloc] at sy1 | rw [World.size_setCell] at sy1 | rw [World.size_drew] at sy1)); have : w.heap.size < y1.now.heap.size := (by omega); have : w.heap.size ≤ y1.now.heap.size := (by omega); have : w.heap.size < y1.now.heap.size + 1 + 1 := (by omega)))
      go_returns
      refine ⟨rfl, ?_⟩
      repeat' (first | (with_reducible exact Below.refl _ _) | (with_reducible assumption) | (with_reducible refine Ext.below _ ?_ ?_) | (with_reducible refine Below.on ?_ (by with_reducible assumption) ?_) | (with_reducible refine Below.alloc ?_ ?_ _) | (with_reducible refine Below.drew ?_) | (with_reducible refine Below.setCell ?_ ?_ _) | (with_reducible exact Nat.le_refl _) | omega | (simp; done) | (simp [go_sem]; done) | (simp at *; omega))
  · have hT : tollE l g x k f a b = blowsE l k f := by unfold tollE; rw [if_pos hE]
    have hV : tollsV l g x k f a b = [] := by unfold tollsV; rw [hT, if_neg hE]
    rw [hT, hV]
    refine Calls.mono ?_ (fun e w' h => tollsAny_nil h)
    unfold LandR.val RockR.val FallR.val at *
    generalize blowsE l k f = E at *
    clear hl hg hx hT hV hlim c2 c3 c4
    go_enter Tryd.func44, Tryd.ntmps44
    go_wp2_with (first | ((first | with_reducible refine wrx2 ?_ | with_reducible refine wrx ?_); (repeat (first | go_big_quiet_step ((first | fail)) | quiet_step ((first | fail)))); refine wpQuiet_nil ?_; rintro _ ⟨yr, rfl⟩; have syr := Ext.size yr; (repeat (first | rw [World.size_alloc] at syr | rw [World.size_setCell] at syr | rw [World.size_drew] at syr)); have : w.heap.size < yr.now.heap.size := (by omega); have : w.heap.size ≤ yr.now.heap.size := (by omega); have : w.heap.size < yr.now.heap.size + 1 + 1 := (by omega)) | (go_at_call 26; refine (cbl _ bcl).mono ?_; rintro _ W6 ⟨bv, rfl, hb6, hrows⟩; obtain ⟨q, cb, rfl, hv3⟩ := v3_of hrows))
    go_returns
    refine ⟨rfl, ?_⟩
    have hB6 : Below w.heap.size w W6 := by
      refine Below.trans ?_ (hb6.mono (by simp only [World.size_alloc]; omega))
      repeat' (first | (with_reducible exact Below.refl _ _) | (with_reducible assumption) | (with_reducible refine Ext.below _ ?_ ?_) | (with_reducible refine Below.on ?_ (by with_reducible assumption) ?_) | (with_reducible refine Below.alloc ?_ ?_ _) | (with_reducible refine Below.drew ?_) | (with_reducible refine Below.setCell ?_ ?_ _) | (with_reducible exact Nat.le_refl _) | omega | (simp; done) | (simp [go_sem]; done) | (simp at *; omega))
    repeat' (first | (with_reducible exact Below.refl _ _) | (with_reducible assumption) | (with_reducible refine Ext.below _ ?_ ?_) | (with_reducible refine Below.on ?_ (by with_reducible assumption) ?_) | (with_reducible refine Below.alloc ?_ ?_ _) | (with_reducible refine Below.drew ?_) | (with_reducible refine Below.setCell ?_ ?_ _) | (with_reducible exact Nat.le_refl _) | omega | (simp; done) | (simp [go_sem]; done) | (simp at *; omega))
end Go.Proofs.YtlmhbggigbmeaaaDoor

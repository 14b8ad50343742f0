/- The program's Harm, Wave and Crater for any arguments; sums over cells as the reference adds them. Condition: the land stands in memory. -/
import Derived.Test.YtlmhbggigbmeaaaDoorBlWG
import Derived.Test.YtlmhbggigbmeaaaDoorRootG
namespace Go.Proofs.YtlmhbggigbmeaaaDoor
open Go.RowKit Go.Shelf
attribute [local go_sem] Option.isSome_some Ext.cell Ext.frozen Ext.lt Ext.le Ext.lt_add Ext.le_add Ext.ne Ext.ne' lt2 lt3 lt4 lt5 le2 le3 le4
theorem landE_ok {x : LandR} (h : landE x = 0) : x.Ok := by
  unfold landE at h
  split at h
  · cases h
  · split at h
    · cases h
    · split at h
      · cases h
      · rename_i h1 h2 h3
        exact ⟨by omega, by omega, Decidable.not_not.1 h3, pplE_ok.1 h⟩
/-- Whether a land is valid, and has a cell. -/
def rightB (x : LandR) (a : Int) : Bool := decide (landE x = 0 ∧ 0 ≤ a ∧ a < x.pl.length)
def harmA (x : LandR) (a r : Int) : Int := if rightB x a = true ∧ 0 ≤ r then harmV x a r else 0
def waveA (x : LandR) (a r : Int) : Int := if rightB x a = true ∧ 0 ≤ r then waveI x a r else 0
def craterV (e : Int) : Int := if e < 0 then 0 else rootI (rootI e)
/-- The people of the cells from a to b, cell by cell. -/
def hsum (a b : Int) : List Int → Int → Int
  | [], _ => 0
  | n :: l, i => (if a ≤ i ∧ i ≤ b then n else 0) + hsum a b l (i + 1)
theorem psum_cons (n : Int) (l : List Int) (k : Int) : psum (n :: l) k = if k ≤ 0 then 0 else n + psum l (k - 1) := by
  split
  · rw [psum_zero (by assumption)]
  · unfold psum
    rw [show k.toNat = (k - 1).toNat + 1 by omega, List.take_succ_cons, List.sum_cons]
theorem hsum_eq {a b : Int} (h : a ≤ b + 1) : ∀ (l : List Int) (i : Int), hsum a b l i = psum l (b + 1 - i) - psum l (a - i)
  | [], i => by simp [hsum, psum]
  | n :: l, i => by
    rw [hsum, hsum_eq h l (i + 1), psum_cons, psum_cons, show b + 1 - i - 1 = b + 1 - (i + 1) by omega, show a - i - 1 = a - (i + 1) by omega]
    by_cases h1 : i < a
    · rw [if_neg (by omega), if_neg (by omega), if_neg (by omega)]; omega
    · by_cases h2 : i ≤ b
      · rw [if_pos (by omega), if_neg (by omega), if_pos (by omega), psum_zero (show a - (i + 1) ≤ 0 by omega)]; omega
      · rw [if_neg (by omega), if_pos (by omega), if_pos (by omega), psum_zero (show b + 1 - (i + 1) ≤ 0 by omega), psum_zero (show a - (i + 1) ≤ 0 by omega)]; omega
theorem hsum_harm (x : LandR) {a r : Int} (hr : 0 ≤ r) : hsum (a - min r 400) (a + min r 400) x.pl 0 = harmV x a r := by
  rw [hsum_eq (by omega)]
  unfold harmV seg
  have e1 : psum x.pl (max (a - min r 400) 0) = psum x.pl (a - min r 400 - 0) := by
    by_cases q : a - min r 400 ≤ 0
    · rw [psum_zero (by omega), psum_zero (by omega)]
    · rw [show max (a - min r 400) 0 = a - min r 400 - 0 by omega]
  have e2 : psum x.pl (min (a + min r 400) (x.pl.length - 1) + 1) = psum x.pl (a + min r 400 + 1 - 0) := by
    by_cases q : (x.pl.length : Int) ≤ a + min r 400 + 1
    · rw [psum_all (k := min (a + min r 400) (x.pl.length - 1) + 1) (by omega), psum_all (by omega)]
    · rw [show min (a + min r 400) ((x.pl.length : Int) - 1) + 1 = a + min r 400 + 1 - 0 by omega]
  rw [e1, e2]
/-- The people of the cells that a wave comes to on one side. -/
def rsum (x : LandR) (dr : Int) : Nat → Int → Int
  | 0, _ => 0
  | k + 1, a => if x.wl.getD a.toNat false = true ∧ 0 ≤ a + dr ∧ a + dr < x.pl.length then x.pl.getD (a + dr).toNat 0 + rsum x dr k (a + dr) else 0
theorem getD_at {α : Type} {l : List α} (n : Nat) (d : α) (h : n < l.length) : l.getD n d = l[n] := by simp [List.getD, h]
theorem rsum_left {x : LandR} (hok : x.Ok) : ∀ (k : Nat) (a : Int), 0 ≤ a → a < x.pl.length → rsum x (-1) k a = psum x.pl a - psum x.pl (runI x.wl (-1) k a)
  | 0, a, _, _ => by simp [rsum, runI]
  | k + 1, a, h0, h1 => by
    unfold rsum runI
    rw [hok.len]
    split
    · rename_i h
      have ih := rsum_left hok k (a + -1) (by omega) (by omega)
      have hs := psum_succ (l := x.pl) (k := a + -1) (by omega) (by omega)
      rw [ih, show a + -1 + 1 = a by omega] at *
      rw [hs, getD_at _ _ (by omega)]
      omega
    · omega
theorem rsum_right {x : LandR} (hok : x.Ok) : ∀ (k : Nat) (a : Int), 0 ≤ a → a < x.pl.length → rsum x 1 k a = psum x.pl (runI x.wl 1 k a + 1) - psum x.pl (a + 1)
  | 0, a, _, _ => by simp [rsum, runI]
  | k + 1, a, h0, h1 => by
    unfold rsum runI
    rw [hok.len]
    split
    · rename_i h
      have ih := rsum_right hok k (a + 1) (by omega) (by omega)
      have hs := psum_succ (l := x.pl) (k := a + 1) (by omega) (by omega)
      rw [ih, hs, getD_at _ _ (by omega)]
      omega
    · omega
theorem run_left_end (wt : List Bool) (m : Nat) : ∀ (k : Nat) (a : Int), 0 ≤ a → a ≤ k → runI wt (-1) (k + m) a = runI wt (-1) k a
  | 0, a, h, h1 => by
    have := run_left wt (0 + m) a h
    simp only [runI]
    omega
  | k + 1, a, h, h1 => by
    rw [show k + 1 + m = (k + m) + 1 by omega]
    unfold runI
    split
    · exact run_left_end wt m k _ (by omega) (by omega)
    · rfl
theorem run_right_end (wt : List Bool) (m : Nat) : ∀ (k : Nat) (a : Int), a < wt.length → wt.length ≤ a + 1 + k → runI wt 1 (k + m) a = runI wt 1 k a
  | 0, a, h, h1 => by
    have := run_right wt (0 + m) a h
    simp only [runI]
    omega
  | k + 1, a, h, h1 => by
    rw [show k + 1 + m = (k + m) + 1 by omega]
    unfold runI
    split
    · exact run_right_end wt m k _ (by omega) (by omega)
    · rfl
theorem wave_sum {x : LandR} (hok : x.Ok) {a r : Int} (h0 : 0 ≤ a) (h1 : a < x.pl.length) (hr : 0 ≤ r) : x.pl.getD a.toNat 0 + rsum x (-1) (min r 400).toNat a + rsum x 1 (min r 400).toNat a = waveV x a r := by
  rw [rsum_left hok _ _ h0 h1, rsum_right hok _ _ h0 h1]
  have hs := psum_succ (l := x.pl) h0 h1
  have hl := hok.le
  have hw := hok.len
  have e : ∃ m : Nat, r.toNat = (min r 400).toNat + m := ⟨r.toNat - (min r 400).toNat, by omega⟩
  obtain ⟨m, em⟩ := e
  have hlr : runI x.wl (-1) r.toNat a = runI x.wl (-1) (min r 400).toNat a ∧ runI x.wl 1 r.toNat a = runI x.wl 1 (min r 400).toNat a := by
    by_cases q : r ≤ 400
    · rw [show min r 400 = r by omega]; exact ⟨rfl, rfl⟩
    · rw [em]
      exact ⟨run_left_end _ _ _ _ h0 (by omega), run_right_end _ _ _ _ (by omega) (by omega)⟩
  unfold waveV seg
  rw [hlr.1, hlr.2, hs, getD_at _ _ (by omega)]
  omega
set_option maxHeartbeats 4000000 in
theorem Harm_any (x : LandR) (a r : Int) (w : World) (hx : x.At w) (hr2 : I64 r) : Calls Tryd.prog 32 #[x.val, .int .i64 a, .int .i64 r] w (Gives (.int .i64 (harmA x a r)) w) := by
  unfold harmA
  by_cases hc : rightB x a = true ∧ 0 ≤ r
  · rw [if_pos hc]
    obtain ⟨h1, h2⟩ := hc
    unfold rightB at h1
    rw [decide_eq_true_eq] at h1
    exact Harm_ok x a r w hx (landE_ok h1.1) h1.2.1 h1.2.2 h2 hr2
  · rw [if_neg hc]
    have cc := fun (W : World) (y : Below w.heap.size w W) => CheckLand_any x W (hx.on y).nums
    have ci := fun (W : World) => isCell_any x a W
    unfold rightB at hc
    rw [decide_eq_true_eq] at hc
    unfold LandR.val at *
    by_cases hE : landE x = 0
    · rw [hE] at cc
      by_cases hi : 0 ≤ a ∧ a < x.pl.length
      · rw [decide_eq_true hi] at ci
        have hr : r < 0 := by
          have : ¬ 0 ≤ r := fun q => hc ⟨⟨hE, hi⟩, q⟩
          omega
        clear hc hE hx hi hr2
        generalize x.pl.length = n at *
        go_enter Tryd.func32, Tryd.ntmps32
        go_wp2_with (first | ((first | with_reducible refine wrx2 ?_ | with_reducible refine wrx ?_); (repeat (first | go_big_quiet_step ((first | (go_at_call 58; with_reducible exact Calls.ext (cc _ bcl)) | (go_at_call 59; with_reducible exact Calls.ext (ci _)))) | quiet_step ((first | (go_at_call 58; with_reducible exact Calls.ext (cc _ bcl)) | (go_at_call 59; with_reducible exact Calls.ext (ci _)))))); refine wpQuiet_nil ?_; rintro _ ⟨yr, rfl⟩; have syr := Ext.size yr; (repeat (first | rw [World.size_alloc] at syr | rw [World.size_setCell] at syr | rw [World.size_drew] at syr))) | (go_at_call 58; (first | with_reducible refine (Calls.giv2 (cc _ bcl)).mono ?_ | with_reducible refine (Calls.giv (cc _ bcl)).mono ?_); rintro _ _ ⟨y1, rfl, rfl⟩; have sy1 := Ext.size y1; (repeat (first | rw [World.size_alloc] at sy1 | rw [World.size_setCell] at sy1 | rw [World.size_drew] at sy1))) | (go_at_call 59; (first | with_reducible refine (Calls.giv2 (ci _)).mono ?_ | with_reducible refine (Calls.giv (ci _)).mono ?_); rintro _ _ ⟨y2, rfl, rfl⟩; have sy2 := Ext.size y2; (repeat (first | rw [World.size_alloc] at sy2 | rw [World.size_setCell] at sy2 | rw [World.size_drew] at sy2))))
        go_returns
        refine ⟨rfl, ?_⟩
        repeat' (first | (with_reducible exact Below.refl _ _) | (with_reducible assumption) | (with_reducible refine Ext.below _ ?_ ?_) | (with_reducible refine Below.on ?_ (by with_reducible assumption) ?_) | (with_reducible refine Below.alloc ?_ ?_ _) | (with_reducible refine Below.drew ?_) | (with_reducible refine Below.setCell ?_ ?_ _) | (with_reducible exact Nat.le_refl _) | omega | (simp; done) | (simp [go_sem]; done) | (simp at *; omega))
      · rw [decide_eq_false hi] at ci
        clear hc hE hx hi hr2
        generalize x.pl.length = n at *
        go_enter Tryd.func32, Tryd.ntmps32
        go_wp2_with (first | ((first | with_reducible refine wrx2 ?_ | with_reducible refine wrx ?_); (repeat (first | go_big_quiet_step ((first | (go_at_call 58; with_reducible exact Calls.ext (cc _ bcl)) | (go_at_call 59; with_reducible exact Calls.ext (ci _)))) | quiet_step ((first | (go_at_call 58; with_reducible exact Calls.ext (cc _ bcl)) | (go_at_call 59; with_reducible exact Calls.ext (ci _)))))); refine wpQuiet_nil ?_; rintro _ ⟨yr, rfl⟩; have syr := Ext.size yr; (repeat (first | rw [World.size_alloc] at syr | rw [World.size_setCell] at syr | rw [World.size_drew] at syr))) | (go_at_call 58; (first | with_reducible refine (Calls.giv2 (cc _ bcl)).mono ?_ | with_reducible refine (Calls.giv (cc _ bcl)).mono ?_); rintro _ _ ⟨y1, rfl, rfl⟩; have sy1 := Ext.size y1; (repeat (first | rw [World.size_alloc] at sy1 | rw [World.size_setCell] at sy1 | rw [World.size_drew] at sy1))) | (go_at_call 59; (first | with_reducible refine (Calls.giv2 (ci _)).mono ?_ | with_reducible refine (Calls.giv (ci _)).mono ?_); rintro _ _ ⟨y2, rfl, rfl⟩; have sy2 := Ext.size y2; (repeat (first | rw [World.size_alloc] at sy2 | rw [World.size_setCell] at sy2 | rw [World.size_drew] at sy2))))
        go_returns
        refine ⟨rfl, ?_⟩
        repeat' (first | (with_reducible exact Below.refl _ _) | (with_reducible assumption) | (with_reducible refine Ext.below _ ?_ ?_) | (with_reducible refine Below.on ?_ (by with_reducible assumption) ?_) | (with_reducible refine Below.alloc ?_ ?_ _) | (with_reducible refine Below.drew ?_) | (with_reducible refine Below.setCell ?_ ?_ _) | (with_reducible exact Nat.le_refl _) | omega | (simp; done) | (simp [go_sem]; done) | (simp at *; omega))
    · generalize landE x = E at *
      clear hc hx hr2 ci
      generalize x.pl.length = n at *
      go_enter Tryd.func32, Tryd.ntmps32
      go_wp2_with (first | ((first | with_reducible refine wrx2 ?_ | with_reducible refine wrx ?_); (repeat (first | go_big_quiet_step ((first | (go_at_call 58; with_reducible exact Calls.ext (cc _ bcl)))) | quiet_step ((first | (go_at_call 58; with_reducible exact Calls.ext (cc _ bcl)))))); refine wpQuiet_nil ?_; rintro _ ⟨yr, rfl⟩; have syr := Ext.size yr; (repeat (first | rw [World.size_alloc] at syr | rw [World.size_setCell] at syr | rw [World.size_drew] at syr))) | (go_at_call 58; (first | with_reducible refine (Calls.giv2 (cc _ bcl)).mono ?_ | with_reducible refine (Calls.giv (cc _ bcl)).mono ?_); rintro _ _ ⟨y1, rfl, rfl⟩; have sy1 := Ext.size y1; (repeat (first | rw [World.size_alloc] at sy1 | rw [World.size_setCell] at sy1 | rw [World.size_drew] at sy1))))
      go_returns
      refine ⟨rfl, ?_⟩
      repeat' (first | (with_reducible exact Below.refl _ _) | (with_reducible assumption) | (with_reducible refine Ext.below _ ?_ ?_) | (with_reducible refine Below.on ?_ (by with_reducible assumption) ?_) | (with_reducible refine Below.alloc ?_ ?_ _) | (with_reducible refine Below.drew ?_) | (with_reducible refine Below.setCell ?_ ?_ _) | (with_reducible exact Nat.le_refl _) | omega | (simp; done) | (simp [go_sem]; done) | (simp at *; omega))
set_option maxHeartbeats 4000000 in
theorem Wave_any (x : LandR) (a r : Int) (w : World) (hx : x.At w) (hr2 : I64 r) : Calls Tryd.prog 34 #[x.val, .int .i64 a, .int .i64 r] w (Gives (.int .i64 (waveA x a r)) w) := by
  unfold waveA
  by_cases hc : rightB x a = true ∧ 0 ≤ r
  · rw [if_pos hc]
    obtain ⟨h1, h2⟩ := hc
    unfold rightB at h1
    rw [decide_eq_true_eq] at h1
    exact Wave_ok x a r w hx (landE_ok h1.1) h1.2.1 h1.2.2 h2 hr2
  · rw [if_neg hc]
    have cc := fun (W : World) (y : Below w.heap.size w W) => CheckLand_any x W (hx.on y).nums
    have ci := fun (W : World) => isCell_any x a W
    unfold rightB at hc
    rw [decide_eq_true_eq] at hc
    unfold LandR.val at *
    by_cases hE : landE x = 0
    · rw [hE] at cc
      by_cases hi : 0 ≤ a ∧ a < x.pl.length
      · rw [decide_eq_true hi] at ci
        have hr : r < 0 := by
          have : ¬ 0 ≤ r := fun q => hc ⟨⟨hE, hi⟩, q⟩
          omega
        clear hc hE hx hi hr2
        generalize x.pl.length = n at *
        generalize x.wl.length = m at *
        go_enter Tryd.func34, Tryd.ntmps34
        go_wp2_with (first | ((first | with_reducible refine wrx2 ?_ | with_reducible refine wrx ?_); (repeat (first | go_big_quiet_step ((first | (go_at_call 58; with_reducible exact Calls.ext (cc _ bcl)) | (go_at_call 59; with_reducible exact Calls.ext (ci _)))) | quiet_step ((first | (go_at_call 58; with_reducible exact Calls.ext (cc _ bcl)) | (go_at_call 59; with_reducible exact Calls.ext (ci _)))))); refine wpQuiet_nil ?_; rintro _ ⟨yr, rfl⟩; have syr := Ext.size yr; (repeat (first | rw [World.size_alloc] at syr | rw [World.size_setCell] at syr | rw [World.size_drew] at syr))) | (go_at_call 58; (first | with_reducible refine (Calls.giv2 (cc _ bcl)).mono ?_ | with_reducible refine (Calls.giv (cc _ bcl)).mono ?_); rintro _ _ ⟨y1, rfl, rfl⟩; have sy1 := Ext.size y1; (repeat (first | rw [World.size_alloc] at sy1 | rw [World.size_setCell] at sy1 | rw [World.size_drew] at sy1))) | (go_at_call 59; (first | with_reducible refine (Calls.giv2 (ci _)).mono ?_ | with_reducible refine (Calls.giv (ci _)).mono ?_); rintro _ _ ⟨y2, rfl, rfl⟩; have sy2 := Ext.size y2; (repeat (first | rw [World.size_alloc] at sy2 | rw [World.size_setCell] at sy2 | rw [World.size_drew] at sy2))))
        go_returns
        refine ⟨rfl, ?_⟩
        repeat' (first | (with_reducible exact Below.refl _ _) | (with_reducible assumption) | (with_reducible refine Ext.below _ ?_ ?_) | (with_reducible refine Below.on ?_ (by with_reducible assumption) ?_) | (with_reducible refine Below.alloc ?_ ?_ _) | (with_reducible refine Below.drew ?_) | (with_reducible refine Below.setCell ?_ ?_ _) | (with_reducible exact Nat.le_refl _) | omega | (simp; done) | (simp [go_sem]; done) | (simp at *; omega))
      · rw [decide_eq_false hi] at ci
        clear hc hE hx hi hr2
        generalize x.pl.length = n at *
        generalize x.wl.length = m at *
        go_enter Tryd.func34, Tryd.ntmps34
        go_wp2_with (first | ((first | with_reducible refine wrx2 ?_ | with_reducible refine wrx ?_); (repeat (first | go_big_quiet_step ((first | (go_at_call 58; with_reducible exact Calls.ext (cc _ bcl)) | (go_at_call 59; with_reducible exact Calls.ext (ci _)))) | quiet_step ((first | (go_at_call 58; with_reducible exact Calls.ext (cc _ bcl)) | (go_at_call 59; with_reducible exact Calls.ext (ci _)))))); refine wpQuiet_nil ?_; rintro _ ⟨yr, rfl⟩; have syr := Ext.size yr; (repeat (first | rw [World.size_alloc] at syr | rw [World.size_setCell] at syr | rw [World.size_drew] at syr))) | (go_at_call 58; (first | with_reducible refine (Calls.giv2 (cc _ bcl)).mono ?_ | with_reducible refine (Calls.giv (cc _ bcl)).mono ?_); rintro _ _ ⟨y1, rfl, rfl⟩; have sy1 := Ext.size y1; (repeat (first | rw [World.size_alloc] at sy1 | rw [World.size_setCell] at sy1 | rw [World.size_drew] at sy1))) | (go_at_call 59; (first | with_reducible refine (Calls.giv2 (ci _)).mono ?_ | with_reducible refine (Calls.giv (ci _)).mono ?_); rintro _ _ ⟨y2, rfl, rfl⟩; have sy2 := Ext.size y2; (repeat (first | rw [World.size_alloc] at sy2 | rw [World.size_setCell] at sy2 | rw [World.size_drew] at sy2))))
        go_returns
        refine ⟨rfl, ?_⟩
        repeat' (first | (with_reducible exact Below.refl _ _) | (with_reducible assumption) | (with_reducible refine Ext.below _ ?_ ?_) | (with_reducible refine Below.on ?_ (by with_reducible assumption) ?_) | (with_reducible refine Below.alloc ?_ ?_ _) | (with_reducible refine Below.drew ?_) | (with_reducible refine Below.setCell ?_ ?_ _) | (with_reducible exact Nat.le_refl _) | omega | (simp; done) | (simp [go_sem]; done) | (simp at *; omega))
    · generalize landE x = E at *
      clear hc hx hr2 ci
      generalize x.pl.length = n at *
      generalize x.wl.length = m at *
      go_enter Tryd.func34, Tryd.ntmps34
      go_wp2_with (first | ((first | with_reducible refine wrx2 ?_ | with_reducible refine wrx ?_); (repeat (first | go_big_quiet_step ((first | (go_at_call 58; with_reducible exact Calls.ext (cc _ bcl)))) | quiet_step ((first | (go_at_call 58; with_reducible exact Calls.ext (cc _ bcl)))))); refine wpQuiet_nil ?_; rintro _ ⟨yr, rfl⟩; have syr := Ext.size yr; (repeat (first | rw [World.size_alloc] at syr | rw [World.size_setCell] at syr | rw [World.size_drew] at syr))) | (go_at_call 58; (first | with_reducible refine (Calls.giv2 (cc _ bcl)).mono ?_ | with_reducible refine (Calls.giv (cc _ bcl)).mono ?_); rintro _ _ ⟨y1, rfl, rfl⟩; have sy1 := Ext.size y1; (repeat (first | rw [World.size_alloc] at sy1 | rw [World.size_setCell] at sy1 | rw [World.size_drew] at sy1))))
      go_returns
      refine ⟨rfl, ?_⟩
      repeat' (first | (with_reducible exact Below.refl _ _) | (with_reducible assumption) | (with_reducible refine Ext.below _ ?_ ?_) | (with_reducible refine Below.on ?_ (by with_reducible assumption) ?_) | (with_reducible refine Below.alloc ?_ ?_ _) | (with_reducible refine Below.drew ?_) | (with_reducible refine Below.setCell ?_ ?_ _) | (with_reducible exact Nat.le_refl _) | omega | (simp; done) | (simp [go_sem]; done) | (simp at *; omega))
end Go.Proofs.YtlmhbggigbmeaaaDoor

/- Contracts of CheckLand. Condition: the land stands in memory. Contracts of waveOf, Harm and Wave for a valid land. Condition: the land stands in memory. -/
import Derived.Test.YtlmhbggigbmeaaaDoorBlHG
namespace Go.Proofs.YtlmhbggigbmeaaaDoor
open Go.RowKit Go.Shelf
attribute [local go_sem] Option.isSome_some Ext.cell Ext.frozen Ext.lt Ext.le Ext.lt_add Ext.le_add Ext.ne Ext.ne' lt2 lt3 lt4 lt5 le2 le3 le4
set_option maxHeartbeats 4000000 in
theorem CheckLand_any (x : LandR) (w : World) (hP : NumsAt w x.pp x.pl) : Calls Tryd.prog 58 #[x.val] w (Gives (.int .i64 (landE x)) w) := by
  unfold landE LandR.val
  generalize x.pp = p at *
  generalize x.pc = c at *
  generalize x.wp = q at *
  generalize x.wc = d at *
  generalize x.wl.length = m at *
  generalize x.pl = l at *
  by_cases h0 : l.length = 0
  · rw [if_pos h0]
    have h02 : (l.length : Int) = 0 := by omega
    generalize l.length = n at *
    clear hP
    go_enter Tryd.func58, Tryd.ntmps58
    go_wp2_with (first | ((first | with_reducible refine wrx2 ?_ | with_reducible refine wrx ?_); (repeat (first | go_big_quiet_step ((first | fail)) | quiet_step ((first | fail)))); refine wpQuiet_nil ?_; rintro _ ⟨yr, rfl⟩; have syr := Ext.size yr; (repeat (first | rw [World.size_alloc] at syr | rw [World.size_setCell] at syr | rw [World.size_drew] at syr))))
    go_returns
    refine ⟨rfl, ?_⟩
    repeat' (first | (with_reducible exact Below.refl _ _) | (with_reducible assumption) | (with_reducible refine Ext.below _ ?_ ?_) | (with_reducible refine Below.on ?_ (by with_reducible assumption) ?_) | (with_reducible refine Below.alloc ?_ ?_ _) | (with_reducible refine Below.drew ?_) | (with_reducible refine Below.setCell ?_ ?_ _) | (with_reducible exact Nat.le_refl _) | omega | (simp; done) | (simp [go_sem]; done) | (simp at *; omega))
  rw [if_neg h0]
  have h02 : ¬ (l.length : Int) = 0 := by omega
  have h03 : ((l.length : Int) == 0) = false := by rw [beq_eq_false_iff_ne]; exact h02
  by_cases hc : 400 < l.length
  · rw [if_pos hc]
    have hc2 : 400 < (l.length : Int) := by omega
    generalize l.length = n at *
    clear hP
    go_enter Tryd.func58, Tryd.ntmps58
    go_wp2_with (first | ((first | with_reducible refine wrx2 ?_ | with_reducible refine wrx ?_); (repeat (first | go_big_quiet_step ((first | fail)) | quiet_step ((first | fail)))); refine wpQuiet_nil ?_; rintro _ ⟨yr, rfl⟩; have syr := Ext.size yr; (repeat (first | rw [World.size_alloc] at syr | rw [World.size_setCell] at syr | rw [World.size_drew] at syr))))
    go_returns
    refine ⟨rfl, ?_⟩
    repeat' (first | (with_reducible exact Below.refl _ _) | (with_reducible assumption) | (with_reducible refine Ext.below _ ?_ ?_) | (with_reducible refine Below.on ?_ (by with_reducible assumption) ?_) | (with_reducible refine Below.alloc ?_ ?_ _) | (with_reducible refine Below.drew ?_) | (with_reducible refine Below.setCell ?_ ?_ _) | (with_reducible exact Nat.le_refl _) | omega | (simp; done) | (simp [go_sem]; done) | (simp at *; omega))
  rw [if_neg hc]
  have hc2 : ¬ 400 < (l.length : Int) := by omega
  by_cases hm : m ≠ l.length
  · rw [if_pos hm]
    have hm2 : ((m : Int) == l.length) = false := by simp; omega
    have hm3 : (m : Int) ≠ l.length := by omega
    generalize l.length = n at *
    clear hP
    go_enter Tryd.func58, Tryd.ntmps58
    go_wp2_with (first | ((first | with_reducible refine wrx2 ?_ | with_reducible refine wrx ?_); (repeat (first | go_big_quiet_step ((first | fail)) | quiet_step ((first | fail)))); refine wpQuiet_nil ?_; rintro _ ⟨yr, rfl⟩; have syr := Ext.size yr; (repeat (first | rw [World.size_alloc] at syr | rw [World.size_setCell] at syr | rw [World.size_drew] at syr))))
    go_returns
    refine ⟨rfl, ?_⟩
    repeat' (first | (with_reducible exact Below.refl _ _) | (with_reducible assumption) | (with_reducible refine Ext.below _ ?_ ?_) | (with_reducible refine Below.on ?_ (by with_reducible assumption) ?_) | (with_reducible refine Below.alloc ?_ ?_ _) | (with_reducible refine Below.drew ?_) | (with_reducible refine Below.setCell ?_ ?_ _) | (with_reducible exact Nat.le_refl _) | omega | (simp; done) | (simp [go_sem]; done) | (simp at *; omega))
  · rw [if_neg hm]
    obtain rfl : m = l.length := Decidable.not_not.1 hm
    have hn4 : l.length ≤ 400 := by omega
    obtain ⟨V, hV⟩ : ∃ V, pplE l = V := ⟨_, rfl⟩
    rw [hV]
    have hV := Go.Lib.hid hV
    have hP := Go.Lib.hid hP
    clear hm hc h0
    go_enter Tryd.func58, Tryd.ntmps58
    go_wp2_with (first | ((first | with_reducible refine wrx2 ?_ | with_reducible refine wrx ?_); (repeat (first | go_big_quiet_step ((first | fail)) | quiet_step ((first | fail)))); refine wpQuiet_nil ?_; rintro _ ⟨yr, rfl⟩; have syr := Ext.size yr; (repeat (first | rw [World.size_alloc] at syr | rw [World.size_setCell] at syr | rw [World.size_drew] at syr))))
    clear hc2 h02 h03
    go_loopw [23] (fun s W => ∃ (i : Nat) (x : Ext w), s = .int .i64 i ∧ W = x.now ∧ Hid (i ≤ l.length ∧ pplE (l.drop i) = V)) (fun s _ => l.length - (intOf s).toNat)
    case atStart => exact ⟨0, ⟨_, (Below.refl _ _).alloc (Nat.le_refl _) _⟩, rfl, rfl, Go.Lib.hid ⟨Nat.zero_le _, by simpa using hV.out⟩⟩
    case round =>
      obtain ⟨i, x, rfl, rfl, hi⟩ := hrel
      have xs := x.size
      by_cases hlt : i < l.length
      · have hlt2 : (i : Int) < l.length := by omega
        obtain ⟨B, o, rfl, hB, c1⟩ := hP.out i hlt
        have hE := hi.out.2
        rw [drop_at hlt, pplE] at hE
        by_cases hok : 0 ≤ l[i] ∧ l[i] ≤ 4294967296
        · have key : Hid (i + 1 ≤ l.length ∧ pplE (l.drop (i + 1)) = V) := Go.Lib.hid ⟨hlt, by rwa [if_pos hok] at hE⟩
          clear hE hi
          generalize l[i] = t1 at *
          obtain ⟨g1, g2⟩ := hok
          go_wp2_with (first | ((first | with_reducible refine wrx2 ?_ | with_reducible refine wrx ?_); (repeat (first | go_big_quiet_step ((first | fail)) | quiet_step ((first | fail)))); refine wpQuiet_nil ?_; rintro _ ⟨yr, rfl⟩; have syr := Ext.size yr; (repeat (first | rw [World.size_alloc] at syr | rw [World.size_setCell] at syr | rw [World.size_drew] at syr)); have : B < yr.now.heap.size := (by omega); have : B ≤ yr.now.heap.size := (by omega); have : B < yr.now.heap.size + 1 + 1 := (by omega)))
          exact ⟨⟨i + 1, x, by simp, rfl, key⟩, by simp [intOf]; omega⟩
        · have eV : V = 2 := by rw [← hE, if_neg hok]
          clear hE hi hV
          subst eV
          generalize l[i] = t1 at *
          rcases (show t1 < 0 ∨ (0 ≤ t1 ∧ 4294967296 < t1) by omega) with g1 | ⟨g1, g2⟩
          all_goals
            clear hok
            go_wp2_with (first | ((first | with_reducible refine wrx2 ?_ | with_reducible refine wrx ?_); (repeat (first | go_big_quiet_step ((first | fail)) | quiet_step ((first | fail)))); refine wpQuiet_nil ?_; rintro _ ⟨yr, rfl⟩; have syr := Ext.size yr; (repeat (first | rw [World.size_alloc] at syr | rw [World.size_setCell] at syr | rw [World.size_drew] at syr)); have : B < yr.now.heap.size := (by omega); have : B ≤ yr.now.heap.size := (by omega); have : B < yr.now.heap.size + 1 + 1 := (by omega)))
            go_returns
            refine ⟨rfl, ?_⟩
            repeat' (first | (with_reducible exact Below.refl _ _) | (with_reducible assumption) | (with_reducible refine Ext.below _ ?_ ?_) | (with_reducible refine Below.on ?_ (by with_reducible assumption) ?_) | (with_reducible refine Below.alloc ?_ ?_ _) | (with_reducible refine Below.drew ?_) | (with_reducible refine Below.setCell ?_ ?_ _) | (with_reducible exact Nat.le_refl _) | omega | (simp; done) | (simp [go_sem]; done) | (simp at *; omega))
      · have hge : ¬ (i : Int) < l.length := by omega
        have eV : V = 0 := by have hE := hi.out.2; rw [drop_end hlt, pplE] at hE; exact hE.symm
        clear hi hV
        subst eV
        go_wp2_with (first | ((first | with_reducible refine wrx2 ?_ | with_reducible refine wrx ?_); (repeat (first | go_big_quiet_step ((first | fail)) | quiet_step ((first | fail)))); refine wpQuiet_nil ?_; rintro _ ⟨yr, rfl⟩; have syr := Ext.size yr; (repeat (first | rw [World.size_alloc] at syr | rw [World.size_setCell] at syr | rw [World.size_drew] at syr))))
        go_returns
        refine ⟨rfl, ?_⟩
        repeat' (first | (with_reducible exact Below.refl _ _) | (with_reducible assumption) | (with_reducible refine Ext.below _ ?_ ?_) | (with_reducible refine Below.on ?_ (by with_reducible assumption) ?_) | (with_reducible refine Below.alloc ?_ ?_ _) | (with_reducible refine Below.drew ?_) | (with_reducible refine Below.setCell ?_ ?_ _) | (with_reducible exact Nat.le_refl _) | omega | (simp; done) | (simp [go_sem]; done) | (simp at *; omega))
end Go.Proofs.YtlmhbggigbmeaaaDoor
namespace Go.Proofs.YtlmhbggigbmeaaaDoor
open Go.RowKit Go.Shelf
attribute [local go_sem] Option.isSome_some Ext.cell Ext.frozen Ext.lt Ext.le Ext.lt_add Ext.le_add Ext.ne Ext.ne' lt2 lt3 lt4 lt5 le2 le3 le4
/-- Whom a blow, and a wave harms. -/
def harmV (x : LandR) (at' r : Int) : Int := seg x.pl (max (at' - min r 400) 0) (min (at' + min r 400) (x.pl.length - 1))
def waveV (x : LandR) (at' r : Int) : Int := seg x.pl (runI x.wl (-1) r.toNat at') (runI x.wl 1 r.toNat at')
set_option maxRecDepth 100000 in
theorem waveOf_any (x : LandR) (at' r : Int) (w : World) (hx : x.At w) (hok : x.Ok) (h0 : 0 ≤ at') (h1 : at' < x.pl.length) (hr : 0 ≤ r) (hr2 : I64 r) : Calls Tryd.prog 61 #[x.val, .int .i64 at', .int .i64 r] w (Gives (.int .i64 (waveV x at' r)) w) := by
  have a1 := run_left x.wl r.toNat at' h0
  have a2 := run_right x.wl r.toNat at' (by rw [hok.len]; exact h1)
  have c1 := fun (W : World) (y : Below w.heap.size w W) => run_any x at' r (-1) W (hx.on y) hok h0 h1 hr hr2 (.inl rfl)
  have c2 := fun (W : World) (y : Below w.heap.size w W) => run_any x at' r 1 W (hx.on y) hok h0 h1 hr hr2 (.inr rfl)
  have cp := fun (W : World) (y : Below w.heap.size w W) => people_any x (runI x.wl (-1) r.toNat at') (runI x.wl 1 r.toNat at') W (hx.on y) hok a1.1 (by omega) (by have := hok.len; omega)
  unfold waveV
  unfold LandR.val at *
  generalize seg x.pl (runI x.wl (-1) r.toNat at') (runI x.wl 1 r.toNat at') = S at *
  generalize runI x.wl (-1) r.toNat at' = A at *
  generalize runI x.wl 1 r.toNat at' = B at *
  clear a1 a2 hx hok h0 h1 hr hr2
  go_enter Tryd.func61, Tryd.ntmps61
  go_wp2_with (first | ((first | with_reducible refine wrx2 ?_ | with_reducible refine wrx ?_); (repeat (first | go_big_quiet_step ((first | (go_at_call 85; with_reducible exact Calls.ext (c1 _ bcl)) | (go_at_call 85; with_reducible exact Calls.ext (c2 _ bcl)) | (go_at_call 84; with_reducible exact Calls.ext (cp _ bcl)))) | quiet_step ((first | (go_at_call 85; with_reducible exact Calls.ext (c1 _ bcl)) | (go_at_call 85; with_reducible exact Calls.ext (c2 _ bcl)) | (go_at_call 84; with_reducible exact Calls.ext (cp _ bcl)))))); refine wpQuiet_nil ?_; rintro _ ⟨yr, rfl⟩; have syr := Ext.size yr; (repeat (first | rw [World.size_alloc] at syr | rw [World.size_setCell] at syr | rw [World.size_drew] at syr))) | (go_at_call 85; (first | with_reducible refine (Calls.giv2 (c1 _ bcl)).mono ?_ | with_reducible refine (Calls.giv (c1 _ bcl)).mono ?_); rintro _ _ ⟨y1, rfl, rfl⟩; have sy1 := Ext.size y1; (repeat (first | rw [World.size_alloc] at sy1 | rw [World.size_setCell] at sy1 | rw [World.size_drew] at sy1))) | (go_at_call 85; (first | with_reducible refine (Calls.giv2 (c2 _ bcl)).mono ?_ | with_reducible refine (Calls.giv (c2 _ bcl)).mono ?_); rintro _ _ ⟨y2, rfl, rfl⟩; have sy2 := Ext.size y2; (repeat (first | rw [World.size_alloc] at sy2 | rw [World.size_setCell] at sy2 | rw [World.size_drew] at sy2))) | (go_at_call 84; (first | with_reducible refine (Calls.giv2 (cp _ bcl)).mono ?_ | with_reducible refine (Calls.giv (cp _ bcl)).mono ?_); rintro _ _ ⟨y3, rfl, rfl⟩; have sy3 := Ext.size y3; (repeat (first | rw [World.size_alloc] at sy3 | rw [World.size_setCell] at sy3 | rw [World.size_drew] at sy3))))
  go_returns
  refine ⟨rfl, ?_⟩
  repeat' (first | (with_reducible exact Below.refl _ _) | (with_reducible assumption) | (with_reducible refine Ext.below _ ?_ ?_) | (with_reducible refine Below.on ?_ (by with_reducible assumption) ?_) | (with_reducible refine Below.alloc ?_ ?_ _) | (with_reducible refine Below.drew ?_) | (with_reducible refine Below.setCell ?_ ?_ _) | (with_reducible exact Nat.le_refl _) | omega | (simp; done) | (simp [go_sem]; done) | (simp at *; omega))
theorem Harm_ok (x : LandR) (at' r : Int) (w : World) (hx : x.At w) (hok : x.Ok) (h0 : 0 ≤ at') (h1 : at' < x.pl.length) (hr : 0 ≤ r) (hr2 : I64 r) : Calls Tryd.prog 32 #[x.val, .int .i64 at', .int .i64 r] w (Gives (.int .i64 (harmV x at' r)) w) := by
  have cc := fun (W : World) (y : Below w.heap.size w W) => CheckLand_any x W (hx.on y).nums
  rw [hok.e] at cc
  have ci := fun (W : World) => isCell_any x at' W
  rw [decide_eq_true (And.intro h0 h1)] at ci
  have ch := fun (W : World) (y : Below w.heap.size w W) => harmOf_any x at' r W (hx.on y) hok h0 h1 hr hr2
  unfold harmV
  unfold LandR.val at *
  generalize seg x.pl (max (at' - min r 400) 0) (min (at' + min r 400) (x.pl.length - 1)) = S at *
  clear hx hok h0 h1 hr2
  generalize x.pl.length = n at *
  go_enter Tryd.func32, Tryd.ntmps32
  go_wp2_with (first | ((first | with_reducible refine wrx2 ?_ | with_reducible refine wrx ?_); (repeat (first | go_big_quiet_step ((first | (go_at_call 58; with_reducible exact Calls.ext (cc _ bcl)) | (go_at_call 59; with_reducible exact Calls.ext (ci _)) | (go_at_call 60; with_reducible exact Calls.ext (ch _ bcl)))) | quiet_step ((first | (go_at_call 58; with_reducible exact Calls.ext (cc _ bcl)) | (go_at_call 59; with_reducible exact Calls.ext (ci _)) | (go_at_call 60; with_reducible exact Calls.ext (ch _ bcl)))))); refine wpQuiet_nil ?_; rintro _ ⟨yr, rfl⟩; have syr := Ext.size yr; (repeat (first | rw [World.size_alloc] at syr | rw [World.size_setCell] at syr | rw [World.size_drew] at syr))) | (go_at_call 58; (first | with_reducible refine (Calls.giv2 (cc _ bcl)).mono ?_ | with_reducible refine (Calls.giv (cc _ bcl)).mono ?_); rintro _ _ ⟨y1, rfl, rfl⟩; have sy1 := Ext.size y1; (repeat (first | rw [World.size_alloc] at sy1 | rw [World.size_setCell] at sy1 | rw [World.size_drew] at sy1))) | (go_at_call 59; (first | with_reducible refine (Calls.giv2 (ci _)).mono ?_ | with_reducible refine (Calls.giv (ci _)).mono ?_); rintro _ _ ⟨y2, rfl, rfl⟩; have sy2 := Ext.size y2; (repeat (first | rw [World.size_alloc] at sy2 | rw [World.size_setCell] at sy2 | rw [World.size_drew] at sy2))) | (go_at_call 60; (first | with_reducible refine (Calls.giv2 (ch _ bcl)).mono ?_ | with_reducible refine (Calls.giv (ch _ bcl)).mono ?_); rintro _ _ ⟨y3, rfl, rfl⟩; have sy3 := Ext.size y3; (repeat (first | rw [World.size_alloc] at sy3 | rw [World.size_setCell] at sy3 | rw [World.size_drew] at sy3))))
  go_returns
  refine ⟨rfl, ?_⟩
  repeat' (first | (with_reducible exact Below.refl _ _) | (with_reducible assumption) | (with_reducible refine Ext.below _ ?_ ?_) | (with_reducible refine Below.on ?_ (by with_reducible assumption) ?_) | (with_reducible refine Below.alloc ?_ ?_ _) | (with_reducible refine Below.drew ?_) | (with_reducible refine Below.setCell ?_ ?_ _) | (with_reducible exact Nat.le_refl _) | omega | (simp; done) | (simp [go_sem]; done) | (simp at *; omega))
/-- What Wave says of a cell of a valid land. -/
def waveI (x : LandR) (at' r : Int) : Int := if x.wl.getD at'.toNat false = true then waveV x at' r else 0
theorem Wave_ok (x : LandR) (at' r : Int) (w : World) (hx : x.At w) (hok : x.Ok) (h0 : 0 ≤ at') (h1 : at' < x.pl.length) (hr : 0 ≤ r) (hr2 : I64 r) : Calls Tryd.prog 34 #[x.val, .int .i64 at', .int .i64 r] w (Gives (.int .i64 (waveI x at' r)) w) := by
  have cc := fun (W : World) (y : Below w.heap.size w W) => CheckLand_any x W (hx.on y).nums
  rw [hok.e] at cc
  have ci := fun (W : World) => isCell_any x at' W
  rw [decide_eq_true (And.intro h0 h1)] at ci
  have ch := fun (W : World) (y : Below w.heap.size w W) => waveOf_any x at' r W (hx.on y) hok h0 h1 hr hr2
  unfold waveI
  obtain ⟨a, rfl⟩ := Int.eq_ofNat_of_zero_le h0
  have hlen := hok.len
  have hle := hok.le
  have h1n : a < x.wl.length := by omega
  obtain ⟨B, o, hp, hB, c1⟩ := hx.bools a h1n
  have hget : x.wl.getD (a : Int).toNat false = x.wl[a] := by simp [List.getD, h1n]
  rw [hget]
  generalize x.wl[a] = bw at *
  unfold LandR.val at *
  generalize waveV x a r = S at *
  rw [hlen] at cc ci ch ⊢
  simp only [hp] at cc ci ch ⊢
  clear hx hok h0 hr2 hget h1n hlen hp
  generalize x.pl.length = n at *
  cases bw
  · simp only [Bool.false_eq_true, if_false]
    go_enter Tryd.func34, Tryd.ntmps34
    go_wp2_with (first | ((first | with_reducible refine wrx2 ?_ | with_reducible refine wrx ?_); (repeat (first | go_big_quiet_step ((first | (go_at_call 58; with_reducible exact Calls.ext (cc _ bcl)) | (go_at_call 59; with_reducible exact Calls.ext (ci _)))) | quiet_step ((first | (go_at_call 58; with_reducible exact Calls.ext (cc _ bcl)) | (go_at_call 59; with_reducible exact Calls.ext (ci _)))))); refine wpQuiet_nil ?_; rintro _ ⟨yr, rfl⟩; have syr := Ext.size yr; (repeat (first | rw [World.size_alloc] at syr | rw [World.size_setCell] at syr | rw [World.size_drew] at syr)); have : B < yr.now.heap.size := (by omega); have : B ≤ yr.now.heap.size := (by omega); have : B < yr.now.heap.size + 1 + 1 := (by omega)) | (go_at_call 58; (first | with_reducible refine (Calls.giv2 (cc _ bcl)).mono ?_ | with_reducible refine (Calls.giv (cc _ bcl)).mono ?_); rintro _ _ ⟨y1, rfl, rfl⟩; have sy1 := Ext.size y1; (repeat (first | rw [World.size_alloc] at sy1 | rw [World.size_setCell] at sy1 | rw [World.size_drew] at sy1)); have : B < y1.now.heap.size := (by omega); have : B ≤ y1.now.heap.size := (by omega); have : B < y1.now.heap.size + 1 + 1 := (by omega)) | (go_at_call 59; (first | with_reducible refine (Calls.giv2 (ci _)).mono ?_ | with_reducible refine (Calls.giv (ci _)).mono ?_); rintro _ _ ⟨y2, rfl, rfl⟩; have sy2 := Ext.size y2; (repeat (first | rw [World.size_alloc] at sy2 | rw [World.size_setCell] at sy2 | rw [World.size_drew] at sy2)); have : B < y2.now.heap.size := (by omega); have : B ≤ y2.now.heap.size := (by omega); have : B < y2.now.heap.size + 1 + 1 := (by omega)))
    go_returns
    refine ⟨rfl, ?_⟩
    repeat' (first | (with_reducible exact Below.refl _ _) | (with_reducible assumption) | (with_reducible refine Ext.below _ ?_ ?_) | (with_reducible refine Below.on ?_ (by with_reducible assumption) ?_) | (with_reducible refine Below.alloc ?_ ?_ _) | (with_reducible refine Below.drew ?_) | (with_reducible refine Below.setCell ?_ ?_ _) | (with_reducible exact Nat.le_refl _) | omega | (simp; done) | (simp [go_sem]; done) | (simp at *; omega))
  · simp only [if_true]
    go_enter Tryd.func34, Tryd.ntmps34
    go_wp2_with (first | ((first | with_reducible refine wrx2 ?_ | with_reducible refine wrx ?_); (repeat (first | go_big_quiet_step ((first | (go_at_call 58; with_reducible exact Calls.ext (cc _ bcl)) | (go_at_call 59; with_reducible exact Calls.ext (ci _)) | (go_at_call 61; with_reducible exact Calls.ext (ch _ bcl)))) | quiet_step ((first | (go_at_call 58; with_reducible exact Calls.ext (cc _ bcl)) | (go_at_call 59; with_reducible exact Calls.ext (ci _)) | (go_at_call 61; with_reducible exact Calls.ext (ch _ bcl)))))); refine wpQuiet_nil ?_; rintro _ ⟨yr, rfl⟩; have syr := Ext.size yr; (repeat (first | rw [World.size_alloc] at syr | rw [World.size_setCell] at syr | rw [World.size_drew] at syr)); have : B < yr.now.heap.size := (by omega); have : B ≤ yr.now.heap.size := (by omega); have : B < yr.now.heap.size + 1 + 1 := (by omega)) | (go_at_call 58; (first | with_reducible refine (Calls.giv2 (cc _ bcl)).mono ?_ | with_reducible refine (Calls.giv (cc _ bcl)).mono ?_); rintro _ _ ⟨y1, rfl, rfl⟩; have sy1 := Ext.size y1; (repeat (first | rw [World.size_alloc] at sy1 | rw [World.size_setCell] at sy1 | rw [World.size_drew] at sy1)); have : B < y1.now.heap.size := (by omega); have : B ≤ y1.now.heap.size := (by omega); have : B < y1.now.heap.size + 1 + 1 := (by omega)) | (go_at_call 59; (first | with_reducible refine (Calls.giv2 (ci _)).mono ?_ | with_reducible refine (Calls.giv (ci _)).mono ?_); rintro _ _ ⟨y2, rfl, rfl⟩; have sy2 := Ext.size y2; (repeat (first | rw [World.size_alloc] at sy2 | rw [World.size_setCell] at sy2 | rw [World.size_drew] at sy2)); have : B < y2.now.heap.size := (by omega); have : B ≤ y2.now.heap.size := (by omega); have : B < y2.now.heap.size + 1 + 1 := (by omega)) | (go_at_call 61; (first | with_reducible refine (Calls.giv2 (ch _ bcl)).mono ?_ | with_reducible refine (Calls.giv (ch _ bcl)).mono ?_); rintro _ _ ⟨y3, rfl, rfl⟩; have sy3 := Ext.size y3; (repeat (first | rw [World.size_alloc] at sy3 | rw [World.size_setCell] at sy3 | rw [World.size_drew] at sy3)); have : B < y3.now.heap.size := (by omega); have : B ≤ y3.now.heap.size := (by omega); have : B < y3.now.heap.size + 1 + 1 := (by omega)))
    go_returns
    refine ⟨rfl, ?_⟩
    repeat' (first | (with_reducible exact Below.refl _ _) | (with_reducible assumption) | (with_reducible refine Ext.below _ ?_ ?_) | (with_reducible refine Below.on ?_ (by with_reducible assumption) ?_) | (with_reducible refine Below.alloc ?_ ?_ _) | (with_reducible refine Below.drew ?_) | (with_reducible refine Below.setCell ?_ ?_ _) | (with_reducible exact Nat.le_refl _) | omega | (simp; done) | (simp [go_sem]; done) | (simp at *; omega))
end Go.Proofs.YtlmhbggigbmeaaaDoor

/- The reference's CheckLand, right, harm, Harm and Crater, and the program's Crater, for any arguments. Condition: the land stands in memory. -/
import Derived.Test.YtlmhbggigbmeaaaDoorBlQ3
import Derived.Test.YtlmhbggigbmeaaaDoorBlC1G
import Derived.Test.YtlmhbggigbmeaaaDoorRefSpansG
namespace Go.Proofs.YtlmhbggigbmeaaaDoor
open Go.RowKit Go.Shelf
attribute [local go_sem] Option.isSome_some Ext.cell Ext.frozen Ext.lt Ext.le Ext.lt_add Ext.le_add Ext.ne Ext.ne' lt2 lt3 lt4 lt5 le2 le3 le4
set_option maxHeartbeats 4000000 in
theorem rCheckLand_any (x : LandR) (w : World) (hP : NumsAt w x.pp x.pl) : Calls Tryd.prog 95 #[x.val] w (Gives (.int .i64 (landE x)) w) := by
  unfold landE LandR.val
  generalize x.pp = p at *
  generalize x.pc = c at *
  generalize x.wp = q at *
  generalize x.wc = d at *
  generalize x.wl.length = m at *
  generalize x.pl = l at *
  by_cases h0 : l.length = 0
  · rw [if_pos h0]
    have h02 : (l.length : Int) = 0 := by omega
    generalize l.length = n at *
    clear hP
    go_enter Tryd.func95, Tryd.ntmps95
    go_wp2_with (first | ((first | with_reducible refine wrx2 ?_ | with_reducible refine wrx ?_); (repeat (first | go_big_quiet_step ((first | fail)) | quiet_step ((first | fail)))); refine wpQuiet_nil ?_; rintro _ ⟨yr, rfl⟩; have syr := Ext.size yr; (repeat (first | rw [World.size_alloc] at syr | rw [World.size_setCell] at syr | rw [World.size_drew] at syr))))
    go_returns
    refine ⟨rfl, ?_⟩
    repeat' (first | (with_reducible exact Below.refl _ _) | (with_reducible assumption) | (with_reducible refine Ext.below _ ?_ ?_) | (with_reducible refine Below.on ?_ (by with_reducible assumption) ?_) | (with_reducible refine Below.alloc ?_ ?_ _) | (with_reducible refine Below.drew ?_) | (with_reducible refine Below.setCell ?_ ?_ _) | (with_reducible exact Nat.le_refl _) | omega | (simp; done) | (simp [go_sem]; done) | (simp at *; omega))
  rw [if_neg h0]
  have h02 : ¬ (l.length : Int) = 0 := by omega
  have h03 : ((l.length : Int) == 0) = false := by rw [beq_eq_false_iff_ne]; exact h02
  by_cases hc : 400 < l.length
  · rw [if_pos hc]
    have hc2 : 400 < (l.length : Int) := by omega
    generalize l.length = n at *
    clear hP
    go_enter Tryd.func95, Tryd.ntmps95
    go_wp2_with (first | ((first | with_reducible refine wrx2 ?_ | with_reducible refine wrx ?_); (repeat (first | go_big_quiet_step ((first | fail)) | quiet_step ((first | fail)))); refine wpQuiet_nil ?_; rintro _ ⟨yr, rfl⟩; have syr := Ext.size yr; (repeat (first | rw [World.size_alloc] at syr | rw [World.size_setCell] at syr | rw [World.size_drew] at syr))))
    go_returns
    refine ⟨rfl, ?_⟩
    repeat' (first | (with_reducible exact Below.refl _ _) | (with_reducible assumption) | (with_reducible refine Ext.below _ ?_ ?_) | (with_reducible refine Below.on ?_ (by with_reducible assumption) ?_) | (with_reducible refine Below.alloc ?_ ?_ _) | (with_reducible refine Below.drew ?_) | (with_reducible refine Below.setCell ?_ ?_ _) | (with_reducible exact Nat.le_refl _) | omega | (simp; done) | (simp [go_sem]; done) | (simp at *; omega))
  rw [if_neg hc]
  have hc2 : ¬ 400 < (l.length : Int) := by omega
  by_cases hm : m ≠ l.length
  · rw [if_pos hm]
    have hm2 : ((m : Int) == l.length) = false := by simp; omega
    have hm3 : (m : Int) ≠ l.length := by omega
    generalize l.length = n at *
    clear hP
    go_enter Tryd.func95, Tryd.ntmps95
    go_wp2_with (first | ((first | with_reducible refine wrx2 ?_ | with_reducible refine wrx ?_); (repeat (first | go_big_quiet_step ((first | fail)) | quiet_step ((first | fail)))); refine wpQuiet_nil ?_; rintro _ ⟨yr, rfl⟩; have syr := Ext.size yr; (repeat (first | rw [World.size_alloc] at syr | rw [World.size_setCell] at syr | rw [World.size_drew] at syr))))
    go_returns
    refine ⟨rfl, ?_⟩
    repeat' (first | (with_reducible exact Below.refl _ _) | (with_reducible assumption) | (with_reducible refine Ext.below _ ?_ ?_) | (with_reducible refine Below.on ?_ (by with_reducible assumption) ?_) | (with_reducible refine Below.alloc ?_ ?_ _) | (with_reducible refine Below.drew ?_) | (with_reducible refine Below.setCell ?_ ?_ _) | (with_reducible exact Nat.le_refl _) | omega | (simp; done) | (simp [go_sem]; done) | (simp at *; omega))
  · rw [if_neg hm]
    obtain rfl : m = l.length := Decidable.not_not.1 hm
    have hn4 : l.length ≤ 400 := by omega
    obtain ⟨V, hV⟩ : ∃ V, pplE l = V := ⟨_, rfl⟩
    rw [hV]
    have hV := Go.Lib.hid hV
    have hP := Go.Lib.hid hP
    clear hm hc h0
    go_enter Tryd.func95, Tryd.ntmps95
    go_wp2_with (first | ((first | with_reducible refine wrx2 ?_ | with_reducible refine wrx ?_); (repeat (first | go_big_quiet_step ((first | fail)) | quiet_step ((first | fail)))); refine wpQuiet_nil ?_; rintro _ ⟨yr, rfl⟩; have syr := Ext.size yr; (repeat (first | rw [World.size_alloc] at syr | rw [World.size_setCell] at syr | rw [World.size_drew] at syr)); have : w.heap.size < yr.now.heap.size := (by omega); have : w.heap.size ≤ yr.now.heap.size := (by omega); have : w.heap.size < yr.now.heap.size + 1 + 1 := (by omega)))
    refine wp_named (fun W0 hW => ?_)
    have a0 : W0.cell? ⟨w.heap.size, 0, none⟩ = some (.slice p l.length c) := by rw [← hW]; simp [go_sem]
    have hB0 : Below w.heap.size w W0 := by rw [← hW]; repeat' (first | (with_reducible exact Below.refl _ _) | (with_reducible assumption) | (with_reducible refine Ext.below _ ?_ ?_) | (with_reducible refine Below.on ?_ (by with_reducible assumption) ?_) | (with_reducible refine Below.alloc ?_ ?_ _) | (with_reducible refine Below.drew ?_) | (with_reducible refine Below.setCell ?_ ?_ _) | (with_reducible exact Nat.le_refl _) | omega | (simp; done) | (simp [go_sem]; done) | (simp at *; omega))
    have hs0 : w.heap.size < W0.heap.size := by rw [← hW]; simp
    clear hW
    have hP0 := Go.Lib.hid (hP.out.on hB0)
    clear hc2 h02 h03
    go_loopw [3] (fun s W => ∃ (i : Nat) (x : Ext W0), s = .int .i64 i ∧ W = x.now ∧ Hid (i ≤ l.length ∧ pplE (l.drop i) = V)) (fun s _ => l.length - (intOf s).toNat)
    case atStart => exact ⟨0, ⟨W0, Below.refl _ _⟩, rfl, rfl, Go.Lib.hid ⟨Nat.zero_le _, by simpa using hV.out⟩⟩
    case round =>
      obtain ⟨i, x, rfl, rfl, hi⟩ := hrel
      have xs := x.size
      by_cases hlt : i < l.length
      · have hlt2 : (i : Int) < l.length := by omega
        obtain ⟨B, o, rfl, hB, c1⟩ := hP0.out i hlt
        have hE := hi.out.2
        rw [drop_at hlt, pplE] at hE
        have hb := fun W => rbetween_any l[i] 0 4294967296 W
        by_cases hok : 0 ≤ l[i] ∧ l[i] ≤ 4294967296
        · have key : Hid (i + 1 ≤ l.length ∧ pplE (l.drop (i + 1)) = V) := Go.Lib.hid ⟨hlt, by rwa [if_pos hok] at hE⟩
          rw [decide_eq_true hok] at hb
          clear hE hi hok
          generalize l[i] = t1 at *
          go_wp2_with (first | ((first | with_reducible refine wrx2 ?_ | with_reducible refine wrx ?_); (repeat (first | go_big_quiet_step ((first | (go_at_call 102; with_reducible exact Calls.ext (hb _)))) | quiet_step ((first | (go_at_call 102; with_reducible exact Calls.ext (hb _)))))); refine wpQuiet_nil ?_; rintro _ ⟨yr, rfl⟩; have syr := Ext.size yr; (repeat (first | rw [World.size_alloc] at syr | rw [World.size_setCell] at syr | rw [World.size_drew] at syr)); have : w.heap.size < yr.now.heap.size := (by omega); have : w.heap.size ≤ yr.now.heap.size := (by omega); have : w.heap.size < yr.now.heap.size + 1 + 1 := (by omega); have : B < yr.now.heap.size := (by omega); have : B ≤ yr.now.heap.size := (by omega); have : B < yr.now.heap.size + 1 + 1 := (by omega)) | (go_at_call 102; (first | with_reducible refine (Calls.giv2 (hb _)).mono ?_ | with_reducible refine (Calls.giv (hb _)).mono ?_); rintro _ _ ⟨y1, rfl, rfl⟩; have sy1 := Ext.size y1; (repeat (first | rw [World.size_alloc] at sy1 | rw [World.size_setCell] at sy1 | rw [World.size_drew] at sy1)); have : w.heap.size < y1.now.heap.size := (by omega); have : w.heap.size ≤ y1.now.heap.size := (by omega); have : w.heap.size < y1.now.heap.size + 1 + 1 := (by omega); have : B < y1.now.heap.size := (by omega); have : B ≤ y1.now.heap.size := (by omega); have : B < y1.now.heap.size + 1 + 1 := (by omega)))
          exact ⟨⟨i + 1, ⟨_, by repeat' (first | (with_reducible exact Below.refl _ _) | (with_reducible assumption) | (with_reducible refine Ext.below _ ?_ ?_) | (with_reducible refine Below.on ?_ (by with_reducible assumption) ?_) | (with_reducible refine Below.alloc ?_ ?_ _) | (with_reducible refine Below.drew ?_) | (with_reducible refine Below.setCell ?_ ?_ _) | (with_reducible exact Nat.le_refl _) | omega | (simp; done) | (simp [go_sem]; done) | (simp at *; omega))⟩, by simp, rfl, key⟩, by simp [intOf]; omega⟩
        · have eV : V = 2 := by rw [← hE, if_neg hok]
          rw [decide_eq_false hok] at hb
          clear hE hi hV hok
          subst eV
          generalize l[i] = t1 at *
          go_wp2_with (first | ((first | with_reducible refine wrx2 ?_ | with_reducible refine wrx ?_); (repeat (first | go_big_quiet_step ((first | (go_at_call 102; with_reducible exact Calls.ext (hb _)))) | quiet_step ((first | (go_at_call 102; with_reducible exact Calls.ext (hb _)))))); refine wpQuiet_nil ?_; rintro _ ⟨yr, rfl⟩; have syr := Ext.size yr; (repeat (first | rw [World.size_alloc] at syr | rw [World.size_setCell] at syr | rw [World.size_drew] at syr)); have : w.heap.size < yr.now.heap.size := (by omega); have : w.heap.size ≤ yr.now.heap.size := (by omega); have : w.heap.size < yr.now.heap.size + 1 + 1 := (by omega); have : B < yr.now.heap.size := (by omega); have : B ≤ yr.now.heap.size := (by omega); have : B < yr.now.heap.size + 1 + 1 := (by omega)) | (go_at_call 102; (first | with_reducible refine (Calls.giv2 (hb _)).mono ?_ | with_reducible refine (Calls.giv (hb _)).mono ?_); rintro _ _ ⟨y1, rfl, rfl⟩; have sy1 := Ext.size y1; (repeat (first | rw [World.size_alloc] at sy1 | rw [World.size_setCell] at sy1 | rw [World.size_drew] at sy1)); have : w.heap.size < y1.now.heap.size := (by omega); have : w.heap.size ≤ y1.now.heap.size := (by omega); have : w.heap.size < y1.now.heap.size + 1 + 1 := (by omega); have : B < y1.now.heap.size := (by omega); have : B ≤ y1.now.heap.size := (by omega); have : B < y1.now.heap.size + 1 + 1 := (by omega)))
          go_returns
          refine ⟨rfl, ?_⟩
          repeat' (first | (with_reducible exact Below.refl _ _) | (with_reducible assumption) | (with_reducible refine Ext.below _ ?_ ?_) | (with_reducible refine Below.on ?_ (by with_reducible assumption) ?_) | (with_reducible refine Below.alloc ?_ ?_ _) | (with_reducible refine Below.drew ?_) | (with_reducible refine Below.setCell ?_ ?_ _) | (with_reducible exact Nat.le_refl _) | omega | (simp; done) | (simp [go_sem]; done) | (simp at *; omega))
      · have hge : ¬ (i : Int) < l.length := by omega
        have eV : V = 0 := by have hE := hi.out.2; rw [drop_end hlt, pplE] at hE; exact hE.symm
        clear hi hV
        subst eV
        go_wp2_with (first | ((first | with_reducible refine wrx2 ?_ | with_reducible refine wrx ?_); (repeat (first | go_big_quiet_step ((first | fail)) | quiet_step ((first | fail)))); refine wpQuiet_nil ?_; rintro _ ⟨yr, rfl⟩; have syr := Ext.size yr; (repeat (first | rw [World.size_alloc] at syr | rw [World.size_setCell] at syr | rw [World.size_drew] at syr)); have : w.heap.size < yr.now.heap.size := (by omega); have : w.heap.size ≤ yr.now.heap.size := (by omega); have : w.heap.size < yr.now.heap.size + 1 + 1 := (by omega)))
        go_returns
        refine ⟨rfl, ?_⟩
        repeat' (first | (with_reducible exact Below.refl _ _) | (with_reducible assumption) | (with_reducible refine Ext.below _ ?_ ?_) | (with_reducible refine Below.on ?_ (by with_reducible assumption) ?_) | (with_reducible refine Below.alloc ?_ ?_ _) | (with_reducible refine Below.drew ?_) | (with_reducible refine Below.setCell ?_ ?_ _) | (with_reducible exact Nat.le_refl _) | omega | (simp; done) | (simp [go_sem]; done) | (simp at *; omega))
theorem rright_any (x : LandR) (a : Int) (w : World) (hP : NumsAt w x.pp x.pl) : Calls Tryd.prog 73 #[x.val, .int .i64 a] w (Gives (.bool (rightB x a)) w) := by
  have cc := fun (W : World) (y : Below w.heap.size w W) => rCheckLand_any x W (hP.on y)
  unfold rightB
  unfold LandR.val at *
  generalize landE x = E at *
  clear hP
  generalize x.pl.length = n at *
  by_cases hE : E = 0
  · by_cases h0 : 0 ≤ a
    · by_cases h1 : a < n
      · rw [decide_eq_true ⟨hE, h0, h1⟩]
        go_enter Tryd.func73, Tryd.ntmps73
        go_wp2_with (first | ((first | with_reducible refine wrx2 ?_ | with_reducible refine wrx ?_); (repeat (first | go_big_quiet_step ((first | (go_at_call 95; with_reducible exact Calls.ext (cc _ bcl)))) | quiet_step ((first | (go_at_call 95; with_reducible exact Calls.ext (cc _ bcl)))))); refine wpQuiet_nil ?_; rintro _ ⟨yr, rfl⟩; have syr := Ext.size yr; (repeat (first | rw [World.size_alloc] at syr | rw [World.size_setCell] at syr | rw [World.size_drew] at syr))) | (go_at_call 95; (first | with_reducible refine (Calls.giv2 (cc _ bcl)).mono ?_ | with_reducible refine (Calls.giv (cc _ bcl)).mono ?_); rintro _ _ ⟨y1, rfl, rfl⟩; have sy1 := Ext.size y1; (repeat (first | rw [World.size_alloc] at sy1 | rw [World.size_setCell] at sy1 | rw [World.size_drew] at sy1))))
        go_returns
        refine ⟨rfl, ?_⟩
        repeat' (first | (with_reducible exact Below.refl _ _) | (with_reducible assumption) | (with_reducible refine Ext.below _ ?_ ?_) | (with_reducible refine Below.on ?_ (by with_reducible assumption) ?_) | (with_reducible refine Below.alloc ?_ ?_ _) | (with_reducible refine Below.drew ?_) | (with_reducible refine Below.setCell ?_ ?_ _) | (with_reducible exact Nat.le_refl _) | omega | (simp; done) | (simp [go_sem]; done) | (simp at *; omega))
      · rw [decide_eq_false (fun q => h1 q.2.2)]
        go_enter Tryd.func73, Tryd.ntmps73
        go_wp2_with (first | ((first | with_reducible refine wrx2 ?_ | with_reducible refine wrx ?_); (repeat (first | go_big_quiet_step ((first | (go_at_call 95; with_reducible exact Calls.ext (cc _ bcl)))) | quiet_step ((first | (go_at_call 95; with_reducible exact Calls.ext (cc _ bcl)))))); refine wpQuiet_nil ?_; rintro _ ⟨yr, rfl⟩; have syr := Ext.size yr; (repeat (first | rw [World.size_alloc] at syr | rw [World.size_setCell] at syr | rw [World.size_drew] at syr))) | (go_at_call 95; (first | with_reducible refine (Calls.giv2 (cc _ bcl)).mono ?_ | with_reducible refine (Calls.giv (cc _ bcl)).mono ?_); rintro _ _ ⟨y1, rfl, rfl⟩; have sy1 := Ext.size y1; (repeat (first | rw [World.size_alloc] at sy1 | rw [World.size_setCell] at sy1 | rw [World.size_drew] at sy1))))
        go_returns
        refine ⟨ret_bool (decide_eq_false (by omega)), ?_⟩
        repeat' (first | (with_reducible exact Below.refl _ _) | (with_reducible assumption) | (with_reducible refine Ext.below _ ?_ ?_) | (with_reducible refine Below.on ?_ (by with_reducible assumption) ?_) | (with_reducible refine Below.alloc ?_ ?_ _) | (with_reducible refine Below.drew ?_) | (with_reducible refine Below.setCell ?_ ?_ _) | (with_reducible exact Nat.le_refl _) | omega | (simp; done) | (simp [go_sem]; done) | (simp at *; omega))
    · rw [decide_eq_false (fun q => h0 q.2.1)]
      go_enter Tryd.func73, Tryd.ntmps73
      go_wp2_with (first | ((first | with_reducible refine wrx2 ?_ | with_reducible refine wrx ?_); (repeat (first | go_big_quiet_step ((first | (go_at_call 95; with_reducible exact Calls.ext (cc _ bcl)))) | quiet_step ((first | (go_at_call 95; with_reducible exact Calls.ext (cc _ bcl)))))); refine wpQuiet_nil ?_; rintro _ ⟨yr, rfl⟩; have syr := Ext.size yr; (repeat (first | rw [World.size_alloc] at syr | rw [World.size_setCell] at syr | rw [World.size_drew] at syr))) | (go_at_call 95; (first | with_reducible refine (Calls.giv2 (cc _ bcl)).mono ?_ | with_reducible refine (Calls.giv (cc _ bcl)).mono ?_); rintro _ _ ⟨y1, rfl, rfl⟩; have sy1 := Ext.size y1; (repeat (first | rw [World.size_alloc] at sy1 | rw [World.size_setCell] at sy1 | rw [World.size_drew] at sy1))))
      go_returns
      refine ⟨rfl, ?_⟩
      repeat' (first | (with_reducible exact Below.refl _ _) | (with_reducible assumption) | (with_reducible refine Ext.below _ ?_ ?_) | (with_reducible refine Below.on ?_ (by with_reducible assumption) ?_) | (with_reducible refine Below.alloc ?_ ?_ _) | (with_reducible refine Below.drew ?_) | (with_reducible refine Below.setCell ?_ ?_ _) | (with_reducible exact Nat.le_refl _) | omega | (simp; done) | (simp [go_sem]; done) | (simp at *; omega))
  · rw [decide_eq_false (fun q => hE q.1)]
    go_enter Tryd.func73, Tryd.ntmps73
    go_wp2_with (first | ((first | with_reducible refine wrx2 ?_ | with_reducible refine wrx ?_); (repeat (first | go_big_quiet_step ((first | (go_at_call 95; with_reducible exact Calls.ext (cc _ bcl)))) | quiet_step ((first | (go_at_call 95; with_reducible exact Calls.ext (cc _ bcl)))))); refine wpQuiet_nil ?_; rintro _ ⟨yr, rfl⟩; have syr := Ext.size yr; (repeat (first | rw [World.size_alloc] at syr | rw [World.size_setCell] at syr | rw [World.size_drew] at syr))) | (go_at_call 95; (first | with_reducible refine (Calls.giv2 (cc _ bcl)).mono ?_ | with_reducible refine (Calls.giv (cc _ bcl)).mono ?_); rintro _ _ ⟨y1, rfl, rfl⟩; have sy1 := Ext.size y1; (repeat (first | rw [World.size_alloc] at sy1 | rw [World.size_setCell] at sy1 | rw [World.size_drew] at sy1))))
    go_returns
    refine ⟨rfl, ?_⟩
    repeat' (first | (with_reducible exact Below.refl _ _) | (with_reducible assumption) | (with_reducible refine Ext.below _ ?_ ?_) | (with_reducible refine Below.on ?_ (by with_reducible assumption) ?_) | (with_reducible refine Below.alloc ?_ ?_ _) | (with_reducible refine Below.drew ?_) | (with_reducible refine Below.setCell ?_ ?_ _) | (with_reducible exact Nat.le_refl _) | omega | (simp; done) | (simp [go_sem]; done) | (simp at *; omega))
set_option maxHeartbeats 4000000 in
theorem rharm_any (x : LandR) (a r : Int) (w : World) (hx : x.At w) (hok : x.Ok) (h0 : 0 ≤ a) (h1 : a < x.pl.length) (hr : 0 ≤ r) (hr4 : r ≤ 400) : Calls Tryd.prog 97 #[x.val, .int .i64 a, .int .i64 r] w (Gives (.int .i64 (harmV x a r)) w) := by
  have hE0 := hsum_harm x (a := a) hr
  rw [show min r 400 = r by omega] at hE0
  obtain ⟨V, hV⟩ : ∃ V, harmV x a r = V := ⟨_, rfl⟩
  rw [hV] at hE0 ⊢
  clear hV
  have hle := hok.le
  have hnum := Go.Lib.hid hok.num
  have hP := Go.Lib.hid hx.nums
  unfold LandR.val
  replace hE0 := Go.Lib.hid hE0
  clear hx hok
  generalize x.pl = l at *
  generalize x.pp = p at *
  generalize x.pc = c at *
  generalize x.wp = q at *
  generalize x.wc = d at *
  generalize x.wl.length = m at *
  have wn : wrap64 (-r) = -r := IntWalk.wrap64_in _ (by omega)
  go_enter Tryd.func97, Tryd.ntmps97
  go_wp2_with (first | ((first | with_reducible refine wrx2 ?_ | with_reducible refine wrx ?_); (repeat (first | go_big_quiet_step ((first | fail)) | quiet_step ((first | fail)))); refine wpQuiet_nil ?_; rintro _ ⟨yr, rfl⟩; have syr := Ext.size yr; (repeat (first | rw [World.size_alloc] at syr | rw [World.size_setCell] at syr | rw [World.size_drew] at syr)); have : w.heap.size < yr.now.heap.size := (by omega); have : w.heap.size ≤ yr.now.heap.size := (by omega); have : w.heap.size < yr.now.heap.size + 1 + 1 := (by omega)))
  refine wp_named (fun W0 hW => ?_)
  have a0 : W0.cell? ⟨w.heap.size, 0, none⟩ = some (.slice p l.length c) := by rw [← hW]; simp [go_sem]
  have hB0 : Below w.heap.size w W0 := by rw [← hW]; repeat' (first | (with_reducible exact Below.refl _ _) | (with_reducible assumption) | (with_reducible refine Ext.below _ ?_ ?_) | (with_reducible refine Below.on ?_ (by with_reducible assumption) ?_) | (with_reducible refine Below.alloc ?_ ?_ _) | (with_reducible refine Below.drew ?_) | (with_reducible refine Below.setCell ?_ ?_ _) | (with_reducible exact Nat.le_refl _) | omega | (simp; done) | (simp [go_sem]; done) | (simp at *; omega))
  have hs0 : w.heap.size < W0.heap.size := by rw [← hW]; simp
  clear hW
  have hP0 := Go.Lib.hid (hP.out.on hB0)
  go_loopw [7, 8] (fun u s W => ∃ (i : Nat) (acc : Int) (x : Ext W0), u = .int .i64 acc ∧ s = .int .i64 i ∧ W = x.now ∧ Hid (i ≤ l.length ∧ (0 ≤ acc ∧ acc ≤ 4294967296 * i) ∧ acc + hsum (a - r) (a + r) (l.drop i) i = V)) (fun _ s _ => l.length - (intOf s).toNat)
  case atStart => exact ⟨0, 0, ⟨W0, Below.refl _ _⟩, rfl, rfl, rfl, Go.Lib.hid ⟨Nat.zero_le _, by omega, by simpa using hE0.out⟩⟩
  case round =>
    obtain ⟨i, acc, x, rfl, rfl, rfl, hi⟩ := hrel
    have xs := x.size
    by_cases hlt : i < l.length
    · have hlt2 : (i : Int) < l.length := by omega
      obtain ⟨B, o, rfl, hB, c1⟩ := hP0.out i hlt
      obtain ⟨-, ⟨b1, b2⟩, hE⟩ := hi.out
      rw [drop_at hlt, hsum] at hE
      have hn := hnum.out l[i] (List.getElem_mem hlt)
      have hi4 : (i : Int) ≤ 400 := by omega
      have ws : wrap64 ((i : Int) - a) = (i : Int) - a := IntWalk.wrap64_in _ (by omega)
      have hb := fun W => rbetween_any ((i : Int) - a) (-r) r W
      by_cases hin : a - r ≤ (i : Int) ∧ (i : Int) ≤ a + r
      · rw [if_pos hin] at hE
        rw [decide_eq_true (show -r ≤ (i : Int) - a ∧ (i : Int) - a ≤ r by omega)] at hb
        have key : Hid (i + 1 ≤ l.length ∧ (0 ≤ acc + l[i] ∧ acc + l[i] ≤ 4294967296 * ((i + 1 : Nat) : Int)) ∧ acc + l[i] + hsum (a - r) (a + r) (l.drop (i + 1)) ((i + 1 : Nat) : Int) = V) := Go.Lib.hid ⟨hlt, by omega, by rw [← hE]; simp; omega⟩
        have wa : wrap64 (acc + l[i]) = acc + l[i] := IntWalk.wrap64_in _ (by omega)
        clear hE hi hin b1 b2
        generalize l[i] = t1 at *
        go_wp2_with (first | ((first | with_reducible refine wrx2 ?_ | with_reducible refine wrx ?_); (repeat (first | go_big_quiet_step ((first | (go_at_call 102; with_reducible exact Calls.ext (hb _)))) | quiet_step ((first | (go_at_call 102; with_reducible exact Calls.ext (hb _)))))); refine wpQuiet_nil ?_; rintro _ ⟨yr, rfl⟩; have syr := Ext.size yr; (repeat (first | rw [World.size_alloc] at syr | rw [World.size_setCell] at syr | rw [World.size_drew] at syr)); have : w.heap.size < yr.now.heap.size := (by omega); have : w.heap.size ≤ yr.now.heap.size := (by omega); have : w.heap.size < yr.now.heap.size + 1 + 1 := (by omega); have : B < yr.now.heap.size := (by omega); have : B ≤ yr.now.heap.size := (by omega); have : B < yr.now.heap.size + 1 + 1 := (by omega)) | (go_at_call 102; (first | with_reducible refine (Calls.giv2 (hb _)).mono ?_ | with_reducible refine (Calls.giv (hb _)).mono ?_); rintro _ _ ⟨y1, rfl, rfl⟩; have sy1 := Ext.size y1; (repeat (first | rw [World.size_alloc] at sy1 | rw [World.size_setCell] at sy1 | rw [World.size_drew] at sy1)); have : w.heap.size < y1.now.heap.size := (by omega); have : w.heap.size ≤ y1.now.heap.size := (by omega); have : w.heap.size < y1.now.heap.size + 1 + 1 := (by omega); have : B < y1.now.heap.size := (by omega); have : B ≤ y1.now.heap.size := (by omega); have : B < y1.now.heap.size + 1 + 1 := (by omega)))
        exact ⟨⟨i + 1, acc + t1, ⟨_, by repeat' (first | (with_reducible exact Below.refl _ _) | (with_reducible assumption) | (with_reducible refine Ext.below _ ?_ ?_) | (with_reducible refine Below.on ?_ (by with_reducible assumption) ?_) | (with_reducible refine Below.alloc ?_ ?_ _) | (with_reducible refine Below.drew ?_) | (with_reducible refine Below.setCell ?_ ?_ _) | (with_reducible exact Nat.le_refl _) | omega | (simp; done) | (simp [go_sem]; done) | (simp at *; omega))⟩, by simp [wa], by simp, rfl, key⟩, by simp [intOf]; omega⟩
      · rw [if_neg hin] at hE
        rw [decide_eq_false (show ¬ (-r ≤ (i : Int) - a ∧ (i : Int) - a ≤ r) by omega)] at hb
        have key : Hid (i + 1 ≤ l.length ∧ (0 ≤ acc ∧ acc ≤ 4294967296 * ((i + 1 : Nat) : Int)) ∧ acc + hsum (a - r) (a + r) (l.drop (i + 1)) ((i + 1 : Nat) : Int) = V) := Go.Lib.hid ⟨hlt, by omega, by rw [← hE]; simp⟩
        clear hE hi hin b1 b2
        generalize l[i] = t1 at *
        go_wp2_with (first | ((first | with_reducible refine wrx2 ?_ | with_reducible refine wrx ?_); (repeat (first | go_big_quiet_step ((first | (go_at_call 102; with_reducible exact Calls.ext (hb _)))) | quiet_step ((first | (go_at_call 102; with_reducible exact Calls.ext (hb _)))))); refine wpQuiet_nil ?_; rintro _ ⟨yr, rfl⟩; have syr := Ext.size yr; (repeat (first | rw [World.size_alloc] at syr | rw [World.size_setCell] at syr | rw [World.size_drew] at syr)); have : w.heap.size < yr.now.heap.size := (by omega); have : w.heap.size ≤ yr.now.heap.size := (by omega); have : w.heap.size < yr.now.heap.size + 1 + 1 := (by omega); have : B < yr.now.heap.size := (by omega); have : B ≤ yr.now.heap.size := (by omega); have : B < yr.now.heap.size + 1 + 1 := (by omega)) | (go_at_call 102; (first | with_reducible refine (Calls.giv2 (hb _)).mono ?_ | with_reducible refine (Calls.giv (hb _)).mono ?_); rintro _ _ ⟨y1, rfl, rfl⟩; have sy1 := Ext.size y1; (repeat (first | rw [World.size_alloc] at sy1 | rw [World.size_setCell] at sy1 | rw [World.size_drew] at sy1)); have : w.heap.size < y1.now.heap.size := (by omega); have : w.heap.size ≤ y1.now.heap.size := (by omega); have : w.heap.size < y1.now.heap.size + 1 + 1 := (by omega); have : B < y1.now.heap.size := (by omega); have : B ≤ y1.now.heap.size := (by omega); have : B < y1.now.heap.size + 1 + 1 := (by omega)))
        exact ⟨⟨i + 1, acc, ⟨_, by repeat' (first | (with_reducible exact Below.refl _ _) | (with_reducible assumption) | (with_reducible refine Ext.below _ ?_ ?_) | (with_reducible refine Below.on ?_ (by with_reducible assumption) ?_) | (with_reducible refine Below.alloc ?_ ?_ _) | (with_reducible refine Below.drew ?_) | (with_reducible refine Below.setCell ?_ ?_ _) | (with_reducible exact Nat.le_refl _) | omega | (simp; done) | (simp [go_sem]; done) | (simp at *; omega))⟩, by simp, by simp, rfl, key⟩, by simp [intOf]; omega⟩
    · have hge : ¬ (i : Int) < l.length := by omega
      have eV : V = acc := by have hE := hi.out.2.2; rw [drop_end hlt, hsum] at hE; omega
      clear hi
      subst eV
      go_wp2_with (first | ((first | with_reducible refine wrx2 ?_ | with_reducible refine wrx ?_); (repeat (first | go_big_quiet_step ((first | fail)) | quiet_step ((first | fail)))); refine wpQuiet_nil ?_; rintro _ ⟨yr, rfl⟩; have syr := Ext.size yr; (repeat (first | rw [World.size_alloc] at syr | rw [World.size_setCell] at syr | rw [World.size_drew] at syr)); have : w.heap.size < yr.now.heap.size := (by omega); have : w.heap.size ≤ yr.now.heap.size := (by omega); have : w.heap.size < yr.now.heap.size + 1 + 1 := (by omega)))
      go_returns
      refine ⟨rfl, ?_⟩
      repeat' (first | (with_reducible exact Below.refl _ _) | (with_reducible assumption) | (with_reducible refine Ext.below _ ?_ ?_) | (with_reducible refine Below.on ?_ (by with_reducible assumption) ?_) | (with_reducible refine Below.alloc ?_ ?_ _) | (with_reducible refine Below.drew ?_) | (with_reducible refine Below.setCell ?_ ?_ _) | (with_reducible exact Nat.le_refl _) | omega | (simp; done) | (simp [go_sem]; done) | (simp at *; omega))
theorem rootI_le {n : Int} (h0 : 0 ≤ n) (h1 : n < 9223372036854775808) : 0 ≤ rootI n ∧ rootI n ≤ n := by
  obtain ⟨a, b, -⟩ := rootI_spec h0 (by omega)
  refine ⟨a, Int.le_trans ?_ b⟩
  by_cases q : rootI n = 0
  · rw [q]; decide
  · have := Int.mul_le_mul_of_nonneg_left (show 1 ≤ rootI n by omega) a
    omega
theorem root00 : rootI (rootI 0) = 0 := by
  have h := rootI_le (n := 0) (by decide) (by decide)
  have e : rootI 0 = 0 := by omega
  rw [e, e]
theorem Crater_any (e : Int) (w : World) (h : I64 e) : Calls Tryd.prog 29 #[.int .i64 e] w (Gives (.int .i64 (craterV e)) w) := by
  have hm : I64 (max e 0) := by unfold I64 at *; omega
  have c1 := fun W => Root_any (max e 0) W hm
  have hr : I64 (rootI (max e 0)) := by
    obtain ⟨q1, q2⟩ := rootI_le (show 0 ≤ max e 0 by omega) (by unfold I64 at h; omega)
    unfold I64 at *; omega
  have c2 := fun W => Root_any (rootI (max e 0)) W hr
  have eV : rootI (rootI (max e 0)) = craterV e := by
    unfold craterV
    by_cases q : e < 0
    · rw [if_pos q, show max e 0 = 0 by omega]; exact root00
    · rw [if_neg q, show max e 0 = e by omega]
  rw [eV] at c2
  generalize rootI (max e 0) = R at *
  obtain ⟨M, hM⟩ : ∃ M, max e 0 = M := ⟨_, rfl⟩
  rw [hM] at c1
  go_enter Tryd.func29, Tryd.ntmps29
  go_wp2_with (first | ((first | with_reducible refine wrx2 ?_ | with_reducible refine wrx ?_); (repeat (first | go_big_quiet_step ((first | (go_at_call 55; with_reducible exact Calls.ext (c1 _)) | (go_at_call 55; with_reducible exact Calls.ext (c2 _)))) | quiet_step ((first | (go_at_call 55; with_reducible exact Calls.ext (c1 _)) | (go_at_call 55; with_reducible exact Calls.ext (c2 _)))))); refine wpQuiet_nil ?_; rintro _ ⟨yr, rfl⟩; have syr := Ext.size yr; (repeat (first | rw [World.size_alloc] at syr | rw [World.size_setCell] at syr | rw [World.size_drew] at syr))) | (go_at_call 55; (first | with_reducible refine (Calls.giv2 (c1 _)).mono ?_ | with_reducible refine (Calls.giv (c1 _)).mono ?_); rintro _ _ ⟨y1, rfl, rfl⟩; have sy1 := Ext.size y1; (repeat (first | rw [World.size_alloc] at sy1 | rw [World.size_setCell] at sy1 | rw [World.size_drew] at sy1))) | (go_at_call 55; (first | with_reducible refine (Calls.giv2 (c2 _)).mono ?_ | with_reducible refine (Calls.giv (c2 _)).mono ?_); rintro _ _ ⟨y2, rfl, rfl⟩; have sy2 := Ext.size y2; (repeat (first | rw [World.size_alloc] at sy2 | rw [World.size_setCell] at sy2 | rw [World.size_drew] at sy2))))
  all_goals go_returns
  all_goals refine ⟨rfl, ?_⟩
  repeat' (first | (with_reducible exact Below.refl _ _) | (with_reducible assumption) | (with_reducible refine Ext.below _ ?_ ?_) | (with_reducible refine Below.on ?_ (by with_reducible assumption) ?_) | (with_reducible refine Below.alloc ?_ ?_ _) | (with_reducible refine Below.drew ?_) | (with_reducible refine Below.setCell ?_ ?_ _) | (with_reducible exact Nat.le_refl _) | omega | (simp; done) | (simp [go_sem]; done) | (simp at *; omega))
end Go.Proofs.YtlmhbggigbmeaaaDoor

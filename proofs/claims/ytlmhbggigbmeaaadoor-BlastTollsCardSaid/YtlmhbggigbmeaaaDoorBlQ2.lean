/- The reference's CheckGrades, reach and Reach, for any grades. Condition: the grades stand in memory, at most 1000. -/
import Derived.Test.YtlmhbggigbmeaaaDoorBlHG
import Derived.Test.YtlmhbggigbmeaaaDoorBlC1G
namespace Go.Proofs.YtlmhbggigbmeaaaDoor
open Go.RowKit Go.Shelf
attribute [local go_sem] Option.isSome_some Ext.cell Ext.frozen Ext.lt Ext.le Ext.lt_add Ext.le_add Ext.ne Ext.ne' lt2 lt3 lt4 lt5 le2 le3 le4
set_option maxRecDepth 100000 in
set_option maxHeartbeats 8000000 in
theorem rCheckGrades_any (p : Option Addr) (c : Nat) (l : List V2) (w : World) (hP : VecsAt w p l) : Calls Tryd.prog 94 #[.slice p l.length c] w (Gives (.int .i64 (gradesE l)) w) := by
  unfold gradesE
  by_cases h0 : l.length = 0
  · rw [if_pos h0]
    have h02 : (l.length : Int) = 0 := by omega
    generalize l.length = n at *
    clear hP
    go_enter Tryd.func94, Tryd.ntmps94
    go_wp2_with (first | ((first | with_reducible refine wrx2 ?_ | with_reducible refine wrx ?_); (repeat (first | go_big_quiet_step ((first | fail)) | quiet_step ((first | fail)))); refine wpQuiet_nil ?_; rintro _ ⟨yr, rfl⟩; have syr := Ext.size yr; (repeat (first | rw [World.size_alloc] at syr | rw [World.size_setCell] at syr | rw [World.size_drew] at syr))))
    go_returns
    refine ⟨rfl, ?_⟩
    repeat' (first | (with_reducible exact Below.refl _ _) | (with_reducible assumption) | (with_reducible refine Ext.below _ ?_ ?_) | (with_reducible refine Below.on ?_ (by with_reducible assumption) ?_) | (with_reducible refine Below.alloc ?_ ?_ _) | (with_reducible refine Below.drew ?_) | (with_reducible refine Below.setCell ?_ ?_ _) | (with_reducible exact Nat.le_refl _) | omega | (simp; done) | (simp [go_sem]; done) | (simp at *; omega))
  rw [if_neg h0]
  have h02 : ¬ (l.length : Int) = 0 := by omega
  have h03 : ((l.length : Int) == 0) = false := by rw [beq_eq_false_iff_ne]; exact h02
  by_cases hc : 32 < l.length
  · rw [if_pos hc]
    have hc2 : 32 < (l.length : Int) := by omega
    generalize l.length = n at *
    clear hP
    go_enter Tryd.func94, Tryd.ntmps94
    go_wp2_with (first | ((first | with_reducible refine wrx2 ?_ | with_reducible refine wrx ?_); (repeat (first | go_big_quiet_step ((first | fail)) | quiet_step ((first | fail)))); refine wpQuiet_nil ?_; rintro _ ⟨yr, rfl⟩; have syr := Ext.size yr; (repeat (first | rw [World.size_alloc] at syr | rw [World.size_setCell] at syr | rw [World.size_drew] at syr))))
    go_returns
    refine ⟨rfl, ?_⟩
    repeat' (first | (with_reducible exact Below.refl _ _) | (with_reducible assumption) | (with_reducible refine Ext.below _ ?_ ?_) | (with_reducible refine Below.on ?_ (by with_reducible assumption) ?_) | (with_reducible refine Below.alloc ?_ ?_ _) | (with_reducible refine Below.drew ?_) | (with_reducible refine Below.setCell ?_ ?_ _) | (with_reducible exact Nat.le_refl _) | omega | (simp; done) | (simp [go_sem]; done) | (simp at *; omega))
  rw [if_neg hc]
  have hc2 : ¬ 32 < (l.length : Int) := by omega
  obtain ⟨V, hV⟩ : ∃ V, grE none l = V := ⟨_, rfl⟩
  rw [hV]
  replace hV := Go.Lib.hid hV
  replace hP := Go.Lib.hid hP
  clear h0
  go_enter Tryd.func94, Tryd.ntmps94
  go_wp2_with (first | ((first | with_reducible refine wrx2 ?_ | with_reducible refine wrx ?_); (repeat (first | go_big_quiet_step ((first | fail)) | quiet_step ((first | fail)))); refine wpQuiet_nil ?_; rintro _ ⟨yr, rfl⟩; have syr := Ext.size yr; (repeat (first | rw [World.size_alloc] at syr | rw [World.size_setCell] at syr | rw [World.size_drew] at syr))))
  clear h02 h03 hc2
  go_loopw [3] (fun s W => ∃ (i : Nat) (x : Ext w), s = .int .i64 i ∧ W = x.now ∧ Hid (i ≤ l.length ∧ grE (prv l i) (l.drop i) = V)) (fun s _ => l.length - (intOf s).toNat)
  case atStart => exact ⟨0, ⟨w, Below.refl _ _⟩, rfl, rfl, Go.Lib.hid ⟨Nat.zero_le _, by simpa [prv] using hV.out⟩⟩
  case round =>
    obtain ⟨i, x, rfl, rfl, hi⟩ := hrel
    have xs := x.size
    by_cases hlt : i < l.length
    · have hlt2 : (i : Int) < l.length := by omega
      obtain ⟨B, o, hp, hB, c1, c2⟩ := hP.out i hlt
      have hE := hi.out.2
      rw [drop_at hlt] at hE
      have hi32 : i ≤ 32 := by omega
      clear hi
      subst hp
      have : B < (x.now).heap.size := (by omega); have : B < (x.now).heap.size + 1 := (by omega); have : B < (x.now).heap.size + 1 + 1 := (by omega); have : B ≠ (x.now).heap.size := (by omega); have : B ≠ (x.now).heap.size + 1 := (by omega)
      have b1 := fun W => rbetween_any l[i].x 0 1152921504606846976 W
      have b2 := fun W => rbetween_any l[i].y 0 400 W
      by_cases hr1 : 0 ≤ l[i].x ∧ l[i].x ≤ 1152921504606846976
      · rw [decide_eq_true hr1] at b1
        by_cases hr2 : 0 ≤ l[i].y ∧ l[i].y ≤ 400
        · rw [decide_eq_true hr2] at b2
          have hr := And.intro hr1 hr2
          cases i with
          | zero =>
            have key : Hid (0 + 1 ≤ l.length ∧ grE (prv l (0 + 1)) (l.drop (0 + 1)) = V) := Go.Lib.hid ⟨hlt, by have := grE_in hE hr (by intro q e; cases e); simpa [prv, hlt] using this⟩
            clear hE hV hr hr1 hr2
            generalize l[0].x = t1 at *
            generalize l[0].y = t2 at *
            simp only [Nat.zero_mul, Nat.add_zero] at c1 c2
            go_wp2_with (first | ((first | with_reducible refine wrx2 ?_ | with_reducible refine wrx ?_); (repeat (first | go_big_quiet_step ((first | (go_at_call 102; with_reducible exact Calls.ext (b1 _)) | (go_at_call 102; with_reducible exact Calls.ext (b2 _)))) | quiet_step ((first | (go_at_call 102; with_reducible exact Calls.ext (b1 _)) | (go_at_call 102; with_reducible exact Calls.ext (b2 _)))))); refine wpQuiet_nil ?_; rintro _ ⟨yr, rfl⟩; have syr := Ext.size yr; (repeat (first | rw [World.size_alloc] at syr | rw [World.size_setCell] at syr | rw [World.size_drew] at syr)); have : B < yr.now.heap.size := (by omega); have : B ≤ yr.now.heap.size := (by omega); have : B < yr.now.heap.size + 1 + 1 := (by omega)) | (go_at_call 102; (first | with_reducible refine (Calls.giv2 (b1 _)).mono ?_ | with_reducible refine (Calls.giv (b1 _)).mono ?_); rintro _ _ ⟨y1, rfl, rfl⟩; have sy1 := Ext.size y1; (repeat (first | rw [World.size_alloc] at sy1 | rw [World.size_setCell] at sy1 | rw [World.size_drew] at sy1)); have : B < y1.now.heap.size := (by omega); have : B ≤ y1.now.heap.size := (by omega); have : B < y1.now.heap.size + 1 + 1 := (by omega)) | (go_at_call 102; (first | with_reducible refine (Calls.giv2 (b2 _)).mono ?_ | with_reducible refine (Calls.giv (b2 _)).mono ?_); rintro _ _ ⟨y2, rfl, rfl⟩; have sy2 := Ext.size y2; (repeat (first | rw [World.size_alloc] at sy2 | rw [World.size_setCell] at sy2 | rw [World.size_drew] at sy2)); have : B < y2.now.heap.size := (by omega); have : B ≤ y2.now.heap.size := (by omega); have : B < y2.now.heap.size + 1 + 1 := (by omega)))
            exact ⟨⟨1, ⟨_, by repeat' (first | (with_reducible exact Below.refl _ _) | (with_reducible assumption) | (with_reducible refine Ext.below _ ?_ ?_) | (with_reducible refine Below.on ?_ (by with_reducible assumption) ?_) | (with_reducible refine Below.alloc ?_ ?_ _) | (with_reducible refine Below.drew ?_) | (with_reducible refine Below.setCell ?_ ?_ _) | (with_reducible exact Nat.le_refl _) | omega | (simp; done) | (simp [go_sem]; done) | (simp at *; omega))⟩, by simp, rfl, key⟩, by simp [intOf]; omega⟩
          | succ j =>
            obtain ⟨B', o', hp', hB', d1, d2⟩ := hP.out j (by omega)
            injection hp' with hp'
            injection hp' with e1 e2
            subst e1 e2
            have hj2 : (j : Int) < l.length := by omega
            have hj3 : (0 : Int) ≤ (j : Int) + 1 := by omega
            have hj4 : IntKind.i64.wrap (j : Int) = j := IntWalk.i64_in _ ⟨by omega, by omega⟩
            have hj6 : (0 : Int) ≤ j := by omega
            have hpj : prv l (j + 1) = some l[j] := by simp [prv, show j < l.length by omega]
            by_cases hu : l[j].x < l[j + 1].x ∧ l[j].y ≤ l[j + 1].y
            · have key : Hid (j + 1 + 1 ≤ l.length ∧ grE (prv l (j + 1 + 1)) (l.drop (j + 1 + 1)) = V) := Go.Lib.hid ⟨hlt, by have := grE_in hE hr (by intro q e; rw [hpj] at e; injection e with e; subst e; exact hu); simpa [prv, hlt] using this⟩
              clear hE hV hpj hr hr1 hr2
              obtain ⟨u1, u2⟩ := hu
              generalize l[j + 1].x = t1 at *
              generalize l[j + 1].y = t2 at *
              generalize l[j].x = t3 at *
              generalize l[j].y = t4 at *
              have u3 : ¬ t1 ≤ t3 := by omega
              have u4 : ¬ t2 < t4 := by omega
              clear hB' u1 u2
              go_wp2_with (first | ((first | with_reducible refine wrx2 ?_ | with_reducible refine wrx ?_); (repeat (first | go_big_quiet_step ((first | (go_at_call 102; with_reducible exact Calls.ext (b1 _)) | (go_at_call 102; with_reducible exact Calls.ext (b2 _)))) | quiet_step ((first | (go_at_call 102; with_reducible exact Calls.ext (b1 _)) | (go_at_call 102; with_reducible exact Calls.ext (b2 _)))))); refine wpQuiet_nil ?_; rintro _ ⟨yr, rfl⟩; have syr := Ext.size yr; (repeat (first | rw [World.size_alloc] at syr | rw [World.size_setCell] at syr | rw [World.size_drew] at syr)); have : B < yr.now.heap.size := (by omega); have : B ≤ yr.now.heap.size := (by omega); have : B < yr.now.heap.size + 1 + 1 := (by omega)) | (go_at_call 102; (first | with_reducible refine (Calls.giv2 (b1 _)).mono ?_ | with_reducible refine (Calls.giv (b1 _)).mono ?_); rintro _ _ ⟨y1, rfl, rfl⟩; have sy1 := Ext.size y1; (repeat (first | rw [World.size_alloc] at sy1 | rw [World.size_setCell] at sy1 | rw [World.size_drew] at sy1)); have : B < y1.now.heap.size := (by omega); have : B ≤ y1.now.heap.size := (by omega); have : B < y1.now.heap.size + 1 + 1 := (by omega)) | (go_at_call 102; (first | with_reducible refine (Calls.giv2 (b2 _)).mono ?_ | with_reducible refine (Calls.giv (b2 _)).mono ?_); rintro _ _ ⟨y2, rfl, rfl⟩; have sy2 := Ext.size y2; (repeat (first | rw [World.size_alloc] at sy2 | rw [World.size_setCell] at sy2 | rw [World.size_drew] at sy2)); have : B < y2.now.heap.size := (by omega); have : B ≤ y2.now.heap.size := (by omega); have : B < y2.now.heap.size + 1 + 1 := (by omega)))
              exact ⟨⟨j + 1 + 1, ⟨_, by repeat' (first | (with_reducible exact Below.refl _ _) | (with_reducible assumption) | (with_reducible refine Ext.below _ ?_ ?_) | (with_reducible refine Below.on ?_ (by with_reducible assumption) ?_) | (with_reducible refine Below.alloc ?_ ?_ _) | (with_reducible refine Below.drew ?_) | (with_reducible refine Below.setCell ?_ ?_ _) | (with_reducible exact Nat.le_refl _) | omega | (simp; done) | (simp [go_sem]; done) | (simp at *; omega))⟩, by simp, rfl, key⟩, by simp [intOf]; omega⟩
            · have eV : V = 11 := grE_order hE hr hpj (by omega)
              clear hE hV hpj hr hr1 hr2
              subst eV
              generalize l[j + 1].x = t1 at *
              generalize l[j + 1].y = t2 at *
              generalize l[j].x = t3 at *
              generalize l[j].y = t4 at *
              clear hB'
              rcases (show t1 ≤ t3 ∨ (¬ t1 ≤ t3 ∧ t2 < t4) by omega) with u1 | ⟨u1, u2⟩
              all_goals
                clear hu
                go_wp2_with (first | ((first | with_reducible refine wrx2 ?_ | with_reducible refine wrx ?_); (repeat (first | go_big_quiet_step ((first | (go_at_call 102; with_reducible exact Calls.ext (b1 _)) | (go_at_call 102; with_reducible exact Calls.ext (b2 _)))) | quiet_step ((first | (go_at_call 102; with_reducible exact Calls.ext (b1 _)) | (go_at_call 102; with_reducible exact Calls.ext (b2 _)))))); refine wpQuiet_nil ?_; rintro _ ⟨yr, rfl⟩; have syr := Ext.size yr; (repeat (first | rw [World.size_alloc] at syr | rw [World.size_setCell] at syr | rw [World.size_drew] at syr)); have : B < yr.now.heap.size := (by omega); have : B ≤ yr.now.heap.size := (by omega); have : B < yr.now.heap.size + 1 + 1 := (by omega)) | (go_at_call 102; (first | with_reducible refine (Calls.giv2 (b1 _)).mono ?_ | with_reducible refine (Calls.giv (b1 _)).mono ?_); rintro _ _ ⟨y1, rfl, rfl⟩; have sy1 := Ext.size y1; (repeat (first | rw [World.size_alloc] at sy1 | rw [World.size_setCell] at sy1 | rw [World.size_drew] at sy1)); have : B < y1.now.heap.size := (by omega); have : B ≤ y1.now.heap.size := (by omega); have : B < y1.now.heap.size + 1 + 1 := (by omega)) | (go_at_call 102; (first | with_reducible refine (Calls.giv2 (b2 _)).mono ?_ | with_reducible refine (Calls.giv (b2 _)).mono ?_); rintro _ _ ⟨y2, rfl, rfl⟩; have sy2 := Ext.size y2; (repeat (first | rw [World.size_alloc] at sy2 | rw [World.size_setCell] at sy2 | rw [World.size_drew] at sy2)); have : B < y2.now.heap.size := (by omega); have : B ≤ y2.now.heap.size := (by omega); have : B < y2.now.heap.size + 1 + 1 := (by omega)))
                go_returns
                refine ⟨rfl, ?_⟩
                repeat' (first | (with_reducible exact Below.refl _ _) | (with_reducible assumption) | (with_reducible refine Ext.below _ ?_ ?_) | (with_reducible refine Below.on ?_ (by with_reducible assumption) ?_) | (with_reducible refine Below.alloc ?_ ?_ _) | (with_reducible refine Below.drew ?_) | (with_reducible refine Below.setCell ?_ ?_ _) | (with_reducible exact Nat.le_refl _) | omega | (simp; done) | (simp [go_sem]; done) | (simp at *; omega))
        · rw [decide_eq_false hr2] at b2
          have eV : V = 2 := grE_range hE (fun q => hr2 q.2)
          clear hE hV hr1 hr2
          subst eV
          generalize l[i].x = t1 at *
          generalize l[i].y = t2 at *
          go_wp2_with (first | ((first | with_reducible refine wrx2 ?_ | with_reducible refine wrx ?_); (repeat (first | go_big_quiet_step ((first | (go_at_call 102; with_reducible exact Calls.ext (b1 _)) | (go_at_call 102; with_reducible exact Calls.ext (b2 _)))) | quiet_step ((first | (go_at_call 102; with_reducible exact Calls.ext (b1 _)) | (go_at_call 102; with_reducible exact Calls.ext (b2 _)))))); refine wpQuiet_nil ?_; rintro _ ⟨yr, rfl⟩; have syr := Ext.size yr; (repeat (first | rw [World.size_alloc] at syr | rw [World.size_setCell] at syr | rw [World.size_drew] at syr)); have : B < yr.now.heap.size := (by omega); have : B ≤ yr.now.heap.size := (by omega); have : B < yr.now.heap.size + 1 + 1 := (by omega)) | (go_at_call 102; (first | with_reducible refine (Calls.giv2 (b1 _)).mono ?_ | with_reducible refine (Calls.giv (b1 _)).mono ?_); rintro _ _ ⟨y1, rfl, rfl⟩; have sy1 := Ext.size y1; (repeat (first | rw [World.size_alloc] at sy1 | rw [World.size_setCell] at sy1 | rw [World.size_drew] at sy1)); have : B < y1.now.heap.size := (by omega); have : B ≤ y1.now.heap.size := (by omega); have : B < y1.now.heap.size + 1 + 1 := (by omega)) | (go_at_call 102; (first | with_reducible refine (Calls.giv2 (b2 _)).mono ?_ | with_reducible refine (Calls.giv (b2 _)).mono ?_); rintro _ _ ⟨y2, rfl, rfl⟩; have sy2 := Ext.size y2; (repeat (first | rw [World.size_alloc] at sy2 | rw [World.size_setCell] at sy2 | rw [World.size_drew] at sy2)); have : B < y2.now.heap.size := (by omega); have : B ≤ y2.now.heap.size := (by omega); have : B < y2.now.heap.size + 1 + 1 := (by omega)))
          go_returns
          refine ⟨rfl, ?_⟩
          repeat' (first | (with_reducible exact Below.refl _ _) | (with_reducible assumption) | (with_reducible refine Ext.below _ ?_ ?_) | (with_reducible refine Below.on ?_ (by with_reducible assumption) ?_) | (with_reducible refine Below.alloc ?_ ?_ _) | (with_reducible refine Below.drew ?_) | (with_reducible refine Below.setCell ?_ ?_ _) | (with_reducible exact Nat.le_refl _) | omega | (simp; done) | (simp [go_sem]; done) | (simp at *; omega))
      · rw [decide_eq_false hr1] at b1
        have eV : V = 2 := grE_range hE (fun q => hr1 q.1)
        clear hE hV hr1 b2
        subst eV
        generalize l[i].x = t1 at *
        go_wp2_with (first | ((first | with_reducible refine wrx2 ?_ | with_reducible refine wrx ?_); (repeat (first | go_big_quiet_step ((first | (go_at_call 102; with_reducible exact Calls.ext (b1 _)))) | quiet_step ((first | (go_at_call 102; with_reducible exact Calls.ext (b1 _)))))); refine wpQuiet_nil ?_; rintro _ ⟨yr, rfl⟩; have syr := Ext.size yr; (repeat (first | rw [World.size_alloc] at syr | rw [World.size_setCell] at syr | rw [World.size_drew] at syr)); have : B < yr.now.heap.size := (by omega); have : B ≤ yr.now.heap.size := (by omega); have : B < yr.now.heap.size + 1 + 1 := (by omega)) | (go_at_call 102; (first | with_reducible refine (Calls.giv2 (b1 _)).mono ?_ | with_reducible refine (Calls.giv (b1 _)).mono ?_); rintro _ _ ⟨y1, rfl, rfl⟩; have sy1 := Ext.size y1; (repeat (first | rw [World.size_alloc] at sy1 | rw [World.size_setCell] at sy1 | rw [World.size_drew] at sy1)); have : B < y1.now.heap.size := (by omega); have : B ≤ y1.now.heap.size := (by omega); have : B < y1.now.heap.size + 1 + 1 := (by omega)))
        go_returns
        refine ⟨rfl, ?_⟩
        repeat' (first | (with_reducible exact Below.refl _ _) | (with_reducible assumption) | (with_reducible refine Ext.below _ ?_ ?_) | (with_reducible refine Below.on ?_ (by with_reducible assumption) ?_) | (with_reducible refine Below.alloc ?_ ?_ _) | (with_reducible refine Below.drew ?_) | (with_reducible refine Below.setCell ?_ ?_ _) | (with_reducible exact Nat.le_refl _) | omega | (simp; done) | (simp [go_sem]; done) | (simp at *; omega))
    · have hge : ¬ (i : Int) < l.length := by omega
      have eV : V = 0 := by have hE := hi.out.2; rw [drop_end hlt, grE] at hE; exact hE.symm
      clear hi hV
      subst eV
      go_wp2_with (first | ((first | with_reducible refine wrx2 ?_ | with_reducible refine wrx ?_); (repeat (first | go_big_quiet_step ((first | fail)) | quiet_step ((first | fail)))); refine wpQuiet_nil ?_; rintro _ ⟨yr, rfl⟩; have syr := Ext.size yr; (repeat (first | rw [World.size_alloc] at syr | rw [World.size_setCell] at syr | rw [World.size_drew] at syr))))
      go_returns
      refine ⟨rfl, ?_⟩
      repeat' (first | (with_reducible exact Below.refl _ _) | (with_reducible assumption) | (with_reducible refine Ext.below _ ?_ ?_) | (with_reducible refine Below.on ?_ (by with_reducible assumption) ?_) | (with_reducible refine Below.alloc ?_ ?_ _) | (with_reducible refine Below.drew ?_) | (with_reducible refine Below.setCell ?_ ?_ _) | (with_reducible exact Nat.le_refl _) | omega | (simp; done) | (simp [go_sem]; done) | (simp at *; omega))
set_option maxHeartbeats 4000000 in
theorem rreach_any (p : Option Addr) (c : Nat) (l : List V2) (e : Int) (w : World) (hP : VecsAt w p l) (hn : l.length ≤ 1000) : Calls Tryd.prog 96 #[.slice p l.length c, .int .i64 e] w (Gives (.int .i64 (reachL e l 0)) w) := by
  obtain ⟨V, hV⟩ : ∃ V, reachL e l 0 = V := ⟨_, rfl⟩
  rw [hV]
  replace hV := Go.Lib.hid hV
  replace hP := Go.Lib.hid hP
  go_enter Tryd.func96, Tryd.ntmps96
  go_wp2_with (first | ((first | with_reducible refine wrx2 ?_ | with_reducible refine wrx ?_); (repeat (first | go_big_quiet_step ((first | fail)) | quiet_step ((first | fail)))); refine wpQuiet_nil ?_; rintro _ ⟨yr, rfl⟩; have syr := Ext.size yr; (repeat (first | rw [World.size_alloc] at syr | rw [World.size_setCell] at syr | rw [World.size_drew] at syr))))
  go_loopw [5, 6] (fun t s W => ∃ (i : Nat) (a : Int) (x : Ext w), t = .int .i64 a ∧ s = .int .i64 i ∧ W = x.now ∧ Hid (i ≤ l.length ∧ reachL e (l.drop i) a = V)) (fun _ s _ => l.length - (intOf s).toNat)
  case atStart => exact ⟨0, 0, ⟨w, Below.refl _ _⟩, rfl, rfl, rfl, Go.Lib.hid ⟨Nat.zero_le _, by simpa using hV.out⟩⟩
  case round =>
    obtain ⟨i, a, x, rfl, rfl, rfl, hi⟩ := hrel
    have xs := x.size
    by_cases hlt : i < l.length
    · have hlt2 : (i : Int) < l.length := by omega
      obtain ⟨B, o, rfl, hB, c1, c2⟩ := hP.out i hlt
      have hE := hi.out.2
      rw [drop_at hlt, reachL] at hE
      by_cases hg : l[i].x ≤ e
      · have key : Hid (i + 1 ≤ l.length ∧ reachL e (l.drop (i + 1)) l[i].y = V) := Go.Lib.hid ⟨hlt, by rwa [if_pos hg] at hE⟩
        clear hE hi
        generalize l[i].x = t1 at *
        generalize l[i].y = t2 at *
        go_wp2_with (first | ((first | with_reducible refine wrx2 ?_ | with_reducible refine wrx ?_); (repeat (first | go_big_quiet_step ((first | fail)) | quiet_step ((first | fail)))); refine wpQuiet_nil ?_; rintro _ ⟨yr, rfl⟩; have syr := Ext.size yr; (repeat (first | rw [World.size_alloc] at syr | rw [World.size_setCell] at syr | rw [World.size_drew] at syr)); have : B < yr.now.heap.size := (by omega); have : B ≤ yr.now.heap.size := (by omega); have : B < yr.now.heap.size + 1 + 1 := (by omega)))
        exact ⟨⟨i + 1, t2, ⟨_, by repeat' (first | (with_reducible exact Below.refl _ _) | (with_reducible assumption) | (with_reducible refine Ext.below _ ?_ ?_) | (with_reducible refine Below.on ?_ (by with_reducible assumption) ?_) | (with_reducible refine Below.alloc ?_ ?_ _) | (with_reducible refine Below.drew ?_) | (with_reducible refine Below.setCell ?_ ?_ _) | (with_reducible exact Nat.le_refl _) | omega | (simp; done) | (simp [go_sem]; done) | (simp at *; omega))⟩, rfl, by simp, rfl, key⟩, by simp [intOf]; omega⟩
      · have key : Hid (i + 1 ≤ l.length ∧ reachL e (l.drop (i + 1)) a = V) := Go.Lib.hid ⟨hlt, by rwa [if_neg hg] at hE⟩
        clear hE hi
        generalize l[i].x = t1 at *
        generalize l[i].y = t2 at *
        go_wp2_with (first | ((first | with_reducible refine wrx2 ?_ | with_reducible refine wrx ?_); (repeat (first | go_big_quiet_step ((first | fail)) | quiet_step ((first | fail)))); refine wpQuiet_nil ?_; rintro _ ⟨yr, rfl⟩; have syr := Ext.size yr; (repeat (first | rw [World.size_alloc] at syr | rw [World.size_setCell] at syr | rw [World.size_drew] at syr)); have : B < yr.now.heap.size := (by omega); have : B ≤ yr.now.heap.size := (by omega); have : B < yr.now.heap.size + 1 + 1 := (by omega)))
        exact ⟨⟨i + 1, a, ⟨_, by repeat' (first | (with_reducible exact Below.refl _ _) | (with_reducible assumption) | (with_reducible refine Ext.below _ ?_ ?_) | (with_reducible refine Below.on ?_ (by with_reducible assumption) ?_) | (with_reducible refine Below.alloc ?_ ?_ _) | (with_reducible refine Below.drew ?_) | (with_reducible refine Below.setCell ?_ ?_ _) | (with_reducible exact Nat.le_refl _) | omega | (simp; done) | (simp [go_sem]; done) | (simp at *; omega))⟩, rfl, by simp, rfl, key⟩, by simp [intOf]; omega⟩
    · have hge : ¬ (i : Int) < l.length := by omega
      have eV : V = a := by have hE := hi.out.2; rw [drop_end hlt, reachL] at hE; exact hE.symm
      clear hi hV
      subst eV
      go_wp2_with (first | ((first | with_reducible refine wrx2 ?_ | with_reducible refine wrx ?_); (repeat (first | go_big_quiet_step ((first | fail)) | quiet_step ((first | fail)))); refine wpQuiet_nil ?_; rintro _ ⟨yr, rfl⟩; have syr := Ext.size yr; (repeat (first | rw [World.size_alloc] at syr | rw [World.size_setCell] at syr | rw [World.size_drew] at syr))))
      go_returns
      refine ⟨rfl, ?_⟩
      repeat' (first | (with_reducible exact Below.refl _ _) | (with_reducible assumption) | (with_reducible refine Ext.below _ ?_ ?_) | (with_reducible refine Below.on ?_ (by with_reducible assumption) ?_) | (with_reducible refine Below.alloc ?_ ?_ _) | (with_reducible refine Below.drew ?_) | (with_reducible refine Below.setCell ?_ ?_ _) | (with_reducible exact Nat.le_refl _) | omega | (simp; done) | (simp [go_sem]; done) | (simp at *; omega))
end Go.Proofs.YtlmhbggigbmeaaaDoor

/- The reference's Mass, Holds, CheckAir. Condition: none; the air stands in memory. -/
import Derived.Test.YtlmhbggigbmeaaaDoorBlC2G
namespace Go.Proofs.YtlmhbggigbmeaaaDoor
open Go.RowKit Go.Shelf
attribute [local go_sem] Option.isSome_some Ext.cell Ext.frozen Ext.lt Ext.le Ext.lt_add Ext.le_add Ext.ne Ext.ne' lt2 lt3 lt4 lt5 le2 le3 le4
set_option maxHeartbeats 2000000 in
theorem rmass_any (s : StoneR) (h : s.Ok) (w : World) : Calls Tryd.prog 92 #[.int .i64 s.size, .int .i64 s.dens] w (Gives (.int .i64 (massV s)) w) := by
  obtain ⟨⟨b1, b2⟩, ⟨b3, b4⟩, b5, b6⟩ := mass_bounds h
  unfold massV
  have q := Int.tdiv_eq_ediv_of_nonneg b5 (b := 1000)
  have r0 := Int.ediv_nonneg b5 (show (0 : Int) ≤ 1000 by decide)
  have r1 := Int.ediv_le_self 1000 b5
  obtain ⟨a, d, c, dd, e, p, f, g⟩ := s
  simp only at *
  have w4 : wrap64 ((wrap64 (wrap64 (wrap64 (a * a) * a) * d)).tdiv 1000) = a * a * a * d / 1000 := by
    rw [IntWalk.wrap64_in (a * a) (by omega), IntWalk.wrap64_in (a * a * a) (by omega), IntWalk.wrap64_in (a * a * a * d) (by omega), q]
    exact IntWalk.wrap64_in _ (by omega)
  replace w4 := Go.Lib.hid w4
  clear b1 b2 b3 b4 b5 b6 q r0 r1 h
  go_enter Tryd.func92, Tryd.ntmps92
  go_wp2_with (first | ((first | with_reducible refine wrx2 ?_ | with_reducible refine wrx ?_); (repeat (first | go_big_quiet_step ((first | fail)) | quiet_step ((first | fail)))); refine wpQuiet_nil ?_; rintro _ ⟨yr, rfl⟩; have syr := Ext.size yr; (repeat (first | rw [World.size_alloc] at syr | rw [World.size_setCell] at syr | rw [World.size_drew] at syr))))
  go_returns
  refine ⟨ret_int w4.out, ?_⟩
  repeat' (first | (with_reducible exact Below.refl _ _) | (with_reducible assumption) | (with_reducible refine Ext.below _ ?_ ?_) | (with_reducible refine Below.on ?_ (by with_reducible assumption) ?_) | (with_reducible refine Below.alloc ?_ ?_ _) | (with_reducible refine Below.drew ?_) | (with_reducible refine Below.setCell ?_ ?_ _) | (with_reducible exact Nat.le_refl _) | omega | (simp; done) | (simp [go_sem]; done) | (simp at *; omega))
set_option maxHeartbeats 2000000 in
theorem rholds_any (s : StoneR) (h : s.Ok) (w : World) : Calls Tryd.prog 91 #[.int .i64 s.strong, .int .i64 s.spin, .bool s.pile] w (Gives (.int .i64 (holdsV s)) w) := by
  obtain ⟨b1, b2⟩ := holds_bounds h
  have b3 := h.spin
  unfold holdsV
  have q := Int.tdiv_eq_ediv_of_nonneg b1 (b := 1000)
  have r0 := Int.ediv_nonneg b1 (show (0 : Int) ≤ 1000 by decide)
  have r1 := Int.ediv_le_self 1000 b1
  obtain ⟨a, d, c, dd, e, p, f, g⟩ := s
  simp only at *
  obtain ⟨b4, b5⟩ := b3
  have w4 : wrap64 ((wrap64 (c * (1000 - dd))).tdiv 1000) = c * (1000 - dd) / 1000 := by
    rw [IntWalk.wrap64_in (c * (1000 - dd)) (by omega), q]
    exact IntWalk.wrap64_in _ (by omega)
  replace w4 := Go.Lib.hid w4
  clear b1 b2 q r0 r1 h
  cases p
  · simp only [Bool.false_eq_true, if_false]
    go_enter Tryd.func91, Tryd.ntmps91
    go_wp2_with (first | ((first | with_reducible refine wrx2 ?_ | with_reducible refine wrx ?_); (repeat (first | go_big_quiet_step ((first | fail)) | quiet_step ((first | fail)))); refine wpQuiet_nil ?_; rintro _ ⟨yr, rfl⟩; have syr := Ext.size yr; (repeat (first | rw [World.size_alloc] at syr | rw [World.size_setCell] at syr | rw [World.size_drew] at syr))))
    go_returns
    refine ⟨rfl, ?_⟩
    repeat' (first | (with_reducible exact Below.refl _ _) | (with_reducible assumption) | (with_reducible refine Ext.below _ ?_ ?_) | (with_reducible refine Below.on ?_ (by with_reducible assumption) ?_) | (with_reducible refine Below.alloc ?_ ?_ _) | (with_reducible refine Below.drew ?_) | (with_reducible refine Below.setCell ?_ ?_ _) | (with_reducible exact Nat.le_refl _) | omega | (simp; done) | (simp [go_sem]; done) | (simp at *; omega))
  · simp only [if_true]
    go_enter Tryd.func91, Tryd.ntmps91
    go_wp2_with (first | ((first | with_reducible refine wrx2 ?_ | with_reducible refine wrx ?_); (repeat (first | go_big_quiet_step ((first | fail)) | quiet_step ((first | fail)))); refine wpQuiet_nil ?_; rintro _ ⟨yr, rfl⟩; have syr := Ext.size yr; (repeat (first | rw [World.size_alloc] at syr | rw [World.size_setCell] at syr | rw [World.size_drew] at syr))))
    go_returns
    refine ⟨ret_int w4.out, ?_⟩
    repeat' (first | (with_reducible exact Below.refl _ _) | (with_reducible assumption) | (with_reducible refine Ext.below _ ?_ ?_) | (with_reducible refine Below.on ?_ (by with_reducible assumption) ?_) | (with_reducible refine Below.alloc ?_ ?_ _) | (with_reducible refine Below.drew ?_) | (with_reducible refine Below.setCell ?_ ?_ _) | (with_reducible exact Nat.le_refl _) | omega | (simp; done) | (simp [go_sem]; done) | (simp at *; omega))
set_option maxHeartbeats 4000000 in
theorem rCheckAir_any (p : Option Addr) (c : Nat) (l : List V2) (w : World) (hP : VecsAt w p l) (hcap : l.length ≤ 1000) : Calls Tryd.prog 89 #[.slice p l.length c] w (Gives (.int .i64 (airE l)) w) := by
  unfold airE
  by_cases hc : 32 < l.length
  · rw [if_pos hc]
    have hc2 : 32 < (l.length : Int) := by omega
    go_enter Tryd.func89, Tryd.ntmps89
    go_wp2_with (first | ((first | with_reducible refine wrx2 ?_ | with_reducible refine wrx ?_); (repeat (first | go_big_quiet_step ((first | fail)) | quiet_step ((first | fail)))); refine wpQuiet_nil ?_; rintro _ ⟨yr, rfl⟩; have syr := Ext.size yr; (repeat (first | rw [World.size_alloc] at syr | rw [World.size_setCell] at syr | rw [World.size_drew] at syr))))
    go_returns
    refine ⟨rfl, ?_⟩
    repeat' (first | (with_reducible exact Below.refl _ _) | (with_reducible assumption) | (with_reducible refine Ext.below _ ?_ ?_) | (with_reducible refine Below.on ?_ (by with_reducible assumption) ?_) | (with_reducible refine Below.alloc ?_ ?_ _) | (with_reducible refine Below.drew ?_) | (with_reducible refine Below.setCell ?_ ?_ _) | (with_reducible exact Nat.le_refl _) | omega | (simp; done) | (simp [go_sem]; done) | (simp at *; omega))
  · rw [if_neg hc]
    have hc2 : ¬ 32 < (l.length : Int) := by omega
    clear hc
    obtain ⟨V, hV⟩ : ∃ V, lysE l = V := ⟨_, rfl⟩
    rw [hV]
    replace hV := Go.Lib.hid hV
    replace hP := Go.Lib.hid hP
    go_enter Tryd.func89, Tryd.ntmps89
    go_wp2_with (first | ((first | with_reducible refine wrx2 ?_ | with_reducible refine wrx ?_); (repeat (first | go_big_quiet_step ((first | fail)) | quiet_step ((first | fail)))); refine wpQuiet_nil ?_; rintro _ ⟨yr, rfl⟩; have syr := Ext.size yr; (repeat (first | rw [World.size_alloc] at syr | rw [World.size_setCell] at syr | rw [World.size_drew] at syr))))
    go_loopw [3] (fun s W => ∃ (i : Nat) (x : Ext w), s = .int .i64 i ∧ W = x.now ∧ Hid (i ≤ l.length ∧ lysE (l.drop i) = V)) (fun s _ => l.length - (intOf s).toNat)
    case atStart => exact ⟨0, ⟨w, Below.refl _ _⟩, rfl, rfl, Go.Lib.hid ⟨Nat.zero_le _, by simpa using hV.out⟩⟩
    case round =>
      obtain ⟨i, x, rfl, rfl, hi⟩ := hrel
      have xs := x.size
      by_cases hlt : i < l.length
      · have hlt2 : (i : Int) < l.length := by omega
        obtain ⟨B, o, rfl, hB, c1, c2⟩ := hP.out i hlt
        have hE := hi.out.2
        rw [drop_at hlt, lysE] at hE
        have b1 := fun W => rbetween_any l[i].x 1 1000 W
        have b2 := fun W => rbetween_any l[i].y 0 1000 W
        by_cases h1 : 1 ≤ l[i].x ∧ l[i].x ≤ 1000
        · rw [decide_eq_true h1] at b1
          by_cases h2 : 0 ≤ l[i].y ∧ l[i].y ≤ 1000
          · rw [decide_eq_true h2] at b2
            have key : Hid (i + 1 ≤ l.length ∧ lysE (l.drop (i + 1)) = V) := Go.Lib.hid ⟨hlt, by rwa [if_pos ⟨h1, h2⟩] at hE⟩
            clear hE hi h1 h2
            generalize l[i].x = t1 at *
            generalize l[i].y = t2 at *
            go_wp2_with (first | ((first | with_reducible refine wrx2 ?_ | with_reducible refine wrx ?_); (repeat (first | go_big_quiet_step ((first | (go_at_call 102; with_reducible exact Calls.ext (b1 _)) | (go_at_call 102; with_reducible exact Calls.ext (b2 _)))) | quiet_step ((first | (go_at_call 102; with_reducible exact Calls.ext (b1 _)) | (go_at_call 102; with_reducible exact Calls.ext (b2 _)))))); refine wpQuiet_nil ?_; rintro _ ⟨yr, rfl⟩; have syr := Ext.size yr; (repeat (first | rw [World.size_alloc] at syr | rw [World.size_setCell] at syr | rw [World.size_drew] at syr)); have : B < yr.now.heap.size := (by omega); have : B ≤ yr.now.heap.size := (by omega); have : B < yr.now.heap.size + 1 + 1 := (by omega)) | (go_at_call 102; (first | with_reducible refine (Calls.giv2 (b1 _)).mono ?_ | with_reducible refine (Calls.giv (b1 _)).mono ?_); rintro _ _ ⟨y1, rfl, rfl⟩; have sy1 := Ext.size y1; (repeat (first | rw [World.size_alloc] at sy1 | rw [World.size_setCell] at sy1 | rw [World.size_drew] at sy1)); have : B < y1.now.heap.size := (by omega); have : B ≤ y1.now.heap.size := (by omega); have : B < y1.now.heap.size + 1 + 1 := (by omega)) | (go_at_call 102; (first | with_reducible refine (Calls.giv2 (b2 _)).mono ?_ | with_reducible refine (Calls.giv (b2 _)).mono ?_); rintro _ _ ⟨y2, rfl, rfl⟩; have sy2 := Ext.size y2; (repeat (first | rw [World.size_alloc] at sy2 | rw [World.size_setCell] at sy2 | rw [World.size_drew] at sy2)); have : B < y2.now.heap.size := (by omega); have : B ≤ y2.now.heap.size := (by omega); have : B < y2.now.heap.size + 1 + 1 := (by omega)))
            exact ⟨⟨i + 1, ⟨_, by repeat' (first | (with_reducible exact Below.refl _ _) | (with_reducible assumption) | (with_reducible refine Ext.below _ ?_ ?_) | (with_reducible refine Below.on ?_ (by with_reducible assumption) ?_) | (with_reducible refine Below.alloc ?_ ?_ _) | (with_reducible refine Below.drew ?_) | (with_reducible refine Below.setCell ?_ ?_ _) | (with_reducible exact Nat.le_refl _) | omega | (simp; done) | (simp [go_sem]; done) | (simp at *; omega))⟩, by simp, rfl, key⟩, by simp [intOf]; omega⟩
          · rw [decide_eq_false h2] at b2
            have eV : V = 2 := by rw [← hE, if_neg (fun q => h2 q.2)]
            clear hE hi hV h1 h2
            subst eV
            generalize l[i].x = t1 at *
            generalize l[i].y = t2 at *
            go_wp2_with (first | ((first | with_reducible refine wrx2 ?_ | with_reducible refine wrx ?_); (repeat (first | go_big_quiet_step ((first | (go_at_call 102; with_reducible exact Calls.ext (b1 _)) | (go_at_call 102; with_reducible exact Calls.ext (b2 _)))) | quiet_step ((first | (go_at_call 102; with_reducible exact Calls.ext (b1 _)) | (go_at_call 102; with_reducible exact Calls.ext (b2 _)))))); refine wpQuiet_nil ?_; rintro _ ⟨yr, rfl⟩; have syr := Ext.size yr; (repeat (first | rw [World.size_alloc] at syr | rw [World.size_setCell] at syr | rw [World.size_drew] at syr)); have : B < yr.now.heap.size := (by omega); have : B ≤ yr.now.heap.size := (by omega); have : B < yr.now.heap.size + 1 + 1 := (by omega)) | (go_at_call 102; (first | with_reducible refine (Calls.giv2 (b1 _)).mono ?_ | with_reducible refine (Calls.giv (b1 _)).mono ?_); rintro _ _ ⟨y1, rfl, rfl⟩; have sy1 := Ext.size y1; (repeat (first | rw [World.size_alloc] at sy1 | rw [World.size_setCell] at sy1 | rw [World.size_drew] at sy1)); have : B < y1.now.heap.size := (by omega); have : B ≤ y1.now.heap.size := (by omega); have : B < y1.now.heap.size + 1 + 1 := (by omega)) | (go_at_call 102; (first | with_reducible refine (Calls.giv2 (b2 _)).mono ?_ | with_reducible refine (Calls.giv (b2 _)).mono ?_); rintro _ _ ⟨y2, rfl, rfl⟩; have sy2 := Ext.size y2; (repeat (first | rw [World.size_alloc] at sy2 | rw [World.size_setCell] at sy2 | rw [World.size_drew] at sy2)); have : B < y2.now.heap.size := (by omega); have : B ≤ y2.now.heap.size := (by omega); have : B < y2.now.heap.size + 1 + 1 := (by omega)))
            go_returns
            refine ⟨rfl, ?_⟩
            repeat' (first | (with_reducible exact Below.refl _ _) | (with_reducible assumption) | (with_reducible refine Ext.below _ ?_ ?_) | (with_reducible refine Below.on ?_ (by with_reducible assumption) ?_) | (with_reducible refine Below.alloc ?_ ?_ _) | (with_reducible refine Below.drew ?_) | (with_reducible refine Below.setCell ?_ ?_ _) | (with_reducible exact Nat.le_refl _) | omega | (simp; done) | (simp [go_sem]; done) | (simp at *; omega))
        · rw [decide_eq_false h1] at b1
          have eV : V = 2 := by rw [← hE, if_neg (fun q => h1 q.1)]
          clear hE hi hV h1
          subst eV
          generalize l[i].x = t1 at *
          generalize l[i].y = t2 at *
          go_wp2_with (first | ((first | with_reducible refine wrx2 ?_ | with_reducible refine wrx ?_); (repeat (first | go_big_quiet_step ((first | (go_at_call 102; with_reducible exact Calls.ext (b1 _)))) | quiet_step ((first | (go_at_call 102; with_reducible exact Calls.ext (b1 _)))))); refine wpQuiet_nil ?_; rintro _ ⟨yr, rfl⟩; have syr := Ext.size yr; (repeat (first | rw [World.size_alloc] at syr | rw [World.size_setCell] at syr | rw [World.size_drew] at syr)); have : B < yr.now.heap.size := (by omega); have : B ≤ yr.now.heap.size := (by omega); have : B < yr.now.heap.size + 1 + 1 := (by omega)) | (go_at_call 102; (first | with_reducible refine (Calls.giv2 (b1 _)).mono ?_ | with_reducible refine (Calls.giv (b1 _)).mono ?_); rintro _ _ ⟨y1, rfl, rfl⟩; have sy1 := Ext.size y1; (repeat (first | rw [World.size_alloc] at sy1 | rw [World.size_setCell] at sy1 | rw [World.size_drew] at sy1)); have : B < y1.now.heap.size := (by omega); have : B ≤ y1.now.heap.size := (by omega); have : B < y1.now.heap.size + 1 + 1 := (by omega)))
          go_returns
          refine ⟨rfl, ?_⟩
          repeat' (first | (with_reducible exact Below.refl _ _) | (with_reducible assumption) | (with_reducible refine Ext.below _ ?_ ?_) | (with_reducible refine Below.on ?_ (by with_reducible assumption) ?_) | (with_reducible refine Below.alloc ?_ ?_ _) | (with_reducible refine Below.drew ?_) | (with_reducible refine Below.setCell ?_ ?_ _) | (with_reducible exact Nat.le_refl _) | omega | (simp; done) | (simp [go_sem]; done) | (simp at *; omega))
      · have hge : ¬ (i : Int) < l.length := by omega
        have eV : V = 0 := by have hE := hi.out.2; rw [drop_end hlt, lysE] at hE; exact hE.symm
        clear hi hV
        subst eV
        go_wp2_with (first | ((first | with_reducible refine wrx2 ?_ | with_reducible refine wrx ?_); (repeat (first | go_big_quiet_step ((first | fail)) | quiet_step ((first | fail)))); refine wpQuiet_nil ?_; rintro _ ⟨yr, rfl⟩; have syr := Ext.size yr; (repeat (first | rw [World.size_alloc] at syr | rw [World.size_setCell] at syr | rw [World.size_drew] at syr))))
        go_returns
        refine ⟨rfl, ?_⟩
        repeat' (first | (with_reducible exact Below.refl _ _) | (with_reducible assumption) | (with_reducible refine Ext.below _ ?_ ?_) | (with_reducible refine Below.on ?_ (by with_reducible assumption) ?_) | (with_reducible refine Below.alloc ?_ ?_ _) | (with_reducible refine Below.drew ?_) | (with_reducible refine Below.setCell ?_ ?_ _) | (with_reducible exact Nat.le_refl _) | omega | (simp; done) | (simp [go_sem]; done) | (simp at *; omega))
end Go.Proofs.YtlmhbggigbmeaaaDoor

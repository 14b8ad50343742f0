/- Contracts of the reference's small tests of layer 2, of its bodies and worlds. Conditions: the cells that are read. -/
import Derived.Test.YtgoilmiiegpnoaaSkyF
namespace Go.Proofs.Ytgoilmiiegpnoaa
open Go.RowKit Go.Shelf
attribute [local go_sem] Option.isSome_some Ext.cell Ext.frozen Ext.lt Ext.le Ext.lt_add Ext.le_add Ext.ne Ext.ne' lt2 lt3 lt4 lt5 le2 le3 le4
theorem refBetween_any (n lo hi : Int) (w : World) : Calls Try.prog 58 #[.int .i64 n, .int .i64 lo, .int .i64 hi] w (Gives (.bool (decide (lo ≤ n) && decide (n ≤ hi))) w) := by
  obtain ⟨V, hV⟩ : ∃ V, (decide (lo ≤ n) && decide (n ≤ hi)) = V := ⟨_, rfl⟩
  rw [hV]
  have hV := Go.Lib.hid hV
  by_cases h1 : lo ≤ n <;> by_cases h2 : n ≤ hi
  all_goals
    go_enter Try.func58, Try.ntmps58
    go_wp2_with (first | ((first | with_reducible refine wp_region_ext2 (by kernel_rfl) (by kernel_rfl) ?_ | with_reducible refine wp_region_ext (by kernel_rfl) (by kernel_rfl) ?_); (repeat (first | go_big_quiet_step ((first | fail)) | quiet_step ((first | fail)))); refine wpQuiet_nil ?_; rintro _ ⟨yr, rfl⟩; have syr := Ext.size yr; (repeat (first | rw [World.size_alloc] at syr | rw [World.size_setCell] at syr | rw [World.size_drew] at syr))))
    go_returns
    refine ⟨ret_bool (by rw [← hV.out]; simp [h1, h2]), ?_⟩
    repeat' (first | (with_reducible exact Below.refl _ _) | (with_reducible assumption) | (with_reducible refine Ext.below _ ?_ ?_) | (with_reducible refine Below.on ?_ (by with_reducible assumption) ?_) | (with_reducible refine Below.alloc ?_ ?_ _) | (with_reducible refine Below.drew ?_) | (with_reducible refine Below.setCell ?_ ?_ _) | (with_reducible exact Nat.le_refl _) | omega | (simp; done) | (simp [go_sem]; done) | (simp at *; omega))
theorem between_win (n m : Int) : (decide (-m ≤ n) && decide (n ≤ m)) = winB n m := by
  unfold winB; rw [Bool.eq_iff_iff]; simp
theorem refNear_any (x y : Int) (w : World) : Calls Try.prog 60 #[.agg #[.int .i64 x, .int .i64 y]] w (Gives (.bool (vwinB ⟨x, y⟩ 33554432)) w) := by
  have c1 := fun W => refBetween_any x (-33554432) 33554432 W
  have c2 := fun W => refBetween_any y (-33554432) 33554432 W
  rw [between_win] at c1 c2
  unfold vwinB
  simp only
  generalize winB x 33554432 = b1 at *
  generalize winB y 33554432 = b2 at *
  cases b1 <;> cases b2
  all_goals
    go_enter Try.func60, Try.ntmps60
    go_wp2_with (first | ((first | with_reducible refine wp_region_ext2 (by kernel_rfl) (by kernel_rfl) ?_ | with_reducible refine wp_region_ext (by kernel_rfl) (by kernel_rfl) ?_); (repeat (first | go_big_quiet_step ((first | (go_at_call 58; with_reducible exact Calls.ext (c1 _)) | (go_at_call 58; with_reducible exact Calls.ext (c2 _)))) | quiet_step ((first | (go_at_call 58; with_reducible exact Calls.ext (c1 _)) | (go_at_call 58; with_reducible exact Calls.ext (c2 _)))))); refine wpQuiet_nil ?_; rintro _ ⟨yr, rfl⟩; have syr := Ext.size yr; (repeat (first | rw [World.size_alloc] at syr | rw [World.size_setCell] at syr | rw [World.size_drew] at syr))) | (go_at_call 58; (first | with_reducible refine (Calls.giv2 (c1 _)).mono ?_ | with_reducible refine (Calls.giv (c1 _)).mono ?_); rintro _ _ ⟨y1, rfl, rfl⟩; have sy1 := Ext.size y1; (repeat (first | rw [World.size_alloc] at sy1 | rw [World.size_setCell] at sy1 | rw [World.size_drew] at sy1))) | (go_at_call 58; (first | with_reducible refine (Calls.giv2 (c2 _)).mono ?_ | with_reducible refine (Calls.giv (c2 _)).mono ?_); rintro _ _ ⟨y2, rfl, rfl⟩; have sy2 := Ext.size y2; (repeat (first | rw [World.size_alloc] at sy2 | rw [World.size_setCell] at sy2 | rw [World.size_drew] at sy2))))
    go_returns
    refine ⟨rfl, ?_⟩
    repeat' (first | (with_reducible exact Below.refl _ _) | (with_reducible assumption) | (with_reducible refine Ext.below _ ?_ ?_) | (with_reducible refine Below.on ?_ (by with_reducible assumption) ?_) | (with_reducible refine Below.alloc ?_ ?_ _) | (with_reducible refine Below.drew ?_) | (with_reducible refine Below.setCell ?_ ?_ _) | (with_reducible exact Nat.le_refl _) | omega | (simp; done) | (simp [go_sem]; done) | (simp at *; omega))
set_option maxHeartbeats 4000000 in
theorem refBody_any (mu rad : Int) (tp : Option Addr) (tc : Nat) (l : List V2) (w : World) (hP : VecsAt w tp l) : Calls Try.prog 74 #[.agg #[.int .i64 mu, .int .i64 rad, .slice tp l.length tc]] w (Gives (.int .i64 (bodyE ⟨mu, rad, tp, tc, l⟩)) w) := by
  have c1 := fun W => refBetween_any mu 0 1125899906842624 W
  have c2 := fun W => refBetween_any rad 0 1048576 W
  cases h1 : (decide (0 ≤ mu) && decide (mu ≤ 1125899906842624))
  · have e : bodyE ⟨mu, rad, tp, tc, l⟩ = 2 := by
      unfold bodyE; rw [if_pos]; simp only [Bool.and_eq_false_iff, decide_eq_false_iff_not] at h1; simp only; omega
    rw [e]; clear e
    rw [h1] at c1
    clear h1
    go_enter Try.func74, Try.ntmps74
    go_wp2_with (first | ((first | with_reducible refine wp_region_ext2 (by kernel_rfl) (by kernel_rfl) ?_ | with_reducible refine wp_region_ext (by kernel_rfl) (by kernel_rfl) ?_); (repeat (first | go_big_quiet_step ((first | (go_at_call 58; with_reducible exact Calls.ext (c1 _)) | (go_at_call 58; with_reducible exact Calls.ext (c2 _)))) | quiet_step ((first | (go_at_call 58; with_reducible exact Calls.ext (c1 _)) | (go_at_call 58; with_reducible exact Calls.ext (c2 _)))))); refine wpQuiet_nil ?_; rintro _ ⟨yr, rfl⟩; have syr := Ext.size yr; (repeat (first | rw [World.size_alloc] at syr | rw [World.size_setCell] at syr | rw [World.size_drew] at syr))) | (go_at_call 58; (first | with_reducible refine (Calls.giv2 (c1 _)).mono ?_ | with_reducible refine (Calls.giv (c1 _)).mono ?_); rintro _ _ ⟨y1, rfl, rfl⟩; have sy1 := Ext.size y1; (repeat (first | rw [World.size_alloc] at sy1 | rw [World.size_setCell] at sy1 | rw [World.size_drew] at sy1))) | (go_at_call 58; (first | with_reducible refine (Calls.giv2 (c2 _)).mono ?_ | with_reducible refine (Calls.giv (c2 _)).mono ?_); rintro _ _ ⟨y2, rfl, rfl⟩; have sy2 := Ext.size y2; (repeat (first | rw [World.size_alloc] at sy2 | rw [World.size_setCell] at sy2 | rw [World.size_drew] at sy2))))
    go_returns
    refine ⟨rfl, ?_⟩
    repeat' (first | (with_reducible exact Below.refl _ _) | (with_reducible assumption) | (with_reducible refine Ext.below _ ?_ ?_) | (with_reducible refine Below.on ?_ (by with_reducible assumption) ?_) | (with_reducible refine Below.alloc ?_ ?_ _) | (with_reducible refine Below.drew ?_) | (with_reducible refine Below.setCell ?_ ?_ _) | (with_reducible exact Nat.le_refl _) | omega | (simp; done) | (simp [go_sem]; done) | (simp at *; omega))
  cases h2 : (decide (0 ≤ rad) && decide (rad ≤ 1048576))
  · have e : bodyE ⟨mu, rad, tp, tc, l⟩ = 2 := by
      unfold bodyE; rw [if_pos]; simp only [Bool.and_eq_false_iff, decide_eq_false_iff_not] at h2; simp only; omega
    rw [e]; clear e
    rw [h1] at c1
    rw [h2] at c2
    clear h1 h2
    go_enter Try.func74, Try.ntmps74
    go_wp2_with (first | ((first | with_reducible refine wp_region_ext2 (by kernel_rfl) (by kernel_rfl) ?_ | with_reducible refine wp_region_ext (by kernel_rfl) (by kernel_rfl) ?_); (repeat (first | go_big_quiet_step ((first | (go_at_call 58; with_reducible exact Calls.ext (c1 _)) | (go_at_call 58; with_reducible exact Calls.ext (c2 _)))) | quiet_step ((first | (go_at_call 58; with_reducible exact Calls.ext (c1 _)) | (go_at_call 58; with_reducible exact Calls.ext (c2 _)))))); refine wpQuiet_nil ?_; rintro _ ⟨yr, rfl⟩; have syr := Ext.size yr; (repeat (first | rw [World.size_alloc] at syr | rw [World.size_setCell] at syr | rw [World.size_drew] at syr))) | (go_at_call 58; (first | with_reducible refine (Calls.giv2 (c1 _)).mono ?_ | with_reducible refine (Calls.giv (c1 _)).mono ?_); rintro _ _ ⟨y1, rfl, rfl⟩; have sy1 := Ext.size y1; (repeat (first | rw [World.size_alloc] at sy1 | rw [World.size_setCell] at sy1 | rw [World.size_drew] at sy1))) | (go_at_call 58; (first | with_reducible refine (Calls.giv2 (c2 _)).mono ?_ | with_reducible refine (Calls.giv (c2 _)).mono ?_); rintro _ _ ⟨y2, rfl, rfl⟩; have sy2 := Ext.size y2; (repeat (first | rw [World.size_alloc] at sy2 | rw [World.size_setCell] at sy2 | rw [World.size_drew] at sy2))))
    go_returns
    refine ⟨rfl, ?_⟩
    repeat' (first | (with_reducible exact Below.refl _ _) | (with_reducible assumption) | (with_reducible refine Ext.below _ ?_ ?_) | (with_reducible refine Below.on ?_ (by with_reducible assumption) ?_) | (with_reducible refine Below.alloc ?_ ?_ _) | (with_reducible refine Below.drew ?_) | (with_reducible refine Below.setCell ?_ ?_ _) | (with_reducible exact Nat.le_refl _) | omega | (simp; done) | (simp [go_sem]; done) | (simp at *; omega))
  have e : bodyE ⟨mu, rad, tp, tc, l⟩ = if cntE l.length 1 4096 = 0 then placesE l else cntE l.length 1 4096 := by
    simp only [Bool.and_eq_true, decide_eq_true_eq] at h1 h2
    unfold bodyE; rw [if_neg (by simp only; omega)]
  rw [e]; clear e
  rw [h1] at c1
  rw [h2] at c2
  clear h1 h2
  by_cases h3 : l.length = 0
  · have e : (if cntE l.length 1 4096 = 0 then placesE l else cntE l.length 1 4096) = 6 := by rw [h3]; rfl
    rw [e]; clear e
    have hz : (l.length : Int) = 0 := by omega
    rw [h3]
    clear h3 hz hP
    go_enter Try.func74, Try.ntmps74
    go_wp2_with (first | ((first | with_reducible refine wp_region_ext2 (by kernel_rfl) (by kernel_rfl) ?_ | with_reducible refine wp_region_ext (by kernel_rfl) (by kernel_rfl) ?_); (repeat (first | go_big_quiet_step ((first | (go_at_call 58; with_reducible exact Calls.ext (c1 _)) | (go_at_call 58; with_reducible exact Calls.ext (c2 _)))) | quiet_step ((first | (go_at_call 58; with_reducible exact Calls.ext (c1 _)) | (go_at_call 58; with_reducible exact Calls.ext (c2 _)))))); refine wpQuiet_nil ?_; rintro _ ⟨yr, rfl⟩; have syr := Ext.size yr; (repeat (first | rw [World.size_alloc] at syr | rw [World.size_setCell] at syr | rw [World.size_drew] at syr))) | (go_at_call 58; (first | with_reducible refine (Calls.giv2 (c1 _)).mono ?_ | with_reducible refine (Calls.giv (c1 _)).mono ?_); rintro _ _ ⟨y1, rfl, rfl⟩; have sy1 := Ext.size y1; (repeat (first | rw [World.size_alloc] at sy1 | rw [World.size_setCell] at sy1 | rw [World.size_drew] at sy1))) | (go_at_call 58; (first | with_reducible refine (Calls.giv2 (c2 _)).mono ?_ | with_reducible refine (Calls.giv (c2 _)).mono ?_); rintro _ _ ⟨y2, rfl, rfl⟩; have sy2 := Ext.size y2; (repeat (first | rw [World.size_alloc] at sy2 | rw [World.size_setCell] at sy2 | rw [World.size_drew] at sy2))))
    go_returns
    refine ⟨rfl, ?_⟩
    repeat' (first | (with_reducible exact Below.refl _ _) | (with_reducible assumption) | (with_reducible refine Ext.below _ ?_ ?_) | (with_reducible refine Below.on ?_ (by with_reducible assumption) ?_) | (with_reducible refine Below.alloc ?_ ?_ _) | (with_reducible refine Below.drew ?_) | (with_reducible refine Below.setCell ?_ ?_ _) | (with_reducible exact Nat.le_refl _) | omega | (simp; done) | (simp [go_sem]; done) | (simp at *; omega))
  by_cases h4 : 4096 < l.length
  · have e : (if cntE l.length 1 4096 = 0 then placesE l else cntE l.length 1 4096) = 8 := by
      have : cntE l.length 1 4096 = 8 := by unfold cntE; rw [if_neg (by omega), if_pos (by omega)]
      rw [this]; rfl
    rw [e]; clear e
    have h5 : ¬ (l.length : Int) = 0 := by omega
    have h6 : (4096 : Int) < l.length := by omega
    clear h3 h4 hP
    generalize l.length = n at *
    go_enter Try.func74, Try.ntmps74
    go_wp2_with (first | ((first | with_reducible refine wp_region_ext2 (by kernel_rfl) (by kernel_rfl) ?_ | with_reducible refine wp_region_ext (by kernel_rfl) (by kernel_rfl) ?_); (repeat (first | go_big_quiet_step ((first | (go_at_call 58; with_reducible exact Calls.ext (c1 _)) | (go_at_call 58; with_reducible exact Calls.ext (c2 _)))) | quiet_step ((first | (go_at_call 58; with_reducible exact Calls.ext (c1 _)) | (go_at_call 58; with_reducible exact Calls.ext (c2 _)))))); refine wpQuiet_nil ?_; rintro _ ⟨yr, rfl⟩; have syr := Ext.size yr; (repeat (first | rw [World.size_alloc] at syr | rw [World.size_setCell] at syr | rw [World.size_drew] at syr))) | (go_at_call 58; (first | with_reducible refine (Calls.giv2 (c1 _)).mono ?_ | with_reducible refine (Calls.giv (c1 _)).mono ?_); rintro _ _ ⟨y1, rfl, rfl⟩; have sy1 := Ext.size y1; (repeat (first | rw [World.size_alloc] at sy1 | rw [World.size_setCell] at sy1 | rw [World.size_drew] at sy1))) | (go_at_call 58; (first | with_reducible refine (Calls.giv2 (c2 _)).mono ?_ | with_reducible refine (Calls.giv (c2 _)).mono ?_); rintro _ _ ⟨y2, rfl, rfl⟩; have sy2 := Ext.size y2; (repeat (first | rw [World.size_alloc] at sy2 | rw [World.size_setCell] at sy2 | rw [World.size_drew] at sy2))))
    go_returns
    refine ⟨rfl, ?_⟩
    repeat' (first | (with_reducible exact Below.refl _ _) | (with_reducible assumption) | (with_reducible refine Ext.below _ ?_ ?_) | (with_reducible refine Below.on ?_ (by with_reducible assumption) ?_) | (with_reducible refine Below.alloc ?_ ?_ _) | (with_reducible refine Below.drew ?_) | (with_reducible refine Below.setCell ?_ ?_ _) | (with_reducible exact Nat.le_refl _) | omega | (simp; done) | (simp [go_sem]; done) | (simp at *; omega))
  have e : (if cntE l.length 1 4096 = 0 then placesE l else cntE l.length 1 4096) = placesE l := by
    have : cntE l.length 1 4096 = 0 := by unfold cntE; rw [if_neg (by omega), if_neg (by omega)]
    rw [this]; rfl
  rw [e]; clear e
  have hn : l.length ≤ 4096 := by omega
  obtain ⟨n, hln⟩ : ∃ n, l.length = n := ⟨_, rfl⟩
  rw [hln] at h3 h4 hn ⊢
  have h5 : ¬ (n : Int) = 0 := by omega
  have h5' : ((n : Int) == 0) = false := by rw [beq_eq_false_iff_ne]; exact h5
  have h6 : ¬ (4096 : Int) < n := by omega
  have hln := Go.Lib.hid hln
  clear h3 h4
  obtain ⟨V, hV⟩ : ∃ V, placesE l = V := ⟨_, rfl⟩
  rw [hV]
  have hV := Go.Lib.hid hV
  have hP := Go.Lib.hid hP
  go_enter Try.func74, Try.ntmps74
  go_wp2_with (first | ((first | with_reducible refine wp_region_ext2 (by kernel_rfl) (by kernel_rfl) ?_ | with_reducible refine wp_region_ext (by kernel_rfl) (by kernel_rfl) ?_); (repeat (first | go_big_quiet_step ((first | (go_at_call 58; with_reducible exact Calls.ext (c1 _)) | (go_at_call 58; with_reducible exact Calls.ext (c2 _)))) | quiet_step ((first | (go_at_call 58; with_reducible exact Calls.ext (c1 _)) | (go_at_call 58; with_reducible exact Calls.ext (c2 _)))))); refine wpQuiet_nil ?_; rintro _ ⟨yr, rfl⟩; have syr := Ext.size yr; (repeat (first | rw [World.size_alloc] at syr | rw [World.size_setCell] at syr | rw [World.size_drew] at syr))) | (go_at_call 58; (first | with_reducible refine (Calls.giv2 (c1 _)).mono ?_ | with_reducible refine (Calls.giv (c1 _)).mono ?_); rintro _ _ ⟨y1, rfl, rfl⟩; have sy1 := Ext.size y1; (repeat (first | rw [World.size_alloc] at sy1 | rw [World.size_setCell] at sy1 | rw [World.size_drew] at sy1))) | (go_at_call 58; (first | with_reducible refine (Calls.giv2 (c2 _)).mono ?_ | with_reducible refine (Calls.giv (c2 _)).mono ?_); rintro _ _ ⟨y2, rfl, rfl⟩; have sy2 := Ext.size y2; (repeat (first | rw [World.size_alloc] at sy2 | rw [World.size_setCell] at sy2 | rw [World.size_drew] at sy2))))
  refine wp_named (fun W0 hW => ?_)
  have hBw : Below w.heap.size w W0 := by rw [← hW]; repeat' (first | (with_reducible exact Below.refl _ _) | (with_reducible assumption) | (with_reducible refine Ext.below _ ?_ ?_) | (with_reducible refine Below.on ?_ (by with_reducible assumption) ?_) | (with_reducible refine Below.alloc ?_ ?_ _) | (with_reducible refine Below.drew ?_) | (with_reducible refine Below.setCell ?_ ?_ _) | (with_reducible exact Nat.le_refl _) | omega | (simp; done) | (simp [go_sem]; done) | (simp at *; omega))
  have hs0 : w.heap.size < W0.heap.size := by have := hBw.size; rw [← hW]; omega
  have b2 : W0.cell? ⟨w.heap.size, 2, none⟩ = some (.slice tp n tc) := by rw [← hW]; simp (maxDischargeDepth := 9) [go_sem]
  have hP := Go.Lib.hid (hP.out.on hBw)
  clear hW h5 h6
  go_loopw [3] (fun s W => ∃ (i : Nat) (x : Ext W0), s = .int .i64 i ∧ W = x.now ∧ Hid (i ≤ n ∧ placesE (l.drop i) = V)) (fun s _ => n - (intOf s).toNat)
  case atStart => exact ⟨0, ⟨W0, Below.refl _ _⟩, rfl, rfl, Go.Lib.hid ⟨Nat.zero_le _, by simpa using hV.out⟩⟩
  case round =>
    obtain ⟨i, x, rfl, rfl, hi⟩ := hrel
    have xs := x.size
    have hbx := x.below hBw (by omega)
    have : w.heap.size < (x.now).heap.size := (by omega); have : w.heap.size < (x.now).heap.size + 1 := (by omega); have : w.heap.size < (x.now).heap.size + 1 + 1 := (by omega); have : w.heap.size ≠ (x.now).heap.size := (by omega); have : w.heap.size ≠ (x.now).heap.size + 1 := (by omega)
    by_cases hlt : i < n
    · have hlt2 : (i : Int) < n := by omega
      obtain ⟨B, o, rfl, hB, q1, q2⟩ := hP.out i (by rw [hln.out]; exact hlt)
      have hlt' : i < l.length := by rw [hln.out]; exact hlt
      have : B < (x.now).heap.size := (by omega); have : B < (x.now).heap.size + 1 := (by omega); have : B < (x.now).heap.size + 1 + 1 := (by omega); have : B ≠ (x.now).heap.size := (by omega); have : B ≠ (x.now).heap.size + 1 := (by omega)
      have hE := hi.out.2
      rw [drop_at hlt', placesE] at hE
      have aw := fun W => refNear_any l[i].x l[i].y W
      cases hw : vwinB l[i] 33554432
      · have eV : V = 2 := by rw [← hE, hw]; rfl
        rw [show vwinB ⟨l[i].x, l[i].y⟩ 33554432 = false from hw] at aw
        clear hE hi hw hV
        subst eV
        generalize l[i].x = u at *
        generalize l[i].y = v at *
        go_wp2_with (first | ((first | with_reducible refine wp_region_ext2 (by kernel_rfl) (by kernel_rfl) ?_ | with_reducible refine wp_region_ext (by kernel_rfl) (by kernel_rfl) ?_); (repeat (first | go_big_quiet_step ((first | (go_at_call 60; with_reducible exact Calls.ext (aw _)))) | quiet_step ((first | (go_at_call 60; with_reducible exact Calls.ext (aw _)))))); refine wpQuiet_nil ?_; rintro _ ⟨yr, rfl⟩; have syr := Ext.size yr; (repeat (first | rw [World.size_alloc] at syr | rw [World.size_setCell] at syr | rw [World.size_drew] at syr)); have : B < yr.now.heap.size := (by omega); have : B ≤ yr.now.heap.size := (by omega); have : B < yr.now.heap.size + 1 + 1 := (by omega); have : w.heap.size < yr.now.heap.size := (by omega); have : w.heap.size ≤ yr.now.heap.size := (by omega); have : w.heap.size < yr.now.heap.size + 1 + 1 := (by omega)) | (go_at_call 60; (first | with_reducible refine (Calls.giv2 (aw _)).mono ?_ | with_reducible refine (Calls.giv (aw _)).mono ?_); rintro _ _ ⟨y1, rfl, rfl⟩; have sy1 := Ext.size y1; (repeat (first | rw [World.size_alloc] at sy1 | rw [World.size_setCell] at sy1 | rw [World.size_drew] at sy1)); have : B < y1.now.heap.size := (by omega); have : B ≤ y1.now.heap.size := (by omega); have : B < y1.now.heap.size + 1 + 1 := (by omega); have : w.heap.size < y1.now.heap.size := (by omega); have : w.heap.size ≤ y1.now.heap.size := (by omega); have : w.heap.size < y1.now.heap.size + 1 + 1 := (by omega)))
        go_returns
        refine ⟨rfl, ?_⟩
        repeat' (first | (with_reducible exact Below.refl _ _) | (with_reducible assumption) | (with_reducible refine Ext.below _ ?_ ?_) | (with_reducible refine Below.on ?_ (by with_reducible assumption) ?_) | (with_reducible refine Below.alloc ?_ ?_ _) | (with_reducible refine Below.drew ?_) | (with_reducible refine Below.setCell ?_ ?_ _) | (with_reducible exact Nat.le_refl _) | omega | (simp; done) | (simp [go_sem]; done) | (simp at *; omega))
      · have key : Hid (i + 1 ≤ n ∧ placesE (l.drop (i + 1)) = V) := Go.Lib.hid ⟨hlt, by rw [hw] at hE; simpa using hE⟩
        rw [show vwinB ⟨l[i].x, l[i].y⟩ 33554432 = true from hw] at aw
        clear hE hi hw
        generalize l[i].x = u at *
        generalize l[i].y = v at *
        go_wp2_with (first | ((first | with_reducible refine wp_region_ext2 (by kernel_rfl) (by kernel_rfl) ?_ | with_reducible refine wp_region_ext (by kernel_rfl) (by kernel_rfl) ?_); (repeat (first | go_big_quiet_step ((first | (go_at_call 60; with_reducible exact Calls.ext (aw _)))) | quiet_step ((first | (go_at_call 60; with_reducible exact Calls.ext (aw _)))))); refine wpQuiet_nil ?_; rintro _ ⟨yr, rfl⟩; have syr := Ext.size yr; (repeat (first | rw [World.size_alloc] at syr | rw [World.size_setCell] at syr | rw [World.size_drew] at syr)); have : B < yr.now.heap.size := (by omega); have : B ≤ yr.now.heap.size := (by omega); have : B < yr.now.heap.size + 1 + 1 := (by omega); have : w.heap.size < yr.now.heap.size := (by omega); have : w.heap.size ≤ yr.now.heap.size := (by omega); have : w.heap.size < yr.now.heap.size + 1 + 1 := (by omega)) | (go_at_call 60; (first | with_reducible refine (Calls.giv2 (aw _)).mono ?_ | with_reducible refine (Calls.giv (aw _)).mono ?_); rintro _ _ ⟨y1, rfl, rfl⟩; have sy1 := Ext.size y1; (repeat (first | rw [World.size_alloc] at sy1 | rw [World.size_setCell] at sy1 | rw [World.size_drew] at sy1)); have : B < y1.now.heap.size := (by omega); have : B ≤ y1.now.heap.size := (by omega); have : B < y1.now.heap.size + 1 + 1 := (by omega); have : w.heap.size < y1.now.heap.size := (by omega); have : w.heap.size ≤ y1.now.heap.size := (by omega); have : w.heap.size < y1.now.heap.size + 1 + 1 := (by omega)))
        refine ⟨⟨i + 1, ⟨_, ?_⟩, by simp, rfl, key⟩, by simp [intOf]; omega⟩
        repeat' (first | (with_reducible exact Below.refl _ _) | (with_reducible assumption) | (with_reducible refine Ext.below _ ?_ ?_) | (with_reducible refine Below.on ?_ (by with_reducible assumption) ?_) | (with_reducible refine Below.alloc ?_ ?_ _) | (with_reducible refine Below.drew ?_) | (with_reducible refine Below.setCell ?_ ?_ _) | (with_reducible exact Nat.le_refl _) | omega | (simp; done) | (simp [go_sem]; done) | (simp at *; omega))
    · have hge : ¬ (i : Int) < n := by omega
      have eV : V = 0 := by have hE := hi.out.2; rw [drop_end (by rw [hln.out]; exact hlt), placesE] at hE; exact hE.symm
      clear hi hV
      subst eV
      go_wp2_with (first | ((first | with_reducible refine wp_region_ext2 (by kernel_rfl) (by kernel_rfl) ?_ | with_reducible refine wp_region_ext (by kernel_rfl) (by kernel_rfl) ?_); (repeat (first | go_big_quiet_step ((first | fail)) | quiet_step ((first | fail)))); refine wpQuiet_nil ?_; rintro _ ⟨yr, rfl⟩; have syr := Ext.size yr; (repeat (first | rw [World.size_alloc] at syr | rw [World.size_setCell] at syr | rw [World.size_drew] at syr))))
      go_returns
      refine ⟨rfl, ?_⟩
      repeat' (first | (with_reducible exact Below.refl _ _) | (with_reducible assumption) | (with_reducible refine Ext.below _ ?_ ?_) | (with_reducible refine Below.on ?_ (by with_reducible assumption) ?_) | (with_reducible refine Below.alloc ?_ ?_ _) | (with_reducible refine Below.drew ?_) | (with_reducible refine Below.setCell ?_ ?_ _) | (with_reducible exact Nat.le_refl _) | omega | (simp; done) | (simp [go_sem]; done) | (simp at *; omega))
end Go.Proofs.Ytgoilmiiegpnoaa

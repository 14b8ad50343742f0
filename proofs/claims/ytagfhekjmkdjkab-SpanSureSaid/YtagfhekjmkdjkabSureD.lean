/- Contract of the reference's outside: whether all places lie on one side of one of them. Condition: the list's cells. -/
import Derived.Test.YtagfhekjmkdjkabSureB
import Derived.Test.YtagfhekjmkdjkabSigns
namespace Go.Proofs.Ytagfhekjmkdjkab
open Go.RowKit Go.Shelf
attribute [local go_sem] Ext.cell Ext.frozen Ext.lt Ext.le Ext.lt_add Ext.le_add Ext.ne Ext.ne' lt2 lt3 lt4 lt5 le2 le3 le4
/-- The place k lies, seen from the origin, to the left of the place i, or in its direction. -/
def leftB (X Y : Nat → Int) (i k : Nat) : Bool := decide (0 < X i * Y k - Y i * X k) || (decide (X i * Y k - Y i * X k = 0) && decide (0 < X i * X k + Y i * Y k))
def rowB (X Y : Nat → Int) (i k : Nat) : Bool := (List.range k).all fun j => leftB X Y i j
theorem rowB_succ (X Y : Nat → Int) (i k : Nat) : rowB X Y i (k + 1) = (rowB X Y i k && leftB X Y i k) := by
  unfold rowB; rw [List.range_succ, List.all_append]; simp
theorem sgn_p {c : Int} (h : 0 < c) : sgn c = 1 := by
    unfold sgn
    repeat' split
    all_goals omega
theorem sgn_m {c : Int} (h : c < 0) : sgn c = -1 := by
    unfold sgn
    repeat' split
    all_goals omega
theorem sgn_0 {c : Int} (h : c = 0) : sgn c = 0 := by
    unfold sgn
    repeat' split
    all_goals omega
def outR (X Y : Nat → Int) (n : Nat) : Bool := (List.range n).any fun i => rowB X Y i n
set_option maxRecDepth 100000 in
set_option maxHeartbeats 8000000 in
theorem refoutside_any (B n cap : Nat) (X Y : Nat → Int) (w : World) (hn : n ≤ 8) (hB : B < w.heap.size) (hP : PairsAt w B n X Y) (hX : ∀ j, j < n → I64 (X j) ∧ I64 (Y j)) :
    Calls Try.prog 22 #[.slice (some ⟨B, 0, none⟩) n cap] w (Gives (.bool (outR X Y n)) w) := by
  obtain ⟨V, hV⟩ : ∃ V, outR X Y n = V := ⟨_, rfl⟩
  rw [hV]
  have hV := Go.Lib.hid hV
  have hX := Go.Lib.hid hX
  have hP := Go.Lib.hid hP
  go_enter Try.func22, Try.ntmps22
  go_wp2_with fail
  go_loopw [3] (fun s W => ∃ (i : Nat) (x : Ext w), s = .int .i64 i ∧ W = x.now ∧ Hid (i ≤ n ∧ ∀ j, j < i → rowB X Y j n = false)) (fun s _ => n - (intOf s).toNat)
  case atStart => exact ⟨0, ⟨w, Below.refl _ _⟩, rfl, rfl, Go.Lib.hid ⟨Nat.zero_le _, fun j hj => by omega⟩⟩
  case round =>
    obtain ⟨i, x, rfl, rfl, hi⟩ := hrel
    have xs := x.size
    by_cases hlt : i < n
    · have hlt2 : (i : Int) < n := by omega
      obtain ⟨p0, p1⟩ := hP.out i hlt
      obtain ⟨i0, i1⟩ := hX.out i hlt
      go_wp2_with fail
      go_loopw [4, 5] (fun f s W => ∃ (k : Nat) (y : Ext w), f = .bool (rowB X Y i k) ∧ s = .int .i64 k ∧ W = y.now ∧ Hid (k ≤ n)) (fun _ s _ => n - (intOf s).toNat)
      case atStart => exact ⟨0, x, rfl, rfl, rfl, Go.Lib.hid (Nat.zero_le _)⟩
      case round =>
        obtain ⟨k, y, rfl, rfl, rfl, hk⟩ := hrel
        have ys := y.size
        by_cases hkn : k < n
        · have hkn2 : (k : Int) < n := by omega
          obtain ⟨q0, q1⟩ := hP.out k hkn
          obtain ⟨k0, k1⟩ := hX.out k hkn
          have CR := fun W => refCross_any (X i) (Y i) (X k) (Y k) W i0 i1 k0 k1
          have DT := fun W => refDot_any (X i) (Y i) (X k) (Y k) W i0 i1 k0 k1
          have hr := rowB_succ X Y i k
          have hle := Go.Lib.hid (show k + 1 ≤ n from hkn)
          unfold leftB at hr
          clear i0 i1 k0 k1
          cases hb : rowB X Y i k
          · have E : Hid (rowB X Y i (k + 1) = false) := Go.Lib.hid (by rw [hr, hb, Bool.false_and])
            clear hr hb
            generalize sgn (X i * Y k - Y i * X k) = s1 at *
            go_wp2_with (first | ((first | with_reducible refine wp_region_ext2 (by kernel_rfl) (by kernel_rfl) ?_ | with_reducible refine wp_region_ext (by kernel_rfl) (by kernel_rfl) ?_); (repeat (first | go_big_quiet_step ((first | (go_at_call 42; with_reducible exact Calls.ext (CR _)) | (go_at_call 43; with_reducible exact Calls.ext (DT _)))) | quiet_step ((first | (go_at_call 42; with_reducible exact Calls.ext (CR _)) | (go_at_call 43; with_reducible exact Calls.ext (DT _)))))); refine wpQuiet_nil ?_; rintro _ ⟨yr, rfl⟩; have syr := Ext.size yr; (repeat (first | rw [World.size_alloc] at syr | rw [World.size_setCell] at syr | rw [World.size_drew] at syr)); have : B < yr.now.heap.size := (by omega); have : B ≤ yr.now.heap.size := (by omega); have : B < yr.now.heap.size + 1 + 1 := (by omega)) | (go_at_call 42; (first | with_reducible refine (Calls.giv2 (CR _)).mono ?_ | with_reducible refine (Calls.giv (CR _)).mono ?_); rintro _ _ ⟨y1, rfl, rfl⟩; have sy1 := Ext.size y1; (repeat (first | rw [World.size_alloc] at sy1 | rw [World.size_setCell] at sy1 | rw [World.size_drew] at sy1)); have : B < y1.now.heap.size := (by omega); have : B ≤ y1.now.heap.size := (by omega); have : B < y1.now.heap.size + 1 + 1 := (by omega)) | (go_at_call 43; (first | with_reducible refine (Calls.giv2 (DT _)).mono ?_ | with_reducible refine (Calls.giv (DT _)).mono ?_); rintro _ _ ⟨y2, rfl, rfl⟩; have sy2 := Ext.size y2; (repeat (first | rw [World.size_alloc] at sy2 | rw [World.size_setCell] at sy2 | rw [World.size_drew] at sy2)); have : B < y2.now.heap.size := (by omega); have : B ≤ y2.now.heap.size := (by omega); have : B < y2.now.heap.size + 1 + 1 := (by omega)))
            exact ⟨⟨k + 1, _, by rw [E.out], by simp, rfl, hle⟩, by simp [intOf]; omega⟩
          · rw [hb, Bool.true_and] at hr
            rcases Int.lt_trichotomy (X i * Y k - Y i * X k) 0 with hc | hc | hc
            · have E : Hid (rowB X Y i (k + 1) = false) := Go.Lib.hid (by rw [hr, decide_eq_false (show ¬ 0 < X i * Y k - Y i * X k by omega), decide_eq_false (show ¬ X i * Y k - Y i * X k = 0 by omega), Bool.false_and, Bool.or_false])
              rw [show sgn (X i * Y k - Y i * X k) = -1 from sgn_m hc] at CR
              clear hr hb hc
              go_wp2_with (first | ((first | with_reducible refine wp_region_ext2 (by kernel_rfl) (by kernel_rfl) ?_ | with_reducible refine wp_region_ext (by kernel_rfl) (by kernel_rfl) ?_); (repeat (first | go_big_quiet_step ((first | (go_at_call 42; with_reducible exact Calls.ext (CR _)) | (go_at_call 43; with_reducible exact Calls.ext (DT _)))) | quiet_step ((first | (go_at_call 42; with_reducible exact Calls.ext (CR _)) | (go_at_call 43; with_reducible exact Calls.ext (DT _)))))); refine wpQuiet_nil ?_; rintro _ ⟨yr, rfl⟩; have syr := Ext.size yr; (repeat (first | rw [World.size_alloc] at syr | rw [World.size_setCell] at syr | rw [World.size_drew] at syr)); have : B < yr.now.heap.size := (by omega); have : B ≤ yr.now.heap.size := (by omega); have : B < yr.now.heap.size + 1 + 1 := (by omega)) | (go_at_call 42; (first | with_reducible refine (Calls.giv2 (CR _)).mono ?_ | with_reducible refine (Calls.giv (CR _)).mono ?_); rintro _ _ ⟨y1, rfl, rfl⟩; have sy1 := Ext.size y1; (repeat (first | rw [World.size_alloc] at sy1 | rw [World.size_setCell] at sy1 | rw [World.size_drew] at sy1)); have : B < y1.now.heap.size := (by omega); have : B ≤ y1.now.heap.size := (by omega); have : B < y1.now.heap.size + 1 + 1 := (by omega)) | (go_at_call 43; (first | with_reducible refine (Calls.giv2 (DT _)).mono ?_ | with_reducible refine (Calls.giv (DT _)).mono ?_); rintro _ _ ⟨y2, rfl, rfl⟩; have sy2 := Ext.size y2; (repeat (first | rw [World.size_alloc] at sy2 | rw [World.size_setCell] at sy2 | rw [World.size_drew] at sy2)); have : B < y2.now.heap.size := (by omega); have : B ≤ y2.now.heap.size := (by omega); have : B < y2.now.heap.size + 1 + 1 := (by omega)))
              exact ⟨⟨k + 1, _, by rw [E.out], by simp, rfl, hle⟩, by simp [intOf]; omega⟩
            · rw [show sgn (X i * Y k - Y i * X k) = 0 from sgn_0 hc] at CR
              by_cases ht : 0 < X i * X k + Y i * Y k
              · have E : Hid (rowB X Y i (k + 1) = true) := Go.Lib.hid (by rw [hr, decide_eq_false (show ¬ 0 < X i * Y k - Y i * X k by omega), decide_eq_true hc, decide_eq_true ht, Bool.true_and, Bool.or_true])
                rw [show sgn (X i * X k + Y i * Y k) = 1 from sgn_p ht] at DT
                clear hr hb hc ht
                go_wp2_with (first | ((first | with_reducible refine wp_region_ext2 (by kernel_rfl) (by kernel_rfl) ?_ | with_reducible refine wp_region_ext (by kernel_rfl) (by kernel_rfl) ?_); (repeat (first | go_big_quiet_step ((first | (go_at_call 42; with_reducible exact Calls.ext (CR _)) | (go_at_call 43; with_reducible exact Calls.ext (DT _)))) | quiet_step ((first | (go_at_call 42; with_reducible exact Calls.ext (CR _)) | (go_at_call 43; with_reducible exact Calls.ext (DT _)))))); refine wpQuiet_nil ?_; rintro _ ⟨yr, rfl⟩; have syr := Ext.size yr; (repeat (first | rw [World.size_alloc] at syr | rw [World.size_setCell] at syr | rw [World.size_drew] at syr)); have : B < yr.now.heap.size := (by omega); have : B ≤ yr.now.heap.size := (by omega); have : B < yr.now.heap.size + 1 + 1 := (by omega)) | (go_at_call 42; (first | with_reducible refine (Calls.giv2 (CR _)).mono ?_ | with_reducible refine (Calls.giv (CR _)).mono ?_); rintro _ _ ⟨y1, rfl, rfl⟩; have sy1 := Ext.size y1; (repeat (first | rw [World.size_alloc] at sy1 | rw [World.size_setCell] at sy1 | rw [World.size_drew] at sy1)); have : B < y1.now.heap.size := (by omega); have : B ≤ y1.now.heap.size := (by omega); have : B < y1.now.heap.size + 1 + 1 := (by omega)) | (go_at_call 43; (first | with_reducible refine (Calls.giv2 (DT _)).mono ?_ | with_reducible refine (Calls.giv (DT _)).mono ?_); rintro _ _ ⟨y2, rfl, rfl⟩; have sy2 := Ext.size y2; (repeat (first | rw [World.size_alloc] at sy2 | rw [World.size_setCell] at sy2 | rw [World.size_drew] at sy2)); have : B < y2.now.heap.size := (by omega); have : B ≤ y2.now.heap.size := (by omega); have : B < y2.now.heap.size + 1 + 1 := (by omega)))
                exact ⟨⟨k + 1, _, by rw [E.out], by simp, rfl, hle⟩, by simp [intOf]; omega⟩
              · have E : Hid (rowB X Y i (k + 1) = false) := Go.Lib.hid (by rw [hr, decide_eq_false (show ¬ 0 < X i * Y k - Y i * X k by omega), decide_eq_false ht, Bool.and_false, Bool.or_false])
                have hs : ¬ 0 < sgn (X i * X k + Y i * Y k) := by
                  unfold sgn
                  repeat' split
                  all_goals omega
                generalize sgn (X i * X k + Y i * Y k) = s2 at *
                clear hr hb hc ht
                go_wp2_with (first | ((first | with_reducible refine wp_region_ext2 (by kernel_rfl) (by kernel_rfl) ?_ | with_reducible refine wp_region_ext (by kernel_rfl) (by kernel_rfl) ?_); (repeat (first | go_big_quiet_step ((first | (go_at_call 42; with_reducible exact Calls.ext (CR _)) | (go_at_call 43; with_reducible exact Calls.ext (DT _)))) | quiet_step ((first | (go_at_call 42; with_reducible exact Calls.ext (CR _)) | (go_at_call 43; with_reducible exact Calls.ext (DT _)))))); refine wpQuiet_nil ?_; rintro _ ⟨yr, rfl⟩; have syr := Ext.size yr; (repeat (first | rw [World.size_alloc] at syr | rw [World.size_setCell] at syr | rw [World.size_drew] at syr)); have : B < yr.now.heap.size := (by omega); have : B ≤ yr.now.heap.size := (by omega); have : B < yr.now.heap.size + 1 + 1 := (by omega)) | (go_at_call 42; (first | with_reducible refine (Calls.giv2 (CR _)).mono ?_ | with_reducible refine (Calls.giv (CR _)).mono ?_); rintro _ _ ⟨y1, rfl, rfl⟩; have sy1 := Ext.size y1; (repeat (first | rw [World.size_alloc] at sy1 | rw [World.size_setCell] at sy1 | rw [World.size_drew] at sy1)); have : B < y1.now.heap.size := (by omega); have : B ≤ y1.now.heap.size := (by omega); have : B < y1.now.heap.size + 1 + 1 := (by omega)) | (go_at_call 43; (first | with_reducible refine (Calls.giv2 (DT _)).mono ?_ | with_reducible refine (Calls.giv (DT _)).mono ?_); rintro _ _ ⟨y2, rfl, rfl⟩; have sy2 := Ext.size y2; (repeat (first | rw [World.size_alloc] at sy2 | rw [World.size_setCell] at sy2 | rw [World.size_drew] at sy2)); have : B < y2.now.heap.size := (by omega); have : B ≤ y2.now.heap.size := (by omega); have : B < y2.now.heap.size + 1 + 1 := (by omega)))
                exact ⟨⟨k + 1, _, by rw [E.out], by simp, rfl, hle⟩, by simp [intOf]; omega⟩
            · have E : Hid (rowB X Y i (k + 1) = true) := Go.Lib.hid (by rw [hr, decide_eq_true hc, Bool.true_or])
              rw [show sgn (X i * Y k - Y i * X k) = 1 from sgn_p hc] at CR
              clear hr hb hc
              go_wp2_with (first | ((first | with_reducible refine wp_region_ext2 (by kernel_rfl) (by kernel_rfl) ?_ | with_reducible refine wp_region_ext (by kernel_rfl) (by kernel_rfl) ?_); (repeat (first | go_big_quiet_step ((first | (go_at_call 42; with_reducible exact Calls.ext (CR _)) | (go_at_call 43; with_reducible exact Calls.ext (DT _)))) | quiet_step ((first | (go_at_call 42; with_reducible exact Calls.ext (CR _)) | (go_at_call 43; with_reducible exact Calls.ext (DT _)))))); refine wpQuiet_nil ?_; rintro _ ⟨yr, rfl⟩; have syr := Ext.size yr; (repeat (first | rw [World.size_alloc] at syr | rw [World.size_setCell] at syr | rw [World.size_drew] at syr)); have : B < yr.now.heap.size := (by omega); have : B ≤ yr.now.heap.size := (by omega); have : B < yr.now.heap.size + 1 + 1 := (by omega)) | (go_at_call 42; (first | with_reducible refine (Calls.giv2 (CR _)).mono ?_ | with_reducible refine (Calls.giv (CR _)).mono ?_); rintro _ _ ⟨y1, rfl, rfl⟩; have sy1 := Ext.size y1; (repeat (first | rw [World.size_alloc] at sy1 | rw [World.size_setCell] at sy1 | rw [World.size_drew] at sy1)); have : B < y1.now.heap.size := (by omega); have : B ≤ y1.now.heap.size := (by omega); have : B < y1.now.heap.size + 1 + 1 := (by omega)) | (go_at_call 43; (first | with_reducible refine (Calls.giv2 (DT _)).mono ?_ | with_reducible refine (Calls.giv (DT _)).mono ?_); rintro _ _ ⟨y2, rfl, rfl⟩; have sy2 := Ext.size y2; (repeat (first | rw [World.size_alloc] at sy2 | rw [World.size_setCell] at sy2 | rw [World.size_drew] at sy2)); have : B < y2.now.heap.size := (by omega); have : B ≤ y2.now.heap.size := (by omega); have : B < y2.now.heap.size + 1 + 1 := (by omega)))
              exact ⟨⟨k + 1, _, by rw [E.out], by simp, rfl, hle⟩, by simp [intOf]; omega⟩
        · have hnk : ¬ (k : Int) < n := by omega
          obtain rfl : k = n := by have := hk.out; omega
          cases hb : rowB X Y i k
          · have key : Hid (i + 1 ≤ k ∧ ∀ j, j < i + 1 → rowB X Y j k = false) := Go.Lib.hid ⟨hlt, fun j hj => by
              rcases Nat.lt_or_ge j i with h1 | h1
              · exact hi.out.2 j h1
              · rw [show j = i by omega]; exact hb⟩
            clear hb
            go_wp2_with (first | ((first | with_reducible refine wp_region_ext2 (by kernel_rfl) (by kernel_rfl) ?_ | with_reducible refine wp_region_ext (by kernel_rfl) (by kernel_rfl) ?_); (repeat (first | go_big_quiet_step ((first | fail)) | quiet_step ((first | fail)))); refine wpQuiet_nil ?_; rintro _ ⟨yr, rfl⟩; have syr := Ext.size yr; (repeat (first | rw [World.size_alloc] at syr | rw [World.size_setCell] at syr | rw [World.size_drew] at syr)); have : B < yr.now.heap.size := (by omega); have : B ≤ yr.now.heap.size := (by omega); have : B < yr.now.heap.size + 1 + 1 := (by omega)))
            exact ⟨⟨i + 1, _, by simp, rfl, key⟩, by simp [intOf]; omega⟩
          · have eV : V = true := by
              rw [← hV.out]; exact List.any_eq_true.2 ⟨i, List.mem_range.2 hlt, hb⟩
            clear hb hV
            subst eV
            go_wp2_with (first | ((first | with_reducible refine wp_region_ext2 (by kernel_rfl) (by kernel_rfl) ?_ | with_reducible refine wp_region_ext (by kernel_rfl) (by kernel_rfl) ?_); (repeat (first | go_big_quiet_step ((first | fail)) | quiet_step ((first | fail)))); refine wpQuiet_nil ?_; rintro _ ⟨yr, rfl⟩; have syr := Ext.size yr; (repeat (first | rw [World.size_alloc] at syr | rw [World.size_setCell] at syr | rw [World.size_drew] at syr)); have : B < yr.now.heap.size := (by omega); have : B ≤ yr.now.heap.size := (by omega); have : B < yr.now.heap.size + 1 + 1 := (by omega)))
            go_returns
            refine ⟨rfl, ?_⟩
            repeat' (first | (with_reducible exact Below.refl _ _) | (with_reducible assumption) | (with_reducible refine Ext.below _ ?_ ?_) | (with_reducible refine Below.on ?_ (by with_reducible assumption) ?_) | (with_reducible refine Below.alloc ?_ ?_ _) | (with_reducible refine Below.drew ?_) | (with_reducible refine Below.setCell ?_ ?_ _) | (with_reducible exact Nat.le_refl _) | omega | (simp; done) | (simp [go_sem]; done) | (simp at *; omega))
    · have hni : ¬ (i : Int) < n := by omega
      have eV : V = false := by
        rw [← hV.out, Bool.eq_false_iff]; intro h
        obtain ⟨j, hj, h2⟩ := List.any_eq_true.1 h
        rw [hi.out.2 j (by have := List.mem_range.1 hj; omega)] at h2; cases h2
      clear hV
      subst eV
      go_wp2_with (first | ((first | with_reducible refine wp_region_ext2 (by kernel_rfl) (by kernel_rfl) ?_ | with_reducible refine wp_region_ext (by kernel_rfl) (by kernel_rfl) ?_); (repeat (first | go_big_quiet_step ((first | fail)) | quiet_step ((first | fail)))); refine wpQuiet_nil ?_; rintro _ ⟨yr, rfl⟩; have syr := Ext.size yr; (repeat (first | rw [World.size_alloc] at syr | rw [World.size_setCell] at syr | rw [World.size_drew] at syr)); have : B < yr.now.heap.size := (by omega); have : B ≤ yr.now.heap.size := (by omega); have : B < yr.now.heap.size + 1 + 1 := (by omega)))
      go_returns
      refine ⟨rfl, ?_⟩
      repeat' (first | (with_reducible exact Below.refl _ _) | (with_reducible assumption) | (with_reducible refine Ext.below _ ?_ ?_) | (with_reducible refine Below.on ?_ (by with_reducible assumption) ?_) | (with_reducible refine Below.alloc ?_ ?_ _) | (with_reducible refine Below.drew ?_) | (with_reducible refine Below.setCell ?_ ?_ _) | (with_reducible exact Nat.le_refl _) | omega | (simp; done) | (simp [go_sem]; done) | (simp at *; omega))
end Go.Proofs.Ytagfhekjmkdjkab

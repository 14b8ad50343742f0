/- Contracts of CheckAir and of Ends, for valid air and a valid stone. Condition: the table of limits stands as it was laid. Contracts of CheckGrades and Reach for valid grades. Condition: the grades stand in memory. -/
import Derived.Test.YtlmhbggigbmeaaaDoorBlG
import Derived.LoopTactic
namespace Go.Proofs.YtlmhbggigbmeaaaDoor
open Go.RowKit Go.Shelf
attribute [local go_sem] Option.isSome_some Ext.cell Ext.frozen Ext.lt Ext.le Ext.lt_add Ext.le_add Ext.ne Ext.ne' lt2 lt3 lt4 lt5 le2 le3 le4
attribute [local go_sem] RExt.cell RExt.frozen RExt.lt RExt.le RExt.lt_add RExt.le_add RExt.ne RExt.ne'
theorem drop_at {α : Type} {l : List α} {i : Nat} (h : i < l.length) : l.drop i = l[i] :: l.drop (i + 1) := List.drop_eq_getElem_cons h
theorem drop_end {α : Type} {l : List α} {i : Nat} (h : ¬ i < l.length) : l.drop i = [] := List.drop_eq_nil_of_le (by omega)
set_option maxHeartbeats 4000000 in
theorem CheckAir_any (p : Option Addr) (c : Nat) (l : List V2) (w : World) (hP : VecsAt w p l) : Calls Tryd.prog 48 #[.slice p l.length c] w (Gives (.int .i64 (airE l)) w) := by
  unfold airE
  by_cases hc : 32 < l.length
  · rw [if_pos hc]
    have hc2 : 32 < (l.length : Int) := by omega
    go_enter Tryd.func48, Tryd.ntmps48
    go_wp2_with (first | ((first | with_reducible refine wrx2 ?_ | with_reducible refine wrx ?_); (repeat (first | go_big_quiet_step ((first | fail)) | quiet_step ((first | fail)))); refine wpQuiet_nil ?_; rintro _ ⟨yr, rfl⟩; have syr := Ext.size yr; (repeat (first | rw [World.size_alloc] at syr | rw [World.size_setCell] at syr | rw [World.size_drew] at syr))))
    go_returns
    refine ⟨rfl, ?_⟩
    repeat' (first | (with_reducible exact Below.refl _ _) | (with_reducible assumption) | (with_reducible refine Ext.below _ ?_ ?_) | (with_reducible refine Below.on ?_ (by with_reducible assumption) ?_) | (with_reducible refine Below.alloc ?_ ?_ _) | (with_reducible refine Below.drew ?_) | (with_reducible refine Below.setCell ?_ ?_ _) | (with_reducible exact Nat.le_refl _) | omega | (simp; done) | (simp [go_sem]; done) | (simp at *; omega))
  · rw [if_neg hc]
    have hc2 : ¬ 32 < (l.length : Int) := by omega
    have hn : l.length ≤ 32 := by omega
    clear hc
    obtain ⟨V, hV⟩ : ∃ V, lysE l = V := ⟨_, rfl⟩
    rw [hV]
    have hV := Go.Lib.hid hV
    have hP := Go.Lib.hid hP
    go_enter Tryd.func48, Tryd.ntmps48
    go_wp2_with (first | ((first | with_reducible refine wrx2 ?_ | with_reducible refine wrx ?_); (repeat (first | go_big_quiet_step ((first | fail)) | quiet_step ((first | fail)))); refine wpQuiet_nil ?_; rintro _ ⟨yr, rfl⟩; have syr := Ext.size yr; (repeat (first | rw [World.size_alloc] at syr | rw [World.size_setCell] at syr | rw [World.size_drew] at syr))))
    clear hc2
    go_loopw [10] (fun s W => ∃ (i : Nat) (x : Ext w), s = .int .i64 i ∧ W = x.now ∧ Hid (i ≤ l.length ∧ lysE (l.drop i) = V)) (fun s _ => l.length - (intOf s).toNat)
    case atStart => exact ⟨0, ⟨w, Below.refl _ _⟩, rfl, rfl, Go.Lib.hid ⟨Nat.zero_le _, by simpa using hV.out⟩⟩
    case round =>
      obtain ⟨i, x, rfl, rfl, hi⟩ := hrel
      have xs := x.size
      by_cases hlt : i < l.length
      · have hlt2 : (i : Int) < l.length := by omega
        obtain ⟨B, o, rfl, hB, c1, c2⟩ := hP.out i hlt
        have hE := hi.out.2
        rw [drop_at hlt, lysE] at hE
        by_cases hok : (1 ≤ l[i].x ∧ l[i].x ≤ 1000) ∧ 0 ≤ l[i].y ∧ l[i].y ≤ 1000
        · have key : Hid (i + 1 ≤ l.length ∧ lysE (l.drop (i + 1)) = V) := Go.Lib.hid ⟨hlt, by rwa [if_pos hok] at hE⟩
          clear hE hi
          generalize l[i].x = t1 at *
          generalize l[i].y = t2 at *
          obtain ⟨⟨g1, g2⟩, g3, g4⟩ := hok
          go_wp2_with (first | ((first | with_reducible refine wrx2 ?_ | with_reducible refine wrx ?_); (repeat (first | go_big_quiet_step ((first | fail)) | quiet_step ((first | fail)))); refine wpQuiet_nil ?_; rintro _ ⟨yr, rfl⟩; have syr := Ext.size yr; (repeat (first | rw [World.size_alloc] at syr | rw [World.size_setCell] at syr | rw [World.size_drew] at syr)); have : B < yr.now.heap.size := (by omega); have : B ≤ yr.now.heap.size := (by omega); have : B < yr.now.heap.size + 1 + 1 := (by omega)))
          exact ⟨⟨i + 1, ⟨_, x.grew.alloc x.size _⟩, by simp, rfl, key⟩, by simp [intOf]; omega⟩
        · have eV : V = 2 := by rw [← hE, if_neg hok]
          clear hE hi hV
          subst eV
          generalize l[i].x = t1 at *
          generalize l[i].y = t2 at *
          rcases (show t1 < 1 ∨ (1 ≤ t1 ∧ 1000 < t1) ∨ ((1 ≤ t1 ∧ t1 ≤ 1000) ∧ t2 < 0) ∨ ((1 ≤ t1 ∧ t1 ≤ 1000) ∧ 0 ≤ t2 ∧ 1000 < t2) by omega) with g1 | ⟨g1, g2⟩ | ⟨⟨g1, g2⟩, g3⟩ | ⟨⟨g1, g2⟩, g3, g4⟩
          all_goals
            clear hok
            go_wp2_with (first | ((first | with_reducible refine wrx2 ?_ | with_reducible refine wrx ?_); (repeat (first | go_big_quiet_step ((first | fail)) | quiet_step ((first | fail)))); refine wpQuiet_nil ?_; rintro _ ⟨yr, rfl⟩; have syr := Ext.size yr; (repeat (first | rw [World.size_alloc] at syr | rw [World.size_setCell] at syr | rw [World.size_drew] at syr)); have : B < yr.now.heap.size := (by omega); have : B ≤ yr.now.heap.size := (by omega); have : B < yr.now.heap.size + 1 + 1 := (by omega)))
            go_returns
            refine ⟨rfl, ?_⟩
            repeat' (first | (with_reducible exact Below.refl _ _) | (with_reducible assumption) | (with_reducible refine Ext.below _ ?_ ?_) | (with_reducible refine Below.on ?_ (by with_reducible assumption) ?_) | (with_reducible refine Below.alloc ?_ ?_ _) | (with_reducible refine Below.drew ?_) | (with_reducible refine Below.setCell ?_ ?_ _) | (with_reducible exact Nat.le_refl _) | omega | (simp; done) | (simp [go_sem]; done) | (simp at *; omega))
      · have hge : ¬ (i : Int) < l.length := by omega
        have eV : V = 0 := by have hE := hi.out.2; rw [drop_end hlt, lysE] at hE; exact hE.symm
        clear hi hV
        subst eV
        go_wp2_with (first | ((first | with_reducible refine wrx2 ?_ | with_reducible refine wrx ?_); (repeat (first | go_big_quiet_step ((first | fail)) | quiet_step ((first | fail)))); refine wpQuiet_nil ?_; rintro _ ⟨yr, rfl⟩; have syr := Ext.size yr; (repeat (first | rw [World.size_alloc] at syr | rw [World.size_setCell] at syr | rw [World.size_drew] at syr))))
        go_returns
        refine ⟨rfl, ?_⟩
        repeat' (first | (with_reducible exact Below.refl _ _) | (with_reducible assumption) | (with_reducible refine Ext.below _ ?_ ?_) | (with_reducible refine Below.on ?_ (by with_reducible assumption) ?_) | (with_reducible refine Below.alloc ?_ ?_ _) | (with_reducible refine Below.drew ?_) | (with_reducible refine Below.setCell ?_ ?_ _) | (with_reducible exact Nat.le_refl _) | omega | (simp; done) | (simp [go_sem]; done) | (simp at *; omega))
theorem fallOf_any (p : Option Addr) (c n : Nat) (s : StoneR) (w : World) (hs : s.Ok) : Calls Tryd.prog 49 #[.slice p n c, s.val] w (Gives (.agg #[.slice p n c, .int .i64 s.size, .int .i64 s.dens, .int .i64 s.strong, .int .i64 s.spin, .int .i64 s.shape, .bool s.pile, .int .i64 s.speed, .int .i64 s.slope, .int .i64 0, .int .i64 (s.speed * s.speed)]) w) := by
  have a := hs.speed
  have b := Int.mul_nonneg (show 0 ≤ s.speed by omega) (show 0 ≤ s.speed by omega)
  have c := Int.mul_le_mul a.2 a.2 (by omega) (by omega)
  have e : wrap64 (s.speed * s.speed) = s.speed * s.speed := IntWalk.wrap64_in _ (by omega)
  unfold StoneR.val StoneR.vals
  clear hs a b c
  go_enter Tryd.func49, Tryd.ntmps49
  go_wp2_with (first | ((first | with_reducible refine wrx2 ?_ | with_reducible refine wrx ?_); (repeat (first | go_big_quiet_step ((first | fail)) | quiet_step ((first | fail)))); refine wpQuiet_nil ?_; rintro _ ⟨yr, rfl⟩; have syr := Ext.size yr; (repeat (first | rw [World.size_alloc] at syr | rw [World.size_setCell] at syr | rw [World.size_drew] at syr))))
  refine bodyPost_ret (v := .agg #[.slice p n c, .int .i64 s.size, .int .i64 s.dens, .int .i64 s.strong, .int .i64 s.spin, .int .i64 s.shape, .bool s.pile, .int .i64 s.speed, .int .i64 s.slope, .int .i64 0, .int .i64 (s.speed * s.speed)]) (by simp (maxDischargeDepth := 9) [results, Tryd.results49, go_sem]) rfl ?_
  refine ⟨rfl, ?_⟩
  repeat' (first | (with_reducible exact Below.refl _ _) | (with_reducible assumption) | (with_reducible refine Ext.below _ ?_ ?_) | (with_reducible refine Below.on ?_ (by with_reducible assumption) ?_) | (with_reducible refine Below.alloc ?_ ?_ _) | (with_reducible refine Below.drew ?_) | (with_reducible refine Below.setCell ?_ ?_ _) | (with_reducible exact Nat.le_refl _) | omega | (simp; done) | (simp [go_sem]; done) | (simp at *; omega))
end Go.Proofs.YtlmhbggigbmeaaaDoor
namespace Go.Proofs.YtlmhbggigbmeaaaDoor
open Go.RowKit Go.Shelf
attribute [local go_sem] Option.isSome_some Ext.cell Ext.frozen Ext.lt Ext.le Ext.lt_add Ext.le_add Ext.ne Ext.ne' lt2 lt3 lt4 lt5 le2 le3 le4
/-- Valid grades: energies, reaches. -/
structure GradesOk (l : List V2) : Prop where
  pos : 0 < l.length
  le : l.length ≤ 32
  rng : ∀ g ∈ l, (0 ≤ g.x ∧ g.x ≤ 1152921504606846976) ∧ 0 ≤ g.y ∧ g.y ≤ 400
  up : ∀ i (h : i + 1 < l.length), l[i].x < l[i + 1].x ∧ l[i].y ≤ l[i + 1].y
/-- How far a blow of an energy reaches. -/
def reachL (e : Int) : List V2 → Int → Int
  | [], a => a
  | g :: l, a => reachL e l (if g.x ≤ e then g.y else a)
set_option maxHeartbeats 8000000 in
theorem CheckGrades_ok (p : Option Addr) (c : Nat) (l : List V2) (w : World) (hP : VecsAt w p l) (hok : GradesOk l) : Calls Tryd.prog 56 #[.slice p l.length c] w (Gives (.int .i64 0) w) := by
  have h0 := hok.pos
  have h1 := hok.le
  have h02 : ¬ (l.length : Int) = 0 := by omega
  have h03 : ((l.length : Int) == 0) = false := by rw [beq_eq_false_iff_ne]; exact h02
  have hc2 : ¬ 32 < (l.length : Int) := by omega
  replace hok := Go.Lib.hid hok
  replace hP := Go.Lib.hid hP
  go_enter Tryd.func56, Tryd.ntmps56
  go_wp2_with (first | ((first | with_reducible refine wrx2 ?_ | with_reducible refine wrx ?_); (repeat (first | go_big_quiet_step ((first | fail)) | quiet_step ((first | fail)))); refine wpQuiet_nil ?_; rintro _ ⟨yr, rfl⟩; have syr := Ext.size yr; (repeat (first | rw [World.size_alloc] at syr | rw [World.size_setCell] at syr | rw [World.size_drew] at syr))))
  clear h02 h03 hc2
  go_loopw [13] (fun s W => ∃ (i : Nat) (x : Ext w), s = .int .i64 i ∧ W = x.now ∧ Hid (i ≤ l.length)) (fun s _ => l.length - (intOf s).toNat)
  case atStart => exact ⟨0, ⟨w, Below.refl _ _⟩, rfl, rfl, Go.Lib.hid (Nat.zero_le _)⟩
  case round =>
    obtain ⟨i, x, rfl, rfl, hi⟩ := hrel
    have xs := x.size
    by_cases hlt : i < l.length
    · have hlt2 : (i : Int) < l.length := by omega
      obtain ⟨B, o, hp, hB, c1, c2⟩ := hP.out i hlt
      obtain ⟨⟨g1, g2⟩, g3, g4⟩ := hok.out.rng l[i] (List.getElem_mem hlt)
      have hi32 : i ≤ 32 := by omega
      clear hi
      subst hp
      have : B < (x.now).heap.size := (by omega); have : B < (x.now).heap.size + 1 := (by omega); have : B < (x.now).heap.size + 1 + 1 := (by omega); have : B ≠ (x.now).heap.size := (by omega); have : B ≠ (x.now).heap.size + 1 := (by omega)
      cases i with
      | zero =>
        generalize l[0].x = t1 at *
        generalize l[0].y = t2 at *
        simp only [Nat.zero_mul, Nat.add_zero] at c1 c2
        go_wp2_with (first | ((first | with_reducible refine wrx2 ?_ | with_reducible refine wrx ?_); (repeat (first | go_big_quiet_step ((first | fail)) | quiet_step ((first | fail)))); refine wpQuiet_nil ?_; rintro _ ⟨yr, rfl⟩; have syr := Ext.size yr; (repeat (first | rw [World.size_alloc] at syr | rw [World.size_setCell] at syr | rw [World.size_drew] at syr)); have : B < yr.now.heap.size := (by omega); have : B ≤ yr.now.heap.size := (by omega); have : B < yr.now.heap.size + 1 + 1 := (by omega)))
        refine ⟨⟨1, ⟨yr.now, ?_⟩, by simp, rfl, Go.Lib.hid (by omega)⟩, by simp [intOf]; omega⟩
        repeat' (first | (with_reducible exact Below.refl _ _) | (with_reducible assumption) | (with_reducible refine Ext.below _ ?_ ?_) | (with_reducible refine Below.on ?_ (by with_reducible assumption) ?_) | (with_reducible refine Below.alloc ?_ ?_ _) | (with_reducible refine Below.drew ?_) | (with_reducible refine Below.setCell ?_ ?_ _) | (with_reducible exact Nat.le_refl _) | omega | (simp; done) | (simp [go_sem]; done) | (simp at *; omega))
      | succ j =>
        obtain ⟨B', o', hp', hB', d1, d2⟩ := hP.out j (by omega)
        obtain ⟨u1, u2⟩ := hok.out.up j hlt
        injection hp' with hp'
        injection hp' with e1 e2
        subst e1 e2
        have hj2 : (j : Int) < l.length := by omega
        generalize l[j + 1].x = t1 at *
        generalize l[j + 1].y = t2 at *
        generalize l[j].x = t3 at *
        generalize l[j].y = t4 at *
        have u3 : ¬ t1 ≤ t3 := by omega
        have u4 : ¬ t2 < t4 := by omega
        clear hB' u1 u2
        go_wp2_with (first | ((first | with_reducible refine wrx2 ?_ | with_reducible refine wrx ?_); (repeat (first | go_big_quiet_step ((first | fail)) | quiet_step ((first | fail)))); refine wpQuiet_nil ?_; rintro _ ⟨yr, rfl⟩; have syr := Ext.size yr; (repeat (first | rw [World.size_alloc] at syr | rw [World.size_setCell] at syr | rw [World.size_drew] at syr)); have : B < yr.now.heap.size := (by omega); have : B ≤ yr.now.heap.size := (by omega); have : B < yr.now.heap.size + 1 + 1 := (by omega)))
        refine ⟨⟨j + 1 + 1, ⟨yr.now, ?_⟩, by simp, rfl, Go.Lib.hid (by omega)⟩, by simp [intOf]; omega⟩
        repeat' (first | (with_reducible exact Below.refl _ _) | (with_reducible assumption) | (with_reducible refine Ext.below _ ?_ ?_) | (with_reducible refine Below.on ?_ (by with_reducible assumption) ?_) | (with_reducible refine Below.alloc ?_ ?_ _) | (with_reducible refine Below.drew ?_) | (with_reducible refine Below.setCell ?_ ?_ _) | (with_reducible exact Nat.le_refl _) | omega | (simp; done) | (simp [go_sem]; done) | (simp at *; omega))
    · have hge : ¬ (i : Int) < l.length := by omega
      clear hi
      go_wp2_with (first | ((first | with_reducible refine wrx2 ?_ | with_reducible refine wrx ?_); (repeat (first | go_big_quiet_step ((first | fail)) | quiet_step ((first | fail)))); refine wpQuiet_nil ?_; rintro _ ⟨yr, rfl⟩; have syr := Ext.size yr; (repeat (first | rw [World.size_alloc] at syr | rw [World.size_setCell] at syr | rw [World.size_drew] at syr))))
      go_returns
      refine ⟨rfl, ?_⟩
      repeat' (first | (with_reducible exact Below.refl _ _) | (with_reducible assumption) | (with_reducible refine Ext.below _ ?_ ?_) | (with_reducible refine Below.on ?_ (by with_reducible assumption) ?_) | (with_reducible refine Below.alloc ?_ ?_ _) | (with_reducible refine Below.drew ?_) | (with_reducible refine Below.setCell ?_ ?_ _) | (with_reducible exact Nat.le_refl _) | omega | (simp; done) | (simp [go_sem]; done) | (simp at *; omega))
set_option maxHeartbeats 4000000 in
theorem reachOf_any (p : Option Addr) (c : Nat) (l : List V2) (e : Int) (w : World) (hP : VecsAt w p l) (hn : l.length ≤ 1000) : Calls Tryd.prog 57 #[.slice p l.length c, .int .i64 e] w (Gives (.int .i64 (reachL e l 0)) w) := by
  obtain ⟨V, hV⟩ : ∃ V, reachL e l 0 = V := ⟨_, rfl⟩
  rw [hV]
  replace hV := Go.Lib.hid hV
  replace hP := Go.Lib.hid hP
  go_enter Tryd.func57, Tryd.ntmps57
  go_wp2_with (first | ((first | with_reducible refine wrx2 ?_ | with_reducible refine wrx ?_); (repeat (first | go_big_quiet_step ((first | fail)) | quiet_step ((first | fail)))); refine wpQuiet_nil ?_; rintro _ ⟨yr, rfl⟩; have syr := Ext.size yr; (repeat (first | rw [World.size_alloc] at syr | rw [World.size_setCell] at syr | rw [World.size_drew] at syr))))
  go_loopw [5, 10] (fun t s W => ∃ (i : Nat) (a : Int) (x : Ext w), t = .int .i64 a ∧ s = .int .i64 i ∧ W = x.now ∧ Hid (i ≤ l.length ∧ reachL e (l.drop i) a = V)) (fun _ s _ => l.length - (intOf s).toNat)
  case atStart => exact ⟨0, 0, ⟨w, Below.refl _ _⟩, rfl, rfl, rfl, Go.Lib.hid ⟨Nat.zero_le _, by simpa using hV.out⟩⟩
  case round =>
    obtain ⟨i, a, x, rfl, rfl, rfl, hi⟩ := hrel
    have xs := x.size
    by_cases hlt : i < l.length
    · have hlt2 : (i : Int) < l.length := by omega
      obtain ⟨B, o, rfl, hB, c1, c2⟩ := hP.out i hlt
      have hE := hi.out.2
      rw [drop_at hlt, reachL] at hE
      by_cases hg : l[i].x ≤ e
      · have key : Hid (i + 1 ≤ l.length ∧ reachL e (l.drop (i + 1)) l[i].y = V) := Go.Lib.hid ⟨hlt, by rwa [if_pos hg] at hE⟩
        clear hE hi
        generalize l[i].x = t1 at *
        generalize l[i].y = t2 at *
        go_wp2_with (first | ((first | with_reducible refine wrx2 ?_ | with_reducible refine wrx ?_); (repeat (first | go_big_quiet_step ((first | fail)) | quiet_step ((first | fail)))); refine wpQuiet_nil ?_; rintro _ ⟨yr, rfl⟩; have syr := Ext.size yr; (repeat (first | rw [World.size_alloc] at syr | rw [World.size_setCell] at syr | rw [World.size_drew] at syr)); have : B < yr.now.heap.size := (by omega); have : B ≤ yr.now.heap.size := (by omega); have : B < yr.now.heap.size + 1 + 1 := (by omega)))
        exact ⟨⟨i + 1, t2, ⟨_, x.grew.alloc x.size _⟩, rfl, by simp, rfl, key⟩, by simp [intOf]; omega⟩
      · have key : Hid (i + 1 ≤ l.length ∧ reachL e (l.drop (i + 1)) a = V) := Go.Lib.hid ⟨hlt, by rwa [if_neg hg] at hE⟩
        clear hE hi
        generalize l[i].x = t1 at *
        generalize l[i].y = t2 at *
        go_wp2_with (first | ((first | with_reducible refine wrx2 ?_ | with_reducible refine wrx ?_); (repeat (first | go_big_quiet_step ((first | fail)) | quiet_step ((first | fail)))); refine wpQuiet_nil ?_; rintro _ ⟨yr, rfl⟩; have syr := Ext.size yr; (repeat (first | rw [World.size_alloc] at syr | rw [World.size_setCell] at syr | rw [World.size_drew] at syr)); have : B < yr.now.heap.size := (by omega); have : B ≤ yr.now.heap.size := (by omega); have : B < yr.now.heap.size + 1 + 1 := (by omega)))
        exact ⟨⟨i + 1, a, ⟨_, x.grew.alloc x.size _⟩, rfl, by simp, rfl, key⟩, by simp [intOf]; omega⟩
    · have hge : ¬ (i : Int) < l.length := by omega
      have eV : V = a := by have hE := hi.out.2; rw [drop_end hlt, reachL] at hE; exact hE.symm
      clear hi hV
      subst eV
      go_wp2_with (first | ((first | with_reducible refine wrx2 ?_ | with_reducible refine wrx ?_); (repeat (first | go_big_quiet_step ((first | fail)) | quiet_step ((first | fail)))); refine wpQuiet_nil ?_; rintro _ ⟨yr, rfl⟩; have syr := Ext.size yr; (repeat (first | rw [World.size_alloc] at syr | rw [World.size_setCell] at syr | rw [World.size_drew] at syr))))
      go_returns
      refine ⟨rfl, ?_⟩
      repeat' (first | (with_reducible exact Below.refl _ _) | (with_reducible assumption) | (with_reducible refine Ext.below _ ?_ ?_) | (with_reducible refine Below.on ?_ (by with_reducible assumption) ?_) | (with_reducible refine Below.alloc ?_ ?_ _) | (with_reducible refine Below.drew ?_) | (with_reducible refine Below.setCell ?_ ?_ _) | (with_reducible exact Nat.le_refl _) | omega | (simp; done) | (simp [go_sem]; done) | (simp at *; omega))
theorem Reach_ok (p : Option Addr) (c : Nat) (l : List V2) (e : Int) (w : World) (hP : VecsAt w p l) (hok : GradesOk l) : Calls Tryd.prog 30 #[.slice p l.length c, .int .i64 e] w (Gives (.int .i64 (reachL e l 0)) w) := by
  have cc := fun (W : World) (y : Below w.heap.size w W) => CheckGrades_ok p c l W (hP.on y) hok
  have cr := fun (W : World) (y : Below w.heap.size w W) => reachOf_any p c l e W (hP.on y) (by have := hok.le; omega)
  generalize reachL e l 0 = V at *
  clear hP hok
  generalize l.length = n at *
  go_enter Tryd.func30, Tryd.ntmps30
  go_wp2_with (first | ((first | with_reducible refine wrx2 ?_ | with_reducible refine wrx ?_); (repeat (first | go_big_quiet_step ((first | (go_at_call 56; with_reducible exact Calls.ext (cc _ bcl)) | (go_at_call 57; with_reducible exact Calls.ext (cr _ bcl)))) | quiet_step ((first | (go_at_call 56; with_reducible exact Calls.ext (cc _ bcl)) | (go_at_call 57; with_reducible exact Calls.ext (cr _ bcl)))))); refine wpQuiet_nil ?_; rintro _ ⟨yr, rfl⟩; have syr := Ext.size yr; (repeat (first | rw [World.size_alloc] at syr | rw [World.size_setCell] at syr | rw [World.size_drew] at syr))) | (go_at_call 56; (first | with_reducible refine (Calls.giv2 (cc _ bcl)).mono ?_ | with_reducible refine (Calls.giv (cc _ bcl)).mono ?_); rintro _ _ ⟨y1, rfl, rfl⟩; have sy1 := Ext.size y1; (repeat (first | rw [World.size_alloc] at sy1 | rw [World.size_setCell] at sy1 | rw [World.size_drew] at sy1))) | (go_at_call 57; (first | with_reducible refine (Calls.giv2 (cr _ bcl)).mono ?_ | with_reducible refine (Calls.giv (cr _ bcl)).mono ?_); rintro _ _ ⟨y2, rfl, rfl⟩; have sy2 := Ext.size y2; (repeat (first | rw [World.size_alloc] at sy2 | rw [World.size_setCell] at sy2 | rw [World.size_drew] at sy2))))
  go_returns
  refine ⟨rfl, ?_⟩
  repeat' (first | (with_reducible exact Below.refl _ _) | (with_reducible assumption) | (with_reducible refine Ext.below _ ?_ ?_) | (with_reducible refine Below.on ?_ (by with_reducible assumption) ?_) | (with_reducible refine Below.alloc ?_ ?_ _) | (with_reducible refine Below.drew ?_) | (with_reducible refine Below.setCell ?_ ?_ _) | (with_reducible exact Nat.le_refl _) | omega | (simp; done) | (simp [go_sem]; done) | (simp at *; omega))
/-- More energy reaches no less far. -/
theorem reachL_mono {e e' : Int} (he : e ≤ e') : ∀ (l : List V2) (a a' : Int), a ≤ a' → (∀ g ∈ l, a' ≤ g.y) → l.Pairwise (fun g h => g.y ≤ h.y) → reachL e l a ≤ reachL e' l a'
  | [], a, a', h, _, _ => h
  | g :: l, a, a', h, h1, h2 => by
    obtain ⟨h3, h4⟩ := List.pairwise_cons.1 h2
    have h5 := h1 g (by simp)
    unfold reachL
    by_cases q : g.x ≤ e'
    · rw [if_pos q]
      refine reachL_mono he l _ _ ?_ h3 h4
      split <;> omega
    · rw [if_neg q, if_neg (by omega)]
      exact reachL_mono he l _ _ h (fun u hu => h1 u (by simp [hu])) h4
end Go.Proofs.YtlmhbggigbmeaaaDoor

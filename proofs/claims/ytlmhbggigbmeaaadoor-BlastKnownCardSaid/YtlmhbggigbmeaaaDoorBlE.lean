/- Contracts of CheckAir and of Ends, for valid air and a valid stone. Condition: the table of limits stands as it was laid. -/
import Derived.Test.YtlmhbggigbmeaaaDoorBlG
import Derived.LoopTactic
namespace Go.Proofs.YtlmhbggigbmeaaaDoor
open Go.RowKit Go.Shelf
attribute [local go_sem] Option.isSome_some Ext.cell Ext.frozen Ext.lt Ext.le Ext.lt_add Ext.le_add Ext.ne Ext.ne' lt2 lt3 lt4 lt5 le2 le3 le4
attribute [local go_sem] RExt.cell RExt.frozen RExt.lt RExt.le RExt.lt_add RExt.le_add RExt.ne RExt.ne'
theorem drop_at {α : Type} {l : List α} {i : Nat} (h : i < l.length) : l.drop i = l[i] :: l.drop (i + 1) := List.drop_eq_getElem_cons h
theorem drop_end {α : Type} {l : List α} {i : Nat} (h : ¬ i < l.length) : l.drop i = [] := List.drop_eq_nil_of_le (by omega)
set_option maxHeartbeats 4000000 in
theorem CheckAir_any (p : Option Addr) (c : Nat) (l : List V2) (w : World) (hP : VecsAt w p l) : Calls Tryd.prog 48 #[.slice p l.length c] w (Gives (.int .i64 (airE l)) w) := by
  unfold airE
  by_cases hc : 32 < l.length
  · rw [if_pos hc]
    have hc2 : 32 < (l.length : Int) := by omega
    go_enter Tryd.func48, Tryd.ntmps48
    go_wp2_with (first | ((first | with_reducible refine wrx2 ?_ | with_reducible refine wrx ?_); (repeat (first | go_big_quiet_step ((first | fail)) | quiet_step ((first | fail)))); refine wpQuiet_nil ?_; rintro _ ⟨yr, rfl⟩; have syr := Ext.size yr; (repeat (first | rw [World.size_alloc] at syr | rw [World.size_setCell] at syr | rw [World.size_drew] at syr))))
    go_returns
    refine ⟨rfl, ?_⟩
    repeat' (first | (with_reducible exact Below.refl _ _) | (with_reducible assumption) | (with_reducible refine Ext.below _ ?_ ?_) | (with_reducible refine Below.on ?_ (by with_reducible assumption) ?_) | (with_reducible refine Below.alloc ?_ ?_ _) | (with_reducible refine Below.drew ?_) | (with_reducible refine Below.setCell ?_ ?_ _) | (with_reducible exact Nat.le_refl _) | omega | (simp; done) | (simp [go_sem]; done) | (simp at *; omega))
  · rw [if_neg hc]
    have hc2 : ¬ 32 < (l.length : Int) := by omega
    have hn : l.length ≤ 32 := by omega
    clear hc
    obtain ⟨V, hV⟩ : ∃ V, lysE l = V := ⟨_, rfl⟩
    rw [hV]
    have hV := Go.Lib.hid hV
    have hP := Go.Lib.hid hP
    go_enter Tryd.func48, Tryd.ntmps48
    go_wp2_with (first | ((first | with_reducible refine wrx2 ?_ | with_reducible refine wrx ?_); (repeat (first | go_big_quiet_step ((first | fail)) | quiet_step ((first | fail)))); refine wpQuiet_nil ?_; rintro _ ⟨yr, rfl⟩; have syr := Ext.size yr; (repeat (first | rw [World.size_alloc] at syr | rw [World.size_setCell] at syr | rw [World.size_drew] at syr))))
    clear hc2
    go_loopw [10] (fun s W => ∃ (i : Nat) (x : Ext w), s = .int .i64 i ∧ W = x.now ∧ Hid (i ≤ l.length ∧ lysE (l.drop i) = V)) (fun s _ => l.length - (intOf s).toNat)
    case atStart => exact ⟨0, ⟨w, Below.refl _ _⟩, rfl, rfl, Go.Lib.hid ⟨Nat.zero_le _, by simpa using hV.out⟩⟩
    case round =>
      obtain ⟨i, x, rfl, rfl, hi⟩ := hrel
      have xs := x.size
      by_cases hlt : i < l.length
      · have hlt2 : (i : Int) < l.length := by omega
        obtain ⟨B, o, rfl, hB, c1, c2⟩ := hP.out i hlt
        have hE := hi.out.2
        rw [drop_at hlt, lysE] at hE
        by_cases hok : (1 ≤ l[i].x ∧ l[i].x ≤ 1000) ∧ 0 ≤ l[i].y ∧ l[i].y ≤ 1000
        · have key : Hid (i + 1 ≤ l.length ∧ lysE (l.drop (i + 1)) = V) := Go.Lib.hid ⟨hlt, by rwa [if_pos hok] at hE⟩
          clear hE hi
          generalize l[i].x = t1 at *
          generalize l[i].y = t2 at *
          obtain ⟨⟨g1, g2⟩, g3, g4⟩ := hok
          go_wp2_with (first | ((first | with_reducible refine wrx2 ?_ | with_reducible refine wrx ?_); (repeat (first | go_big_quiet_step ((first | fail)) | quiet_step ((first | fail)))); refine wpQuiet_nil ?_; rintro _ ⟨yr, rfl⟩; have syr := Ext.size yr; (repeat (first | rw [World.size_alloc] at syr | rw [World.size_setCell] at syr | rw [World.size_drew] at syr)); have : B < yr.now.heap.size := (by omega); have : B ≤ yr.now.heap.size := (by omega); have : B < yr.now.heap.size + 1 + 1 := (by omega)))
          exact ⟨⟨i + 1, ⟨_, x.grew.alloc x.size _⟩, by simp, rfl, key⟩, by simp [intOf]; omega⟩
        · have eV : V = 2 := by rw [← hE, if_neg hok]
          clear hE hi hV
          subst eV
          generalize l[i].x = t1 at *
          generalize l[i].y = t2 at *
          rcases (show t1 < 1 ∨ (1 ≤ t1 ∧ 1000 < t1) ∨ ((1 ≤ t1 ∧ t1 ≤ 1000) ∧ t2 < 0) ∨ ((1 ≤ t1 ∧ t1 ≤ 1000) ∧ 0 ≤ t2 ∧ 1000 < t2) by omega) with g1 | ⟨g1, g2⟩ | ⟨⟨g1, g2⟩, g3⟩ | ⟨⟨g1, g2⟩, g3, g4⟩
          all_goals
            clear hok
            go_wp2_with (first | ((first | with_reducible refine wrx2 ?_ | with_reducible refine wrx ?_); (repeat (first | go_big_quiet_step ((first | fail)) | quiet_step ((first | fail)))); refine wpQuiet_nil ?_; rintro _ ⟨yr, rfl⟩; have syr := Ext.size yr; (repeat (first | rw [World.size_alloc] at syr | rw [World.size_setCell] at syr | rw [World.size_drew] at syr)); have : B < yr.now.heap.size := (by omega); have : B ≤ yr.now.heap.size := (by omega); have : B < yr.now.heap.size + 1 + 1 := (by omega)))
            go_returns
            refine ⟨rfl, ?_⟩
            repeat' (first | (with_reducible exact Below.refl _ _) | (with_reducible assumption) | (with_reducible refine Ext.below _ ?_ ?_) | (with_reducible refine Below.on ?_ (by with_reducible assumption) ?_) | (with_reducible refine Below.alloc ?_ ?_ _) | (with_reducible refine Below.drew ?_) | (with_reducible refine Below.setCell ?_ ?_ _) | (with_reducible exact Nat.le_refl _) | omega | (simp; done) | (simp [go_sem]; done) | (simp at *; omega))
      · have hge : ¬ (i : Int) < l.length := by omega
        have eV : V = 0 := by have hE := hi.out.2; rw [drop_end hlt, lysE] at hE; exact hE.symm
        clear hi hV
        subst eV
        go_wp2_with (first | ((first | with_reducible refine wrx2 ?_ | with_reducible refine wrx ?_); (repeat (first | go_big_quiet_step ((first | fail)) | quiet_step ((first | fail)))); refine wpQuiet_nil ?_; rintro _ ⟨yr, rfl⟩; have syr := Ext.size yr; (repeat (first | rw [World.size_alloc] at syr | rw [World.size_setCell] at syr | rw [World.size_drew] at syr))))
        go_returns
        refine ⟨rfl, ?_⟩
        repeat' (first | (with_reducible exact Below.refl _ _) | (with_reducible assumption) | (with_reducible refine Ext.below _ ?_ ?_) | (with_reducible refine Below.on ?_ (by with_reducible assumption) ?_) | (with_reducible refine Below.alloc ?_ ?_ _) | (with_reducible refine Below.drew ?_) | (with_reducible refine Below.setCell ?_ ?_ _) | (with_reducible exact Nat.le_refl _) | omega | (simp; done) | (simp [go_sem]; done) | (simp at *; omega))
theorem fallOf_any (p : Option Addr) (c n : Nat) (s : StoneR) (w : World) (hs : s.Ok) : Calls Tryd.prog 49 #[.slice p n c, s.val] w (Gives (.agg #[.slice p n c, .int .i64 s.size, .int .i64 s.dens, .int .i64 s.strong, .int .i64 s.spin, .int .i64 s.shape, .bool s.pile, .int .i64 s.speed, .int .i64 s.slope, .int .i64 0, .int .i64 (s.speed * s.speed)]) w) := by
  have a := hs.speed
  have b := Int.mul_nonneg (show 0 ≤ s.speed by omega) (show 0 ≤ s.speed by omega)
  have c := Int.mul_le_mul a.2 a.2 (by omega) (by omega)
  have e : wrap64 (s.speed * s.speed) = s.speed * s.speed := IntWalk.wrap64_in _ (by omega)
  unfold StoneR.val StoneR.vals
  clear hs a b c
  go_enter Tryd.func49, Tryd.ntmps49
  go_wp2_with (first | ((first | with_reducible refine wrx2 ?_ | with_reducible refine wrx ?_); (repeat (first | go_big_quiet_step ((first | fail)) | quiet_step ((first | fail)))); refine wpQuiet_nil ?_; rintro _ ⟨yr, rfl⟩; have syr := Ext.size yr; (repeat (first | rw [World.size_alloc] at syr | rw [World.size_setCell] at syr | rw [World.size_drew] at syr))))
  refine bodyPost_ret (v := .agg #[.slice p n c, .int .i64 s.size, .int .i64 s.dens, .int .i64 s.strong, .int .i64 s.spin, .int .i64 s.shape, .bool s.pile, .int .i64 s.speed, .int .i64 s.slope, .int .i64 0, .int .i64 (s.speed * s.speed)]) (by simp (maxDischargeDepth := 9) [results, Tryd.results49, go_sem]) rfl ?_
  refine ⟨rfl, ?_⟩
  repeat' (first | (with_reducible exact Below.refl _ _) | (with_reducible assumption) | (with_reducible refine Ext.below _ ?_ ?_) | (with_reducible refine Below.on ?_ (by with_reducible assumption) ?_) | (with_reducible refine Below.alloc ?_ ?_ _) | (with_reducible refine Below.drew ?_) | (with_reducible refine Below.setCell ?_ ?_ _) | (with_reducible exact Nat.le_refl _) | omega | (simp; done) | (simp [go_sem]; done) | (simp at *; omega))
end Go.Proofs.YtlmhbggigbmeaaaDoor

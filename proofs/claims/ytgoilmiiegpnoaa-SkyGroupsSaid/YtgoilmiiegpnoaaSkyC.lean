/- Contracts of CheckWorld, checkStations, checkCatalogs, Check: the first error. Condition: the cells that are read. -/
import Derived.Test.YtgoilmiiegpnoaaSkyB
namespace Go.Proofs.Ytgoilmiiegpnoaa
open Go.RowKit Go.Shelf
attribute [local go_sem] Ext.cell Ext.frozen Ext.lt Ext.le Ext.lt_add Ext.le_add Ext.ne Ext.ne' lt2 lt3 lt4 lt5 le2 le3 le4
set_option maxHeartbeats 4000000 in
theorem CheckWorld_any (p : Option Addr) (c : Nat) (l : List BodyR) (h : Int) (w : World) (hP : BodiesAt w p l) : Calls Try.prog 49 #[wval p l.length c h] w (Gives (.int .i64 (worldE l h)) w) := by
  have cc := fun W => checkCount_any l.length 1 8 W
  unfold wval worldE
  by_cases hc : cntE l.length 1 8 = 0
  · rw [if_pos hc]
    rw [hc] at cc
    obtain ⟨V, hV⟩ : ∃ V, bodiesE l = V := ⟨_, rfl⟩
    rw [hV]
    obtain ⟨R, hR⟩ : ∃ R : Int, (if V = 0 then (if 0 ≤ h ∧ h < l.length then 0 else 7) else V) = R := ⟨_, rfl⟩
    rw [hR]
    have hR := Go.Lib.hid hR
    have hV := Go.Lib.hid hV
    have hP := Go.Lib.hid hP
    have hn : l.length ≤ 8 := (cntE_zero hc).2
    clear hc
    go_enter Try.func49, Try.ntmps49
    go_wp2_with (first | ((first | with_reducible refine wp_region_ext2 (by kernel_rfl) (by kernel_rfl) ?_ | with_reducible refine wp_region_ext (by kernel_rfl) (by kernel_rfl) ?_); (repeat (first | go_big_quiet_step ((first | (go_at_call 52; with_reducible exact Calls.ext (cc _)))) | quiet_step ((first | (go_at_call 52; with_reducible exact Calls.ext (cc _)))))); refine wpQuiet_nil ?_; rintro _ ⟨yr, rfl⟩; have syr := Ext.size yr; (repeat (first | rw [World.size_alloc] at syr | rw [World.size_setCell] at syr | rw [World.size_drew] at syr))) | (go_at_call 52; (first | with_reducible refine (Calls.giv2 (cc _)).mono ?_ | with_reducible refine (Calls.giv (cc _)).mono ?_); rintro _ _ ⟨y1, rfl, rfl⟩; have sy1 := Ext.size y1; (repeat (first | rw [World.size_alloc] at sy1 | rw [World.size_setCell] at sy1 | rw [World.size_drew] at sy1))))
    have hBw : Below w.heap.size w y1.now := by repeat' (first | (with_reducible exact Below.refl _ _) | (with_reducible assumption) | (with_reducible refine Ext.below _ ?_ ?_) | (with_reducible refine Below.on ?_ (by with_reducible assumption) ?_) | (with_reducible refine Below.alloc ?_ ?_ _) | (with_reducible refine Below.drew ?_) | (with_reducible refine Below.setCell ?_ ?_ _) | (with_reducible exact Nat.le_refl _) | omega | (simp; done) | (simp [go_sem]; done) | (simp at *; omega))
    have hP := Go.Lib.hid (hP.out.on hBw)
    have hTs : w.heap.size < y1.now.heap.size := by omega
    have hT0 : y1.now.cell? ⟨w.heap.size, 0, none⟩ = some (.slice p l.length c) := by simp [go_sem]
    have hT1 : y1.now.cell? ⟨w.heap.size, 1, none⟩ = some (.int .i64 h) := by simp [go_sem]
    generalize y1.now = W0 at *
    go_loopw [17] (fun s W => ∃ (i : Nat) (x : Ext W0), s = .int .i64 i ∧ W = x.now ∧ Hid (i ≤ l.length ∧ bodiesE (l.drop i) = V)) (fun s _ => l.length - (intOf s).toNat)
    case atStart => exact ⟨0, ⟨W0, Below.refl _ _⟩, rfl, rfl, Go.Lib.hid ⟨Nat.zero_le _, by simpa using hV.out⟩⟩
    case round =>
      obtain ⟨i, x, rfl, rfl, hi⟩ := hrel
      have xs := x.size
      have hbx := x.below hBw (by omega)
      by_cases hlt : i < l.length
      · have hlt2 : (i : Int) < l.length := by omega
        obtain ⟨ht, B, o, rfl, hB, c1, c2, c3⟩ := hP.out i hlt
        have hE := hi.out.2
        rw [drop_at hlt, bodiesE] at hE
        have aw := fun (W : World) (y : Below W0.heap.size W0 W) => checkBody_any l[i].mu l[i].rad l[i].tp l[i].tc l[i].track W (ht.on y)
        by_cases hw : bodyE l[i] = 0
        · have key : Hid (i + 1 ≤ l.length ∧ bodiesE (l.drop (i + 1)) = V) := Go.Lib.hid ⟨hlt, by rw [if_pos hw] at hE; exact hE⟩
          rw [show bodyE ⟨l[i].mu, l[i].rad, l[i].tp, l[i].tc, l[i].track⟩ = 0 from hw] at aw
          clear hE hi hw ht
          generalize l[i].mu = u1 at *
          generalize l[i].rad = u2 at *
          generalize l[i].track.length = u3 at *
          generalize l[i].tp = u4 at *
          generalize l[i].tc = u5 at *
          go_wp2_with (first | ((first | with_reducible refine wp_region_ext2 (by kernel_rfl) (by kernel_rfl) ?_ | with_reducible refine wp_region_ext (by kernel_rfl) (by kernel_rfl) ?_); (repeat (first | go_big_quiet_step ((first | (go_at_call 65; with_reducible exact Calls.ext (aw _ (by repeat' (first | (with_reducible exact Below.refl _ _) | (with_reducible assumption) | (with_reducible refine Ext.below _ ?_ ?_) | (with_reducible refine Below.on ?_ (by with_reducible assumption) ?_) | (with_reducible refine Below.alloc ?_ ?_ _) | (with_reducible refine Below.drew ?_) | (with_reducible refine Below.setCell ?_ ?_ _) | (with_reducible exact Nat.le_refl _) | omega | (simp; done) | (simp [go_sem]; done) | (simp at *; omega))))))) | quiet_step ((first | (go_at_call 65; with_reducible exact Calls.ext (aw _ (by repeat' (first | (with_reducible exact Below.refl _ _) | (with_reducible assumption) | (with_reducible refine Ext.below _ ?_ ?_) | (with_reducible refine Below.on ?_ (by with_reducible assumption) ?_) | (with_reducible refine Below.alloc ?_ ?_ _) | (with_reducible refine Below.drew ?_) | (with_reducible refine Below.setCell ?_ ?_ _) | (with_reducible exact Nat.le_refl _) | omega | (simp; done) | (simp [go_sem]; done) | (simp at *; omega))))))))); refine wpQuiet_nil ?_; rintro _ ⟨yr, rfl⟩; have syr := Ext.size yr; (repeat (first | rw [World.size_alloc] at syr | rw [World.size_setCell] at syr | rw [World.size_drew] at syr)); have : B < yr.now.heap.size := (by omega); have : B ≤ yr.now.heap.size := (by omega); have : B < yr.now.heap.size + 1 + 1 := (by omega)) | (go_at_call 65; (first | with_reducible refine (Calls.giv2 (aw _ (by repeat' (first | (with_reducible exact Below.refl _ _) | (with_reducible assumption) | (with_reducible refine Ext.below _ ?_ ?_) | (with_reducible refine Below.on ?_ (by with_reducible assumption) ?_) | (with_reducible refine Below.alloc ?_ ?_ _) | (with_reducible refine Below.drew ?_) | (with_reducible refine Below.setCell ?_ ?_ _) | (with_reducible exact Nat.le_refl _) | omega | (simp; done) | (simp [go_sem]; done) | (simp at *; omega))))).mono ?_ | with_reducible refine (Calls.giv (aw _ (by repeat' (first | (with_reducible exact Below.refl _ _) | (with_reducible assumption) | (with_reducible refine Ext.below _ ?_ ?_) | (with_reducible refine Below.on ?_ (by with_reducible assumption) ?_) | (with_reducible refine Below.alloc ?_ ?_ _) | (with_reducible refine Below.drew ?_) | (with_reducible refine Below.setCell ?_ ?_ _) | (with_reducible exact Nat.le_refl _) | omega | (simp; done) | (simp [go_sem]; done) | (simp at *; omega))))).mono ?_); rintro _ _ ⟨y1, rfl, rfl⟩; have sy1 := Ext.size y1; (repeat (first | rw [World.size_alloc] at sy1 | rw [World.size_setCell] at sy1 | rw [World.size_drew] at sy1)); have : B < y1.now.heap.size := (by omega); have : B ≤ y1.now.heap.size := (by omega); have : B < y1.now.heap.size + 1 + 1 := (by omega)))
          refine ⟨⟨i + 1, ⟨_, ?_⟩, by simp, rfl, key⟩, by simp [intOf]; omega⟩
          repeat' (first | (with_reducible exact Below.refl _ _) | (with_reducible assumption) | (with_reducible refine Ext.below _ ?_ ?_) | (with_reducible refine Below.on ?_ (by with_reducible assumption) ?_) | (with_reducible refine Below.alloc ?_ ?_ _) | (with_reducible refine Below.drew ?_) | (with_reducible refine Below.setCell ?_ ?_ _) | (with_reducible exact Nat.le_refl _) | omega | (simp; done) | (simp [go_sem]; done) | (simp at *; omega))
        · have eR : R = bodyE l[i] := by rw [if_neg hw] at hE; rw [← hR.out, ← hE, if_neg hw]
          clear hE hi hV hR ht
          generalize bodyE l[i] = e at *
          subst eR
          have aw : ∀ (W : World), Below W0.heap.size W0 W → Calls Try.prog 65 #[.agg #[.int .i64 l[i].mu, .int .i64 l[i].rad, .slice l[i].tp l[i].track.length l[i].tc]] W (Gives (.int .i64 R) W) := aw
          generalize l[i].mu = u1 at *
          generalize l[i].rad = u2 at *
          generalize l[i].track.length = u3 at *
          generalize l[i].tp = u4 at *
          generalize l[i].tc = u5 at *
          go_wp2_with (first | ((first | with_reducible refine wp_region_ext2 (by kernel_rfl) (by kernel_rfl) ?_ | with_reducible refine wp_region_ext (by kernel_rfl) (by kernel_rfl) ?_); (repeat (first | go_big_quiet_step ((first | (go_at_call 65; with_reducible exact Calls.ext (aw _ (by repeat' (first | (with_reducible exact Below.refl _ _) | (with_reducible assumption) | (with_reducible refine Ext.below _ ?_ ?_) | (with_reducible refine Below.on ?_ (by with_reducible assumption) ?_) | (with_reducible refine Below.alloc ?_ ?_ _) | (with_reducible refine Below.drew ?_) | (with_reducible refine Below.setCell ?_ ?_ _) | (with_reducible exact Nat.le_refl _) | omega | (simp; done) | (simp [go_sem]; done) | (simp at *; omega))))))) | quiet_step ((first | (go_at_call 65; with_reducible exact Calls.ext (aw _ (by repeat' (first | (with_reducible exact Below.refl _ _) | (with_reducible assumption) | (with_reducible refine Ext.below _ ?_ ?_) | (with_reducible refine Below.on ?_ (by with_reducible assumption) ?_) | (with_reducible refine Below.alloc ?_ ?_ _) | (with_reducible refine Below.drew ?_) | (with_reducible refine Below.setCell ?_ ?_ _) | (with_reducible exact Nat.le_refl _) | omega | (simp; done) | (simp [go_sem]; done) | (simp at *; omega))))))))); refine wpQuiet_nil ?_; rintro _ ⟨yr, rfl⟩; have syr := Ext.size yr; (repeat (first | rw [World.size_alloc] at syr | rw [World.size_setCell] at syr | rw [World.size_drew] at syr)); have : B < yr.now.heap.size := (by omega); have : B ≤ yr.now.heap.size := (by omega); have : B < yr.now.heap.size + 1 + 1 := (by omega)) | (go_at_call 65; (first | with_reducible refine (Calls.giv2 (aw _ (by repeat' (first | (with_reducible exact Below.refl _ _) | (with_reducible assumption) | (with_reducible refine Ext.below _ ?_ ?_) | (with_reducible refine Below.on ?_ (by with_reducible assumption) ?_) | (with_reducible refine Below.alloc ?_ ?_ _) | (with_reducible refine Below.drew ?_) | (with_reducible refine Below.setCell ?_ ?_ _) | (with_reducible exact Nat.le_refl _) | omega | (simp; done) | (simp [go_sem]; done) | (simp at *; omega))))).mono ?_ | with_reducible refine (Calls.giv (aw _ (by repeat' (first | (with_reducible exact Below.refl _ _) | (with_reducible assumption) | (with_reducible refine Ext.below _ ?_ ?_) | (with_reducible refine Below.on ?_ (by with_reducible assumption) ?_) | (with_reducible refine Below.alloc ?_ ?_ _) | (with_reducible refine Below.drew ?_) | (with_reducible refine Below.setCell ?_ ?_ _) | (with_reducible exact Nat.le_refl _) | omega | (simp; done) | (simp [go_sem]; done) | (simp at *; omega))))).mono ?_); rintro _ _ ⟨y1, rfl, rfl⟩; have sy1 := Ext.size y1; (repeat (first | rw [World.size_alloc] at sy1 | rw [World.size_setCell] at sy1 | rw [World.size_drew] at sy1)); have : B < y1.now.heap.size := (by omega); have : B ≤ y1.now.heap.size := (by omega); have : B < y1.now.heap.size + 1 + 1 := (by omega)))
          go_returns
          refine ⟨rfl, ?_⟩
          repeat' (first | (with_reducible exact Below.refl _ _) | (with_reducible assumption) | (with_reducible refine Ext.below _ ?_ ?_) | (with_reducible refine Below.on ?_ (by with_reducible assumption) ?_) | (with_reducible refine Below.alloc ?_ ?_ _) | (with_reducible refine Below.drew ?_) | (with_reducible refine Below.setCell ?_ ?_ _) | (with_reducible exact Nat.le_refl _) | omega | (simp; done) | (simp [go_sem]; done) | (simp at *; omega))
      · have hge : ¬ (i : Int) < l.length := by omega
        have eV : V = 0 := by have hE := hi.out.2; rw [drop_end hlt, bodiesE] at hE; exact hE.symm
        have hR := hR.out
        rw [if_pos eV] at hR
        have hb := fun W => hasBody_any p l.length c h h W
        unfold wval at hb
        clear hi hV eV
        by_cases hh : 0 ≤ h ∧ h < l.length
        · rw [if_pos hh] at hR
          rw [decide_eq_true hh] at hb
          clear hh
          subst hR
          go_wp2_with (first | ((first | with_reducible refine wp_region_ext2 (by kernel_rfl) (by kernel_rfl) ?_ | with_reducible refine wp_region_ext (by kernel_rfl) (by kernel_rfl) ?_); (repeat (first | go_big_quiet_step ((first | (go_at_call 66; with_reducible exact Calls.ext (hb _)))) | quiet_step ((first | (go_at_call 66; with_reducible exact Calls.ext (hb _)))))); refine wpQuiet_nil ?_; rintro _ ⟨yr, rfl⟩; have syr := Ext.size yr; (repeat (first | rw [World.size_alloc] at syr | rw [World.size_setCell] at syr | rw [World.size_drew] at syr))) | (go_at_call 66; (first | with_reducible refine (Calls.giv2 (hb _)).mono ?_ | with_reducible refine (Calls.giv (hb _)).mono ?_); rintro _ _ ⟨y1, rfl, rfl⟩; have sy1 := Ext.size y1; (repeat (first | rw [World.size_alloc] at sy1 | rw [World.size_setCell] at sy1 | rw [World.size_drew] at sy1))))
          go_returns
          refine ⟨rfl, ?_⟩
          repeat' (first | (with_reducible exact Below.refl _ _) | (with_reducible assumption) | (with_reducible refine Ext.below _ ?_ ?_) | (with_reducible refine Below.on ?_ (by with_reducible assumption) ?_) | (with_reducible refine Below.alloc ?_ ?_ _) | (with_reducible refine Below.drew ?_) | (with_reducible refine Below.setCell ?_ ?_ _) | (with_reducible exact Nat.le_refl _) | omega | (simp; done) | (simp [go_sem]; done) | (simp at *; omega))
        · rw [if_neg hh] at hR
          rw [decide_eq_false hh] at hb
          clear hh
          subst hR
          go_wp2_with (first | ((first | with_reducible refine wp_region_ext2 (by kernel_rfl) (by kernel_rfl) ?_ | with_reducible refine wp_region_ext (by kernel_rfl) (by kernel_rfl) ?_); (repeat (first | go_big_quiet_step ((first | (go_at_call 66; with_reducible exact Calls.ext (hb _)))) | quiet_step ((first | (go_at_call 66; with_reducible exact Calls.ext (hb _)))))); refine wpQuiet_nil ?_; rintro _ ⟨yr, rfl⟩; have syr := Ext.size yr; (repeat (first | rw [World.size_alloc] at syr | rw [World.size_setCell] at syr | rw [World.size_drew] at syr))) | (go_at_call 66; (first | with_reducible refine (Calls.giv2 (hb _)).mono ?_ | with_reducible refine (Calls.giv (hb _)).mono ?_); rintro _ _ ⟨y1, rfl, rfl⟩; have sy1 := Ext.size y1; (repeat (first | rw [World.size_alloc] at sy1 | rw [World.size_setCell] at sy1 | rw [World.size_drew] at sy1))))
          go_returns
          refine ⟨rfl, ?_⟩
          repeat' (first | (with_reducible exact Below.refl _ _) | (with_reducible assumption) | (with_reducible refine Ext.below _ ?_ ?_) | (with_reducible refine Below.on ?_ (by with_reducible assumption) ?_) | (with_reducible refine Below.alloc ?_ ?_ _) | (with_reducible refine Below.drew ?_) | (with_reducible refine Below.setCell ?_ ?_ _) | (with_reducible exact Nat.le_refl _) | omega | (simp; done) | (simp [go_sem]; done) | (simp at *; omega))
  · rw [if_neg hc]
    generalize cntE l.length 1 8 = e at *
    go_enter Try.func49, Try.ntmps49
    go_wp2_with (first | ((first | with_reducible refine wp_region_ext2 (by kernel_rfl) (by kernel_rfl) ?_ | with_reducible refine wp_region_ext (by kernel_rfl) (by kernel_rfl) ?_); (repeat (first | go_big_quiet_step ((first | (go_at_call 52; with_reducible exact Calls.ext (cc _)))) | quiet_step ((first | (go_at_call 52; with_reducible exact Calls.ext (cc _)))))); refine wpQuiet_nil ?_; rintro _ ⟨yr, rfl⟩; have syr := Ext.size yr; (repeat (first | rw [World.size_alloc] at syr | rw [World.size_setCell] at syr | rw [World.size_drew] at syr))) | (go_at_call 52; (first | with_reducible refine (Calls.giv2 (cc _)).mono ?_ | with_reducible refine (Calls.giv (cc _)).mono ?_); rintro _ _ ⟨y1, rfl, rfl⟩; have sy1 := Ext.size y1; (repeat (first | rw [World.size_alloc] at sy1 | rw [World.size_setCell] at sy1 | rw [World.size_drew] at sy1))))
    go_returns
    refine ⟨rfl, ?_⟩
    repeat' (first | (with_reducible exact Below.refl _ _) | (with_reducible assumption) | (with_reducible refine Ext.below _ ?_ ?_) | (with_reducible refine Below.on ?_ (by with_reducible assumption) ?_) | (with_reducible refine Below.alloc ?_ ?_ _) | (with_reducible refine Below.drew ?_) | (with_reducible refine Below.setCell ?_ ?_ _) | (with_reducible exact Nat.le_refl _) | omega | (simp; done) | (simp [go_sem]; done) | (simp at *; omega))
set_option maxHeartbeats 4000000 in
theorem checkStations_any (p : Option Addr) (c : Nat) (l : List StR) (w : World) (hP : StsAt w p l) : Calls Try.prog 50 #[.slice p l.length c] w (Gives (.int .i64 (stationsE l)) w) := by
  unfold stationsE
  by_cases hc : 16 < l.length
  · rw [if_pos hc]
    have hc2 : 16 < (l.length : Int) := by omega
    go_enter Try.func50, Try.ntmps50
    go_wp2_with (first | ((first | with_reducible refine wp_region_ext2 (by kernel_rfl) (by kernel_rfl) ?_ | with_reducible refine wp_region_ext (by kernel_rfl) (by kernel_rfl) ?_); (repeat (first | go_big_quiet_step ((first | fail)) | quiet_step ((first | fail)))); refine wpQuiet_nil ?_; rintro _ ⟨yr, rfl⟩; have syr := Ext.size yr; (repeat (first | rw [World.size_alloc] at syr | rw [World.size_setCell] at syr | rw [World.size_drew] at syr))))
    go_returns
    refine ⟨rfl, ?_⟩
    repeat' (first | (with_reducible exact Below.refl _ _) | (with_reducible assumption) | (with_reducible refine Ext.below _ ?_ ?_) | (with_reducible refine Below.on ?_ (by with_reducible assumption) ?_) | (with_reducible refine Below.alloc ?_ ?_ _) | (with_reducible refine Below.drew ?_) | (with_reducible refine Below.setCell ?_ ?_ _) | (with_reducible exact Nat.le_refl _) | omega | (simp; done) | (simp [go_sem]; done) | (simp at *; omega))
  · rw [if_neg hc]
    have hc2 : ¬ 16 < (l.length : Int) := by omega
    have hn : l.length ≤ 16 := by omega
    clear hc
    obtain ⟨V, hV⟩ : ∃ V, stsE 0 l = V := ⟨_, rfl⟩
    rw [hV]
    have hV := Go.Lib.hid hV
    have hP := Go.Lib.hid hP
    go_enter Try.func50, Try.ntmps50
    go_wp2_with (first | ((first | with_reducible refine wp_region_ext2 (by kernel_rfl) (by kernel_rfl) ?_ | with_reducible refine wp_region_ext (by kernel_rfl) (by kernel_rfl) ?_); (repeat (first | go_big_quiet_step ((first | fail)) | quiet_step ((first | fail)))); refine wpQuiet_nil ?_; rintro _ ⟨yr, rfl⟩; have syr := Ext.size yr; (repeat (first | rw [World.size_alloc] at syr | rw [World.size_setCell] at syr | rw [World.size_drew] at syr))))
    clear hc2
    go_loopw [3, 11] (fun t s W => ∃ (i : Nat) (z : Int) (x : Ext w), t = .int .i64 z ∧ s = .int .i64 i ∧ W = x.now ∧ Hid (i ≤ l.length ∧ stsE z (l.drop i) = V)) (fun _ s _ => l.length - (intOf s).toNat)
    case atStart => exact ⟨0, 0, ⟨w, Below.refl _ _⟩, rfl, rfl, rfl, Go.Lib.hid ⟨Nat.zero_le _, by simpa using hV.out⟩⟩
    case round =>
      obtain ⟨i, z, x, rfl, rfl, rfl, hi⟩ := hrel
      have xs := x.size
      by_cases hlt : i < l.length
      · have hlt2 : (i : Int) < l.length := by omega
        obtain ⟨B, o, rfl, hB, c1, c2, c3⟩ := hP.out i hlt
        have hE := hi.out.2
        rw [drop_at hlt, stsE] at hE
        have aw := fun W => areWithin_any l[i].off.x l[i].off.y 1048576 W (by omega)
        by_cases hid : l[i].id ≤ z
        · have eV : V = 11 := by rw [← hE, if_pos hid]
          clear hE hi hV
          subst eV
          generalize l[i].id = t0 at *
          generalize l[i].off.x = t1 at *
          generalize l[i].off.y = t2 at *
          go_wp2_with (first | ((first | with_reducible refine wp_region_ext2 (by kernel_rfl) (by kernel_rfl) ?_ | with_reducible refine wp_region_ext (by kernel_rfl) (by kernel_rfl) ?_); (repeat (first | go_big_quiet_step ((first | (go_at_call 64; with_reducible exact Calls.ext (aw _)))) | quiet_step ((first | (go_at_call 64; with_reducible exact Calls.ext (aw _)))))); refine wpQuiet_nil ?_; rintro _ ⟨yr, rfl⟩; have syr := Ext.size yr; (repeat (first | rw [World.size_alloc] at syr | rw [World.size_setCell] at syr | rw [World.size_drew] at syr)); have : B < yr.now.heap.size := (by omega); have : B ≤ yr.now.heap.size := (by omega); have : B < yr.now.heap.size + 1 + 1 := (by omega)) | (go_at_call 64; (first | with_reducible refine (Calls.giv2 (aw _)).mono ?_ | with_reducible refine (Calls.giv (aw _)).mono ?_); rintro _ _ ⟨y1, rfl, rfl⟩; have sy1 := Ext.size y1; (repeat (first | rw [World.size_alloc] at sy1 | rw [World.size_setCell] at sy1 | rw [World.size_drew] at sy1)); have : B < y1.now.heap.size := (by omega); have : B ≤ y1.now.heap.size := (by omega); have : B < y1.now.heap.size + 1 + 1 := (by omega)))
          go_returns
          refine ⟨rfl, ?_⟩
          repeat' (first | (with_reducible exact Below.refl _ _) | (with_reducible assumption) | (with_reducible refine Ext.below _ ?_ ?_) | (with_reducible refine Below.on ?_ (by with_reducible assumption) ?_) | (with_reducible refine Below.alloc ?_ ?_ _) | (with_reducible refine Below.drew ?_) | (with_reducible refine Below.setCell ?_ ?_ _) | (with_reducible exact Nat.le_refl _) | omega | (simp; done) | (simp [go_sem]; done) | (simp at *; omega))
        · rw [if_neg hid] at hE
          cases hw : vwinB l[i].off 1048576
          · have eV : V = 2 := by rw [← hE, hw]; rfl
            rw [show vwinB ⟨l[i].off.x, l[i].off.y⟩ 1048576 = false from hw] at aw
            clear hE hi hw hV
            subst eV
            generalize l[i].id = t0 at *
            generalize l[i].off.x = t1 at *
            generalize l[i].off.y = t2 at *
            go_wp2_with (first | ((first | with_reducible refine wp_region_ext2 (by kernel_rfl) (by kernel_rfl) ?_ | with_reducible refine wp_region_ext (by kernel_rfl) (by kernel_rfl) ?_); (repeat (first | go_big_quiet_step ((first | (go_at_call 64; with_reducible exact Calls.ext (aw _)))) | quiet_step ((first | (go_at_call 64; with_reducible exact Calls.ext (aw _)))))); refine wpQuiet_nil ?_; rintro _ ⟨yr, rfl⟩; have syr := Ext.size yr; (repeat (first | rw [World.size_alloc] at syr | rw [World.size_setCell] at syr | rw [World.size_drew] at syr)); have : B < yr.now.heap.size := (by omega); have : B ≤ yr.now.heap.size := (by omega); have : B < yr.now.heap.size + 1 + 1 := (by omega)) | (go_at_call 64; (first | with_reducible refine (Calls.giv2 (aw _)).mono ?_ | with_reducible refine (Calls.giv (aw _)).mono ?_); rintro _ _ ⟨y1, rfl, rfl⟩; have sy1 := Ext.size y1; (repeat (first | rw [World.size_alloc] at sy1 | rw [World.size_setCell] at sy1 | rw [World.size_drew] at sy1)); have : B < y1.now.heap.size := (by omega); have : B ≤ y1.now.heap.size := (by omega); have : B < y1.now.heap.size + 1 + 1 := (by omega)))
            go_returns
            refine ⟨rfl, ?_⟩
            repeat' (first | (with_reducible exact Below.refl _ _) | (with_reducible assumption) | (with_reducible refine Ext.below _ ?_ ?_) | (with_reducible refine Below.on ?_ (by with_reducible assumption) ?_) | (with_reducible refine Below.alloc ?_ ?_ _) | (with_reducible refine Below.drew ?_) | (with_reducible refine Below.setCell ?_ ?_ _) | (with_reducible exact Nat.le_refl _) | omega | (simp; done) | (simp [go_sem]; done) | (simp at *; omega))
          · have key : Hid (i + 1 ≤ l.length ∧ stsE l[i].id (l.drop (i + 1)) = V) := Go.Lib.hid ⟨hlt, by rw [hw] at hE; simpa using hE⟩
            rw [show vwinB ⟨l[i].off.x, l[i].off.y⟩ 1048576 = true from hw] at aw
            clear hE hi hw
            generalize l[i].id = t0 at *
            generalize l[i].off.x = t1 at *
            generalize l[i].off.y = t2 at *
            go_wp2_with (first | ((first | with_reducible refine wp_region_ext2 (by kernel_rfl) (by kernel_rfl) ?_ | with_reducible refine wp_region_ext (by kernel_rfl) (by kernel_rfl) ?_); (repeat (first | go_big_quiet_step ((first | (go_at_call 64; with_reducible exact Calls.ext (aw _)))) | quiet_step ((first | (go_at_call 64; with_reducible exact Calls.ext (aw _)))))); refine wpQuiet_nil ?_; rintro _ ⟨yr, rfl⟩; have syr := Ext.size yr; (repeat (first | rw [World.size_alloc] at syr | rw [World.size_setCell] at syr | rw [World.size_drew] at syr)); have : B < yr.now.heap.size := (by omega); have : B ≤ yr.now.heap.size := (by omega); have : B < yr.now.heap.size + 1 + 1 := (by omega)) | (go_at_call 64; (first | with_reducible refine (Calls.giv2 (aw _)).mono ?_ | with_reducible refine (Calls.giv (aw _)).mono ?_); rintro _ _ ⟨y1, rfl, rfl⟩; have sy1 := Ext.size y1; (repeat (first | rw [World.size_alloc] at sy1 | rw [World.size_setCell] at sy1 | rw [World.size_drew] at sy1)); have : B < y1.now.heap.size := (by omega); have : B ≤ y1.now.heap.size := (by omega); have : B < y1.now.heap.size + 1 + 1 := (by omega)))
            refine ⟨⟨i + 1, _, ⟨_, ?_⟩, rfl, by simp, rfl, key⟩, by simp [intOf]; omega⟩
            repeat' (first | (with_reducible exact Below.refl _ _) | (with_reducible assumption) | (with_reducible refine Ext.below _ ?_ ?_) | (with_reducible refine Below.on ?_ (by with_reducible assumption) ?_) | (with_reducible refine Below.alloc ?_ ?_ _) | (with_reducible refine Below.drew ?_) | (with_reducible refine Below.setCell ?_ ?_ _) | (with_reducible exact Nat.le_refl _) | omega | (simp; done) | (simp [go_sem]; done) | (simp at *; omega))
      · have hge : ¬ (i : Int) < l.length := by omega
        have eV : V = 0 := by have hE := hi.out.2; rw [drop_end hlt, stsE] at hE; exact hE.symm
        clear hi hV
        subst eV
        go_wp2_with (first | ((first | with_reducible refine wp_region_ext2 (by kernel_rfl) (by kernel_rfl) ?_ | with_reducible refine wp_region_ext (by kernel_rfl) (by kernel_rfl) ?_); (repeat (first | go_big_quiet_step ((first | fail)) | quiet_step ((first | fail)))); refine wpQuiet_nil ?_; rintro _ ⟨yr, rfl⟩; have syr := Ext.size yr; (repeat (first | rw [World.size_alloc] at syr | rw [World.size_setCell] at syr | rw [World.size_drew] at syr))))
        go_returns
        refine ⟨rfl, ?_⟩
        repeat' (first | (with_reducible exact Below.refl _ _) | (with_reducible assumption) | (with_reducible refine Ext.below _ ?_ ?_) | (with_reducible refine Below.on ?_ (by with_reducible assumption) ?_) | (with_reducible refine Below.alloc ?_ ?_ _) | (with_reducible refine Below.drew ?_) | (with_reducible refine Below.setCell ?_ ?_ _) | (with_reducible exact Nat.le_refl _) | omega | (simp; done) | (simp [go_sem]; done) | (simp at *; omega))
end Go.Proofs.Ytgoilmiiegpnoaa

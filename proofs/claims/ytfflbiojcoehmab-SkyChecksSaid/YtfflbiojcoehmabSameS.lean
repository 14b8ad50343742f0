/- Contract of SameSky, for skies of the same contents. Condition: both in memory. -/
import Derived.Test.YtfflbiojcoehmabSameW
namespace Go.Proofs.Ytfflbiojcoehmab
open Go.RowKit Go.Shelf
attribute [local go_sem] Option.isSome_some Ext.cell Ext.frozen Ext.lt Ext.le Ext.lt_add Ext.le_add Ext.ne Ext.ne' lt2 lt3 lt4 lt5 le2 le3 le4
set_option maxRecDepth 100000 in
set_option maxHeartbeats 8000000 in
theorem SameSky_eq (s s' : SkyR) (w : World) (hA : s.At w) (hA' : s'.At w) (he : s'.bodies.map BodyR.bare = s.bodies.map BodyR.bare) (hh : s'.home = s.home) (es : s'.sts = s.sts) (ec : s'.cats = s.cats) (hn : s.bodies.length ≤ 1000) (ht : ∀ b ∈ s.bodies, b.track.length ≤ 5000) (hs : s.sts.length ≤ 1000) (hc : s.cats.length ≤ 1000) :
    Calls Try.prog 18 #[s'.val, s.val] w (Gives (.bool true) w) := by
  have cw := fun (W : World) (y : Below w.heap.size w W) => SameWorld_eq s'.bp s.bp s'.bc s.bc s'.bodies s.bodies s.home W (hA'.bs.on y) (hA.bs.on y) he (by rw [bare_len he]; exact hn) (fun b hb => by
    obtain ⟨i, hi, rfl⟩ := List.getElem_of_mem hb
    have hj : i < s.bodies.length := by rw [← bare_len he]; exact hi
    rw [(bare_get he hi hj).2.2]
    exact ht _ (List.getElem_mem hj))
  have hS := fun (W : World) (y : Below w.heap.size w W) => hA.ss.on y
  have hS' := fun (W : World) (y : Below w.heap.size w W) => hA'.ss.on y
  have hC := fun (W : World) (y : Below w.heap.size w W) => hA.cs.on y
  have hC' := fun (W : World) (y : Below w.heap.size w W) => hA'.cs.on y
  unfold SkyR.val
  rw [hh]
  rw [es] at hS' ⊢
  rw [ec] at hC' ⊢
  unfold wval at cw
  clear hA hA' he ht hh es ec
  replace hS := Go.Lib.hid hS
  replace hS' := Go.Lib.hid hS'
  replace hC := Go.Lib.hid hC
  replace hC' := Go.Lib.hid hC'
  generalize s'.bodies.length = m5 at *
  generalize s.bodies.length = n5 at *
  generalize s'.bp = m4 at *
  generalize s.bp = n4 at *
  generalize s'.bc = m6 at *
  generalize s.bc = n6 at *
  generalize s.home = n0 at *
  generalize s'.sp = m8 at *
  generalize s.sp = n8 at *
  generalize s'.sc = m9 at *
  generalize s.sc = n9 at *
  generalize s'.cp = m2 at *
  generalize s.cp = n2 at *
  generalize s'.cc = m3 at *
  generalize s.cc = n3 at *
  go_enter Try.func18, Try.ntmps18
  go_wp2_with (first | ((first | with_reducible refine wp_region_ext2 (by kernel_rfl) (by kernel_rfl) ?_ | with_reducible refine wp_region_ext (by kernel_rfl) (by kernel_rfl) ?_); (repeat (first | go_big_quiet_step ((first | (go_at_call 41; with_reducible exact Calls.ext (cw _ (by repeat' (first | (with_reducible exact Below.refl _ _) | (with_reducible assumption) | (with_reducible refine Ext.below _ ?_ ?_) | (with_reducible refine Below.on ?_ (by with_reducible assumption) ?_) | (with_reducible refine Below.alloc ?_ ?_ _) | (with_reducible refine Below.drew ?_) | (with_reducible refine Below.setCell ?_ ?_ _) | (with_reducible exact Nat.le_refl _) | omega | (simp; done) | (simp [go_sem]; done) | (simp at *; omega))))))) | quiet_step ((first | (go_at_call 41; with_reducible exact Calls.ext (cw _ (by repeat' (first | (with_reducible exact Below.refl _ _) | (with_reducible assumption) | (with_reducible refine Ext.below _ ?_ ?_) | (with_reducible refine Below.on ?_ (by with_reducible assumption) ?_) | (with_reducible refine Below.alloc ?_ ?_ _) | (with_reducible refine Below.drew ?_) | (with_reducible refine Below.setCell ?_ ?_ _) | (with_reducible exact Nat.le_refl _) | omega | (simp; done) | (simp [go_sem]; done) | (simp at *; omega))))))))); refine wpQuiet_nil ?_; rintro _ ⟨yr, rfl⟩; have syr := Ext.size yr; (repeat (first | rw [World.size_alloc] at syr | rw [World.size_setCell] at syr | rw [World.size_drew] at syr)); have : w.heap.size < yr.now.heap.size := (by omega); have : w.heap.size ≤ yr.now.heap.size := (by omega); have : w.heap.size < yr.now.heap.size + 1 + 1 := (by omega); have : w.heap.size + 1 < yr.now.heap.size := (by omega); have : w.heap.size + 1 ≤ yr.now.heap.size := (by omega); have : w.heap.size + 1 < yr.now.heap.size + 1 + 1 := (by omega)) | (go_at_call 41; (first | with_reducible refine (Calls.giv2 (cw _ (by repeat' (first | (with_reducible exact Below.refl _ _) | (with_reducible assumption) | (with_reducible refine Ext.below _ ?_ ?_) | (with_reducible refine Below.on ?_ (by with_reducible assumption) ?_) | (with_reducible refine Below.alloc ?_ ?_ _) | (with_reducible refine Below.drew ?_) | (with_reducible refine Below.setCell ?_ ?_ _) | (with_reducible exact Nat.le_refl _) | omega | (simp; done) | (simp [go_sem]; done) | (simp at *; omega))))).mono ?_ | with_reducible refine (Calls.giv (cw _ (by repeat' (first | (with_reducible exact Below.refl _ _) | (with_reducible assumption) | (with_reducible refine Ext.below _ ?_ ?_) | (with_reducible refine Below.on ?_ (by with_reducible assumption) ?_) | (with_reducible refine Below.alloc ?_ ?_ _) | (with_reducible refine Below.drew ?_) | (with_reducible refine Below.setCell ?_ ?_ _) | (with_reducible exact Nat.le_refl _) | omega | (simp; done) | (simp [go_sem]; done) | (simp at *; omega))))).mono ?_); rintro _ _ ⟨y1, rfl, rfl⟩; have sy1 := Ext.size y1; (repeat (first | rw [World.size_alloc] at sy1 | rw [World.size_setCell] at sy1 | rw [World.size_drew] at sy1)); have : w.heap.size < y1.now.heap.size := (by omega); have : w.heap.size ≤ y1.now.heap.size := (by omega); have : w.heap.size < y1.now.heap.size + 1 + 1 := (by omega); have : w.heap.size + 1 < y1.now.heap.size := (by omega); have : w.heap.size + 1 ≤ y1.now.heap.size := (by omega); have : w.heap.size + 1 < y1.now.heap.size + 1 + 1 := (by omega)))
  refine wp_named (fun W0 hW => ?_)
  have a0 : W0.cell? ⟨w.heap.size, 0, none⟩ = some (.slice m4 m5 m6) := by rw [← hW]; simp [go_sem]
  have a1 : W0.cell? ⟨w.heap.size, 1, none⟩ = some (.int .i64 n0) := by rw [← hW]; simp [go_sem]
  have a2 : W0.cell? ⟨w.heap.size, 2, none⟩ = some (.slice m8 s.sts.length m9) := by rw [← hW]; simp [go_sem]
  have a3 : W0.cell? ⟨w.heap.size, 3, none⟩ = some (.slice m2 s.cats.length m3) := by rw [← hW]; simp [go_sem]
  have b0 : W0.cell? ⟨w.heap.size + 1, 0, none⟩ = some (.slice n4 n5 n6) := by rw [← hW]; simp [go_sem]
  have b1 : W0.cell? ⟨w.heap.size + 1, 1, none⟩ = some (.int .i64 n0) := by rw [← hW]; simp [go_sem]
  have b2 : W0.cell? ⟨w.heap.size + 1, 2, none⟩ = some (.slice n8 s.sts.length n9) := by rw [← hW]; simp [go_sem]
  have b3 : W0.cell? ⟨w.heap.size + 1, 3, none⟩ = some (.slice n2 s.cats.length n3) := by rw [← hW]; simp [go_sem]
  have hbw : Below w.heap.size w W0 := by rw [← hW]; repeat' (first | (with_reducible exact Below.refl _ _) | (with_reducible assumption) | (with_reducible refine Ext.below _ ?_ ?_) | (with_reducible refine Below.on ?_ (by with_reducible assumption) ?_) | (with_reducible refine Below.alloc ?_ ?_ _) | (with_reducible refine Below.drew ?_) | (with_reducible refine Below.setCell ?_ ?_ _) | (with_reducible exact Nat.le_refl _) | omega | (simp; done) | (simp [go_sem]; done) | (simp at *; omega))
  have hs0 : w.heap.size + 1 < W0.heap.size := by rw [← hW]; first | omega | (simp; done) | (simp; omega)
  have hs00 : w.heap.size < W0.heap.size := by omega
  clear hW
  have hS0 := Go.Lib.hid (hS.out W0 hbw)
  have hS0' := Go.Lib.hid (hS'.out W0 hbw)
  have hC0 := Go.Lib.hid (hC.out W0 hbw)
  have hC0' := Go.Lib.hid (hC'.out W0 hbw)
  clear hS hS' hC hC' cw
  go_loopw [5] (fun u W => ∃ (i : Nat) (x : Ext W0), u = .int .i64 i ∧ W = x.now ∧ Hid (i ≤ s.sts.length)) (fun u _ => s.sts.length - (intOf u).toNat)
  case atStart => exact ⟨0, ⟨W0, Below.refl _ _⟩, rfl, rfl, Go.Lib.hid (Nat.zero_le _)⟩
  case round =>
    obtain ⟨i, x, rfl, rfl, hi⟩ := hrel
    have xs := x.size
    have hbx := x.below hbw (by omega)
    have : w.heap.size < (x.now).heap.size := (by omega); have : w.heap.size < (x.now).heap.size + 1 := (by omega); have : w.heap.size < (x.now).heap.size + 1 + 1 := (by omega); have : w.heap.size ≠ (x.now).heap.size := (by omega); have : w.heap.size ≠ (x.now).heap.size + 1 := (by omega)
    have : w.heap.size + 1 < (x.now).heap.size := (by omega); have : w.heap.size + 1 < (x.now).heap.size + 1 := (by omega); have : w.heap.size + 1 < (x.now).heap.size + 1 + 1 := (by omega); have : w.heap.size + 1 ≠ (x.now).heap.size := (by omega); have : w.heap.size + 1 ≠ (x.now).heap.size + 1 := (by omega)
    by_cases hlt : i < s.sts.length
    · have hlt2 : (i : Int) < s.sts.length := by omega
      obtain ⟨B, o, rfl, hB, r1, r2, r3⟩ := hS0.out i hlt
      obtain ⟨B', o', rfl, hB', r1', r2', r3'⟩ := hS0'.out i hlt
      have : B < (x.now).heap.size := (by omega); have : B < (x.now).heap.size + 1 := (by omega); have : B < (x.now).heap.size + 1 + 1 := (by omega); have : B ≠ (x.now).heap.size := (by omega); have : B ≠ (x.now).heap.size + 1 := (by omega)
      have : B' < (x.now).heap.size := (by omega); have : B' < (x.now).heap.size + 1 := (by omega); have : B' < (x.now).heap.size + 1 + 1 := (by omega); have : B' ≠ (x.now).heap.size := (by omega); have : B' ≠ (x.now).heap.size + 1 := (by omega)
      clear hi
      generalize s.sts[i].id = t0 at *
      generalize s.sts[i].off.x = t1 at *
      generalize s.sts[i].off.y = t2 at *
      go_wp2_with (first | ((first | with_reducible refine wp_region_ext2 (by kernel_rfl) (by kernel_rfl) ?_ | with_reducible refine wp_region_ext (by kernel_rfl) (by kernel_rfl) ?_); (repeat (first | go_big_quiet_step ((first | fail)) | quiet_step ((first | fail)))); refine wpQuiet_nil ?_; rintro _ ⟨yr, rfl⟩; have syr := Ext.size yr; (repeat (first | rw [World.size_alloc] at syr | rw [World.size_setCell] at syr | rw [World.size_drew] at syr)); have : w.heap.size < yr.now.heap.size := (by omega); have : w.heap.size ≤ yr.now.heap.size := (by omega); have : w.heap.size < yr.now.heap.size + 1 + 1 := (by omega); have : w.heap.size + 1 < yr.now.heap.size := (by omega); have : w.heap.size + 1 ≤ yr.now.heap.size := (by omega); have : w.heap.size + 1 < yr.now.heap.size + 1 + 1 := (by omega)))
      refine ⟨⟨i + 1, ⟨_, ?_⟩, by simp, rfl, Go.Lib.hid hlt⟩, by simp [intOf]; omega⟩
      repeat' (first | (with_reducible exact Below.refl _ _) | (with_reducible assumption) | (with_reducible refine Ext.below _ ?_ ?_) | (with_reducible refine Below.on ?_ (by with_reducible assumption) ?_) | (with_reducible refine Below.alloc ?_ ?_ _) | (with_reducible refine Below.drew ?_) | (with_reducible refine Below.setCell ?_ ?_ _) | (with_reducible exact Nat.le_refl _) | omega | (simp; done) | (simp [go_sem]; done) | (simp at *; omega))
    · have hge : ¬ (i : Int) < s.sts.length := by omega
      clear hi
      go_wp2_with fail
      go_loopw [6] (fun u W => ∃ (i : Nat) (x : Ext W0), u = .int .i64 i ∧ W = x.now ∧ Hid (i ≤ s.cats.length)) (fun u _ => s.cats.length - (intOf u).toNat)
      case atStart => exact ⟨0, ⟨_, x.grew⟩, rfl, rfl, Go.Lib.hid (Nat.zero_le _)⟩
      case round =>
        obtain ⟨i, x, rfl, rfl, hi⟩ := hrel
        have xs := x.size
        have hbx := x.below hbw (by omega)
        have : w.heap.size < (x.now).heap.size := (by omega); have : w.heap.size < (x.now).heap.size + 1 := (by omega); have : w.heap.size < (x.now).heap.size + 1 + 1 := (by omega); have : w.heap.size ≠ (x.now).heap.size := (by omega); have : w.heap.size ≠ (x.now).heap.size + 1 := (by omega)
        have : w.heap.size + 1 < (x.now).heap.size := (by omega); have : w.heap.size + 1 < (x.now).heap.size + 1 := (by omega); have : w.heap.size + 1 < (x.now).heap.size + 1 + 1 := (by omega); have : w.heap.size + 1 ≠ (x.now).heap.size := (by omega); have : w.heap.size + 1 ≠ (x.now).heap.size + 1 := (by omega)
        by_cases hlt : i < s.cats.length
        · have hlt2 : (i : Int) < s.cats.length := by omega
          obtain ⟨B, o, rfl, hB, r1, r2, r3⟩ := hC0.out i hlt
          obtain ⟨B', o', rfl, hB', r1', r2', r3'⟩ := hC0'.out i hlt
          have : B < (x.now).heap.size := (by omega); have : B < (x.now).heap.size + 1 := (by omega); have : B < (x.now).heap.size + 1 + 1 := (by omega); have : B ≠ (x.now).heap.size := (by omega); have : B ≠ (x.now).heap.size + 1 := (by omega)
          have : B' < (x.now).heap.size := (by omega); have : B' < (x.now).heap.size + 1 := (by omega); have : B' < (x.now).heap.size + 1 + 1 := (by omega); have : B' ≠ (x.now).heap.size := (by omega); have : B' ≠ (x.now).heap.size + 1 := (by omega)
          clear hi
          generalize s.cats[i].ver = t0 at *
          generalize s.cats[i].lo = t1 at *
          generalize s.cats[i].hi = t2 at *
          go_wp2_with (first | ((first | with_reducible refine wp_region_ext2 (by kernel_rfl) (by kernel_rfl) ?_ | with_reducible refine wp_region_ext (by kernel_rfl) (by kernel_rfl) ?_); (repeat (first | go_big_quiet_step ((first | fail)) | quiet_step ((first | fail)))); refine wpQuiet_nil ?_; rintro _ ⟨yr, rfl⟩; have syr := Ext.size yr; (repeat (first | rw [World.size_alloc] at syr | rw [World.size_setCell] at syr | rw [World.size_drew] at syr)); have : w.heap.size < yr.now.heap.size := (by omega); have : w.heap.size ≤ yr.now.heap.size := (by omega); have : w.heap.size < yr.now.heap.size + 1 + 1 := (by omega); have : w.heap.size + 1 < yr.now.heap.size := (by omega); have : w.heap.size + 1 ≤ yr.now.heap.size := (by omega); have : w.heap.size + 1 < yr.now.heap.size + 1 + 1 := (by omega)))
          refine ⟨⟨i + 1, ⟨_, ?_⟩, by simp, rfl, Go.Lib.hid hlt⟩, by simp [intOf]; omega⟩
          repeat' (first | (with_reducible exact Below.refl _ _) | (with_reducible assumption) | (with_reducible refine Ext.below _ ?_ ?_) | (with_reducible refine Below.on ?_ (by with_reducible assumption) ?_) | (with_reducible refine Below.alloc ?_ ?_ _) | (with_reducible refine Below.drew ?_) | (with_reducible refine Below.setCell ?_ ?_ _) | (with_reducible exact Nat.le_refl _) | omega | (simp; done) | (simp [go_sem]; done) | (simp at *; omega))
        · have hge : ¬ (i : Int) < s.cats.length := by omega
          go_wp2_with (first | ((first | with_reducible refine wp_region_ext2 (by kernel_rfl) (by kernel_rfl) ?_ | with_reducible refine wp_region_ext (by kernel_rfl) (by kernel_rfl) ?_); (repeat (first | go_big_quiet_step ((first | fail)) | quiet_step ((first | fail)))); refine wpQuiet_nil ?_; rintro _ ⟨yr, rfl⟩; have syr := Ext.size yr; (repeat (first | rw [World.size_alloc] at syr | rw [World.size_setCell] at syr | rw [World.size_drew] at syr))))
          go_returns
          refine ⟨rfl, ?_⟩
          repeat' (first | (with_reducible exact Below.refl _ _) | (with_reducible assumption) | (with_reducible refine Ext.below _ ?_ ?_) | (with_reducible refine Below.on ?_ (by with_reducible assumption) ?_) | (with_reducible refine Below.alloc ?_ ?_ _) | (with_reducible refine Below.drew ?_) | (with_reducible refine Below.setCell ?_ ?_ _) | (with_reducible exact Nat.le_refl _) | omega | (simp; done) | (simp [go_sem]; done) | (simp at *; omega))
end Go.Proofs.Ytfflbiojcoehmab

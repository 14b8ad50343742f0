/- Contracts of the reference's station, where, Where of layer 2. Conditions: the cells that are read. -/
import Derived.Test.YtgoilmiiegpnoaaSkyRb
namespace Go.Proofs.Ytgoilmiiegpnoaa
open Go.RowKit Go.Shelf
attribute [local go_sem] Option.isSome_some Ext.cell Ext.frozen Ext.lt Ext.le Ext.lt_add Ext.le_add Ext.ne Ext.ne' lt2 lt3 lt4 lt5 le2 le3 le4
/-- The number of the station with this ID; -1 if there is none. -/
def stIdx (id : Int) : Nat → List StR → Int
  | _, [] => -1
  | i, o :: l => if o.id = id then (i : Int) else stIdx id (i + 1) l
theorem stIdx_where {h : V2} {id : Int} {l : List StR} : ∀ {i : Nat}, (stIdx id i l = -1 ∧ whereL h id l = (⟨0, 0⟩, false)) ∨ ∃ j, ∃ hj : j < l.length, stIdx id i l = ((i + j : Nat) : Int) ∧ whereL h id l = (⟨h.x + l[j].off.x, h.y + l[j].off.y⟩, true) := by
  induction l with
  | nil => intro i; exact .inl ⟨rfl, rfl⟩
  | cons o l ih =>
    intro i
    rw [stIdx, whereL]
    by_cases ho : o.id = id
    · rw [if_pos ho, if_pos ho]
      exact .inr ⟨0, by simp, rfl, rfl⟩
    · rw [if_neg ho, if_neg ho]
      rcases ih (i := i + 1) with ⟨h1, h2⟩ | ⟨j, hj, h1, h2⟩
      · exact .inl ⟨h1, h2⟩
      · refine .inr ⟨j + 1, by simpa using hj, ?_, ?_⟩
        · rw [h1]; congr 1; omega
        · rw [h2]; rfl
set_option maxHeartbeats 4000000 in
theorem refStation_any (s : SkyR) (id : Int) (w : World) (hP : s.At w) (hn : s.sts.length ≤ 4096) : Calls Try.prog 70 #[s.val, .int .i64 id] w (Gives (.int .i64 (stIdx id 0 s.sts)) w) := by
  have hS := hP.ss
  unfold SkyR.val
  clear hP
  generalize s.cats.length = n1 at *
  generalize s.cp = n2 at *
  generalize s.cc = n3 at *
  generalize s.bodies.length = n4 at *
  generalize s.bp = n5 at *
  generalize s.bc = n6 at *
  generalize s.sp = p at *
  generalize s.sc = n9 at *
  generalize s.home = n0 at *
  generalize s.sts = l at *
  obtain ⟨V, hV⟩ : ∃ V, stIdx id 0 l = V := ⟨_, rfl⟩
  rw [hV]
  have hV := Go.Lib.hid hV
  have hS := Go.Lib.hid hS
  go_enter Try.func70, Try.ntmps70
  go_wp2_with (first | ((first | with_reducible refine wp_region_ext2 (by kernel_rfl) (by kernel_rfl) ?_ | with_reducible refine wp_region_ext (by kernel_rfl) (by kernel_rfl) ?_); (repeat (first | go_big_quiet_step ((first | fail)) | quiet_step ((first | fail)))); refine wpQuiet_nil ?_; rintro _ ⟨yr, rfl⟩; have syr := Ext.size yr; (repeat (first | rw [World.size_alloc] at syr | rw [World.size_setCell] at syr | rw [World.size_drew] at syr))))
  refine wp_named (fun W0 hW => ?_)
  have hBw : Below w.heap.size w W0 := by rw [← hW]; repeat' (first | (with_reducible exact Below.refl _ _) | (with_reducible assumption) | (with_reducible refine Ext.below _ ?_ ?_) | (with_reducible refine Below.on ?_ (by with_reducible assumption) ?_) | (with_reducible refine Below.alloc ?_ ?_ _) | (with_reducible refine Below.drew ?_) | (with_reducible refine Below.setCell ?_ ?_ _) | (with_reducible exact Nat.le_refl _) | omega | (simp; done) | (simp [go_sem]; done) | (simp at *; omega))
  have hs0 : w.heap.size < W0.heap.size := by rw [← hW]; simp
  have b2 : W0.cell? ⟨w.heap.size, 2, none⟩ = some (.slice p l.length n9) := by rw [← hW]; simp [go_sem]
  have hS := Go.Lib.hid (hS.out.on hBw)
  clear hW
  go_loopw [5] (fun s W => ∃ (i : Nat) (x : Ext W0), s = .int .i64 i ∧ W = x.now ∧ Hid (i ≤ l.length ∧ stIdx id i (l.drop i) = V)) (fun s _ => l.length - (intOf s).toNat)
  case atStart => exact ⟨0, ⟨W0, Below.refl _ _⟩, rfl, rfl, Go.Lib.hid ⟨Nat.zero_le _, by simpa using hV.out⟩⟩
  case round =>
    obtain ⟨i, x, rfl, rfl, hi⟩ := hrel
    have xs := x.size
    have hbx := x.below hBw (by omega)
    have : w.heap.size < (x.now).heap.size := (by omega); have : w.heap.size < (x.now).heap.size + 1 := (by omega); have : w.heap.size < (x.now).heap.size + 1 + 1 := (by omega); have : w.heap.size ≠ (x.now).heap.size := (by omega); have : w.heap.size ≠ (x.now).heap.size + 1 := (by omega)
    by_cases hlt : i < l.length
    · have hlt2 : (i : Int) < l.length := by omega
      obtain ⟨B, o, rfl, hB, q1, q2, q3⟩ := hS.out i hlt
      have : B < (x.now).heap.size := (by omega); have : B < (x.now).heap.size + 1 := (by omega); have : B < (x.now).heap.size + 1 + 1 := (by omega); have : B ≠ (x.now).heap.size := (by omega); have : B ≠ (x.now).heap.size + 1 := (by omega)
      have hE := hi.out.2
      rw [drop_at hlt, stIdx] at hE
      by_cases hid : l[i].id = id
      · rw [if_pos hid] at hE
        clear hi hV
        subst hE
        generalize l[i].id = t0 at *
        subst hid
        go_wp2_with (first | ((first | with_reducible refine wp_region_ext2 (by kernel_rfl) (by kernel_rfl) ?_ | with_reducible refine wp_region_ext (by kernel_rfl) (by kernel_rfl) ?_); (repeat (first | go_big_quiet_step ((first | fail)) | quiet_step ((first | fail)))); refine wpQuiet_nil ?_; rintro _ ⟨yr, rfl⟩; have syr := Ext.size yr; (repeat (first | rw [World.size_alloc] at syr | rw [World.size_setCell] at syr | rw [World.size_drew] at syr)); have : B < yr.now.heap.size := (by omega); have : B ≤ yr.now.heap.size := (by omega); have : B < yr.now.heap.size + 1 + 1 := (by omega); have : w.heap.size < yr.now.heap.size := (by omega); have : w.heap.size ≤ yr.now.heap.size := (by omega); have : w.heap.size < yr.now.heap.size + 1 + 1 := (by omega)))
        go_returns
        refine ⟨rfl, ?_⟩
        repeat' (first | (with_reducible exact Below.refl _ _) | (with_reducible assumption) | (with_reducible refine Ext.below _ ?_ ?_) | (with_reducible refine Below.on ?_ (by with_reducible assumption) ?_) | (with_reducible refine Below.alloc ?_ ?_ _) | (with_reducible refine Below.drew ?_) | (with_reducible refine Below.setCell ?_ ?_ _) | (with_reducible exact Nat.le_refl _) | omega | (simp; done) | (simp [go_sem]; done) | (simp at *; omega))
      · have key : Hid (i + 1 ≤ l.length ∧ stIdx id (i + 1) (l.drop (i + 1)) = V) := Go.Lib.hid ⟨hlt, by rw [if_neg hid] at hE; exact hE⟩
        clear hE hi
        generalize l[i].id = t0 at *
        go_wp2_with (first | ((first | with_reducible refine wp_region_ext2 (by kernel_rfl) (by kernel_rfl) ?_ | with_reducible refine wp_region_ext (by kernel_rfl) (by kernel_rfl) ?_); (repeat (first | go_big_quiet_step ((first | fail)) | quiet_step ((first | fail)))); refine wpQuiet_nil ?_; rintro _ ⟨yr, rfl⟩; have syr := Ext.size yr; (repeat (first | rw [World.size_alloc] at syr | rw [World.size_setCell] at syr | rw [World.size_drew] at syr)); have : B < yr.now.heap.size := (by omega); have : B ≤ yr.now.heap.size := (by omega); have : B < yr.now.heap.size + 1 + 1 := (by omega); have : w.heap.size < yr.now.heap.size := (by omega); have : w.heap.size ≤ yr.now.heap.size := (by omega); have : w.heap.size < yr.now.heap.size + 1 + 1 := (by omega)))
        exact ⟨⟨i + 1, x, by simp, rfl, key⟩, by simp [intOf]; omega⟩
    · have hge : ¬ (i : Int) < l.length := by omega
      have hE := hi.out.2
      rw [drop_end hlt, stIdx] at hE
      clear hi hV
      subst hE
      go_wp2_with (first | ((first | with_reducible refine wp_region_ext2 (by kernel_rfl) (by kernel_rfl) ?_ | with_reducible refine wp_region_ext (by kernel_rfl) (by kernel_rfl) ?_); (repeat (first | go_big_quiet_step ((first | fail)) | quiet_step ((first | fail)))); refine wpQuiet_nil ?_; rintro _ ⟨yr, rfl⟩; have syr := Ext.size yr; (repeat (first | rw [World.size_alloc] at syr | rw [World.size_setCell] at syr | rw [World.size_drew] at syr))))
      go_returns
      refine ⟨rfl, ?_⟩
      repeat' (first | (with_reducible exact Below.refl _ _) | (with_reducible assumption) | (with_reducible refine Ext.below _ ?_ ?_) | (with_reducible refine Below.on ?_ (by with_reducible assumption) ?_) | (with_reducible refine Below.alloc ?_ ?_ _) | (with_reducible refine Below.drew ?_) | (with_reducible refine Below.setCell ?_ ?_ _) | (with_reducible exact Nat.le_refl _) | omega | (simp; done) | (simp [go_sem]; done) | (simp at *; omega))
end Go.Proofs.Ytgoilmiiegpnoaa

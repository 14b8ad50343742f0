/- Contract of SameInts: whether two lists are equal. Condition: the lists in memory. -/
import Derived.Test.YtgoilmiiegpnoaaSkyV
namespace Go.Proofs.Ytgoilmiiegpnoaa
open Go.RowKit Go.Shelf
attribute [local go_sem] Option.isSome_some Ext.cell Ext.frozen Ext.lt Ext.le Ext.lt_add Ext.le_add Ext.ne Ext.ne' lt2 lt3 lt4 lt5 le2 le3 le4
def IntsAt (W : World) (p : Option Addr) (l : List Int) : Prop := ∀ j (h : j < l.length), ∃ B o, p = some ⟨B, o, none⟩ ∧ B < W.heap.size ∧ W.cell? ⟨B, o + j, none⟩ = some (.int .i64 l[j])
theorem IntsAt.ext {W : World} {p : Option Addr} {l : List Int} (h : IntsAt W p l) (x : Ext W) : IntsAt x.now p l := fun j hj => by
  obtain ⟨B, o, rfl, hB, h1⟩ := h j hj
  exact ⟨B, o, rfl, x.lt hB, (x.cell hB).trans h1⟩
theorem IntsAt.on {W W' : World} {p : Option Addr} {l : List Int} (h : IntsAt W p l) (b : Below W.heap.size W W') : IntsAt W' p l := h.ext ⟨W', b⟩
theorem owns_ints {w : World} {base : Nat} {v : Value} {l : List Int} (h : w.ownsRow base 3 1 v l.length (intsOf l)) : ∃ p c, v = .slice p l.length c ∧ IntsAt w p l := by
  rcases owns_slice h with ⟨rfl, h0⟩ | ⟨g, cap, rfl, -, hg, hc⟩
  · exact ⟨none, 0, by rw [h0], fun j hj => by omega⟩
  · refine ⟨_, _, rfl, fun j hj => ⟨g, 0, rfl, hg, ?_⟩⟩
    rw [Nat.zero_add]; exact hc _ _ (by unfold intsOf; rw [List.getElem?_map, List.getElem?_eq_getElem hj]; rfl)
def sameB : List Int → List Int → Bool
  | a :: l, b :: m => if a = b then sameB l m else false
  | l, m => l.length == m.length
theorem sameB_self (l : List Int) : sameB l l = true := by
  induction l with
  | nil => rfl
  | cons a l ih => rw [sameB, if_pos rfl]; exact ih
theorem sameB_iff (l m : List Int) : sameB l m = true ↔ l = m := by
  induction l generalizing m with
  | nil => cases m <;> simp [sameB]
  | cons a l ih =>
    cases m with
    | nil => simp [sameB]
    | cons b m =>
      rw [sameB]
      by_cases h : a = b
      · rw [if_pos h, ih m]; simp [h]
      · rw [if_neg h]; simp [h]
theorem sameB_len {l m : List Int} (h : l.length ≠ m.length) : sameB l m = false := by
  rw [Bool.eq_false_iff]; intro hh; exact h (by rw [(sameB_iff l m).1 hh])
set_option maxHeartbeats 4000000 in
theorem SameInts_any (p q : Option Addr) (c d : Nat) (l m : List Int) (w : World) (hl : l.length ≤ 1048576) (hP : IntsAt w p l) (hQ : IntsAt w q m) : Calls Try.prog 18 #[.slice p l.length c, .slice q m.length d] w (Gives (.bool (sameB l m)) w) := by
  obtain ⟨V, hV⟩ : ∃ V, sameB l m = V := ⟨_, rfl⟩
  rw [hV]
  have hV := Go.Lib.hid hV
  have hP := Go.Lib.hid hP
  have hQ := Go.Lib.hid hQ
  go_enter Try.func18, Try.ntmps18
  go_wp2_with (first | ((first | with_reducible refine wp_region_ext2 (by kernel_rfl) (by kernel_rfl) ?_ | with_reducible refine wp_region_ext (by kernel_rfl) (by kernel_rfl) ?_); (repeat (first | go_big_quiet_step ((first | fail)) | quiet_step ((first | fail)))); refine wpQuiet_nil ?_; rintro _ ⟨yr, rfl⟩; have syr := Ext.size yr; (repeat (first | rw [World.size_alloc] at syr | rw [World.size_setCell] at syr | rw [World.size_drew] at syr))))
  go_loopw [5] (fun s W => ∃ (i : Nat) (x : Ext w), s = .int .i64 i ∧ W = x.now ∧ Hid (i ≤ l.length ∧ i ≤ m.length ∧ sameB (l.drop i) (m.drop i) = V)) (fun s _ => l.length - (intOf s).toNat)
  case atStart => exact ⟨0, ⟨w, Below.refl _ _⟩, rfl, rfl, Go.Lib.hid ⟨Nat.zero_le _, Nat.zero_le _, by simpa using hV.out⟩⟩
  case round =>
    obtain ⟨i, x, rfl, rfl, hi⟩ := hrel
    have xs := x.size
    by_cases h1 : i < l.length
    · have h1' : (i : Int) < l.length := by omega
      by_cases h2 : i < m.length
      · have h2' : (i : Int) < m.length := by omega
        obtain ⟨B, o, rfl, hB, c1⟩ := hP.out i h1
        obtain ⟨B', o', rfl, hB', c2⟩ := hQ.out i h2
        have hE := hi.out.2.2
        rw [drop_at h1, drop_at h2, sameB] at hE
        by_cases he : l[i] = m[i]
        · have key : Hid (i + 1 ≤ l.length ∧ i + 1 ≤ m.length ∧ sameB (l.drop (i + 1)) (m.drop (i + 1)) = V) := Go.Lib.hid ⟨h1, h2, by rw [if_pos he] at hE; exact hE⟩
          rw [← he] at c2
          clear hE hi he
          generalize l[i] = a at *
          go_wp2_with (first | ((first | with_reducible refine wp_region_ext2 (by kernel_rfl) (by kernel_rfl) ?_ | with_reducible refine wp_region_ext (by kernel_rfl) (by kernel_rfl) ?_); (repeat (first | go_big_quiet_step ((first | fail)) | quiet_step ((first | fail)))); refine wpQuiet_nil ?_; rintro _ ⟨yr, rfl⟩; have syr := Ext.size yr; (repeat (first | rw [World.size_alloc] at syr | rw [World.size_setCell] at syr | rw [World.size_drew] at syr)); have : B < yr.now.heap.size := (by omega); have : B ≤ yr.now.heap.size := (by omega); have : B < yr.now.heap.size + 1 + 1 := (by omega); have : B' < yr.now.heap.size := (by omega); have : B' ≤ yr.now.heap.size := (by omega); have : B' < yr.now.heap.size + 1 + 1 := (by omega)))
          exact ⟨⟨i + 1, _, by simp, rfl, key⟩, by simp [intOf]; omega⟩
        · have eV : V = false := by rw [← hE, if_neg he]
          clear hE hi hV
          subst eV
          generalize l[i] = a at *
          generalize m[i] = b at *
          go_wp2_with (first | ((first | with_reducible refine wp_region_ext2 (by kernel_rfl) (by kernel_rfl) ?_ | with_reducible refine wp_region_ext (by kernel_rfl) (by kernel_rfl) ?_); (repeat (first | go_big_quiet_step ((first | fail)) | quiet_step ((first | fail)))); refine wpQuiet_nil ?_; rintro _ ⟨yr, rfl⟩; have syr := Ext.size yr; (repeat (first | rw [World.size_alloc] at syr | rw [World.size_setCell] at syr | rw [World.size_drew] at syr)); have : B < yr.now.heap.size := (by omega); have : B ≤ yr.now.heap.size := (by omega); have : B < yr.now.heap.size + 1 + 1 := (by omega); have : B' < yr.now.heap.size := (by omega); have : B' ≤ yr.now.heap.size := (by omega); have : B' < yr.now.heap.size + 1 + 1 := (by omega)))
          go_returns
          refine ⟨rfl, ?_⟩
          repeat' (first | (with_reducible exact Below.refl _ _) | (with_reducible assumption) | (with_reducible refine Ext.below _ ?_ ?_) | (with_reducible refine Below.on ?_ (by with_reducible assumption) ?_) | (with_reducible refine Below.alloc ?_ ?_ _) | (with_reducible refine Below.drew ?_) | (with_reducible refine Below.setCell ?_ ?_ _) | (with_reducible exact Nat.le_refl _) | omega | (simp; done) | (simp [go_sem]; done) | (simp at *; omega))
      · have h2' : ¬ (i : Int) < m.length := by omega
        have eV : V = false := by
          have hE := hi.out.2.2
          have hm := hi.out.2.1
          rw [← hE]; exact sameB_len (by rw [List.length_drop, List.length_drop]; omega)
        have hne : ((l.length : Int) == (m.length : Int)) = false := by have := hi.out.2.1; rw [beq_eq_false_iff_ne]; omega
        clear hi hV
        subst eV
        go_wp2_with (first | ((first | with_reducible refine wp_region_ext2 (by kernel_rfl) (by kernel_rfl) ?_ | with_reducible refine wp_region_ext (by kernel_rfl) (by kernel_rfl) ?_); (repeat (first | go_big_quiet_step ((first | fail)) | quiet_step ((first | fail)))); refine wpQuiet_nil ?_; rintro _ ⟨yr, rfl⟩; have syr := Ext.size yr; (repeat (first | rw [World.size_alloc] at syr | rw [World.size_setCell] at syr | rw [World.size_drew] at syr))))
        go_returns
        refine ⟨rfl, ?_⟩
        repeat' (first | (with_reducible exact Below.refl _ _) | (with_reducible assumption) | (with_reducible refine Ext.below _ ?_ ?_) | (with_reducible refine Below.on ?_ (by with_reducible assumption) ?_) | (with_reducible refine Below.alloc ?_ ?_ _) | (with_reducible refine Below.drew ?_) | (with_reducible refine Below.setCell ?_ ?_ _) | (with_reducible exact Nat.le_refl _) | omega | (simp; done) | (simp [go_sem]; done) | (simp at *; omega))
    · have h1' : ¬ (i : Int) < l.length := by omega
      have hil : i = l.length := by have := hi.out.1; omega
      have him := hi.out.2.1
      by_cases h2 : l.length = m.length
      · have eV : V = true := by
          have hE := hi.out.2.2
          rw [drop_end h1, drop_end (by omega)] at hE
          rw [← hE]; rfl
        have h2' : ((l.length : Int) == (m.length : Int)) = true := by rw [beq_iff_eq]; omega
        clear hi hV h2 him hil
        subst eV
        go_wp2_with (first | ((first | with_reducible refine wp_region_ext2 (by kernel_rfl) (by kernel_rfl) ?_ | with_reducible refine wp_region_ext (by kernel_rfl) (by kernel_rfl) ?_); (repeat (first | go_big_quiet_step ((first | fail)) | quiet_step ((first | fail)))); refine wpQuiet_nil ?_; rintro _ ⟨yr, rfl⟩; have syr := Ext.size yr; (repeat (first | rw [World.size_alloc] at syr | rw [World.size_setCell] at syr | rw [World.size_drew] at syr))))
        go_returns
        refine ⟨rfl, ?_⟩
        repeat' (first | (with_reducible exact Below.refl _ _) | (with_reducible assumption) | (with_reducible refine Ext.below _ ?_ ?_) | (with_reducible refine Below.on ?_ (by with_reducible assumption) ?_) | (with_reducible refine Below.alloc ?_ ?_ _) | (with_reducible refine Below.drew ?_) | (with_reducible refine Below.setCell ?_ ?_ _) | (with_reducible exact Nat.le_refl _) | omega | (simp; done) | (simp [go_sem]; done) | (simp at *; omega))
      · have h3 : i < m.length := by omega
        have eV : V = false := by
          have hE := hi.out.2.2
          rw [← hE]; exact sameB_len (by rw [List.length_drop, List.length_drop]; omega)
        have h2' : ((l.length : Int) == (m.length : Int)) = false := by rw [beq_eq_false_iff_ne]; omega
        clear hi hV h2 him hil
        subst eV
        go_wp2_with (first | ((first | with_reducible refine wp_region_ext2 (by kernel_rfl) (by kernel_rfl) ?_ | with_reducible refine wp_region_ext (by kernel_rfl) (by kernel_rfl) ?_); (repeat (first | go_big_quiet_step ((first | fail)) | quiet_step ((first | fail)))); refine wpQuiet_nil ?_; rintro _ ⟨yr, rfl⟩; have syr := Ext.size yr; (repeat (first | rw [World.size_alloc] at syr | rw [World.size_setCell] at syr | rw [World.size_drew] at syr))))
        go_returns
        refine ⟨rfl, ?_⟩
        repeat' (first | (with_reducible exact Below.refl _ _) | (with_reducible assumption) | (with_reducible refine Ext.below _ ?_ ?_) | (with_reducible refine Below.on ?_ (by with_reducible assumption) ?_) | (with_reducible refine Below.alloc ?_ ?_ _) | (with_reducible refine Below.drew ?_) | (with_reducible refine Below.setCell ?_ ?_ _) | (with_reducible exact Nat.le_refl _) | omega | (simp; done) | (simp [go_sem]; done) | (simp at *; omega))
end Go.Proofs.Ytgoilmiiegpnoaa

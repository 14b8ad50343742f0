/- BigGround; rows of two lands, of two numbers. No condition. Contracts of CheckGrades and Reach for valid grades. Condition: the grades stand in memory. Contract of GradesOf: valid grades, made of a ring's numbers. Condition: the ring's block is as NewRing made it. -/
import Derived.Test.YtlmhbggigbmeaaaDoorBlOG
import Derived.Test.YtlmhbggigbmeaaaDoorBlLo
import Derived.Test.YtlmhbggigbmeaaaDoorBlLyG
import Derived.Test.YtlmhbggigbmeaaaDoorPairG
namespace Go.Proofs.YtlmhbggigbmeaaaDoor
open Go.RowKit Go.Shelf
attribute [local go_sem] Option.isSome_some Ext.cell Ext.frozen Ext.lt Ext.le Ext.lt_add Ext.le_add Ext.ne Ext.ne' lt2 lt3 lt4 lt5 le2 le3 le4
/-- Whether the ground is too great for a statement. -/
def bigB (n m : Nat) (x : LandR) : Bool := decide (40 < n ∨ 40 < m ∨ 410 < x.pl.length ∨ 410 < x.wl.length)
theorem BigGround_any (p q : Option Addr) (n m c d : Nat) (x : LandR) (w : World) : Calls Tryd.prog 8 #[.slice p n c, .slice q m d, x.val] w (Gives (.bool (bigB n m x)) w) := by
  unfold bigB LandR.val
  generalize x.pl.length = k at *
  generalize x.wl.length = j at *
  by_cases h1 : 40 < n
  · rw [decide_eq_true (.inl h1)]
    have h1' : 40 < (n : Int) := by omega
    go_enter Tryd.func8, Tryd.ntmps8
    go_wp2_with (first | ((first | with_reducible refine wrx2 ?_ | with_reducible refine wrx ?_); (repeat (first | go_big_quiet_step ((first | fail)) | quiet_step ((first | fail)))); refine wpQuiet_nil ?_; rintro _ ⟨yr, rfl⟩; have syr := Ext.size yr; (repeat (first | rw [World.size_alloc] at syr | rw [World.size_setCell] at syr | rw [World.size_drew] at syr)); have : w.heap.size < yr.now.heap.size := (by omega); have : w.heap.size ≤ yr.now.heap.size := (by omega); have : w.heap.size < yr.now.heap.size + 1 + 1 := (by omega)))
    go_returns
    refine ⟨rfl, ?_⟩
    repeat' (first | (with_reducible exact Below.refl _ _) | (with_reducible assumption) | (with_reducible refine Ext.below _ ?_ ?_) | (with_reducible refine Below.on ?_ (by with_reducible assumption) ?_) | (with_reducible refine Below.alloc ?_ ?_ _) | (with_reducible refine Below.drew ?_) | (with_reducible refine Below.setCell ?_ ?_ _) | (with_reducible exact Nat.le_refl _) | omega | (simp; done) | (simp [go_sem]; done) | (simp at *; omega))
  have h1' : ¬ 40 < (n : Int) := by omega
  by_cases h2 : 40 < m
  · rw [decide_eq_true (.inr (.inl h2))]
    have h2' : 40 < (m : Int) := by omega
    go_enter Tryd.func8, Tryd.ntmps8
    go_wp2_with (first | ((first | with_reducible refine wrx2 ?_ | with_reducible refine wrx ?_); (repeat (first | go_big_quiet_step ((first | fail)) | quiet_step ((first | fail)))); refine wpQuiet_nil ?_; rintro _ ⟨yr, rfl⟩; have syr := Ext.size yr; (repeat (first | rw [World.size_alloc] at syr | rw [World.size_setCell] at syr | rw [World.size_drew] at syr)); have : w.heap.size < yr.now.heap.size := (by omega); have : w.heap.size ≤ yr.now.heap.size := (by omega); have : w.heap.size < yr.now.heap.size + 1 + 1 := (by omega)))
    go_returns
    refine ⟨rfl, ?_⟩
    repeat' (first | (with_reducible exact Below.refl _ _) | (with_reducible assumption) | (with_reducible refine Ext.below _ ?_ ?_) | (with_reducible refine Below.on ?_ (by with_reducible assumption) ?_) | (with_reducible refine Below.alloc ?_ ?_ _) | (with_reducible refine Below.drew ?_) | (with_reducible refine Below.setCell ?_ ?_ _) | (with_reducible exact Nat.le_refl _) | omega | (simp; done) | (simp [go_sem]; done) | (simp at *; omega))
  have h2' : ¬ 40 < (m : Int) := by omega
  by_cases h3 : 410 < k
  · rw [decide_eq_true (.inr (.inr (.inl h3)))]
    have h3' : 410 < (k : Int) := by omega
    go_enter Tryd.func8, Tryd.ntmps8
    go_wp2_with (first | ((first | with_reducible refine wrx2 ?_ | with_reducible refine wrx ?_); (repeat (first | go_big_quiet_step ((first | fail)) | quiet_step ((first | fail)))); refine wpQuiet_nil ?_; rintro _ ⟨yr, rfl⟩; have syr := Ext.size yr; (repeat (first | rw [World.size_alloc] at syr | rw [World.size_setCell] at syr | rw [World.size_drew] at syr)); have : w.heap.size < yr.now.heap.size := (by omega); have : w.heap.size ≤ yr.now.heap.size := (by omega); have : w.heap.size < yr.now.heap.size + 1 + 1 := (by omega)))
    go_returns
    refine ⟨rfl, ?_⟩
    repeat' (first | (with_reducible exact Below.refl _ _) | (with_reducible assumption) | (with_reducible refine Ext.below _ ?_ ?_) | (with_reducible refine Below.on ?_ (by with_reducible assumption) ?_) | (with_reducible refine Below.alloc ?_ ?_ _) | (with_reducible refine Below.drew ?_) | (with_reducible refine Below.setCell ?_ ?_ _) | (with_reducible exact Nat.le_refl _) | omega | (simp; done) | (simp [go_sem]; done) | (simp at *; omega))
  have h3' : ¬ 410 < (k : Int) := by omega
  by_cases h4 : 410 < j
  · rw [decide_eq_true (.inr (.inr (.inr h4)))]
    have h4' : 410 < (j : Int) := by omega
    go_enter Tryd.func8, Tryd.ntmps8
    go_wp2_with (first | ((first | with_reducible refine wrx2 ?_ | with_reducible refine wrx ?_); (repeat (first | go_big_quiet_step ((first | fail)) | quiet_step ((first | fail)))); refine wpQuiet_nil ?_; rintro _ ⟨yr, rfl⟩; have syr := Ext.size yr; (repeat (first | rw [World.size_alloc] at syr | rw [World.size_setCell] at syr | rw [World.size_drew] at syr)); have : w.heap.size < yr.now.heap.size := (by omega); have : w.heap.size ≤ yr.now.heap.size := (by omega); have : w.heap.size < yr.now.heap.size + 1 + 1 := (by omega)))
    go_returns
    refine ⟨ret_bool (by simp <;> omega), ?_⟩
    repeat' (first | (with_reducible exact Below.refl _ _) | (with_reducible assumption) | (with_reducible refine Ext.below _ ?_ ?_) | (with_reducible refine Below.on ?_ (by with_reducible assumption) ?_) | (with_reducible refine Below.alloc ?_ ?_ _) | (with_reducible refine Below.drew ?_) | (with_reducible refine Below.setCell ?_ ?_ _) | (with_reducible exact Nat.le_refl _) | omega | (simp; done) | (simp [go_sem]; done) | (simp at *; omega))
  have h4' : ¬ 410 < (j : Int) := by omega
  rw [decide_eq_false (by omega)]
  go_enter Tryd.func8, Tryd.ntmps8
  go_wp2_with (first | ((first | with_reducible refine wrx2 ?_ | with_reducible refine wrx ?_); (repeat (first | go_big_quiet_step ((first | fail)) | quiet_step ((first | fail)))); refine wpQuiet_nil ?_; rintro _ ⟨yr, rfl⟩; have syr := Ext.size yr; (repeat (first | rw [World.size_alloc] at syr | rw [World.size_setCell] at syr | rw [World.size_drew] at syr)); have : w.heap.size < yr.now.heap.size := (by omega); have : w.heap.size ≤ yr.now.heap.size := (by omega); have : w.heap.size < yr.now.heap.size + 1 + 1 := (by omega)))
  go_returns
  refine ⟨ret_bool (by simp <;> omega), ?_⟩
  repeat' (first | (with_reducible exact Below.refl _ _) | (with_reducible assumption) | (with_reducible refine Ext.below _ ?_ ?_) | (with_reducible refine Below.on ?_ (by with_reducible assumption) ?_) | (with_reducible refine Below.alloc ?_ ?_ _) | (with_reducible refine Below.drew ?_) | (with_reducible refine Below.setCell ?_ ?_ _) | (with_reducible exact Nat.le_refl _) | omega | (simp; done) | (simp [go_sem]; done) | (simp at *; omega))
/-- Rows of two lands, of two numbers, each row in one block. -/
def LandsAt (W : World) (G : Nat) (l : List LandR) : Prop := G < W.heap.size ∧ ∀ i (h : i < l.length), W.cell? ⟨G, i * 2, none⟩ = some (.slice l[i].pp l[i].pl.length l[i].pc) ∧ W.cell? ⟨G, i * 2 + 1, none⟩ = some (.slice l[i].wp l[i].wl.length l[i].wc) ∧ l[i].At W
theorem lands2_row {W : World} {G : Nat} {T : TypeId} (a b : LandR) (h : W.heap[G]? = some (.cells #[.slice a.pp a.pl.length a.pc, .slice a.wp a.wl.length a.wc, .slice b.pp b.pl.length b.pc, .slice b.wp b.wl.length b.wc] T (0, 0))) (h1 : a.At W) (h2 : b.At W) : LandsAt W G [a, b] := by
  refine ⟨row_lt h, fun i hi => ?_⟩
  have hi3 : i < 2 := hi
  rcases (show i = 0 ∨ i = 1 by omega) with rfl | rfl
  · exact ⟨(cell_of_row W _ _ _ _ _ h).trans rfl, (cell_of_row W _ _ _ _ _ h).trans rfl, h1⟩
  · exact ⟨(cell_of_row W _ _ _ _ _ h).trans rfl, (cell_of_row W _ _ _ _ _ h).trans rfl, h2⟩
def IntsAt (W : World) (G : Nat) (l : List Int) : Prop := G < W.heap.size ∧ ∀ i (h : i < l.length), W.cell? ⟨G, i, none⟩ = some (.int .i64 l[i]) ∧ I64 l[i]
theorem ints2_row {W : World} {G : Nat} (a b : Int) (hG : G < W.heap.size) (h0 : W.cell? ⟨G, 0, none⟩ = some (.int .i64 a)) (h1 : W.cell? ⟨G, 1, none⟩ = some (.int .i64 b)) (ha : I64 a) (hb : I64 b) : IntsAt W G [a, b] := by
  refine ⟨hG, fun i hi => ?_⟩
  have hi3 : i < 2 := hi
  rcases (show i = 0 ∨ i = 1 by omega) with rfl | rfl
  · exact ⟨h0, ha⟩
  · exact ⟨h1, hb⟩
theorem ints2_rowW {W : World} {G : Nat} {T : TypeId} (a b : Int) (h : W.heap[G]? = some (.cells #[.int .i64 a, .int .i64 b] T (0, 0))) (ha : I64 a) (hb : I64 b) : IntsAt W G [a, b] :=
  ints2_row a b (row_lt h) ((cell_of_row W _ 0 _ _ _ h).trans rfl) ((cell_of_row W _ 1 _ _ _ h).trans rfl) ha hb
theorem LandOwn.belowX {W W' : World} {base b : Nat} {x : LandR} (h : LandOwn W base x) (hb : b < base) (k : BelowX b W.heap.size W W') : LandOwn W' base x := ⟨owns_belowX h.n hb k, owns_belowX h.b hb k, h.len⟩
end Go.Proofs.YtlmhbggigbmeaaaDoor
namespace Go.Proofs.YtlmhbggigbmeaaaDoor
open Go.RowKit Go.Shelf
attribute [local go_sem] Option.isSome_some Ext.cell Ext.frozen Ext.lt Ext.le Ext.lt_add Ext.le_add Ext.ne Ext.ne' lt2 lt3 lt4 lt5 le2 le3 le4
/-- Valid grades: energies, reaches. -/
structure GradesOk (l : List V2) : Prop where
  pos : 0 < l.length
  le : l.length ≤ 32
  rng : ∀ g ∈ l, (0 ≤ g.x ∧ g.x ≤ 1152921504606846976) ∧ 0 ≤ g.y ∧ g.y ≤ 400
  up : ∀ i (h : i + 1 < l.length), l[i].x < l[i + 1].x ∧ l[i].y ≤ l[i + 1].y
/-- How far a blow of an energy reaches. -/
def reachL (e : Int) : List V2 → Int → Int
  | [], a => a
  | g :: l, a => reachL e l (if g.x ≤ e then g.y else a)
set_option maxHeartbeats 8000000 in
theorem CheckGrades_ok (p : Option Addr) (c : Nat) (l : List V2) (w : World) (hP : VecsAt w p l) (hok : GradesOk l) : Calls Tryd.prog 56 #[.slice p l.length c] w (Gives (.int .i64 0) w) := by
  have h0 := hok.pos
  have h1 := hok.le
  have h02 : ¬ (l.length : Int) = 0 := by omega
  have h03 : ((l.length : Int) == 0) = false := by rw [beq_eq_false_iff_ne]; exact h02
  have hc2 : ¬ 32 < (l.length : Int) := by omega
  replace hok := Go.Lib.hid hok
  replace hP := Go.Lib.hid hP
  go_enter Tryd.func56, Tryd.ntmps56
  go_wp2_with (first | ((first | with_reducible refine wrx2 ?_ | with_reducible refine wrx ?_); (repeat (first | go_big_quiet_step ((first | fail)) | quiet_step ((first | fail)))); refine wpQuiet_nil ?_; rintro _ ⟨yr, rfl⟩; have syr := Ext.size yr; (repeat (first | rw [World.size_alloc] at syr | rw [World.size_setCell] at syr | rw [World.size_drew] at syr))))
  clear h02 h03 hc2
  go_loopw [13] (fun s W => ∃ (i : Nat) (x : Ext w), s = .int .i64 i ∧ W = x.now ∧ Hid (i ≤ l.length)) (fun s _ => l.length - (intOf s).toNat)
  case atStart => exact ⟨0, ⟨w, Below.refl _ _⟩, rfl, rfl, Go.Lib.hid (Nat.zero_le _)⟩
  case round =>
    obtain ⟨i, x, rfl, rfl, hi⟩ := hrel
    have xs := x.size
    by_cases hlt : i < l.length
    · have hlt2 : (i : Int) < l.length := by omega
      obtain ⟨B, o, hp, hB, c1, c2⟩ := hP.out i hlt
      obtain ⟨⟨g1, g2⟩, g3, g4⟩ := hok.out.rng l[i] (List.getElem_mem hlt)
      have hi32 : i ≤ 32 := by omega
      clear hi
      subst hp
      have : B < (x.now).heap.size := (by omega); have : B < (x.now).heap.size + 1 := (by omega); have : B < (x.now).heap.size + 1 + 1 := (by omega); have : B ≠ (x.now).heap.size := (by omega); have : B ≠ (x.now).heap.size + 1 := (by omega)
      cases i with
      | zero =>
        generalize l[0].x = t1 at *
        generalize l[0].y = t2 at *
        simp only [Nat.zero_mul, Nat.add_zero] at c1 c2
        go_wp2_with (first | ((first | with_reducible refine wrx2 ?_ | with_reducible refine wrx ?_); (repeat (first | go_big_quiet_step ((first | fail)) | quiet_step ((first | fail)))); refine wpQuiet_nil ?_; rintro _ ⟨yr, rfl⟩; have syr := Ext.size yr; (repeat (first | rw [World.size_alloc] at syr | rw [World.size_setCell] at syr | rw [World.size_drew] at syr)); have : B < yr.now.heap.size := (by omega); have : B ≤ yr.now.heap.size := (by omega); have : B < yr.now.heap.size + 1 + 1 := (by omega)))
        refine ⟨⟨1, ⟨yr.now, ?_⟩, by simp, rfl, Go.Lib.hid (by omega)⟩, by simp [intOf]; omega⟩
        repeat' (first | (with_reducible exact Below.refl _ _) | (with_reducible assumption) | (with_reducible refine Ext.below _ ?_ ?_) | (with_reducible refine Below.on ?_ (by with_reducible assumption) ?_) | (with_reducible refine Below.alloc ?_ ?_ _) | (with_reducible refine Below.drew ?_) | (with_reducible refine Below.setCell ?_ ?_ _) | (with_reducible exact Nat.le_refl _) | omega | (simp; done) | (simp [go_sem]; done) | (simp at *; omega))
      | succ j =>
        obtain ⟨B', o', hp', hB', d1, d2⟩ := hP.out j (by omega)
        obtain ⟨u1, u2⟩ := hok.out.up j hlt
        injection hp' with hp'
        injection hp' with e1 e2
        subst e1 e2
        have hj2 : (j : Int) < l.length := by omega
        generalize l[j + 1].x = t1 at *
        generalize l[j + 1].y = t2 at *
        generalize l[j].x = t3 at *
        generalize l[j].y = t4 at *
        have u3 : ¬ t1 ≤ t3 := by omega
        have u4 : ¬ t2 < t4 := by omega
        clear hB' u1 u2
        go_wp2_with (first | ((first | with_reducible refine wrx2 ?_ | with_reducible refine wrx ?_); (repeat (first | go_big_quiet_step ((first | fail)) | quiet_step ((first | fail)))); refine wpQuiet_nil ?_; rintro _ ⟨yr, rfl⟩; have syr := Ext.size yr; (repeat (first | rw [World.size_alloc] at syr | rw [World.size_setCell] at syr | rw [World.size_drew] at syr)); have : B < yr.now.heap.size := (by omega); have : B ≤ yr.now.heap.size := (by omega); have : B < yr.now.heap.size + 1 + 1 := (by omega)))
        refine ⟨⟨j + 1 + 1, ⟨yr.now, ?_⟩, by simp, rfl, Go.Lib.hid (by omega)⟩, by simp [intOf]; omega⟩
        repeat' (first | (with_reducible exact Below.refl _ _) | (with_reducible assumption) | (with_reducible refine Ext.below _ ?_ ?_) | (with_reducible refine Below.on ?_ (by with_reducible assumption) ?_) | (with_reducible refine Below.alloc ?_ ?_ _) | (with_reducible refine Below.drew ?_) | (with_reducible refine Below.setCell ?_ ?_ _) | (with_reducible exact Nat.le_refl _) | omega | (simp; done) | (simp [go_sem]; done) | (simp at *; omega))
    · have hge : ¬ (i : Int) < l.length := by omega
      clear hi
      go_wp2_with (first | ((first | with_reducible refine wrx2 ?_ | with_reducible refine wrx ?_); (repeat (first | go_big_quiet_step ((first | fail)) | quiet_step ((first | fail)))); refine wpQuiet_nil ?_; rintro _ ⟨yr, rfl⟩; have syr := Ext.size yr; (repeat (first | rw [World.size_alloc] at syr | rw [World.size_setCell] at syr | rw [World.size_drew] at syr))))
      go_returns
      refine ⟨rfl, ?_⟩
      repeat' (first | (with_reducible exact Below.refl _ _) | (with_reducible assumption) | (with_reducible refine Ext.below _ ?_ ?_) | (with_reducible refine Below.on ?_ (by with_reducible assumption) ?_) | (with_reducible refine Below.alloc ?_ ?_ _) | (with_reducible refine Below.drew ?_) | (with_reducible refine Below.setCell ?_ ?_ _) | (with_reducible exact Nat.le_refl _) | omega | (simp; done) | (simp [go_sem]; done) | (simp at *; omega))
set_option maxHeartbeats 4000000 in
theorem reachOf_any (p : Option Addr) (c : Nat) (l : List V2) (e : Int) (w : World) (hP : VecsAt w p l) (hn : l.length ≤ 1000) : Calls Tryd.prog 57 #[.slice p l.length c, .int .i64 e] w (Gives (.int .i64 (reachL e l 0)) w) := by
  obtain ⟨V, hV⟩ : ∃ V, reachL e l 0 = V := ⟨_, rfl⟩
  rw [hV]
  replace hV := Go.Lib.hid hV
  replace hP := Go.Lib.hid hP
  go_enter Tryd.func57, Tryd.ntmps57
  go_wp2_with (first | ((first | with_reducible refine wrx2 ?_ | with_reducible refine wrx ?_); (repeat (first | go_big_quiet_step ((first | fail)) | quiet_step ((first | fail)))); refine wpQuiet_nil ?_; rintro _ ⟨yr, rfl⟩; have syr := Ext.size yr; (repeat (first | rw [World.size_alloc] at syr | rw [World.size_setCell] at syr | rw [World.size_drew] at syr))))
  go_loopw [5, 10] (fun t s W => ∃ (i : Nat) (a : Int) (x : Ext w), t = .int .i64 a ∧ s = .int .i64 i ∧ W = x.now ∧ Hid (i ≤ l.length ∧ reachL e (l.drop i) a = V)) (fun _ s _ => l.length - (intOf s).toNat)
  case atStart => exact ⟨0, 0, ⟨w, Below.refl _ _⟩, rfl, rfl, rfl, Go.Lib.hid ⟨Nat.zero_le _, by simpa using hV.out⟩⟩
  case round =>
    obtain ⟨i, a, x, rfl, rfl, rfl, hi⟩ := hrel
    have xs := x.size
    by_cases hlt : i < l.length
    · have hlt2 : (i : Int) < l.length := by omega
      obtain ⟨B, o, rfl, hB, c1, c2⟩ := hP.out i hlt
      have hE := hi.out.2
      rw [drop_at hlt, reachL] at hE
      by_cases hg : l[i].x ≤ e
      · have key : Hid (i + 1 ≤ l.length ∧ reachL e (l.drop (i + 1)) l[i].y = V) := Go.Lib.hid ⟨hlt, by rwa [if_pos hg] at hE⟩
        clear hE hi
        generalize l[i].x = t1 at *
        generalize l[i].y = t2 at *
        go_wp2_with (first | ((first | with_reducible refine wrx2 ?_ | with_reducible refine wrx ?_); (repeat (first | go_big_quiet_step ((first | fail)) | quiet_step ((first | fail)))); refine wpQuiet_nil ?_; rintro _ ⟨yr, rfl⟩; have syr := Ext.size yr; (repeat (first | rw [World.size_alloc] at syr | rw [World.size_setCell] at syr | rw [World.size_drew] at syr)); have : B < yr.now.heap.size := (by omega); have : B ≤ yr.now.heap.size := (by omega); have : B < yr.now.heap.size + 1 + 1 := (by omega)))
        exact ⟨⟨i + 1, t2, ⟨_, x.grew.alloc x.size _⟩, rfl, by simp, rfl, key⟩, by simp [intOf]; omega⟩
      · have key : Hid (i + 1 ≤ l.length ∧ reachL e (l.drop (i + 1)) a = V) := Go.Lib.hid ⟨hlt, by rwa [if_neg hg] at hE⟩
        clear hE hi
        generalize l[i].x = t1 at *
        generalize l[i].y = t2 at *
        go_wp2_with (first | ((first | with_reducible refine wrx2 ?_ | with_reducible refine wrx ?_); (repeat (first | go_big_quiet_step ((first | fail)) | quiet_step ((first | fail)))); refine wpQuiet_nil ?_; rintro _ ⟨yr, rfl⟩; have syr := Ext.size yr; (repeat (first | rw [World.size_alloc] at syr | rw [World.size_setCell] at syr | rw [World.size_drew] at syr)); have : B < yr.now.heap.size := (by omega); have : B ≤ yr.now.heap.size := (by omega); have : B < yr.now.heap.size + 1 + 1 := (by omega)))
        exact ⟨⟨i + 1, a, ⟨_, x.grew.alloc x.size _⟩, rfl, by simp, rfl, key⟩, by simp [intOf]; omega⟩
    · have hge : ¬ (i : Int) < l.length := by omega
      have eV : V = a := by have hE := hi.out.2; rw [drop_end hlt, reachL] at hE; exact hE.symm
      clear hi hV
      subst eV
      go_wp2_with (first | ((first | with_reducible refine wrx2 ?_ | with_reducible refine wrx ?_); (repeat (first | go_big_quiet_step ((first | fail)) | quiet_step ((first | fail)))); refine wpQuiet_nil ?_; rintro _ ⟨yr, rfl⟩; have syr := Ext.size yr; (repeat (first | rw [World.size_alloc] at syr | rw [World.size_setCell] at syr | rw [World.size_drew] at syr))))
      go_returns
      refine ⟨rfl, ?_⟩
      repeat' (first | (with_reducible exact Below.refl _ _) | (with_reducible assumption) | (with_reducible refine Ext.below _ ?_ ?_) | (with_reducible refine Below.on ?_ (by with_reducible assumption) ?_) | (with_reducible refine Below.alloc ?_ ?_ _) | (with_reducible refine Below.drew ?_) | (with_reducible refine Below.setCell ?_ ?_ _) | (with_reducible exact Nat.le_refl _) | omega | (simp; done) | (simp [go_sem]; done) | (simp at *; omega))
theorem Reach_ok (p : Option Addr) (c : Nat) (l : List V2) (e : Int) (w : World) (hP : VecsAt w p l) (hok : GradesOk l) : Calls Tryd.prog 30 #[.slice p l.length c, .int .i64 e] w (Gives (.int .i64 (reachL e l 0)) w) := by
  have cc := fun (W : World) (y : Below w.heap.size w W) => CheckGrades_ok p c l W (hP.on y) hok
  have cr := fun (W : World) (y : Below w.heap.size w W) => reachOf_any p c l e W (hP.on y) (by have := hok.le; omega)
  generalize reachL e l 0 = V at *
  clear hP hok
  generalize l.length = n at *
  go_enter Tryd.func30, Tryd.ntmps30
  go_wp2_with (first | ((first | with_reducible refine wrx2 ?_ | with_reducible refine wrx ?_); (repeat (first | go_big_quiet_step ((first | (go_at_call 56; with_reducible exact Calls.ext (cc _ bcl)) | (go_at_call 57; with_reducible exact Calls.ext (cr _ bcl)))) | quiet_step ((first | (go_at_call 56; with_reducible exact Calls.ext (cc _ bcl)) | (go_at_call 57; with_reducible exact Calls.ext (cr _ bcl)))))); refine wpQuiet_nil ?_; rintro _ ⟨yr, rfl⟩; have syr := Ext.size yr; (repeat (first | rw [World.size_alloc] at syr | rw [World.size_setCell] at syr | rw [World.size_drew] at syr))) | (go_at_call 56; (first | with_reducible refine (Calls.giv2 (cc _ bcl)).mono ?_ | with_reducible refine (Calls.giv (cc _ bcl)).mono ?_); rintro _ _ ⟨y1, rfl, rfl⟩; have sy1 := Ext.size y1; (repeat (first | rw [World.size_alloc] at sy1 | rw [World.size_setCell] at sy1 | rw [World.size_drew] at sy1))) | (go_at_call 57; (first | with_reducible refine (Calls.giv2 (cr _ bcl)).mono ?_ | with_reducible refine (Calls.giv (cr _ bcl)).mono ?_); rintro _ _ ⟨y2, rfl, rfl⟩; have sy2 := Ext.size y2; (repeat (first | rw [World.size_alloc] at sy2 | rw [World.size_setCell] at sy2 | rw [World.size_drew] at sy2))))
  go_returns
  refine ⟨rfl, ?_⟩
  repeat' (first | (with_reducible exact Below.refl _ _) | (with_reducible assumption) | (with_reducible refine Ext.below _ ?_ ?_) | (with_reducible refine Below.on ?_ (by with_reducible assumption) ?_) | (with_reducible refine Below.alloc ?_ ?_ _) | (with_reducible refine Below.drew ?_) | (with_reducible refine Below.setCell ?_ ?_ _) | (with_reducible exact Nat.le_refl _) | omega | (simp; done) | (simp [go_sem]; done) | (simp at *; omega))
/-- More energy reaches no less far. -/
theorem reachL_mono {e e' : Int} (he : e ≤ e') : ∀ (l : List V2) (a a' : Int), a ≤ a' → (∀ g ∈ l, a' ≤ g.y) → l.Pairwise (fun g h => g.y ≤ h.y) → reachL e l a ≤ reachL e' l a'
  | [], a, a', h, _, _ => h
  | g :: l, a, a', h, h1, h2 => by
    obtain ⟨h3, h4⟩ := List.pairwise_cons.1 h2
    have h5 := h1 g (by simp)
    unfold reachL
    by_cases q : g.x ≤ e'
    · rw [if_pos q]
      refine reachL_mono he l _ _ ?_ h3 h4
      split <;> omega
    · rw [if_neg q, if_neg (by omega)]
      exact reachL_mono he l _ _ h (fun u hu => h1 u (by simp [hu])) h4
end Go.Proofs.YtlmhbggigbmeaaaDoor
namespace Go.Proofs.YtlmhbggigbmeaaaDoor
open Go.RowKit Go.Shelf
attribute [local go_sem] Option.isSome_some Ext.cell Ext.frozen Ext.lt Ext.le Ext.lt_add Ext.le_add Ext.ne Ext.ne' lt2 lt3 lt4 lt5 le2 le3 le4
attribute [local go_sem] RExt.cell RExt.frozen RExt.lt RExt.le RExt.lt_add RExt.le_add RExt.ne RExt.ne'
theorem grade_info : (Tryd.prog.info? 92).map (fun i => (i.zero, i.size, i.bytes)) = some (some (.agg #[.int .i64 0, .int .i64 0]), 2, 16) := by kernel_rfl
/-- Grades that ascend, below the numbers of the next one. -/
structure GradesUp (l : List V2) (e r : Int) : Prop where
  rng : ∀ g ∈ l, (0 ≤ g.x ∧ g.x < e) ∧ 0 ≤ g.y ∧ g.y ≤ r
  up : ∀ i (h : i + 1 < l.length), l[i].x < l[i + 1].x ∧ l[i].y ≤ l[i + 1].y
theorem GradesUp.add {l : List V2} {e r e' r' : Int} (h : GradesUp l e r) (he : 0 ≤ e) (hr : 0 ≤ r) (h1 : e < e') (h2 : r ≤ r') : GradesUp (l ++ [⟨e, r⟩]) e' r' := by
  refine ⟨fun g hg => ?_, fun i hi => ?_⟩
  · rcases List.mem_append.1 hg with h3 | h3
    · have := h.rng g h3; omega
    · rw [List.mem_singleton.1 h3]; simp only; omega
  · rw [List.length_append, List.length_singleton] at hi
    by_cases hl : i + 1 < l.length
    · rw [List.getElem_append_left (by omega), List.getElem_append_left hl]; exact h.up i hl
    · rw [List.getElem_append_left (by omega), List.getElem_append_right (by omega)]
      have := h.rng (l[i]'(by omega)) (List.getElem_mem _)
      simp only [List.getElem_singleton]
      omega
def GradesPost (b m : Nat) (w : World) : Ending → World → Prop := fun e w' => ∃ (y : RExt w b) (v : Value) (l : List V2), e = .returned v ∧ y.now.ownsRow w.heap.size 92 2 v l.length (vrows l) ∧ GradesOk l ∧ w' = y.now ∧ RingM y.now b (m + 15)
theorem GradesPost.intro {b m : Nat} {w W : World} {v : Value} (l : List V2) (hB : BelowX b w.heap.size w W) (ho : W.ownsRow w.heap.size 92 2 v l.length (vrows l)) (h1 : GradesOk l) (hr : RingM W b (m + 15)) : GradesPost b m w (.returned v) W := ⟨⟨W, hB⟩, v, l, rfl, ho, h1, rfl, hr⟩
set_option maxRecDepth 100000 in
set_option maxHeartbeats 8000000 in
theorem GradesOf_y (b m : Nat) (w : World) (hm : m < 100000) (h : RingM w b m) : Calls Tryd.prog 13 #[.pointer (some ⟨b, 0, none⟩)] w (GradesPost b m w) := by
  have hl := h.lt
  go_enter Tryd.func13, Tryd.ntmps13
  go_wp2_with (first | ((first | with_reducible refine wrx2 ?_ | with_reducible refine wrx ?_); (repeat (first | go_big_quiet_step ((first | fail)) | quiet_step ((first | fail)))); refine wpQuiet_nil ?_; rintro _ ⟨yr, rfl⟩; have syr := Ext.size yr; (repeat (first | rw [World.size_alloc] at syr | rw [World.size_setCell] at syr | rw [World.size_drew] at syr)); have : b < yr.now.heap.size := (by omega); have : b ≤ yr.now.heap.size := (by omega); have : b < yr.now.heap.size + 1 + 1 := (by omega)) | (go_at_call 15; (with_reducible refine Calls.mono (Next_y 3 b m _ (by omega) (by omega) (by omega) ?_) ?_); (focus ((repeat (first | (with_reducible assumption) | (with_reducible refine RingM.alloc ?_ _) | (with_reducible refine RingM.drew ?_) | (with_reducible refine RingM.ext ?_ _) | (with_reducible refine RingM.set ?_ _ (by omega)))); done)); (rintro _ _ ⟨yx1, vx1, rfl, hvx1, rfl, rgx1⟩); have syx1 := RExt.size yx1; (repeat (first | rw [World.size_alloc] at syx1 | rw [World.size_setCell] at syx1 | rw [World.size_drew] at syx1)); have : b < yx1.now.heap.size := (by omega); have : b ≤ yx1.now.heap.size := (by omega); have : b < yx1.now.heap.size + 1 + 1 := (by omega)) | (go_at_call 15; (with_reducible refine Calls.mono (Next_y 2 b (m + 1) _ (by omega) (by omega) (by omega) ?_) ?_); (focus ((repeat (first | (with_reducible assumption) | (with_reducible refine RingM.alloc ?_ _) | (with_reducible refine RingM.drew ?_) | (with_reducible refine RingM.ext ?_ _) | (with_reducible refine RingM.set ?_ _ (by omega)))); done)); (rintro _ _ ⟨yx2, vx2, rfl, hvx2, rfl, rgx2⟩); have syx2 := RExt.size yx2; (repeat (first | rw [World.size_alloc] at syx2 | rw [World.size_setCell] at syx2 | rw [World.size_drew] at syx2)); have : b < yx2.now.heap.size := (by omega); have : b ≤ yx2.now.heap.size := (by omega); have : b < yx2.now.heap.size + 1 + 1 := (by omega)) | (go_at_call 15; (with_reducible refine Calls.mono (Next_y 6 b (m + 2) _ (by omega) (by omega) (by omega) ?_) ?_); (focus ((repeat (first | (with_reducible assumption) | (with_reducible refine RingM.alloc ?_ _) | (with_reducible refine RingM.drew ?_) | (with_reducible refine RingM.ext ?_ _) | (with_reducible refine RingM.set ?_ _ (by omega)))); done)); (rintro _ _ ⟨yx3, vx3, rfl, hvx3, rfl, rgx3⟩); have syx3 := RExt.size yx3; (repeat (first | rw [World.size_alloc] at syx3 | rw [World.size_setCell] at syx3 | rw [World.size_drew] at syx3)); have : b < yx3.now.heap.size := (by omega); have : b ≤ yx3.now.heap.size := (by omega); have : b < yx3.now.heap.size + 1 + 1 := (by omega)))
  obtain ⟨hd0, hd1⟩ := hvx1
  obtain ⟨hr0, hr1⟩ := hvx2
  obtain ⟨hn0, hn1⟩ := hvx3
  obtain ⟨k0, hk0⟩ := Int.eq_ofNat_of_zero_le (show 0 ≤ 1 + vx3 by omega)
  rw [hk0]
  have hk6 : 1 ≤ k0 ∧ k0 ≤ 6 := by omega
  have hB0 : BelowX b w.heap.size w yx3.now := yx1.grew.trans ((yx2.grew.trans (yx3.grew.mono (by omega))).mono (by omega))
  go_loopw [3, 4, 5, 6] (fun t u q s W => ∃ (k : Nat) (e r : Int) (v : Value) (l : List V2) (x : RExt w b), t = v ∧ u = .int .i64 e ∧ q = .int .i64 r ∧ s = .int .i64 k ∧ W = x.now ∧ x.now.ownsRow w.heap.size 92 2 v l.length (vrows l) ∧ RingM x.now b (m + 3 + 2 * (k0 - k)) ∧ Hid (l.length + k = k0 ∧ (0 ≤ e ∧ e ≤ 3000 * 31 ^ (l.length)) ∧ (0 ≤ r ∧ r ≤ 1 + 3 * l.length) ∧ GradesUp l e r)) (fun _ _ _ s _ => (intOf s).toNat)
  case atStart => exact ⟨k0, _, vx2, _, [], ⟨yx3.now, hB0⟩, rfl, rfl, rfl, rfl, rfl, World.ownsRow_nil _ _ _ _, by simpa using rgx3, Go.Lib.hid ⟨by simp, ⟨by omega, by simp; omega⟩, ⟨hr0, by simp; omega⟩, ⟨by simp, by simp⟩⟩⟩
  case round =>
    obtain ⟨k, e, r, v, l, x, rfl, rfl, rfl, rfl, rfl, hown, hrg, hi⟩ := hrel
    have xs := x.size
    obtain ⟨p, c, rfl⟩ := owns_form hown
    have hb1 : b < x.now.heap.size := by omega
    by_cases hk : k = 0
    · subst hk
      obtain ⟨i1, i2, i3, i4⟩ := hi.out
      have hP1 : (31 : Int) ^ l.length ≤ 887503681 := by
        have a : (31 : Int) ^ l.length = ((31 ^ l.length : Nat) : Int) := by simp
        have b1 : 31 ^ l.length ≤ 31 ^ 6 := Nat.pow_le_pow_right (by decide) (by omega)
        have b3 : (31 : Nat) ^ 6 = 887503681 := by decide
        rw [a]; omega
      have hok : GradesOk l := ⟨by omega, by omega, fun g hg => by have := i4.rng g hg; omega, i4.up⟩
      clear hi
      go_wp2_with (first | ((first | with_reducible refine wrx2 ?_ | with_reducible refine wrx ?_); (repeat (first | go_big_quiet_step ((first | fail)) | quiet_step ((first | fail)))); refine wpQuiet_nil ?_; rintro _ ⟨yr, rfl⟩; have syr := Ext.size yr; (repeat (first | rw [World.size_alloc] at syr | rw [World.size_setCell] at syr | rw [World.size_drew] at syr)); have : b < yr.now.heap.size := (by omega); have : b ≤ yr.now.heap.size := (by omega); have : b < yr.now.heap.size + 1 + 1 := (by omega)))
      go_returns
      exact GradesPost.intro l x.grew hown hok (hrg.mono (by omega))
    · have hkp : 0 < (k : Int) := by omega
      obtain ⟨j, rfl⟩ : ∃ j, k = j + 1 := ⟨k - 1, by omega⟩
      obtain ⟨i1, ⟨i2, i3⟩, ⟨i5, i6⟩, i4⟩ := hi.out
      have hP1 : (1 : Int) ≤ 31 ^ l.length ∧ (31 : Int) ^ l.length ≤ 28629151 := by
        have a : (31 : Int) ^ l.length = ((31 ^ l.length : Nat) : Int) := by simp
        have b1 : 31 ^ l.length ≤ 31 ^ 5 := Nat.pow_le_pow_right (by decide) (by omega)
        have b2 : 0 < 31 ^ l.length := Nat.pow_pos (by decide)
        have b3 : (31 : Nat) ^ 5 = 28629151 := by decide
        rw [a]; omega
      have hP2 : (31 : Int) ^ (l.length + 1) = 31 ^ l.length * 31 := Int.pow_succ 31 _
      have hkey := fun (x1 x2 : Int) (q1 : 1 ≤ x1 ∧ x1 ≤ 1000) (q2 : 0 ≤ x2 ∧ x2 ≤ 3) => (show Hid ((l ++ [(⟨e, r⟩ : V2)]).length + j = k0 ∧ (0 ≤ e * 30 + x1 ∧ e * 30 + x1 ≤ 3000 * 31 ^ ((l ++ [(⟨e, r⟩ : V2)]).length)) ∧ (0 ≤ r + x2 ∧ r + x2 ≤ 1 + 3 * (l ++ [(⟨e, r⟩ : V2)]).length) ∧ GradesUp (l ++ [(⟨e, r⟩ : V2)]) (e * 30 + x1) (r + x2)) from by
        refine Go.Lib.hid ⟨by simp; omega, ?_, ?_, i4.add i2 i5 (by omega) (by omega)⟩
        · rw [List.length_append, List.length_singleton, hP2]; omega
        · rw [List.length_append, List.length_singleton]; omega)
      have he6 : e ≤ 85887453000 := by omega
      have hr6 : r ≤ 16 := by omega
      have hll : l.length ≤ 5 := by omega
      have hj6 : j ≤ 6 := by omega
      have hmm : m + 3 + 2 * (k0 - (j + 1)) + 2 = m + 3 + 2 * (k0 - j) := by omega
      have hmb : m + 3 + 2 * (k0 - (j + 1)) < 1000000 := by omega
      clear hi i1 i3 i4 i6 hP1 hP2 hk hB0
      generalize m + 3 + 2 * (k0 - (j + 1)) = mm at *
      obtain ⟨i0, hi0, hz0, hz1, hz2⟩ := info_parts grade_info
      go_upto_region 7 with (first | ((first | with_reducible refine wrx2 ?_ | with_reducible refine wrx ?_); (repeat (first | go_big_quiet_step ((first | fail)) | quiet_step ((first | fail)))); refine wpQuiet_nil ?_; rintro _ ⟨yr, rfl⟩; have syr := Ext.size yr; (repeat (first | rw [World.size_alloc] at syr | rw [World.size_setCell] at syr | rw [World.size_drew] at syr)); have : b < yr.now.heap.size := (by omega); have : b ≤ yr.now.heap.size := (by omega); have : b < yr.now.heap.size + 1 + 1 := (by omega)) | (at_builtin; go_loud (refine wpList_append_own _ rfl _ _ 23 rfl w.heap.size 92 i0 _ 2 16 Tryd.underlying23 hi0 hz0 hz1 hz2 rfl (by decide) _ l.length (vrows l) rfl (hown.alloc (.cells #[.int .i64 e, .int .i64 r] 92)) _ 1 1 _ rfl rfl (cells2_new _ _ _ _) (by intro u hu; simp only [List.mem_cons, List.not_mem_nil, or_false] at hu; rcases hu with rfl | rfl <;> rfl) (by unfold maxLen; omega) (by omega) (by simp only [World.size_alloc]; omega) ?_; intro v' W2 hown' hgrow _; have hownA := hown.alloc (.cells #[.int .i64 e, .int .i64 r] 92); have hrg2 := RingM.grown (hrg.alloc (.cells #[.int .i64 e, .int .i64 r] 92)) hownA hl hgrow; have hB2 : BelowX b w.heap.size w W2 := belowX_grown (x.grew.alloc (by omega) (.cells #[.int .i64 e, .int .i64 r] 92)) hownA (Nat.le_refl _) (by simp only [World.size_alloc]; omega) hgrow; have sW2 := hB2.size)))
      have hlW2 : b < W2.heap.size := by omega
      go_wp2_with (first | ((first | with_reducible refine wrx2 ?_ | with_reducible refine wrx ?_); (repeat (first | go_big_quiet_step ((first | fail)) | quiet_step ((first | fail)))); refine wpQuiet_nil ?_; rintro _ ⟨yr, rfl⟩; have syr := Ext.size yr; (repeat (first | rw [World.size_alloc] at syr | rw [World.size_setCell] at syr | rw [World.size_drew] at syr)); have : b < yr.now.heap.size := (by omega); have : b ≤ yr.now.heap.size := (by omega); have : b < yr.now.heap.size + 1 + 1 := (by omega)) | (go_at_call 42; (with_reducible refine Calls.mono (Range_y 1 1000 b mm _ (by omega) (by omega) (by omega) (by omega) ?_) ?_); (focus ((repeat (first | (with_reducible assumption) | (with_reducible refine RingM.alloc ?_ _) | (with_reducible refine RingM.drew ?_) | (with_reducible refine RingM.ext ?_ _) | (with_reducible refine RingM.set ?_ _ (by omega)))); done)); (rintro _ _ ⟨yx1, vx1, rfl, hvx1, rfl, rgx1⟩); have syx1 := RExt.size yx1; (repeat (first | rw [World.size_alloc] at syx1 | rw [World.size_setCell] at syx1 | rw [World.size_drew] at syx1)); have : b < yx1.now.heap.size := (by omega); have : b ≤ yx1.now.heap.size := (by omega); have : b < yx1.now.heap.size + 1 + 1 := (by omega)) | (go_at_call 42; (with_reducible refine Calls.mono (Range_y 0 3 b (mm + 1) _ (by omega) (by omega) (by omega) (by omega) ?_) ?_); (focus ((repeat (first | (with_reducible assumption) | (with_reducible refine RingM.alloc ?_ _) | (with_reducible refine RingM.drew ?_) | (with_reducible refine RingM.ext ?_ _) | (with_reducible refine RingM.set ?_ _ (by omega)))); done)); (rintro _ _ ⟨yx2, vx2, rfl, hvx2, rfl, rgx2⟩); have syx2 := RExt.size yx2; (repeat (first | rw [World.size_alloc] at syx2 | rw [World.size_setCell] at syx2 | rw [World.size_drew] at syx2)); have : b < yx2.now.heap.size := (by omega); have : b ≤ yx2.now.heap.size := (by omega); have : b < yx2.now.heap.size + 1 + 1 := (by omega)))
      have ho : yx2.now.ownsRow w.heap.size 92 2 v' (l ++ [(⟨e, r⟩ : V2)]).length (vrows (l ++ [(⟨e, r⟩ : V2)])) := by
        rw [vrows_add, List.length_append, List.length_singleton]
        exact owns_belowX (owns_belowX hown' hl yx1.grew) hl yx2.grew
      have hr9 : RingM yx2.now b (m + 3 + 2 * (k0 - j)) := by rw [← hmm]; exact rgx2
      have key := hkey vx1 vx2 hvx1 hvx2
      have hB3 : BelowX b w.heap.size w yx2.now := hB2.trans ((yx1.grew.trans (yx2.grew.mono (by omega))).mono (by omega))
      clear hkey
      generalize e * 30 + vx1 = e2 at *
      generalize r + vx2 = r2 at *
      generalize yx2.now = W5 at *
      refine ⟨⟨j, e2, r2, v', l ++ [⟨e, r⟩], ⟨W5, hB3⟩, rfl, rfl, rfl, rfl, rfl, ho, hr9, key⟩, ?_⟩
      simp only [intOf]
      omega
end Go.Proofs.YtlmhbggigbmeaaaDoor

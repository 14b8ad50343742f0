/- Guesses and rows that a call has made; tracklets and looks in memory; contracts of isGuess, straight, checkGuesses, looksOf, misses, allLooks. Conditions: the cells that are read. -/
import Derived.Test.YtgoilmiiegpnoaaSkyU
import Derived.Test.YtgoilmiiegpnoaaOwns
import Derived.OwnWalk
namespace Go.Proofs.Ytgoilmiiegpnoaa
open Go.RowKit Go.Shelf
attribute [local go_sem] Option.isSome_some Ext.cell Ext.frozen Ext.lt Ext.le Ext.lt_add Ext.le_add Ext.ne Ext.ne' lt2 lt3 lt4 lt5 le2 le3 le4
structure StateR where
  x : Int
  y : Int
  u : Int
  v : Int
def StateR.val (g : StateR) : Value := .agg #[.int .i64 g.x, .int .i64 g.y, .int .i64 g.u, .int .i64 g.v]
def StatesAt (W : World) (p : Option Addr) (l : List StateR) : Prop := ∀ j (h : j < l.length), ∃ B o, p = some ⟨B, o, none⟩ ∧ B < W.heap.size ∧ W.cell? ⟨B, o + j * 4, none⟩ = some (.int .i64 l[j].x) ∧ W.cell? ⟨B, o + j * 4 + 1, none⟩ = some (.int .i64 l[j].y) ∧ W.cell? ⟨B, o + j * 4 + 2, none⟩ = some (.int .i64 l[j].u) ∧ W.cell? ⟨B, o + j * 4 + 3, none⟩ = some (.int .i64 l[j].v)
theorem StatesAt.ext {W : World} {p : Option Addr} {l : List StateR} (h : StatesAt W p l) (x : Ext W) : StatesAt x.now p l := fun j hj => by
  obtain ⟨B, o, rfl, hB, h1, h2, h3, h4⟩ := h j hj
  exact ⟨B, o, rfl, x.lt hB, (x.cell hB).trans h1, (x.cell hB).trans h2, (x.cell hB).trans h3, (x.cell hB).trans h4⟩
theorem StatesAt.on {W W' : World} {p : Option Addr} {l : List StateR} (h : StatesAt W p l) (b : Below W.heap.size W W') : StatesAt W' p l := h.ext ⟨W', b⟩
def guessB (g : StateR) : Bool := vwinB ⟨g.x, g.y⟩ 33554432 && vwinB ⟨g.u, g.v⟩ 1048576
theorem isGuess_any (x y u v : Int) (w : World) : Calls Try.prog 46 #[.agg #[.int .i64 x, .int .i64 y, .int .i64 u, .int .i64 v]] w (Gives (.bool (guessB ⟨x, y, u, v⟩)) w) := by
  have c1 := fun W => areWithin_any x y 33554432 W (by omega)
  have c2 := fun W => areWithin_any u v 1048576 W (by omega)
  unfold guessB
  simp only
  generalize vwinB ⟨x, y⟩ 33554432 = b1 at *
  generalize vwinB ⟨u, v⟩ 1048576 = b2 at *
  cases b1 <;> cases b2
  all_goals
    go_enter Try.func46, Try.ntmps46
    go_wp2_with (first | ((first | with_reducible refine wp_region_ext2 (by kernel_rfl) (by kernel_rfl) ?_ | with_reducible refine wp_region_ext (by kernel_rfl) (by kernel_rfl) ?_); (repeat (first | go_big_quiet_step ((first | (go_at_call 64; with_reducible exact Calls.ext (c1 _)) | (go_at_call 64; with_reducible exact Calls.ext (c2 _)))) | quiet_step ((first | (go_at_call 64; with_reducible exact Calls.ext (c1 _)) | (go_at_call 64; with_reducible exact Calls.ext (c2 _)))))); refine wpQuiet_nil ?_; rintro _ ⟨yr, rfl⟩; have syr := Ext.size yr; (repeat (first | rw [World.size_alloc] at syr | rw [World.size_setCell] at syr | rw [World.size_drew] at syr))) | (go_at_call 64; (first | with_reducible refine (Calls.giv2 (c1 _)).mono ?_ | with_reducible refine (Calls.giv (c1 _)).mono ?_); rintro _ _ ⟨y1, rfl, rfl⟩; have sy1 := Ext.size y1; (repeat (first | rw [World.size_alloc] at sy1 | rw [World.size_setCell] at sy1 | rw [World.size_drew] at sy1))) | (go_at_call 64; (first | with_reducible refine (Calls.giv2 (c2 _)).mono ?_ | with_reducible refine (Calls.giv (c2 _)).mono ?_); rintro _ _ ⟨y2, rfl, rfl⟩; have sy2 := Ext.size y2; (repeat (first | rw [World.size_alloc] at sy2 | rw [World.size_setCell] at sy2 | rw [World.size_drew] at sy2))))
    go_returns
    refine ⟨rfl, ?_⟩
    repeat' (first | (with_reducible exact Below.refl _ _) | (with_reducible assumption) | (with_reducible refine Ext.below _ ?_ ?_) | (with_reducible refine Below.on ?_ (by with_reducible assumption) ?_) | (with_reducible refine Below.alloc ?_ ?_ _) | (with_reducible refine Below.drew ?_) | (with_reducible refine Below.setCell ?_ ?_ _) | (with_reducible exact Nat.le_refl _) | omega | (simp; done) | (simp [go_sem]; done) | (simp at *; omega))
def strV (g : StateR) (n : Int) : V2 := ⟨g.x + g.u * n, g.y + g.v * n⟩
theorem straight_any (g : StateR) (n : Int) (w : World) (hg : guessB g = true) (hn : -1073741824 ≤ n ∧ n ≤ 1073741824) : Calls Try.prog 48 #[.agg #[.int .i64 g.x, .int .i64 g.y, .int .i64 g.u, .int .i64 g.v], .int .i64 n] w (Gives (.agg #[.int .i64 (strV g n).x, .int .i64 (strV g n).y]) w) := by
  unfold guessB at hg
  simp only [Bool.and_eq_true] at hg
  obtain ⟨⟨a1, a2⟩, a3, a4⟩ := vwinB_out hg.1
  obtain ⟨⟨b1, b2⟩, b3, b4⟩ := vwinB_out hg.2
  have m1 := mulb (A := 1048576) (B := 1073741824) b1 b2 hn.1 hn.2
  have m2 := mulb (A := 1048576) (B := 1073741824) b3 b4 hn.1 hn.2
  obtain ⟨m1, m1'⟩ := m1
  obtain ⟨m2, m2'⟩ := m2
  obtain ⟨x, y, u, v⟩ := g
  unfold strV
  simp only at *
  clear hg
  go_enter Try.func48, Try.ntmps48
  go_wp2_with (first | ((first | with_reducible refine wp_region_ext2 (by kernel_rfl) (by kernel_rfl) ?_ | with_reducible refine wp_region_ext (by kernel_rfl) (by kernel_rfl) ?_); (repeat (first | go_big_quiet_step ((first | fail)) | quiet_step ((first | fail)))); refine wpQuiet_nil ?_; rintro _ ⟨yr, rfl⟩; have syr := Ext.size yr; (repeat (first | rw [World.size_alloc] at syr | rw [World.size_setCell] at syr | rw [World.size_drew] at syr))))
  go_returns
  refine ⟨rfl, ?_⟩
  repeat' (first | (with_reducible exact Below.refl _ _) | (with_reducible assumption) | (with_reducible refine Ext.below _ ?_ ?_) | (with_reducible refine Below.on ?_ (by with_reducible assumption) ?_) | (with_reducible refine Below.alloc ?_ ?_ _) | (with_reducible refine Below.drew ?_) | (with_reducible refine Below.setCell ?_ ?_ _) | (with_reducible exact Nat.le_refl _) | omega | (simp; done) | (simp [go_sem]; done) | (simp at *; omega))
def guessesL : List StateR → Int
  | [] => 0
  | g :: l => if guessB g then guessesL l else 2
def guessesE (l : List StateR) (t : Int) : Int := if 64 < l.length then 8 else if tickB t then guessesL l else 2
theorem guessesL_zero {l : List StateR} (h : guessesL l = 0) : ∀ j (hj : j < l.length), guessB l[j] = true := by
  induction l with
  | nil => intro j hj; simp at hj
  | cons v l ih =>
    rw [guessesL] at h
    by_cases hv : guessB v = true
    · rw [if_pos hv] at h
      intro j hj
      cases j with
      | zero => exact hv
      | succ j => exact ih h j (by simpa using hj)
    · rw [if_neg hv] at h; cases h
theorem guessesE_zero {l : List StateR} {t : Int} (h : guessesE l t = 0) : l.length ≤ 64 ∧ tickB t = true ∧ ∀ j (hj : j < l.length), guessB l[j] = true := by
  unfold guessesE at h
  by_cases h1 : 64 < l.length
  · rw [if_pos h1] at h; cases h
  · rw [if_neg h1] at h
    by_cases h2 : tickB t = true
    · rw [if_pos h2] at h; exact ⟨by omega, h2, guessesL_zero h⟩
    · rw [if_neg h2] at h; cases h
set_option maxHeartbeats 4000000 in
theorem checkGuesses_any (p : Option Addr) (c : Nat) (l : List StateR) (t : Int) (w : World) (hP : StatesAt w p l) : Calls Try.prog 26 #[.slice p l.length c, .int .i64 t] w (Gives (.int .i64 (guessesE l t)) w) := by
  have ct := fun W => isTick_any t W
  unfold guessesE
  by_cases hc : 64 < l.length
  · rw [if_pos hc]
    have hc2 : 64 < (l.length : Int) := by omega
    go_enter Try.func26, Try.ntmps26
    go_wp2_with (first | ((first | with_reducible refine wp_region_ext2 (by kernel_rfl) (by kernel_rfl) ?_ | with_reducible refine wp_region_ext (by kernel_rfl) (by kernel_rfl) ?_); (repeat (first | go_big_quiet_step ((first | fail)) | quiet_step ((first | fail)))); refine wpQuiet_nil ?_; rintro _ ⟨yr, rfl⟩; have syr := Ext.size yr; (repeat (first | rw [World.size_alloc] at syr | rw [World.size_setCell] at syr | rw [World.size_drew] at syr))))
    go_returns
    refine ⟨rfl, ?_⟩
    repeat' (first | (with_reducible exact Below.refl _ _) | (with_reducible assumption) | (with_reducible refine Ext.below _ ?_ ?_) | (with_reducible refine Below.on ?_ (by with_reducible assumption) ?_) | (with_reducible refine Below.alloc ?_ ?_ _) | (with_reducible refine Below.drew ?_) | (with_reducible refine Below.setCell ?_ ?_ _) | (with_reducible exact Nat.le_refl _) | omega | (simp; done) | (simp [go_sem]; done) | (simp at *; omega))
  · rw [if_neg hc]
    have hc2 : ¬ 64 < (l.length : Int) := by omega
    have hn : l.length ≤ 64 := by omega
    clear hc
    cases ht : tickB t
    · rw [if_neg (by simp)]
      rw [ht] at ct
      clear ht hP
      go_enter Try.func26, Try.ntmps26
      go_wp2_with (first | ((first | with_reducible refine wp_region_ext2 (by kernel_rfl) (by kernel_rfl) ?_ | with_reducible refine wp_region_ext (by kernel_rfl) (by kernel_rfl) ?_); (repeat (first | go_big_quiet_step ((first | (go_at_call 45; with_reducible exact Calls.ext (ct _)))) | quiet_step ((first | (go_at_call 45; with_reducible exact Calls.ext (ct _)))))); refine wpQuiet_nil ?_; rintro _ ⟨yr, rfl⟩; have syr := Ext.size yr; (repeat (first | rw [World.size_alloc] at syr | rw [World.size_setCell] at syr | rw [World.size_drew] at syr))) | (go_at_call 45; (first | with_reducible refine (Calls.giv2 (ct _)).mono ?_ | with_reducible refine (Calls.giv (ct _)).mono ?_); rintro _ _ ⟨y1, rfl, rfl⟩; have sy1 := Ext.size y1; (repeat (first | rw [World.size_alloc] at sy1 | rw [World.size_setCell] at sy1 | rw [World.size_drew] at sy1))))
      go_returns
      refine ⟨rfl, ?_⟩
      repeat' (first | (with_reducible exact Below.refl _ _) | (with_reducible assumption) | (with_reducible refine Ext.below _ ?_ ?_) | (with_reducible refine Below.on ?_ (by with_reducible assumption) ?_) | (with_reducible refine Below.alloc ?_ ?_ _) | (with_reducible refine Below.drew ?_) | (with_reducible refine Below.setCell ?_ ?_ _) | (with_reducible exact Nat.le_refl _) | omega | (simp; done) | (simp [go_sem]; done) | (simp at *; omega))
    rw [if_pos rfl]
    rw [ht] at ct
    clear ht
    obtain ⟨V, hV⟩ : ∃ V, guessesL l = V := ⟨_, rfl⟩
    rw [hV]
    have hV := Go.Lib.hid hV
    have hP := Go.Lib.hid hP
    go_enter Try.func26, Try.ntmps26
    go_wp2_with (first | ((first | with_reducible refine wp_region_ext2 (by kernel_rfl) (by kernel_rfl) ?_ | with_reducible refine wp_region_ext (by kernel_rfl) (by kernel_rfl) ?_); (repeat (first | go_big_quiet_step ((first | (go_at_call 45; with_reducible exact Calls.ext (ct _)))) | quiet_step ((first | (go_at_call 45; with_reducible exact Calls.ext (ct _)))))); refine wpQuiet_nil ?_; rintro _ ⟨yr, rfl⟩; have syr := Ext.size yr; (repeat (first | rw [World.size_alloc] at syr | rw [World.size_setCell] at syr | rw [World.size_drew] at syr))) | (go_at_call 45; (first | with_reducible refine (Calls.giv2 (ct _)).mono ?_ | with_reducible refine (Calls.giv (ct _)).mono ?_); rintro _ _ ⟨y1, rfl, rfl⟩; have sy1 := Ext.size y1; (repeat (first | rw [World.size_alloc] at sy1 | rw [World.size_setCell] at sy1 | rw [World.size_drew] at sy1))))
    have hBw : Below w.heap.size w y1.now := by repeat' (first | (with_reducible exact Below.refl _ _) | (with_reducible assumption) | (with_reducible refine Ext.below _ ?_ ?_) | (with_reducible refine Below.on ?_ (by with_reducible assumption) ?_) | (with_reducible refine Below.alloc ?_ ?_ _) | (with_reducible refine Below.drew ?_) | (with_reducible refine Below.setCell ?_ ?_ _) | (with_reducible exact Nat.le_refl _) | omega | (simp; done) | (simp [go_sem]; done) | (simp at *; omega))
    have hP := Go.Lib.hid (hP.out.on hBw)
    generalize y1.now = W0 at *
    clear hc2
    go_loopw [15] (fun s W => ∃ (i : Nat) (x : Ext W0), s = .int .i64 i ∧ W = x.now ∧ Hid (i ≤ l.length ∧ guessesL (l.drop i) = V)) (fun s _ => l.length - (intOf s).toNat)
    case atStart => exact ⟨0, ⟨W0, Below.refl _ _⟩, rfl, rfl, Go.Lib.hid ⟨Nat.zero_le _, by simpa using hV.out⟩⟩
    case round =>
      obtain ⟨i, x, rfl, rfl, hi⟩ := hrel
      have xs := x.size
      have hbx := x.below hBw (by omega)
      by_cases hlt : i < l.length
      · have hlt2 : (i : Int) < l.length := by omega
        obtain ⟨B, o, rfl, hB, c1, c2, c3, c4⟩ := hP.out i hlt
        have hE := hi.out.2
        rw [drop_at hlt, guessesL] at hE
        have cg := fun W => isGuess_any l[i].x l[i].y l[i].u l[i].v W
        cases hw : guessB l[i]
        · have eV : V = 2 := by rw [← hE, hw]; rfl
          rw [show guessB ⟨l[i].x, l[i].y, l[i].u, l[i].v⟩ = false from hw] at cg
          clear hE hi hw hV
          subst eV
          generalize l[i].x = g1 at *
          generalize l[i].y = g2 at *
          generalize l[i].u = g3 at *
          generalize l[i].v = g4 at *
          go_wp2_with (first | ((first | with_reducible refine wp_region_ext2 (by kernel_rfl) (by kernel_rfl) ?_ | with_reducible refine wp_region_ext (by kernel_rfl) (by kernel_rfl) ?_); (repeat (first | go_big_quiet_step ((first | (go_at_call 46; with_reducible exact Calls.ext (cg _)))) | quiet_step ((first | (go_at_call 46; with_reducible exact Calls.ext (cg _)))))); refine wpQuiet_nil ?_; rintro _ ⟨yr, rfl⟩; have syr := Ext.size yr; (repeat (first | rw [World.size_alloc] at syr | rw [World.size_setCell] at syr | rw [World.size_drew] at syr)); have : B < yr.now.heap.size := (by omega); have : B ≤ yr.now.heap.size := (by omega); have : B < yr.now.heap.size + 1 + 1 := (by omega)) | (go_at_call 46; (first | with_reducible refine (Calls.giv2 (cg _)).mono ?_ | with_reducible refine (Calls.giv (cg _)).mono ?_); rintro _ _ ⟨y1, rfl, rfl⟩; have sy1 := Ext.size y1; (repeat (first | rw [World.size_alloc] at sy1 | rw [World.size_setCell] at sy1 | rw [World.size_drew] at sy1)); have : B < y1.now.heap.size := (by omega); have : B ≤ y1.now.heap.size := (by omega); have : B < y1.now.heap.size + 1 + 1 := (by omega)))
          go_returns
          refine ⟨rfl, ?_⟩
          repeat' (first | (with_reducible exact Below.refl _ _) | (with_reducible assumption) | (with_reducible refine Ext.below _ ?_ ?_) | (with_reducible refine Below.on ?_ (by with_reducible assumption) ?_) | (with_reducible refine Below.alloc ?_ ?_ _) | (with_reducible refine Below.drew ?_) | (with_reducible refine Below.setCell ?_ ?_ _) | (with_reducible exact Nat.le_refl _) | omega | (simp; done) | (simp [go_sem]; done) | (simp at *; omega))
        · have key : Hid (i + 1 ≤ l.length ∧ guessesL (l.drop (i + 1)) = V) := Go.Lib.hid ⟨hlt, by rw [hw] at hE; simpa using hE⟩
          rw [show guessB ⟨l[i].x, l[i].y, l[i].u, l[i].v⟩ = true from hw] at cg
          clear hE hi hw
          generalize l[i].x = g1 at *
          generalize l[i].y = g2 at *
          generalize l[i].u = g3 at *
          generalize l[i].v = g4 at *
          go_wp2_with (first | ((first | with_reducible refine wp_region_ext2 (by kernel_rfl) (by kernel_rfl) ?_ | with_reducible refine wp_region_ext (by kernel_rfl) (by kernel_rfl) ?_); (repeat (first | go_big_quiet_step ((first | (go_at_call 46; with_reducible exact Calls.ext (cg _)))) | quiet_step ((first | (go_at_call 46; with_reducible exact Calls.ext (cg _)))))); refine wpQuiet_nil ?_; rintro _ ⟨yr, rfl⟩; have syr := Ext.size yr; (repeat (first | rw [World.size_alloc] at syr | rw [World.size_setCell] at syr | rw [World.size_drew] at syr)); have : B < yr.now.heap.size := (by omega); have : B ≤ yr.now.heap.size := (by omega); have : B < yr.now.heap.size + 1 + 1 := (by omega)) | (go_at_call 46; (first | with_reducible refine (Calls.giv2 (cg _)).mono ?_ | with_reducible refine (Calls.giv (cg _)).mono ?_); rintro _ _ ⟨y1, rfl, rfl⟩; have sy1 := Ext.size y1; (repeat (first | rw [World.size_alloc] at sy1 | rw [World.size_setCell] at sy1 | rw [World.size_drew] at sy1)); have : B < y1.now.heap.size := (by omega); have : B ≤ y1.now.heap.size := (by omega); have : B < y1.now.heap.size + 1 + 1 := (by omega)))
          refine ⟨⟨i + 1, ⟨_, ?_⟩, by simp, rfl, key⟩, by simp [intOf]; omega⟩
          repeat' (first | (with_reducible exact Below.refl _ _) | (with_reducible assumption) | (with_reducible refine Ext.below _ ?_ ?_) | (with_reducible refine Below.on ?_ (by with_reducible assumption) ?_) | (with_reducible refine Below.alloc ?_ ?_ _) | (with_reducible refine Below.drew ?_) | (with_reducible refine Below.setCell ?_ ?_ _) | (with_reducible exact Nat.le_refl _) | omega | (simp; done) | (simp [go_sem]; done) | (simp at *; omega))
      · have hge : ¬ (i : Int) < l.length := by omega
        have eV : V = 0 := by have hE := hi.out.2; rw [drop_end hlt, guessesL] at hE; exact hE.symm
        clear hi hV
        subst eV
        go_wp2_with (first | ((first | with_reducible refine wp_region_ext2 (by kernel_rfl) (by kernel_rfl) ?_ | with_reducible refine wp_region_ext (by kernel_rfl) (by kernel_rfl) ?_); (repeat (first | go_big_quiet_step ((first | fail)) | quiet_step ((first | fail)))); refine wpQuiet_nil ?_; rintro _ ⟨yr, rfl⟩; have syr := Ext.size yr; (repeat (first | rw [World.size_alloc] at syr | rw [World.size_setCell] at syr | rw [World.size_drew] at syr))))
        go_returns
        refine ⟨rfl, ?_⟩
        repeat' (first | (with_reducible exact Below.refl _ _) | (with_reducible assumption) | (with_reducible refine Ext.below _ ?_ ?_) | (with_reducible refine Below.on ?_ (by with_reducible assumption) ?_) | (with_reducible refine Below.alloc ?_ ?_ _) | (with_reducible refine Below.drew ?_) | (with_reducible refine Below.setCell ?_ ?_ _) | (with_reducible exact Nat.le_refl _) | omega | (simp; done) | (simp [go_sem]; done) | (simp at *; omega))
def SightsAt (W : World) (p : Option Addr) (l : List SightR) : Prop := ∀ j (h : j < l.length), ∃ B o, p = some ⟨B, o, none⟩ ∧ B < W.heap.size ∧ W.cell? ⟨B, o + j * 9, none⟩ = some (.int .i64 l[j].kind) ∧ W.cell? ⟨B, o + j * 9 + 1, none⟩ = some (.int .i64 l[j].st) ∧ W.cell? ⟨B, o + j * 9 + 2, none⟩ = some (.int .i64 l[j].cat) ∧ W.cell? ⟨B, o + j * 9 + 3, none⟩ = some (.int .i64 l[j].tick) ∧ W.cell? ⟨B, o + j * 9 + 4, none⟩ = some (.int .i64 l[j].dir.x) ∧ W.cell? ⟨B, o + j * 9 + 5, none⟩ = some (.int .i64 l[j].dir.y) ∧ W.cell? ⟨B, o + j * 9 + 6, none⟩ = some (.int .i64 l[j].err) ∧ W.cell? ⟨B, o + j * 9 + 7, none⟩ = some (.int .i64 l[j].lo) ∧ W.cell? ⟨B, o + j * 9 + 8, none⟩ = some (.int .i64 l[j].hi)
theorem SightsAt.ext {W : World} {p : Option Addr} {l : List SightR} (h : SightsAt W p l) (x : Ext W) : SightsAt x.now p l := fun j hj => by
  obtain ⟨B, o, rfl, hB, h1, h2, h3, h4, h5, h6, h7, h8, h9⟩ := h j hj
  exact ⟨B, o, rfl, x.lt hB, (x.cell hB).trans h1, (x.cell hB).trans h2, (x.cell hB).trans h3, (x.cell hB).trans h4, (x.cell hB).trans h5, (x.cell hB).trans h6, (x.cell hB).trans h7, (x.cell hB).trans h8, (x.cell hB).trans h9⟩
theorem SightsAt.on {W W' : World} {p : Option Addr} {l : List SightR} (h : SightsAt W p l) (b : Below W.heap.size W W') : SightsAt W' p l := h.ext ⟨W', b⟩
def LookR.cells (k : LookR) : List Value := [.int .i64 k.tick, .int .i64 k.frm.x, .int .i64 k.frm.y, k.says.val]
def lateB (prev : Option Int) (t : Int) : Bool := match prev with
  | some u => decide (t < u)
  | none => false
def looksA (s : SkyR) : List LookR → Option Int → List SightR → Except Int (List LookR)
  | acc, _, [] => .ok acc
  | acc, prev, x :: l => match lookR s x with
    | .error e => .error e
    | .ok k => if lateB prev x.tick then .error 11 else looksA s (acc ++ [k]) (some x.tick) l
def looksR (s : SkyR) (l : List SightR) : Except Int (List LookR) := if cntE l.length 1 64 = 0 then looksA s [] none l else .error (cntE l.length 1 64)
def prevT (l : List SightR) (i : Nat) : Option Int := if i = 0 then none else (l[i - 1]?).map (·.tick)
theorem prevT_succ {l : List SightR} {i : Nat} (h : i < l.length) : prevT l (i + 1) = some l[i].tick := by
  unfold prevT
  rw [if_neg (by omega), Nat.add_sub_cancel, List.getElem?_eq_getElem h]; rfl
def rowsOf (l : List LookR) : List Value := l.flatMap LookR.cells
theorem rowsOf_add (l : List LookR) (k : LookR) : rowsOf (l ++ [k]) = rowsOf l ++ [.int .i64 k.tick, .int .i64 k.frm.x, .int .i64 k.frm.y, k.says.val] := by
  unfold rowsOf; rw [List.flatMap_append]; simp [LookR.cells]
/-- What a list of looks, or an error, is handed back as. -/
def LooksPost (w : World) (r : Except Int (List LookR)) : Ending → World → Prop := fun e w' => Below w.heap.size w w' ∧ match r with
  | .error n => e = .returned (.tuple #[.slice none 0 0, .int .i64 n])
  | .ok ks => ∃ v, e = .returned (.tuple #[v, .int .i64 0]) ∧ w'.ownsRow w.heap.size 103 4 v ks.length (rowsOf ks)
theorem cells4_new (w : World) (v0 v1 v2 v3 : Value) (T : TypeId) : ∀ j u, [v0, v1, v2, v3][j]? = some u → (w.alloc (.cells #[v0, v1, v2, v3] T)).cell? ((⟨w.heap.size, 0, none⟩ : Addr).add j) = some u := by
  intro j u hj
  have hl : j < 4 := by simpa using (List.getElem?_eq_some_iff.1 hj).1
  have hadd : (⟨w.heap.size, 0, none⟩ : Addr).add j = ⟨w.heap.size, j, none⟩ := by unfold Addr.add; split <;> simp_all
  rw [hadd]
  rcases (show j = 0 ∨ j = 1 ∨ j = 2 ∨ j = 3 by omega) with rfl | rfl | rfl | rfl <;> (simp at hj; subst hj; simp [go_sem])
theorem look_info : (Try.prog.info? 103).map (fun i => (i.zero, i.size, i.bytes)) = some (some (.agg #[.int .i64 0, .int .i64 0, .int .i64 0, .nilIface]), 4, 40) := by kernel_rfl
set_option maxRecDepth 100000 in
set_option maxHeartbeats 16000000 in
theorem looksOf_any (s : SkyR) (p : Option Addr) (c : Nat) (l : List SightR) (w : World) (hA : s.At w) (hE : skyE s = 0) (hP : SightsAt w p l) :
    Calls Try.prog 29 #[s.val, .slice p l.length c] w (LooksPost w (looksR s l)) := by
  have cc := fun W => checkCount_any l.length 1 64 W
  unfold looksR
  by_cases hc : cntE l.length 1 64 = 0
  · rw [if_pos hc]
    rw [hc] at cc
    have hn : l.length ≤ 64 := (cntE_zero hc).2
    clear hc
    have cl := fun (W : World) (y : Below w.heap.size w W) (x : SightR) => lookOf_any s x W (hA.on y) hE
    have ce := Go.Lib.hid (fun (x : SightR) e (h : lookR s x = .error e) => lookR_err h)
    obtain ⟨V, hV⟩ : ∃ V, looksA s [] none l = V := ⟨_, rfl⟩
    rw [hV]
    have hV := Go.Lib.hid hV
    have hP := Go.Lib.hid hP
    obtain ⟨i0, hi0, hz0, hz1, hz2⟩ := info_parts look_info
    unfold SkyR.val SightR.val at *
    clear hA hE
    generalize s.cats.length = n1 at *
    generalize s.cp = n2 at *
    generalize s.cc = n3 at *
    generalize s.bodies.length = n4 at *
    generalize s.bp = n5 at *
    generalize s.bc = n6 at *
    generalize s.sts.length = n7 at *
    generalize s.sp = n8 at *
    generalize s.sc = n9 at *
    generalize s.home = n0 at *
    go_enter Try.func29, Try.ntmps29
    go_wp2_with (first | ((first | with_reducible refine wp_region_ext2 (by kernel_rfl) (by kernel_rfl) ?_ | with_reducible refine wp_region_ext (by kernel_rfl) (by kernel_rfl) ?_); (repeat (first | go_big_quiet_step ((first | (go_at_call 52; with_reducible exact Calls.ext (cc _)))) | quiet_step ((first | (go_at_call 52; with_reducible exact Calls.ext (cc _)))))); refine wpQuiet_nil ?_; rintro _ ⟨yr, rfl⟩; have syr := Ext.size yr; (repeat (first | rw [World.size_alloc] at syr | rw [World.size_setCell] at syr | rw [World.size_drew] at syr))) | (go_at_call 52; (first | with_reducible refine (Calls.giv2 (cc _)).mono ?_ | with_reducible refine (Calls.giv (cc _)).mono ?_); rintro _ _ ⟨y1, rfl, rfl⟩; have sy1 := Ext.size y1; (repeat (first | rw [World.size_alloc] at sy1 | rw [World.size_setCell] at sy1 | rw [World.size_drew] at sy1))))
    refine wp_named (fun W0 hW => ?_)
    have hBw : Below w.heap.size w W0 := by rw [← hW]; repeat' (first | (with_reducible exact Below.refl _ _) | (with_reducible assumption) | (with_reducible refine Ext.below _ ?_ ?_) | (with_reducible refine Below.on ?_ (by with_reducible assumption) ?_) | (with_reducible refine Below.alloc ?_ ?_ _) | (with_reducible refine Below.drew ?_) | (with_reducible refine Below.setCell ?_ ?_ _) | (with_reducible exact Nat.le_refl _) | omega | (simp; done) | (simp [go_sem]; done) | (simp at *; omega))
    have hs0 : w.heap.size < W0.heap.size := by rw [← hW]; omega
    have c0 : W0.cell? ⟨w.heap.size, 0, none⟩ = some (.slice n5 n4 n6) := by rw [← hW]; simp [go_sem]
    have c1 : W0.cell? ⟨w.heap.size, 1, none⟩ = some (.int .i64 n0) := by rw [← hW]; simp [go_sem]
    have c2 : W0.cell? ⟨w.heap.size, 2, none⟩ = some (.slice n8 n7 n9) := by rw [← hW]; simp [go_sem]
    have c3 : W0.cell? ⟨w.heap.size, 3, none⟩ = some (.slice n2 n1 n3) := by rw [← hW]; simp [go_sem]
    have hP := Go.Lib.hid (hP.out.on hBw)
    clear hW sy1
    clear y1
    go_loopw [7, 20] (fun v t W => ∃ (i : Nat) (x : Ext W0) (acc : List LookR), t = .int .i64 i ∧ W = x.now ∧ x.now.ownsRow W0.heap.size 103 4 v i (rowsOf acc) ∧ Hid (i ≤ l.length ∧ acc.length = i ∧ looksA s acc (prevT l i) (l.drop i) = V)) (fun _ t _ => l.length - (intOf t).toNat)
    case atStart => exact ⟨0, ⟨W0, Below.refl _ _⟩, [], rfl, rfl, World.ownsRow_nil _ _ _ _, Go.Lib.hid ⟨Nat.zero_le _, rfl, by simpa [prevT] using hV.out⟩⟩
    case round =>
      obtain ⟨i, x, acc, rfl, rfl, hown, hi⟩ := hrel
      have xs := x.size
      have hbx := x.below hBw (by omega)
      have hsw : w.heap.size < x.now.heap.size := by omega
      by_cases hlt : i < l.length
      · have hlt2 : (i : Int) < l.length := by omega
        obtain ⟨B, o, rfl, hB, q1, q2, q3, q4, q5, q6, q7, q8, q9⟩ := hP.out i hlt
        have hE := hi.out.2.2
        rw [drop_at hlt, looksA] at hE
        have cl := fun W y => cl W y l[i]
        have : B < (x.now).heap.size := (by omega); have : B < (x.now).heap.size + 1 := (by omega); have : B < (x.now).heap.size + 1 + 1 := (by omega); have : B ≠ (x.now).heap.size := (by omega); have : B ≠ (x.now).heap.size + 1 := (by omega)
        have : w.heap.size < (x.now).heap.size := (by omega); have : w.heap.size < (x.now).heap.size + 1 := (by omega); have : w.heap.size < (x.now).heap.size + 1 + 1 := (by omega); have : w.heap.size ≠ (x.now).heap.size := (by omega); have : w.heap.size ≠ (x.now).heap.size + 1 := (by omega)
        have hil : acc.length = i := hi.out.2.1
        cases hr : lookR s l[i] with
        | error e =>
          rw [hr] at hE cl
          have e0 := ce.out _ _ hr
          clear hr hi hV
          simp only at hE
          subst hE
          simp only [lookRes] at cl
          generalize l[i].kind = g1 at *
          generalize l[i].st = g2 at *
          generalize l[i].cat = g3 at *
          generalize l[i].tick = g4 at *
          generalize l[i].dir.x = g5 at *
          generalize l[i].dir.y = g6 at *
          generalize l[i].err = g7 at *
          generalize l[i].lo = g8 at *
          generalize l[i].hi = g9 at *
          go_wp2_with (first | ((first | with_reducible refine wp_region_ext2 (by kernel_rfl) (by kernel_rfl) ?_ | with_reducible refine wp_region_ext (by kernel_rfl) (by kernel_rfl) ?_); (repeat (first | go_big_quiet_step ((first | (go_at_call 53; with_reducible exact Calls.ext (cl _ (by repeat' (first | (with_reducible exact Below.refl _ _) | (with_reducible assumption) | (with_reducible refine Ext.below _ ?_ ?_) | (with_reducible refine Below.on ?_ (by with_reducible assumption) ?_) | (with_reducible refine Below.alloc ?_ ?_ _) | (with_reducible refine Below.drew ?_) | (with_reducible refine Below.setCell ?_ ?_ _) | (with_reducible exact Nat.le_refl _) | omega | (simp; done) | (simp [go_sem]; done) | (simp at *; omega))))))) | quiet_step ((first | (go_at_call 53; with_reducible exact Calls.ext (cl _ (by repeat' (first | (with_reducible exact Below.refl _ _) | (with_reducible assumption) | (with_reducible refine Ext.below _ ?_ ?_) | (with_reducible refine Below.on ?_ (by with_reducible assumption) ?_) | (with_reducible refine Below.alloc ?_ ?_ _) | (with_reducible refine Below.drew ?_) | (with_reducible refine Below.setCell ?_ ?_ _) | (with_reducible exact Nat.le_refl _) | omega | (simp; done) | (simp [go_sem]; done) | (simp at *; omega))))))))); refine wpQuiet_nil ?_; rintro _ ⟨yr, rfl⟩; have syr := Ext.size yr; (repeat (first | rw [World.size_alloc] at syr | rw [World.size_setCell] at syr | rw [World.size_drew] at syr)); have : B < yr.now.heap.size := (by omega); have : B ≤ yr.now.heap.size := (by omega); have : B < yr.now.heap.size + 1 + 1 := (by omega); have : w.heap.size < yr.now.heap.size := (by omega); have : w.heap.size ≤ yr.now.heap.size := (by omega); have : w.heap.size < yr.now.heap.size + 1 + 1 := (by omega)) | (go_at_call 53; (first | with_reducible refine (Calls.giv2 (cl _ (by repeat' (first | (with_reducible exact Below.refl _ _) | (with_reducible assumption) | (with_reducible refine Ext.below _ ?_ ?_) | (with_reducible refine Below.on ?_ (by with_reducible assumption) ?_) | (with_reducible refine Below.alloc ?_ ?_ _) | (with_reducible refine Below.drew ?_) | (with_reducible refine Below.setCell ?_ ?_ _) | (with_reducible exact Nat.le_refl _) | omega | (simp; done) | (simp [go_sem]; done) | (simp at *; omega))))).mono ?_ | with_reducible refine (Calls.giv (cl _ (by repeat' (first | (with_reducible exact Below.refl _ _) | (with_reducible assumption) | (with_reducible refine Ext.below _ ?_ ?_) | (with_reducible refine Below.on ?_ (by with_reducible assumption) ?_) | (with_reducible refine Below.alloc ?_ ?_ _) | (with_reducible refine Below.drew ?_) | (with_reducible refine Below.setCell ?_ ?_ _) | (with_reducible exact Nat.le_refl _) | omega | (simp; done) | (simp [go_sem]; done) | (simp at *; omega))))).mono ?_); rintro _ _ ⟨y1, rfl, rfl⟩; have sy1 := Ext.size y1; (repeat (first | rw [World.size_alloc] at sy1 | rw [World.size_setCell] at sy1 | rw [World.size_drew] at sy1)); have : B < y1.now.heap.size := (by omega); have : B ≤ y1.now.heap.size := (by omega); have : B < y1.now.heap.size + 1 + 1 := (by omega); have : w.heap.size < y1.now.heap.size := (by omega); have : w.heap.size ≤ y1.now.heap.size := (by omega); have : w.heap.size < y1.now.heap.size + 1 + 1 := (by omega)))
          go_returns
          refine ⟨?_, rfl⟩
          repeat' (first | (with_reducible exact Below.refl _ _) | (with_reducible assumption) | (with_reducible refine Ext.below _ ?_ ?_) | (with_reducible refine Below.on ?_ (by with_reducible assumption) ?_) | (with_reducible refine Below.alloc ?_ ?_ _) | (with_reducible refine Below.drew ?_) | (with_reducible refine Below.setCell ?_ ?_ _) | (with_reducible exact Nat.le_refl _) | omega | (simp; done) | (simp [go_sem]; done) | (simp at *; omega))
        | ok k =>
          rw [hr] at hE cl
          simp only at hE
          obtain ⟨k1, ⟨k2, k3⟩, k4⟩ := k
          have hadd := Go.Lib.hid (rowsOf_add acc ⟨k1, ⟨k2, k3⟩, k4⟩)
          simp only [lookRes] at cl
          obtain ⟨gt, gv, hg⟩ := val_iface k4
          rw [hg] at hadd
          simp only [hg] at cl
          clear hr hg
          rcases Nat.eq_zero_or_pos i with h0 | h0
          · have key : Hid (i + 1 ≤ l.length ∧ (acc ++ [(⟨k1, ⟨k2, k3⟩, k4⟩ : LookR)]).length = i + 1 ∧ looksA s (acc ++ [⟨k1, ⟨k2, k3⟩, k4⟩]) (prevT l (i + 1)) (l.drop (i + 1)) = V) := Go.Lib.hid ⟨hlt, by simp [hil], by
              rw [prevT_succ hlt]
              rw [show prevT l i = none by unfold prevT; rw [if_pos h0]] at hE
              simpa [lateB] using hE⟩
            have hp0 : ¬ (0 : Int) < i := by omega
            have hp1 : ¬ 0 < i := by omega
            clear hE hi hV hil h0
            generalize l[i].kind = g1 at *
            generalize l[i].st = g2 at *
            generalize l[i].cat = g3 at *
            generalize l[i].tick = g4 at *
            generalize l[i].dir.x = g5 at *
            generalize l[i].dir.y = g6 at *
            generalize l[i].err = g7 at *
            generalize l[i].lo = g8 at *
            generalize l[i].hi = g9 at *
            go_wp2_with (first | ((first | with_reducible refine wp_region_ext2 (by kernel_rfl) (by kernel_rfl) ?_ | with_reducible refine wp_region_ext (by kernel_rfl) (by kernel_rfl) ?_); (repeat (first | go_big_quiet_step ((first | (go_at_call 53; with_reducible exact Calls.ext (cl _ (by repeat' (first | (with_reducible exact Below.refl _ _) | (with_reducible assumption) | (with_reducible refine Ext.below _ ?_ ?_) | (with_reducible refine Below.on ?_ (by with_reducible assumption) ?_) | (with_reducible refine Below.alloc ?_ ?_ _) | (with_reducible refine Below.drew ?_) | (with_reducible refine Below.setCell ?_ ?_ _) | (with_reducible exact Nat.le_refl _) | omega | (simp; done) | (simp [go_sem]; done) | (simp at *; omega))))))) | quiet_step ((first | (go_at_call 53; with_reducible exact Calls.ext (cl _ (by repeat' (first | (with_reducible exact Below.refl _ _) | (with_reducible assumption) | (with_reducible refine Ext.below _ ?_ ?_) | (with_reducible refine Below.on ?_ (by with_reducible assumption) ?_) | (with_reducible refine Below.alloc ?_ ?_ _) | (with_reducible refine Below.drew ?_) | (with_reducible refine Below.setCell ?_ ?_ _) | (with_reducible exact Nat.le_refl _) | omega | (simp; done) | (simp [go_sem]; done) | (simp at *; omega))))))))); refine wpQuiet_nil ?_; rintro _ ⟨yr, rfl⟩; have syr := Ext.size yr; (repeat (first | rw [World.size_alloc] at syr | rw [World.size_setCell] at syr | rw [World.size_drew] at syr)); have : B < yr.now.heap.size := (by omega); have : B ≤ yr.now.heap.size := (by omega); have : B < yr.now.heap.size + 1 + 1 := (by omega); have : w.heap.size < yr.now.heap.size := (by omega); have : w.heap.size ≤ yr.now.heap.size := (by omega); have : w.heap.size < yr.now.heap.size + 1 + 1 := (by omega)) | (go_at_call 53; (first | with_reducible refine (Calls.giv2 (cl _ (by repeat' (first | (with_reducible exact Below.refl _ _) | (with_reducible assumption) | (with_reducible refine Ext.below _ ?_ ?_) | (with_reducible refine Below.on ?_ (by with_reducible assumption) ?_) | (with_reducible refine Below.alloc ?_ ?_ _) | (with_reducible refine Below.drew ?_) | (with_reducible refine Below.setCell ?_ ?_ _) | (with_reducible exact Nat.le_refl _) | omega | (simp; done) | (simp [go_sem]; done) | (simp at *; omega))))).mono ?_ | with_reducible refine (Calls.giv (cl _ (by repeat' (first | (with_reducible exact Below.refl _ _) | (with_reducible assumption) | (with_reducible refine Ext.below _ ?_ ?_) | (with_reducible refine Below.on ?_ (by with_reducible assumption) ?_) | (with_reducible refine Below.alloc ?_ ?_ _) | (with_reducible refine Below.drew ?_) | (with_reducible refine Below.setCell ?_ ?_ _) | (with_reducible exact Nat.le_refl _) | omega | (simp; done) | (simp [go_sem]; done) | (simp at *; omega))))).mono ?_); rintro _ _ ⟨y1, rfl, rfl⟩; have sy1 := Ext.size y1; (repeat (first | rw [World.size_alloc] at sy1 | rw [World.size_setCell] at sy1 | rw [World.size_drew] at sy1)); have : B < y1.now.heap.size := (by omega); have : B ≤ y1.now.heap.size := (by omega); have : B < y1.now.heap.size + 1 + 1 := (by omega); have : w.heap.size < y1.now.heap.size := (by omega); have : w.heap.size ≤ y1.now.heap.size := (by omega); have : w.heap.size < y1.now.heap.size + 1 + 1 := (by omega)) | (at_builtin; refine wpList_append_own _ rfl _ _ 68 rfl W0.heap.size 103 i0 _ 4 40 Try.underlying68 hi0 hz0 hz1 hz2 rfl (by decide) _ i (rowsOf acc) rfl (by repeat (first | exact hown | (with_reducible refine World.ownsRow.alloc ?_ _) | (with_reducible refine World.ownsRow.drew ?_) | (with_reducible refine owns_ext ?_ _))) _ 1 1 _ rfl rfl (cells4_new _ _ _ _ _ _) (by intro u hu; simp only [List.mem_cons, List.not_mem_nil, or_false] at hu; rcases hu with rfl | rfl | rfl | rfl <;> rfl) (by unfold maxLen; omega) (by omega) (by (try simp only [World.size_alloc]); omega) ?_; intro v' W2 hown' hgrow _; have hbel : Below W0.heap.size W0 W2 := (by refine below_grown (e := 103) (size := 4) (n := i) (xs := rowsOf acc) ?_ (by repeat (first | exact hown | (with_reducible refine World.ownsRow.alloc ?_ _) | (with_reducible refine World.ownsRow.drew ?_) | (with_reducible refine owns_ext ?_ _))) (Nat.le_refl _) (by (try simp only [World.size_alloc]); omega) hgrow; repeat' (first | (with_reducible exact Below.refl _ _) | (with_reducible assumption) | (with_reducible refine Ext.below _ ?_ ?_) | (with_reducible refine Below.on ?_ (by with_reducible assumption) ?_) | (with_reducible refine Below.alloc ?_ ?_ _) | (with_reducible refine Below.drew ?_) | (with_reducible refine Below.setCell ?_ ?_ _) | (with_reducible exact Nat.le_refl _) | omega | (simp; done) | (simp [go_sem]; done) | (simp at *; omega)))))
            refine ⟨⟨i + 1, ⟨_, hbel⟩, acc ++ [⟨k1, ⟨k2, k3⟩, k4⟩], by simp, rfl, by rw [hadd.out]; exact hown', key⟩, by simp [intOf]; omega⟩
          · have hp0 : (0 : Int) < i := by omega
            obtain ⟨j, hj⟩ : ∃ j, i = j + 1 := ⟨i - 1, by omega⟩
            have hjl : j < l.length := by omega
            obtain ⟨B', o', e', -, -, -, -, r4, -, -, -, -, -⟩ := hP.out j hjl
            cases e'
            have hpt : prevT l i = some l[j].tick := by subst hj; exact prevT_succ hjl
            rw [hpt] at hE
            clear hpt
            have hji : (i : Int) - 1 = j := by omega
            have hjl2 : (j : Int) < l.length := by omega
            by_cases ht : l[i].tick < l[j].tick
            · rw [if_pos (by simpa [lateB] using ht)] at hE
              clear hi hV hj hil
              subst hE
              generalize l[j].tick = g0 at *
              generalize l[i].kind = g1 at *
              generalize l[i].st = g2 at *
              generalize l[i].cat = g3 at *
              generalize l[i].tick = g4 at *
              generalize l[i].dir.x = g5 at *
              generalize l[i].dir.y = g6 at *
              generalize l[i].err = g7 at *
              generalize l[i].lo = g8 at *
              generalize l[i].hi = g9 at *
              go_wp2_with (first | ((first | with_reducible refine wp_region_ext2 (by kernel_rfl) (by kernel_rfl) ?_ | with_reducible refine wp_region_ext (by kernel_rfl) (by kernel_rfl) ?_); (repeat (first | go_big_quiet_step ((first | (go_at_call 53; with_reducible exact Calls.ext (cl _ (by repeat' (first | (with_reducible exact Below.refl _ _) | (with_reducible assumption) | (with_reducible refine Ext.below _ ?_ ?_) | (with_reducible refine Below.on ?_ (by with_reducible assumption) ?_) | (with_reducible refine Below.alloc ?_ ?_ _) | (with_reducible refine Below.drew ?_) | (with_reducible refine Below.setCell ?_ ?_ _) | (with_reducible exact Nat.le_refl _) | omega | (simp; done) | (simp [go_sem]; done) | (simp at *; omega))))))) | quiet_step ((first | (go_at_call 53; with_reducible exact Calls.ext (cl _ (by repeat' (first | (with_reducible exact Below.refl _ _) | (with_reducible assumption) | (with_reducible refine Ext.below _ ?_ ?_) | (with_reducible refine Below.on ?_ (by with_reducible assumption) ?_) | (with_reducible refine Below.alloc ?_ ?_ _) | (with_reducible refine Below.drew ?_) | (with_reducible refine Below.setCell ?_ ?_ _) | (with_reducible exact Nat.le_refl _) | omega | (simp; done) | (simp [go_sem]; done) | (simp at *; omega))))))))); refine wpQuiet_nil ?_; rintro _ ⟨yr, rfl⟩; have syr := Ext.size yr; (repeat (first | rw [World.size_alloc] at syr | rw [World.size_setCell] at syr | rw [World.size_drew] at syr)); have : B < yr.now.heap.size := (by omega); have : B ≤ yr.now.heap.size := (by omega); have : B < yr.now.heap.size + 1 + 1 := (by omega); have : w.heap.size < yr.now.heap.size := (by omega); have : w.heap.size ≤ yr.now.heap.size := (by omega); have : w.heap.size < yr.now.heap.size + 1 + 1 := (by omega)) | (go_at_call 53; (first | with_reducible refine (Calls.giv2 (cl _ (by repeat' (first | (with_reducible exact Below.refl _ _) | (with_reducible assumption) | (with_reducible refine Ext.below _ ?_ ?_) | (with_reducible refine Below.on ?_ (by with_reducible assumption) ?_) | (with_reducible refine Below.alloc ?_ ?_ _) | (with_reducible refine Below.drew ?_) | (with_reducible refine Below.setCell ?_ ?_ _) | (with_reducible exact Nat.le_refl _) | omega | (simp; done) | (simp [go_sem]; done) | (simp at *; omega))))).mono ?_ | with_reducible refine (Calls.giv (cl _ (by repeat' (first | (with_reducible exact Below.refl _ _) | (with_reducible assumption) | (with_reducible refine Ext.below _ ?_ ?_) | (with_reducible refine Below.on ?_ (by with_reducible assumption) ?_) | (with_reducible refine Below.alloc ?_ ?_ _) | (with_reducible refine Below.drew ?_) | (with_reducible refine Below.setCell ?_ ?_ _) | (with_reducible exact Nat.le_refl _) | omega | (simp; done) | (simp [go_sem]; done) | (simp at *; omega))))).mono ?_); rintro _ _ ⟨y1, rfl, rfl⟩; have sy1 := Ext.size y1; (repeat (first | rw [World.size_alloc] at sy1 | rw [World.size_setCell] at sy1 | rw [World.size_drew] at sy1)); have : B < y1.now.heap.size := (by omega); have : B ≤ y1.now.heap.size := (by omega); have : B < y1.now.heap.size + 1 + 1 := (by omega); have : w.heap.size < y1.now.heap.size := (by omega); have : w.heap.size ≤ y1.now.heap.size := (by omega); have : w.heap.size < y1.now.heap.size + 1 + 1 := (by omega)))
              go_returns
              refine ⟨?_, rfl⟩
              repeat' (first | (with_reducible exact Below.refl _ _) | (with_reducible assumption) | (with_reducible refine Ext.below _ ?_ ?_) | (with_reducible refine Below.on ?_ (by with_reducible assumption) ?_) | (with_reducible refine Below.alloc ?_ ?_ _) | (with_reducible refine Below.drew ?_) | (with_reducible refine Below.setCell ?_ ?_ _) | (with_reducible exact Nat.le_refl _) | omega | (simp; done) | (simp [go_sem]; done) | (simp at *; omega))
            · have key : Hid (i + 1 ≤ l.length ∧ (acc ++ [(⟨k1, ⟨k2, k3⟩, k4⟩ : LookR)]).length = i + 1 ∧ looksA s (acc ++ [⟨k1, ⟨k2, k3⟩, k4⟩]) (prevT l (i + 1)) (l.drop (i + 1)) = V) := Go.Lib.hid ⟨hlt, by simp [hil], by
              rw [prevT_succ hlt]
              rw [if_neg (by simpa [lateB] using ht)] at hE
              exact hE⟩
              clear hE hi hV hil hj
              generalize l[j].tick = g0 at *
              generalize l[i].kind = g1 at *
              generalize l[i].st = g2 at *
              generalize l[i].cat = g3 at *
              generalize l[i].tick = g4 at *
              generalize l[i].dir.x = g5 at *
              generalize l[i].dir.y = g6 at *
              generalize l[i].err = g7 at *
              generalize l[i].lo = g8 at *
              generalize l[i].hi = g9 at *
              go_wp2_with (first | ((first | with_reducible refine wp_region_ext2 (by kernel_rfl) (by kernel_rfl) ?_ | with_reducible refine wp_region_ext (by kernel_rfl) (by kernel_rfl) ?_); (repeat (first | go_big_quiet_step ((first | (go_at_call 53; with_reducible exact Calls.ext (cl _ (by repeat' (first | (with_reducible exact Below.refl _ _) | (with_reducible assumption) | (with_reducible refine Ext.below _ ?_ ?_) | (with_reducible refine Below.on ?_ (by with_reducible assumption) ?_) | (with_reducible refine Below.alloc ?_ ?_ _) | (with_reducible refine Below.drew ?_) | (with_reducible refine Below.setCell ?_ ?_ _) | (with_reducible exact Nat.le_refl _) | omega | (simp; done) | (simp [go_sem]; done) | (simp at *; omega))))))) | quiet_step ((first | (go_at_call 53; with_reducible exact Calls.ext (cl _ (by repeat' (first | (with_reducible exact Below.refl _ _) | (with_reducible assumption) | (with_reducible refine Ext.below _ ?_ ?_) | (with_reducible refine Below.on ?_ (by with_reducible assumption) ?_) | (with_reducible refine Below.alloc ?_ ?_ _) | (with_reducible refine Below.drew ?_) | (with_reducible refine Below.setCell ?_ ?_ _) | (with_reducible exact Nat.le_refl _) | omega | (simp; done) | (simp [go_sem]; done) | (simp at *; omega))))))))); refine wpQuiet_nil ?_; rintro _ ⟨yr, rfl⟩; have syr := Ext.size yr; (repeat (first | rw [World.size_alloc] at syr | rw [World.size_setCell] at syr | rw [World.size_drew] at syr)); have : B < yr.now.heap.size := (by omega); have : B ≤ yr.now.heap.size := (by omega); have : B < yr.now.heap.size + 1 + 1 := (by omega); have : w.heap.size < yr.now.heap.size := (by omega); have : w.heap.size ≤ yr.now.heap.size := (by omega); have : w.heap.size < yr.now.heap.size + 1 + 1 := (by omega)) | (go_at_call 53; (first | with_reducible refine (Calls.giv2 (cl _ (by repeat' (first | (with_reducible exact Below.refl _ _) | (with_reducible assumption) | (with_reducible refine Ext.below _ ?_ ?_) | (with_reducible refine Below.on ?_ (by with_reducible assumption) ?_) | (with_reducible refine Below.alloc ?_ ?_ _) | (with_reducible refine Below.drew ?_) | (with_reducible refine Below.setCell ?_ ?_ _) | (with_reducible exact Nat.le_refl _) | omega | (simp; done) | (simp [go_sem]; done) | (simp at *; omega))))).mono ?_ | with_reducible refine (Calls.giv (cl _ (by repeat' (first | (with_reducible exact Below.refl _ _) | (with_reducible assumption) | (with_reducible refine Ext.below _ ?_ ?_) | (with_reducible refine Below.on ?_ (by with_reducible assumption) ?_) | (with_reducible refine Below.alloc ?_ ?_ _) | (with_reducible refine Below.drew ?_) | (with_reducible refine Below.setCell ?_ ?_ _) | (with_reducible exact Nat.le_refl _) | omega | (simp; done) | (simp [go_sem]; done) | (simp at *; omega))))).mono ?_); rintro _ _ ⟨y1, rfl, rfl⟩; have sy1 := Ext.size y1; (repeat (first | rw [World.size_alloc] at sy1 | rw [World.size_setCell] at sy1 | rw [World.size_drew] at sy1)); have : B < y1.now.heap.size := (by omega); have : B ≤ y1.now.heap.size := (by omega); have : B < y1.now.heap.size + 1 + 1 := (by omega); have : w.heap.size < y1.now.heap.size := (by omega); have : w.heap.size ≤ y1.now.heap.size := (by omega); have : w.heap.size < y1.now.heap.size + 1 + 1 := (by omega)) | (at_builtin; refine wpList_append_own _ rfl _ _ 68 rfl W0.heap.size 103 i0 _ 4 40 Try.underlying68 hi0 hz0 hz1 hz2 rfl (by decide) _ i (rowsOf acc) rfl (by repeat (first | exact hown | (with_reducible refine World.ownsRow.alloc ?_ _) | (with_reducible refine World.ownsRow.drew ?_) | (with_reducible refine owns_ext ?_ _))) _ 1 1 _ rfl rfl (cells4_new _ _ _ _ _ _) (by intro u hu; simp only [List.mem_cons, List.not_mem_nil, or_false] at hu; rcases hu with rfl | rfl | rfl | rfl <;> rfl) (by unfold maxLen; omega) (by omega) (by (try simp only [World.size_alloc]); omega) ?_; intro v' W2 hown' hgrow _; have hbel : Below W0.heap.size W0 W2 := (by refine below_grown (e := 103) (size := 4) (n := i) (xs := rowsOf acc) ?_ (by repeat (first | exact hown | (with_reducible refine World.ownsRow.alloc ?_ _) | (with_reducible refine World.ownsRow.drew ?_) | (with_reducible refine owns_ext ?_ _))) (Nat.le_refl _) (by (try simp only [World.size_alloc]); omega) hgrow; repeat' (first | (with_reducible exact Below.refl _ _) | (with_reducible assumption) | (with_reducible refine Ext.below _ ?_ ?_) | (with_reducible refine Below.on ?_ (by with_reducible assumption) ?_) | (with_reducible refine Below.alloc ?_ ?_ _) | (with_reducible refine Below.drew ?_) | (with_reducible refine Below.setCell ?_ ?_ _) | (with_reducible exact Nat.le_refl _) | omega | (simp; done) | (simp [go_sem]; done) | (simp at *; omega)))))
              refine ⟨⟨i + 1, ⟨_, hbel⟩, acc ++ [⟨k1, ⟨k2, k3⟩, k4⟩], by simp, rfl, by rw [hadd.out]; exact hown', key⟩, by simp [intOf]; omega⟩
      · have hge : ¬ (i : Int) < l.length := by omega
        have hE := hi.out.2.2
        rw [drop_end hlt, looksA] at hE
        have hil : acc.length = i := hi.out.2.1
        clear hi hV
        subst hE
        go_wp2_with (first | ((first | with_reducible refine wp_region_ext2 (by kernel_rfl) (by kernel_rfl) ?_ | with_reducible refine wp_region_ext (by kernel_rfl) (by kernel_rfl) ?_); (repeat (first | go_big_quiet_step ((first | fail)) | quiet_step ((first | fail)))); refine wpQuiet_nil ?_; rintro _ ⟨yr, rfl⟩; have syr := Ext.size yr; (repeat (first | rw [World.size_alloc] at syr | rw [World.size_setCell] at syr | rw [World.size_drew] at syr))))
        go_returns
        refine ⟨?_, _, rfl, ?_⟩
        · repeat' (first | (with_reducible exact Below.refl _ _) | (with_reducible assumption) | (with_reducible refine Ext.below _ ?_ ?_) | (with_reducible refine Below.on ?_ (by with_reducible assumption) ?_) | (with_reducible refine Below.alloc ?_ ?_ _) | (with_reducible refine Below.drew ?_) | (with_reducible refine Below.setCell ?_ ?_ _) | (with_reducible exact Nat.le_refl _) | omega | (simp; done) | (simp [go_sem]; done) | (simp at *; omega))
        · rw [hil]; exact owns_base hown (by omega)
  · rw [if_neg hc]
    clear hA hE hP
    unfold SkyR.val
    generalize cntE l.length 1 64 = e at *
    go_enter Try.func29, Try.ntmps29
    go_wp2_with (first | ((first | with_reducible refine wp_region_ext2 (by kernel_rfl) (by kernel_rfl) ?_ | with_reducible refine wp_region_ext (by kernel_rfl) (by kernel_rfl) ?_); (repeat (first | go_big_quiet_step ((first | (go_at_call 52; with_reducible exact Calls.ext (cc _)))) | quiet_step ((first | (go_at_call 52; with_reducible exact Calls.ext (cc _)))))); refine wpQuiet_nil ?_; rintro _ ⟨yr, rfl⟩; have syr := Ext.size yr; (repeat (first | rw [World.size_alloc] at syr | rw [World.size_setCell] at syr | rw [World.size_drew] at syr))) | (go_at_call 52; (first | with_reducible refine (Calls.giv2 (cc _)).mono ?_ | with_reducible refine (Calls.giv (cc _)).mono ?_); rintro _ _ ⟨y1, rfl, rfl⟩; have sy1 := Ext.size y1; (repeat (first | rw [World.size_alloc] at sy1 | rw [World.size_setCell] at sy1 | rw [World.size_drew] at sy1))))
    go_returns
    refine ⟨?_, rfl⟩
    repeat' (first | (with_reducible exact Below.refl _ _) | (with_reducible assumption) | (with_reducible refine Ext.below _ ?_ ?_) | (with_reducible refine Below.on ?_ (by with_reducible assumption) ?_) | (with_reducible refine Below.alloc ?_ ?_ _) | (with_reducible refine Below.drew ?_) | (with_reducible refine Below.setCell ?_ ?_ _) | (with_reducible exact Nat.le_refl _) | omega | (simp; done) | (simp [go_sem]; done) | (simp at *; omega))
def LooksAt (W : World) (p : Option Addr) (l : List LookR) : Prop := ∀ j (h : j < l.length), ∃ B o, p = some ⟨B, o, none⟩ ∧ B < W.heap.size ∧ W.cell? ⟨B, o + j * 4, none⟩ = some (.int .i64 l[j].tick) ∧ W.cell? ⟨B, o + j * 4 + 1, none⟩ = some (.int .i64 l[j].frm.x) ∧ W.cell? ⟨B, o + j * 4 + 2, none⟩ = some (.int .i64 l[j].frm.y) ∧ W.cell? ⟨B, o + j * 4 + 3, none⟩ = some l[j].says.val
theorem LooksAt.ext {W : World} {p : Option Addr} {l : List LookR} (h : LooksAt W p l) (x : Ext W) : LooksAt x.now p l := fun j hj => by
  obtain ⟨B, o, rfl, hB, h1, h2, h3, h4⟩ := h j hj
  exact ⟨B, o, rfl, x.lt hB, (x.cell hB).trans h1, (x.cell hB).trans h2, (x.cell hB).trans h3, (x.cell hB).trans h4⟩
theorem LooksAt.on {W W' : World} {p : Option Addr} {l : List LookR} (h : LooksAt W p l) (b : Below W.heap.size W W') : LooksAt W' p l := h.ext ⟨W', b⟩
theorem rowsOf_get (l : List LookR) : ∀ j (h : j < l.length) i u, (LookR.cells l[j])[i]? = some u → (rowsOf l)[j * 4 + i]? = some u := by
  induction l with
  | nil => intro j h; simp at h
  | cons k l ih =>
    intro j h i u hu
    have hi : i < 4 := by simpa [LookR.cells] using (List.getElem?_eq_some_iff.1 hu).1
    have hr : rowsOf (k :: l) = LookR.cells k ++ rowsOf l := by unfold rowsOf; rw [List.flatMap_cons]
    rw [hr]
    cases j with
    | zero => rw [Nat.zero_mul, Nat.zero_add, List.getElem?_append_left (by simp [LookR.cells]; omega)]; exact hu
    | succ j =>
      rw [List.getElem?_append_right (by simp [LookR.cells]; omega)]
      have := ih j (by simpa using h) i u (by simpa using hu)
      rw [← this]
      congr 1
      simp [LookR.cells]; omega
theorem owns_looks {w : World} {base : Nat} {v : Value} {l : List LookR} (h : w.ownsRow base 103 4 v l.length (rowsOf l)) : ∃ p c, v = .slice p l.length c ∧ LooksAt w p l := by
  rcases owns_slice h with ⟨rfl, h0⟩ | ⟨g, cap, rfl, -, hg, hc⟩
  · exact ⟨none, 0, by rw [h0], fun j hj => by omega⟩
  · refine ⟨_, _, rfl, fun j hj => ⟨g, 0, rfl, hg, ?_, ?_, ?_, ?_⟩⟩
    · rw [Nat.zero_add]; exact hc _ _ (rowsOf_get l j hj 0 _ rfl)
    · rw [Nat.zero_add]; exact hc _ _ (rowsOf_get l j hj 1 _ rfl)
    · rw [Nat.zero_add]; exact hc _ _ (rowsOf_get l j hj 2 _ rfl)
    · rw [Nat.zero_add]; exact hc _ _ (rowsOf_get l j hj 3 _ rfl)
/-- A look of a valid sight. -/
def LookR.Fit (k : LookR) : Prop := k.Ok ∧ tickB k.tick = true
theorem lookR_fit {s : SkyR} {x : SightR} {k : LookR} (hE : skyE s = 0) (h : lookR s x = .ok k) : k.Fit := by
  refine ⟨lookR_ok hE h, ?_⟩
  unfold lookR at h
  split at h
  · cases h
  split at h
  · cases h
  rename_i ht
  split at h
  · cases h
  cases hg : wordR s.cats x with
  | error e => rw [hg] at h; cases h
  | ok g => rw [hg] at h; injection h with h; rw [← h]; simpa using ht
def missB (g : StateR) (t : Int) (k : LookR) : Bool := !(k.agrees (strV g (k.tick - t)))
def missA (g : StateR) (t : Int) : List Int → Nat → List LookR → List Int
  | acc, _, [] => acc
  | acc, i, k :: l => missA g t (if missB g t k then acc ++ [(i : Int)] else acc) (i + 1) l
def missL (g : StateR) (t : Int) (l : List LookR) : List Int := missA g t [] 0 l
def intsOf (l : List Int) : List Value := l.map (Value.int .i64)
theorem intsOf_add (l : List Int) (i : Int) : intsOf (l ++ [i]) = intsOf l ++ [.int .i64 i] := by unfold intsOf; simp
/-- A list of numbers that is handed back. -/
def IntsPost (w : World) (l : List Int) : Ending → World → Prop := fun e w' => Below w.heap.size w w' ∧ ∃ v, e = .returned v ∧ w'.ownsRow w.heap.size 3 1 v l.length (intsOf l)
theorem cells1_new (w : World) (v0 : Value) (T : TypeId) : ∀ j u, [v0][j]? = some u → (w.alloc (.cells #[v0] T)).cell? ((⟨w.heap.size, 0, none⟩ : Addr).add j) = some u := by
  intro j u hj
  have hl : j < 1 := by simpa using (List.getElem?_eq_some_iff.1 hj).1
  obtain rfl : j = 0 := by omega
  have hadd : (⟨w.heap.size, 0, none⟩ : Addr).add 0 = ⟨w.heap.size, 0, none⟩ := by unfold Addr.add; split <;> simp_all
  rw [hadd]
  simp at hj; subst hj; simp [go_sem]
theorem int_info : (Try.prog.info? 3).map (fun i => (i.zero, i.size, i.bytes)) = some (some (.int .i64 0), 1, 8) := by kernel_rfl
set_option maxRecDepth 100000 in
set_option maxHeartbeats 16000000 in
theorem misses_any (g : StateR) (t : Int) (p : Option Addr) (c : Nat) (l : List LookR) (w : World) (hg : guessB g = true) (ht : tickB t = true) (hn : l.length ≤ 4096) (hP : LooksAt w p l) (hF : ∀ j (h : j < l.length), l[j].Fit) :
    Calls Try.prog 27 #[.slice p l.length c, .agg #[.int .i64 g.x, .int .i64 g.y, .int .i64 g.u, .int .i64 g.v], .int .i64 t] w (IntsPost w (missL g t l)) := by
  obtain ⟨V, hV⟩ : ∃ V, missL g t l = V := ⟨_, rfl⟩
  rw [hV]
  unfold missL at hV
  have hV := Go.Lib.hid hV
  have hP := Go.Lib.hid hP
  have hF := Go.Lib.hid hF
  obtain ⟨t0, t1⟩ := tickB_out.1 ht
  obtain ⟨i0, hi0, hz0, hz1, hz2⟩ := info_parts int_info
  obtain ⟨gx, gy, gu, gv⟩ := g
  have cs := fun (n : Int) (W : World) hn => straight_any ⟨gx, gy, gu, gv⟩ n W hg hn
  simp only at cs
  simp only
  have cs := Go.Lib.hid cs
  clear ht hg
  go_enter Try.func27, Try.ntmps27
  go_wp2_with (first | ((first | with_reducible refine wp_region_ext2 (by kernel_rfl) (by kernel_rfl) ?_ | with_reducible refine wp_region_ext (by kernel_rfl) (by kernel_rfl) ?_); (repeat (first | go_big_quiet_step ((first | fail)) | quiet_step ((first | fail)))); refine wpQuiet_nil ?_; rintro _ ⟨yr, rfl⟩; have syr := Ext.size yr; (repeat (first | rw [World.size_alloc] at syr | rw [World.size_setCell] at syr | rw [World.size_drew] at syr))))
  refine wp_named (fun W0 hW => ?_)
  have hBw : Below w.heap.size w W0 := by rw [← hW]; repeat' (first | (with_reducible exact Below.refl _ _) | (with_reducible assumption) | (with_reducible refine Ext.below _ ?_ ?_) | (with_reducible refine Below.on ?_ (by with_reducible assumption) ?_) | (with_reducible refine Below.alloc ?_ ?_ _) | (with_reducible refine Below.drew ?_) | (with_reducible refine Below.setCell ?_ ?_ _) | (with_reducible exact Nat.le_refl _) | omega | (simp; done) | (simp [go_sem]; done) | (simp at *; omega))
  have hs0 : w.heap.size < W0.heap.size := by rw [← hW]; simp
  have c0 : W0.cell? ⟨w.heap.size, 0, none⟩ = some (.int .i64 gx) := by rw [← hW]; simp [go_sem]
  have c1 : W0.cell? ⟨w.heap.size, 1, none⟩ = some (.int .i64 gy) := by rw [← hW]; simp [go_sem]
  have c2 : W0.cell? ⟨w.heap.size, 2, none⟩ = some (.int .i64 gu) := by rw [← hW]; simp [go_sem]
  have c3 : W0.cell? ⟨w.heap.size, 3, none⟩ = some (.int .i64 gv) := by rw [← hW]; simp [go_sem]
  have hP := Go.Lib.hid (hP.out.on hBw)
  clear hW
  go_loopw [7, 12] (fun v s W => ∃ (i : Nat) (x : Ext W0) (acc : List Int), s = .int .i64 i ∧ W = x.now ∧ x.now.ownsRow W0.heap.size 3 1 v acc.length (intsOf acc) ∧ Hid (i ≤ l.length ∧ acc.length ≤ i ∧ missA ⟨gx, gy, gu, gv⟩ t acc i (l.drop i) = V)) (fun _ s _ => l.length - (intOf s).toNat)
  case atStart => exact ⟨0, ⟨W0, Below.refl _ _⟩, [], rfl, rfl, World.ownsRow_nil _ _ _ _, Go.Lib.hid ⟨Nat.zero_le _, Nat.le_refl _, by simpa using hV.out⟩⟩
  case round =>
    obtain ⟨i, x, acc, rfl, rfl, hown, hi⟩ := hrel
    have xs := x.size
    have hbx := x.below hBw (by omega)
    have hsw : w.heap.size < x.now.heap.size := by omega
    by_cases hlt : i < l.length
    · have hlt2 : (i : Int) < l.length := by omega
      obtain ⟨B, o, rfl, hB, q1, q2, q3, q4⟩ := hP.out i hlt
      have hE := hi.out.2.2
      have hac := hi.out.2.1
      rw [drop_at hlt, missA] at hE
      have : B < (x.now).heap.size := (by omega); have : B < (x.now).heap.size + 1 := (by omega); have : B < (x.now).heap.size + 1 + 1 := (by omega); have : B ≠ (x.now).heap.size := (by omega); have : B ≠ (x.now).heap.size + 1 := (by omega)
      have : w.heap.size < (x.now).heap.size := (by omega); have : w.heap.size < (x.now).heap.size + 1 := (by omega); have : w.heap.size < (x.now).heap.size + 1 + 1 := (by omega); have : w.heap.size ≠ (x.now).heap.size := (by omega); have : w.heap.size ≠ (x.now).heap.size + 1 := (by omega)
      obtain ⟨fk, fkt⟩ := hF.out i hlt
      obtain ⟨f0, f1⟩ := tickB_out.1 fkt
      have cs := fun W => cs.out (l[i].tick - t) W (by omega)
      have ca := fun W => lookAgrees_any l[i] (strV ⟨gx, gy, gu, gv⟩ (l[i].tick - t)) W fk
      unfold LookR.val at ca
      have hm : missB ⟨gx, gy, gu, gv⟩ t l[i] = !(l[i].agrees (strV ⟨gx, gy, gu, gv⟩ (l[i].tick - t))) := rfl
      rw [hm] at hE
      obtain ⟨gt, ga, hga⟩ := val_iface l[i].says
      rw [hga] at q4 ca
      clear fk fkt hm hga
      cases hb : l[i].agrees (strV ⟨gx, gy, gu, gv⟩ (l[i].tick - t))
      · rw [hb] at hE ca
        have hadd := Go.Lib.hid (intsOf_add acc i)
        have key : Hid (i + 1 ≤ l.length ∧ (acc ++ [(i : Int)]).length ≤ i + 1 ∧ missA ⟨gx, gy, gu, gv⟩ t (acc ++ [(i : Int)]) (i + 1) (l.drop (i + 1)) = V) := Go.Lib.hid ⟨hlt, by simpa using hac, by simpa using hE⟩
        clear hE hi hV hb
        generalize strV ⟨gx, gy, gu, gv⟩ (l[i].tick - t) = sv at *
        obtain ⟨s1, s2⟩ := sv
        simp only at cs ca
        generalize l[i].tick = k1 at *
        generalize l[i].frm.x = k2 at *
        generalize l[i].frm.y = k3 at *
        go_wp2_with (first | ((first | with_reducible refine wp_region_ext2 (by kernel_rfl) (by kernel_rfl) ?_ | with_reducible refine wp_region_ext (by kernel_rfl) (by kernel_rfl) ?_); (repeat (first | go_big_quiet_step ((first | (go_at_call 48; with_reducible exact Calls.ext (cs _)) | (go_at_call 47; with_reducible exact Calls.ext (ca _)))) | quiet_step ((first | (go_at_call 48; with_reducible exact Calls.ext (cs _)) | (go_at_call 47; with_reducible exact Calls.ext (ca _)))))); refine wpQuiet_nil ?_; rintro _ ⟨yr, rfl⟩; have syr := Ext.size yr; (repeat (first | rw [World.size_alloc] at syr | rw [World.size_setCell] at syr | rw [World.size_drew] at syr)); have : B < yr.now.heap.size := (by omega); have : B ≤ yr.now.heap.size := (by omega); have : B < yr.now.heap.size + 1 + 1 := (by omega); have : w.heap.size < yr.now.heap.size := (by omega); have : w.heap.size ≤ yr.now.heap.size := (by omega); have : w.heap.size < yr.now.heap.size + 1 + 1 := (by omega)) | (go_at_call 48; (first | with_reducible refine (Calls.giv2 (cs _)).mono ?_ | with_reducible refine (Calls.giv (cs _)).mono ?_); rintro _ _ ⟨y1, rfl, rfl⟩; have sy1 := Ext.size y1; (repeat (first | rw [World.size_alloc] at sy1 | rw [World.size_setCell] at sy1 | rw [World.size_drew] at sy1)); have : B < y1.now.heap.size := (by omega); have : B ≤ y1.now.heap.size := (by omega); have : B < y1.now.heap.size + 1 + 1 := (by omega); have : w.heap.size < y1.now.heap.size := (by omega); have : w.heap.size ≤ y1.now.heap.size := (by omega); have : w.heap.size < y1.now.heap.size + 1 + 1 := (by omega)) | (go_at_call 47; (first | with_reducible refine (Calls.giv2 (ca _)).mono ?_ | with_reducible refine (Calls.giv (ca _)).mono ?_); rintro _ _ ⟨y2, rfl, rfl⟩; have sy2 := Ext.size y2; (repeat (first | rw [World.size_alloc] at sy2 | rw [World.size_setCell] at sy2 | rw [World.size_drew] at sy2)); have : B < y2.now.heap.size := (by omega); have : B ≤ y2.now.heap.size := (by omega); have : B < y2.now.heap.size + 1 + 1 := (by omega); have : w.heap.size < y2.now.heap.size := (by omega); have : w.heap.size ≤ y2.now.heap.size := (by omega); have : w.heap.size < y2.now.heap.size + 1 + 1 := (by omega)) | (at_builtin; refine wpList_append_own _ rfl _ _ 22 rfl W0.heap.size 3 i0 _ 1 8 Try.underlying22 hi0 hz0 hz1 hz2 rfl (by decide) _ acc.length (intsOf acc) rfl (by repeat (first | exact hown | (with_reducible refine World.ownsRow.alloc ?_ _) | (with_reducible refine World.ownsRow.drew ?_) | (with_reducible refine owns_ext ?_ _))) _ 1 1 _ rfl rfl (cells1_new _ _ _) (by intro u hu; simp only [List.mem_cons, List.not_mem_nil, or_false] at hu; subst hu; rfl) (by unfold maxLen; omega) (by omega) (by (try simp only [World.size_alloc]); omega) ?_; intro v' W2 hown' hgrow _; have hbel : Below W0.heap.size W0 W2 := (by refine below_grown (e := 3) (size := 1) (n := acc.length) (xs := intsOf acc) ?_ (by repeat (first | exact hown | (with_reducible refine World.ownsRow.alloc ?_ _) | (with_reducible refine World.ownsRow.drew ?_) | (with_reducible refine owns_ext ?_ _))) (Nat.le_refl _) (by (try simp only [World.size_alloc]); omega) hgrow; repeat' (first | (with_reducible exact Below.refl _ _) | (with_reducible assumption) | (with_reducible refine Ext.below _ ?_ ?_) | (with_reducible refine Below.on ?_ (by with_reducible assumption) ?_) | (with_reducible refine Below.alloc ?_ ?_ _) | (with_reducible refine Below.drew ?_) | (with_reducible refine Below.setCell ?_ ?_ _) | (with_reducible exact Nat.le_refl _) | omega | (simp; done) | (simp [go_sem]; done) | (simp at *; omega)))))
        refine ⟨⟨i + 1, ⟨_, hbel⟩, acc ++ [(i : Int)], by simp, rfl, by rw [hadd.out, List.length_append]; exact hown', key⟩, by simp [intOf]; omega⟩
      · rw [hb] at hE ca
        have key : Hid (i + 1 ≤ l.length ∧ acc.length ≤ i + 1 ∧ missA ⟨gx, gy, gu, gv⟩ t acc (i + 1) (l.drop (i + 1)) = V) := Go.Lib.hid ⟨hlt, by omega, by simpa using hE⟩
        clear hE hi hV hb
        generalize strV ⟨gx, gy, gu, gv⟩ (l[i].tick - t) = sv at *
        obtain ⟨s1, s2⟩ := sv
        simp only at cs ca
        generalize l[i].tick = k1 at *
        generalize l[i].frm.x = k2 at *
        generalize l[i].frm.y = k3 at *
        go_wp2_with (first | ((first | with_reducible refine wp_region_ext2 (by kernel_rfl) (by kernel_rfl) ?_ | with_reducible refine wp_region_ext (by kernel_rfl) (by kernel_rfl) ?_); (repeat (first | go_big_quiet_step ((first | (go_at_call 48; with_reducible exact Calls.ext (cs _)) | (go_at_call 47; with_reducible exact Calls.ext (ca _)))) | quiet_step ((first | (go_at_call 48; with_reducible exact Calls.ext (cs _)) | (go_at_call 47; with_reducible exact Calls.ext (ca _)))))); refine wpQuiet_nil ?_; rintro _ ⟨yr, rfl⟩; have syr := Ext.size yr; (repeat (first | rw [World.size_alloc] at syr | rw [World.size_setCell] at syr | rw [World.size_drew] at syr)); have : B < yr.now.heap.size := (by omega); have : B ≤ yr.now.heap.size := (by omega); have : B < yr.now.heap.size + 1 + 1 := (by omega); have : w.heap.size < yr.now.heap.size := (by omega); have : w.heap.size ≤ yr.now.heap.size := (by omega); have : w.heap.size < yr.now.heap.size + 1 + 1 := (by omega)) | (go_at_call 48; (first | with_reducible refine (Calls.giv2 (cs _)).mono ?_ | with_reducible refine (Calls.giv (cs _)).mono ?_); rintro _ _ ⟨y1, rfl, rfl⟩; have sy1 := Ext.size y1; (repeat (first | rw [World.size_alloc] at sy1 | rw [World.size_setCell] at sy1 | rw [World.size_drew] at sy1)); have : B < y1.now.heap.size := (by omega); have : B ≤ y1.now.heap.size := (by omega); have : B < y1.now.heap.size + 1 + 1 := (by omega); have : w.heap.size < y1.now.heap.size := (by omega); have : w.heap.size ≤ y1.now.heap.size := (by omega); have : w.heap.size < y1.now.heap.size + 1 + 1 := (by omega)) | (go_at_call 47; (first | with_reducible refine (Calls.giv2 (ca _)).mono ?_ | with_reducible refine (Calls.giv (ca _)).mono ?_); rintro _ _ ⟨y2, rfl, rfl⟩; have sy2 := Ext.size y2; (repeat (first | rw [World.size_alloc] at sy2 | rw [World.size_setCell] at sy2 | rw [World.size_drew] at sy2)); have : B < y2.now.heap.size := (by omega); have : B ≤ y2.now.heap.size := (by omega); have : B < y2.now.heap.size + 1 + 1 := (by omega); have : w.heap.size < y2.now.heap.size := (by omega); have : w.heap.size ≤ y2.now.heap.size := (by omega); have : w.heap.size < y2.now.heap.size + 1 + 1 := (by omega)))
        refine ⟨⟨i + 1, ⟨_, ?_⟩, acc, by simp, rfl, ?_, key⟩, by simp [intOf]; omega⟩
        · repeat' (first | (with_reducible exact Below.refl _ _) | (with_reducible assumption) | (with_reducible refine Ext.below _ ?_ ?_) | (with_reducible refine Below.on ?_ (by with_reducible assumption) ?_) | (with_reducible refine Below.alloc ?_ ?_ _) | (with_reducible refine Below.drew ?_) | (with_reducible refine Below.setCell ?_ ?_ _) | (with_reducible exact Nat.le_refl _) | omega | (simp; done) | (simp [go_sem]; done) | (simp at *; omega))
        · dsimp only; exact (by repeat (first | exact hown | (with_reducible refine World.ownsRow.alloc ?_ _) | (with_reducible refine World.ownsRow.drew ?_) | (with_reducible refine owns_ext ?_ _)))
    · have hge : ¬ (i : Int) < l.length := by omega
      have hE := hi.out.2.2
      rw [drop_end hlt, missA] at hE
      clear hi hV
      subst hE
      go_wp2_with (first | ((first | with_reducible refine wp_region_ext2 (by kernel_rfl) (by kernel_rfl) ?_ | with_reducible refine wp_region_ext (by kernel_rfl) (by kernel_rfl) ?_); (repeat (first | go_big_quiet_step ((first | fail)) | quiet_step ((first | fail)))); refine wpQuiet_nil ?_; rintro _ ⟨yr, rfl⟩; have syr := Ext.size yr; (repeat (first | rw [World.size_alloc] at syr | rw [World.size_setCell] at syr | rw [World.size_drew] at syr))))
      go_returns
      refine ⟨?_, _, rfl, owns_base hown (by omega)⟩
      repeat' (first | (with_reducible exact Below.refl _ _) | (with_reducible assumption) | (with_reducible refine Ext.below _ ?_ ?_) | (with_reducible refine Below.on ?_ (by with_reducible assumption) ?_) | (with_reducible refine Below.alloc ?_ ?_ _) | (with_reducible refine Below.drew ?_) | (with_reducible refine Below.setCell ?_ ?_ _) | (with_reducible exact Nat.le_refl _) | omega | (simp; done) | (simp [go_sem]; done) | (simp at *; omega))
structure TrR where
  p : Option Addr
  c : Nat
  l : List SightR
def TracksAt (W : World) (p : Option Addr) (ts : List TrR) : Prop := ∀ j (h : j < ts.length), SightsAt W ts[j].p ts[j].l ∧ ∃ B o, p = some ⟨B, o, none⟩ ∧ B < W.heap.size ∧ W.cell? ⟨B, o + j, none⟩ = some (.slice ts[j].p ts[j].l.length ts[j].c)
theorem TracksAt.ext {W : World} {p : Option Addr} {l : List TrR} (h : TracksAt W p l) (x : Ext W) : TracksAt x.now p l := fun j hj => by
  obtain ⟨hs, B, o, rfl, hB, h1⟩ := h j hj
  exact ⟨hs.ext x, B, o, rfl, x.lt hB, (x.cell hB).trans h1⟩
theorem TracksAt.on {W W' : World} {p : Option Addr} {l : List TrR} (h : TracksAt W p l) (b : Below W.heap.size W W') : TracksAt W' p l := h.ext ⟨W', b⟩
/-- Lists of looks in a list. -/
def InnerAt (W : World) (base : Nat) : List Value → List (List LookR) → Prop
  | [], [] => True
  | u :: vs, ks :: kss => W.ownsRow base 103 4 u ks.length (rowsOf ks) ∧ InnerAt W base vs kss
  | _, _ => False
theorem InnerAt.map {W W' : World} {base : Nat} : ∀ {vs : List Value} {kss : List (List LookR)}, InnerAt W base vs kss → (∀ v n xs, W.ownsRow base 103 4 v n xs → W'.ownsRow base 103 4 v n xs) → InnerAt W' base vs kss
  | [], [], _, _ => trivial
  | _ :: _, _ :: _, h, f => ⟨f _ _ _ h.1, InnerAt.map h.2 f⟩
  | [], _ :: _, h, _ => h.elim
  | _ :: _, [], h, _ => h.elim
theorem InnerAt.base {W : World} {b b' : Nat} (hb : b' ≤ b) : ∀ {vs : List Value} {kss : List (List LookR)}, InnerAt W b vs kss → InnerAt W b' vs kss
  | [], [], _ => trivial
  | _ :: _, _ :: _, h => ⟨owns_base h.1 hb, InnerAt.base hb h.2⟩
  | [], _ :: _, h => h.elim
  | _ :: _, [], h => h.elim
theorem InnerAt.snoc {W : World} {base : Nat} {u : Value} {ks : List LookR} (h2 : W.ownsRow base 103 4 u ks.length (rowsOf ks)) : ∀ {vs : List Value} {kss : List (List LookR)}, InnerAt W base vs kss → InnerAt W base (vs ++ [u]) (kss ++ [ks])
  | [], [], _ => ⟨h2, trivial⟩
  | _ :: _, _ :: _, h => ⟨h.1, InnerAt.snoc h2 h.2⟩
  | [], _ :: _, h => h.elim
  | _ :: _, [], h => h.elim
theorem InnerAt.length {W : World} {base : Nat} : ∀ {vs : List Value} {kss : List (List LookR)}, InnerAt W base vs kss → vs.length = kss.length
  | [], [], _ => rfl
  | _ :: _, _ :: _, h => by simp [InnerAt.length h.2]
  | [], _ :: _, h => h.elim
  | _ :: _, [], h => h.elim
theorem InnerAt.below {W W' : World} {base : Nat} {vs : List Value} {kss : List (List LookR)} (h : InnerAt W base vs kss) (b : Below W.heap.size W W') : InnerAt W' base vs kss := h.map fun _ _ _ g => owns_below g b
theorem InnerAt.alloc {W : World} {base : Nat} {vs : List Value} {kss : List (List LookR)} (h : InnerAt W base vs kss) (o : Obj) : InnerAt (W.alloc o) base vs kss := h.map fun _ _ _ g => g.alloc o
theorem owns_apart {w : World} {b b' : Nat} {e e' : TypeId} {s s' : Nat} {v v' : Value} {n n' : Nat} {xs xs' : List Value} (h : w.ownsRow b e s v n xs) (h' : w.ownsRow b' e' s' v' n' xs') (he : e ≠ e') : v.ownBlock = none ∨ v.ownBlock ≠ v'.ownBlock := by
  rcases h.2 with ⟨rfl, _⟩ | ⟨g, cap, cur, rfl, _, hg, _⟩
  · exact .inl rfl
  · rcases h'.2 with ⟨rfl, _⟩ | ⟨g', cap', cur', rfl, _, hg', _⟩
    · exact .inr (by simp [Value.ownBlock])
    · refine .inr fun hh => ?_
      simp only [Value.ownBlock, Option.some.injEq] at hh
      subst hh
      rw [hg] at hg'
      simp only [Option.some.injEq, Obj.cells.injEq] at hg'
      exact he hg'.2.1
theorem InnerAt.grown {W W' : World} {base : Nat} {vs : List Value} {kss : List (List LookR)} {v : Value} {n : Nat} {xs : List Value} (h : InnerAt W base vs kss) (hown : W.ownsRow base 68 1 v n xs) (hg : W.grownBy W' v.ownBlock) : InnerAt W' base vs kss :=
  h.map fun _ _ _ g => g.kept hg (owns_apart g hown (by decide))
def allA (s : SkyR) : List (List LookR) → List TrR → Except Int (List (List LookR))
  | acc, [] => .ok acc
  | acc, t :: ts => match looksR s t.l with
    | .error e => .error e
    | .ok ks => allA s (acc ++ [ks]) ts
def allR (s : SkyR) (ts : List TrR) : Except Int (List (List LookR)) := if skyE s = 0 then allA s [] ts else .error (skyE s)
theorem looksA_err {s : SkyR} : ∀ {l : List SightR} {acc : List LookR} {prev : Option Int} {e : Int}, looksA s acc prev l = .error e → e ≠ 0 := by
  intro l
  induction l with
  | nil => intro acc prev e h; cases h
  | cons x l ih =>
    intro acc prev e h
    rw [looksA] at h
    cases hr : lookR s x with
    | error e' => rw [hr] at h; injection h with h; rw [← h]; exact lookR_err hr
    | ok k =>
      rw [hr] at h
      simp only at h
      split at h
      · injection h; omega
      · exact ih h
theorem looksR_err {s : SkyR} {l : List SightR} {e : Int} (h : looksR s l = .error e) : e ≠ 0 := by
  unfold looksR at h
  by_cases h1 : cntE l.length 1 64 = 0
  · rw [if_pos h1] at h; exact looksA_err h
  · rw [if_neg h1] at h; injection h with h; rw [← h]; exact h1
def AllPost (w : World) (r : Except Int (List (List LookR))) : Ending → World → Prop := fun e w' => Below w.heap.size w w' ∧ match r with
  | .error n => e = .returned (.tuple #[.slice none 0 0, .int .i64 n])
  | .ok kss => ∃ v vs, e = .returned (.tuple #[v, .int .i64 0]) ∧ w'.ownsRow w.heap.size 68 1 v kss.length vs ∧ InnerAt w' w.heap.size vs kss
theorem slice_info : (Try.prog.info? 68).map (fun i => (i.zero, i.size, i.bytes)) = some (some (.slice none 0 0), 1, 24) := by kernel_rfl
theorem owns_isSlice {w : World} {b : Nat} {e : TypeId} {s : Nat} {v : Value} {n : Nat} {xs : List Value} (h : w.ownsRow b e s v n xs) : ∃ p n c, v = .slice p n c := by
  rcases h.2 with ⟨rfl, _⟩ | ⟨g, cap, cur, rfl, _⟩
  · exact ⟨_, _, _, rfl⟩
  · exact ⟨_, _, _, rfl⟩
set_option maxRecDepth 100000 in
set_option maxHeartbeats 16000000 in
theorem allLooks_any (s : SkyR) (p : Option Addr) (c : Nat) (l : List TrR) (w : World) (hn : l.length ≤ 4096) (hA : s.At w) (hP : TracksAt w p l) :
    Calls Try.prog 25 #[s.val, .slice p l.length c] w (AllPost w (allR s l)) := by
  have cs := fun (W : World) (y : Below w.heap.size w W) => Check_any s W (hA.on y)
  unfold allR
  by_cases hc : skyE s = 0
  · rw [if_pos hc]
    have cl := Go.Lib.hid (fun (W : World) (y : Below w.heap.size w W) (p : Option Addr) (c : Nat) (l : List SightR) (h : SightsAt W p l) => looksOf_any s p c l W (hA.on y) hc h)
    rw [hc] at cs
    have ce := Go.Lib.hid (fun l e (h : looksR s l = .error e) => looksR_err h)
    clear hc
    obtain ⟨V, hV⟩ : ∃ V, allA s [] l = V := ⟨_, rfl⟩
    rw [hV]
    have hV := Go.Lib.hid hV
    have hP := Go.Lib.hid hP
    obtain ⟨i0, hi0, hz0, hz1, hz2⟩ := info_parts slice_info
    unfold SkyR.val at *
    clear hA
    obtain ⟨n1, hn1⟩ : ∃ a, s.cats.length = a := ⟨_, rfl⟩
    obtain ⟨n2, hn2⟩ : ∃ a, s.cp = a := ⟨_, rfl⟩
    obtain ⟨n3, hn3⟩ : ∃ a, s.cc = a := ⟨_, rfl⟩
    obtain ⟨n4, hn4⟩ : ∃ a, s.bodies.length = a := ⟨_, rfl⟩
    obtain ⟨n5, hn5⟩ : ∃ a, s.bp = a := ⟨_, rfl⟩
    obtain ⟨n6, hn6⟩ : ∃ a, s.bc = a := ⟨_, rfl⟩
    obtain ⟨n7, hn7⟩ : ∃ a, s.sts.length = a := ⟨_, rfl⟩
    obtain ⟨n8, hn8⟩ : ∃ a, s.sp = a := ⟨_, rfl⟩
    obtain ⟨n9, hn9⟩ : ∃ a, s.sc = a := ⟨_, rfl⟩
    obtain ⟨n0, hn0⟩ : ∃ a, s.home = a := ⟨_, rfl⟩
    have cl := cl.out
    simp only [hn0, hn1, hn2, hn3, hn4, hn5, hn6, hn7, hn8, hn9] at cl cs ⊢
    have cl := Go.Lib.hid cl
    clear hn0 hn1 hn2 hn3 hn4 hn5 hn6 hn7 hn8 hn9
    go_enter Try.func25, Try.ntmps25
    go_wp2_with (first | ((first | with_reducible refine wp_region_ext2 (by kernel_rfl) (by kernel_rfl) ?_ | with_reducible refine wp_region_ext (by kernel_rfl) (by kernel_rfl) ?_); (repeat (first | go_big_quiet_step ((first | (go_at_call 28; with_reducible exact Calls.ext (cs _ (by repeat' (first | (with_reducible exact Below.refl _ _) | (with_reducible assumption) | (with_reducible refine Ext.below _ ?_ ?_) | (with_reducible refine Below.on ?_ (by with_reducible assumption) ?_) | (with_reducible refine Below.alloc ?_ ?_ _) | (with_reducible refine Below.drew ?_) | (with_reducible refine Below.setCell ?_ ?_ _) | (with_reducible exact Nat.le_refl _) | omega | (simp; done) | (simp [go_sem]; done) | (simp at *; omega))))))) | quiet_step ((first | (go_at_call 28; with_reducible exact Calls.ext (cs _ (by repeat' (first | (with_reducible exact Below.refl _ _) | (with_reducible assumption) | (with_reducible refine Ext.below _ ?_ ?_) | (with_reducible refine Below.on ?_ (by with_reducible assumption) ?_) | (with_reducible refine Below.alloc ?_ ?_ _) | (with_reducible refine Below.drew ?_) | (with_reducible refine Below.setCell ?_ ?_ _) | (with_reducible exact Nat.le_refl _) | omega | (simp; done) | (simp [go_sem]; done) | (simp at *; omega))))))))); refine wpQuiet_nil ?_; rintro _ ⟨yr, rfl⟩; have syr := Ext.size yr; (repeat (first | rw [World.size_alloc] at syr | rw [World.size_setCell] at syr | rw [World.size_drew] at syr))) | (go_at_call 28; (first | with_reducible refine (Calls.giv2 (cs _ (by repeat' (first | (with_reducible exact Below.refl _ _) | (with_reducible assumption) | (with_reducible refine Ext.below _ ?_ ?_) | (with_reducible refine Below.on ?_ (by with_reducible assumption) ?_) | (with_reducible refine Below.alloc ?_ ?_ _) | (with_reducible refine Below.drew ?_) | (with_reducible refine Below.setCell ?_ ?_ _) | (with_reducible exact Nat.le_refl _) | omega | (simp; done) | (simp [go_sem]; done) | (simp at *; omega))))).mono ?_ | with_reducible refine (Calls.giv (cs _ (by repeat' (first | (with_reducible exact Below.refl _ _) | (with_reducible assumption) | (with_reducible refine Ext.below _ ?_ ?_) | (with_reducible refine Below.on ?_ (by with_reducible assumption) ?_) | (with_reducible refine Below.alloc ?_ ?_ _) | (with_reducible refine Below.drew ?_) | (with_reducible refine Below.setCell ?_ ?_ _) | (with_reducible exact Nat.le_refl _) | omega | (simp; done) | (simp [go_sem]; done) | (simp at *; omega))))).mono ?_); rintro _ _ ⟨y1, rfl, rfl⟩; have sy1 := Ext.size y1; (repeat (first | rw [World.size_alloc] at sy1 | rw [World.size_setCell] at sy1 | rw [World.size_drew] at sy1))))
    refine wp_named (fun W0 hW => ?_)
    have hBw : Below w.heap.size w W0 := by rw [← hW]; repeat' (first | (with_reducible exact Below.refl _ _) | (with_reducible assumption) | (with_reducible refine Ext.below _ ?_ ?_) | (with_reducible refine Below.on ?_ (by with_reducible assumption) ?_) | (with_reducible refine Below.alloc ?_ ?_ _) | (with_reducible refine Below.drew ?_) | (with_reducible refine Below.setCell ?_ ?_ _) | (with_reducible exact Nat.le_refl _) | omega | (simp; done) | (simp [go_sem]; done) | (simp at *; omega))
    have hs0 : w.heap.size < W0.heap.size := by rw [← hW]; omega
    have c0 : W0.cell? ⟨w.heap.size, 0, none⟩ = some (.slice n5 n4 n6) := by rw [← hW]; simp [go_sem]
    have c1 : W0.cell? ⟨w.heap.size, 1, none⟩ = some (.int .i64 n0) := by rw [← hW]; simp [go_sem]
    have c2 : W0.cell? ⟨w.heap.size, 2, none⟩ = some (.slice n8 n7 n9) := by rw [← hW]; simp [go_sem]
    have c3 : W0.cell? ⟨w.heap.size, 3, none⟩ = some (.slice n2 n1 n3) := by rw [← hW]; simp [go_sem]
    have hP := Go.Lib.hid (hP.out.on hBw)
    clear hW sy1
    clear y1
    go_loopw [7, 19] (fun v t W => ∃ (i : Nat) (x : Ext W0) (acc : List (List LookR)) (vs : List Value), t = .int .i64 i ∧ W = x.now ∧ x.now.ownsRow W0.heap.size 68 1 v i vs ∧ Hid (InnerAt x.now W0.heap.size vs acc ∧ i ≤ l.length ∧ acc.length = i ∧ allA s acc (l.drop i) = V)) (fun _ t _ => l.length - (intOf t).toNat)
    case atStart => exact ⟨0, ⟨W0, Below.refl _ _⟩, [], [], rfl, rfl, World.ownsRow_nil _ _ _ _, Go.Lib.hid ⟨trivial, Nat.zero_le _, rfl, by simpa using hV.out⟩⟩
    case round =>
      obtain ⟨i, x, acc, vs, rfl, rfl, hown, hi⟩ := hrel
      have xs := x.size
      have hbx := x.below hBw (by omega)
      have hsw : w.heap.size < x.now.heap.size := by omega
      by_cases hlt : i < l.length
      · have hlt2 : (i : Int) < l.length := by omega
        obtain ⟨hs, B, o, rfl, hB, q1⟩ := hP.out i hlt
        have hE := hi.out.2.2.2
        have hil := hi.out.2.2.1
        have hinn := Go.Lib.hid hi.out.1
        rw [drop_at hlt, allA] at hE
        have : B < (x.now).heap.size := (by omega); have : B < (x.now).heap.size + 1 := (by omega); have : B < (x.now).heap.size + 1 + 1 := (by omega); have : B ≠ (x.now).heap.size := (by omega); have : B ≠ (x.now).heap.size + 1 := (by omega)
        have : w.heap.size < (x.now).heap.size := (by omega); have : w.heap.size < (x.now).heap.size + 1 := (by omega); have : w.heap.size < (x.now).heap.size + 1 + 1 := (by omega); have : w.heap.size ≠ (x.now).heap.size := (by omega); have : w.heap.size ≠ (x.now).heap.size + 1 := (by omega)
        have cl := cl.out x.now hbx l[i].p l[i].c l[i].l (hs.ext x)
        cases hr : looksR s l[i].l with
        | error e =>
          rw [hr] at hE cl
          have e0 := ce.out _ _ hr
          clear hr hi hV hs hinn
          simp only at hE
          subst hE
          generalize l[i].l.length = g1 at *
          generalize l[i].p = g2 at *
          generalize l[i].c = g3 at *
          go_wp2_with (first | ((first | with_reducible refine wp_region_ext2 (by kernel_rfl) (by kernel_rfl) ?_ | with_reducible refine wp_region_ext (by kernel_rfl) (by kernel_rfl) ?_); (repeat (first | go_big_quiet_step ((first | fail)) | quiet_step ((first | fail)))); refine wpQuiet_nil ?_; rintro _ ⟨yr, rfl⟩; have syr := Ext.size yr; (repeat (first | rw [World.size_alloc] at syr | rw [World.size_setCell] at syr | rw [World.size_drew] at syr)); have : B < yr.now.heap.size := (by omega); have : B ≤ yr.now.heap.size := (by omega); have : B < yr.now.heap.size + 1 + 1 := (by omega)) | (go_at_call 29; refine cl.mono ?_; rintro _ W3 ⟨hb3, rfl⟩; have hbw3 := hbx.trans (hb3.mono (by omega)); clear cl))
          go_returns
          refine ⟨?_, rfl⟩
          repeat' (first | (with_reducible exact Below.refl _ _) | (with_reducible assumption) | (with_reducible refine Ext.below _ ?_ ?_) | (with_reducible refine Below.on ?_ (by with_reducible assumption) ?_) | (with_reducible refine Below.alloc ?_ ?_ _) | (with_reducible refine Below.drew ?_) | (with_reducible refine Below.setCell ?_ ?_ _) | (with_reducible exact Nat.le_refl _) | omega | (simp; done) | (simp [go_sem]; done) | (simp at *; omega))
        | ok ks =>
          rw [hr] at hE cl
          simp only at hE
          have key : Hid (i + 1 ≤ l.length ∧ (acc ++ [ks]).length = i + 1 ∧ allA s (acc ++ [ks]) (l.drop (i + 1)) = V) := Go.Lib.hid ⟨hlt, by simp [hil], hE⟩
          clear hr hi hV hs hE hil
          generalize l[i].l.length = g1 at *
          generalize l[i].p = g2 at *
          generalize l[i].c = g3 at *
          go_wp2_with (first | ((first | with_reducible refine wp_region_ext2 (by kernel_rfl) (by kernel_rfl) ?_ | with_reducible refine wp_region_ext (by kernel_rfl) (by kernel_rfl) ?_); (repeat (first | go_big_quiet_step ((first | fail)) | quiet_step ((first | fail)))); refine wpQuiet_nil ?_; rintro _ ⟨yr, rfl⟩; have syr := Ext.size yr; (repeat (first | rw [World.size_alloc] at syr | rw [World.size_setCell] at syr | rw [World.size_drew] at syr)); have : B < yr.now.heap.size := (by omega); have : B ≤ yr.now.heap.size := (by omega); have : B < yr.now.heap.size + 1 + 1 := (by omega)) | (go_at_call 29; refine cl.mono ?_; rintro _ W3 ⟨hb3, v3, rfl, how3⟩; have hown := owns_below hown hb3; have hinn := (hinn.out.below hb3).snoc (owns_base how3 xs); have hbW3 := x.grew.trans (hb3.mono xs); have hbs3 := hb3.size; obtain ⟨p3, n3', c3', rfl⟩ := owns_isSlice how3; clear cl how3) | (at_builtin; refine wpList_append_own _ rfl _ _ 64 rfl W0.heap.size 68 i0 _ 1 24 Try.underlying64 hi0 hz0 hz1 hz2 rfl (by decide) _ i (vs) rfl (by repeat (first | exact hown | (with_reducible refine World.ownsRow.alloc ?_ _) | (with_reducible refine World.ownsRow.drew ?_) | (with_reducible refine owns_ext ?_ _))) _ 1 1 _ rfl rfl (cells1_new _ _ _) (by intro u hu; simp only [List.mem_cons, List.not_mem_nil, or_false] at hu; subst hu; rfl) (by unfold maxLen; omega) (by omega) (by (try simp only [World.size_alloc]); omega) ?_; intro v' W2 hown' hgrow _; have hbel : Below W0.heap.size W0 W2 := (by refine below_grown (e := 68) (size := 1) (n := i) (xs := vs) ?_ (by repeat (first | exact hown | (with_reducible refine World.ownsRow.alloc ?_ _) | (with_reducible refine World.ownsRow.drew ?_) | (with_reducible refine owns_ext ?_ _))) (Nat.le_refl _) (by (try simp only [World.size_alloc]); omega) hgrow; repeat' (first | (with_reducible exact Below.refl _ _) | (with_reducible assumption) | (with_reducible refine Ext.below _ ?_ ?_) | (with_reducible refine Below.on ?_ (by with_reducible assumption) ?_) | (with_reducible refine Below.alloc ?_ ?_ _) | (with_reducible refine Below.drew ?_) | (with_reducible refine Below.setCell ?_ ?_ _) | (with_reducible exact Nat.le_refl _) | omega | (simp; done) | (simp [go_sem]; done) | (simp at *; omega))); have hinn' := InnerAt.grown (InnerAt.alloc hinn _) (World.ownsRow.alloc hown _) hgrow))
          refine ⟨⟨i + 1, ⟨_, hbel⟩, acc ++ [ks], vs ++ [_], by simp, rfl, hown', Go.Lib.hid ⟨hinn', key.out⟩⟩, by simp [intOf]; omega⟩
      · have hge : ¬ (i : Int) < l.length := by omega
        have hE := hi.out.2.2.2
        have hinn := hi.out.1
        rw [drop_end hlt, allA] at hE
        have hil : acc.length = i := hi.out.2.2.1
        clear hi hV
        subst hE
        have hinn := Go.Lib.hid hinn
        go_wp2_with (first | ((first | with_reducible refine wp_region_ext2 (by kernel_rfl) (by kernel_rfl) ?_ | with_reducible refine wp_region_ext (by kernel_rfl) (by kernel_rfl) ?_); (repeat (first | go_big_quiet_step ((first | fail)) | quiet_step ((first | fail)))); refine wpQuiet_nil ?_; rintro _ ⟨yr, rfl⟩; have syr := Ext.size yr; (repeat (first | rw [World.size_alloc] at syr | rw [World.size_setCell] at syr | rw [World.size_drew] at syr))))
        go_returns
        refine ⟨?_, _, _, rfl, ?_, hinn.out.base (by omega)⟩
        · repeat' (first | (with_reducible exact Below.refl _ _) | (with_reducible assumption) | (with_reducible refine Ext.below _ ?_ ?_) | (with_reducible refine Below.on ?_ (by with_reducible assumption) ?_) | (with_reducible refine Below.alloc ?_ ?_ _) | (with_reducible refine Below.drew ?_) | (with_reducible refine Below.setCell ?_ ?_ _) | (with_reducible exact Nat.le_refl _) | omega | (simp; done) | (simp [go_sem]; done) | (simp at *; omega))
        · rw [hil]; exact owns_base hown (by omega)
  · rw [if_neg hc]
    clear hA hP
    unfold SkyR.val at *
    generalize s.cats.length = n1 at *
    generalize s.cp = n2 at *
    generalize s.cc = n3 at *
    generalize s.bodies.length = n4 at *
    generalize s.bp = n5 at *
    generalize s.bc = n6 at *
    generalize s.sts.length = n7 at *
    generalize s.sp = n8 at *
    generalize s.sc = n9 at *
    generalize skyE s = e at *
    generalize s.home = n0 at *
    go_enter Try.func25, Try.ntmps25
    go_wp2_with (first | ((first | with_reducible refine wp_region_ext2 (by kernel_rfl) (by kernel_rfl) ?_ | with_reducible refine wp_region_ext (by kernel_rfl) (by kernel_rfl) ?_); (repeat (first | go_big_quiet_step ((first | (go_at_call 28; with_reducible exact Calls.ext (cs _ (by repeat' (first | (with_reducible exact Below.refl _ _) | (with_reducible assumption) | (with_reducible refine Ext.below _ ?_ ?_) | (with_reducible refine Below.on ?_ (by with_reducible assumption) ?_) | (with_reducible refine Below.alloc ?_ ?_ _) | (with_reducible refine Below.drew ?_) | (with_reducible refine Below.setCell ?_ ?_ _) | (with_reducible exact Nat.le_refl _) | omega | (simp; done) | (simp [go_sem]; done) | (simp at *; omega))))))) | quiet_step ((first | (go_at_call 28; with_reducible exact Calls.ext (cs _ (by repeat' (first | (with_reducible exact Below.refl _ _) | (with_reducible assumption) | (with_reducible refine Ext.below _ ?_ ?_) | (with_reducible refine Below.on ?_ (by with_reducible assumption) ?_) | (with_reducible refine Below.alloc ?_ ?_ _) | (with_reducible refine Below.drew ?_) | (with_reducible refine Below.setCell ?_ ?_ _) | (with_reducible exact Nat.le_refl _) | omega | (simp; done) | (simp [go_sem]; done) | (simp at *; omega))))))))); refine wpQuiet_nil ?_; rintro _ ⟨yr, rfl⟩; have syr := Ext.size yr; (repeat (first | rw [World.size_alloc] at syr | rw [World.size_setCell] at syr | rw [World.size_drew] at syr))) | (go_at_call 28; (first | with_reducible refine (Calls.giv2 (cs _ (by repeat' (first | (with_reducible exact Below.refl _ _) | (with_reducible assumption) | (with_reducible refine Ext.below _ ?_ ?_) | (with_reducible refine Below.on ?_ (by with_reducible assumption) ?_) | (with_reducible refine Below.alloc ?_ ?_ _) | (with_reducible refine Below.drew ?_) | (with_reducible refine Below.setCell ?_ ?_ _) | (with_reducible exact Nat.le_refl _) | omega | (simp; done) | (simp [go_sem]; done) | (simp at *; omega))))).mono ?_ | with_reducible refine (Calls.giv (cs _ (by repeat' (first | (with_reducible exact Below.refl _ _) | (with_reducible assumption) | (with_reducible refine Ext.below _ ?_ ?_) | (with_reducible refine Below.on ?_ (by with_reducible assumption) ?_) | (with_reducible refine Below.alloc ?_ ?_ _) | (with_reducible refine Below.drew ?_) | (with_reducible refine Below.setCell ?_ ?_ _) | (with_reducible exact Nat.le_refl _) | omega | (simp; done) | (simp [go_sem]; done) | (simp at *; omega))))).mono ?_); rintro _ _ ⟨y1, rfl, rfl⟩; have sy1 := Ext.size y1; (repeat (first | rw [World.size_alloc] at sy1 | rw [World.size_setCell] at sy1 | rw [World.size_drew] at sy1))))
    go_returns
    refine ⟨?_, rfl⟩
    repeat' (first | (with_reducible exact Below.refl _ _) | (with_reducible assumption) | (with_reducible refine Ext.below _ ?_ ?_) | (with_reducible refine Below.on ?_ (by with_reducible assumption) ?_) | (with_reducible refine Below.alloc ?_ ?_ _) | (with_reducible refine Below.drew ?_) | (with_reducible refine Below.setCell ?_ ?_ _) | (with_reducible exact Nat.le_refl _) | omega | (simp; done) | (simp [go_sem]; done) | (simp at *; omega))
end Go.Proofs.Ytgoilmiiegpnoaa

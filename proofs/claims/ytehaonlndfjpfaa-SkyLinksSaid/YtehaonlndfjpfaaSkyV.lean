/- Guesses and rows that a call has made; contracts of isGuess, straight, checkGuesses. Conditions: the cells that are read. -/
import Derived.Test.YtehaonlndfjpfaaSkyU
import Derived.Test.YtehaonlndfjpfaaOwns
import Derived.OwnWalk
namespace Go.Proofs.Ytehaonlndfjpfaa
open Go.RowKit Go.Shelf
attribute [local go_sem] Option.isSome_some Ext.cell Ext.frozen Ext.lt Ext.le Ext.lt_add Ext.le_add Ext.ne Ext.ne' lt2 lt3 lt4 lt5 le2 le3 le4
structure StateR where
  x : Int
  y : Int
  u : Int
  v : Int
def StateR.val (g : StateR) : Value := .agg #[.int .i64 g.x, .int .i64 g.y, .int .i64 g.u, .int .i64 g.v]
def StatesAt (W : World) (p : Option Addr) (l : List StateR) : Prop := ∀ j (h : j < l.length), ∃ B o, p = some ⟨B, o, none⟩ ∧ B < W.heap.size ∧ W.cell? ⟨B, o + j * 4, none⟩ = some (.int .i64 l[j].x) ∧ W.cell? ⟨B, o + j * 4 + 1, none⟩ = some (.int .i64 l[j].y) ∧ W.cell? ⟨B, o + j * 4 + 2, none⟩ = some (.int .i64 l[j].u) ∧ W.cell? ⟨B, o + j * 4 + 3, none⟩ = some (.int .i64 l[j].v)
theorem StatesAt.ext {W : World} {p : Option Addr} {l : List StateR} (h : StatesAt W p l) (x : Ext W) : StatesAt x.now p l := fun j hj => by
  obtain ⟨B, o, rfl, hB, h1, h2, h3, h4⟩ := h j hj
  exact ⟨B, o, rfl, x.lt hB, (x.cell hB).trans h1, (x.cell hB).trans h2, (x.cell hB).trans h3, (x.cell hB).trans h4⟩
theorem StatesAt.on {W W' : World} {p : Option Addr} {l : List StateR} (h : StatesAt W p l) (b : Below W.heap.size W W') : StatesAt W' p l := h.ext ⟨W', b⟩
def guessB (g : StateR) : Bool := vwinB ⟨g.x, g.y⟩ 33554432 && vwinB ⟨g.u, g.v⟩ 1048576
theorem isGuess_any (x y u v : Int) (w : World) : Calls Try.prog 64 #[.agg #[.int .i64 x, .int .i64 y, .int .i64 u, .int .i64 v]] w (Gives (.bool (guessB ⟨x, y, u, v⟩)) w) := by
  have c1 := fun W => areWithin_any x y 33554432 W (by omega)
  have c2 := fun W => areWithin_any u v 1048576 W (by omega)
  unfold guessB
  simp only
  generalize vwinB ⟨x, y⟩ 33554432 = b1 at *
  generalize vwinB ⟨u, v⟩ 1048576 = b2 at *
  cases b1 <;> cases b2
  all_goals
    go_enter Try.func64, Try.ntmps64
    go_wp2_with (first | ((first | with_reducible refine wp_region_ext2 (by kernel_rfl) (by kernel_rfl) ?_ | with_reducible refine wp_region_ext (by kernel_rfl) (by kernel_rfl) ?_); (repeat (first | go_big_quiet_step ((first | (go_at_call 71; with_reducible exact Calls.ext (c1 _)) | (go_at_call 71; with_reducible exact Calls.ext (c2 _)))) | quiet_step ((first | (go_at_call 71; with_reducible exact Calls.ext (c1 _)) | (go_at_call 71; with_reducible exact Calls.ext (c2 _)))))); refine wpQuiet_nil ?_; rintro _ ⟨yr, rfl⟩; have syr := Ext.size yr; (repeat (first | rw [World.size_alloc] at syr | rw [World.size_setCell] at syr | rw [World.size_drew] at syr))) | (go_at_call 71; (first | with_reducible refine (Calls.giv2 (c1 _)).mono ?_ | with_reducible refine (Calls.giv (c1 _)).mono ?_); rintro _ _ ⟨y1, rfl, rfl⟩; have sy1 := Ext.size y1; (repeat (first | rw [World.size_alloc] at sy1 | rw [World.size_setCell] at sy1 | rw [World.size_drew] at sy1))) | (go_at_call 71; (first | with_reducible refine (Calls.giv2 (c2 _)).mono ?_ | with_reducible refine (Calls.giv (c2 _)).mono ?_); rintro _ _ ⟨y2, rfl, rfl⟩; have sy2 := Ext.size y2; (repeat (first | rw [World.size_alloc] at sy2 | rw [World.size_setCell] at sy2 | rw [World.size_drew] at sy2))))
    go_returns
    refine ⟨rfl, ?_⟩
    repeat' (first | (with_reducible exact Below.refl _ _) | (with_reducible assumption) | (with_reducible refine Ext.below _ ?_ ?_) | (with_reducible refine Below.on ?_ (by with_reducible assumption) ?_) | (with_reducible refine Below.alloc ?_ ?_ _) | (with_reducible refine Below.drew ?_) | (with_reducible refine Below.setCell ?_ ?_ _) | (with_reducible exact Nat.le_refl _) | omega | (simp; done) | (simp [go_sem]; done) | (simp at *; omega))
def strV (g : StateR) (n : Int) : V2 := ⟨g.x + g.u * n, g.y + g.v * n⟩
theorem straight_any (g : StateR) (n : Int) (w : World) (hg : guessB g = true) (hn : -1073741824 ≤ n ∧ n ≤ 1073741824) : Calls Try.prog 65 #[.agg #[.int .i64 g.x, .int .i64 g.y, .int .i64 g.u, .int .i64 g.v], .int .i64 n] w (Gives (.agg #[.int .i64 (strV g n).x, .int .i64 (strV g n).y]) w) := by
  unfold guessB at hg
  simp only [Bool.and_eq_true] at hg
  obtain ⟨⟨a1, a2⟩, a3, a4⟩ := vwinB_out hg.1
  obtain ⟨⟨b1, b2⟩, b3, b4⟩ := vwinB_out hg.2
  have m1 := mulb (A := 1048576) (B := 1073741824) b1 b2 hn.1 hn.2
  have m2 := mulb (A := 1048576) (B := 1073741824) b3 b4 hn.1 hn.2
  obtain ⟨m1, m1'⟩ := m1
  obtain ⟨m2, m2'⟩ := m2
  obtain ⟨x, y, u, v⟩ := g
  unfold strV
  simp only at *
  clear hg
  go_enter Try.func65, Try.ntmps65
  go_wp2_with (first | ((first | with_reducible refine wp_region_ext2 (by kernel_rfl) (by kernel_rfl) ?_ | with_reducible refine wp_region_ext (by kernel_rfl) (by kernel_rfl) ?_); (repeat (first | go_big_quiet_step ((first | fail)) | quiet_step ((first | fail)))); refine wpQuiet_nil ?_; rintro _ ⟨yr, rfl⟩; have syr := Ext.size yr; (repeat (first | rw [World.size_alloc] at syr | rw [World.size_setCell] at syr | rw [World.size_drew] at syr))))
  go_returns
  refine ⟨rfl, ?_⟩
  repeat' (first | (with_reducible exact Below.refl _ _) | (with_reducible assumption) | (with_reducible refine Ext.below _ ?_ ?_) | (with_reducible refine Below.on ?_ (by with_reducible assumption) ?_) | (with_reducible refine Below.alloc ?_ ?_ _) | (with_reducible refine Below.drew ?_) | (with_reducible refine Below.setCell ?_ ?_ _) | (with_reducible exact Nat.le_refl _) | omega | (simp; done) | (simp [go_sem]; done) | (simp at *; omega))
def guessesL : List StateR → Int
  | [] => 0
  | g :: l => if guessB g then guessesL l else 2
def guessesE (l : List StateR) (t : Int) : Int := if 64 < l.length then 8 else if tickB t then guessesL l else 2
theorem guessesL_zero {l : List StateR} (h : guessesL l = 0) : ∀ j (hj : j < l.length), guessB l[j] = true := by
  induction l with
  | nil => intro j hj; simp at hj
  | cons v l ih =>
    rw [guessesL] at h
    by_cases hv : guessB v = true
    · rw [if_pos hv] at h
      intro j hj
      cases j with
      | zero => exact hv
      | succ j => exact ih h j (by simpa using hj)
    · rw [if_neg hv] at h; cases h
theorem guessesE_zero {l : List StateR} {t : Int} (h : guessesE l t = 0) : l.length ≤ 64 ∧ tickB t = true ∧ ∀ j (hj : j < l.length), guessB l[j] = true := by
  unfold guessesE at h
  by_cases h1 : 64 < l.length
  · rw [if_pos h1] at h; cases h
  · rw [if_neg h1] at h
    by_cases h2 : tickB t = true
    · rw [if_pos h2] at h; exact ⟨by omega, h2, guessesL_zero h⟩
    · rw [if_neg h2] at h; cases h
set_option maxHeartbeats 4000000 in
theorem checkGuesses_any (p : Option Addr) (c : Nat) (l : List StateR) (t : Int) (w : World) (hP : StatesAt w p l) : Calls Try.prog 35 #[.slice p l.length c, .int .i64 t] w (Gives (.int .i64 (guessesE l t)) w) := by
  have ct := fun W => isTick_any t W
  unfold guessesE
  by_cases hc : 64 < l.length
  · rw [if_pos hc]
    have hc2 : 64 < (l.length : Int) := by omega
    go_enter Try.func35, Try.ntmps35
    go_wp2_with (first | ((first | with_reducible refine wp_region_ext2 (by kernel_rfl) (by kernel_rfl) ?_ | with_reducible refine wp_region_ext (by kernel_rfl) (by kernel_rfl) ?_); (repeat (first | go_big_quiet_step ((first | fail)) | quiet_step ((first | fail)))); refine wpQuiet_nil ?_; rintro _ ⟨yr, rfl⟩; have syr := Ext.size yr; (repeat (first | rw [World.size_alloc] at syr | rw [World.size_setCell] at syr | rw [World.size_drew] at syr))))
    go_returns
    refine ⟨rfl, ?_⟩
    repeat' (first | (with_reducible exact Below.refl _ _) | (with_reducible assumption) | (with_reducible refine Ext.below _ ?_ ?_) | (with_reducible refine Below.on ?_ (by with_reducible assumption) ?_) | (with_reducible refine Below.alloc ?_ ?_ _) | (with_reducible refine Below.drew ?_) | (with_reducible refine Below.setCell ?_ ?_ _) | (with_reducible exact Nat.le_refl _) | omega | (simp; done) | (simp [go_sem]; done) | (simp at *; omega))
  · rw [if_neg hc]
    have hc2 : ¬ 64 < (l.length : Int) := by omega
    have hn : l.length ≤ 64 := by omega
    clear hc
    cases ht : tickB t
    · rw [if_neg (by simp)]
      rw [ht] at ct
      clear ht hP
      go_enter Try.func35, Try.ntmps35
      go_wp2_with (first | ((first | with_reducible refine wp_region_ext2 (by kernel_rfl) (by kernel_rfl) ?_ | with_reducible refine wp_region_ext (by kernel_rfl) (by kernel_rfl) ?_); (repeat (first | go_big_quiet_step ((first | (go_at_call 52; with_reducible exact Calls.ext (ct _)))) | quiet_step ((first | (go_at_call 52; with_reducible exact Calls.ext (ct _)))))); refine wpQuiet_nil ?_; rintro _ ⟨yr, rfl⟩; have syr := Ext.size yr; (repeat (first | rw [World.size_alloc] at syr | rw [World.size_setCell] at syr | rw [World.size_drew] at syr))) | (go_at_call 52; (first | with_reducible refine (Calls.giv2 (ct _)).mono ?_ | with_reducible refine (Calls.giv (ct _)).mono ?_); rintro _ _ ⟨y1, rfl, rfl⟩; have sy1 := Ext.size y1; (repeat (first | rw [World.size_alloc] at sy1 | rw [World.size_setCell] at sy1 | rw [World.size_drew] at sy1))))
      go_returns
      refine ⟨rfl, ?_⟩
      repeat' (first | (with_reducible exact Below.refl _ _) | (with_reducible assumption) | (with_reducible refine Ext.below _ ?_ ?_) | (with_reducible refine Below.on ?_ (by with_reducible assumption) ?_) | (with_reducible refine Below.alloc ?_ ?_ _) | (with_reducible refine Below.drew ?_) | (with_reducible refine Below.setCell ?_ ?_ _) | (with_reducible exact Nat.le_refl _) | omega | (simp; done) | (simp [go_sem]; done) | (simp at *; omega))
    rw [if_pos rfl]
    rw [ht] at ct
    clear ht
    obtain ⟨V, hV⟩ : ∃ V, guessesL l = V := ⟨_, rfl⟩
    rw [hV]
    have hV := Go.Lib.hid hV
    have hP := Go.Lib.hid hP
    go_enter Try.func35, Try.ntmps35
    go_wp2_with (first | ((first | with_reducible refine wp_region_ext2 (by kernel_rfl) (by kernel_rfl) ?_ | with_reducible refine wp_region_ext (by kernel_rfl) (by kernel_rfl) ?_); (repeat (first | go_big_quiet_step ((first | (go_at_call 52; with_reducible exact Calls.ext (ct _)))) | quiet_step ((first | (go_at_call 52; with_reducible exact Calls.ext (ct _)))))); refine wpQuiet_nil ?_; rintro _ ⟨yr, rfl⟩; have syr := Ext.size yr; (repeat (first | rw [World.size_alloc] at syr | rw [World.size_setCell] at syr | rw [World.size_drew] at syr))) | (go_at_call 52; (first | with_reducible refine (Calls.giv2 (ct _)).mono ?_ | with_reducible refine (Calls.giv (ct _)).mono ?_); rintro _ _ ⟨y1, rfl, rfl⟩; have sy1 := Ext.size y1; (repeat (first | rw [World.size_alloc] at sy1 | rw [World.size_setCell] at sy1 | rw [World.size_drew] at sy1))))
    have hBw : Below w.heap.size w y1.now := by repeat' (first | (with_reducible exact Below.refl _ _) | (with_reducible assumption) | (with_reducible refine Ext.below _ ?_ ?_) | (with_reducible refine Below.on ?_ (by with_reducible assumption) ?_) | (with_reducible refine Below.alloc ?_ ?_ _) | (with_reducible refine Below.drew ?_) | (with_reducible refine Below.setCell ?_ ?_ _) | (with_reducible exact Nat.le_refl _) | omega | (simp; done) | (simp [go_sem]; done) | (simp at *; omega))
    have hP := Go.Lib.hid (hP.out.on hBw)
    generalize y1.now = W0 at *
    clear hc2
    go_loopw [15] (fun s W => ∃ (i : Nat) (x : Ext W0), s = .int .i64 i ∧ W = x.now ∧ Hid (i ≤ l.length ∧ guessesL (l.drop i) = V)) (fun s _ => l.length - (intOf s).toNat)
    case atStart => exact ⟨0, ⟨W0, Below.refl _ _⟩, rfl, rfl, Go.Lib.hid ⟨Nat.zero_le _, by simpa using hV.out⟩⟩
    case round =>
      obtain ⟨i, x, rfl, rfl, hi⟩ := hrel
      have xs := x.size
      have hbx := x.below hBw (by omega)
      by_cases hlt : i < l.length
      · have hlt2 : (i : Int) < l.length := by omega
        obtain ⟨B, o, rfl, hB, c1, c2, c3, c4⟩ := hP.out i hlt
        have hE := hi.out.2
        rw [drop_at hlt, guessesL] at hE
        have cg := fun W => isGuess_any l[i].x l[i].y l[i].u l[i].v W
        cases hw : guessB l[i]
        · have eV : V = 2 := by rw [← hE, hw]; rfl
          rw [show guessB ⟨l[i].x, l[i].y, l[i].u, l[i].v⟩ = false from hw] at cg
          clear hE hi hw hV
          subst eV
          generalize l[i].x = g1 at *
          generalize l[i].y = g2 at *
          generalize l[i].u = g3 at *
          generalize l[i].v = g4 at *
          go_wp2_with (first | ((first | with_reducible refine wp_region_ext2 (by kernel_rfl) (by kernel_rfl) ?_ | with_reducible refine wp_region_ext (by kernel_rfl) (by kernel_rfl) ?_); (repeat (first | go_big_quiet_step ((first | (go_at_call 64; with_reducible exact Calls.ext (cg _)))) | quiet_step ((first | (go_at_call 64; with_reducible exact Calls.ext (cg _)))))); refine wpQuiet_nil ?_; rintro _ ⟨yr, rfl⟩; have syr := Ext.size yr; (repeat (first | rw [World.size_alloc] at syr | rw [World.size_setCell] at syr | rw [World.size_drew] at syr)); have : B < yr.now.heap.size := (by omega); have : B ≤ yr.now.heap.size := (by omega); have : B < yr.now.heap.size + 1 + 1 := (by omega)) | (go_at_call 64; (first | with_reducible refine (Calls.giv2 (cg _)).mono ?_ | with_reducible refine (Calls.giv (cg _)).mono ?_); rintro _ _ ⟨y1, rfl, rfl⟩; have sy1 := Ext.size y1; (repeat (first | rw [World.size_alloc] at sy1 | rw [World.size_setCell] at sy1 | rw [World.size_drew] at sy1)); have : B < y1.now.heap.size := (by omega); have : B ≤ y1.now.heap.size := (by omega); have : B < y1.now.heap.size + 1 + 1 := (by omega)))
          go_returns
          refine ⟨rfl, ?_⟩
          repeat' (first | (with_reducible exact Below.refl _ _) | (with_reducible assumption) | (with_reducible refine Ext.below _ ?_ ?_) | (with_reducible refine Below.on ?_ (by with_reducible assumption) ?_) | (with_reducible refine Below.alloc ?_ ?_ _) | (with_reducible refine Below.drew ?_) | (with_reducible refine Below.setCell ?_ ?_ _) | (with_reducible exact Nat.le_refl _) | omega | (simp; done) | (simp [go_sem]; done) | (simp at *; omega))
        · have key : Hid (i + 1 ≤ l.length ∧ guessesL (l.drop (i + 1)) = V) := Go.Lib.hid ⟨hlt, by rw [hw] at hE; simpa using hE⟩
          rw [show guessB ⟨l[i].x, l[i].y, l[i].u, l[i].v⟩ = true from hw] at cg
          clear hE hi hw
          generalize l[i].x = g1 at *
          generalize l[i].y = g2 at *
          generalize l[i].u = g3 at *
          generalize l[i].v = g4 at *
          go_wp2_with (first | ((first | with_reducible refine wp_region_ext2 (by kernel_rfl) (by kernel_rfl) ?_ | with_reducible refine wp_region_ext (by kernel_rfl) (by kernel_rfl) ?_); (repeat (first | go_big_quiet_step ((first | (go_at_call 64; with_reducible exact Calls.ext (cg _)))) | quiet_step ((first | (go_at_call 64; with_reducible exact Calls.ext (cg _)))))); refine wpQuiet_nil ?_; rintro _ ⟨yr, rfl⟩; have syr := Ext.size yr; (repeat (first | rw [World.size_alloc] at syr | rw [World.size_setCell] at syr | rw [World.size_drew] at syr)); have : B < yr.now.heap.size := (by omega); have : B ≤ yr.now.heap.size := (by omega); have : B < yr.now.heap.size + 1 + 1 := (by omega)) | (go_at_call 64; (first | with_reducible refine (Calls.giv2 (cg _)).mono ?_ | with_reducible refine (Calls.giv (cg _)).mono ?_); rintro _ _ ⟨y1, rfl, rfl⟩; have sy1 := Ext.size y1; (repeat (first | rw [World.size_alloc] at sy1 | rw [World.size_setCell] at sy1 | rw [World.size_drew] at sy1)); have : B < y1.now.heap.size := (by omega); have : B ≤ y1.now.heap.size := (by omega); have : B < y1.now.heap.size + 1 + 1 := (by omega)))
          refine ⟨⟨i + 1, ⟨_, ?_⟩, by simp, rfl, key⟩, by simp [intOf]; omega⟩
          repeat' (first | (with_reducible exact Below.refl _ _) | (with_reducible assumption) | (with_reducible refine Ext.below _ ?_ ?_) | (with_reducible refine Below.on ?_ (by with_reducible assumption) ?_) | (with_reducible refine Below.alloc ?_ ?_ _) | (with_reducible refine Below.drew ?_) | (with_reducible refine Below.setCell ?_ ?_ _) | (with_reducible exact Nat.le_refl _) | omega | (simp; done) | (simp [go_sem]; done) | (simp at *; omega))
      · have hge : ¬ (i : Int) < l.length := by omega
        have eV : V = 0 := by have hE := hi.out.2; rw [drop_end hlt, guessesL] at hE; exact hE.symm
        clear hi hV
        subst eV
        go_wp2_with (first | ((first | with_reducible refine wp_region_ext2 (by kernel_rfl) (by kernel_rfl) ?_ | with_reducible refine wp_region_ext (by kernel_rfl) (by kernel_rfl) ?_); (repeat (first | go_big_quiet_step ((first | fail)) | quiet_step ((first | fail)))); refine wpQuiet_nil ?_; rintro _ ⟨yr, rfl⟩; have syr := Ext.size yr; (repeat (first | rw [World.size_alloc] at syr | rw [World.size_setCell] at syr | rw [World.size_drew] at syr))))
        go_returns
        refine ⟨rfl, ?_⟩
        repeat' (first | (with_reducible exact Below.refl _ _) | (with_reducible assumption) | (with_reducible refine Ext.below _ ?_ ?_) | (with_reducible refine Below.on ?_ (by with_reducible assumption) ?_) | (with_reducible refine Below.alloc ?_ ?_ _) | (with_reducible refine Below.drew ?_) | (with_reducible refine Below.setCell ?_ ?_ _) | (with_reducible exact Nat.le_refl _) | omega | (simp; done) | (simp [go_sem]; done) | (simp at *; omega))
end Go.Proofs.Ytehaonlndfjpfaa

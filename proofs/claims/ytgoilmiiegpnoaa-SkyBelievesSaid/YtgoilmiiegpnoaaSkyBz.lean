/- Contracts of BigWorld and BigSky: whether a sky is greater than the statements cover. Condition: the cells that are read. Contract of the statements' big: whether a sky or tracklets are greater than is covered. Condition: the cells that are read. Contracts of leastOf, with the closure that counts misses, and of Believe. Condition: a sky, a tracklet and the guesses in memory. Contract of the reference's Believe. Condition: a sky, a tracklet and the guesses in memory. -/
import Derived.Test.YtgoilmiiegpnoaaSkyF
import Derived.Test.YtgoilmiiegpnoaaSkyV
import Derived.Test.YtgoilmiiegpnoaaSkyAb
import Derived.Test.YtgoilmiiegpnoaaTail
import Derived.Deep.RegionLawGrows
import Derived.Test.YtgoilmiiegpnoaaSkyRl
namespace Go.Proofs.Ytgoilmiiegpnoaa
open Go.RowKit Go.Shelf
attribute [local go_sem] Option.isSome_some Ext.cell Ext.frozen Ext.lt Ext.le Ext.lt_add Ext.le_add Ext.ne Ext.ne' lt2 lt3 lt4 lt5 le2 le3 le4
def bigN (n : Nat) : Bool := (decide (60 < n) && decide (n < 4096)) || decide (4097 < n)
def bigL : List BodyR → Bool
  | [] => false
  | b :: l => if bigN b.track.length then true else bigL l
def bigW (l : List BodyR) : Bool := if 10 < l.length then true else bigL l
def bigS (s : SkyR) : Bool := bigW s.bodies || decide (18 < s.sts.length) || decide (10 < s.cats.length)
set_option maxHeartbeats 4000000 in
theorem BigWorld_any (p : Option Addr) (c : Nat) (l : List BodyR) (h : Int) (w : World) (hl : l.length < 9223372036854775808) (ht : ∀ b ∈ l, b.track.length < 9223372036854775808) (hP : BodiesAt w p l) :
    Calls Try.prog 56 #[wval p l.length c h] w (Gives (.bool (bigW l)) w) := by
  obtain ⟨V, hV⟩ : ∃ V, bigW l = V := ⟨_, rfl⟩
  rw [hV]
  unfold wval bigW at *
  replace ht : ∀ i (hi : i < l.length), l[i].track.length < 9223372036854775808 := fun i hi => ht _ (List.getElem_mem hi)
  replace ht := Go.Lib.hid ht
  by_cases h4 : 10 < l.length
  · rw [if_pos h4] at hV
    have h6 : (10 : Int) < l.length := by omega
    clear h4 hP ht
    subst hV
    clear hl
    generalize l.length = n at *
    go_enter Try.func56, Try.ntmps56
    go_wp2_with (first | ((first | with_reducible refine wp_region_ext2 (by kernel_rfl) (by kernel_rfl) ?_ | with_reducible refine wp_region_ext (by kernel_rfl) (by kernel_rfl) ?_); (repeat (first | go_big_quiet_step ((first | fail)) | quiet_step ((first | fail)))); refine wpQuiet_nil ?_; rintro _ ⟨yr, rfl⟩; have syr := Ext.size yr; (repeat (first | rw [World.size_alloc] at syr | rw [World.size_setCell] at syr | rw [World.size_drew] at syr))))
    go_returns
    refine ⟨rfl, ?_⟩
    repeat' (first | (with_reducible exact Below.refl _ _) | (with_reducible assumption) | (with_reducible refine Ext.below _ ?_ ?_) | (with_reducible refine Below.on ?_ (by with_reducible assumption) ?_) | (with_reducible refine Below.alloc ?_ ?_ _) | (with_reducible refine Below.drew ?_) | (with_reducible refine Below.setCell ?_ ?_ _) | (with_reducible exact Nat.le_refl _) | omega | (simp; done) | (simp [go_sem]; done) | (simp at *; omega))
  rw [if_neg h4] at hV
  have hn : l.length ≤ 10 := by omega
  obtain ⟨n, hln⟩ : ∃ n, l.length = n := ⟨_, rfl⟩
  rw [hln] at h4 hn hl ⊢
  have h6 : ¬ (10 : Int) < n := by omega
  have hln := Go.Lib.hid hln
  clear h4
  have hV := Go.Lib.hid hV
  have hP := Go.Lib.hid hP
  go_enter Try.func56, Try.ntmps56
  go_wp2_with (first | ((first | with_reducible refine wp_region_ext2 (by kernel_rfl) (by kernel_rfl) ?_ | with_reducible refine wp_region_ext (by kernel_rfl) (by kernel_rfl) ?_); (repeat (first | go_big_quiet_step ((first | fail)) | quiet_step ((first | fail)))); refine wpQuiet_nil ?_; rintro _ ⟨yr, rfl⟩; have syr := Ext.size yr; (repeat (first | rw [World.size_alloc] at syr | rw [World.size_setCell] at syr | rw [World.size_drew] at syr))))
  refine wp_named (fun W0 hW => ?_)
  have hBw : Below w.heap.size w W0 := by rw [← hW]; repeat' (first | (with_reducible exact Below.refl _ _) | (with_reducible assumption) | (with_reducible refine Ext.below _ ?_ ?_) | (with_reducible refine Below.on ?_ (by with_reducible assumption) ?_) | (with_reducible refine Below.alloc ?_ ?_ _) | (with_reducible refine Below.drew ?_) | (with_reducible refine Below.setCell ?_ ?_ _) | (with_reducible exact Nat.le_refl _) | omega | (simp; done) | (simp [go_sem]; done) | (simp at *; omega))
  have hs0 : w.heap.size < W0.heap.size := by rw [← hW]; simp
  have b0 : W0.cell? ⟨w.heap.size, 0, none⟩ = some (.slice p n c) := by rw [← hW]; simp [go_sem]
  have hP := Go.Lib.hid (hP.out.on hBw)
  clear hW h6
  go_loopw [3] (fun s W => ∃ (i : Nat) (x : Ext W0), s = .int .i64 i ∧ W = x.now ∧ Hid (i ≤ n ∧ bigL (l.drop i) = V)) (fun s _ => n - (intOf s).toNat)
  case atStart => exact ⟨0, ⟨W0, Below.refl _ _⟩, rfl, rfl, Go.Lib.hid ⟨Nat.zero_le _, by simpa using hV.out⟩⟩
  case round =>
    obtain ⟨i, x, rfl, rfl, hi⟩ := hrel
    have xs := x.size
    have hbx := x.below hBw (by omega)
    have : w.heap.size < (x.now).heap.size := (by omega); have : w.heap.size < (x.now).heap.size + 1 := (by omega); have : w.heap.size < (x.now).heap.size + 1 + 1 := (by omega); have : w.heap.size ≠ (x.now).heap.size := (by omega); have : w.heap.size ≠ (x.now).heap.size + 1 := (by omega)
    by_cases hlt : i < n
    · have hlt2 : (i : Int) < n := by omega
      have hlt' : i < l.length := by rw [hln.out]; exact hlt
      obtain ⟨-, B, o, rfl, hB, q1, q2, q3⟩ := hP.out i hlt'
      have : B < (x.now).heap.size := (by omega); have : B < (x.now).heap.size + 1 := (by omega); have : B < (x.now).heap.size + 1 + 1 := (by omega); have : B ≠ (x.now).heap.size := (by omega); have : B ≠ (x.now).heap.size + 1 := (by omega)
      have hE := hi.out.2
      have hm := ht.out i hlt'
      rw [drop_at hlt', bigL] at hE
      clear q1 q2
      by_cases hw : bigN l[i].track.length = true
      · have eV : V = true := by rw [if_pos hw] at hE; exact hE.symm
        unfold bigN at hw
        clear hE hi hV
        subst eV
        generalize l[i].track.length = m at *
        generalize l[i].tp = u4 at *
        generalize l[i].tc = u5 at *
        simp only [Bool.or_eq_true, Bool.and_eq_true, decide_eq_true_eq] at hw
        by_cases k1 : (60 : Int) < m <;> by_cases k2 : (m : Int) < 4096 <;> by_cases k3 : (4097 : Int) < m
        all_goals (first | (exfalso; omega) | (
          go_wp2_with (first | ((first | with_reducible refine wp_region_ext2 (by kernel_rfl) (by kernel_rfl) ?_ | with_reducible refine wp_region_ext (by kernel_rfl) (by kernel_rfl) ?_); (repeat (first | go_big_quiet_step ((first | fail)) | quiet_step ((first | fail)))); refine wpQuiet_nil ?_; rintro _ ⟨yr, rfl⟩; have syr := Ext.size yr; (repeat (first | rw [World.size_alloc] at syr | rw [World.size_setCell] at syr | rw [World.size_drew] at syr)); have : B < yr.now.heap.size := (by omega); have : B ≤ yr.now.heap.size := (by omega); have : B < yr.now.heap.size + 1 + 1 := (by omega); have : w.heap.size < yr.now.heap.size := (by omega); have : w.heap.size ≤ yr.now.heap.size := (by omega); have : w.heap.size < yr.now.heap.size + 1 + 1 := (by omega)))
          go_returns
          refine ⟨rfl, ?_⟩
          repeat' (first | (with_reducible exact Below.refl _ _) | (with_reducible assumption) | (with_reducible refine Ext.below _ ?_ ?_) | (with_reducible refine Below.on ?_ (by with_reducible assumption) ?_) | (with_reducible refine Below.alloc ?_ ?_ _) | (with_reducible refine Below.drew ?_) | (with_reducible refine Below.setCell ?_ ?_ _) | (with_reducible exact Nat.le_refl _) | omega | (simp; done) | (simp [go_sem]; done) | (simp at *; omega))))
      · have key : Hid (i + 1 ≤ n ∧ bigL (l.drop (i + 1)) = V) := Go.Lib.hid ⟨hlt, by rw [if_neg hw] at hE; exact hE⟩
        unfold bigN at hw
        clear hE hi
        generalize l[i].track.length = m at *
        generalize l[i].tp = u4 at *
        generalize l[i].tc = u5 at *
        simp only [Bool.or_eq_true, Bool.and_eq_true, decide_eq_true_eq] at hw
        by_cases k1 : (60 : Int) < m <;> by_cases k2 : (m : Int) < 4096 <;> by_cases k3 : (4097 : Int) < m
        all_goals (first | (exfalso; omega) | (
          go_wp2_with (first | ((first | with_reducible refine wp_region_ext2 (by kernel_rfl) (by kernel_rfl) ?_ | with_reducible refine wp_region_ext (by kernel_rfl) (by kernel_rfl) ?_); (repeat (first | go_big_quiet_step ((first | fail)) | quiet_step ((first | fail)))); refine wpQuiet_nil ?_; rintro _ ⟨yr, rfl⟩; have syr := Ext.size yr; (repeat (first | rw [World.size_alloc] at syr | rw [World.size_setCell] at syr | rw [World.size_drew] at syr)); have : B < yr.now.heap.size := (by omega); have : B ≤ yr.now.heap.size := (by omega); have : B < yr.now.heap.size + 1 + 1 := (by omega); have : w.heap.size < yr.now.heap.size := (by omega); have : w.heap.size ≤ yr.now.heap.size := (by omega); have : w.heap.size < yr.now.heap.size + 1 + 1 := (by omega)))
          exact ⟨⟨i + 1, x, by simp, rfl, key⟩, by simp [intOf]; omega⟩))
    · have hge : ¬ (i : Int) < n := by omega
      have eV : V = false := by have hE := hi.out.2; rw [drop_end (by rw [hln.out]; exact hlt), bigL] at hE; exact hE.symm
      clear hi hV
      subst eV
      go_wp2_with (first | ((first | with_reducible refine wp_region_ext2 (by kernel_rfl) (by kernel_rfl) ?_ | with_reducible refine wp_region_ext (by kernel_rfl) (by kernel_rfl) ?_); (repeat (first | go_big_quiet_step ((first | fail)) | quiet_step ((first | fail)))); refine wpQuiet_nil ?_; rintro _ ⟨yr, rfl⟩; have syr := Ext.size yr; (repeat (first | rw [World.size_alloc] at syr | rw [World.size_setCell] at syr | rw [World.size_drew] at syr))))
      go_returns
      refine ⟨rfl, ?_⟩
      repeat' (first | (with_reducible exact Below.refl _ _) | (with_reducible assumption) | (with_reducible refine Ext.below _ ?_ ?_) | (with_reducible refine Below.on ?_ (by with_reducible assumption) ?_) | (with_reducible refine Below.alloc ?_ ?_ _) | (with_reducible refine Below.drew ?_) | (with_reducible refine Below.setCell ?_ ?_ _) | (with_reducible exact Nat.le_refl _) | omega | (simp; done) | (simp [go_sem]; done) | (simp at *; omega))
set_option maxHeartbeats 4000000 in
theorem BigSky_any (s : SkyR) (w : World) (hf : s.bodies.length < 9223372036854775808 ∧ (∀ b ∈ s.bodies, b.track.length < 9223372036854775808) ∧ s.sts.length < 9223372036854775808 ∧ s.cats.length < 9223372036854775808) (hP : s.At w) :
    Calls Try.prog 37 #[s.val] w (Gives (.bool (bigS s)) w) := by
  have cb := fun (W : World) (y : Below w.heap.size w W) => BigWorld_any s.bp s.bc s.bodies s.home W hf.1 hf.2.1 (hP.bs.on y)
  unfold SkyR.val wval bigS at *
  obtain ⟨-, -, f1, f2⟩ := hf
  clear hP
  generalize bigW s.bodies = b at *
  generalize s.cats.length = n1 at *; generalize s.cp = n2 at *; generalize s.cc = n3 at *; generalize s.bodies.length = n4 at *; generalize s.bp = n5 at *; generalize s.bc = n6 at *; generalize s.sts.length = n7 at *; generalize s.sp = n8 at *; generalize s.sc = n9 at *; generalize s.home = n0 at *
  by_cases h1 : (18 : Int) < n7 <;> by_cases h2 : (10 : Int) < n1
  all_goals
    have e1 : decide (18 < n7) = decide ((18 : Int) < n7) := by rw [decide_eq_decide]; omega
    have e2 : decide (10 < n1) = decide ((10 : Int) < n1) := by rw [decide_eq_decide]; omega
    rw [e1, e2]
    clear e1 e2
    cases b
    all_goals
      go_enter Try.func37, Try.ntmps37
      go_wp2_with (first | ((first | with_reducible refine wp_region_ext2 (by kernel_rfl) (by kernel_rfl) ?_ | with_reducible refine wp_region_ext (by kernel_rfl) (by kernel_rfl) ?_); (repeat (first | go_big_quiet_step ((first | (go_at_call 56; with_reducible exact Calls.ext (cb _ (by repeat' (first | (with_reducible exact Below.refl _ _) | (with_reducible assumption) | (with_reducible refine Ext.below _ ?_ ?_) | (with_reducible refine Below.on ?_ (by with_reducible assumption) ?_) | (with_reducible refine Below.alloc ?_ ?_ _) | (with_reducible refine Below.drew ?_) | (with_reducible refine Below.setCell ?_ ?_ _) | (with_reducible exact Nat.le_refl _) | omega | (simp; done) | (simp [go_sem]; done) | (simp at *; omega))))))) | quiet_step ((first | (go_at_call 56; with_reducible exact Calls.ext (cb _ (by repeat' (first | (with_reducible exact Below.refl _ _) | (with_reducible assumption) | (with_reducible refine Ext.below _ ?_ ?_) | (with_reducible refine Below.on ?_ (by with_reducible assumption) ?_) | (with_reducible refine Below.alloc ?_ ?_ _) | (with_reducible refine Below.drew ?_) | (with_reducible refine Below.setCell ?_ ?_ _) | (with_reducible exact Nat.le_refl _) | omega | (simp; done) | (simp [go_sem]; done) | (simp at *; omega))))))))); refine wpQuiet_nil ?_; rintro _ ⟨yr, rfl⟩; have syr := Ext.size yr; (repeat (first | rw [World.size_alloc] at syr | rw [World.size_setCell] at syr | rw [World.size_drew] at syr)); have : w.heap.size < yr.now.heap.size := (by omega); have : w.heap.size ≤ yr.now.heap.size := (by omega); have : w.heap.size < yr.now.heap.size + 1 + 1 := (by omega)) | (go_at_call 56; (first | with_reducible refine (Calls.giv2 (cb _ (by repeat' (first | (with_reducible exact Below.refl _ _) | (with_reducible assumption) | (with_reducible refine Ext.below _ ?_ ?_) | (with_reducible refine Below.on ?_ (by with_reducible assumption) ?_) | (with_reducible refine Below.alloc ?_ ?_ _) | (with_reducible refine Below.drew ?_) | (with_reducible refine Below.setCell ?_ ?_ _) | (with_reducible exact Nat.le_refl _) | omega | (simp; done) | (simp [go_sem]; done) | (simp at *; omega))))).mono ?_ | with_reducible refine (Calls.giv (cb _ (by repeat' (first | (with_reducible exact Below.refl _ _) | (with_reducible assumption) | (with_reducible refine Ext.below _ ?_ ?_) | (with_reducible refine Below.on ?_ (by with_reducible assumption) ?_) | (with_reducible refine Below.alloc ?_ ?_ _) | (with_reducible refine Below.drew ?_) | (with_reducible refine Below.setCell ?_ ?_ _) | (with_reducible exact Nat.le_refl _) | omega | (simp; done) | (simp [go_sem]; done) | (simp at *; omega))))).mono ?_); rintro _ _ ⟨y1, rfl, rfl⟩; have sy1 := Ext.size y1; (repeat (first | rw [World.size_alloc] at sy1 | rw [World.size_setCell] at sy1 | rw [World.size_drew] at sy1)); have : w.heap.size < y1.now.heap.size := (by omega); have : w.heap.size ≤ y1.now.heap.size := (by omega); have : w.heap.size < y1.now.heap.size + 1 + 1 := (by omega)))
      go_returns
      refine ⟨by simp [h1, h2], ?_⟩
      repeat' (first | (with_reducible exact Below.refl _ _) | (with_reducible assumption) | (with_reducible refine Ext.below _ ?_ ?_) | (with_reducible refine Below.on ?_ (by with_reducible assumption) ?_) | (with_reducible refine Below.alloc ?_ ?_ _) | (with_reducible refine Below.drew ?_) | (with_reducible refine Below.setCell ?_ ?_ _) | (with_reducible exact Nat.le_refl _) | omega | (simp; done) | (simp [go_sem]; done) | (simp at *; omega))
end Go.Proofs.Ytgoilmiiegpnoaa
namespace Go.Proofs.Ytgoilmiiegpnoaa
open Go.RowKit Go.Shelf
attribute [local go_sem] Option.isSome_some Ext.cell Ext.frozen Ext.lt Ext.le Ext.lt_add Ext.le_add Ext.ne Ext.ne' lt2 lt3 lt4 lt5 le2 le3 le4
def bigT : List TrR → Bool
  | [] => false
  | x :: l => if 66 < x.l.length then true else bigT l
theorem bigT_false {l : List TrR} (h : bigT l = false) : ∀ x ∈ l, x.l.length ≤ 66 := by
  induction l with
  | nil => intro x hx; simp at hx
  | cons y l ih =>
    rw [bigT] at h
    split at h
    · cases h
    · intro x hx
      rcases List.mem_cons.1 hx with rfl | hx
      · omega
      · exact ih h x hx
def bigB (s : SkyR) (n : Nat) (ts : List TrR) : Bool := bigS s || decide (66 < n) || decide (18 < ts.length) || bigT ts
set_option maxRecDepth 100000 in
set_option maxHeartbeats 16000000 in
theorem big_any (s : SkyR) (pg : Option Addr) (n cg : Nat) (p : Option Addr) (c : Nat) (l : List TrR) (w : World) (hf : s.bodies.length < 9223372036854775808 ∧ (∀ b ∈ s.bodies, b.track.length < 9223372036854775808) ∧ s.sts.length < 9223372036854775808 ∧ s.cats.length < 9223372036854775808) (hA : s.At w) (hP : TracksAt w p l) :
    Calls Try.prog 16 #[s.val, .slice pg n cg, .slice p l.length c] w (Gives (.bool (bigB s n l)) w) := by
  have cb := fun (W : World) (y : Below w.heap.size w W) => BigSky_any s W hf (hA.on y)
  obtain ⟨V, hV⟩ : ∃ V, bigB s n l = V := ⟨_, rfl⟩
  rw [hV]
  unfold bigB at hV
  unfold SkyR.val at *
  clear hA hf
  generalize bigS s = b at *
  generalize s.cats.length = n1 at *; generalize s.cp = n2 at *; generalize s.cc = n3 at *; generalize s.bodies.length = n4 at *; generalize s.bp = n5 at *; generalize s.bc = n6 at *; generalize s.sts.length = n7 at *; generalize s.sp = n8 at *; generalize s.sc = n9 at *; generalize s.home = n0 at *
  cases b
  case true =>
    have eV : V = true := by rw [← hV]; simp
    subst eV
    clear hV hP
    go_enter Try.func16, Try.ntmps16
    go_wp2_with (first | ((first | with_reducible refine wp_region_ext2 (by kernel_rfl) (by kernel_rfl) ?_ | with_reducible refine wp_region_ext (by kernel_rfl) (by kernel_rfl) ?_); (repeat (first | go_big_quiet_step ((first | (go_at_call 37; with_reducible exact Calls.ext (cb _ (by repeat' (first | (with_reducible exact Below.refl _ _) | (with_reducible assumption) | (with_reducible refine Ext.below _ ?_ ?_) | (with_reducible refine Below.on ?_ (by with_reducible assumption) ?_) | (with_reducible refine Below.alloc ?_ ?_ _) | (with_reducible refine Below.drew ?_) | (with_reducible refine Below.setCell ?_ ?_ _) | (with_reducible exact Nat.le_refl _) | omega | (simp; done) | (simp [go_sem]; done) | (simp at *; omega))))))) | quiet_step ((first | (go_at_call 37; with_reducible exact Calls.ext (cb _ (by repeat' (first | (with_reducible exact Below.refl _ _) | (with_reducible assumption) | (with_reducible refine Ext.below _ ?_ ?_) | (with_reducible refine Below.on ?_ (by with_reducible assumption) ?_) | (with_reducible refine Below.alloc ?_ ?_ _) | (with_reducible refine Below.drew ?_) | (with_reducible refine Below.setCell ?_ ?_ _) | (with_reducible exact Nat.le_refl _) | omega | (simp; done) | (simp [go_sem]; done) | (simp at *; omega))))))))); refine wpQuiet_nil ?_; rintro _ ⟨yr, rfl⟩; have syr := Ext.size yr; (repeat (first | rw [World.size_alloc] at syr | rw [World.size_setCell] at syr | rw [World.size_drew] at syr))) | (go_at_call 37; (first | with_reducible refine (Calls.giv2 (cb _ (by repeat' (first | (with_reducible exact Below.refl _ _) | (with_reducible assumption) | (with_reducible refine Ext.below _ ?_ ?_) | (with_reducible refine Below.on ?_ (by with_reducible assumption) ?_) | (with_reducible refine Below.alloc ?_ ?_ _) | (with_reducible refine Below.drew ?_) | (with_reducible refine Below.setCell ?_ ?_ _) | (with_reducible exact Nat.le_refl _) | omega | (simp; done) | (simp [go_sem]; done) | (simp at *; omega))))).mono ?_ | with_reducible refine (Calls.giv (cb _ (by repeat' (first | (with_reducible exact Below.refl _ _) | (with_reducible assumption) | (with_reducible refine Ext.below _ ?_ ?_) | (with_reducible refine Below.on ?_ (by with_reducible assumption) ?_) | (with_reducible refine Below.alloc ?_ ?_ _) | (with_reducible refine Below.drew ?_) | (with_reducible refine Below.setCell ?_ ?_ _) | (with_reducible exact Nat.le_refl _) | omega | (simp; done) | (simp [go_sem]; done) | (simp at *; omega))))).mono ?_); rintro _ _ ⟨y1, rfl, rfl⟩; have sy1 := Ext.size y1; (repeat (first | rw [World.size_alloc] at sy1 | rw [World.size_setCell] at sy1 | rw [World.size_drew] at sy1))))
    go_returns
    refine ⟨rfl, ?_⟩
    repeat' (first | (with_reducible exact Below.refl _ _) | (with_reducible assumption) | (with_reducible refine Ext.below _ ?_ ?_) | (with_reducible refine Below.on ?_ (by with_reducible assumption) ?_) | (with_reducible refine Below.alloc ?_ ?_ _) | (with_reducible refine Below.drew ?_) | (with_reducible refine Below.setCell ?_ ?_ _) | (with_reducible exact Nat.le_refl _) | omega | (simp; done) | (simp [go_sem]; done) | (simp at *; omega))
  by_cases h1 : 66 < n
  · have eV : V = true := by rw [← hV]; simp [h1]
    have h1' : (66 : Int) < n := by omega
    subst eV
    clear hV hP h1
    go_enter Try.func16, Try.ntmps16
    go_wp2_with (first | ((first | with_reducible refine wp_region_ext2 (by kernel_rfl) (by kernel_rfl) ?_ | with_reducible refine wp_region_ext (by kernel_rfl) (by kernel_rfl) ?_); (repeat (first | go_big_quiet_step ((first | (go_at_call 37; with_reducible exact Calls.ext (cb _ (by repeat' (first | (with_reducible exact Below.refl _ _) | (with_reducible assumption) | (with_reducible refine Ext.below _ ?_ ?_) | (with_reducible refine Below.on ?_ (by with_reducible assumption) ?_) | (with_reducible refine Below.alloc ?_ ?_ _) | (with_reducible refine Below.drew ?_) | (with_reducible refine Below.setCell ?_ ?_ _) | (with_reducible exact Nat.le_refl _) | omega | (simp; done) | (simp [go_sem]; done) | (simp at *; omega))))))) | quiet_step ((first | (go_at_call 37; with_reducible exact Calls.ext (cb _ (by repeat' (first | (with_reducible exact Below.refl _ _) | (with_reducible assumption) | (with_reducible refine Ext.below _ ?_ ?_) | (with_reducible refine Below.on ?_ (by with_reducible assumption) ?_) | (with_reducible refine Below.alloc ?_ ?_ _) | (with_reducible refine Below.drew ?_) | (with_reducible refine Below.setCell ?_ ?_ _) | (with_reducible exact Nat.le_refl _) | omega | (simp; done) | (simp [go_sem]; done) | (simp at *; omega))))))))); refine wpQuiet_nil ?_; rintro _ ⟨yr, rfl⟩; have syr := Ext.size yr; (repeat (first | rw [World.size_alloc] at syr | rw [World.size_setCell] at syr | rw [World.size_drew] at syr))) | (go_at_call 37; (first | with_reducible refine (Calls.giv2 (cb _ (by repeat' (first | (with_reducible exact Below.refl _ _) | (with_reducible assumption) | (with_reducible refine Ext.below _ ?_ ?_) | (with_reducible refine Below.on ?_ (by with_reducible assumption) ?_) | (with_reducible refine Below.alloc ?_ ?_ _) | (with_reducible refine Below.drew ?_) | (with_reducible refine Below.setCell ?_ ?_ _) | (with_reducible exact Nat.le_refl _) | omega | (simp; done) | (simp [go_sem]; done) | (simp at *; omega))))).mono ?_ | with_reducible refine (Calls.giv (cb _ (by repeat' (first | (with_reducible exact Below.refl _ _) | (with_reducible assumption) | (with_reducible refine Ext.below _ ?_ ?_) | (with_reducible refine Below.on ?_ (by with_reducible assumption) ?_) | (with_reducible refine Below.alloc ?_ ?_ _) | (with_reducible refine Below.drew ?_) | (with_reducible refine Below.setCell ?_ ?_ _) | (with_reducible exact Nat.le_refl _) | omega | (simp; done) | (simp [go_sem]; done) | (simp at *; omega))))).mono ?_); rintro _ _ ⟨y1, rfl, rfl⟩; have sy1 := Ext.size y1; (repeat (first | rw [World.size_alloc] at sy1 | rw [World.size_setCell] at sy1 | rw [World.size_drew] at sy1))))
    go_returns
    refine ⟨rfl, ?_⟩
    repeat' (first | (with_reducible exact Below.refl _ _) | (with_reducible assumption) | (with_reducible refine Ext.below _ ?_ ?_) | (with_reducible refine Below.on ?_ (by with_reducible assumption) ?_) | (with_reducible refine Below.alloc ?_ ?_ _) | (with_reducible refine Below.drew ?_) | (with_reducible refine Below.setCell ?_ ?_ _) | (with_reducible exact Nat.le_refl _) | omega | (simp; done) | (simp [go_sem]; done) | (simp at *; omega))
  have h1' : ¬ (66 : Int) < n := by omega
  by_cases h2 : 18 < l.length
  · have eV : V = true := by rw [← hV]; simp [h2]
    have h2' : (18 : Int) < l.length := by omega
    subst eV
    clear hV hP h1 h2
    go_enter Try.func16, Try.ntmps16
    go_wp2_with (first | ((first | with_reducible refine wp_region_ext2 (by kernel_rfl) (by kernel_rfl) ?_ | with_reducible refine wp_region_ext (by kernel_rfl) (by kernel_rfl) ?_); (repeat (first | go_big_quiet_step ((first | (go_at_call 37; with_reducible exact Calls.ext (cb _ (by repeat' (first | (with_reducible exact Below.refl _ _) | (with_reducible assumption) | (with_reducible refine Ext.below _ ?_ ?_) | (with_reducible refine Below.on ?_ (by with_reducible assumption) ?_) | (with_reducible refine Below.alloc ?_ ?_ _) | (with_reducible refine Below.drew ?_) | (with_reducible refine Below.setCell ?_ ?_ _) | (with_reducible exact Nat.le_refl _) | omega | (simp; done) | (simp [go_sem]; done) | (simp at *; omega))))))) | quiet_step ((first | (go_at_call 37; with_reducible exact Calls.ext (cb _ (by repeat' (first | (with_reducible exact Below.refl _ _) | (with_reducible assumption) | (with_reducible refine Ext.below _ ?_ ?_) | (with_reducible refine Below.on ?_ (by with_reducible assumption) ?_) | (with_reducible refine Below.alloc ?_ ?_ _) | (with_reducible refine Below.drew ?_) | (with_reducible refine Below.setCell ?_ ?_ _) | (with_reducible exact Nat.le_refl _) | omega | (simp; done) | (simp [go_sem]; done) | (simp at *; omega))))))))); refine wpQuiet_nil ?_; rintro _ ⟨yr, rfl⟩; have syr := Ext.size yr; (repeat (first | rw [World.size_alloc] at syr | rw [World.size_setCell] at syr | rw [World.size_drew] at syr))) | (go_at_call 37; (first | with_reducible refine (Calls.giv2 (cb _ (by repeat' (first | (with_reducible exact Below.refl _ _) | (with_reducible assumption) | (with_reducible refine Ext.below _ ?_ ?_) | (with_reducible refine Below.on ?_ (by with_reducible assumption) ?_) | (with_reducible refine Below.alloc ?_ ?_ _) | (with_reducible refine Below.drew ?_) | (with_reducible refine Below.setCell ?_ ?_ _) | (with_reducible exact Nat.le_refl _) | omega | (simp; done) | (simp [go_sem]; done) | (simp at *; omega))))).mono ?_ | with_reducible refine (Calls.giv (cb _ (by repeat' (first | (with_reducible exact Below.refl _ _) | (with_reducible assumption) | (with_reducible refine Ext.below _ ?_ ?_) | (with_reducible refine Below.on ?_ (by with_reducible assumption) ?_) | (with_reducible refine Below.alloc ?_ ?_ _) | (with_reducible refine Below.drew ?_) | (with_reducible refine Below.setCell ?_ ?_ _) | (with_reducible exact Nat.le_refl _) | omega | (simp; done) | (simp [go_sem]; done) | (simp at *; omega))))).mono ?_); rintro _ _ ⟨y1, rfl, rfl⟩; have sy1 := Ext.size y1; (repeat (first | rw [World.size_alloc] at sy1 | rw [World.size_setCell] at sy1 | rw [World.size_drew] at sy1))))
    go_returns
    refine ⟨rfl, ?_⟩
    repeat' (first | (with_reducible exact Below.refl _ _) | (with_reducible assumption) | (with_reducible refine Ext.below _ ?_ ?_) | (with_reducible refine Below.on ?_ (by with_reducible assumption) ?_) | (with_reducible refine Below.alloc ?_ ?_ _) | (with_reducible refine Below.drew ?_) | (with_reducible refine Below.setCell ?_ ?_ _) | (with_reducible exact Nat.le_refl _) | omega | (simp; done) | (simp [go_sem]; done) | (simp at *; omega))
  have h2' : ¬ (18 : Int) < l.length := by omega
  have hn : l.length ≤ 18 := by omega
  have hV : bigT l = V := by rw [← hV]; simp [h1, h2]
  clear h1 h2
  have hV := Go.Lib.hid hV
  have hP := Go.Lib.hid hP
  go_enter Try.func16, Try.ntmps16
  go_wp2_with (first | ((first | with_reducible refine wp_region_ext2 (by kernel_rfl) (by kernel_rfl) ?_ | with_reducible refine wp_region_ext (by kernel_rfl) (by kernel_rfl) ?_); (repeat (first | go_big_quiet_step ((first | (go_at_call 37; with_reducible exact Calls.ext (cb _ (by repeat' (first | (with_reducible exact Below.refl _ _) | (with_reducible assumption) | (with_reducible refine Ext.below _ ?_ ?_) | (with_reducible refine Below.on ?_ (by with_reducible assumption) ?_) | (with_reducible refine Below.alloc ?_ ?_ _) | (with_reducible refine Below.drew ?_) | (with_reducible refine Below.setCell ?_ ?_ _) | (with_reducible exact Nat.le_refl _) | omega | (simp; done) | (simp [go_sem]; done) | (simp at *; omega))))))) | quiet_step ((first | (go_at_call 37; with_reducible exact Calls.ext (cb _ (by repeat' (first | (with_reducible exact Below.refl _ _) | (with_reducible assumption) | (with_reducible refine Ext.below _ ?_ ?_) | (with_reducible refine Below.on ?_ (by with_reducible assumption) ?_) | (with_reducible refine Below.alloc ?_ ?_ _) | (with_reducible refine Below.drew ?_) | (with_reducible refine Below.setCell ?_ ?_ _) | (with_reducible exact Nat.le_refl _) | omega | (simp; done) | (simp [go_sem]; done) | (simp at *; omega))))))))); refine wpQuiet_nil ?_; rintro _ ⟨yr, rfl⟩; have syr := Ext.size yr; (repeat (first | rw [World.size_alloc] at syr | rw [World.size_setCell] at syr | rw [World.size_drew] at syr))) | (go_at_call 37; (first | with_reducible refine (Calls.giv2 (cb _ (by repeat' (first | (with_reducible exact Below.refl _ _) | (with_reducible assumption) | (with_reducible refine Ext.below _ ?_ ?_) | (with_reducible refine Below.on ?_ (by with_reducible assumption) ?_) | (with_reducible refine Below.alloc ?_ ?_ _) | (with_reducible refine Below.drew ?_) | (with_reducible refine Below.setCell ?_ ?_ _) | (with_reducible exact Nat.le_refl _) | omega | (simp; done) | (simp [go_sem]; done) | (simp at *; omega))))).mono ?_ | with_reducible refine (Calls.giv (cb _ (by repeat' (first | (with_reducible exact Below.refl _ _) | (with_reducible assumption) | (with_reducible refine Ext.below _ ?_ ?_) | (with_reducible refine Below.on ?_ (by with_reducible assumption) ?_) | (with_reducible refine Below.alloc ?_ ?_ _) | (with_reducible refine Below.drew ?_) | (with_reducible refine Below.setCell ?_ ?_ _) | (with_reducible exact Nat.le_refl _) | omega | (simp; done) | (simp [go_sem]; done) | (simp at *; omega))))).mono ?_); rintro _ _ ⟨y1, rfl, rfl⟩; have sy1 := Ext.size y1; (repeat (first | rw [World.size_alloc] at sy1 | rw [World.size_setCell] at sy1 | rw [World.size_drew] at sy1))))
  have hBw : Below w.heap.size w y1.now := by repeat' (first | (with_reducible exact Below.refl _ _) | (with_reducible assumption) | (with_reducible refine Ext.below _ ?_ ?_) | (with_reducible refine Below.on ?_ (by with_reducible assumption) ?_) | (with_reducible refine Below.alloc ?_ ?_ _) | (with_reducible refine Below.drew ?_) | (with_reducible refine Below.setCell ?_ ?_ _) | (with_reducible exact Nat.le_refl _) | omega | (simp; done) | (simp [go_sem]; done) | (simp at *; omega))
  have hP := Go.Lib.hid (hP.out.on hBw)
  generalize y1.now = W0 at *
  go_loopw [7] (fun s W => ∃ (i : Nat) (x : Ext W0), s = .int .i64 i ∧ W = x.now ∧ Hid (i ≤ l.length ∧ bigT (l.drop i) = V)) (fun s _ => l.length - (intOf s).toNat)
  case atStart => exact ⟨0, ⟨W0, Below.refl _ _⟩, rfl, rfl, Go.Lib.hid ⟨Nat.zero_le _, by simpa using hV.out⟩⟩
  case round =>
    obtain ⟨i, x, rfl, rfl, hi⟩ := hrel
    have xs := x.size
    have hbx := x.below hBw (by omega)
    by_cases hlt : i < l.length
    · have hlt2 : (i : Int) < l.length := by omega
      obtain ⟨-, B, o, rfl, hB, c1⟩ := hP.out i hlt
      have hE := hi.out.2
      rw [drop_at hlt, bigT] at hE
      have : B < (x.now).heap.size := (by omega); have : B < (x.now).heap.size + 1 := (by omega); have : B < (x.now).heap.size + 1 + 1 := (by omega); have : B ≠ (x.now).heap.size := (by omega); have : B ≠ (x.now).heap.size + 1 := (by omega)
      by_cases h66 : 66 < l[i].l.length
      · rw [if_pos h66] at hE
        have h66' : (66 : Int) < l[i].l.length := by omega
        clear hi hV h66
        subst hE
        generalize l[i].l.length = g1 at *
        generalize l[i].p = g2 at *
        generalize l[i].c = g3 at *
        go_wp2_with (first | ((first | with_reducible refine wp_region_ext2 (by kernel_rfl) (by kernel_rfl) ?_ | with_reducible refine wp_region_ext (by kernel_rfl) (by kernel_rfl) ?_); (repeat (first | go_big_quiet_step ((first | fail)) | quiet_step ((first | fail)))); refine wpQuiet_nil ?_; rintro _ ⟨yr, rfl⟩; have syr := Ext.size yr; (repeat (first | rw [World.size_alloc] at syr | rw [World.size_setCell] at syr | rw [World.size_drew] at syr)); have : B < yr.now.heap.size := (by omega); have : B ≤ yr.now.heap.size := (by omega); have : B < yr.now.heap.size + 1 + 1 := (by omega)))
        go_returns
        refine ⟨rfl, ?_⟩
        repeat' (first | (with_reducible exact Below.refl _ _) | (with_reducible assumption) | (with_reducible refine Ext.below _ ?_ ?_) | (with_reducible refine Below.on ?_ (by with_reducible assumption) ?_) | (with_reducible refine Below.alloc ?_ ?_ _) | (with_reducible refine Below.drew ?_) | (with_reducible refine Below.setCell ?_ ?_ _) | (with_reducible exact Nat.le_refl _) | omega | (simp; done) | (simp [go_sem]; done) | (simp at *; omega))
      · have h66' : ¬ (66 : Int) < l[i].l.length := by omega
        have key : Hid (i + 1 ≤ l.length ∧ bigT (l.drop (i + 1)) = V) := Go.Lib.hid ⟨hlt, by rw [if_neg h66] at hE; exact hE⟩
        clear hE hi h66
        generalize l[i].l.length = g1 at *
        generalize l[i].p = g2 at *
        generalize l[i].c = g3 at *
        go_wp2_with (first | ((first | with_reducible refine wp_region_ext2 (by kernel_rfl) (by kernel_rfl) ?_ | with_reducible refine wp_region_ext (by kernel_rfl) (by kernel_rfl) ?_); (repeat (first | go_big_quiet_step ((first | fail)) | quiet_step ((first | fail)))); refine wpQuiet_nil ?_; rintro _ ⟨yr, rfl⟩; have syr := Ext.size yr; (repeat (first | rw [World.size_alloc] at syr | rw [World.size_setCell] at syr | rw [World.size_drew] at syr)); have : B < yr.now.heap.size := (by omega); have : B ≤ yr.now.heap.size := (by omega); have : B < yr.now.heap.size + 1 + 1 := (by omega)))
        exact ⟨⟨i + 1, x, by simp, rfl, key⟩, by simp [intOf]; omega⟩
    · have hge : ¬ (i : Int) < l.length := by omega
      have eV : V = false := by have hE := hi.out.2; rw [drop_end hlt, bigT] at hE; exact hE.symm
      clear hi hV
      subst eV
      go_wp2_with (first | ((first | with_reducible refine wp_region_ext2 (by kernel_rfl) (by kernel_rfl) ?_ | with_reducible refine wp_region_ext (by kernel_rfl) (by kernel_rfl) ?_); (repeat (first | go_big_quiet_step ((first | fail)) | quiet_step ((first | fail)))); refine wpQuiet_nil ?_; rintro _ ⟨yr, rfl⟩; have syr := Ext.size yr; (repeat (first | rw [World.size_alloc] at syr | rw [World.size_setCell] at syr | rw [World.size_drew] at syr))))
      go_returns
      refine ⟨rfl, ?_⟩
      repeat' (first | (with_reducible exact Below.refl _ _) | (with_reducible assumption) | (with_reducible refine Ext.below _ ?_ ?_) | (with_reducible refine Below.on ?_ (by with_reducible assumption) ?_) | (with_reducible refine Below.alloc ?_ ?_ _) | (with_reducible refine Below.drew ?_) | (with_reducible refine Below.setCell ?_ ?_ _) | (with_reducible exact Nat.le_refl _) | omega | (simp; done) | (simp [go_sem]; done) | (simp at *; omega))
end Go.Proofs.Ytgoilmiiegpnoaa
namespace Go.Proofs.Ytgoilmiiegpnoaa
open Go.RowKit Go.Shelf
attribute [local go_sem] Option.isSome_some Ext.cell Ext.frozen Ext.lt Ext.le Ext.lt_add Ext.le_add Ext.ne Ext.ne' lt2 lt3 lt4 lt5 le2 le3 le4
/-- The number of the part with the least size, the first one of equal ones. -/
def leastI {α : Type} (F : α → Int) : Int → Int → Nat → List α → Int
  | _, best, _, [] => best
  | least, best, i, g :: l => if i = 0 ∨ F g < least then leastI F (F g) i (i + 1) l else leastI F least best (i + 1) l
theorem leastI_in {α : Type} (F : α → Int) : ∀ (l : List α) (least best : Int) (i : Nat), leastI F least best i l = best ∨ ((i : Int) ≤ leastI F least best i l ∧ leastI F least best i l < i + l.length) := by
  intro l
  induction l with
  | nil => intro least best i; exact .inl rfl
  | cons g l ih =>
    intro least best i
    rw [leastI]
    simp only [List.length_cons]
    split
    · right
      rcases ih (F g) i (i + 1) with h | h <;> omega
    · rcases ih least best (i + 1) with h | h
      · exact .inl h
      · right; omega
theorem missA_len (g : StateR) (t : Int) : ∀ (ks : List LookR) (acc : List Int) (i : Nat), (missA g t acc i ks).length ≤ acc.length + ks.length := by
  intro ks
  induction ks with
  | nil => intro acc i; rw [missA]; simp
  | cons k ks ih =>
    intro acc i
    rw [missA]
    have h1 := ih (if missB g t k then acc ++ [(i : Int)] else acc) (i + 1)
    have h2 : (if missB g t k then acc ++ [(i : Int)] else acc).length ≤ acc.length + 1 := by split <;> simp
    rw [List.length_cons]
    omega
structure BelAt (W : World) (LB TB : Nat) (ks : List LookR) (t : Int) : Prop where
  l : ∃ g o n c pk ck, W.cell? ⟨LB, 0, none⟩ = some (.slice (some ⟨g, o, none⟩) n c) ∧ 0 < n ∧ g < W.heap.size ∧ W.cell? ⟨g, o, none⟩ = some (.slice pk ks.length ck) ∧ LooksAt W pk ks
  lb : LB < W.heap.size
  tb : TB < W.heap.size
  t : W.cell? ⟨TB, 0, none⟩ = some (.int .i64 t)
theorem BelAt.ext {W : World} {LB TB : Nat} {ks : List LookR} {t : Int} (h : BelAt W LB TB ks t) (x : Ext W) : BelAt x.now LB TB ks t := by
  obtain ⟨g, o, n, c, pk, ck, h1, h2, h3, h4, h5⟩ := h.l
  exact ⟨⟨g, o, n, c, pk, ck, (x.cell h.lb).trans h1, h2, x.lt h3, (x.cell h3).trans h4, h5.on x.grew⟩, x.lt h.lb, x.lt h.tb, (x.cell h.tb).trans h.t⟩
theorem BelAt.on {W W' : World} {LB TB : Nat} {ks : List LookR} {t : Int} (h : BelAt W LB TB ks t) (b : Below W.heap.size W W') : BelAt W' LB TB ks t := h.ext ⟨W', b⟩
set_option maxRecDepth 100000 in
set_option maxHeartbeats 4000000 in
theorem Believe1_any (g : StateR) (t : Int) (LB TB : Nat) (ks : List LookR) (w : World) (hg : guessB g = true) (ht : tickB t = true) (hn : ks.length ≤ 4096) (hP : BelAt w LB TB ks t) (hF : ∀ j (h : j < ks.length), ks[j].Fit) :
    Calls Try.prog 35 #[.agg #[.int .i64 g.x, .int .i64 g.y, .int .i64 g.u, .int .i64 g.v], .pointer (some ⟨LB, 0, none⟩), .pointer (some ⟨TB, 0, none⟩)] w (Gives (.int .i64 (missL g t ks).length) w) := by
  obtain ⟨⟨gl, o, n, c, pk, ck, h1, h2, h3, h4, h5⟩, hl, htb, h6⟩ := hP
  have cm := fun (W : World) (y : Below w.heap.size w W) => misses_any g t pk ck ks W hg ht hn (h5.on y) hF
  have hn2 : (0 : Int) < (n : Int) := by omega
  generalize missL g t ks = M at *
  obtain ⟨gx, gy, gu, gv⟩ := g
  simp only at *
  clear hg ht hF h5
  go_enter Try.func35, Try.ntmps35
  go_wp2_with fail
  (first | with_reducible refine wp_region_ext2_heads 5 (by kernel_rfl) (by kernel_rfl) ?_ | with_reducible refine wp_region_ext_heads 5 (by kernel_rfl) (by kernel_rfl) ?_); simp only [List.take_succ_cons, List.take_zero, List.length_cons, List.length_nil, Nat.reduceAdd, Nat.reduceSub]; (repeat (first | go_big_quiet_step (fail) | quiet_step (fail))); refine wpQuiet_nil ?_; rintro _ ⟨yr, rfl⟩
  have syr := yr.size
  have hbr : Below w.heap.size w yr.now := by repeat' (first | (with_reducible exact Below.refl _ _) | (with_reducible assumption) | (with_reducible refine Ext.below _ ?_ ?_) | (with_reducible refine Below.on ?_ (by with_reducible assumption) ?_) | (with_reducible refine Below.alloc ?_ ?_ _) | (with_reducible refine Below.drew ?_) | (with_reducible refine Below.setCell ?_ ?_ _) | (with_reducible exact Nat.le_refl _) | omega | (simp; done) | (simp [go_sem]; done) | (simp at *; omega))
  refine wpAny_ready (rs := [5]) (by kernel_rfl) (by simp) ?_
  refine AllReady.cons rfl (fun K hK => ?_) AllReady.nil
  go_simp
  go_at_call 27
  refine (cm _ hbr).mono ?_
  rintro _ W6 ⟨hb6, v6, rfl, how6⟩
  obtain ⟨p6, n6, c6, rfl⟩ := owns_isSlice how6
  obtain rfl := owns_len how6
  have hbw6 : Below w.heap.size w W6 := by
    refine hbr.trans (hb6.mono ?_)
    have := hbr.size
    omega
  refine hK _ _ ?_
  clear hK K
  refine wpAny_ready (rs := [6]) (by kernel_rfl) (by simp) ?_
  refine AllReady.cons rfl (fun K hK => ?_) AllReady.nil
  go_simp
  refine hK _ _ ?_
  clear hK K
  refine wpAny_ready (rs := [7]) (by kernel_rfl) (by simp) ?_
  refine AllReady.cons rfl (fun K hK => ?_) AllReady.nil
  go_simp
  refine hK _ _ ?_
  clear hK K
  refine wpAny_done (by kernel_rfl) ?_ _
  go_wp2_with (first | ((first | with_reducible refine wp_region_ext2 (by kernel_rfl) (by kernel_rfl) ?_ | with_reducible refine wp_region_ext (by kernel_rfl) (by kernel_rfl) ?_); (repeat (first | go_big_quiet_step ((first | fail)) | quiet_step ((first | fail)))); refine wpQuiet_nil ?_; rintro _ ⟨yr, rfl⟩; have syr := Ext.size yr; (repeat (first | rw [World.size_alloc] at syr | rw [World.size_setCell] at syr | rw [World.size_drew] at syr))))
  go_returns
  refine ⟨rfl, ?_⟩
  repeat' (first | (with_reducible exact Below.refl _ _) | (with_reducible assumption) | (with_reducible refine Ext.below _ ?_ ?_) | (with_reducible refine Below.on ?_ (by with_reducible assumption) ?_) | (with_reducible refine Below.alloc ?_ ?_ _) | (with_reducible refine Below.drew ?_) | (with_reducible refine Below.setCell ?_ ?_ _) | (with_reducible exact Nat.le_refl _) | omega | (simp; done) | (simp [go_sem]; done) | (simp at *; omega))
set_option maxRecDepth 100000 in
set_option maxHeartbeats 8000000 in
theorem leastOf_any (gp : Option Addr) (gc : Nat) (gs : List StateR) (t : Int) (LB TB : Nat) (ks : List LookR) (w : World) (hG : StatesAt w gp gs) (hg : ∀ g ∈ gs, guessB g = true) (hgl : gs.length ≤ 64) (ht : tickB t = true) (hn : ks.length ≤ 4096) (hP : BelAt w LB TB ks t) (hF : ∀ j (h : j < ks.length), ks[j].Fit) :
    Calls Try.prog 34 #[.slice gp gs.length gc, .func (.func 35) #[] #[.pointer (some ⟨LB, 0, none⟩), .pointer (some ⟨TB, 0, none⟩)]] w (Gives (.int .i64 (leastI (fun g => ((missL g t ks).length : Int)) 0 0 0 gs)) w) := by
  have cb := Go.Lib.hid (fun j (h : j < gs.length) (W : World) (y : Below w.heap.size w W) => Believe1_any gs[j] t LB TB ks W (hg _ (List.getElem_mem h)) ht hn (hP.on y) hF)
  have hml : Hid (∀ j (h : j < gs.length), (missL gs[j] t ks).length ≤ 4096) := Go.Lib.hid fun j h => by
    have := missA_len gs[j] t ks [] 0
    unfold missL
    simp only [List.length_nil] at this
    omega
  obtain ⟨V, hV⟩ : ∃ V, leastI (fun g => ((missL g t ks).length : Int)) 0 0 0 gs = V := ⟨_, rfl⟩
  rw [hV]
  have hV := Go.Lib.hid hV
  have hG := Go.Lib.hid hG
  clear hg ht hn hP hF
  go_enter Try.func34, Try.ntmps34
  go_wp2_with fail
  refine wp_named (fun W0 hW => ?_)
  have hB0 : Below w.heap.size w W0 := by rw [← hW]; repeat' (first | (with_reducible exact Below.refl _ _) | (with_reducible assumption) | (with_reducible refine Ext.below _ ?_ ?_) | (with_reducible refine Below.on ?_ (by with_reducible assumption) ?_) | (with_reducible refine Below.alloc ?_ ?_ _) | (with_reducible refine Below.drew ?_) | (with_reducible refine Below.setCell ?_ ?_ _) | (with_reducible exact Nat.le_refl _) | omega | (simp; done) | (simp [go_sem]; done) | (simp at *; omega))
  have hG0 := Go.Lib.hid (hG.out.on hB0)
  clear hW hG
  go_loopw [5, 6, 12] (fun a b u W => ∃ (i : Nat) (x : Ext W0) (least best : Int), a = .int .i64 least ∧ b = .int .i64 best ∧ u = .int .i64 i ∧ W = x.now ∧ Hid (i ≤ gs.length ∧ leastI (fun g => ((missL g t ks).length : Int)) least best i (gs.drop i) = V)) (fun _ _ u _ => gs.length - (intOf u).toNat)
  case atStart => exact ⟨0, ⟨W0, Below.refl _ _⟩, 0, 0, rfl, rfl, rfl, rfl, Go.Lib.hid ⟨Nat.zero_le _, by simpa using hV.out⟩⟩
  case round =>
    obtain ⟨i, x, least, best, rfl, rfl, rfl, rfl, hi⟩ := hrel
    have xs := x.size
    have hbx := x.below hB0 (by have := hB0.size; omega)
    have hwx := hbx.size
    by_cases hlt : i < gs.length
    · have hlt2 : (i : Int) < gs.length := by omega
      obtain ⟨B, o, rfl, hB, r1, r2, r3, r4⟩ := hG0.out i hlt
      have hE := hi.out.2
      rw [drop_at hlt, leastI] at hE
      have cb := fun (W : World) (y : Below w.heap.size w W) => cb.out i hlt W y
      have hm := hml.out i hlt
      have : B < (x.now).heap.size := (by omega); have : B < (x.now).heap.size + 1 := (by omega); have : B < (x.now).heap.size + 1 + 1 := (by omega); have : B ≠ (x.now).heap.size := (by omega); have : B ≠ (x.now).heap.size + 1 := (by omega)
      by_cases hc : i = 0 ∨ ((missL gs[i] t ks).length : Int) < least
      · rw [if_pos hc] at hE
        have key : Hid (i + 1 ≤ gs.length ∧ leastI (fun g => ((missL g t ks).length : Int)) ((missL gs[i] t ks).length : Int) i (i + 1) (gs.drop (i + 1)) = V) := Go.Lib.hid ⟨hlt, hE⟩
        clear hE hi hml hV
        generalize (missL gs[i] t ks).length = ml at *
        generalize gs[i].x = g1' at *
        generalize gs[i].y = g2' at *
        generalize gs[i].u = g3' at *
        generalize gs[i].v = g4' at *
        by_cases hz : i = 0
        · clear hc
          subst hz
          simp only [Nat.zero_mul, Nat.add_zero] at r1 r2 r3 r4
          go_wp2_with (first | ((first | with_reducible refine wp_region_ext2 (by kernel_rfl) (by kernel_rfl) ?_ | with_reducible refine wp_region_ext (by kernel_rfl) (by kernel_rfl) ?_); (repeat (first | go_big_quiet_step ((first | (go_at_call 35; with_reducible exact Calls.ext (cb _ (by repeat' (first | (with_reducible exact Below.refl _ _) | (with_reducible assumption) | (with_reducible refine Ext.below _ ?_ ?_) | (with_reducible refine Below.on ?_ (by with_reducible assumption) ?_) | (with_reducible refine Below.alloc ?_ ?_ _) | (with_reducible refine Below.drew ?_) | (with_reducible refine Below.setCell ?_ ?_ _) | (with_reducible exact Nat.le_refl _) | omega | (simp; done) | (simp [go_sem]; done) | (simp at *; omega))))))) | quiet_step ((first | (go_at_call 35; with_reducible exact Calls.ext (cb _ (by repeat' (first | (with_reducible exact Below.refl _ _) | (with_reducible assumption) | (with_reducible refine Ext.below _ ?_ ?_) | (with_reducible refine Below.on ?_ (by with_reducible assumption) ?_) | (with_reducible refine Below.alloc ?_ ?_ _) | (with_reducible refine Below.drew ?_) | (with_reducible refine Below.setCell ?_ ?_ _) | (with_reducible exact Nat.le_refl _) | omega | (simp; done) | (simp [go_sem]; done) | (simp at *; omega))))))))); refine wpQuiet_nil ?_; rintro _ ⟨yr, rfl⟩; have syr := Ext.size yr; (repeat (first | rw [World.size_alloc] at syr | rw [World.size_setCell] at syr | rw [World.size_drew] at syr)); have : B < yr.now.heap.size := (by omega); have : B ≤ yr.now.heap.size := (by omega); have : B < yr.now.heap.size + 1 + 1 := (by omega)) | (go_at_call 35; (first | with_reducible refine (Calls.giv2 (cb _ (by repeat' (first | (with_reducible exact Below.refl _ _) | (with_reducible assumption) | (with_reducible refine Ext.below _ ?_ ?_) | (with_reducible refine Below.on ?_ (by with_reducible assumption) ?_) | (with_reducible refine Below.alloc ?_ ?_ _) | (with_reducible refine Below.drew ?_) | (with_reducible refine Below.setCell ?_ ?_ _) | (with_reducible exact Nat.le_refl _) | omega | (simp; done) | (simp [go_sem]; done) | (simp at *; omega))))).mono ?_ | with_reducible refine (Calls.giv (cb _ (by repeat' (first | (with_reducible exact Below.refl _ _) | (with_reducible assumption) | (with_reducible refine Ext.below _ ?_ ?_) | (with_reducible refine Below.on ?_ (by with_reducible assumption) ?_) | (with_reducible refine Below.alloc ?_ ?_ _) | (with_reducible refine Below.drew ?_) | (with_reducible refine Below.setCell ?_ ?_ _) | (with_reducible exact Nat.le_refl _) | omega | (simp; done) | (simp [go_sem]; done) | (simp at *; omega))))).mono ?_); rintro _ _ ⟨y1, rfl, rfl⟩; have sy1 := Ext.size y1; (repeat (first | rw [World.size_alloc] at sy1 | rw [World.size_setCell] at sy1 | rw [World.size_drew] at sy1)); have : B < y1.now.heap.size := (by omega); have : B ≤ y1.now.heap.size := (by omega); have : B < y1.now.heap.size + 1 + 1 := (by omega)))
          refine ⟨⟨0 + 1, ⟨_, ?_⟩, _, _, rfl, rfl, by simp, rfl, key⟩, by simp [intOf]; omega⟩
          repeat' (first | (with_reducible exact Below.refl _ _) | (with_reducible assumption) | (with_reducible refine Ext.below _ ?_ ?_) | (with_reducible refine Below.on ?_ (by with_reducible assumption) ?_) | (with_reducible refine Below.alloc ?_ ?_ _) | (with_reducible refine Below.drew ?_) | (with_reducible refine Below.setCell ?_ ?_ _) | (with_reducible exact Nat.le_refl _) | omega | (simp; done) | (simp [go_sem]; done) | (simp at *; omega))
        · have hz' : ¬ (i : Int) = 0 := by omega
          have hc' : (ml : Int) < least := by omega
          clear hc
          go_wp2_with (first | ((first | with_reducible refine wp_region_ext2 (by kernel_rfl) (by kernel_rfl) ?_ | with_reducible refine wp_region_ext (by kernel_rfl) (by kernel_rfl) ?_); (repeat (first | go_big_quiet_step ((first | (go_at_call 35; with_reducible exact Calls.ext (cb _ (by repeat' (first | (with_reducible exact Below.refl _ _) | (with_reducible assumption) | (with_reducible refine Ext.below _ ?_ ?_) | (with_reducible refine Below.on ?_ (by with_reducible assumption) ?_) | (with_reducible refine Below.alloc ?_ ?_ _) | (with_reducible refine Below.drew ?_) | (with_reducible refine Below.setCell ?_ ?_ _) | (with_reducible exact Nat.le_refl _) | omega | (simp; done) | (simp [go_sem]; done) | (simp at *; omega))))))) | quiet_step ((first | (go_at_call 35; with_reducible exact Calls.ext (cb _ (by repeat' (first | (with_reducible exact Below.refl _ _) | (with_reducible assumption) | (with_reducible refine Ext.below _ ?_ ?_) | (with_reducible refine Below.on ?_ (by with_reducible assumption) ?_) | (with_reducible refine Below.alloc ?_ ?_ _) | (with_reducible refine Below.drew ?_) | (with_reducible refine Below.setCell ?_ ?_ _) | (with_reducible exact Nat.le_refl _) | omega | (simp; done) | (simp [go_sem]; done) | (simp at *; omega))))))))); refine wpQuiet_nil ?_; rintro _ ⟨yr, rfl⟩; have syr := Ext.size yr; (repeat (first | rw [World.size_alloc] at syr | rw [World.size_setCell] at syr | rw [World.size_drew] at syr)); have : B < yr.now.heap.size := (by omega); have : B ≤ yr.now.heap.size := (by omega); have : B < yr.now.heap.size + 1 + 1 := (by omega)) | (go_at_call 35; (first | with_reducible refine (Calls.giv2 (cb _ (by repeat' (first | (with_reducible exact Below.refl _ _) | (with_reducible assumption) | (with_reducible refine Ext.below _ ?_ ?_) | (with_reducible refine Below.on ?_ (by with_reducible assumption) ?_) | (with_reducible refine Below.alloc ?_ ?_ _) | (with_reducible refine Below.drew ?_) | (with_reducible refine Below.setCell ?_ ?_ _) | (with_reducible exact Nat.le_refl _) | omega | (simp; done) | (simp [go_sem]; done) | (simp at *; omega))))).mono ?_ | with_reducible refine (Calls.giv (cb _ (by repeat' (first | (with_reducible exact Below.refl _ _) | (with_reducible assumption) | (with_reducible refine Ext.below _ ?_ ?_) | (with_reducible refine Below.on ?_ (by with_reducible assumption) ?_) | (with_reducible refine Below.alloc ?_ ?_ _) | (with_reducible refine Below.drew ?_) | (with_reducible refine Below.setCell ?_ ?_ _) | (with_reducible exact Nat.le_refl _) | omega | (simp; done) | (simp [go_sem]; done) | (simp at *; omega))))).mono ?_); rintro _ _ ⟨y1, rfl, rfl⟩; have sy1 := Ext.size y1; (repeat (first | rw [World.size_alloc] at sy1 | rw [World.size_setCell] at sy1 | rw [World.size_drew] at sy1)); have : B < y1.now.heap.size := (by omega); have : B ≤ y1.now.heap.size := (by omega); have : B < y1.now.heap.size + 1 + 1 := (by omega)))
          refine ⟨⟨i + 1, ⟨_, ?_⟩, _, _, rfl, rfl, by simp, rfl, key⟩, by simp [intOf]; omega⟩
          repeat' (first | (with_reducible exact Below.refl _ _) | (with_reducible assumption) | (with_reducible refine Ext.below _ ?_ ?_) | (with_reducible refine Below.on ?_ (by with_reducible assumption) ?_) | (with_reducible refine Below.alloc ?_ ?_ _) | (with_reducible refine Below.drew ?_) | (with_reducible refine Below.setCell ?_ ?_ _) | (with_reducible exact Nat.le_refl _) | omega | (simp; done) | (simp [go_sem]; done) | (simp at *; omega))
      · rw [if_neg hc] at hE
        have key : Hid (i + 1 ≤ gs.length ∧ leastI (fun g => ((missL g t ks).length : Int)) least best (i + 1) (gs.drop (i + 1)) = V) := Go.Lib.hid ⟨hlt, hE⟩
        have hz' : ¬ (i : Int) = 0 := by omega
        have hc' : ¬ ((missL gs[i] t ks).length : Int) < least := by omega
        clear hE hi hml hV hc
        generalize (missL gs[i] t ks).length = ml at *
        have hcb : decide ((ml : Int) < least) = false := by simp only [decide_eq_false_iff_not]; exact hc'
        have hle : least ≤ (ml : Int) := by omega
        generalize gs[i].x = g1' at *
        generalize gs[i].y = g2' at *
        generalize gs[i].u = g3' at *
        generalize gs[i].v = g4' at *
        go_wp2_with (first | ((first | with_reducible refine wp_region_ext2 (by kernel_rfl) (by kernel_rfl) ?_ | with_reducible refine wp_region_ext (by kernel_rfl) (by kernel_rfl) ?_); (repeat (first | go_big_quiet_step ((first | (go_at_call 35; with_reducible exact Calls.ext (cb _ (by repeat' (first | (with_reducible exact Below.refl _ _) | (with_reducible assumption) | (with_reducible refine Ext.below _ ?_ ?_) | (with_reducible refine Below.on ?_ (by with_reducible assumption) ?_) | (with_reducible refine Below.alloc ?_ ?_ _) | (with_reducible refine Below.drew ?_) | (with_reducible refine Below.setCell ?_ ?_ _) | (with_reducible exact Nat.le_refl _) | omega | (simp; done) | (simp [go_sem]; done) | (simp at *; omega))))))) | quiet_step ((first | (go_at_call 35; with_reducible exact Calls.ext (cb _ (by repeat' (first | (with_reducible exact Below.refl _ _) | (with_reducible assumption) | (with_reducible refine Ext.below _ ?_ ?_) | (with_reducible refine Below.on ?_ (by with_reducible assumption) ?_) | (with_reducible refine Below.alloc ?_ ?_ _) | (with_reducible refine Below.drew ?_) | (with_reducible refine Below.setCell ?_ ?_ _) | (with_reducible exact Nat.le_refl _) | omega | (simp; done) | (simp [go_sem]; done) | (simp at *; omega))))))))); refine wpQuiet_nil ?_; rintro _ ⟨yr, rfl⟩; have syr := Ext.size yr; (repeat (first | rw [World.size_alloc] at syr | rw [World.size_setCell] at syr | rw [World.size_drew] at syr)); have : B < yr.now.heap.size := (by omega); have : B ≤ yr.now.heap.size := (by omega); have : B < yr.now.heap.size + 1 + 1 := (by omega)) | (go_at_call 35; (first | with_reducible refine (Calls.giv2 (cb _ (by repeat' (first | (with_reducible exact Below.refl _ _) | (with_reducible assumption) | (with_reducible refine Ext.below _ ?_ ?_) | (with_reducible refine Below.on ?_ (by with_reducible assumption) ?_) | (with_reducible refine Below.alloc ?_ ?_ _) | (with_reducible refine Below.drew ?_) | (with_reducible refine Below.setCell ?_ ?_ _) | (with_reducible exact Nat.le_refl _) | omega | (simp; done) | (simp [go_sem]; done) | (simp at *; omega))))).mono ?_ | with_reducible refine (Calls.giv (cb _ (by repeat' (first | (with_reducible exact Below.refl _ _) | (with_reducible assumption) | (with_reducible refine Ext.below _ ?_ ?_) | (with_reducible refine Below.on ?_ (by with_reducible assumption) ?_) | (with_reducible refine Below.alloc ?_ ?_ _) | (with_reducible refine Below.drew ?_) | (with_reducible refine Below.setCell ?_ ?_ _) | (with_reducible exact Nat.le_refl _) | omega | (simp; done) | (simp [go_sem]; done) | (simp at *; omega))))).mono ?_); rintro _ _ ⟨y1, rfl, rfl⟩; have sy1 := Ext.size y1; (repeat (first | rw [World.size_alloc] at sy1 | rw [World.size_setCell] at sy1 | rw [World.size_drew] at sy1)); have : B < y1.now.heap.size := (by omega); have : B ≤ y1.now.heap.size := (by omega); have : B < y1.now.heap.size + 1 + 1 := (by omega)))
        refine ⟨⟨i + 1, ⟨_, ?_⟩, _, _, rfl, rfl, by simp, rfl, key⟩, by simp [intOf]; omega⟩
        repeat' (first | (with_reducible exact Below.refl _ _) | (with_reducible assumption) | (with_reducible refine Ext.below _ ?_ ?_) | (with_reducible refine Below.on ?_ (by with_reducible assumption) ?_) | (with_reducible refine Below.alloc ?_ ?_ _) | (with_reducible refine Below.drew ?_) | (with_reducible refine Below.setCell ?_ ?_ _) | (with_reducible exact Nat.le_refl _) | omega | (simp; done) | (simp [go_sem]; done) | (simp at *; omega))
    · have hge : ¬ (i : Int) < gs.length := by omega
      have hE := hi.out.2
      rw [drop_end hlt, leastI] at hE
      clear hi hV
      subst hE
      go_wp2_with (first | ((first | with_reducible refine wp_region_ext2 (by kernel_rfl) (by kernel_rfl) ?_ | with_reducible refine wp_region_ext (by kernel_rfl) (by kernel_rfl) ?_); (repeat (first | go_big_quiet_step ((first | fail)) | quiet_step ((first | fail)))); refine wpQuiet_nil ?_; rintro _ ⟨yr, rfl⟩; have syr := Ext.size yr; (repeat (first | rw [World.size_alloc] at syr | rw [World.size_setCell] at syr | rw [World.size_drew] at syr))))
      go_returns
      refine ⟨rfl, ?_⟩
      repeat' (first | (with_reducible exact Below.refl _ _) | (with_reducible assumption) | (with_reducible refine Ext.below _ ?_ ?_) | (with_reducible refine Below.on ?_ (by with_reducible assumption) ?_) | (with_reducible refine Below.alloc ?_ ?_ _) | (with_reducible refine Below.drew ?_) | (with_reducible refine Below.setCell ?_ ?_ _) | (with_reducible exact Nat.le_refl _) | omega | (simp; done) | (simp [go_sem]; done) | (simp at *; omega))
/-- What Believe gives back. -/
def believeR (s : SkyR) (a : List SightR) (gs : List StateR) (t : Int) : LinkR := match allR s [⟨none, 0, a⟩] with
  | .ok [x] => if guessesE gs t = 0 then (if gs.length = 0 then ⟨0, [], 7⟩ else ⟨leastI (fun g => ((missL g t x).length : Int)) 0 0 0 gs, missL (gs.getD (leastI (fun g => ((missL g t x).length : Int)) 0 0 0 gs).toNat ⟨0, 0, 0, 0⟩) t x, 0⟩) else ⟨0, [], guessesE gs t⟩
  | .ok _ => ⟨0, [], 0⟩
  | .error e => ⟨0, [], e⟩
theorem allR_one {s : SkyR} {a : List SightR} (p : Option Addr) (c : Nat) : allR s [⟨p, c, a⟩] = allR s [⟨none, 0, a⟩] := rfl
theorem allR_ok1 {s : SkyR} {a : List SightR} {r : List (List LookR)} (h : allR s [⟨none, 0, a⟩] = .ok r) : ∃ x, r = [x] ∧ (∀ k ∈ x, k.Fit) ∧ 1 ≤ x.length ∧ x.length ≤ 64 := by
  unfold allR at h
  by_cases h1 : skyE s = 0
  · rw [if_pos h1, allA] at h
    cases hx : looksR s a with
    | error e => rw [hx] at h; cases h
    | ok x =>
      rw [hx] at h
      injection h with h
      have fx := looksR_fit h1 hx
      exact ⟨x, by rw [← h]; rfl, fx.1, fx.2⟩
  · rw [if_neg h1] at h; cases h
theorem one_looks {W : World} {base : Nat} {v : Value} {vs : List Value} {x : List LookR} (how : W.ownsRow base 68 1 v 1 vs) (hin : InnerAt W base vs [x]) :
    ∃ g c p0 c0, v = .slice (some ⟨g, 0, none⟩) 1 c ∧ g < W.heap.size ∧ W.cell? ⟨g, 0, none⟩ = some (.slice p0 x.length c0) ∧ LooksAt W p0 x := by
  match vs, hin with
  | [u0], hin =>
    obtain ⟨h0, -⟩ := hin
    rcases owns_slice how with ⟨-, h2⟩ | ⟨g, c, rfl, -, hg, hc⟩
    · cases h2
    obtain ⟨p0, c0, rfl, hL⟩ := owns_looks h0
    exact ⟨g, c, p0, c0, rfl, hg, hc 0 _ rfl, hL⟩
set_option maxRecDepth 100000 in
set_option maxHeartbeats 16000000 in
theorem Believe_any (s : SkyR) (pa pg : Option Addr) (ca cg : Nat) (a : List SightR) (gs : List StateR) (t : Int) (w : World) (hA : s.At w) (ha : SightsAt w pa a) (hg : StatesAt w pg gs) :
    Calls Try.prog 13 #[s.val, .slice pa a.length ca, .slice pg gs.length cg, .int .i64 t] w (LinkPost w (believeR s a gs t)) := by
  have cl := fun (W : World) (y : Below w.heap.size w W) (p : Option Addr) (h : TracksAt W p [⟨pa, ca, a⟩]) => allLooks_any s p 1 [⟨pa, ca, a⟩] W (by simp) (hA.on y) h
  have cg' := fun (W : World) (y : Below w.heap.size w W) => checkGuesses_any pg cg gs t W (hg.on y)
  have htr : ∀ (W : World) (B : Nat), Below w.heap.size w W → B < W.heap.size → W.cell? ⟨B, 0, none⟩ = some (.slice pa a.length ca) → TracksAt W (some ⟨B, 0, none⟩) [⟨pa, ca, a⟩] := by
    intro W B y hB h0 j hj
    obtain rfl : j = 0 := by simp only [List.length_cons, List.length_nil] at hj; omega
    exact ⟨ha.on y, B, 0, rfl, hB, h0⟩
  have htr := Go.Lib.hid htr
  simp only [List.length_cons, List.length_nil, Nat.zero_add, allR_one] at cl
  have ce := fun e (h : allR s [⟨none, 0, a⟩] = .error e) => allR_err h
  have ck := fun r (h : allR s [⟨none, 0, a⟩] = .ok r) => allR_ok1 h
  have hg := Go.Lib.hid hg
  obtain ⟨V, hV⟩ : ∃ V, believeR s a gs t = V := ⟨_, rfl⟩
  rw [hV]
  unfold believeR at hV
  clear hA ha
  generalize allR s [⟨none, 0, a⟩] = r at *
  unfold SkyR.val at *
  generalize s.cats.length = n1 at *; generalize s.cp = n2 at *; generalize s.cc = n3 at *; generalize s.bodies.length = n4 at *; generalize s.bp = n5 at *; generalize s.bc = n6 at *; generalize s.sts.length = n7 at *; generalize s.sp = n8 at *; generalize s.sc = n9 at *; generalize s.home = n0 at *
  generalize a.length = la at *
  cases r with
  | error e =>
    have e0 := ce e rfl
    clear ce ck
    simp only at hV
    subst hV
    go_enter Try.func13, Try.ntmps13
    go_wp2_with (first | ((first | with_reducible refine wp_region_ext2 (by kernel_rfl) (by kernel_rfl) ?_ | with_reducible refine wp_region_ext (by kernel_rfl) (by kernel_rfl) ?_); (repeat (first | go_big_quiet_step ((first | fail)) | quiet_step ((first | fail)))); refine wpQuiet_nil ?_; rintro _ ⟨yr, rfl⟩; have syr := Ext.size yr; (repeat (first | rw [World.size_alloc] at syr | rw [World.size_setCell] at syr | rw [World.size_drew] at syr))) | (go_at_call 25; refine (cl _ (by repeat' (first | (with_reducible exact Below.refl _ _) | (with_reducible assumption) | (with_reducible refine Ext.below _ ?_ ?_) | (with_reducible refine Below.on ?_ (by with_reducible assumption) ?_) | (with_reducible refine Below.alloc ?_ ?_ _) | (with_reducible refine Below.drew ?_) | (with_reducible refine Below.setCell ?_ ?_ _) | (with_reducible exact Nat.le_refl _) | omega | (simp; done) | (simp [go_sem]; done) | (simp at *; omega))) _ (htr.out _ _ (by repeat' (first | (with_reducible exact Below.refl _ _) | (with_reducible assumption) | (with_reducible refine Ext.below _ ?_ ?_) | (with_reducible refine Below.on ?_ (by with_reducible assumption) ?_) | (with_reducible refine Below.alloc ?_ ?_ _) | (with_reducible refine Below.drew ?_) | (with_reducible refine Below.setCell ?_ ?_ _) | (with_reducible exact Nat.le_refl _) | omega | (simp; done) | (simp [go_sem]; done) | (simp at *; omega))) (by simp) (by simp [go_sem]))).mono ?_; rintro _ W3 ⟨hb3, rfl⟩; have hbw3 : Below w.heap.size w W3 := (by refine Below.on ?_ hb3 (by simp only [World.size_alloc]; omega); repeat' (first | (with_reducible exact Below.refl _ _) | (with_reducible assumption) | (with_reducible refine Ext.below _ ?_ ?_) | (with_reducible refine Below.on ?_ (by with_reducible assumption) ?_) | (with_reducible refine Below.alloc ?_ ?_ _) | (with_reducible refine Below.drew ?_) | (with_reducible refine Below.setCell ?_ ?_ _) | (with_reducible exact Nat.le_refl _) | omega | (simp; done) | (simp [go_sem]; done) | (simp at *; omega))); have u9 : w.heap.size ≤ W3.heap.size := hbw3.size; clear cl htr))
    go_returns
    refine ⟨?_, _, rfl, World.ownsRow_nil _ _ _ _⟩
    repeat' (first | (with_reducible exact Below.refl _ _) | (with_reducible assumption) | (with_reducible refine Ext.below _ ?_ ?_) | (with_reducible refine Below.on ?_ (by with_reducible assumption) ?_) | (with_reducible refine Below.alloc ?_ ?_ _) | (with_reducible refine Below.drew ?_) | (with_reducible refine Below.setCell ?_ ?_ _) | (with_reducible exact Nat.le_refl _) | omega | (simp; done) | (simp [go_sem]; done) | (simp at *; omega))
  | ok r =>
    obtain ⟨x, rfl, fx, hx⟩ := ck r rfl
    clear ce ck
    simp only at hV
    by_cases hge : guessesE gs t = 0
    case neg =>
      rw [if_neg hge] at hV
      subst hV
      generalize guessesE gs t = ge at *
      go_enter Try.func13, Try.ntmps13
      go_wp2_with (first | ((first | with_reducible refine wp_region_ext2 (by kernel_rfl) (by kernel_rfl) ?_ | with_reducible refine wp_region_ext (by kernel_rfl) (by kernel_rfl) ?_); (repeat (first | go_big_quiet_step ((first | (go_at_call 26; with_reducible exact Calls.ext (cg' _ (by repeat' (first | (with_reducible exact Below.refl _ _) | (with_reducible assumption) | (with_reducible refine Ext.below _ ?_ ?_) | (with_reducible refine Below.on ?_ (by with_reducible assumption) ?_) | (with_reducible refine Below.alloc ?_ ?_ _) | (with_reducible refine Below.drew ?_) | (with_reducible refine Below.setCell ?_ ?_ _) | (with_reducible exact Nat.le_refl _) | omega | (simp; done) | (simp [go_sem]; done) | (simp at *; omega))))))) | quiet_step ((first | (go_at_call 26; with_reducible exact Calls.ext (cg' _ (by repeat' (first | (with_reducible exact Below.refl _ _) | (with_reducible assumption) | (with_reducible refine Ext.below _ ?_ ?_) | (with_reducible refine Below.on ?_ (by with_reducible assumption) ?_) | (with_reducible refine Below.alloc ?_ ?_ _) | (with_reducible refine Below.drew ?_) | (with_reducible refine Below.setCell ?_ ?_ _) | (with_reducible exact Nat.le_refl _) | omega | (simp; done) | (simp [go_sem]; done) | (simp at *; omega))))))))); refine wpQuiet_nil ?_; rintro _ ⟨yr, rfl⟩; have syr := Ext.size yr; (repeat (first | rw [World.size_alloc] at syr | rw [World.size_setCell] at syr | rw [World.size_drew] at syr))) | (go_at_call 26; (first | with_reducible refine (Calls.giv2 (cg' _ (by repeat' (first | (with_reducible exact Below.refl _ _) | (with_reducible assumption) | (with_reducible refine Ext.below _ ?_ ?_) | (with_reducible refine Below.on ?_ (by with_reducible assumption) ?_) | (with_reducible refine Below.alloc ?_ ?_ _) | (with_reducible refine Below.drew ?_) | (with_reducible refine Below.setCell ?_ ?_ _) | (with_reducible exact Nat.le_refl _) | omega | (simp; done) | (simp [go_sem]; done) | (simp at *; omega))))).mono ?_ | with_reducible refine (Calls.giv (cg' _ (by repeat' (first | (with_reducible exact Below.refl _ _) | (with_reducible assumption) | (with_reducible refine Ext.below _ ?_ ?_) | (with_reducible refine Below.on ?_ (by with_reducible assumption) ?_) | (with_reducible refine Below.alloc ?_ ?_ _) | (with_reducible refine Below.drew ?_) | (with_reducible refine Below.setCell ?_ ?_ _) | (with_reducible exact Nat.le_refl _) | omega | (simp; done) | (simp [go_sem]; done) | (simp at *; omega))))).mono ?_); rintro _ _ ⟨y1, rfl, rfl⟩; have sy1 := Ext.size y1; (repeat (first | rw [World.size_alloc] at sy1 | rw [World.size_setCell] at sy1 | rw [World.size_drew] at sy1))) | (go_at_call 25; refine (cl _ (by repeat' (first | (with_reducible exact Below.refl _ _) | (with_reducible assumption) | (with_reducible refine Ext.below _ ?_ ?_) | (with_reducible refine Below.on ?_ (by with_reducible assumption) ?_) | (with_reducible refine Below.alloc ?_ ?_ _) | (with_reducible refine Below.drew ?_) | (with_reducible refine Below.setCell ?_ ?_ _) | (with_reducible exact Nat.le_refl _) | omega | (simp; done) | (simp [go_sem]; done) | (simp at *; omega))) _ (htr.out _ _ (by repeat' (first | (with_reducible exact Below.refl _ _) | (with_reducible assumption) | (with_reducible refine Ext.below _ ?_ ?_) | (with_reducible refine Below.on ?_ (by with_reducible assumption) ?_) | (with_reducible refine Below.alloc ?_ ?_ _) | (with_reducible refine Below.drew ?_) | (with_reducible refine Below.setCell ?_ ?_ _) | (with_reducible exact Nat.le_refl _) | omega | (simp; done) | (simp [go_sem]; done) | (simp at *; omega))) (by simp) (by simp [go_sem]))).mono ?_; rintro _ W3 ⟨hb3, v3, vs, rfl, how, hin⟩; have hbw3 : Below w.heap.size w W3 := (by refine Below.on ?_ hb3 (by simp only [World.size_alloc]; omega); repeat' (first | (with_reducible exact Below.refl _ _) | (with_reducible assumption) | (with_reducible refine Ext.below _ ?_ ?_) | (with_reducible refine Below.on ?_ (by with_reducible assumption) ?_) | (with_reducible refine Below.alloc ?_ ?_ _) | (with_reducible refine Below.drew ?_) | (with_reducible refine Below.setCell ?_ ?_ _) | (with_reducible exact Nat.le_refl _) | omega | (simp; done) | (simp [go_sem]; done) | (simp at *; omega))); have hbs3 := hb3.size; simp only [World.size_alloc] at hbs3; obtain ⟨g, c, p0, c0, rfl, hgs, q0, hL⟩ := one_looks how hin; have u0 : W3.cell? ⟨w.heap.size + 1, 0, none⟩ = some (.int .i64 t) := ((hb3.cell (p := ⟨w.heap.size + 1, 0, none⟩) (by simp only [World.size_alloc]; omega)).trans (by simp [go_sem])); have u9 : w.heap.size ≤ W3.heap.size := hbw3.size; have u1 : w.heap.size + 1 < W3.heap.size := (by omega); have u2 : w.heap.size + 1 < W3.heap.size + 1 := (by omega); have u3 : w.heap.size + 1 ≠ W3.heap.size := (by omega); clear cl htr how hin))
      go_returns
      refine ⟨?_, _, rfl, World.ownsRow_nil _ _ _ _⟩
      repeat' (first | (with_reducible exact Below.refl _ _) | (with_reducible assumption) | (with_reducible refine Ext.below _ ?_ ?_) | (with_reducible refine Below.on ?_ (by with_reducible assumption) ?_) | (with_reducible refine Below.alloc ?_ ?_ _) | (with_reducible refine Below.drew ?_) | (with_reducible refine Below.setCell ?_ ?_ _) | (with_reducible exact Nat.le_refl _) | omega | (simp; done) | (simp [go_sem]; done) | (simp at *; omega))
    rw [if_pos hge] at hV
    rw [hge] at cg'
    obtain ⟨gn, gt', gf⟩ := guessesE_zero hge
    clear hge
    by_cases hz : gs.length = 0
    · rw [if_pos hz] at hV
      subst hV
      rw [hz] at cg' ⊢
      go_enter Try.func13, Try.ntmps13
      go_wp2_with (first | ((first | with_reducible refine wp_region_ext2 (by kernel_rfl) (by kernel_rfl) ?_ | with_reducible refine wp_region_ext (by kernel_rfl) (by kernel_rfl) ?_); (repeat (first | go_big_quiet_step ((first | (go_at_call 26; with_reducible exact Calls.ext (cg' _ (by repeat' (first | (with_reducible exact Below.refl _ _) | (with_reducible assumption) | (with_reducible refine Ext.below _ ?_ ?_) | (with_reducible refine Below.on ?_ (by with_reducible assumption) ?_) | (with_reducible refine Below.alloc ?_ ?_ _) | (with_reducible refine Below.drew ?_) | (with_reducible refine Below.setCell ?_ ?_ _) | (with_reducible exact Nat.le_refl _) | omega | (simp; done) | (simp [go_sem]; done) | (simp at *; omega))))))) | quiet_step ((first | (go_at_call 26; with_reducible exact Calls.ext (cg' _ (by repeat' (first | (with_reducible exact Below.refl _ _) | (with_reducible assumption) | (with_reducible refine Ext.below _ ?_ ?_) | (with_reducible refine Below.on ?_ (by with_reducible assumption) ?_) | (with_reducible refine Below.alloc ?_ ?_ _) | (with_reducible refine Below.drew ?_) | (with_reducible refine Below.setCell ?_ ?_ _) | (with_reducible exact Nat.le_refl _) | omega | (simp; done) | (simp [go_sem]; done) | (simp at *; omega))))))))); refine wpQuiet_nil ?_; rintro _ ⟨yr, rfl⟩; have syr := Ext.size yr; (repeat (first | rw [World.size_alloc] at syr | rw [World.size_setCell] at syr | rw [World.size_drew] at syr))) | (go_at_call 26; (first | with_reducible refine (Calls.giv2 (cg' _ (by repeat' (first | (with_reducible exact Below.refl _ _) | (with_reducible assumption) | (with_reducible refine Ext.below _ ?_ ?_) | (with_reducible refine Below.on ?_ (by with_reducible assumption) ?_) | (with_reducible refine Below.alloc ?_ ?_ _) | (with_reducible refine Below.drew ?_) | (with_reducible refine Below.setCell ?_ ?_ _) | (with_reducible exact Nat.le_refl _) | omega | (simp; done) | (simp [go_sem]; done) | (simp at *; omega))))).mono ?_ | with_reducible refine (Calls.giv (cg' _ (by repeat' (first | (with_reducible exact Below.refl _ _) | (with_reducible assumption) | (with_reducible refine Ext.below _ ?_ ?_) | (with_reducible refine Below.on ?_ (by with_reducible assumption) ?_) | (with_reducible refine Below.alloc ?_ ?_ _) | (with_reducible refine Below.drew ?_) | (with_reducible refine Below.setCell ?_ ?_ _) | (with_reducible exact Nat.le_refl _) | omega | (simp; done) | (simp [go_sem]; done) | (simp at *; omega))))).mono ?_); rintro _ _ ⟨y1, rfl, rfl⟩; have sy1 := Ext.size y1; (repeat (first | rw [World.size_alloc] at sy1 | rw [World.size_setCell] at sy1 | rw [World.size_drew] at sy1))) | (go_at_call 25; refine (cl _ (by repeat' (first | (with_reducible exact Below.refl _ _) | (with_reducible assumption) | (with_reducible refine Ext.below _ ?_ ?_) | (with_reducible refine Below.on ?_ (by with_reducible assumption) ?_) | (with_reducible refine Below.alloc ?_ ?_ _) | (with_reducible refine Below.drew ?_) | (with_reducible refine Below.setCell ?_ ?_ _) | (with_reducible exact Nat.le_refl _) | omega | (simp; done) | (simp [go_sem]; done) | (simp at *; omega))) _ (htr.out _ _ (by repeat' (first | (with_reducible exact Below.refl _ _) | (with_reducible assumption) | (with_reducible refine Ext.below _ ?_ ?_) | (with_reducible refine Below.on ?_ (by with_reducible assumption) ?_) | (with_reducible refine Below.alloc ?_ ?_ _) | (with_reducible refine Below.drew ?_) | (with_reducible refine Below.setCell ?_ ?_ _) | (with_reducible exact Nat.le_refl _) | omega | (simp; done) | (simp [go_sem]; done) | (simp at *; omega))) (by simp) (by simp [go_sem]))).mono ?_; rintro _ W3 ⟨hb3, v3, vs, rfl, how, hin⟩; have hbw3 : Below w.heap.size w W3 := (by refine Below.on ?_ hb3 (by simp only [World.size_alloc]; omega); repeat' (first | (with_reducible exact Below.refl _ _) | (with_reducible assumption) | (with_reducible refine Ext.below _ ?_ ?_) | (with_reducible refine Below.on ?_ (by with_reducible assumption) ?_) | (with_reducible refine Below.alloc ?_ ?_ _) | (with_reducible refine Below.drew ?_) | (with_reducible refine Below.setCell ?_ ?_ _) | (with_reducible exact Nat.le_refl _) | omega | (simp; done) | (simp [go_sem]; done) | (simp at *; omega))); have hbs3 := hb3.size; simp only [World.size_alloc] at hbs3; obtain ⟨g, c, p0, c0, rfl, hgs, q0, hL⟩ := one_looks how hin; have u0 : W3.cell? ⟨w.heap.size + 1, 0, none⟩ = some (.int .i64 t) := ((hb3.cell (p := ⟨w.heap.size + 1, 0, none⟩) (by simp only [World.size_alloc]; omega)).trans (by simp [go_sem])); have u9 : w.heap.size ≤ W3.heap.size := hbw3.size; have u1 : w.heap.size + 1 < W3.heap.size := (by omega); have u2 : w.heap.size + 1 < W3.heap.size + 1 := (by omega); have u3 : w.heap.size + 1 ≠ W3.heap.size := (by omega); clear cl htr how hin))
      go_returns
      refine ⟨?_, _, rfl, World.ownsRow_nil _ _ _ _⟩
      repeat' (first | (with_reducible exact Below.refl _ _) | (with_reducible assumption) | (with_reducible refine Ext.below _ ?_ ?_) | (with_reducible refine Below.on ?_ (by with_reducible assumption) ?_) | (with_reducible refine Below.alloc ?_ ?_ _) | (with_reducible refine Below.drew ?_) | (with_reducible refine Below.setCell ?_ ?_ _) | (with_reducible exact Nat.le_refl _) | omega | (simp; done) | (simp [go_sem]; done) | (simp at *; omega))
    rw [if_neg hz] at hV
    have hz0 : ¬ ((gs.length : Int) = 0) := by omega
    have hFit : ∀ j (h : j < x.length), x[j].Fit := fun j h => fx _ (List.getElem_mem h)
    have hgb : ∀ g ∈ gs, guessB g = true := fun q hq => by
      obtain ⟨j, hj, rfl⟩ := List.getElem_of_mem hq
      exact gf j hj
    have cb := Go.Lib.hid (fun (W : World) (y : Below w.heap.size w W) (LB TB : Nat) (h : BelAt W LB TB x t) => leastOf_any pg cg gs t LB TB x W (hg.out.on y) hgb gn gt' (by omega) h hFit)
    obtain ⟨I, hI⟩ : ∃ I, leastI (fun g => ((missL g t x).length : Int)) 0 0 0 gs = I := ⟨_, rfl⟩
    rw [hI] at hV
    simp only [hI] at cb
    have hI2 := leastI_in (fun g => ((missL g t x).length : Int)) gs 0 0 0
    rw [hI] at hI2
    have hI3 : 0 ≤ I ∧ I < gs.length := by omega
    obtain ⟨n, rfl⟩ := Int.eq_ofNat_of_zero_le hI3.1
    have hn : n < gs.length := by omega
    have hn2 : (n : Int) < (gs.length : Int) := by omega
    clear hI hI2 hI3
    have eg : gs.getD (n : Int).toNat ⟨0, 0, 0, 0⟩ = gs[n] := by simp [hn]
    rw [eg] at hV
    have cm := Go.Lib.hid (fun (W : World) (p : Option Addr) (c : Nat) (h : LooksAt W p x) => misses_any gs[n] t p c x W (gf n hn) gt' (by omega) h hFit)
    clear eg hFit hgb gf fx hx gn gt'
    subst hV
    go_enter Try.func13, Try.ntmps13
    go_wp2_with (first | ((first | with_reducible refine wp_region_ext2 (by kernel_rfl) (by kernel_rfl) ?_ | with_reducible refine wp_region_ext (by kernel_rfl) (by kernel_rfl) ?_); (repeat (first | go_big_quiet_step ((first | (go_at_call 26; with_reducible exact Calls.ext (cg' _ (by repeat' (first | (with_reducible exact Below.refl _ _) | (with_reducible assumption) | (with_reducible refine Ext.below _ ?_ ?_) | (with_reducible refine Below.on ?_ (by with_reducible assumption) ?_) | (with_reducible refine Below.alloc ?_ ?_ _) | (with_reducible refine Below.drew ?_) | (with_reducible refine Below.setCell ?_ ?_ _) | (with_reducible exact Nat.le_refl _) | omega | (simp; done) | (simp [go_sem]; done) | (simp at *; omega))))))) | quiet_step ((first | (go_at_call 26; with_reducible exact Calls.ext (cg' _ (by repeat' (first | (with_reducible exact Below.refl _ _) | (with_reducible assumption) | (with_reducible refine Ext.below _ ?_ ?_) | (with_reducible refine Below.on ?_ (by with_reducible assumption) ?_) | (with_reducible refine Below.alloc ?_ ?_ _) | (with_reducible refine Below.drew ?_) | (with_reducible refine Below.setCell ?_ ?_ _) | (with_reducible exact Nat.le_refl _) | omega | (simp; done) | (simp [go_sem]; done) | (simp at *; omega))))))))); refine wpQuiet_nil ?_; rintro _ ⟨yr, rfl⟩; have syr := Ext.size yr; (repeat (first | rw [World.size_alloc] at syr | rw [World.size_setCell] at syr | rw [World.size_drew] at syr))) | (go_at_call 26; (first | with_reducible refine (Calls.giv2 (cg' _ (by repeat' (first | (with_reducible exact Below.refl _ _) | (with_reducible assumption) | (with_reducible refine Ext.below _ ?_ ?_) | (with_reducible refine Below.on ?_ (by with_reducible assumption) ?_) | (with_reducible refine Below.alloc ?_ ?_ _) | (with_reducible refine Below.drew ?_) | (with_reducible refine Below.setCell ?_ ?_ _) | (with_reducible exact Nat.le_refl _) | omega | (simp; done) | (simp [go_sem]; done) | (simp at *; omega))))).mono ?_ | with_reducible refine (Calls.giv (cg' _ (by repeat' (first | (with_reducible exact Below.refl _ _) | (with_reducible assumption) | (with_reducible refine Ext.below _ ?_ ?_) | (with_reducible refine Below.on ?_ (by with_reducible assumption) ?_) | (with_reducible refine Below.alloc ?_ ?_ _) | (with_reducible refine Below.drew ?_) | (with_reducible refine Below.setCell ?_ ?_ _) | (with_reducible exact Nat.le_refl _) | omega | (simp; done) | (simp [go_sem]; done) | (simp at *; omega))))).mono ?_); rintro _ _ ⟨y1, rfl, rfl⟩; have sy1 := Ext.size y1; (repeat (first | rw [World.size_alloc] at sy1 | rw [World.size_setCell] at sy1 | rw [World.size_drew] at sy1))) | (go_at_call 25; refine (cl _ (by repeat' (first | (with_reducible exact Below.refl _ _) | (with_reducible assumption) | (with_reducible refine Ext.below _ ?_ ?_) | (with_reducible refine Below.on ?_ (by with_reducible assumption) ?_) | (with_reducible refine Below.alloc ?_ ?_ _) | (with_reducible refine Below.drew ?_) | (with_reducible refine Below.setCell ?_ ?_ _) | (with_reducible exact Nat.le_refl _) | omega | (simp; done) | (simp [go_sem]; done) | (simp at *; omega))) _ (htr.out _ _ (by repeat' (first | (with_reducible exact Below.refl _ _) | (with_reducible assumption) | (with_reducible refine Ext.below _ ?_ ?_) | (with_reducible refine Below.on ?_ (by with_reducible assumption) ?_) | (with_reducible refine Below.alloc ?_ ?_ _) | (with_reducible refine Below.drew ?_) | (with_reducible refine Below.setCell ?_ ?_ _) | (with_reducible exact Nat.le_refl _) | omega | (simp; done) | (simp [go_sem]; done) | (simp at *; omega))) (by simp) (by simp [go_sem]))).mono ?_; rintro _ W3 ⟨hb3, v3, vs, rfl, how, hin⟩; have hbw3 : Below w.heap.size w W3 := (by refine Below.on ?_ hb3 (by simp only [World.size_alloc]; omega); repeat' (first | (with_reducible exact Below.refl _ _) | (with_reducible assumption) | (with_reducible refine Ext.below _ ?_ ?_) | (with_reducible refine Below.on ?_ (by with_reducible assumption) ?_) | (with_reducible refine Below.alloc ?_ ?_ _) | (with_reducible refine Below.drew ?_) | (with_reducible refine Below.setCell ?_ ?_ _) | (with_reducible exact Nat.le_refl _) | omega | (simp; done) | (simp [go_sem]; done) | (simp at *; omega))); have hbs3 := hb3.size; simp only [World.size_alloc] at hbs3; obtain ⟨g, c, p0, c0, rfl, hgs, q0, hL⟩ := one_looks how hin; have u0 : W3.cell? ⟨w.heap.size + 1, 0, none⟩ = some (.int .i64 t) := ((hb3.cell (p := ⟨w.heap.size + 1, 0, none⟩) (by simp only [World.size_alloc]; omega)).trans (by simp [go_sem])); have u9 : w.heap.size ≤ W3.heap.size := hbw3.size; have u1 : w.heap.size + 1 < W3.heap.size := (by omega); have u2 : w.heap.size + 1 < W3.heap.size + 1 := (by omega); have u3 : w.heap.size + 1 ≠ W3.heap.size := (by omega); clear cl htr how hin) | (go_at_call 34; have hBel : BelAt y1.now W3.heap.size (w.heap.size + 1) x t := (BelAt.ext (⟨⟨g, 0, 1, c, p0, c0, by simp [go_sem], by omega, by simp only [World.size_alloc]; omega, (((Below.refl _ W3).alloc (Nat.le_refl _) _).cell (p := ⟨g, 0, none⟩) hgs).trans q0, hL.on ((Below.refl _ W3).alloc (Nat.le_refl _) _)⟩, by simp, by simp only [World.size_alloc]; omega, (((Below.refl _ W3).alloc (Nat.le_refl _) _).cell (p := ⟨w.heap.size + 1, 0, none⟩) u1).trans u0⟩) y1); with_reducible refine (Calls.giv (cb.out _ (by repeat' (first | (with_reducible exact Below.refl _ _) | (with_reducible assumption) | (with_reducible refine Ext.below _ ?_ ?_) | (with_reducible refine Below.on ?_ (by with_reducible assumption) ?_) | (with_reducible refine Below.alloc ?_ ?_ _) | (with_reducible refine Below.drew ?_) | (with_reducible refine Below.setCell ?_ ?_ _) | (with_reducible exact Nat.le_refl _) | omega | (simp; done) | (simp [go_sem]; done) | (simp at *; omega))) _ _ hBel)).mono ?_; rintro _ _ ⟨y2, rfl, rfl⟩; have sy2 := y2.size; have hB5 : Below w.heap.size w y2.now := (by repeat' (first | (with_reducible exact Below.refl _ _) | (with_reducible assumption) | (with_reducible refine Ext.below _ ?_ ?_) | (with_reducible refine Below.on ?_ (by with_reducible assumption) ?_) | (with_reducible refine Below.alloc ?_ ?_ _) | (with_reducible refine Below.drew ?_) | (with_reducible refine Below.setCell ?_ ?_ _) | (with_reducible exact Nat.le_refl _) | omega | (simp; done) | (simp [go_sem]; done) | (simp at *; omega))); have hBel5 := hBel.ext y2; clear hBel cb))
    have hP5 := hg.out.on hB5
    generalize y2.now = W5 at *
    clear y2
    clear u0 u1 u2 u3 u9 hL hgs q0 hb3 hbw3 hbs3 sy1 sy2 y1
    have hw5 := hB5.size
    generalize W3.heap.size = LB at *
    obtain ⟨⟨g1, o1, n1', c1', pk, ck, h1, h2, h3, h4, h5⟩, hl, htb, h6⟩ := hBel5
    obtain ⟨B, o, rfl, hB, r1, r2, r3, r4⟩ := hP5 n hn
    have h2i : (0 : Int) < (n1' : Int) := by omega
    have hn0 : (0 : Int) ≤ (n : Int) := by omega
    generalize gs[n].x = g1' at *
    generalize gs[n].y = g2' at *
    generalize gs[n].u = g3' at *
    generalize gs[n].v = g4' at *
    go_region_law (first
      | (go_simp; go_at_call 27; go_loud (refine (cm.out _ pk ck (h5.on (Below.refl _ _).drew)).mono ?_; rintro _ W6 ⟨hb6, v6, rfl, how6⟩; have hbw6 : Below w.heap.size w W6 := (hB5.drew).trans (hb6.mono hw5); have how6 := Go.Lib.hid (owns_base how6 hw5))))
    all_goals
      go_wp2_with (first | ((first | with_reducible refine wp_region_ext2 (by kernel_rfl) (by kernel_rfl) ?_ | with_reducible refine wp_region_ext (by kernel_rfl) (by kernel_rfl) ?_); (repeat (first | go_big_quiet_step ((first | fail)) | quiet_step ((first | fail)))); refine wpQuiet_nil ?_; rintro _ ⟨yr, rfl⟩; have syr := Ext.size yr; (repeat (first | rw [World.size_alloc] at syr | rw [World.size_setCell] at syr | rw [World.size_drew] at syr))))
      go_returns
      exact ⟨hbw6, _, rfl, how6.out⟩
end Go.Proofs.Ytgoilmiiegpnoaa
namespace Go.Proofs.Ytgoilmiiegpnoaa
open Go.RowKit Go.Shelf
attribute [local go_sem] Option.isSome_some Ext.cell Ext.frozen Ext.lt Ext.le Ext.lt_add Ext.le_add Ext.ne Ext.ne' lt2 lt3 lt4 lt5 le2 le3 le4
/-- What the reference says of the best guess. -/
def refB {α : Type} (N : α → List Int) : Int → List Int → Nat → List α → Int × List Int
  | b, wr, _, [] => (b, wr)
  | b, wr, i, g :: gs => if b < 0 ∨ (N g).length < wr.length then refB N i (N g) (i + 1) gs else refB N b wr (i + 1) gs
theorem refB_least {α : Type} (N : α → List Int) (gs : List α) (d : α) : ∀ (m i b : Nat), i + m = gs.length → 1 ≤ i → (hb : b < gs.length) → refB N b (N gs[b]) i (gs.drop i) = (leastI (fun g => ((N g).length : Int)) ((N gs[b]).length : Int) b i (gs.drop i), N (gs.getD (leastI (fun g => ((N g).length : Int)) ((N gs[b]).length : Int) b i (gs.drop i)).toNat d)) := by
  intro m
  induction m with
  | zero =>
    intro i b hi h1 hb
    rw [drop_end (by omega), refB, leastI]
    simp [hb]
  | succ m ih =>
    intro i b hi h1 hb
    have hlt : i < gs.length := by omega
    rw [drop_at hlt, refB, leastI]
    by_cases hc : (N gs[i]).length < (N gs[b]).length
    · rw [if_pos (.inr hc), if_pos (.inr (by omega))]
      exact ih (i + 1) i (by omega) (by omega) hlt
    · rw [if_neg (by omega), if_neg (by omega)]
      exact ih (i + 1) b (by omega) (by omega) hb
theorem refB_eq {α : Type} (N : α → List Int) (gs : List α) (d : α) (h : gs.length ≠ 0) : refB N (-1) [] 0 gs = (leastI (fun g => ((N g).length : Int)) 0 0 0 gs, N (gs.getD (leastI (fun g => ((N g).length : Int)) 0 0 0 gs).toNat d)) := by
  have h0 : gs = gs[0] :: gs.drop 1 := by rw [← drop_at (by omega)]; simp
  have e1 : refB N (-1) [] 0 gs = refB N ((0 : Nat) : Int) (N gs[0]) 1 (gs.drop 1) := by
    conv => lhs; rw [h0]
    rw [refB, if_pos (.inl (by omega))]
  have e2 : leastI (fun g => ((N g).length : Int)) 0 0 0 gs = leastI (fun g => ((N g).length : Int)) ((N gs[0]).length : Int) ((0 : Nat) : Int) 1 (gs.drop 1) := by
    conv => lhs; rw [h0]
    rw [leastI, if_pos (.inl rfl)]
  rw [e1, e2]
  exact refB_least N gs d (gs.length - 1) 1 0 (by omega) (by omega) (by omega)
theorem trackE_looks {s : SkyR} {a : List SightR} (h : trackE s a = 0) : ∃ ks, looksR s a = .ok ks := by
  obtain ⟨hE, -, -, -⟩ := trackE_zero h
  unfold trackE at h
  rw [if_pos hE] at h
  cases hr : looksR s a with
  | ok ks => exact ⟨ks, rfl⟩
  | error e => rw [hr] at h; exact absurd h (looksR_err hr)
theorem believeR_err {s : SkyR} {a : List SightR} {gs : List StateR} {t : Int} (h : ¬ trackE s a = 0) : believeR s a gs t = ⟨0, [], trackE s a⟩ := by
  unfold believeR allR
  unfold trackE at h ⊢
  by_cases hE : skyE s = 0
  · simp only [if_pos hE] at h ⊢
    rw [allA]
    cases hr : looksR s a with
    | ok ks => rw [hr] at h; exact absurd rfl h
    | error e => rfl
  · simp only [if_neg hE] at h ⊢
theorem believeR_ok {s : SkyR} {a : List SightR} {gs : List StateR} {t : Int} {ks : List LookR} (h : trackE s a = 0) (hk : looksR s a = .ok ks) : believeR s a gs t = if guessesE gs t = 0 then (if gs.length = 0 then ⟨0, [], 7⟩ else ⟨(refB (fun g => missL g t ks) (-1) [] 0 gs).1, (refB (fun g => missL g t ks) (-1) [] 0 gs).2, 0⟩) else ⟨0, [], guessesE gs t⟩ := by
  obtain ⟨hE, -, -, -⟩ := trackE_zero h
  unfold believeR allR
  rw [if_pos hE, allA, hk]
  simp only [allA, List.nil_append]
  by_cases hg : guessesE gs t = 0
  · rw [if_pos hg, if_pos hg]
    by_cases hz : gs.length = 0
    · rw [if_pos hz, if_pos hz]
    · rw [if_neg hz, if_neg hz, refB_eq (fun g => missL g t ks) gs ⟨0, 0, 0, 0⟩ hz]
  · rw [if_neg hg, if_neg hg]
set_option maxRecDepth 100000 in
set_option maxHeartbeats 16000000 in
theorem refBelieve_any (s : SkyR) (pa pg : Option Addr) (ca cg : Nat) (a : List SightR) (gs : List StateR) (t : Int) (w : World) (hA : s.At w) (ha : SightsAt w pa a) (hg : StatesAt w pg gs) :
    Calls Try.prog 17 #[s.val, .slice pa a.length ca, .slice pg gs.length cg, .int .i64 t] w (LinkPost w (believeR s a gs t)) := by
  have c1 := fun (W : World) (y : Below w.heap.size w W) => refCheckTracklet_any s pa ca a W (hA.on y) (ha.on y)
  have c3 := fun (W : World) (y : Below w.heap.size w W) => refAsked_any pg cg gs t W (hg.on y)
  obtain ⟨V, hV⟩ : ∃ V, believeR s a gs t = V := ⟨_, rfl⟩
  rw [hV]
  by_cases e1 : trackE s a = 0
  case neg =>
    rw [believeR_err e1] at hV
    subst hV
    clear hA ha hg
    unfold SkyR.val at *
    generalize s.cats.length = n1 at *; generalize s.cp = n2 at *; generalize s.cc = n3 at *; generalize s.bodies.length = n4 at *; generalize s.bp = n5 at *; generalize s.bc = n6 at *; generalize s.sts.length = n7 at *; generalize s.sp = n8 at *; generalize s.sc = n9 at *; generalize s.home = n0 at *
    generalize a.length = la at *
    generalize trackE s a = ea at *
    go_enter Try.func17, Try.ntmps17
    go_wp2_with (first | ((first | with_reducible refine wp_region_ext2 (by kernel_rfl) (by kernel_rfl) ?_ | with_reducible refine wp_region_ext (by kernel_rfl) (by kernel_rfl) ?_); (repeat (first | go_big_quiet_step ((first | (go_at_call 38; with_reducible exact Calls.ext (c1 _ (by repeat' (first | (with_reducible exact Below.refl _ _) | (with_reducible assumption) | (with_reducible refine Ext.below _ ?_ ?_) | (with_reducible refine Below.on ?_ (by with_reducible assumption) ?_) | (with_reducible refine Below.alloc ?_ ?_ _) | (with_reducible refine Below.drew ?_) | (with_reducible refine Below.setCell ?_ ?_ _) | (with_reducible exact Nat.le_refl _) | omega | (simp; done) | (simp [go_sem]; done) | (simp at *; omega))))) | (go_at_call 39; with_reducible exact Calls.ext (c3 _ (by repeat' (first | (with_reducible exact Below.refl _ _) | (with_reducible assumption) | (with_reducible refine Ext.below _ ?_ ?_) | (with_reducible refine Below.on ?_ (by with_reducible assumption) ?_) | (with_reducible refine Below.alloc ?_ ?_ _) | (with_reducible refine Below.drew ?_) | (with_reducible refine Below.setCell ?_ ?_ _) | (with_reducible exact Nat.le_refl _) | omega | (simp; done) | (simp [go_sem]; done) | (simp at *; omega))))))) | quiet_step ((first | (go_at_call 38; with_reducible exact Calls.ext (c1 _ (by repeat' (first | (with_reducible exact Below.refl _ _) | (with_reducible assumption) | (with_reducible refine Ext.below _ ?_ ?_) | (with_reducible refine Below.on ?_ (by with_reducible assumption) ?_) | (with_reducible refine Below.alloc ?_ ?_ _) | (with_reducible refine Below.drew ?_) | (with_reducible refine Below.setCell ?_ ?_ _) | (with_reducible exact Nat.le_refl _) | omega | (simp; done) | (simp [go_sem]; done) | (simp at *; omega))))) | (go_at_call 39; with_reducible exact Calls.ext (c3 _ (by repeat' (first | (with_reducible exact Below.refl _ _) | (with_reducible assumption) | (with_reducible refine Ext.below _ ?_ ?_) | (with_reducible refine Below.on ?_ (by with_reducible assumption) ?_) | (with_reducible refine Below.alloc ?_ ?_ _) | (with_reducible refine Below.drew ?_) | (with_reducible refine Below.setCell ?_ ?_ _) | (with_reducible exact Nat.le_refl _) | omega | (simp; done) | (simp [go_sem]; done) | (simp at *; omega))))))))); refine wpQuiet_nil ?_; rintro _ ⟨yr, rfl⟩; have syr := Ext.size yr; (repeat (first | rw [World.size_alloc] at syr | rw [World.size_setCell] at syr | rw [World.size_drew] at syr)); have : w.heap.size < yr.now.heap.size := (by omega); have : w.heap.size ≤ yr.now.heap.size := (by omega); have : w.heap.size < yr.now.heap.size + 1 + 1 := (by omega)) | (go_at_call 38; (first | with_reducible refine (Calls.giv2 (c1 _ (by repeat' (first | (with_reducible exact Below.refl _ _) | (with_reducible assumption) | (with_reducible refine Ext.below _ ?_ ?_) | (with_reducible refine Below.on ?_ (by with_reducible assumption) ?_) | (with_reducible refine Below.alloc ?_ ?_ _) | (with_reducible refine Below.drew ?_) | (with_reducible refine Below.setCell ?_ ?_ _) | (with_reducible exact Nat.le_refl _) | omega | (simp; done) | (simp [go_sem]; done) | (simp at *; omega))))).mono ?_ | with_reducible refine (Calls.giv (c1 _ (by repeat' (first | (with_reducible exact Below.refl _ _) | (with_reducible assumption) | (with_reducible refine Ext.below _ ?_ ?_) | (with_reducible refine Below.on ?_ (by with_reducible assumption) ?_) | (with_reducible refine Below.alloc ?_ ?_ _) | (with_reducible refine Below.drew ?_) | (with_reducible refine Below.setCell ?_ ?_ _) | (with_reducible exact Nat.le_refl _) | omega | (simp; done) | (simp [go_sem]; done) | (simp at *; omega))))).mono ?_); rintro _ _ ⟨y1, rfl, rfl⟩; have sy1 := Ext.size y1; (repeat (first | rw [World.size_alloc] at sy1 | rw [World.size_setCell] at sy1 | rw [World.size_drew] at sy1)); have : w.heap.size < y1.now.heap.size := (by omega); have : w.heap.size ≤ y1.now.heap.size := (by omega); have : w.heap.size < y1.now.heap.size + 1 + 1 := (by omega)) | (go_at_call 39; (first | with_reducible refine (Calls.giv2 (c3 _ (by repeat' (first | (with_reducible exact Below.refl _ _) | (with_reducible assumption) | (with_reducible refine Ext.below _ ?_ ?_) | (with_reducible refine Below.on ?_ (by with_reducible assumption) ?_) | (with_reducible refine Below.alloc ?_ ?_ _) | (with_reducible refine Below.drew ?_) | (with_reducible refine Below.setCell ?_ ?_ _) | (with_reducible exact Nat.le_refl _) | omega | (simp; done) | (simp [go_sem]; done) | (simp at *; omega))))).mono ?_ | with_reducible refine (Calls.giv (c3 _ (by repeat' (first | (with_reducible exact Below.refl _ _) | (with_reducible assumption) | (with_reducible refine Ext.below _ ?_ ?_) | (with_reducible refine Below.on ?_ (by with_reducible assumption) ?_) | (with_reducible refine Below.alloc ?_ ?_ _) | (with_reducible refine Below.drew ?_) | (with_reducible refine Below.setCell ?_ ?_ _) | (with_reducible exact Nat.le_refl _) | omega | (simp; done) | (simp [go_sem]; done) | (simp at *; omega))))).mono ?_); rintro _ _ ⟨y2, rfl, rfl⟩; have sy2 := Ext.size y2; (repeat (first | rw [World.size_alloc] at sy2 | rw [World.size_setCell] at sy2 | rw [World.size_drew] at sy2)); have : w.heap.size < y2.now.heap.size := (by omega); have : w.heap.size ≤ y2.now.heap.size := (by omega); have : w.heap.size < y2.now.heap.size + 1 + 1 := (by omega)))
    go_returns
    refine ⟨?_, _, rfl, World.ownsRow_nil _ _ _ _⟩
    repeat' (first | (with_reducible exact Below.refl _ _) | (with_reducible assumption) | (with_reducible refine Ext.below _ ?_ ?_) | (with_reducible refine Below.on ?_ (by with_reducible assumption) ?_) | (with_reducible refine Below.alloc ?_ ?_ _) | (with_reducible refine Below.drew ?_) | (with_reducible refine Below.setCell ?_ ?_ _) | (with_reducible exact Nat.le_refl _) | omega | (simp; done) | (simp [go_sem]; done) | (simp at *; omega))
  obtain ⟨ks, hk⟩ := trackE_looks e1
  obtain ⟨hE, na1, na2, va⟩ := trackE_zero e1
  have hlk := looksR_looked hk
  rw [believeR_ok e1 hk] at hV
  by_cases e3 : guessesE gs t = 0
  case neg =>
    rw [if_neg e3] at hV
    subst hV
    rw [e1] at c1
    clear hA ha hg e1 hlk va hk
    unfold SkyR.val at *
    generalize s.cats.length = n1 at *; generalize s.cp = n2 at *; generalize s.cc = n3 at *; generalize s.bodies.length = n4 at *; generalize s.bp = n5 at *; generalize s.bc = n6 at *; generalize s.sts.length = n7 at *; generalize s.sp = n8 at *; generalize s.sc = n9 at *; generalize s.home = n0 at *
    generalize a.length = la at *
    generalize guessesE gs t = ea at *
    go_enter Try.func17, Try.ntmps17
    go_wp2_with (first | ((first | with_reducible refine wp_region_ext2 (by kernel_rfl) (by kernel_rfl) ?_ | with_reducible refine wp_region_ext (by kernel_rfl) (by kernel_rfl) ?_); (repeat (first | go_big_quiet_step ((first | (go_at_call 38; with_reducible exact Calls.ext (c1 _ (by repeat' (first | (with_reducible exact Below.refl _ _) | (with_reducible assumption) | (with_reducible refine Ext.below _ ?_ ?_) | (with_reducible refine Below.on ?_ (by with_reducible assumption) ?_) | (with_reducible refine Below.alloc ?_ ?_ _) | (with_reducible refine Below.drew ?_) | (with_reducible refine Below.setCell ?_ ?_ _) | (with_reducible exact Nat.le_refl _) | omega | (simp; done) | (simp [go_sem]; done) | (simp at *; omega))))) | (go_at_call 39; with_reducible exact Calls.ext (c3 _ (by repeat' (first | (with_reducible exact Below.refl _ _) | (with_reducible assumption) | (with_reducible refine Ext.below _ ?_ ?_) | (with_reducible refine Below.on ?_ (by with_reducible assumption) ?_) | (with_reducible refine Below.alloc ?_ ?_ _) | (with_reducible refine Below.drew ?_) | (with_reducible refine Below.setCell ?_ ?_ _) | (with_reducible exact Nat.le_refl _) | omega | (simp; done) | (simp [go_sem]; done) | (simp at *; omega))))))) | quiet_step ((first | (go_at_call 38; with_reducible exact Calls.ext (c1 _ (by repeat' (first | (with_reducible exact Below.refl _ _) | (with_reducible assumption) | (with_reducible refine Ext.below _ ?_ ?_) | (with_reducible refine Below.on ?_ (by with_reducible assumption) ?_) | (with_reducible refine Below.alloc ?_ ?_ _) | (with_reducible refine Below.drew ?_) | (with_reducible refine Below.setCell ?_ ?_ _) | (with_reducible exact Nat.le_refl _) | omega | (simp; done) | (simp [go_sem]; done) | (simp at *; omega))))) | (go_at_call 39; with_reducible exact Calls.ext (c3 _ (by repeat' (first | (with_reducible exact Below.refl _ _) | (with_reducible assumption) | (with_reducible refine Ext.below _ ?_ ?_) | (with_reducible refine Below.on ?_ (by with_reducible assumption) ?_) | (with_reducible refine Below.alloc ?_ ?_ _) | (with_reducible refine Below.drew ?_) | (with_reducible refine Below.setCell ?_ ?_ _) | (with_reducible exact Nat.le_refl _) | omega | (simp; done) | (simp [go_sem]; done) | (simp at *; omega))))))))); refine wpQuiet_nil ?_; rintro _ ⟨yr, rfl⟩; have syr := Ext.size yr; (repeat (first | rw [World.size_alloc] at syr | rw [World.size_setCell] at syr | rw [World.size_drew] at syr)); have : w.heap.size < yr.now.heap.size := (by omega); have : w.heap.size ≤ yr.now.heap.size := (by omega); have : w.heap.size < yr.now.heap.size + 1 + 1 := (by omega)) | (go_at_call 38; (first | with_reducible refine (Calls.giv2 (c1 _ (by repeat' (first | (with_reducible exact Below.refl _ _) | (with_reducible assumption) | (with_reducible refine Ext.below _ ?_ ?_) | (with_reducible refine Below.on ?_ (by with_reducible assumption) ?_) | (with_reducible refine Below.alloc ?_ ?_ _) | (with_reducible refine Below.drew ?_) | (with_reducible refine Below.setCell ?_ ?_ _) | (with_reducible exact Nat.le_refl _) | omega | (simp; done) | (simp [go_sem]; done) | (simp at *; omega))))).mono ?_ | with_reducible refine (Calls.giv (c1 _ (by repeat' (first | (with_reducible exact Below.refl _ _) | (with_reducible assumption) | (with_reducible refine Ext.below _ ?_ ?_) | (with_reducible refine Below.on ?_ (by with_reducible assumption) ?_) | (with_reducible refine Below.alloc ?_ ?_ _) | (with_reducible refine Below.drew ?_) | (with_reducible refine Below.setCell ?_ ?_ _) | (with_reducible exact Nat.le_refl _) | omega | (simp; done) | (simp [go_sem]; done) | (simp at *; omega))))).mono ?_); rintro _ _ ⟨y1, rfl, rfl⟩; have sy1 := Ext.size y1; (repeat (first | rw [World.size_alloc] at sy1 | rw [World.size_setCell] at sy1 | rw [World.size_drew] at sy1)); have : w.heap.size < y1.now.heap.size := (by omega); have : w.heap.size ≤ y1.now.heap.size := (by omega); have : w.heap.size < y1.now.heap.size + 1 + 1 := (by omega)) | (go_at_call 39; (first | with_reducible refine (Calls.giv2 (c3 _ (by repeat' (first | (with_reducible exact Below.refl _ _) | (with_reducible assumption) | (with_reducible refine Ext.below _ ?_ ?_) | (with_reducible refine Below.on ?_ (by with_reducible assumption) ?_) | (with_reducible refine Below.alloc ?_ ?_ _) | (with_reducible refine Below.drew ?_) | (with_reducible refine Below.setCell ?_ ?_ _) | (with_reducible exact Nat.le_refl _) | omega | (simp; done) | (simp [go_sem]; done) | (simp at *; omega))))).mono ?_ | with_reducible refine (Calls.giv (c3 _ (by repeat' (first | (with_reducible exact Below.refl _ _) | (with_reducible assumption) | (with_reducible refine Ext.below _ ?_ ?_) | (with_reducible refine Below.on ?_ (by with_reducible assumption) ?_) | (with_reducible refine Below.alloc ?_ ?_ _) | (with_reducible refine Below.drew ?_) | (with_reducible refine Below.setCell ?_ ?_ _) | (with_reducible exact Nat.le_refl _) | omega | (simp; done) | (simp [go_sem]; done) | (simp at *; omega))))).mono ?_); rintro _ _ ⟨y2, rfl, rfl⟩; have sy2 := Ext.size y2; (repeat (first | rw [World.size_alloc] at sy2 | rw [World.size_setCell] at sy2 | rw [World.size_drew] at sy2)); have : w.heap.size < y2.now.heap.size := (by omega); have : w.heap.size ≤ y2.now.heap.size := (by omega); have : w.heap.size < y2.now.heap.size + 1 + 1 := (by omega)))
    go_returns
    refine ⟨?_, _, rfl, World.ownsRow_nil _ _ _ _⟩
    repeat' (first | (with_reducible exact Below.refl _ _) | (with_reducible assumption) | (with_reducible refine Ext.below _ ?_ ?_) | (with_reducible refine Below.on ?_ (by with_reducible assumption) ?_) | (with_reducible refine Below.alloc ?_ ?_ _) | (with_reducible refine Below.drew ?_) | (with_reducible refine Below.setCell ?_ ?_ _) | (with_reducible exact Nat.le_refl _) | omega | (simp; done) | (simp [go_sem]; done) | (simp at *; omega))
  rw [if_pos e3] at hV
  rw [e1] at c1
  rw [e3] at c3
  obtain ⟨gn, gt', gf⟩ := guessesE_zero e3
  by_cases hz : gs.length = 0
  · rw [if_pos hz] at hV
    subst hV
    rw [hz] at c3 ⊢
    clear hA ha hg e1 hlk va hk e3 gf
    unfold SkyR.val at *
    generalize s.cats.length = n1 at *; generalize s.cp = n2 at *; generalize s.cc = n3 at *; generalize s.bodies.length = n4 at *; generalize s.bp = n5 at *; generalize s.bc = n6 at *; generalize s.sts.length = n7 at *; generalize s.sp = n8 at *; generalize s.sc = n9 at *; generalize s.home = n0 at *
    generalize a.length = la at *
    go_enter Try.func17, Try.ntmps17
    go_wp2_with (first | ((first | with_reducible refine wp_region_ext2 (by kernel_rfl) (by kernel_rfl) ?_ | with_reducible refine wp_region_ext (by kernel_rfl) (by kernel_rfl) ?_); (repeat (first | go_big_quiet_step ((first | (go_at_call 38; with_reducible exact Calls.ext (c1 _ (by repeat' (first | (with_reducible exact Below.refl _ _) | (with_reducible assumption) | (with_reducible refine Ext.below _ ?_ ?_) | (with_reducible refine Below.on ?_ (by with_reducible assumption) ?_) | (with_reducible refine Below.alloc ?_ ?_ _) | (with_reducible refine Below.drew ?_) | (with_reducible refine Below.setCell ?_ ?_ _) | (with_reducible exact Nat.le_refl _) | omega | (simp; done) | (simp [go_sem]; done) | (simp at *; omega))))) | (go_at_call 39; with_reducible exact Calls.ext (c3 _ (by repeat' (first | (with_reducible exact Below.refl _ _) | (with_reducible assumption) | (with_reducible refine Ext.below _ ?_ ?_) | (with_reducible refine Below.on ?_ (by with_reducible assumption) ?_) | (with_reducible refine Below.alloc ?_ ?_ _) | (with_reducible refine Below.drew ?_) | (with_reducible refine Below.setCell ?_ ?_ _) | (with_reducible exact Nat.le_refl _) | omega | (simp; done) | (simp [go_sem]; done) | (simp at *; omega))))))) | quiet_step ((first | (go_at_call 38; with_reducible exact Calls.ext (c1 _ (by repeat' (first | (with_reducible exact Below.refl _ _) | (with_reducible assumption) | (with_reducible refine Ext.below _ ?_ ?_) | (with_reducible refine Below.on ?_ (by with_reducible assumption) ?_) | (with_reducible refine Below.alloc ?_ ?_ _) | (with_reducible refine Below.drew ?_) | (with_reducible refine Below.setCell ?_ ?_ _) | (with_reducible exact Nat.le_refl _) | omega | (simp; done) | (simp [go_sem]; done) | (simp at *; omega))))) | (go_at_call 39; with_reducible exact Calls.ext (c3 _ (by repeat' (first | (with_reducible exact Below.refl _ _) | (with_reducible assumption) | (with_reducible refine Ext.below _ ?_ ?_) | (with_reducible refine Below.on ?_ (by with_reducible assumption) ?_) | (with_reducible refine Below.alloc ?_ ?_ _) | (with_reducible refine Below.drew ?_) | (with_reducible refine Below.setCell ?_ ?_ _) | (with_reducible exact Nat.le_refl _) | omega | (simp; done) | (simp [go_sem]; done) | (simp at *; omega))))))))); refine wpQuiet_nil ?_; rintro _ ⟨yr, rfl⟩; have syr := Ext.size yr; (repeat (first | rw [World.size_alloc] at syr | rw [World.size_setCell] at syr | rw [World.size_drew] at syr)); have : w.heap.size < yr.now.heap.size := (by omega); have : w.heap.size ≤ yr.now.heap.size := (by omega); have : w.heap.size < yr.now.heap.size + 1 + 1 := (by omega)) | (go_at_call 38; (first | with_reducible refine (Calls.giv2 (c1 _ (by repeat' (first | (with_reducible exact Below.refl _ _) | (with_reducible assumption) | (with_reducible refine Ext.below _ ?_ ?_) | (with_reducible refine Below.on ?_ (by with_reducible assumption) ?_) | (with_reducible refine Below.alloc ?_ ?_ _) | (with_reducible refine Below.drew ?_) | (with_reducible refine Below.setCell ?_ ?_ _) | (with_reducible exact Nat.le_refl _) | omega | (simp; done) | (simp [go_sem]; done) | (simp at *; omega))))).mono ?_ | with_reducible refine (Calls.giv (c1 _ (by repeat' (first | (with_reducible exact Below.refl _ _) | (with_reducible assumption) | (with_reducible refine Ext.below _ ?_ ?_) | (with_reducible refine Below.on ?_ (by with_reducible assumption) ?_) | (with_reducible refine Below.alloc ?_ ?_ _) | (with_reducible refine Below.drew ?_) | (with_reducible refine Below.setCell ?_ ?_ _) | (with_reducible exact Nat.le_refl _) | omega | (simp; done) | (simp [go_sem]; done) | (simp at *; omega))))).mono ?_); rintro _ _ ⟨y1, rfl, rfl⟩; have sy1 := Ext.size y1; (repeat (first | rw [World.size_alloc] at sy1 | rw [World.size_setCell] at sy1 | rw [World.size_drew] at sy1)); have : w.heap.size < y1.now.heap.size := (by omega); have : w.heap.size ≤ y1.now.heap.size := (by omega); have : w.heap.size < y1.now.heap.size + 1 + 1 := (by omega)) | (go_at_call 39; (first | with_reducible refine (Calls.giv2 (c3 _ (by repeat' (first | (with_reducible exact Below.refl _ _) | (with_reducible assumption) | (with_reducible refine Ext.below _ ?_ ?_) | (with_reducible refine Below.on ?_ (by with_reducible assumption) ?_) | (with_reducible refine Below.alloc ?_ ?_ _) | (with_reducible refine Below.drew ?_) | (with_reducible refine Below.setCell ?_ ?_ _) | (with_reducible exact Nat.le_refl _) | omega | (simp; done) | (simp [go_sem]; done) | (simp at *; omega))))).mono ?_ | with_reducible refine (Calls.giv (c3 _ (by repeat' (first | (with_reducible exact Below.refl _ _) | (with_reducible assumption) | (with_reducible refine Ext.below _ ?_ ?_) | (with_reducible refine Below.on ?_ (by with_reducible assumption) ?_) | (with_reducible refine Below.alloc ?_ ?_ _) | (with_reducible refine Below.drew ?_) | (with_reducible refine Below.setCell ?_ ?_ _) | (with_reducible exact Nat.le_refl _) | omega | (simp; done) | (simp [go_sem]; done) | (simp at *; omega))))).mono ?_); rintro _ _ ⟨y2, rfl, rfl⟩; have sy2 := Ext.size y2; (repeat (first | rw [World.size_alloc] at sy2 | rw [World.size_setCell] at sy2 | rw [World.size_drew] at sy2)); have : w.heap.size < y2.now.heap.size := (by omega); have : w.heap.size ≤ y2.now.heap.size := (by omega); have : w.heap.size < y2.now.heap.size + 1 + 1 := (by omega)))
    go_returns
    refine ⟨?_, _, rfl, World.ownsRow_nil _ _ _ _⟩
    repeat' (first | (with_reducible exact Below.refl _ _) | (with_reducible assumption) | (with_reducible refine Ext.below _ ?_ ?_) | (with_reducible refine Below.on ?_ (by with_reducible assumption) ?_) | (with_reducible refine Below.alloc ?_ ?_ _) | (with_reducible refine Below.drew ?_) | (with_reducible refine Below.setCell ?_ ?_ _) | (with_reducible exact Nat.le_refl _) | omega | (simp; done) | (simp [go_sem]; done) | (simp at *; omega))
  rw [if_neg hz] at hV
  have hne : ¬ (gs = []) := fun e => hz (by rw [e]; rfl)
  have hz0 : ¬ ((gs.length : Int) = 0) := by omega
  have cx := Go.Lib.hid (fun (W : World) (y : Below w.heap.size w W) j (hj : j < gs.length) (x : SightR) (k : LookR) (hk : lookR s x = .ok k) => refFits_any s x k gs[j] t W (hA.on y) hE hk (gf j hj) gt')
  have hkl := Go.Lib.hid hlk.length
  have hget := Go.Lib.hid (fun j (h : j < a.length) => hlk.get j h)
  obtain ⟨R, hR⟩ : ∃ R, refB (fun g => missL g t ks) (-1) [] 0 gs = R := ⟨_, rfl⟩
  rw [hR] at hV
  have hR := Go.Lib.hid hR
  have hV := Go.Lib.hid hV
  have hg := Go.Lib.hid hg
  have ha := Go.Lib.hid ha
  clear hA e1 e3 hk hlk va hE gf hz
  unfold SkyR.val SightR.val at *
  generalize s.cats.length = n1 at *; generalize s.cp = n2 at *; generalize s.cc = n3 at *; generalize s.bodies.length = n4 at *; generalize s.bp = n5 at *; generalize s.bc = n6 at *; generalize s.sts.length = n7 at *; generalize s.sp = n8 at *; generalize s.sc = n9 at *; generalize s.home = n0 at *
  go_enter Try.func17, Try.ntmps17
  go_wp2_with (first | ((first | with_reducible refine wp_region_ext2 (by kernel_rfl) (by kernel_rfl) ?_ | with_reducible refine wp_region_ext (by kernel_rfl) (by kernel_rfl) ?_); (repeat (first | go_big_quiet_step ((first | (go_at_call 38; with_reducible exact Calls.ext (c1 _ (by repeat' (first | (with_reducible exact Below.refl _ _) | (with_reducible assumption) | (with_reducible refine Ext.below _ ?_ ?_) | (with_reducible refine Below.on ?_ (by with_reducible assumption) ?_) | (with_reducible refine Below.alloc ?_ ?_ _) | (with_reducible refine Below.drew ?_) | (with_reducible refine Below.setCell ?_ ?_ _) | (with_reducible exact Nat.le_refl _) | omega | (simp; done) | (simp [go_sem]; done) | (simp at *; omega))))) | (go_at_call 39; with_reducible exact Calls.ext (c3 _ (by repeat' (first | (with_reducible exact Below.refl _ _) | (with_reducible assumption) | (with_reducible refine Ext.below _ ?_ ?_) | (with_reducible refine Below.on ?_ (by with_reducible assumption) ?_) | (with_reducible refine Below.alloc ?_ ?_ _) | (with_reducible refine Below.drew ?_) | (with_reducible refine Below.setCell ?_ ?_ _) | (with_reducible exact Nat.le_refl _) | omega | (simp; done) | (simp [go_sem]; done) | (simp at *; omega))))))) | quiet_step ((first | (go_at_call 38; with_reducible exact Calls.ext (c1 _ (by repeat' (first | (with_reducible exact Below.refl _ _) | (with_reducible assumption) | (with_reducible refine Ext.below _ ?_ ?_) | (with_reducible refine Below.on ?_ (by with_reducible assumption) ?_) | (with_reducible refine Below.alloc ?_ ?_ _) | (with_reducible refine Below.drew ?_) | (with_reducible refine Below.setCell ?_ ?_ _) | (with_reducible exact Nat.le_refl _) | omega | (simp; done) | (simp [go_sem]; done) | (simp at *; omega))))) | (go_at_call 39; with_reducible exact Calls.ext (c3 _ (by repeat' (first | (with_reducible exact Below.refl _ _) | (with_reducible assumption) | (with_reducible refine Ext.below _ ?_ ?_) | (with_reducible refine Below.on ?_ (by with_reducible assumption) ?_) | (with_reducible refine Below.alloc ?_ ?_ _) | (with_reducible refine Below.drew ?_) | (with_reducible refine Below.setCell ?_ ?_ _) | (with_reducible exact Nat.le_refl _) | omega | (simp; done) | (simp [go_sem]; done) | (simp at *; omega))))))))); refine wpQuiet_nil ?_; rintro _ ⟨yr, rfl⟩; have syr := Ext.size yr; (repeat (first | rw [World.size_alloc] at syr | rw [World.size_setCell] at syr | rw [World.size_drew] at syr)); have : w.heap.size < yr.now.heap.size := (by omega); have : w.heap.size ≤ yr.now.heap.size := (by omega); have : w.heap.size < yr.now.heap.size + 1 + 1 := (by omega)) | (go_at_call 38; (first | with_reducible refine (Calls.giv2 (c1 _ (by repeat' (first | (with_reducible exact Below.refl _ _) | (with_reducible assumption) | (with_reducible refine Ext.below _ ?_ ?_) | (with_reducible refine Below.on ?_ (by with_reducible assumption) ?_) | (with_reducible refine Below.alloc ?_ ?_ _) | (with_reducible refine Below.drew ?_) | (with_reducible refine Below.setCell ?_ ?_ _) | (with_reducible exact Nat.le_refl _) | omega | (simp; done) | (simp [go_sem]; done) | (simp at *; omega))))).mono ?_ | with_reducible refine (Calls.giv (c1 _ (by repeat' (first | (with_reducible exact Below.refl _ _) | (with_reducible assumption) | (with_reducible refine Ext.below _ ?_ ?_) | (with_reducible refine Below.on ?_ (by with_reducible assumption) ?_) | (with_reducible refine Below.alloc ?_ ?_ _) | (with_reducible refine Below.drew ?_) | (with_reducible refine Below.setCell ?_ ?_ _) | (with_reducible exact Nat.le_refl _) | omega | (simp; done) | (simp [go_sem]; done) | (simp at *; omega))))).mono ?_); rintro _ _ ⟨y1, rfl, rfl⟩; have sy1 := Ext.size y1; (repeat (first | rw [World.size_alloc] at sy1 | rw [World.size_setCell] at sy1 | rw [World.size_drew] at sy1)); have : w.heap.size < y1.now.heap.size := (by omega); have : w.heap.size ≤ y1.now.heap.size := (by omega); have : w.heap.size < y1.now.heap.size + 1 + 1 := (by omega)) | (go_at_call 39; (first | with_reducible refine (Calls.giv2 (c3 _ (by repeat' (first | (with_reducible exact Below.refl _ _) | (with_reducible assumption) | (with_reducible refine Ext.below _ ?_ ?_) | (with_reducible refine Below.on ?_ (by with_reducible assumption) ?_) | (with_reducible refine Below.alloc ?_ ?_ _) | (with_reducible refine Below.drew ?_) | (with_reducible refine Below.setCell ?_ ?_ _) | (with_reducible exact Nat.le_refl _) | omega | (simp; done) | (simp [go_sem]; done) | (simp at *; omega))))).mono ?_ | with_reducible refine (Calls.giv (c3 _ (by repeat' (first | (with_reducible exact Below.refl _ _) | (with_reducible assumption) | (with_reducible refine Ext.below _ ?_ ?_) | (with_reducible refine Below.on ?_ (by with_reducible assumption) ?_) | (with_reducible refine Below.alloc ?_ ?_ _) | (with_reducible refine Below.drew ?_) | (with_reducible refine Below.setCell ?_ ?_ _) | (with_reducible exact Nat.le_refl _) | omega | (simp; done) | (simp [go_sem]; done) | (simp at *; omega))))).mono ?_); rintro _ _ ⟨y2, rfl, rfl⟩; have sy2 := Ext.size y2; (repeat (first | rw [World.size_alloc] at sy2 | rw [World.size_setCell] at sy2 | rw [World.size_drew] at sy2)); have : w.heap.size < y2.now.heap.size := (by omega); have : w.heap.size ≤ y2.now.heap.size := (by omega); have : w.heap.size < y2.now.heap.size + 1 + 1 := (by omega)))
  refine wp_named (fun WA hW => ?_)
  have hbw : Below w.heap.size w WA := by rw [← hW]; repeat' (first | (with_reducible exact Below.refl _ _) | (with_reducible assumption) | (with_reducible refine Ext.below _ ?_ ?_) | (with_reducible refine Below.on ?_ (by with_reducible assumption) ?_) | (with_reducible refine Below.alloc ?_ ?_ _) | (with_reducible refine Below.drew ?_) | (with_reducible refine Below.setCell ?_ ?_ _) | (with_reducible exact Nat.le_refl _) | omega | (simp; done) | (simp [go_sem]; done) | (simp at *; omega))
  have b0 : WA.cell? ⟨w.heap.size, 0, none⟩ = some (.slice n5 n4 n6) := by rw [← hW]; simp [go_sem]
  have b1 : WA.cell? ⟨w.heap.size, 1, none⟩ = some (.int .i64 n0) := by rw [← hW]; simp [go_sem]
  have b2 : WA.cell? ⟨w.heap.size, 2, none⟩ = some (.slice n8 n7 n9) := by rw [← hW]; simp [go_sem]
  have b3 : WA.cell? ⟨w.heap.size, 3, none⟩ = some (.slice n2 n1 n3) := by rw [← hW]; simp [go_sem]
  have hsA : w.heap.size < WA.heap.size := by rw [← hW]; simp at *; omega
  clear hW c1 c3
  have hzb : ((gs.length : Int) == 0) = false := by simpa using hne
  simp only [hzb]
  clear hzb
  have hGA := Go.Lib.hid (hg.out.on hbw)
  have hSA := Go.Lib.hid (ha.out.on hbw)
  obtain ⟨i0, hi0, hz0, hz1, hz2⟩ := info_parts int_info
  go_loopw [12, 13, 14] (fun bv v u W => ∃ (i : Nat) (x : Ext WA) (bb : Int) (wr : List Int), bv = .int .i64 bb ∧ u = .int .i64 i ∧ W = x.now ∧ x.now.ownsRow WA.heap.size 3 1 v wr.length (intsOf wr) ∧ Hid (i ≤ gs.length ∧ refB (fun g => missL g t ks) bb wr i (gs.drop i) = R)) (fun _ _ u _ => gs.length - (intOf u).toNat)
  case atStart => exact ⟨0, ⟨WA, Below.refl _ _⟩, -1, [], rfl, rfl, rfl, World.ownsRow_nil _ _ _ _, Go.Lib.hid ⟨Nat.zero_le _, by simpa using hR.out⟩⟩
  case round =>
    obtain ⟨i, x, bb, wr, rfl, rfl, rfl, hwr, hi⟩ := hrel
    have xs := x.size
    obtain ⟨wp', wc, rfl⟩ := owns_form hwr
    have hbx := x.below hbw (by omega)
    by_cases hlt : i < gs.length
    · have hlt2 : (i : Int) < gs.length := by omega
      have hE := hi.out.2
      rw [drop_at hlt, refB] at hE
      obtain ⟨NG, hNG⟩ : ∃ L, missL gs[i] t ks = L := ⟨_, rfl⟩
      rw [hNG] at hE
      unfold missL at hNG
      have hNG := Go.Lib.hid hNG
      have cxi := Go.Lib.hid (fun (W : World) (y : Below w.heap.size w W) (x : SightR) (k : LookR) (hk : lookR s x = .ok k) => cx.out W y i hlt x k hk)
      have hb := Go.Lib.hid (And.intro ((x.cell hsA).trans b0) (And.intro ((x.cell hsA).trans b1) (And.intro ((x.cell hsA).trans b2) ((x.cell hsA).trans b3))))
      have hsX := x.lt hsA
      have hwx : w.heap.size ≤ x.now.heap.size := by omega
      have hGX := Go.Lib.hid (hGA.out.on x.grew)
      have hSX := Go.Lib.hid (hSA.out.on x.grew)
      have hxA := x.grew
      clear hi
      go_wp2_with (first | ((first | with_reducible refine wp_region_ext2 (by kernel_rfl) (by kernel_rfl) ?_ | with_reducible refine wp_region_ext (by kernel_rfl) (by kernel_rfl) ?_); (repeat (first | go_big_quiet_step ((first | fail)) | quiet_step ((first | fail)))); refine wpQuiet_nil ?_; rintro _ ⟨yr, rfl⟩; have syr := Ext.size yr; (repeat (first | rw [World.size_alloc] at syr | rw [World.size_setCell] at syr | rw [World.size_drew] at syr)); have : w.heap.size < yr.now.heap.size := (by omega); have : w.heap.size ≤ yr.now.heap.size := (by omega); have : w.heap.size < yr.now.heap.size + 1 + 1 := (by omega)))
      generalize x.now = W0 at *
      clear x
      obtain ⟨a0, a1, a2, a3⟩ := hb.out
      clear hb
      go_loopw [15, 16] (fun v u W => ∃ (k : Nat) (y : Ext W0) (acc : List Int), u = .int .i64 k ∧ W = y.now ∧ y.now.ownsRow W0.heap.size 3 1 v acc.length (intsOf acc) ∧ Hid (k ≤ a.length ∧ acc.length ≤ k ∧ missA gs[i] t acc k (ks.drop k) = NG)) (fun _ u _ => a.length - (intOf u).toNat)
      case atStart => exact ⟨0, ⟨W0, Below.refl _ _⟩, [], rfl, rfl, World.ownsRow_nil _ _ _ _, Go.Lib.hid ⟨Nat.zero_le _, by simp, by simpa using hNG.out⟩⟩
      case round =>
        obtain ⟨k, y, acc, rfl, rfl, hown, hk⟩ := hrel
        have ys := y.size
        have hby := y.below hbx (by omega)
        have : w.heap.size < (y.now).heap.size := (by omega); have : w.heap.size < (y.now).heap.size + 1 := (by omega); have : w.heap.size < (y.now).heap.size + 1 + 1 := (by omega); have : w.heap.size ≠ (y.now).heap.size := (by omega); have : w.heap.size ≠ (y.now).heap.size + 1 := (by omega)
        by_cases hka : k < a.length
        · have hka2 : (k : Int) < a.length := by omega
          obtain ⟨kk, hkk, hlook⟩ := hget.out k hka
          have hkl' : k < ks.length := by rw [hkl.out]; exact hka
          have hkk2 : ks[k] = kk := by rw [List.getElem?_eq_getElem hkl'] at hkk; simpa using hkk
          have hEk := hk.out.2.2
          have hak := hk.out.2.1
          rw [drop_at hkl', missA, hkk2] at hEk
          have cxk := fun (W : World) (y : Below w.heap.size w W) => cxi.out W y a[k] kk hlook
          obtain ⟨B, o, rfl, hB, q1, q2, q3, q4, q5, q6, q7, q8, q9⟩ := hSX.out k hka
          obtain ⟨BG, oG, rfl, hBG, u0, u1, u2, u3⟩ := hGX.out i hlt
          have : B < (y.now).heap.size := (by omega); have : B < (y.now).heap.size + 1 := (by omega); have : B < (y.now).heap.size + 1 + 1 := (by omega); have : B ≠ (y.now).heap.size := (by omega); have : B ≠ (y.now).heap.size + 1 := (by omega)
          have : BG < (y.now).heap.size := (by omega); have : BG < (y.now).heap.size + 1 := (by omega); have : BG < (y.now).heap.size + 1 + 1 := (by omega); have : BG ≠ (y.now).heap.size := (by omega); have : BG ≠ (y.now).heap.size + 1 := (by omega)
          clear hkk hkk2 hlook
          cases hm : missB gs[i] t kk
          · rw [hm, if_neg (by simp)] at hEk
            rw [hm] at cxk
            have key : Hid (k + 1 ≤ a.length ∧ acc.length ≤ k + 1 ∧ missA gs[i] t acc (k + 1) (ks.drop (k + 1)) = NG) := Go.Lib.hid ⟨hka, by omega, hEk⟩
            clear hEk hk hm
            generalize a[k].kind = h0 at *
            generalize a[k].st = h1 at *
            generalize a[k].cat = h2 at *
            generalize a[k].tick = h3 at *
            generalize a[k].dir.x = h4 at *
            generalize a[k].dir.y = h5 at *
            generalize a[k].err = h6 at *
            generalize a[k].lo = h7 at *
            generalize a[k].hi = h8 at *
            generalize gs[i].x = j0 at *
            generalize gs[i].y = j1 at *
            generalize gs[i].u = j2 at *
            generalize gs[i].v = j3 at *
            go_wp2_with (first | ((with_reducible refine wp_region_ext (by kernel_rfl) (by kernel_rfl) ?_); (repeat (first | go_big_quiet_step ((first | (go_at_call 40; with_reducible exact Calls.ext (cxk _ (by repeat' (first | (with_reducible exact Below.refl _ _) | (with_reducible assumption) | (with_reducible refine Ext.below _ ?_ ?_) | (with_reducible refine Below.on ?_ (by with_reducible assumption) ?_) | (with_reducible refine Below.alloc ?_ ?_ _) | (with_reducible refine Below.drew ?_) | (with_reducible refine Below.setCell ?_ ?_ _) | (with_reducible exact Nat.le_refl _) | omega | (simp; done) | (simp [go_sem]; done) | (simp at *; omega))))))) | quiet_step ((first | (go_at_call 40; with_reducible exact Calls.ext (cxk _ (by repeat' (first | (with_reducible exact Below.refl _ _) | (with_reducible assumption) | (with_reducible refine Ext.below _ ?_ ?_) | (with_reducible refine Below.on ?_ (by with_reducible assumption) ?_) | (with_reducible refine Below.alloc ?_ ?_ _) | (with_reducible refine Below.drew ?_) | (with_reducible refine Below.setCell ?_ ?_ _) | (with_reducible exact Nat.le_refl _) | omega | (simp; done) | (simp [go_sem]; done) | (simp at *; omega))))))))); refine wpQuiet_nil ?_; rintro _ ⟨yr, rfl⟩; have syr := Ext.size yr; (repeat (first | rw [World.size_alloc] at syr | rw [World.size_setCell] at syr | rw [World.size_drew] at syr)); have : B < yr.now.heap.size := (by omega); have : B ≤ yr.now.heap.size := (by omega); have : B < yr.now.heap.size + 1 + 1 := (by omega); have : BG < yr.now.heap.size := (by omega); have : BG ≤ yr.now.heap.size := (by omega); have : BG < yr.now.heap.size + 1 + 1 := (by omega); have : w.heap.size < yr.now.heap.size := (by omega); have : w.heap.size ≤ yr.now.heap.size := (by omega); have : w.heap.size < yr.now.heap.size + 1 + 1 := (by omega)) | (go_at_call 40; with_reducible refine (Calls.giv (cxk _ (by repeat' (first | (with_reducible exact Below.refl _ _) | (with_reducible assumption) | (with_reducible refine Ext.below _ ?_ ?_) | (with_reducible refine Below.on ?_ (by with_reducible assumption) ?_) | (with_reducible refine Below.alloc ?_ ?_ _) | (with_reducible refine Below.drew ?_) | (with_reducible refine Below.setCell ?_ ?_ _) | (with_reducible exact Nat.le_refl _) | omega | (simp; done) | (simp [go_sem]; done) | (simp at *; omega))))).mono ?_; rintro _ _ ⟨y1, rfl, rfl⟩; have sy1 := Ext.size y1; (repeat (first | rw [World.size_alloc] at sy1 | rw [World.size_setCell] at sy1 | rw [World.size_drew] at sy1)); have : B < y1.now.heap.size := (by omega); have : B ≤ y1.now.heap.size := (by omega); have : B < y1.now.heap.size + 1 + 1 := (by omega); have : BG < y1.now.heap.size := (by omega); have : BG ≤ y1.now.heap.size := (by omega); have : BG < y1.now.heap.size + 1 + 1 := (by omega); have : w.heap.size < y1.now.heap.size := (by omega); have : w.heap.size ≤ y1.now.heap.size := (by omega); have : w.heap.size < y1.now.heap.size + 1 + 1 := (by omega)))
            refine ⟨⟨k + 1, ⟨_, ?_⟩, acc, by simp, rfl, ?_, key⟩, by simp [intOf]; omega⟩
            · repeat' (first | (with_reducible exact Below.refl _ _) | (with_reducible assumption) | (with_reducible refine Ext.below _ ?_ ?_) | (with_reducible refine Below.on ?_ (by with_reducible assumption) ?_) | (with_reducible refine Below.alloc ?_ ?_ _) | (with_reducible refine Below.drew ?_) | (with_reducible refine Below.setCell ?_ ?_ _) | (with_reducible exact Nat.le_refl _) | omega | (simp; done) | (simp [go_sem]; done) | (simp at *; omega))
            · dsimp only; exact (by repeat (first | exact hown | (with_reducible refine World.ownsRow.alloc ?_ _) | (with_reducible refine World.ownsRow.drew ?_) | (with_reducible refine owns_ext ?_ _)))
          · rw [hm, if_pos rfl] at hEk
            rw [hm] at cxk
            have hadd := Go.Lib.hid (intsOf_add acc (k : Int))
            have key : Hid (k + 1 ≤ a.length ∧ (acc ++ [(k : Int)]).length ≤ k + 1 ∧ missA gs[i] t (acc ++ [(k : Int)]) (k + 1) (ks.drop (k + 1)) = NG) := Go.Lib.hid ⟨hka, by rw [List.length_append, List.length_cons, List.length_nil]; omega, hEk⟩
            clear hEk hk hm
            generalize a[k].kind = h0 at *
            generalize a[k].st = h1 at *
            generalize a[k].cat = h2 at *
            generalize a[k].tick = h3 at *
            generalize a[k].dir.x = h4 at *
            generalize a[k].dir.y = h5 at *
            generalize a[k].err = h6 at *
            generalize a[k].lo = h7 at *
            generalize a[k].hi = h8 at *
            generalize gs[i].x = j0 at *
            generalize gs[i].y = j1 at *
            generalize gs[i].u = j2 at *
            generalize gs[i].v = j3 at *
            go_wp2_with (first | ((with_reducible refine wp_region_ext (by kernel_rfl) (by kernel_rfl) ?_); (repeat (first | go_big_quiet_step ((first | (go_at_call 40; with_reducible exact Calls.ext (cxk _ (by repeat' (first | (with_reducible exact Below.refl _ _) | (with_reducible assumption) | (with_reducible refine Ext.below _ ?_ ?_) | (with_reducible refine Below.on ?_ (by with_reducible assumption) ?_) | (with_reducible refine Below.alloc ?_ ?_ _) | (with_reducible refine Below.drew ?_) | (with_reducible refine Below.setCell ?_ ?_ _) | (with_reducible exact Nat.le_refl _) | omega | (simp; done) | (simp [go_sem]; done) | (simp at *; omega))))))) | quiet_step ((first | (go_at_call 40; with_reducible exact Calls.ext (cxk _ (by repeat' (first | (with_reducible exact Below.refl _ _) | (with_reducible assumption) | (with_reducible refine Ext.below _ ?_ ?_) | (with_reducible refine Below.on ?_ (by with_reducible assumption) ?_) | (with_reducible refine Below.alloc ?_ ?_ _) | (with_reducible refine Below.drew ?_) | (with_reducible refine Below.setCell ?_ ?_ _) | (with_reducible exact Nat.le_refl _) | omega | (simp; done) | (simp [go_sem]; done) | (simp at *; omega))))))))); refine wpQuiet_nil ?_; rintro _ ⟨yr, rfl⟩; have syr := Ext.size yr; (repeat (first | rw [World.size_alloc] at syr | rw [World.size_setCell] at syr | rw [World.size_drew] at syr)); have : B < yr.now.heap.size := (by omega); have : B ≤ yr.now.heap.size := (by omega); have : B < yr.now.heap.size + 1 + 1 := (by omega); have : BG < yr.now.heap.size := (by omega); have : BG ≤ yr.now.heap.size := (by omega); have : BG < yr.now.heap.size + 1 + 1 := (by omega); have : w.heap.size < yr.now.heap.size := (by omega); have : w.heap.size ≤ yr.now.heap.size := (by omega); have : w.heap.size < yr.now.heap.size + 1 + 1 := (by omega)) | (go_at_call 40; with_reducible refine (Calls.giv (cxk _ (by repeat' (first | (with_reducible exact Below.refl _ _) | (with_reducible assumption) | (with_reducible refine Ext.below _ ?_ ?_) | (with_reducible refine Below.on ?_ (by with_reducible assumption) ?_) | (with_reducible refine Below.alloc ?_ ?_ _) | (with_reducible refine Below.drew ?_) | (with_reducible refine Below.setCell ?_ ?_ _) | (with_reducible exact Nat.le_refl _) | omega | (simp; done) | (simp [go_sem]; done) | (simp at *; omega))))).mono ?_; rintro _ _ ⟨y1, rfl, rfl⟩; have sy1 := Ext.size y1; (repeat (first | rw [World.size_alloc] at sy1 | rw [World.size_setCell] at sy1 | rw [World.size_drew] at sy1)); have : B < y1.now.heap.size := (by omega); have : B ≤ y1.now.heap.size := (by omega); have : B < y1.now.heap.size + 1 + 1 := (by omega); have : BG < y1.now.heap.size := (by omega); have : BG ≤ y1.now.heap.size := (by omega); have : BG < y1.now.heap.size + 1 + 1 := (by omega); have : w.heap.size < y1.now.heap.size := (by omega); have : w.heap.size ≤ y1.now.heap.size := (by omega); have : w.heap.size < y1.now.heap.size + 1 + 1 := (by omega)) | (at_builtin; refine wpList_append_own _ rfl _ _ 22 rfl W0.heap.size 3 i0 _ 1 8 Try.underlying22 hi0 hz0 hz1 hz2 rfl (by decide) _ acc.length (intsOf acc) rfl (by repeat (first | exact hown | (with_reducible refine World.ownsRow.alloc ?_ _) | (with_reducible refine World.ownsRow.drew ?_) | (with_reducible refine owns_ext ?_ _))) _ 1 1 _ rfl rfl (cells1_new _ _ _) (by intro u hu; simp only [List.mem_cons, List.not_mem_nil, or_false] at hu; subst hu; rfl) (by unfold maxLen; omega) (by omega) (by (try simp only [World.size_alloc]); omega) ?_; intro v' W2 hown' hgrow _; have hbel : Below W0.heap.size W0 W2 := (by refine below_grown (e := 3) (size := 1) (n := acc.length) (xs := intsOf acc) ?_ (by repeat (first | exact hown | (with_reducible refine World.ownsRow.alloc ?_ _) | (with_reducible refine World.ownsRow.drew ?_) | (with_reducible refine owns_ext ?_ _))) (Nat.le_refl _) (by (try simp only [World.size_alloc]); omega) hgrow; repeat' (first | (with_reducible exact Below.refl _ _) | (with_reducible assumption) | (with_reducible refine Ext.below _ ?_ ?_) | (with_reducible refine Below.on ?_ (by with_reducible assumption) ?_) | (with_reducible refine Below.alloc ?_ ?_ _) | (with_reducible refine Below.drew ?_) | (with_reducible refine Below.setCell ?_ ?_ _) | (with_reducible exact Nat.le_refl _) | omega | (simp; done) | (simp [go_sem]; done) | (simp at *; omega)))))
            refine ⟨⟨k + 1, ⟨_, hbel⟩, acc ++ [(k : Int)], by simp, rfl, by rw [hadd.out, List.length_append]; exact hown', key⟩, by simp [intOf]; omega⟩
        · have hka2 : ¬ (k : Int) < a.length := by omega
          have hEk := hk.out.2.2
          rw [drop_end (by rw [hkl.out]; exact hka), missA] at hEk
          subst hEk
          obtain ⟨ap, ac, rfl⟩ := owns_form hown
          have hBy : Below WA.heap.size WA y.now := hxA.trans (y.grew.mono xs)
          have hrow2 := Go.Lib.hid (owns_base hown xs)
          have hwr2 := Go.Lib.hid (owns_below hwr y.grew)
          clear hk
          by_cases hc : bb < 0 ∨ acc.length < wr.length
          · rw [if_pos hc] at hE
            have key : Hid (i + 1 ≤ gs.length ∧ refB (fun g => missL g t ks) i acc (i + 1) (gs.drop (i + 1)) = R) := Go.Lib.hid ⟨hlt, hE⟩
            clear hE hown hwr
            by_cases hbb : bb < 0
            · clear hc
              go_wp2_with (first | ((first | with_reducible refine wp_region_ext2 (by kernel_rfl) (by kernel_rfl) ?_ | with_reducible refine wp_region_ext (by kernel_rfl) (by kernel_rfl) ?_); (repeat (first | go_big_quiet_step ((first | fail)) | quiet_step ((first | fail)))); refine wpQuiet_nil ?_; rintro _ ⟨yr, rfl⟩; have syr := Ext.size yr; (repeat (first | rw [World.size_alloc] at syr | rw [World.size_setCell] at syr | rw [World.size_drew] at syr)); have : w.heap.size < yr.now.heap.size := (by omega); have : w.heap.size ≤ yr.now.heap.size := (by omega); have : w.heap.size < yr.now.heap.size + 1 + 1 := (by omega)))
              exact ⟨⟨i + 1, ⟨y.now, hBy⟩, i, acc, by simp, by simp, rfl, hrow2.out, key⟩, by simp [intOf]; omega⟩
            · have hl1 : (acc.length : Int) < wr.length := by omega
              clear hc
              go_wp2_with (first | ((first | with_reducible refine wp_region_ext2 (by kernel_rfl) (by kernel_rfl) ?_ | with_reducible refine wp_region_ext (by kernel_rfl) (by kernel_rfl) ?_); (repeat (first | go_big_quiet_step ((first | fail)) | quiet_step ((first | fail)))); refine wpQuiet_nil ?_; rintro _ ⟨yr, rfl⟩; have syr := Ext.size yr; (repeat (first | rw [World.size_alloc] at syr | rw [World.size_setCell] at syr | rw [World.size_drew] at syr)); have : w.heap.size < yr.now.heap.size := (by omega); have : w.heap.size ≤ yr.now.heap.size := (by omega); have : w.heap.size < yr.now.heap.size + 1 + 1 := (by omega)))
              exact ⟨⟨i + 1, ⟨y.now, hBy⟩, i, acc, by simp, by simp, rfl, hrow2.out, key⟩, by simp [intOf]; omega⟩
          · rw [if_neg hc] at hE
            have key : Hid (i + 1 ≤ gs.length ∧ refB (fun g => missL g t ks) bb wr (i + 1) (gs.drop (i + 1)) = R) := Go.Lib.hid ⟨hlt, hE⟩
            have hbb : ¬ (bb < 0) := by omega
            have hl1 : ¬ ((acc.length : Int) < wr.length) := by omega
            clear hE hown hwr hc
            go_wp2_with (first | ((first | with_reducible refine wp_region_ext2 (by kernel_rfl) (by kernel_rfl) ?_ | with_reducible refine wp_region_ext (by kernel_rfl) (by kernel_rfl) ?_); (repeat (first | go_big_quiet_step ((first | fail)) | quiet_step ((first | fail)))); refine wpQuiet_nil ?_; rintro _ ⟨yr, rfl⟩; have syr := Ext.size yr; (repeat (first | rw [World.size_alloc] at syr | rw [World.size_setCell] at syr | rw [World.size_drew] at syr)); have : w.heap.size < yr.now.heap.size := (by omega); have : w.heap.size ≤ yr.now.heap.size := (by omega); have : w.heap.size < yr.now.heap.size + 1 + 1 := (by omega)))
            exact ⟨⟨i + 1, ⟨y.now, hBy⟩, bb, wr, by simp, by simp, rfl, hwr2.out, key⟩, by simp [intOf]; omega⟩
    · have hge : ¬ (i : Int) < gs.length := by omega
      have hE := hi.out.2
      rw [drop_end hlt, refB] at hE
      have e1 : V = ⟨bb, wr, 0⟩ := by rw [← hV.out, ← hE]
      clear hi hV hR hE
      subst e1
      go_wp2_with (first | ((first | with_reducible refine wp_region_ext2 (by kernel_rfl) (by kernel_rfl) ?_ | with_reducible refine wp_region_ext (by kernel_rfl) (by kernel_rfl) ?_); (repeat (first | go_big_quiet_step ((first | fail)) | quiet_step ((first | fail)))); refine wpQuiet_nil ?_; rintro _ ⟨yr, rfl⟩; have syr := Ext.size yr; (repeat (first | rw [World.size_alloc] at syr | rw [World.size_setCell] at syr | rw [World.size_drew] at syr))))
      go_returns
      refine ⟨?_, _, rfl, owns_base hwr (by omega)⟩
      repeat' (first | (with_reducible exact Below.refl _ _) | (with_reducible assumption) | (with_reducible refine Ext.below _ ?_ ?_) | (with_reducible refine Below.on ?_ (by with_reducible assumption) ?_) | (with_reducible refine Below.alloc ?_ ?_ _) | (with_reducible refine Below.drew ?_) | (with_reducible refine Below.setCell ?_ ?_ _) | (with_reducible exact Nat.le_refl _) | omega | (simp; done) | (simp [go_sem]; done) | (simp at *; omega))
end Go.Proofs.Ytgoilmiiegpnoaa

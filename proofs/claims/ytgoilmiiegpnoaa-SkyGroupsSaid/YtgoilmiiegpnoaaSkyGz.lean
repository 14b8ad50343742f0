/- Contracts of BigWorld and BigSky: whether a sky is greater than the statements cover. Condition: the cells that are read. Contract of the statements' big: whether a sky or tracklets are greater than is covered. Condition: the cells that are read. Contracts of leastOf, with the closure that counts misses, and of Believe. Condition: a sky, a tracklet and the guesses in memory. Contract of the reference's Believe. Condition: a sky, a tracklet and the guesses in memory. Groups of tracklets as plain mathematics, and rows of groups in memory. No condition. Contract of groups: which tracklets each guess groups, and then the others alone. Condition: looks and guesses in memory. Contract of Groups: the groups of tracklets, or the error. Condition: a sky, tracklets and guesses in memory. Contract of the reference's Groups. Condition: a sky, tracklets and guesses in memory. -/
import Derived.Test.YtgoilmiiegpnoaaSkyF
import Derived.Test.YtgoilmiiegpnoaaSkyV
import Derived.Test.YtgoilmiiegpnoaaSkyAb
import Derived.Test.YtgoilmiiegpnoaaTail
import Derived.Deep.RegionLawGrows
import Derived.Test.YtgoilmiiegpnoaaSkyRl
import Derived.Test.YtgoilmiiegpnoaaRingX
import Derived.Test.YtgoilmiiegpnoaaSkyOa
import Derived.Test.YtgoilmiiegpnoaaAppE
import Derived.Test.YtgoilmiiegpnoaaSkyRows
namespace Go.Proofs.Ytgoilmiiegpnoaa
open Go.RowKit Go.Shelf
attribute [local go_sem] Option.isSome_some Ext.cell Ext.frozen Ext.lt Ext.le Ext.lt_add Ext.le_add Ext.ne Ext.ne' lt2 lt3 lt4 lt5 le2 le3 le4
def bigN (n : Nat) : Bool := (decide (60 < n) && decide (n < 4096)) || decide (4097 < n)
def bigL : List BodyR → Bool
  | [] => false
  | b :: l => if bigN b.track.length then true else bigL l
def bigW (l : List BodyR) : Bool := if 10 < l.length then true else bigL l
def bigS (s : SkyR) : Bool := bigW s.bodies || decide (18 < s.sts.length) || decide (10 < s.cats.length)
set_option maxHeartbeats 4000000 in
theorem BigWorld_any (p : Option Addr) (c : Nat) (l : List BodyR) (h : Int) (w : World) (hl : l.length < 9223372036854775808) (ht : ∀ b ∈ l, b.track.length < 9223372036854775808) (hP : BodiesAt w p l) :
    Calls Try.prog 56 #[wval p l.length c h] w (Gives (.bool (bigW l)) w) := by
  obtain ⟨V, hV⟩ : ∃ V, bigW l = V := ⟨_, rfl⟩
  rw [hV]
  unfold wval bigW at *
  replace ht : ∀ i (hi : i < l.length), l[i].track.length < 9223372036854775808 := fun i hi => ht _ (List.getElem_mem hi)
  replace ht := Go.Lib.hid ht
  by_cases h4 : 10 < l.length
  · rw [if_pos h4] at hV
    have h6 : (10 : Int) < l.length := by omega
    clear h4 hP ht
    subst hV
    clear hl
    generalize l.length = n at *
    go_enter Try.func56, Try.ntmps56
    go_wp2_with (first | ((first | with_reducible refine wp_region_ext2 (by kernel_rfl) (by kernel_rfl) ?_ | with_reducible refine wp_region_ext (by kernel_rfl) (by kernel_rfl) ?_); (repeat (first | go_big_quiet_step ((first | fail)) | quiet_step ((first | fail)))); refine wpQuiet_nil ?_; rintro _ ⟨yr, rfl⟩; have syr := Ext.size yr; (repeat (first | rw [World.size_alloc] at syr | rw [World.size_setCell] at syr | rw [World.size_drew] at syr))))
    go_returns
    refine ⟨rfl, ?_⟩
    repeat' (first | (with_reducible exact Below.refl _ _) | (with_reducible assumption) | (with_reducible refine Ext.below _ ?_ ?_) | (with_reducible refine Below.on ?_ (by with_reducible assumption) ?_) | (with_reducible refine Below.alloc ?_ ?_ _) | (with_reducible refine Below.drew ?_) | (with_reducible refine Below.setCell ?_ ?_ _) | (with_reducible exact Nat.le_refl _) | omega | (simp; done) | (simp [go_sem]; done) | (simp at *; omega))
  rw [if_neg h4] at hV
  have hn : l.length ≤ 10 := by omega
  obtain ⟨n, hln⟩ : ∃ n, l.length = n := ⟨_, rfl⟩
  rw [hln] at h4 hn hl ⊢
  have h6 : ¬ (10 : Int) < n := by omega
  have hln := Go.Lib.hid hln
  clear h4
  have hV := Go.Lib.hid hV
  have hP := Go.Lib.hid hP
  go_enter Try.func56, Try.ntmps56
  go_wp2_with (first | ((first | with_reducible refine wp_region_ext2 (by kernel_rfl) (by kernel_rfl) ?_ | with_reducible refine wp_region_ext (by kernel_rfl) (by kernel_rfl) ?_); (repeat (first | go_big_quiet_step ((first | fail)) | quiet_step ((first | fail)))); refine wpQuiet_nil ?_; rintro _ ⟨yr, rfl⟩; have syr := Ext.size yr; (repeat (first | rw [World.size_alloc] at syr | rw [World.size_setCell] at syr | rw [World.size_drew] at syr))))
  refine wp_named (fun W0 hW => ?_)
  have hBw : Below w.heap.size w W0 := by rw [← hW]; repeat' (first | (with_reducible exact Below.refl _ _) | (with_reducible assumption) | (with_reducible refine Ext.below _ ?_ ?_) | (with_reducible refine Below.on ?_ (by with_reducible assumption) ?_) | (with_reducible refine Below.alloc ?_ ?_ _) | (with_reducible refine Below.drew ?_) | (with_reducible refine Below.setCell ?_ ?_ _) | (with_reducible exact Nat.le_refl _) | omega | (simp; done) | (simp [go_sem]; done) | (simp at *; omega))
  have hs0 : w.heap.size < W0.heap.size := by rw [← hW]; simp
  have b0 : W0.cell? ⟨w.heap.size, 0, none⟩ = some (.slice p n c) := by rw [← hW]; simp [go_sem]
  have hP := Go.Lib.hid (hP.out.on hBw)
  clear hW h6
  go_loopw [3] (fun s W => ∃ (i : Nat) (x : Ext W0), s = .int .i64 i ∧ W = x.now ∧ Hid (i ≤ n ∧ bigL (l.drop i) = V)) (fun s _ => n - (intOf s).toNat)
  case atStart => exact ⟨0, ⟨W0, Below.refl _ _⟩, rfl, rfl, Go.Lib.hid ⟨Nat.zero_le _, by simpa using hV.out⟩⟩
  case round =>
    obtain ⟨i, x, rfl, rfl, hi⟩ := hrel
    have xs := x.size
    have hbx := x.below hBw (by omega)
    have : w.heap.size < (x.now).heap.size := (by omega); have : w.heap.size < (x.now).heap.size + 1 := (by omega); have : w.heap.size < (x.now).heap.size + 1 + 1 := (by omega); have : w.heap.size ≠ (x.now).heap.size := (by omega); have : w.heap.size ≠ (x.now).heap.size + 1 := (by omega)
    by_cases hlt : i < n
    · have hlt2 : (i : Int) < n := by omega
      have hlt' : i < l.length := by rw [hln.out]; exact hlt
      obtain ⟨-, B, o, rfl, hB, q1, q2, q3⟩ := hP.out i hlt'
      have : B < (x.now).heap.size := (by omega); have : B < (x.now).heap.size + 1 := (by omega); have : B < (x.now).heap.size + 1 + 1 := (by omega); have : B ≠ (x.now).heap.size := (by omega); have : B ≠ (x.now).heap.size + 1 := (by omega)
      have hE := hi.out.2
      have hm := ht.out i hlt'
      rw [drop_at hlt', bigL] at hE
      clear q1 q2
      by_cases hw : bigN l[i].track.length = true
      · have eV : V = true := by rw [if_pos hw] at hE; exact hE.symm
        unfold bigN at hw
        clear hE hi hV
        subst eV
        generalize l[i].track.length = m at *
        generalize l[i].tp = u4 at *
        generalize l[i].tc = u5 at *
        simp only [Bool.or_eq_true, Bool.and_eq_true, decide_eq_true_eq] at hw
        by_cases k1 : (60 : Int) < m <;> by_cases k2 : (m : Int) < 4096 <;> by_cases k3 : (4097 : Int) < m
        all_goals (first | (exfalso; omega) | (
          go_wp2_with (first | ((first | with_reducible refine wp_region_ext2 (by kernel_rfl) (by kernel_rfl) ?_ | with_reducible refine wp_region_ext (by kernel_rfl) (by kernel_rfl) ?_); (repeat (first | go_big_quiet_step ((first | fail)) | quiet_step ((first | fail)))); refine wpQuiet_nil ?_; rintro _ ⟨yr, rfl⟩; have syr := Ext.size yr; (repeat (first | rw [World.size_alloc] at syr | rw [World.size_setCell] at syr | rw [World.size_drew] at syr)); have : B < yr.now.heap.size := (by omega); have : B ≤ yr.now.heap.size := (by omega); have : B < yr.now.heap.size + 1 + 1 := (by omega); have : w.heap.size < yr.now.heap.size := (by omega); have : w.heap.size ≤ yr.now.heap.size := (by omega); have : w.heap.size < yr.now.heap.size + 1 + 1 := (by omega)))
          go_returns
          refine ⟨rfl, ?_⟩
          repeat' (first | (with_reducible exact Below.refl _ _) | (with_reducible assumption) | (with_reducible refine Ext.below _ ?_ ?_) | (with_reducible refine Below.on ?_ (by with_reducible assumption) ?_) | (with_reducible refine Below.alloc ?_ ?_ _) | (with_reducible refine Below.drew ?_) | (with_reducible refine Below.setCell ?_ ?_ _) | (with_reducible exact Nat.le_refl _) | omega | (simp; done) | (simp [go_sem]; done) | (simp at *; omega))))
      · have key : Hid (i + 1 ≤ n ∧ bigL (l.drop (i + 1)) = V) := Go.Lib.hid ⟨hlt, by rw [if_neg hw] at hE; exact hE⟩
        unfold bigN at hw
        clear hE hi
        generalize l[i].track.length = m at *
        generalize l[i].tp = u4 at *
        generalize l[i].tc = u5 at *
        simp only [Bool.or_eq_true, Bool.and_eq_true, decide_eq_true_eq] at hw
        by_cases k1 : (60 : Int) < m <;> by_cases k2 : (m : Int) < 4096 <;> by_cases k3 : (4097 : Int) < m
        all_goals (first | (exfalso; omega) | (
          go_wp2_with (first | ((first | with_reducible refine wp_region_ext2 (by kernel_rfl) (by kernel_rfl) ?_ | with_reducible refine wp_region_ext (by kernel_rfl) (by kernel_rfl) ?_); (repeat (first | go_big_quiet_step ((first | fail)) | quiet_step ((first | fail)))); refine wpQuiet_nil ?_; rintro _ ⟨yr, rfl⟩; have syr := Ext.size yr; (repeat (first | rw [World.size_alloc] at syr | rw [World.size_setCell] at syr | rw [World.size_drew] at syr)); have : B < yr.now.heap.size := (by omega); have : B ≤ yr.now.heap.size := (by omega); have : B < yr.now.heap.size + 1 + 1 := (by omega); have : w.heap.size < yr.now.heap.size := (by omega); have : w.heap.size ≤ yr.now.heap.size := (by omega); have : w.heap.size < yr.now.heap.size + 1 + 1 := (by omega)))
          exact ⟨⟨i + 1, x, by simp, rfl, key⟩, by simp [intOf]; omega⟩))
    · have hge : ¬ (i : Int) < n := by omega
      have eV : V = false := by have hE := hi.out.2; rw [drop_end (by rw [hln.out]; exact hlt), bigL] at hE; exact hE.symm
      clear hi hV
      subst eV
      go_wp2_with (first | ((first | with_reducible refine wp_region_ext2 (by kernel_rfl) (by kernel_rfl) ?_ | with_reducible refine wp_region_ext (by kernel_rfl) (by kernel_rfl) ?_); (repeat (first | go_big_quiet_step ((first | fail)) | quiet_step ((first | fail)))); refine wpQuiet_nil ?_; rintro _ ⟨yr, rfl⟩; have syr := Ext.size yr; (repeat (first | rw [World.size_alloc] at syr | rw [World.size_setCell] at syr | rw [World.size_drew] at syr))))
      go_returns
      refine ⟨rfl, ?_⟩
      repeat' (first | (with_reducible exact Below.refl _ _) | (with_reducible assumption) | (with_reducible refine Ext.below _ ?_ ?_) | (with_reducible refine Below.on ?_ (by with_reducible assumption) ?_) | (with_reducible refine Below.alloc ?_ ?_ _) | (with_reducible refine Below.drew ?_) | (with_reducible refine Below.setCell ?_ ?_ _) | (with_reducible exact Nat.le_refl _) | omega | (simp; done) | (simp [go_sem]; done) | (simp at *; omega))
set_option maxHeartbeats 4000000 in
theorem BigSky_any (s : SkyR) (w : World) (hf : s.bodies.length < 9223372036854775808 ∧ (∀ b ∈ s.bodies, b.track.length < 9223372036854775808) ∧ s.sts.length < 9223372036854775808 ∧ s.cats.length < 9223372036854775808) (hP : s.At w) :
    Calls Try.prog 37 #[s.val] w (Gives (.bool (bigS s)) w) := by
  have cb := fun (W : World) (y : Below w.heap.size w W) => BigWorld_any s.bp s.bc s.bodies s.home W hf.1 hf.2.1 (hP.bs.on y)
  unfold SkyR.val wval bigS at *
  obtain ⟨-, -, f1, f2⟩ := hf
  clear hP
  generalize bigW s.bodies = b at *
  generalize s.cats.length = n1 at *; generalize s.cp = n2 at *; generalize s.cc = n3 at *; generalize s.bodies.length = n4 at *; generalize s.bp = n5 at *; generalize s.bc = n6 at *; generalize s.sts.length = n7 at *; generalize s.sp = n8 at *; generalize s.sc = n9 at *; generalize s.home = n0 at *
  by_cases h1 : (18 : Int) < n7 <;> by_cases h2 : (10 : Int) < n1
  all_goals
    have e1 : decide (18 < n7) = decide ((18 : Int) < n7) := by rw [decide_eq_decide]; omega
    have e2 : decide (10 < n1) = decide ((10 : Int) < n1) := by rw [decide_eq_decide]; omega
    rw [e1, e2]
    clear e1 e2
    cases b
    all_goals
      go_enter Try.func37, Try.ntmps37
      go_wp2_with (first | ((first | with_reducible refine wp_region_ext2 (by kernel_rfl) (by kernel_rfl) ?_ | with_reducible refine wp_region_ext (by kernel_rfl) (by kernel_rfl) ?_); (repeat (first | go_big_quiet_step ((first | (go_at_call 56; with_reducible exact Calls.ext (cb _ (by repeat' (first | (with_reducible exact Below.refl _ _) | (with_reducible assumption) | (with_reducible refine Ext.below _ ?_ ?_) | (with_reducible refine Below.on ?_ (by with_reducible assumption) ?_) | (with_reducible refine Below.alloc ?_ ?_ _) | (with_reducible refine Below.drew ?_) | (with_reducible refine Below.setCell ?_ ?_ _) | (with_reducible exact Nat.le_refl _) | omega | (simp; done) | (simp [go_sem]; done) | (simp at *; omega))))))) | quiet_step ((first | (go_at_call 56; with_reducible exact Calls.ext (cb _ (by repeat' (first | (with_reducible exact Below.refl _ _) | (with_reducible assumption) | (with_reducible refine Ext.below _ ?_ ?_) | (with_reducible refine Below.on ?_ (by with_reducible assumption) ?_) | (with_reducible refine Below.alloc ?_ ?_ _) | (with_reducible refine Below.drew ?_) | (with_reducible refine Below.setCell ?_ ?_ _) | (with_reducible exact Nat.le_refl _) | omega | (simp; done) | (simp [go_sem]; done) | (simp at *; omega))))))))); refine wpQuiet_nil ?_; rintro _ ⟨yr, rfl⟩; have syr := Ext.size yr; (repeat (first | rw [World.size_alloc] at syr | rw [World.size_setCell] at syr | rw [World.size_drew] at syr)); have : w.heap.size < yr.now.heap.size := (by omega); have : w.heap.size ≤ yr.now.heap.size := (by omega); have : w.heap.size < yr.now.heap.size + 1 + 1 := (by omega)) | (go_at_call 56; (first | with_reducible refine (Calls.giv2 (cb _ (by repeat' (first | (with_reducible exact Below.refl _ _) | (with_reducible assumption) | (with_reducible refine Ext.below _ ?_ ?_) | (with_reducible refine Below.on ?_ (by with_reducible assumption) ?_) | (with_reducible refine Below.alloc ?_ ?_ _) | (with_reducible refine Below.drew ?_) | (with_reducible refine Below.setCell ?_ ?_ _) | (with_reducible exact Nat.le_refl _) | omega | (simp; done) | (simp [go_sem]; done) | (simp at *; omega))))).mono ?_ | with_reducible refine (Calls.giv (cb _ (by repeat' (first | (with_reducible exact Below.refl _ _) | (with_reducible assumption) | (with_reducible refine Ext.below _ ?_ ?_) | (with_reducible refine Below.on ?_ (by with_reducible assumption) ?_) | (with_reducible refine Below.alloc ?_ ?_ _) | (with_reducible refine Below.drew ?_) | (with_reducible refine Below.setCell ?_ ?_ _) | (with_reducible exact Nat.le_refl _) | omega | (simp; done) | (simp [go_sem]; done) | (simp at *; omega))))).mono ?_); rintro _ _ ⟨y1, rfl, rfl⟩; have sy1 := Ext.size y1; (repeat (first | rw [World.size_alloc] at sy1 | rw [World.size_setCell] at sy1 | rw [World.size_drew] at sy1)); have : w.heap.size < y1.now.heap.size := (by omega); have : w.heap.size ≤ y1.now.heap.size := (by omega); have : w.heap.size < y1.now.heap.size + 1 + 1 := (by omega)))
      go_returns
      refine ⟨by simp [h1, h2], ?_⟩
      repeat' (first | (with_reducible exact Below.refl _ _) | (with_reducible assumption) | (with_reducible refine Ext.below _ ?_ ?_) | (with_reducible refine Below.on ?_ (by with_reducible assumption) ?_) | (with_reducible refine Below.alloc ?_ ?_ _) | (with_reducible refine Below.drew ?_) | (with_reducible refine Below.setCell ?_ ?_ _) | (with_reducible exact Nat.le_refl _) | omega | (simp; done) | (simp [go_sem]; done) | (simp at *; omega))
end Go.Proofs.Ytgoilmiiegpnoaa
namespace Go.Proofs.Ytgoilmiiegpnoaa
open Go.RowKit Go.Shelf
attribute [local go_sem] Option.isSome_some Ext.cell Ext.frozen Ext.lt Ext.le Ext.lt_add Ext.le_add Ext.ne Ext.ne' lt2 lt3 lt4 lt5 le2 le3 le4
def bigT : List TrR → Bool
  | [] => false
  | x :: l => if 66 < x.l.length then true else bigT l
theorem bigT_false {l : List TrR} (h : bigT l = false) : ∀ x ∈ l, x.l.length ≤ 66 := by
  induction l with
  | nil => intro x hx; simp at hx
  | cons y l ih =>
    rw [bigT] at h
    split at h
    · cases h
    · intro x hx
      rcases List.mem_cons.1 hx with rfl | hx
      · omega
      · exact ih h x hx
def bigB (s : SkyR) (n : Nat) (ts : List TrR) : Bool := bigS s || decide (66 < n) || decide (18 < ts.length) || bigT ts
set_option maxRecDepth 100000 in
set_option maxHeartbeats 16000000 in
theorem big_any (s : SkyR) (pg : Option Addr) (n cg : Nat) (p : Option Addr) (c : Nat) (l : List TrR) (w : World) (hf : s.bodies.length < 9223372036854775808 ∧ (∀ b ∈ s.bodies, b.track.length < 9223372036854775808) ∧ s.sts.length < 9223372036854775808 ∧ s.cats.length < 9223372036854775808) (hA : s.At w) (hP : TracksAt w p l) :
    Calls Try.prog 16 #[s.val, .slice pg n cg, .slice p l.length c] w (Gives (.bool (bigB s n l)) w) := by
  have cb := fun (W : World) (y : Below w.heap.size w W) => BigSky_any s W hf (hA.on y)
  obtain ⟨V, hV⟩ : ∃ V, bigB s n l = V := ⟨_, rfl⟩
  rw [hV]
  unfold bigB at hV
  unfold SkyR.val at *
  clear hA hf
  generalize bigS s = b at *
  generalize s.cats.length = n1 at *; generalize s.cp = n2 at *; generalize s.cc = n3 at *; generalize s.bodies.length = n4 at *; generalize s.bp = n5 at *; generalize s.bc = n6 at *; generalize s.sts.length = n7 at *; generalize s.sp = n8 at *; generalize s.sc = n9 at *; generalize s.home = n0 at *
  cases b
  case true =>
    have eV : V = true := by rw [← hV]; simp
    subst eV
    clear hV hP
    go_enter Try.func16, Try.ntmps16
    go_wp2_with (first | ((first | with_reducible refine wp_region_ext2 (by kernel_rfl) (by kernel_rfl) ?_ | with_reducible refine wp_region_ext (by kernel_rfl) (by kernel_rfl) ?_); (repeat (first | go_big_quiet_step ((first | (go_at_call 37; with_reducible exact Calls.ext (cb _ (by repeat' (first | (with_reducible exact Below.refl _ _) | (with_reducible assumption) | (with_reducible refine Ext.below _ ?_ ?_) | (with_reducible refine Below.on ?_ (by with_reducible assumption) ?_) | (with_reducible refine Below.alloc ?_ ?_ _) | (with_reducible refine Below.drew ?_) | (with_reducible refine Below.setCell ?_ ?_ _) | (with_reducible exact Nat.le_refl _) | omega | (simp; done) | (simp [go_sem]; done) | (simp at *; omega))))))) | quiet_step ((first | (go_at_call 37; with_reducible exact Calls.ext (cb _ (by repeat' (first | (with_reducible exact Below.refl _ _) | (with_reducible assumption) | (with_reducible refine Ext.below _ ?_ ?_) | (with_reducible refine Below.on ?_ (by with_reducible assumption) ?_) | (with_reducible refine Below.alloc ?_ ?_ _) | (with_reducible refine Below.drew ?_) | (with_reducible refine Below.setCell ?_ ?_ _) | (with_reducible exact Nat.le_refl _) | omega | (simp; done) | (simp [go_sem]; done) | (simp at *; omega))))))))); refine wpQuiet_nil ?_; rintro _ ⟨yr, rfl⟩; have syr := Ext.size yr; (repeat (first | rw [World.size_alloc] at syr | rw [World.size_setCell] at syr | rw [World.size_drew] at syr))) | (go_at_call 37; (first | with_reducible refine (Calls.giv2 (cb _ (by repeat' (first | (with_reducible exact Below.refl _ _) | (with_reducible assumption) | (with_reducible refine Ext.below _ ?_ ?_) | (with_reducible refine Below.on ?_ (by with_reducible assumption) ?_) | (with_reducible refine Below.alloc ?_ ?_ _) | (with_reducible refine Below.drew ?_) | (with_reducible refine Below.setCell ?_ ?_ _) | (with_reducible exact Nat.le_refl _) | omega | (simp; done) | (simp [go_sem]; done) | (simp at *; omega))))).mono ?_ | with_reducible refine (Calls.giv (cb _ (by repeat' (first | (with_reducible exact Below.refl _ _) | (with_reducible assumption) | (with_reducible refine Ext.below _ ?_ ?_) | (with_reducible refine Below.on ?_ (by with_reducible assumption) ?_) | (with_reducible refine Below.alloc ?_ ?_ _) | (with_reducible refine Below.drew ?_) | (with_reducible refine Below.setCell ?_ ?_ _) | (with_reducible exact Nat.le_refl _) | omega | (simp; done) | (simp [go_sem]; done) | (simp at *; omega))))).mono ?_); rintro _ _ ⟨y1, rfl, rfl⟩; have sy1 := Ext.size y1; (repeat (first | rw [World.size_alloc] at sy1 | rw [World.size_setCell] at sy1 | rw [World.size_drew] at sy1))))
    go_returns
    refine ⟨rfl, ?_⟩
    repeat' (first | (with_reducible exact Below.refl _ _) | (with_reducible assumption) | (with_reducible refine Ext.below _ ?_ ?_) | (with_reducible refine Below.on ?_ (by with_reducible assumption) ?_) | (with_reducible refine Below.alloc ?_ ?_ _) | (with_reducible refine Below.drew ?_) | (with_reducible refine Below.setCell ?_ ?_ _) | (with_reducible exact Nat.le_refl _) | omega | (simp; done) | (simp [go_sem]; done) | (simp at *; omega))
  by_cases h1 : 66 < n
  · have eV : V = true := by rw [← hV]; simp [h1]
    have h1' : (66 : Int) < n := by omega
    subst eV
    clear hV hP h1
    go_enter Try.func16, Try.ntmps16
    go_wp2_with (first | ((first | with_reducible refine wp_region_ext2 (by kernel_rfl) (by kernel_rfl) ?_ | with_reducible refine wp_region_ext (by kernel_rfl) (by kernel_rfl) ?_); (repeat (first | go_big_quiet_step ((first | (go_at_call 37; with_reducible exact Calls.ext (cb _ (by repeat' (first | (with_reducible exact Below.refl _ _) | (with_reducible assumption) | (with_reducible refine Ext.below _ ?_ ?_) | (with_reducible refine Below.on ?_ (by with_reducible assumption) ?_) | (with_reducible refine Below.alloc ?_ ?_ _) | (with_reducible refine Below.drew ?_) | (with_reducible refine Below.setCell ?_ ?_ _) | (with_reducible exact Nat.le_refl _) | omega | (simp; done) | (simp [go_sem]; done) | (simp at *; omega))))))) | quiet_step ((first | (go_at_call 37; with_reducible exact Calls.ext (cb _ (by repeat' (first | (with_reducible exact Below.refl _ _) | (with_reducible assumption) | (with_reducible refine Ext.below _ ?_ ?_) | (with_reducible refine Below.on ?_ (by with_reducible assumption) ?_) | (with_reducible refine Below.alloc ?_ ?_ _) | (with_reducible refine Below.drew ?_) | (with_reducible refine Below.setCell ?_ ?_ _) | (with_reducible exact Nat.le_refl _) | omega | (simp; done) | (simp [go_sem]; done) | (simp at *; omega))))))))); refine wpQuiet_nil ?_; rintro _ ⟨yr, rfl⟩; have syr := Ext.size yr; (repeat (first | rw [World.size_alloc] at syr | rw [World.size_setCell] at syr | rw [World.size_drew] at syr))) | (go_at_call 37; (first | with_reducible refine (Calls.giv2 (cb _ (by repeat' (first | (with_reducible exact Below.refl _ _) | (with_reducible assumption) | (with_reducible refine Ext.below _ ?_ ?_) | (with_reducible refine Below.on ?_ (by with_reducible assumption) ?_) | (with_reducible refine Below.alloc ?_ ?_ _) | (with_reducible refine Below.drew ?_) | (with_reducible refine Below.setCell ?_ ?_ _) | (with_reducible exact Nat.le_refl _) | omega | (simp; done) | (simp [go_sem]; done) | (simp at *; omega))))).mono ?_ | with_reducible refine (Calls.giv (cb _ (by repeat' (first | (with_reducible exact Below.refl _ _) | (with_reducible assumption) | (with_reducible refine Ext.below _ ?_ ?_) | (with_reducible refine Below.on ?_ (by with_reducible assumption) ?_) | (with_reducible refine Below.alloc ?_ ?_ _) | (with_reducible refine Below.drew ?_) | (with_reducible refine Below.setCell ?_ ?_ _) | (with_reducible exact Nat.le_refl _) | omega | (simp; done) | (simp [go_sem]; done) | (simp at *; omega))))).mono ?_); rintro _ _ ⟨y1, rfl, rfl⟩; have sy1 := Ext.size y1; (repeat (first | rw [World.size_alloc] at sy1 | rw [World.size_setCell] at sy1 | rw [World.size_drew] at sy1))))
    go_returns
    refine ⟨rfl, ?_⟩
    repeat' (first | (with_reducible exact Below.refl _ _) | (with_reducible assumption) | (with_reducible refine Ext.below _ ?_ ?_) | (with_reducible refine Below.on ?_ (by with_reducible assumption) ?_) | (with_reducible refine Below.alloc ?_ ?_ _) | (with_reducible refine Below.drew ?_) | (with_reducible refine Below.setCell ?_ ?_ _) | (with_reducible exact Nat.le_refl _) | omega | (simp; done) | (simp [go_sem]; done) | (simp at *; omega))
  have h1' : ¬ (66 : Int) < n := by omega
  by_cases h2 : 18 < l.length
  · have eV : V = true := by rw [← hV]; simp [h2]
    have h2' : (18 : Int) < l.length := by omega
    subst eV
    clear hV hP h1 h2
    go_enter Try.func16, Try.ntmps16
    go_wp2_with (first | ((first | with_reducible refine wp_region_ext2 (by kernel_rfl) (by kernel_rfl) ?_ | with_reducible refine wp_region_ext (by kernel_rfl) (by kernel_rfl) ?_); (repeat (first | go_big_quiet_step ((first | (go_at_call 37; with_reducible exact Calls.ext (cb _ (by repeat' (first | (with_reducible exact Below.refl _ _) | (with_reducible assumption) | (with_reducible refine Ext.below _ ?_ ?_) | (with_reducible refine Below.on ?_ (by with_reducible assumption) ?_) | (with_reducible refine Below.alloc ?_ ?_ _) | (with_reducible refine Below.drew ?_) | (with_reducible refine Below.setCell ?_ ?_ _) | (with_reducible exact Nat.le_refl _) | omega | (simp; done) | (simp [go_sem]; done) | (simp at *; omega))))))) | quiet_step ((first | (go_at_call 37; with_reducible exact Calls.ext (cb _ (by repeat' (first | (with_reducible exact Below.refl _ _) | (with_reducible assumption) | (with_reducible refine Ext.below _ ?_ ?_) | (with_reducible refine Below.on ?_ (by with_reducible assumption) ?_) | (with_reducible refine Below.alloc ?_ ?_ _) | (with_reducible refine Below.drew ?_) | (with_reducible refine Below.setCell ?_ ?_ _) | (with_reducible exact Nat.le_refl _) | omega | (simp; done) | (simp [go_sem]; done) | (simp at *; omega))))))))); refine wpQuiet_nil ?_; rintro _ ⟨yr, rfl⟩; have syr := Ext.size yr; (repeat (first | rw [World.size_alloc] at syr | rw [World.size_setCell] at syr | rw [World.size_drew] at syr))) | (go_at_call 37; (first | with_reducible refine (Calls.giv2 (cb _ (by repeat' (first | (with_reducible exact Below.refl _ _) | (with_reducible assumption) | (with_reducible refine Ext.below _ ?_ ?_) | (with_reducible refine Below.on ?_ (by with_reducible assumption) ?_) | (with_reducible refine Below.alloc ?_ ?_ _) | (with_reducible refine Below.drew ?_) | (with_reducible refine Below.setCell ?_ ?_ _) | (with_reducible exact Nat.le_refl _) | omega | (simp; done) | (simp [go_sem]; done) | (simp at *; omega))))).mono ?_ | with_reducible refine (Calls.giv (cb _ (by repeat' (first | (with_reducible exact Below.refl _ _) | (with_reducible assumption) | (with_reducible refine Ext.below _ ?_ ?_) | (with_reducible refine Below.on ?_ (by with_reducible assumption) ?_) | (with_reducible refine Below.alloc ?_ ?_ _) | (with_reducible refine Below.drew ?_) | (with_reducible refine Below.setCell ?_ ?_ _) | (with_reducible exact Nat.le_refl _) | omega | (simp; done) | (simp [go_sem]; done) | (simp at *; omega))))).mono ?_); rintro _ _ ⟨y1, rfl, rfl⟩; have sy1 := Ext.size y1; (repeat (first | rw [World.size_alloc] at sy1 | rw [World.size_setCell] at sy1 | rw [World.size_drew] at sy1))))
    go_returns
    refine ⟨rfl, ?_⟩
    repeat' (first | (with_reducible exact Below.refl _ _) | (with_reducible assumption) | (with_reducible refine Ext.below _ ?_ ?_) | (with_reducible refine Below.on ?_ (by with_reducible assumption) ?_) | (with_reducible refine Below.alloc ?_ ?_ _) | (with_reducible refine Below.drew ?_) | (with_reducible refine Below.setCell ?_ ?_ _) | (with_reducible exact Nat.le_refl _) | omega | (simp; done) | (simp [go_sem]; done) | (simp at *; omega))
  have h2' : ¬ (18 : Int) < l.length := by omega
  have hn : l.length ≤ 18 := by omega
  have hV : bigT l = V := by rw [← hV]; simp [h1, h2]
  clear h1 h2
  have hV := Go.Lib.hid hV
  have hP := Go.Lib.hid hP
  go_enter Try.func16, Try.ntmps16
  go_wp2_with (first | ((first | with_reducible refine wp_region_ext2 (by kernel_rfl) (by kernel_rfl) ?_ | with_reducible refine wp_region_ext (by kernel_rfl) (by kernel_rfl) ?_); (repeat (first | go_big_quiet_step ((first | (go_at_call 37; with_reducible exact Calls.ext (cb _ (by repeat' (first | (with_reducible exact Below.refl _ _) | (with_reducible assumption) | (with_reducible refine Ext.below _ ?_ ?_) | (with_reducible refine Below.on ?_ (by with_reducible assumption) ?_) | (with_reducible refine Below.alloc ?_ ?_ _) | (with_reducible refine Below.drew ?_) | (with_reducible refine Below.setCell ?_ ?_ _) | (with_reducible exact Nat.le_refl _) | omega | (simp; done) | (simp [go_sem]; done) | (simp at *; omega))))))) | quiet_step ((first | (go_at_call 37; with_reducible exact Calls.ext (cb _ (by repeat' (first | (with_reducible exact Below.refl _ _) | (with_reducible assumption) | (with_reducible refine Ext.below _ ?_ ?_) | (with_reducible refine Below.on ?_ (by with_reducible assumption) ?_) | (with_reducible refine Below.alloc ?_ ?_ _) | (with_reducible refine Below.drew ?_) | (with_reducible refine Below.setCell ?_ ?_ _) | (with_reducible exact Nat.le_refl _) | omega | (simp; done) | (simp [go_sem]; done) | (simp at *; omega))))))))); refine wpQuiet_nil ?_; rintro _ ⟨yr, rfl⟩; have syr := Ext.size yr; (repeat (first | rw [World.size_alloc] at syr | rw [World.size_setCell] at syr | rw [World.size_drew] at syr))) | (go_at_call 37; (first | with_reducible refine (Calls.giv2 (cb _ (by repeat' (first | (with_reducible exact Below.refl _ _) | (with_reducible assumption) | (with_reducible refine Ext.below _ ?_ ?_) | (with_reducible refine Below.on ?_ (by with_reducible assumption) ?_) | (with_reducible refine Below.alloc ?_ ?_ _) | (with_reducible refine Below.drew ?_) | (with_reducible refine Below.setCell ?_ ?_ _) | (with_reducible exact Nat.le_refl _) | omega | (simp; done) | (simp [go_sem]; done) | (simp at *; omega))))).mono ?_ | with_reducible refine (Calls.giv (cb _ (by repeat' (first | (with_reducible exact Below.refl _ _) | (with_reducible assumption) | (with_reducible refine Ext.below _ ?_ ?_) | (with_reducible refine Below.on ?_ (by with_reducible assumption) ?_) | (with_reducible refine Below.alloc ?_ ?_ _) | (with_reducible refine Below.drew ?_) | (with_reducible refine Below.setCell ?_ ?_ _) | (with_reducible exact Nat.le_refl _) | omega | (simp; done) | (simp [go_sem]; done) | (simp at *; omega))))).mono ?_); rintro _ _ ⟨y1, rfl, rfl⟩; have sy1 := Ext.size y1; (repeat (first | rw [World.size_alloc] at sy1 | rw [World.size_setCell] at sy1 | rw [World.size_drew] at sy1))))
  have hBw : Below w.heap.size w y1.now := by repeat' (first | (with_reducible exact Below.refl _ _) | (with_reducible assumption) | (with_reducible refine Ext.below _ ?_ ?_) | (with_reducible refine Below.on ?_ (by with_reducible assumption) ?_) | (with_reducible refine Below.alloc ?_ ?_ _) | (with_reducible refine Below.drew ?_) | (with_reducible refine Below.setCell ?_ ?_ _) | (with_reducible exact Nat.le_refl _) | omega | (simp; done) | (simp [go_sem]; done) | (simp at *; omega))
  have hP := Go.Lib.hid (hP.out.on hBw)
  generalize y1.now = W0 at *
  go_loopw [7] (fun s W => ∃ (i : Nat) (x : Ext W0), s = .int .i64 i ∧ W = x.now ∧ Hid (i ≤ l.length ∧ bigT (l.drop i) = V)) (fun s _ => l.length - (intOf s).toNat)
  case atStart => exact ⟨0, ⟨W0, Below.refl _ _⟩, rfl, rfl, Go.Lib.hid ⟨Nat.zero_le _, by simpa using hV.out⟩⟩
  case round =>
    obtain ⟨i, x, rfl, rfl, hi⟩ := hrel
    have xs := x.size
    have hbx := x.below hBw (by omega)
    by_cases hlt : i < l.length
    · have hlt2 : (i : Int) < l.length := by omega
      obtain ⟨-, B, o, rfl, hB, c1⟩ := hP.out i hlt
      have hE := hi.out.2
      rw [drop_at hlt, bigT] at hE
      have : B < (x.now).heap.size := (by omega); have : B < (x.now).heap.size + 1 := (by omega); have : B < (x.now).heap.size + 1 + 1 := (by omega); have : B ≠ (x.now).heap.size := (by omega); have : B ≠ (x.now).heap.size + 1 := (by omega)
      by_cases h66 : 66 < l[i].l.length
      · rw [if_pos h66] at hE
        have h66' : (66 : Int) < l[i].l.length := by omega
        clear hi hV h66
        subst hE
        generalize l[i].l.length = g1 at *
        generalize l[i].p = g2 at *
        generalize l[i].c = g3 at *
        go_wp2_with (first | ((first | with_reducible refine wp_region_ext2 (by kernel_rfl) (by kernel_rfl) ?_ | with_reducible refine wp_region_ext (by kernel_rfl) (by kernel_rfl) ?_); (repeat (first | go_big_quiet_step ((first | fail)) | quiet_step ((first | fail)))); refine wpQuiet_nil ?_; rintro _ ⟨yr, rfl⟩; have syr := Ext.size yr; (repeat (first | rw [World.size_alloc] at syr | rw [World.size_setCell] at syr | rw [World.size_drew] at syr)); have : B < yr.now.heap.size := (by omega); have : B ≤ yr.now.heap.size := (by omega); have : B < yr.now.heap.size + 1 + 1 := (by omega)))
        go_returns
        refine ⟨rfl, ?_⟩
        repeat' (first | (with_reducible exact Below.refl _ _) | (with_reducible assumption) | (with_reducible refine Ext.below _ ?_ ?_) | (with_reducible refine Below.on ?_ (by with_reducible assumption) ?_) | (with_reducible refine Below.alloc ?_ ?_ _) | (with_reducible refine Below.drew ?_) | (with_reducible refine Below.setCell ?_ ?_ _) | (with_reducible exact Nat.le_refl _) | omega | (simp; done) | (simp [go_sem]; done) | (simp at *; omega))
      · have h66' : ¬ (66 : Int) < l[i].l.length := by omega
        have key : Hid (i + 1 ≤ l.length ∧ bigT (l.drop (i + 1)) = V) := Go.Lib.hid ⟨hlt, by rw [if_neg h66] at hE; exact hE⟩
        clear hE hi h66
        generalize l[i].l.length = g1 at *
        generalize l[i].p = g2 at *
        generalize l[i].c = g3 at *
        go_wp2_with (first | ((first | with_reducible refine wp_region_ext2 (by kernel_rfl) (by kernel_rfl) ?_ | with_reducible refine wp_region_ext (by kernel_rfl) (by kernel_rfl) ?_); (repeat (first | go_big_quiet_step ((first | fail)) | quiet_step ((first | fail)))); refine wpQuiet_nil ?_; rintro _ ⟨yr, rfl⟩; have syr := Ext.size yr; (repeat (first | rw [World.size_alloc] at syr | rw [World.size_setCell] at syr | rw [World.size_drew] at syr)); have : B < yr.now.heap.size := (by omega); have : B ≤ yr.now.heap.size := (by omega); have : B < yr.now.heap.size + 1 + 1 := (by omega)))
        exact ⟨⟨i + 1, x, by simp, rfl, key⟩, by simp [intOf]; omega⟩
    · have hge : ¬ (i : Int) < l.length := by omega
      have eV : V = false := by have hE := hi.out.2; rw [drop_end hlt, bigT] at hE; exact hE.symm
      clear hi hV
      subst eV
      go_wp2_with (first | ((first | with_reducible refine wp_region_ext2 (by kernel_rfl) (by kernel_rfl) ?_ | with_reducible refine wp_region_ext (by kernel_rfl) (by kernel_rfl) ?_); (repeat (first | go_big_quiet_step ((first | fail)) | quiet_step ((first | fail)))); refine wpQuiet_nil ?_; rintro _ ⟨yr, rfl⟩; have syr := Ext.size yr; (repeat (first | rw [World.size_alloc] at syr | rw [World.size_setCell] at syr | rw [World.size_drew] at syr))))
      go_returns
      refine ⟨rfl, ?_⟩
      repeat' (first | (with_reducible exact Below.refl _ _) | (with_reducible assumption) | (with_reducible refine Ext.below _ ?_ ?_) | (with_reducible refine Below.on ?_ (by with_reducible assumption) ?_) | (with_reducible refine Below.alloc ?_ ?_ _) | (with_reducible refine Below.drew ?_) | (with_reducible refine Below.setCell ?_ ?_ _) | (with_reducible exact Nat.le_refl _) | omega | (simp; done) | (simp [go_sem]; done) | (simp at *; omega))
end Go.Proofs.Ytgoilmiiegpnoaa
namespace Go.Proofs.Ytgoilmiiegpnoaa
open Go.RowKit Go.Shelf
attribute [local go_sem] Option.isSome_some Ext.cell Ext.frozen Ext.lt Ext.le Ext.lt_add Ext.le_add Ext.ne Ext.ne' lt2 lt3 lt4 lt5 le2 le3 le4
/-- The number of the part with the least size, the first one of equal ones. -/
def leastI {α : Type} (F : α → Int) : Int → Int → Nat → List α → Int
  | _, best, _, [] => best
  | least, best, i, g :: l => if i = 0 ∨ F g < least then leastI F (F g) i (i + 1) l else leastI F least best (i + 1) l
theorem leastI_in {α : Type} (F : α → Int) : ∀ (l : List α) (least best : Int) (i : Nat), leastI F least best i l = best ∨ ((i : Int) ≤ leastI F least best i l ∧ leastI F least best i l < i + l.length) := by
  intro l
  induction l with
  | nil => intro least best i; exact .inl rfl
  | cons g l ih =>
    intro least best i
    rw [leastI]
    simp only [List.length_cons]
    split
    · right
      rcases ih (F g) i (i + 1) with h | h <;> omega
    · rcases ih least best (i + 1) with h | h
      · exact .inl h
      · right; omega
theorem missA_len (g : StateR) (t : Int) : ∀ (ks : List LookR) (acc : List Int) (i : Nat), (missA g t acc i ks).length ≤ acc.length + ks.length := by
  intro ks
  induction ks with
  | nil => intro acc i; rw [missA]; simp
  | cons k ks ih =>
    intro acc i
    rw [missA]
    have h1 := ih (if missB g t k then acc ++ [(i : Int)] else acc) (i + 1)
    have h2 : (if missB g t k then acc ++ [(i : Int)] else acc).length ≤ acc.length + 1 := by split <;> simp
    rw [List.length_cons]
    omega
structure BelAt (W : World) (LB TB : Nat) (ks : List LookR) (t : Int) : Prop where
  l : ∃ g o n c pk ck, W.cell? ⟨LB, 0, none⟩ = some (.slice (some ⟨g, o, none⟩) n c) ∧ 0 < n ∧ g < W.heap.size ∧ W.cell? ⟨g, o, none⟩ = some (.slice pk ks.length ck) ∧ LooksAt W pk ks
  lb : LB < W.heap.size
  tb : TB < W.heap.size
  t : W.cell? ⟨TB, 0, none⟩ = some (.int .i64 t)
theorem BelAt.ext {W : World} {LB TB : Nat} {ks : List LookR} {t : Int} (h : BelAt W LB TB ks t) (x : Ext W) : BelAt x.now LB TB ks t := by
  obtain ⟨g, o, n, c, pk, ck, h1, h2, h3, h4, h5⟩ := h.l
  exact ⟨⟨g, o, n, c, pk, ck, (x.cell h.lb).trans h1, h2, x.lt h3, (x.cell h3).trans h4, h5.on x.grew⟩, x.lt h.lb, x.lt h.tb, (x.cell h.tb).trans h.t⟩
theorem BelAt.on {W W' : World} {LB TB : Nat} {ks : List LookR} {t : Int} (h : BelAt W LB TB ks t) (b : Below W.heap.size W W') : BelAt W' LB TB ks t := h.ext ⟨W', b⟩
set_option maxRecDepth 100000 in
set_option maxHeartbeats 4000000 in
theorem Believe1_any (g : StateR) (t : Int) (LB TB : Nat) (ks : List LookR) (w : World) (hg : guessB g = true) (ht : tickB t = true) (hn : ks.length ≤ 4096) (hP : BelAt w LB TB ks t) (hF : ∀ j (h : j < ks.length), ks[j].Fit) :
    Calls Try.prog 35 #[.agg #[.int .i64 g.x, .int .i64 g.y, .int .i64 g.u, .int .i64 g.v], .pointer (some ⟨LB, 0, none⟩), .pointer (some ⟨TB, 0, none⟩)] w (Gives (.int .i64 (missL g t ks).length) w) := by
  obtain ⟨⟨gl, o, n, c, pk, ck, h1, h2, h3, h4, h5⟩, hl, htb, h6⟩ := hP
  have cm := fun (W : World) (y : Below w.heap.size w W) => misses_any g t pk ck ks W hg ht hn (h5.on y) hF
  have hn2 : (0 : Int) < (n : Int) := by omega
  generalize missL g t ks = M at *
  obtain ⟨gx, gy, gu, gv⟩ := g
  simp only at *
  clear hg ht hF h5
  go_enter Try.func35, Try.ntmps35
  go_wp2_with fail
  (first | with_reducible refine wp_region_ext2_heads 5 (by kernel_rfl) (by kernel_rfl) ?_ | with_reducible refine wp_region_ext_heads 5 (by kernel_rfl) (by kernel_rfl) ?_); simp only [List.take_succ_cons, List.take_zero, List.length_cons, List.length_nil, Nat.reduceAdd, Nat.reduceSub]; (repeat (first | go_big_quiet_step (fail) | quiet_step (fail))); refine wpQuiet_nil ?_; rintro _ ⟨yr, rfl⟩
  have syr := yr.size
  have hbr : Below w.heap.size w yr.now := by repeat' (first | (with_reducible exact Below.refl _ _) | (with_reducible assumption) | (with_reducible refine Ext.below _ ?_ ?_) | (with_reducible refine Below.on ?_ (by with_reducible assumption) ?_) | (with_reducible refine Below.alloc ?_ ?_ _) | (with_reducible refine Below.drew ?_) | (with_reducible refine Below.setCell ?_ ?_ _) | (with_reducible exact Nat.le_refl _) | omega | (simp; done) | (simp [go_sem]; done) | (simp at *; omega))
  refine wpAny_ready (rs := [5]) (by kernel_rfl) (by simp) ?_
  refine AllReady.cons rfl (fun K hK => ?_) AllReady.nil
  go_simp
  go_at_call 27
  refine (cm _ hbr).mono ?_
  rintro _ W6 ⟨hb6, v6, rfl, how6⟩
  obtain ⟨p6, n6, c6, rfl⟩ := owns_isSlice how6
  obtain rfl := owns_len how6
  have hbw6 : Below w.heap.size w W6 := by
    refine hbr.trans (hb6.mono ?_)
    have := hbr.size
    omega
  refine hK _ _ ?_
  clear hK K
  refine wpAny_ready (rs := [6]) (by kernel_rfl) (by simp) ?_
  refine AllReady.cons rfl (fun K hK => ?_) AllReady.nil
  go_simp
  refine hK _ _ ?_
  clear hK K
  refine wpAny_ready (rs := [7]) (by kernel_rfl) (by simp) ?_
  refine AllReady.cons rfl (fun K hK => ?_) AllReady.nil
  go_simp
  refine hK _ _ ?_
  clear hK K
  refine wpAny_done (by kernel_rfl) ?_ _
  go_wp2_with (first | ((first | with_reducible refine wp_region_ext2 (by kernel_rfl) (by kernel_rfl) ?_ | with_reducible refine wp_region_ext (by kernel_rfl) (by kernel_rfl) ?_); (repeat (first | go_big_quiet_step ((first | fail)) | quiet_step ((first | fail)))); refine wpQuiet_nil ?_; rintro _ ⟨yr, rfl⟩; have syr := Ext.size yr; (repeat (first | rw [World.size_alloc] at syr | rw [World.size_setCell] at syr | rw [World.size_drew] at syr))))
  go_returns
  refine ⟨rfl, ?_⟩
  repeat' (first | (with_reducible exact Below.refl _ _) | (with_reducible assumption) | (with_reducible refine Ext.below _ ?_ ?_) | (with_reducible refine Below.on ?_ (by with_reducible assumption) ?_) | (with_reducible refine Below.alloc ?_ ?_ _) | (with_reducible refine Below.drew ?_) | (with_reducible refine Below.setCell ?_ ?_ _) | (with_reducible exact Nat.le_refl _) | omega | (simp; done) | (simp [go_sem]; done) | (simp at *; omega))
set_option maxRecDepth 100000 in
set_option maxHeartbeats 8000000 in
theorem leastOf_any (gp : Option Addr) (gc : Nat) (gs : List StateR) (t : Int) (LB TB : Nat) (ks : List LookR) (w : World) (hG : StatesAt w gp gs) (hg : ∀ g ∈ gs, guessB g = true) (hgl : gs.length ≤ 64) (ht : tickB t = true) (hn : ks.length ≤ 4096) (hP : BelAt w LB TB ks t) (hF : ∀ j (h : j < ks.length), ks[j].Fit) :
    Calls Try.prog 34 #[.slice gp gs.length gc, .func (.func 35) #[] #[.pointer (some ⟨LB, 0, none⟩), .pointer (some ⟨TB, 0, none⟩)]] w (Gives (.int .i64 (leastI (fun g => ((missL g t ks).length : Int)) 0 0 0 gs)) w) := by
  have cb := Go.Lib.hid (fun j (h : j < gs.length) (W : World) (y : Below w.heap.size w W) => Believe1_any gs[j] t LB TB ks W (hg _ (List.getElem_mem h)) ht hn (hP.on y) hF)
  have hml : Hid (∀ j (h : j < gs.length), (missL gs[j] t ks).length ≤ 4096) := Go.Lib.hid fun j h => by
    have := missA_len gs[j] t ks [] 0
    unfold missL
    simp only [List.length_nil] at this
    omega
  obtain ⟨V, hV⟩ : ∃ V, leastI (fun g => ((missL g t ks).length : Int)) 0 0 0 gs = V := ⟨_, rfl⟩
  rw [hV]
  have hV := Go.Lib.hid hV
  have hG := Go.Lib.hid hG
  clear hg ht hn hP hF
  go_enter Try.func34, Try.ntmps34
  go_wp2_with fail
  refine wp_named (fun W0 hW => ?_)
  have hB0 : Below w.heap.size w W0 := by rw [← hW]; repeat' (first | (with_reducible exact Below.refl _ _) | (with_reducible assumption) | (with_reducible refine Ext.below _ ?_ ?_) | (with_reducible refine Below.on ?_ (by with_reducible assumption) ?_) | (with_reducible refine Below.alloc ?_ ?_ _) | (with_reducible refine Below.drew ?_) | (with_reducible refine Below.setCell ?_ ?_ _) | (with_reducible exact Nat.le_refl _) | omega | (simp; done) | (simp [go_sem]; done) | (simp at *; omega))
  have hG0 := Go.Lib.hid (hG.out.on hB0)
  clear hW hG
  go_loopw [5, 6, 12] (fun a b u W => ∃ (i : Nat) (x : Ext W0) (least best : Int), a = .int .i64 least ∧ b = .int .i64 best ∧ u = .int .i64 i ∧ W = x.now ∧ Hid (i ≤ gs.length ∧ leastI (fun g => ((missL g t ks).length : Int)) least best i (gs.drop i) = V)) (fun _ _ u _ => gs.length - (intOf u).toNat)
  case atStart => exact ⟨0, ⟨W0, Below.refl _ _⟩, 0, 0, rfl, rfl, rfl, rfl, Go.Lib.hid ⟨Nat.zero_le _, by simpa using hV.out⟩⟩
  case round =>
    obtain ⟨i, x, least, best, rfl, rfl, rfl, rfl, hi⟩ := hrel
    have xs := x.size
    have hbx := x.below hB0 (by have := hB0.size; omega)
    have hwx := hbx.size
    by_cases hlt : i < gs.length
    · have hlt2 : (i : Int) < gs.length := by omega
      obtain ⟨B, o, rfl, hB, r1, r2, r3, r4⟩ := hG0.out i hlt
      have hE := hi.out.2
      rw [drop_at hlt, leastI] at hE
      have cb := fun (W : World) (y : Below w.heap.size w W) => cb.out i hlt W y
      have hm := hml.out i hlt
      have : B < (x.now).heap.size := (by omega); have : B < (x.now).heap.size + 1 := (by omega); have : B < (x.now).heap.size + 1 + 1 := (by omega); have : B ≠ (x.now).heap.size := (by omega); have : B ≠ (x.now).heap.size + 1 := (by omega)
      by_cases hc : i = 0 ∨ ((missL gs[i] t ks).length : Int) < least
      · rw [if_pos hc] at hE
        have key : Hid (i + 1 ≤ gs.length ∧ leastI (fun g => ((missL g t ks).length : Int)) ((missL gs[i] t ks).length : Int) i (i + 1) (gs.drop (i + 1)) = V) := Go.Lib.hid ⟨hlt, hE⟩
        clear hE hi hml hV
        generalize (missL gs[i] t ks).length = ml at *
        generalize gs[i].x = g1' at *
        generalize gs[i].y = g2' at *
        generalize gs[i].u = g3' at *
        generalize gs[i].v = g4' at *
        by_cases hz : i = 0
        · clear hc
          subst hz
          simp only [Nat.zero_mul, Nat.add_zero] at r1 r2 r3 r4
          go_wp2_with (first | ((first | with_reducible refine wp_region_ext2 (by kernel_rfl) (by kernel_rfl) ?_ | with_reducible refine wp_region_ext (by kernel_rfl) (by kernel_rfl) ?_); (repeat (first | go_big_quiet_step ((first | (go_at_call 35; with_reducible exact Calls.ext (cb _ (by repeat' (first | (with_reducible exact Below.refl _ _) | (with_reducible assumption) | (with_reducible refine Ext.below _ ?_ ?_) | (with_reducible refine Below.on ?_ (by with_reducible assumption) ?_) | (with_reducible refine Below.alloc ?_ ?_ _) | (with_reducible refine Below.drew ?_) | (with_reducible refine Below.setCell ?_ ?_ _) | (with_reducible exact Nat.le_refl _) | omega | (simp; done) | (simp [go_sem]; done) | (simp at *; omega))))))) | quiet_step ((first | (go_at_call 35; with_reducible exact Calls.ext (cb _ (by repeat' (first | (with_reducible exact Below.refl _ _) | (with_reducible assumption) | (with_reducible refine Ext.below _ ?_ ?_) | (with_reducible refine Below.on ?_ (by with_reducible assumption) ?_) | (with_reducible refine Below.alloc ?_ ?_ _) | (with_reducible refine Below.drew ?_) | (with_reducible refine Below.setCell ?_ ?_ _) | (with_reducible exact Nat.le_refl _) | omega | (simp; done) | (simp [go_sem]; done) | (simp at *; omega))))))))); refine wpQuiet_nil ?_; rintro _ ⟨yr, rfl⟩; have syr := Ext.size yr; (repeat (first | rw [World.size_alloc] at syr | rw [World.size_setCell] at syr | rw [World.size_drew] at syr)); have : B < yr.now.heap.size := (by omega); have : B ≤ yr.now.heap.size := (by omega); have : B < yr.now.heap.size + 1 + 1 := (by omega)) | (go_at_call 35; (first | with_reducible refine (Calls.giv2 (cb _ (by repeat' (first | (with_reducible exact Below.refl _ _) | (with_reducible assumption) | (with_reducible refine Ext.below _ ?_ ?_) | (with_reducible refine Below.on ?_ (by with_reducible assumption) ?_) | (with_reducible refine Below.alloc ?_ ?_ _) | (with_reducible refine Below.drew ?_) | (with_reducible refine Below.setCell ?_ ?_ _) | (with_reducible exact Nat.le_refl _) | omega | (simp; done) | (simp [go_sem]; done) | (simp at *; omega))))).mono ?_ | with_reducible refine (Calls.giv (cb _ (by repeat' (first | (with_reducible exact Below.refl _ _) | (with_reducible assumption) | (with_reducible refine Ext.below _ ?_ ?_) | (with_reducible refine Below.on ?_ (by with_reducible assumption) ?_) | (with_reducible refine Below.alloc ?_ ?_ _) | (with_reducible refine Below.drew ?_) | (with_reducible refine Below.setCell ?_ ?_ _) | (with_reducible exact Nat.le_refl _) | omega | (simp; done) | (simp [go_sem]; done) | (simp at *; omega))))).mono ?_); rintro _ _ ⟨y1, rfl, rfl⟩; have sy1 := Ext.size y1; (repeat (first | rw [World.size_alloc] at sy1 | rw [World.size_setCell] at sy1 | rw [World.size_drew] at sy1)); have : B < y1.now.heap.size := (by omega); have : B ≤ y1.now.heap.size := (by omega); have : B < y1.now.heap.size + 1 + 1 := (by omega)))
          refine ⟨⟨0 + 1, ⟨_, ?_⟩, _, _, rfl, rfl, by simp, rfl, key⟩, by simp [intOf]; omega⟩
          repeat' (first | (with_reducible exact Below.refl _ _) | (with_reducible assumption) | (with_reducible refine Ext.below _ ?_ ?_) | (with_reducible refine Below.on ?_ (by with_reducible assumption) ?_) | (with_reducible refine Below.alloc ?_ ?_ _) | (with_reducible refine Below.drew ?_) | (with_reducible refine Below.setCell ?_ ?_ _) | (with_reducible exact Nat.le_refl _) | omega | (simp; done) | (simp [go_sem]; done) | (simp at *; omega))
        · have hz' : ¬ (i : Int) = 0 := by omega
          have hc' : (ml : Int) < least := by omega
          clear hc
          go_wp2_with (first | ((first | with_reducible refine wp_region_ext2 (by kernel_rfl) (by kernel_rfl) ?_ | with_reducible refine wp_region_ext (by kernel_rfl) (by kernel_rfl) ?_); (repeat (first | go_big_quiet_step ((first | (go_at_call 35; with_reducible exact Calls.ext (cb _ (by repeat' (first | (with_reducible exact Below.refl _ _) | (with_reducible assumption) | (with_reducible refine Ext.below _ ?_ ?_) | (with_reducible refine Below.on ?_ (by with_reducible assumption) ?_) | (with_reducible refine Below.alloc ?_ ?_ _) | (with_reducible refine Below.drew ?_) | (with_reducible refine Below.setCell ?_ ?_ _) | (with_reducible exact Nat.le_refl _) | omega | (simp; done) | (simp [go_sem]; done) | (simp at *; omega))))))) | quiet_step ((first | (go_at_call 35; with_reducible exact Calls.ext (cb _ (by repeat' (first | (with_reducible exact Below.refl _ _) | (with_reducible assumption) | (with_reducible refine Ext.below _ ?_ ?_) | (with_reducible refine Below.on ?_ (by with_reducible assumption) ?_) | (with_reducible refine Below.alloc ?_ ?_ _) | (with_reducible refine Below.drew ?_) | (with_reducible refine Below.setCell ?_ ?_ _) | (with_reducible exact Nat.le_refl _) | omega | (simp; done) | (simp [go_sem]; done) | (simp at *; omega))))))))); refine wpQuiet_nil ?_; rintro _ ⟨yr, rfl⟩; have syr := Ext.size yr; (repeat (first | rw [World.size_alloc] at syr | rw [World.size_setCell] at syr | rw [World.size_drew] at syr)); have : B < yr.now.heap.size := (by omega); have : B ≤ yr.now.heap.size := (by omega); have : B < yr.now.heap.size + 1 + 1 := (by omega)) | (go_at_call 35; (first | with_reducible refine (Calls.giv2 (cb _ (by repeat' (first | (with_reducible exact Below.refl _ _) | (with_reducible assumption) | (with_reducible refine Ext.below _ ?_ ?_) | (with_reducible refine Below.on ?_ (by with_reducible assumption) ?_) | (with_reducible refine Below.alloc ?_ ?_ _) | (with_reducible refine Below.drew ?_) | (with_reducible refine Below.setCell ?_ ?_ _) | (with_reducible exact Nat.le_refl _) | omega | (simp; done) | (simp [go_sem]; done) | (simp at *; omega))))).mono ?_ | with_reducible refine (Calls.giv (cb _ (by repeat' (first | (with_reducible exact Below.refl _ _) | (with_reducible assumption) | (with_reducible refine Ext.below _ ?_ ?_) | (with_reducible refine Below.on ?_ (by with_reducible assumption) ?_) | (with_reducible refine Below.alloc ?_ ?_ _) | (with_reducible refine Below.drew ?_) | (with_reducible refine Below.setCell ?_ ?_ _) | (with_reducible exact Nat.le_refl _) | omega | (simp; done) | (simp [go_sem]; done) | (simp at *; omega))))).mono ?_); rintro _ _ ⟨y1, rfl, rfl⟩; have sy1 := Ext.size y1; (repeat (first | rw [World.size_alloc] at sy1 | rw [World.size_setCell] at sy1 | rw [World.size_drew] at sy1)); have : B < y1.now.heap.size := (by omega); have : B ≤ y1.now.heap.size := (by omega); have : B < y1.now.heap.size + 1 + 1 := (by omega)))
          refine ⟨⟨i + 1, ⟨_, ?_⟩, _, _, rfl, rfl, by simp, rfl, key⟩, by simp [intOf]; omega⟩
          repeat' (first | (with_reducible exact Below.refl _ _) | (with_reducible assumption) | (with_reducible refine Ext.below _ ?_ ?_) | (with_reducible refine Below.on ?_ (by with_reducible assumption) ?_) | (with_reducible refine Below.alloc ?_ ?_ _) | (with_reducible refine Below.drew ?_) | (with_reducible refine Below.setCell ?_ ?_ _) | (with_reducible exact Nat.le_refl _) | omega | (simp; done) | (simp [go_sem]; done) | (simp at *; omega))
      · rw [if_neg hc] at hE
        have key : Hid (i + 1 ≤ gs.length ∧ leastI (fun g => ((missL g t ks).length : Int)) least best (i + 1) (gs.drop (i + 1)) = V) := Go.Lib.hid ⟨hlt, hE⟩
        have hz' : ¬ (i : Int) = 0 := by omega
        have hc' : ¬ ((missL gs[i] t ks).length : Int) < least := by omega
        clear hE hi hml hV hc
        generalize (missL gs[i] t ks).length = ml at *
        have hcb : decide ((ml : Int) < least) = false := by simp only [decide_eq_false_iff_not]; exact hc'
        have hle : least ≤ (ml : Int) := by omega
        generalize gs[i].x = g1' at *
        generalize gs[i].y = g2' at *
        generalize gs[i].u = g3' at *
        generalize gs[i].v = g4' at *
        go_wp2_with (first | ((first | with_reducible refine wp_region_ext2 (by kernel_rfl) (by kernel_rfl) ?_ | with_reducible refine wp_region_ext (by kernel_rfl) (by kernel_rfl) ?_); (repeat (first | go_big_quiet_step ((first | (go_at_call 35; with_reducible exact Calls.ext (cb _ (by repeat' (first | (with_reducible exact Below.refl _ _) | (with_reducible assumption) | (with_reducible refine Ext.below _ ?_ ?_) | (with_reducible refine Below.on ?_ (by with_reducible assumption) ?_) | (with_reducible refine Below.alloc ?_ ?_ _) | (with_reducible refine Below.drew ?_) | (with_reducible refine Below.setCell ?_ ?_ _) | (with_reducible exact Nat.le_refl _) | omega | (simp; done) | (simp [go_sem]; done) | (simp at *; omega))))))) | quiet_step ((first | (go_at_call 35; with_reducible exact Calls.ext (cb _ (by repeat' (first | (with_reducible exact Below.refl _ _) | (with_reducible assumption) | (with_reducible refine Ext.below _ ?_ ?_) | (with_reducible refine Below.on ?_ (by with_reducible assumption) ?_) | (with_reducible refine Below.alloc ?_ ?_ _) | (with_reducible refine Below.drew ?_) | (with_reducible refine Below.setCell ?_ ?_ _) | (with_reducible exact Nat.le_refl _) | omega | (simp; done) | (simp [go_sem]; done) | (simp at *; omega))))))))); refine wpQuiet_nil ?_; rintro _ ⟨yr, rfl⟩; have syr := Ext.size yr; (repeat (first | rw [World.size_alloc] at syr | rw [World.size_setCell] at syr | rw [World.size_drew] at syr)); have : B < yr.now.heap.size := (by omega); have : B ≤ yr.now.heap.size := (by omega); have : B < yr.now.heap.size + 1 + 1 := (by omega)) | (go_at_call 35; (first | with_reducible refine (Calls.giv2 (cb _ (by repeat' (first | (with_reducible exact Below.refl _ _) | (with_reducible assumption) | (with_reducible refine Ext.below _ ?_ ?_) | (with_reducible refine Below.on ?_ (by with_reducible assumption) ?_) | (with_reducible refine Below.alloc ?_ ?_ _) | (with_reducible refine Below.drew ?_) | (with_reducible refine Below.setCell ?_ ?_ _) | (with_reducible exact Nat.le_refl _) | omega | (simp; done) | (simp [go_sem]; done) | (simp at *; omega))))).mono ?_ | with_reducible refine (Calls.giv (cb _ (by repeat' (first | (with_reducible exact Below.refl _ _) | (with_reducible assumption) | (with_reducible refine Ext.below _ ?_ ?_) | (with_reducible refine Below.on ?_ (by with_reducible assumption) ?_) | (with_reducible refine Below.alloc ?_ ?_ _) | (with_reducible refine Below.drew ?_) | (with_reducible refine Below.setCell ?_ ?_ _) | (with_reducible exact Nat.le_refl _) | omega | (simp; done) | (simp [go_sem]; done) | (simp at *; omega))))).mono ?_); rintro _ _ ⟨y1, rfl, rfl⟩; have sy1 := Ext.size y1; (repeat (first | rw [World.size_alloc] at sy1 | rw [World.size_setCell] at sy1 | rw [World.size_drew] at sy1)); have : B < y1.now.heap.size := (by omega); have : B ≤ y1.now.heap.size := (by omega); have : B < y1.now.heap.size + 1 + 1 := (by omega)))
        refine ⟨⟨i + 1, ⟨_, ?_⟩, _, _, rfl, rfl, by simp, rfl, key⟩, by simp [intOf]; omega⟩
        repeat' (first | (with_reducible exact Below.refl _ _) | (with_reducible assumption) | (with_reducible refine Ext.below _ ?_ ?_) | (with_reducible refine Below.on ?_ (by with_reducible assumption) ?_) | (with_reducible refine Below.alloc ?_ ?_ _) | (with_reducible refine Below.drew ?_) | (with_reducible refine Below.setCell ?_ ?_ _) | (with_reducible exact Nat.le_refl _) | omega | (simp; done) | (simp [go_sem]; done) | (simp at *; omega))
    · have hge : ¬ (i : Int) < gs.length := by omega
      have hE := hi.out.2
      rw [drop_end hlt, leastI] at hE
      clear hi hV
      subst hE
      go_wp2_with (first | ((first | with_reducible refine wp_region_ext2 (by kernel_rfl) (by kernel_rfl) ?_ | with_reducible refine wp_region_ext (by kernel_rfl) (by kernel_rfl) ?_); (repeat (first | go_big_quiet_step ((first | fail)) | quiet_step ((first | fail)))); refine wpQuiet_nil ?_; rintro _ ⟨yr, rfl⟩; have syr := Ext.size yr; (repeat (first | rw [World.size_alloc] at syr | rw [World.size_setCell] at syr | rw [World.size_drew] at syr))))
      go_returns
      refine ⟨rfl, ?_⟩
      repeat' (first | (with_reducible exact Below.refl _ _) | (with_reducible assumption) | (with_reducible refine Ext.below _ ?_ ?_) | (with_reducible refine Below.on ?_ (by with_reducible assumption) ?_) | (with_reducible refine Below.alloc ?_ ?_ _) | (with_reducible refine Below.drew ?_) | (with_reducible refine Below.setCell ?_ ?_ _) | (with_reducible exact Nat.le_refl _) | omega | (simp; done) | (simp [go_sem]; done) | (simp at *; omega))
/-- What Believe gives back. -/
def believeR (s : SkyR) (a : List SightR) (gs : List StateR) (t : Int) : LinkR := match allR s [⟨none, 0, a⟩] with
  | .ok [x] => if guessesE gs t = 0 then (if gs.length = 0 then ⟨0, [], 7⟩ else ⟨leastI (fun g => ((missL g t x).length : Int)) 0 0 0 gs, missL (gs.getD (leastI (fun g => ((missL g t x).length : Int)) 0 0 0 gs).toNat ⟨0, 0, 0, 0⟩) t x, 0⟩) else ⟨0, [], guessesE gs t⟩
  | .ok _ => ⟨0, [], 0⟩
  | .error e => ⟨0, [], e⟩
theorem allR_one {s : SkyR} {a : List SightR} (p : Option Addr) (c : Nat) : allR s [⟨p, c, a⟩] = allR s [⟨none, 0, a⟩] := rfl
theorem allR_ok1 {s : SkyR} {a : List SightR} {r : List (List LookR)} (h : allR s [⟨none, 0, a⟩] = .ok r) : ∃ x, r = [x] ∧ (∀ k ∈ x, k.Fit) ∧ 1 ≤ x.length ∧ x.length ≤ 64 := by
  unfold allR at h
  by_cases h1 : skyE s = 0
  · rw [if_pos h1, allA] at h
    cases hx : looksR s a with
    | error e => rw [hx] at h; cases h
    | ok x =>
      rw [hx] at h
      injection h with h
      have fx := looksR_fit h1 hx
      exact ⟨x, by rw [← h]; rfl, fx.1, fx.2⟩
  · rw [if_neg h1] at h; cases h
theorem one_looks {W : World} {base : Nat} {v : Value} {vs : List Value} {x : List LookR} (how : W.ownsRow base 68 1 v 1 vs) (hin : InnerAt W base vs [x]) :
    ∃ g c p0 c0, v = .slice (some ⟨g, 0, none⟩) 1 c ∧ g < W.heap.size ∧ W.cell? ⟨g, 0, none⟩ = some (.slice p0 x.length c0) ∧ LooksAt W p0 x := by
  match vs, hin with
  | [u0], hin =>
    obtain ⟨h0, -⟩ := hin
    rcases owns_slice how with ⟨-, h2⟩ | ⟨g, c, rfl, -, hg, hc⟩
    · cases h2
    obtain ⟨p0, c0, rfl, hL⟩ := owns_looks h0
    exact ⟨g, c, p0, c0, rfl, hg, hc 0 _ rfl, hL⟩
set_option maxRecDepth 100000 in
set_option maxHeartbeats 16000000 in
theorem Believe_any (s : SkyR) (pa pg : Option Addr) (ca cg : Nat) (a : List SightR) (gs : List StateR) (t : Int) (w : World) (hA : s.At w) (ha : SightsAt w pa a) (hg : StatesAt w pg gs) :
    Calls Try.prog 13 #[s.val, .slice pa a.length ca, .slice pg gs.length cg, .int .i64 t] w (LinkPost w (believeR s a gs t)) := by
  have cl := fun (W : World) (y : Below w.heap.size w W) (p : Option Addr) (h : TracksAt W p [⟨pa, ca, a⟩]) => allLooks_any s p 1 [⟨pa, ca, a⟩] W (by simp) (hA.on y) h
  have cg' := fun (W : World) (y : Below w.heap.size w W) => checkGuesses_any pg cg gs t W (hg.on y)
  have htr : ∀ (W : World) (B : Nat), Below w.heap.size w W → B < W.heap.size → W.cell? ⟨B, 0, none⟩ = some (.slice pa a.length ca) → TracksAt W (some ⟨B, 0, none⟩) [⟨pa, ca, a⟩] := by
    intro W B y hB h0 j hj
    obtain rfl : j = 0 := by simp only [List.length_cons, List.length_nil] at hj; omega
    exact ⟨ha.on y, B, 0, rfl, hB, h0⟩
  have htr := Go.Lib.hid htr
  simp only [List.length_cons, List.length_nil, Nat.zero_add, allR_one] at cl
  have ce := fun e (h : allR s [⟨none, 0, a⟩] = .error e) => allR_err h
  have ck := fun r (h : allR s [⟨none, 0, a⟩] = .ok r) => allR_ok1 h
  have hg := Go.Lib.hid hg
  obtain ⟨V, hV⟩ : ∃ V, believeR s a gs t = V := ⟨_, rfl⟩
  rw [hV]
  unfold believeR at hV
  clear hA ha
  generalize allR s [⟨none, 0, a⟩] = r at *
  unfold SkyR.val at *
  generalize s.cats.length = n1 at *; generalize s.cp = n2 at *; generalize s.cc = n3 at *; generalize s.bodies.length = n4 at *; generalize s.bp = n5 at *; generalize s.bc = n6 at *; generalize s.sts.length = n7 at *; generalize s.sp = n8 at *; generalize s.sc = n9 at *; generalize s.home = n0 at *
  generalize a.length = la at *
  cases r with
  | error e =>
    have e0 := ce e rfl
    clear ce ck
    simp only at hV
    subst hV
    go_enter Try.func13, Try.ntmps13
    go_wp2_with (first | ((first | with_reducible refine wp_region_ext2 (by kernel_rfl) (by kernel_rfl) ?_ | with_reducible refine wp_region_ext (by kernel_rfl) (by kernel_rfl) ?_); (repeat (first | go_big_quiet_step ((first | fail)) | quiet_step ((first | fail)))); refine wpQuiet_nil ?_; rintro _ ⟨yr, rfl⟩; have syr := Ext.size yr; (repeat (first | rw [World.size_alloc] at syr | rw [World.size_setCell] at syr | rw [World.size_drew] at syr))) | (go_at_call 25; refine (cl _ (by repeat' (first | (with_reducible exact Below.refl _ _) | (with_reducible assumption) | (with_reducible refine Ext.below _ ?_ ?_) | (with_reducible refine Below.on ?_ (by with_reducible assumption) ?_) | (with_reducible refine Below.alloc ?_ ?_ _) | (with_reducible refine Below.drew ?_) | (with_reducible refine Below.setCell ?_ ?_ _) | (with_reducible exact Nat.le_refl _) | omega | (simp; done) | (simp [go_sem]; done) | (simp at *; omega))) _ (htr.out _ _ (by repeat' (first | (with_reducible exact Below.refl _ _) | (with_reducible assumption) | (with_reducible refine Ext.below _ ?_ ?_) | (with_reducible refine Below.on ?_ (by with_reducible assumption) ?_) | (with_reducible refine Below.alloc ?_ ?_ _) | (with_reducible refine Below.drew ?_) | (with_reducible refine Below.setCell ?_ ?_ _) | (with_reducible exact Nat.le_refl _) | omega | (simp; done) | (simp [go_sem]; done) | (simp at *; omega))) (by simp) (by simp [go_sem]))).mono ?_; rintro _ W3 ⟨hb3, rfl⟩; have hbw3 : Below w.heap.size w W3 := (by refine Below.on ?_ hb3 (by simp only [World.size_alloc]; omega); repeat' (first | (with_reducible exact Below.refl _ _) | (with_reducible assumption) | (with_reducible refine Ext.below _ ?_ ?_) | (with_reducible refine Below.on ?_ (by with_reducible assumption) ?_) | (with_reducible refine Below.alloc ?_ ?_ _) | (with_reducible refine Below.drew ?_) | (with_reducible refine Below.setCell ?_ ?_ _) | (with_reducible exact Nat.le_refl _) | omega | (simp; done) | (simp [go_sem]; done) | (simp at *; omega))); have u9 : w.heap.size ≤ W3.heap.size := hbw3.size; clear cl htr))
    go_returns
    refine ⟨?_, _, rfl, World.ownsRow_nil _ _ _ _⟩
    repeat' (first | (with_reducible exact Below.refl _ _) | (with_reducible assumption) | (with_reducible refine Ext.below _ ?_ ?_) | (with_reducible refine Below.on ?_ (by with_reducible assumption) ?_) | (with_reducible refine Below.alloc ?_ ?_ _) | (with_reducible refine Below.drew ?_) | (with_reducible refine Below.setCell ?_ ?_ _) | (with_reducible exact Nat.le_refl _) | omega | (simp; done) | (simp [go_sem]; done) | (simp at *; omega))
  | ok r =>
    obtain ⟨x, rfl, fx, hx⟩ := ck r rfl
    clear ce ck
    simp only at hV
    by_cases hge : guessesE gs t = 0
    case neg =>
      rw [if_neg hge] at hV
      subst hV
      generalize guessesE gs t = ge at *
      go_enter Try.func13, Try.ntmps13
      go_wp2_with (first | ((first | with_reducible refine wp_region_ext2 (by kernel_rfl) (by kernel_rfl) ?_ | with_reducible refine wp_region_ext (by kernel_rfl) (by kernel_rfl) ?_); (repeat (first | go_big_quiet_step ((first | (go_at_call 26; with_reducible exact Calls.ext (cg' _ (by repeat' (first | (with_reducible exact Below.refl _ _) | (with_reducible assumption) | (with_reducible refine Ext.below _ ?_ ?_) | (with_reducible refine Below.on ?_ (by with_reducible assumption) ?_) | (with_reducible refine Below.alloc ?_ ?_ _) | (with_reducible refine Below.drew ?_) | (with_reducible refine Below.setCell ?_ ?_ _) | (with_reducible exact Nat.le_refl _) | omega | (simp; done) | (simp [go_sem]; done) | (simp at *; omega))))))) | quiet_step ((first | (go_at_call 26; with_reducible exact Calls.ext (cg' _ (by repeat' (first | (with_reducible exact Below.refl _ _) | (with_reducible assumption) | (with_reducible refine Ext.below _ ?_ ?_) | (with_reducible refine Below.on ?_ (by with_reducible assumption) ?_) | (with_reducible refine Below.alloc ?_ ?_ _) | (with_reducible refine Below.drew ?_) | (with_reducible refine Below.setCell ?_ ?_ _) | (with_reducible exact Nat.le_refl _) | omega | (simp; done) | (simp [go_sem]; done) | (simp at *; omega))))))))); refine wpQuiet_nil ?_; rintro _ ⟨yr, rfl⟩; have syr := Ext.size yr; (repeat (first | rw [World.size_alloc] at syr | rw [World.size_setCell] at syr | rw [World.size_drew] at syr))) | (go_at_call 26; (first | with_reducible refine (Calls.giv2 (cg' _ (by repeat' (first | (with_reducible exact Below.refl _ _) | (with_reducible assumption) | (with_reducible refine Ext.below _ ?_ ?_) | (with_reducible refine Below.on ?_ (by with_reducible assumption) ?_) | (with_reducible refine Below.alloc ?_ ?_ _) | (with_reducible refine Below.drew ?_) | (with_reducible refine Below.setCell ?_ ?_ _) | (with_reducible exact Nat.le_refl _) | omega | (simp; done) | (simp [go_sem]; done) | (simp at *; omega))))).mono ?_ | with_reducible refine (Calls.giv (cg' _ (by repeat' (first | (with_reducible exact Below.refl _ _) | (with_reducible assumption) | (with_reducible refine Ext.below _ ?_ ?_) | (with_reducible refine Below.on ?_ (by with_reducible assumption) ?_) | (with_reducible refine Below.alloc ?_ ?_ _) | (with_reducible refine Below.drew ?_) | (with_reducible refine Below.setCell ?_ ?_ _) | (with_reducible exact Nat.le_refl _) | omega | (simp; done) | (simp [go_sem]; done) | (simp at *; omega))))).mono ?_); rintro _ _ ⟨y1, rfl, rfl⟩; have sy1 := Ext.size y1; (repeat (first | rw [World.size_alloc] at sy1 | rw [World.size_setCell] at sy1 | rw [World.size_drew] at sy1))) | (go_at_call 25; refine (cl _ (by repeat' (first | (with_reducible exact Below.refl _ _) | (with_reducible assumption) | (with_reducible refine Ext.below _ ?_ ?_) | (with_reducible refine Below.on ?_ (by with_reducible assumption) ?_) | (with_reducible refine Below.alloc ?_ ?_ _) | (with_reducible refine Below.drew ?_) | (with_reducible refine Below.setCell ?_ ?_ _) | (with_reducible exact Nat.le_refl _) | omega | (simp; done) | (simp [go_sem]; done) | (simp at *; omega))) _ (htr.out _ _ (by repeat' (first | (with_reducible exact Below.refl _ _) | (with_reducible assumption) | (with_reducible refine Ext.below _ ?_ ?_) | (with_reducible refine Below.on ?_ (by with_reducible assumption) ?_) | (with_reducible refine Below.alloc ?_ ?_ _) | (with_reducible refine Below.drew ?_) | (with_reducible refine Below.setCell ?_ ?_ _) | (with_reducible exact Nat.le_refl _) | omega | (simp; done) | (simp [go_sem]; done) | (simp at *; omega))) (by simp) (by simp [go_sem]))).mono ?_; rintro _ W3 ⟨hb3, v3, vs, rfl, how, hin⟩; have hbw3 : Below w.heap.size w W3 := (by refine Below.on ?_ hb3 (by simp only [World.size_alloc]; omega); repeat' (first | (with_reducible exact Below.refl _ _) | (with_reducible assumption) | (with_reducible refine Ext.below _ ?_ ?_) | (with_reducible refine Below.on ?_ (by with_reducible assumption) ?_) | (with_reducible refine Below.alloc ?_ ?_ _) | (with_reducible refine Below.drew ?_) | (with_reducible refine Below.setCell ?_ ?_ _) | (with_reducible exact Nat.le_refl _) | omega | (simp; done) | (simp [go_sem]; done) | (simp at *; omega))); have hbs3 := hb3.size; simp only [World.size_alloc] at hbs3; obtain ⟨g, c, p0, c0, rfl, hgs, q0, hL⟩ := one_looks how hin; have u0 : W3.cell? ⟨w.heap.size + 1, 0, none⟩ = some (.int .i64 t) := ((hb3.cell (p := ⟨w.heap.size + 1, 0, none⟩) (by simp only [World.size_alloc]; omega)).trans (by simp [go_sem])); have u9 : w.heap.size ≤ W3.heap.size := hbw3.size; have u1 : w.heap.size + 1 < W3.heap.size := (by omega); have u2 : w.heap.size + 1 < W3.heap.size + 1 := (by omega); have u3 : w.heap.size + 1 ≠ W3.heap.size := (by omega); clear cl htr how hin))
      go_returns
      refine ⟨?_, _, rfl, World.ownsRow_nil _ _ _ _⟩
      repeat' (first | (with_reducible exact Below.refl _ _) | (with_reducible assumption) | (with_reducible refine Ext.below _ ?_ ?_) | (with_reducible refine Below.on ?_ (by with_reducible assumption) ?_) | (with_reducible refine Below.alloc ?_ ?_ _) | (with_reducible refine Below.drew ?_) | (with_reducible refine Below.setCell ?_ ?_ _) | (with_reducible exact Nat.le_refl _) | omega | (simp; done) | (simp [go_sem]; done) | (simp at *; omega))
    rw [if_pos hge] at hV
    rw [hge] at cg'
    obtain ⟨gn, gt', gf⟩ := guessesE_zero hge
    clear hge
    by_cases hz : gs.length = 0
    · rw [if_pos hz] at hV
      subst hV
      rw [hz] at cg' ⊢
      go_enter Try.func13, Try.ntmps13
      go_wp2_with (first | ((first | with_reducible refine wp_region_ext2 (by kernel_rfl) (by kernel_rfl) ?_ | with_reducible refine wp_region_ext (by kernel_rfl) (by kernel_rfl) ?_); (repeat (first | go_big_quiet_step ((first | (go_at_call 26; with_reducible exact Calls.ext (cg' _ (by repeat' (first | (with_reducible exact Below.refl _ _) | (with_reducible assumption) | (with_reducible refine Ext.below _ ?_ ?_) | (with_reducible refine Below.on ?_ (by with_reducible assumption) ?_) | (with_reducible refine Below.alloc ?_ ?_ _) | (with_reducible refine Below.drew ?_) | (with_reducible refine Below.setCell ?_ ?_ _) | (with_reducible exact Nat.le_refl _) | omega | (simp; done) | (simp [go_sem]; done) | (simp at *; omega))))))) | quiet_step ((first | (go_at_call 26; with_reducible exact Calls.ext (cg' _ (by repeat' (first | (with_reducible exact Below.refl _ _) | (with_reducible assumption) | (with_reducible refine Ext.below _ ?_ ?_) | (with_reducible refine Below.on ?_ (by with_reducible assumption) ?_) | (with_reducible refine Below.alloc ?_ ?_ _) | (with_reducible refine Below.drew ?_) | (with_reducible refine Below.setCell ?_ ?_ _) | (with_reducible exact Nat.le_refl _) | omega | (simp; done) | (simp [go_sem]; done) | (simp at *; omega))))))))); refine wpQuiet_nil ?_; rintro _ ⟨yr, rfl⟩; have syr := Ext.size yr; (repeat (first | rw [World.size_alloc] at syr | rw [World.size_setCell] at syr | rw [World.size_drew] at syr))) | (go_at_call 26; (first | with_reducible refine (Calls.giv2 (cg' _ (by repeat' (first | (with_reducible exact Below.refl _ _) | (with_reducible assumption) | (with_reducible refine Ext.below _ ?_ ?_) | (with_reducible refine Below.on ?_ (by with_reducible assumption) ?_) | (with_reducible refine Below.alloc ?_ ?_ _) | (with_reducible refine Below.drew ?_) | (with_reducible refine Below.setCell ?_ ?_ _) | (with_reducible exact Nat.le_refl _) | omega | (simp; done) | (simp [go_sem]; done) | (simp at *; omega))))).mono ?_ | with_reducible refine (Calls.giv (cg' _ (by repeat' (first | (with_reducible exact Below.refl _ _) | (with_reducible assumption) | (with_reducible refine Ext.below _ ?_ ?_) | (with_reducible refine Below.on ?_ (by with_reducible assumption) ?_) | (with_reducible refine Below.alloc ?_ ?_ _) | (with_reducible refine Below.drew ?_) | (with_reducible refine Below.setCell ?_ ?_ _) | (with_reducible exact Nat.le_refl _) | omega | (simp; done) | (simp [go_sem]; done) | (simp at *; omega))))).mono ?_); rintro _ _ ⟨y1, rfl, rfl⟩; have sy1 := Ext.size y1; (repeat (first | rw [World.size_alloc] at sy1 | rw [World.size_setCell] at sy1 | rw [World.size_drew] at sy1))) | (go_at_call 25; refine (cl _ (by repeat' (first | (with_reducible exact Below.refl _ _) | (with_reducible assumption) | (with_reducible refine Ext.below _ ?_ ?_) | (with_reducible refine Below.on ?_ (by with_reducible assumption) ?_) | (with_reducible refine Below.alloc ?_ ?_ _) | (with_reducible refine Below.drew ?_) | (with_reducible refine Below.setCell ?_ ?_ _) | (with_reducible exact Nat.le_refl _) | omega | (simp; done) | (simp [go_sem]; done) | (simp at *; omega))) _ (htr.out _ _ (by repeat' (first | (with_reducible exact Below.refl _ _) | (with_reducible assumption) | (with_reducible refine Ext.below _ ?_ ?_) | (with_reducible refine Below.on ?_ (by with_reducible assumption) ?_) | (with_reducible refine Below.alloc ?_ ?_ _) | (with_reducible refine Below.drew ?_) | (with_reducible refine Below.setCell ?_ ?_ _) | (with_reducible exact Nat.le_refl _) | omega | (simp; done) | (simp [go_sem]; done) | (simp at *; omega))) (by simp) (by simp [go_sem]))).mono ?_; rintro _ W3 ⟨hb3, v3, vs, rfl, how, hin⟩; have hbw3 : Below w.heap.size w W3 := (by refine Below.on ?_ hb3 (by simp only [World.size_alloc]; omega); repeat' (first | (with_reducible exact Below.refl _ _) | (with_reducible assumption) | (with_reducible refine Ext.below _ ?_ ?_) | (with_reducible refine Below.on ?_ (by with_reducible assumption) ?_) | (with_reducible refine Below.alloc ?_ ?_ _) | (with_reducible refine Below.drew ?_) | (with_reducible refine Below.setCell ?_ ?_ _) | (with_reducible exact Nat.le_refl _) | omega | (simp; done) | (simp [go_sem]; done) | (simp at *; omega))); have hbs3 := hb3.size; simp only [World.size_alloc] at hbs3; obtain ⟨g, c, p0, c0, rfl, hgs, q0, hL⟩ := one_looks how hin; have u0 : W3.cell? ⟨w.heap.size + 1, 0, none⟩ = some (.int .i64 t) := ((hb3.cell (p := ⟨w.heap.size + 1, 0, none⟩) (by simp only [World.size_alloc]; omega)).trans (by simp [go_sem])); have u9 : w.heap.size ≤ W3.heap.size := hbw3.size; have u1 : w.heap.size + 1 < W3.heap.size := (by omega); have u2 : w.heap.size + 1 < W3.heap.size + 1 := (by omega); have u3 : w.heap.size + 1 ≠ W3.heap.size := (by omega); clear cl htr how hin))
      go_returns
      refine ⟨?_, _, rfl, World.ownsRow_nil _ _ _ _⟩
      repeat' (first | (with_reducible exact Below.refl _ _) | (with_reducible assumption) | (with_reducible refine Ext.below _ ?_ ?_) | (with_reducible refine Below.on ?_ (by with_reducible assumption) ?_) | (with_reducible refine Below.alloc ?_ ?_ _) | (with_reducible refine Below.drew ?_) | (with_reducible refine Below.setCell ?_ ?_ _) | (with_reducible exact Nat.le_refl _) | omega | (simp; done) | (simp [go_sem]; done) | (simp at *; omega))
    rw [if_neg hz] at hV
    have hz0 : ¬ ((gs.length : Int) = 0) := by omega
    have hFit : ∀ j (h : j < x.length), x[j].Fit := fun j h => fx _ (List.getElem_mem h)
    have hgb : ∀ g ∈ gs, guessB g = true := fun q hq => by
      obtain ⟨j, hj, rfl⟩ := List.getElem_of_mem hq
      exact gf j hj
    have cb := Go.Lib.hid (fun (W : World) (y : Below w.heap.size w W) (LB TB : Nat) (h : BelAt W LB TB x t) => leastOf_any pg cg gs t LB TB x W (hg.out.on y) hgb gn gt' (by omega) h hFit)
    obtain ⟨I, hI⟩ : ∃ I, leastI (fun g => ((missL g t x).length : Int)) 0 0 0 gs = I := ⟨_, rfl⟩
    rw [hI] at hV
    simp only [hI] at cb
    have hI2 := leastI_in (fun g => ((missL g t x).length : Int)) gs 0 0 0
    rw [hI] at hI2
    have hI3 : 0 ≤ I ∧ I < gs.length := by omega
    obtain ⟨n, rfl⟩ := Int.eq_ofNat_of_zero_le hI3.1
    have hn : n < gs.length := by omega
    have hn2 : (n : Int) < (gs.length : Int) := by omega
    clear hI hI2 hI3
    have eg : gs.getD (n : Int).toNat ⟨0, 0, 0, 0⟩ = gs[n] := by simp [hn]
    rw [eg] at hV
    have cm := Go.Lib.hid (fun (W : World) (p : Option Addr) (c : Nat) (h : LooksAt W p x) => misses_any gs[n] t p c x W (gf n hn) gt' (by omega) h hFit)
    clear eg hFit hgb gf fx hx gn gt'
    subst hV
    go_enter Try.func13, Try.ntmps13
    go_wp2_with (first | ((first | with_reducible refine wp_region_ext2 (by kernel_rfl) (by kernel_rfl) ?_ | with_reducible refine wp_region_ext (by kernel_rfl) (by kernel_rfl) ?_); (repeat (first | go_big_quiet_step ((first | (go_at_call 26; with_reducible exact Calls.ext (cg' _ (by repeat' (first | (with_reducible exact Below.refl _ _) | (with_reducible assumption) | (with_reducible refine Ext.below _ ?_ ?_) | (with_reducible refine Below.on ?_ (by with_reducible assumption) ?_) | (with_reducible refine Below.alloc ?_ ?_ _) | (with_reducible refine Below.drew ?_) | (with_reducible refine Below.setCell ?_ ?_ _) | (with_reducible exact Nat.le_refl _) | omega | (simp; done) | (simp [go_sem]; done) | (simp at *; omega))))))) | quiet_step ((first | (go_at_call 26; with_reducible exact Calls.ext (cg' _ (by repeat' (first | (with_reducible exact Below.refl _ _) | (with_reducible assumption) | (with_reducible refine Ext.below _ ?_ ?_) | (with_reducible refine Below.on ?_ (by with_reducible assumption) ?_) | (with_reducible refine Below.alloc ?_ ?_ _) | (with_reducible refine Below.drew ?_) | (with_reducible refine Below.setCell ?_ ?_ _) | (with_reducible exact Nat.le_refl _) | omega | (simp; done) | (simp [go_sem]; done) | (simp at *; omega))))))))); refine wpQuiet_nil ?_; rintro _ ⟨yr, rfl⟩; have syr := Ext.size yr; (repeat (first | rw [World.size_alloc] at syr | rw [World.size_setCell] at syr | rw [World.size_drew] at syr))) | (go_at_call 26; (first | with_reducible refine (Calls.giv2 (cg' _ (by repeat' (first | (with_reducible exact Below.refl _ _) | (with_reducible assumption) | (with_reducible refine Ext.below _ ?_ ?_) | (with_reducible refine Below.on ?_ (by with_reducible assumption) ?_) | (with_reducible refine Below.alloc ?_ ?_ _) | (with_reducible refine Below.drew ?_) | (with_reducible refine Below.setCell ?_ ?_ _) | (with_reducible exact Nat.le_refl _) | omega | (simp; done) | (simp [go_sem]; done) | (simp at *; omega))))).mono ?_ | with_reducible refine (Calls.giv (cg' _ (by repeat' (first | (with_reducible exact Below.refl _ _) | (with_reducible assumption) | (with_reducible refine Ext.below _ ?_ ?_) | (with_reducible refine Below.on ?_ (by with_reducible assumption) ?_) | (with_reducible refine Below.alloc ?_ ?_ _) | (with_reducible refine Below.drew ?_) | (with_reducible refine Below.setCell ?_ ?_ _) | (with_reducible exact Nat.le_refl _) | omega | (simp; done) | (simp [go_sem]; done) | (simp at *; omega))))).mono ?_); rintro _ _ ⟨y1, rfl, rfl⟩; have sy1 := Ext.size y1; (repeat (first | rw [World.size_alloc] at sy1 | rw [World.size_setCell] at sy1 | rw [World.size_drew] at sy1))) | (go_at_call 25; refine (cl _ (by repeat' (first | (with_reducible exact Below.refl _ _) | (with_reducible assumption) | (with_reducible refine Ext.below _ ?_ ?_) | (with_reducible refine Below.on ?_ (by with_reducible assumption) ?_) | (with_reducible refine Below.alloc ?_ ?_ _) | (with_reducible refine Below.drew ?_) | (with_reducible refine Below.setCell ?_ ?_ _) | (with_reducible exact Nat.le_refl _) | omega | (simp; done) | (simp [go_sem]; done) | (simp at *; omega))) _ (htr.out _ _ (by repeat' (first | (with_reducible exact Below.refl _ _) | (with_reducible assumption) | (with_reducible refine Ext.below _ ?_ ?_) | (with_reducible refine Below.on ?_ (by with_reducible assumption) ?_) | (with_reducible refine Below.alloc ?_ ?_ _) | (with_reducible refine Below.drew ?_) | (with_reducible refine Below.setCell ?_ ?_ _) | (with_reducible exact Nat.le_refl _) | omega | (simp; done) | (simp [go_sem]; done) | (simp at *; omega))) (by simp) (by simp [go_sem]))).mono ?_; rintro _ W3 ⟨hb3, v3, vs, rfl, how, hin⟩; have hbw3 : Below w.heap.size w W3 := (by refine Below.on ?_ hb3 (by simp only [World.size_alloc]; omega); repeat' (first | (with_reducible exact Below.refl _ _) | (with_reducible assumption) | (with_reducible refine Ext.below _ ?_ ?_) | (with_reducible refine Below.on ?_ (by with_reducible assumption) ?_) | (with_reducible refine Below.alloc ?_ ?_ _) | (with_reducible refine Below.drew ?_) | (with_reducible refine Below.setCell ?_ ?_ _) | (with_reducible exact Nat.le_refl _) | omega | (simp; done) | (simp [go_sem]; done) | (simp at *; omega))); have hbs3 := hb3.size; simp only [World.size_alloc] at hbs3; obtain ⟨g, c, p0, c0, rfl, hgs, q0, hL⟩ := one_looks how hin; have u0 : W3.cell? ⟨w.heap.size + 1, 0, none⟩ = some (.int .i64 t) := ((hb3.cell (p := ⟨w.heap.size + 1, 0, none⟩) (by simp only [World.size_alloc]; omega)).trans (by simp [go_sem])); have u9 : w.heap.size ≤ W3.heap.size := hbw3.size; have u1 : w.heap.size + 1 < W3.heap.size := (by omega); have u2 : w.heap.size + 1 < W3.heap.size + 1 := (by omega); have u3 : w.heap.size + 1 ≠ W3.heap.size := (by omega); clear cl htr how hin) | (go_at_call 34; have hBel : BelAt y1.now W3.heap.size (w.heap.size + 1) x t := (BelAt.ext (⟨⟨g, 0, 1, c, p0, c0, by simp [go_sem], by omega, by simp only [World.size_alloc]; omega, (((Below.refl _ W3).alloc (Nat.le_refl _) _).cell (p := ⟨g, 0, none⟩) hgs).trans q0, hL.on ((Below.refl _ W3).alloc (Nat.le_refl _) _)⟩, by simp, by simp only [World.size_alloc]; omega, (((Below.refl _ W3).alloc (Nat.le_refl _) _).cell (p := ⟨w.heap.size + 1, 0, none⟩) u1).trans u0⟩) y1); with_reducible refine (Calls.giv (cb.out _ (by repeat' (first | (with_reducible exact Below.refl _ _) | (with_reducible assumption) | (with_reducible refine Ext.below _ ?_ ?_) | (with_reducible refine Below.on ?_ (by with_reducible assumption) ?_) | (with_reducible refine Below.alloc ?_ ?_ _) | (with_reducible refine Below.drew ?_) | (with_reducible refine Below.setCell ?_ ?_ _) | (with_reducible exact Nat.le_refl _) | omega | (simp; done) | (simp [go_sem]; done) | (simp at *; omega))) _ _ hBel)).mono ?_; rintro _ _ ⟨y2, rfl, rfl⟩; have sy2 := y2.size; have hB5 : Below w.heap.size w y2.now := (by repeat' (first | (with_reducible exact Below.refl _ _) | (with_reducible assumption) | (with_reducible refine Ext.below _ ?_ ?_) | (with_reducible refine Below.on ?_ (by with_reducible assumption) ?_) | (with_reducible refine Below.alloc ?_ ?_ _) | (with_reducible refine Below.drew ?_) | (with_reducible refine Below.setCell ?_ ?_ _) | (with_reducible exact Nat.le_refl _) | omega | (simp; done) | (simp [go_sem]; done) | (simp at *; omega))); have hBel5 := hBel.ext y2; clear hBel cb))
    have hP5 := hg.out.on hB5
    generalize y2.now = W5 at *
    clear y2
    clear u0 u1 u2 u3 u9 hL hgs q0 hb3 hbw3 hbs3 sy1 sy2 y1
    have hw5 := hB5.size
    generalize W3.heap.size = LB at *
    obtain ⟨⟨g1, o1, n1', c1', pk, ck, h1, h2, h3, h4, h5⟩, hl, htb, h6⟩ := hBel5
    obtain ⟨B, o, rfl, hB, r1, r2, r3, r4⟩ := hP5 n hn
    have h2i : (0 : Int) < (n1' : Int) := by omega
    have hn0 : (0 : Int) ≤ (n : Int) := by omega
    generalize gs[n].x = g1' at *
    generalize gs[n].y = g2' at *
    generalize gs[n].u = g3' at *
    generalize gs[n].v = g4' at *
    go_region_law (first
      | (go_simp; go_at_call 27; go_loud (refine (cm.out _ pk ck (h5.on (Below.refl _ _).drew)).mono ?_; rintro _ W6 ⟨hb6, v6, rfl, how6⟩; have hbw6 : Below w.heap.size w W6 := (hB5.drew).trans (hb6.mono hw5); have how6 := Go.Lib.hid (owns_base how6 hw5))))
    all_goals
      go_wp2_with (first | ((first | with_reducible refine wp_region_ext2 (by kernel_rfl) (by kernel_rfl) ?_ | with_reducible refine wp_region_ext (by kernel_rfl) (by kernel_rfl) ?_); (repeat (first | go_big_quiet_step ((first | fail)) | quiet_step ((first | fail)))); refine wpQuiet_nil ?_; rintro _ ⟨yr, rfl⟩; have syr := Ext.size yr; (repeat (first | rw [World.size_alloc] at syr | rw [World.size_setCell] at syr | rw [World.size_drew] at syr))))
      go_returns
      exact ⟨hbw6, _, rfl, how6.out⟩
end Go.Proofs.Ytgoilmiiegpnoaa
namespace Go.Proofs.Ytgoilmiiegpnoaa
open Go.RowKit Go.Shelf
attribute [local go_sem] Option.isSome_some Ext.cell Ext.frozen Ext.lt Ext.le Ext.lt_add Ext.le_add Ext.ne Ext.ne' lt2 lt3 lt4 lt5 le2 le3 le4
/-- What the reference says of the best guess. -/
def refB {α : Type} (N : α → List Int) : Int → List Int → Nat → List α → Int × List Int
  | b, wr, _, [] => (b, wr)
  | b, wr, i, g :: gs => if b < 0 ∨ (N g).length < wr.length then refB N i (N g) (i + 1) gs else refB N b wr (i + 1) gs
theorem refB_least {α : Type} (N : α → List Int) (gs : List α) (d : α) : ∀ (m i b : Nat), i + m = gs.length → 1 ≤ i → (hb : b < gs.length) → refB N b (N gs[b]) i (gs.drop i) = (leastI (fun g => ((N g).length : Int)) ((N gs[b]).length : Int) b i (gs.drop i), N (gs.getD (leastI (fun g => ((N g).length : Int)) ((N gs[b]).length : Int) b i (gs.drop i)).toNat d)) := by
  intro m
  induction m with
  | zero =>
    intro i b hi h1 hb
    rw [drop_end (by omega), refB, leastI]
    simp [hb]
  | succ m ih =>
    intro i b hi h1 hb
    have hlt : i < gs.length := by omega
    rw [drop_at hlt, refB, leastI]
    by_cases hc : (N gs[i]).length < (N gs[b]).length
    · rw [if_pos (.inr hc), if_pos (.inr (by omega))]
      exact ih (i + 1) i (by omega) (by omega) hlt
    · rw [if_neg (by omega), if_neg (by omega)]
      exact ih (i + 1) b (by omega) (by omega) hb
theorem refB_eq {α : Type} (N : α → List Int) (gs : List α) (d : α) (h : gs.length ≠ 0) : refB N (-1) [] 0 gs = (leastI (fun g => ((N g).length : Int)) 0 0 0 gs, N (gs.getD (leastI (fun g => ((N g).length : Int)) 0 0 0 gs).toNat d)) := by
  have h0 : gs = gs[0] :: gs.drop 1 := by rw [← drop_at (by omega)]; simp
  have e1 : refB N (-1) [] 0 gs = refB N ((0 : Nat) : Int) (N gs[0]) 1 (gs.drop 1) := by
    conv => lhs; rw [h0]
    rw [refB, if_pos (.inl (by omega))]
  have e2 : leastI (fun g => ((N g).length : Int)) 0 0 0 gs = leastI (fun g => ((N g).length : Int)) ((N gs[0]).length : Int) ((0 : Nat) : Int) 1 (gs.drop 1) := by
    conv => lhs; rw [h0]
    rw [leastI, if_pos (.inl rfl)]
  rw [e1, e2]
  exact refB_least N gs d (gs.length - 1) 1 0 (by omega) (by omega) (by omega)
theorem trackE_looks {s : SkyR} {a : List SightR} (h : trackE s a = 0) : ∃ ks, looksR s a = .ok ks := by
  obtain ⟨hE, -, -, -⟩ := trackE_zero h
  unfold trackE at h
  rw [if_pos hE] at h
  cases hr : looksR s a with
  | ok ks => exact ⟨ks, rfl⟩
  | error e => rw [hr] at h; exact absurd h (looksR_err hr)
theorem believeR_err {s : SkyR} {a : List SightR} {gs : List StateR} {t : Int} (h : ¬ trackE s a = 0) : believeR s a gs t = ⟨0, [], trackE s a⟩ := by
  unfold believeR allR
  unfold trackE at h ⊢
  by_cases hE : skyE s = 0
  · simp only [if_pos hE] at h ⊢
    rw [allA]
    cases hr : looksR s a with
    | ok ks => rw [hr] at h; exact absurd rfl h
    | error e => rfl
  · simp only [if_neg hE] at h ⊢
theorem believeR_ok {s : SkyR} {a : List SightR} {gs : List StateR} {t : Int} {ks : List LookR} (h : trackE s a = 0) (hk : looksR s a = .ok ks) : believeR s a gs t = if guessesE gs t = 0 then (if gs.length = 0 then ⟨0, [], 7⟩ else ⟨(refB (fun g => missL g t ks) (-1) [] 0 gs).1, (refB (fun g => missL g t ks) (-1) [] 0 gs).2, 0⟩) else ⟨0, [], guessesE gs t⟩ := by
  obtain ⟨hE, -, -, -⟩ := trackE_zero h
  unfold believeR allR
  rw [if_pos hE, allA, hk]
  simp only [allA, List.nil_append]
  by_cases hg : guessesE gs t = 0
  · rw [if_pos hg, if_pos hg]
    by_cases hz : gs.length = 0
    · rw [if_pos hz, if_pos hz]
    · rw [if_neg hz, if_neg hz, refB_eq (fun g => missL g t ks) gs ⟨0, 0, 0, 0⟩ hz]
  · rw [if_neg hg, if_neg hg]
set_option maxRecDepth 100000 in
set_option maxHeartbeats 16000000 in
theorem refBelieve_any (s : SkyR) (pa pg : Option Addr) (ca cg : Nat) (a : List SightR) (gs : List StateR) (t : Int) (w : World) (hA : s.At w) (ha : SightsAt w pa a) (hg : StatesAt w pg gs) :
    Calls Try.prog 17 #[s.val, .slice pa a.length ca, .slice pg gs.length cg, .int .i64 t] w (LinkPost w (believeR s a gs t)) := by
  have c1 := fun (W : World) (y : Below w.heap.size w W) => refCheckTracklet_any s pa ca a W (hA.on y) (ha.on y)
  have c3 := fun (W : World) (y : Below w.heap.size w W) => refAsked_any pg cg gs t W (hg.on y)
  obtain ⟨V, hV⟩ : ∃ V, believeR s a gs t = V := ⟨_, rfl⟩
  rw [hV]
  by_cases e1 : trackE s a = 0
  case neg =>
    rw [believeR_err e1] at hV
    subst hV
    clear hA ha hg
    unfold SkyR.val at *
    generalize s.cats.length = n1 at *; generalize s.cp = n2 at *; generalize s.cc = n3 at *; generalize s.bodies.length = n4 at *; generalize s.bp = n5 at *; generalize s.bc = n6 at *; generalize s.sts.length = n7 at *; generalize s.sp = n8 at *; generalize s.sc = n9 at *; generalize s.home = n0 at *
    generalize a.length = la at *
    generalize trackE s a = ea at *
    go_enter Try.func17, Try.ntmps17
    go_wp2_with (first | ((first | with_reducible refine wp_region_ext2 (by kernel_rfl) (by kernel_rfl) ?_ | with_reducible refine wp_region_ext (by kernel_rfl) (by kernel_rfl) ?_); (repeat (first | go_big_quiet_step ((first | (go_at_call 38; with_reducible exact Calls.ext (c1 _ (by repeat' (first | (with_reducible exact Below.refl _ _) | (with_reducible assumption) | (with_reducible refine Ext.below _ ?_ ?_) | (with_reducible refine Below.on ?_ (by with_reducible assumption) ?_) | (with_reducible refine Below.alloc ?_ ?_ _) | (with_reducible refine Below.drew ?_) | (with_reducible refine Below.setCell ?_ ?_ _) | (with_reducible exact Nat.le_refl _) | omega | (simp; done) | (simp [go_sem]; done) | (simp at *; omega))))) | (go_at_call 39; with_reducible exact Calls.ext (c3 _ (by repeat' (first | (with_reducible exact Below.refl _ _) | (with_reducible assumption) | (with_reducible refine Ext.below _ ?_ ?_) | (with_reducible refine Below.on ?_ (by with_reducible assumption) ?_) | (with_reducible refine Below.alloc ?_ ?_ _) | (with_reducible refine Below.drew ?_) | (with_reducible refine Below.setCell ?_ ?_ _) | (with_reducible exact Nat.le_refl _) | omega | (simp; done) | (simp [go_sem]; done) | (simp at *; omega))))))) | quiet_step ((first | (go_at_call 38; with_reducible exact Calls.ext (c1 _ (by repeat' (first | (with_reducible exact Below.refl _ _) | (with_reducible assumption) | (with_reducible refine Ext.below _ ?_ ?_) | (with_reducible refine Below.on ?_ (by with_reducible assumption) ?_) | (with_reducible refine Below.alloc ?_ ?_ _) | (with_reducible refine Below.drew ?_) | (with_reducible refine Below.setCell ?_ ?_ _) | (with_reducible exact Nat.le_refl _) | omega | (simp; done) | (simp [go_sem]; done) | (simp at *; omega))))) | (go_at_call 39; with_reducible exact Calls.ext (c3 _ (by repeat' (first | (with_reducible exact Below.refl _ _) | (with_reducible assumption) | (with_reducible refine Ext.below _ ?_ ?_) | (with_reducible refine Below.on ?_ (by with_reducible assumption) ?_) | (with_reducible refine Below.alloc ?_ ?_ _) | (with_reducible refine Below.drew ?_) | (with_reducible refine Below.setCell ?_ ?_ _) | (with_reducible exact Nat.le_refl _) | omega | (simp; done) | (simp [go_sem]; done) | (simp at *; omega))))))))); refine wpQuiet_nil ?_; rintro _ ⟨yr, rfl⟩; have syr := Ext.size yr; (repeat (first | rw [World.size_alloc] at syr | rw [World.size_setCell] at syr | rw [World.size_drew] at syr)); have : w.heap.size < yr.now.heap.size := (by omega); have : w.heap.size ≤ yr.now.heap.size := (by omega); have : w.heap.size < yr.now.heap.size + 1 + 1 := (by omega)) | (go_at_call 38; (first | with_reducible refine (Calls.giv2 (c1 _ (by repeat' (first | (with_reducible exact Below.refl _ _) | (with_reducible assumption) | (with_reducible refine Ext.below _ ?_ ?_) | (with_reducible refine Below.on ?_ (by with_reducible assumption) ?_) | (with_reducible refine Below.alloc ?_ ?_ _) | (with_reducible refine Below.drew ?_) | (with_reducible refine Below.setCell ?_ ?_ _) | (with_reducible exact Nat.le_refl _) | omega | (simp; done) | (simp [go_sem]; done) | (simp at *; omega))))).mono ?_ | with_reducible refine (Calls.giv (c1 _ (by repeat' (first | (with_reducible exact Below.refl _ _) | (with_reducible assumption) | (with_reducible refine Ext.below _ ?_ ?_) | (with_reducible refine Below.on ?_ (by with_reducible assumption) ?_) | (with_reducible refine Below.alloc ?_ ?_ _) | (with_reducible refine Below.drew ?_) | (with_reducible refine Below.setCell ?_ ?_ _) | (with_reducible exact Nat.le_refl _) | omega | (simp; done) | (simp [go_sem]; done) | (simp at *; omega))))).mono ?_); rintro _ _ ⟨y1, rfl, rfl⟩; have sy1 := Ext.size y1; (repeat (first | rw [World.size_alloc] at sy1 | rw [World.size_setCell] at sy1 | rw [World.size_drew] at sy1)); have : w.heap.size < y1.now.heap.size := (by omega); have : w.heap.size ≤ y1.now.heap.size := (by omega); have : w.heap.size < y1.now.heap.size + 1 + 1 := (by omega)) | (go_at_call 39; (first | with_reducible refine (Calls.giv2 (c3 _ (by repeat' (first | (with_reducible exact Below.refl _ _) | (with_reducible assumption) | (with_reducible refine Ext.below _ ?_ ?_) | (with_reducible refine Below.on ?_ (by with_reducible assumption) ?_) | (with_reducible refine Below.alloc ?_ ?_ _) | (with_reducible refine Below.drew ?_) | (with_reducible refine Below.setCell ?_ ?_ _) | (with_reducible exact Nat.le_refl _) | omega | (simp; done) | (simp [go_sem]; done) | (simp at *; omega))))).mono ?_ | with_reducible refine (Calls.giv (c3 _ (by repeat' (first | (with_reducible exact Below.refl _ _) | (with_reducible assumption) | (with_reducible refine Ext.below _ ?_ ?_) | (with_reducible refine Below.on ?_ (by with_reducible assumption) ?_) | (with_reducible refine Below.alloc ?_ ?_ _) | (with_reducible refine Below.drew ?_) | (with_reducible refine Below.setCell ?_ ?_ _) | (with_reducible exact Nat.le_refl _) | omega | (simp; done) | (simp [go_sem]; done) | (simp at *; omega))))).mono ?_); rintro _ _ ⟨y2, rfl, rfl⟩; have sy2 := Ext.size y2; (repeat (first | rw [World.size_alloc] at sy2 | rw [World.size_setCell] at sy2 | rw [World.size_drew] at sy2)); have : w.heap.size < y2.now.heap.size := (by omega); have : w.heap.size ≤ y2.now.heap.size := (by omega); have : w.heap.size < y2.now.heap.size + 1 + 1 := (by omega)))
    go_returns
    refine ⟨?_, _, rfl, World.ownsRow_nil _ _ _ _⟩
    repeat' (first | (with_reducible exact Below.refl _ _) | (with_reducible assumption) | (with_reducible refine Ext.below _ ?_ ?_) | (with_reducible refine Below.on ?_ (by with_reducible assumption) ?_) | (with_reducible refine Below.alloc ?_ ?_ _) | (with_reducible refine Below.drew ?_) | (with_reducible refine Below.setCell ?_ ?_ _) | (with_reducible exact Nat.le_refl _) | omega | (simp; done) | (simp [go_sem]; done) | (simp at *; omega))
  obtain ⟨ks, hk⟩ := trackE_looks e1
  obtain ⟨hE, na1, na2, va⟩ := trackE_zero e1
  have hlk := looksR_looked hk
  rw [believeR_ok e1 hk] at hV
  by_cases e3 : guessesE gs t = 0
  case neg =>
    rw [if_neg e3] at hV
    subst hV
    rw [e1] at c1
    clear hA ha hg e1 hlk va hk
    unfold SkyR.val at *
    generalize s.cats.length = n1 at *; generalize s.cp = n2 at *; generalize s.cc = n3 at *; generalize s.bodies.length = n4 at *; generalize s.bp = n5 at *; generalize s.bc = n6 at *; generalize s.sts.length = n7 at *; generalize s.sp = n8 at *; generalize s.sc = n9 at *; generalize s.home = n0 at *
    generalize a.length = la at *
    generalize guessesE gs t = ea at *
    go_enter Try.func17, Try.ntmps17
    go_wp2_with (first | ((first | with_reducible refine wp_region_ext2 (by kernel_rfl) (by kernel_rfl) ?_ | with_reducible refine wp_region_ext (by kernel_rfl) (by kernel_rfl) ?_); (repeat (first | go_big_quiet_step ((first | (go_at_call 38; with_reducible exact Calls.ext (c1 _ (by repeat' (first | (with_reducible exact Below.refl _ _) | (with_reducible assumption) | (with_reducible refine Ext.below _ ?_ ?_) | (with_reducible refine Below.on ?_ (by with_reducible assumption) ?_) | (with_reducible refine Below.alloc ?_ ?_ _) | (with_reducible refine Below.drew ?_) | (with_reducible refine Below.setCell ?_ ?_ _) | (with_reducible exact Nat.le_refl _) | omega | (simp; done) | (simp [go_sem]; done) | (simp at *; omega))))) | (go_at_call 39; with_reducible exact Calls.ext (c3 _ (by repeat' (first | (with_reducible exact Below.refl _ _) | (with_reducible assumption) | (with_reducible refine Ext.below _ ?_ ?_) | (with_reducible refine Below.on ?_ (by with_reducible assumption) ?_) | (with_reducible refine Below.alloc ?_ ?_ _) | (with_reducible refine Below.drew ?_) | (with_reducible refine Below.setCell ?_ ?_ _) | (with_reducible exact Nat.le_refl _) | omega | (simp; done) | (simp [go_sem]; done) | (simp at *; omega))))))) | quiet_step ((first | (go_at_call 38; with_reducible exact Calls.ext (c1 _ (by repeat' (first | (with_reducible exact Below.refl _ _) | (with_reducible assumption) | (with_reducible refine Ext.below _ ?_ ?_) | (with_reducible refine Below.on ?_ (by with_reducible assumption) ?_) | (with_reducible refine Below.alloc ?_ ?_ _) | (with_reducible refine Below.drew ?_) | (with_reducible refine Below.setCell ?_ ?_ _) | (with_reducible exact Nat.le_refl _) | omega | (simp; done) | (simp [go_sem]; done) | (simp at *; omega))))) | (go_at_call 39; with_reducible exact Calls.ext (c3 _ (by repeat' (first | (with_reducible exact Below.refl _ _) | (with_reducible assumption) | (with_reducible refine Ext.below _ ?_ ?_) | (with_reducible refine Below.on ?_ (by with_reducible assumption) ?_) | (with_reducible refine Below.alloc ?_ ?_ _) | (with_reducible refine Below.drew ?_) | (with_reducible refine Below.setCell ?_ ?_ _) | (with_reducible exact Nat.le_refl _) | omega | (simp; done) | (simp [go_sem]; done) | (simp at *; omega))))))))); refine wpQuiet_nil ?_; rintro _ ⟨yr, rfl⟩; have syr := Ext.size yr; (repeat (first | rw [World.size_alloc] at syr | rw [World.size_setCell] at syr | rw [World.size_drew] at syr)); have : w.heap.size < yr.now.heap.size := (by omega); have : w.heap.size ≤ yr.now.heap.size := (by omega); have : w.heap.size < yr.now.heap.size + 1 + 1 := (by omega)) | (go_at_call 38; (first | with_reducible refine (Calls.giv2 (c1 _ (by repeat' (first | (with_reducible exact Below.refl _ _) | (with_reducible assumption) | (with_reducible refine Ext.below _ ?_ ?_) | (with_reducible refine Below.on ?_ (by with_reducible assumption) ?_) | (with_reducible refine Below.alloc ?_ ?_ _) | (with_reducible refine Below.drew ?_) | (with_reducible refine Below.setCell ?_ ?_ _) | (with_reducible exact Nat.le_refl _) | omega | (simp; done) | (simp [go_sem]; done) | (simp at *; omega))))).mono ?_ | with_reducible refine (Calls.giv (c1 _ (by repeat' (first | (with_reducible exact Below.refl _ _) | (with_reducible assumption) | (with_reducible refine Ext.below _ ?_ ?_) | (with_reducible refine Below.on ?_ (by with_reducible assumption) ?_) | (with_reducible refine Below.alloc ?_ ?_ _) | (with_reducible refine Below.drew ?_) | (with_reducible refine Below.setCell ?_ ?_ _) | (with_reducible exact Nat.le_refl _) | omega | (simp; done) | (simp [go_sem]; done) | (simp at *; omega))))).mono ?_); rintro _ _ ⟨y1, rfl, rfl⟩; have sy1 := Ext.size y1; (repeat (first | rw [World.size_alloc] at sy1 | rw [World.size_setCell] at sy1 | rw [World.size_drew] at sy1)); have : w.heap.size < y1.now.heap.size := (by omega); have : w.heap.size ≤ y1.now.heap.size := (by omega); have : w.heap.size < y1.now.heap.size + 1 + 1 := (by omega)) | (go_at_call 39; (first | with_reducible refine (Calls.giv2 (c3 _ (by repeat' (first | (with_reducible exact Below.refl _ _) | (with_reducible assumption) | (with_reducible refine Ext.below _ ?_ ?_) | (with_reducible refine Below.on ?_ (by with_reducible assumption) ?_) | (with_reducible refine Below.alloc ?_ ?_ _) | (with_reducible refine Below.drew ?_) | (with_reducible refine Below.setCell ?_ ?_ _) | (with_reducible exact Nat.le_refl _) | omega | (simp; done) | (simp [go_sem]; done) | (simp at *; omega))))).mono ?_ | with_reducible refine (Calls.giv (c3 _ (by repeat' (first | (with_reducible exact Below.refl _ _) | (with_reducible assumption) | (with_reducible refine Ext.below _ ?_ ?_) | (with_reducible refine Below.on ?_ (by with_reducible assumption) ?_) | (with_reducible refine Below.alloc ?_ ?_ _) | (with_reducible refine Below.drew ?_) | (with_reducible refine Below.setCell ?_ ?_ _) | (with_reducible exact Nat.le_refl _) | omega | (simp; done) | (simp [go_sem]; done) | (simp at *; omega))))).mono ?_); rintro _ _ ⟨y2, rfl, rfl⟩; have sy2 := Ext.size y2; (repeat (first | rw [World.size_alloc] at sy2 | rw [World.size_setCell] at sy2 | rw [World.size_drew] at sy2)); have : w.heap.size < y2.now.heap.size := (by omega); have : w.heap.size ≤ y2.now.heap.size := (by omega); have : w.heap.size < y2.now.heap.size + 1 + 1 := (by omega)))
    go_returns
    refine ⟨?_, _, rfl, World.ownsRow_nil _ _ _ _⟩
    repeat' (first | (with_reducible exact Below.refl _ _) | (with_reducible assumption) | (with_reducible refine Ext.below _ ?_ ?_) | (with_reducible refine Below.on ?_ (by with_reducible assumption) ?_) | (with_reducible refine Below.alloc ?_ ?_ _) | (with_reducible refine Below.drew ?_) | (with_reducible refine Below.setCell ?_ ?_ _) | (with_reducible exact Nat.le_refl _) | omega | (simp; done) | (simp [go_sem]; done) | (simp at *; omega))
  rw [if_pos e3] at hV
  rw [e1] at c1
  rw [e3] at c3
  obtain ⟨gn, gt', gf⟩ := guessesE_zero e3
  by_cases hz : gs.length = 0
  · rw [if_pos hz] at hV
    subst hV
    rw [hz] at c3 ⊢
    clear hA ha hg e1 hlk va hk e3 gf
    unfold SkyR.val at *
    generalize s.cats.length = n1 at *; generalize s.cp = n2 at *; generalize s.cc = n3 at *; generalize s.bodies.length = n4 at *; generalize s.bp = n5 at *; generalize s.bc = n6 at *; generalize s.sts.length = n7 at *; generalize s.sp = n8 at *; generalize s.sc = n9 at *; generalize s.home = n0 at *
    generalize a.length = la at *
    go_enter Try.func17, Try.ntmps17
    go_wp2_with (first | ((first | with_reducible refine wp_region_ext2 (by kernel_rfl) (by kernel_rfl) ?_ | with_reducible refine wp_region_ext (by kernel_rfl) (by kernel_rfl) ?_); (repeat (first | go_big_quiet_step ((first | (go_at_call 38; with_reducible exact Calls.ext (c1 _ (by repeat' (first | (with_reducible exact Below.refl _ _) | (with_reducible assumption) | (with_reducible refine Ext.below _ ?_ ?_) | (with_reducible refine Below.on ?_ (by with_reducible assumption) ?_) | (with_reducible refine Below.alloc ?_ ?_ _) | (with_reducible refine Below.drew ?_) | (with_reducible refine Below.setCell ?_ ?_ _) | (with_reducible exact Nat.le_refl _) | omega | (simp; done) | (simp [go_sem]; done) | (simp at *; omega))))) | (go_at_call 39; with_reducible exact Calls.ext (c3 _ (by repeat' (first | (with_reducible exact Below.refl _ _) | (with_reducible assumption) | (with_reducible refine Ext.below _ ?_ ?_) | (with_reducible refine Below.on ?_ (by with_reducible assumption) ?_) | (with_reducible refine Below.alloc ?_ ?_ _) | (with_reducible refine Below.drew ?_) | (with_reducible refine Below.setCell ?_ ?_ _) | (with_reducible exact Nat.le_refl _) | omega | (simp; done) | (simp [go_sem]; done) | (simp at *; omega))))))) | quiet_step ((first | (go_at_call 38; with_reducible exact Calls.ext (c1 _ (by repeat' (first | (with_reducible exact Below.refl _ _) | (with_reducible assumption) | (with_reducible refine Ext.below _ ?_ ?_) | (with_reducible refine Below.on ?_ (by with_reducible assumption) ?_) | (with_reducible refine Below.alloc ?_ ?_ _) | (with_reducible refine Below.drew ?_) | (with_reducible refine Below.setCell ?_ ?_ _) | (with_reducible exact Nat.le_refl _) | omega | (simp; done) | (simp [go_sem]; done) | (simp at *; omega))))) | (go_at_call 39; with_reducible exact Calls.ext (c3 _ (by repeat' (first | (with_reducible exact Below.refl _ _) | (with_reducible assumption) | (with_reducible refine Ext.below _ ?_ ?_) | (with_reducible refine Below.on ?_ (by with_reducible assumption) ?_) | (with_reducible refine Below.alloc ?_ ?_ _) | (with_reducible refine Below.drew ?_) | (with_reducible refine Below.setCell ?_ ?_ _) | (with_reducible exact Nat.le_refl _) | omega | (simp; done) | (simp [go_sem]; done) | (simp at *; omega))))))))); refine wpQuiet_nil ?_; rintro _ ⟨yr, rfl⟩; have syr := Ext.size yr; (repeat (first | rw [World.size_alloc] at syr | rw [World.size_setCell] at syr | rw [World.size_drew] at syr)); have : w.heap.size < yr.now.heap.size := (by omega); have : w.heap.size ≤ yr.now.heap.size := (by omega); have : w.heap.size < yr.now.heap.size + 1 + 1 := (by omega)) | (go_at_call 38; (first | with_reducible refine (Calls.giv2 (c1 _ (by repeat' (first | (with_reducible exact Below.refl _ _) | (with_reducible assumption) | (with_reducible refine Ext.below _ ?_ ?_) | (with_reducible refine Below.on ?_ (by with_reducible assumption) ?_) | (with_reducible refine Below.alloc ?_ ?_ _) | (with_reducible refine Below.drew ?_) | (with_reducible refine Below.setCell ?_ ?_ _) | (with_reducible exact Nat.le_refl _) | omega | (simp; done) | (simp [go_sem]; done) | (simp at *; omega))))).mono ?_ | with_reducible refine (Calls.giv (c1 _ (by repeat' (first | (with_reducible exact Below.refl _ _) | (with_reducible assumption) | (with_reducible refine Ext.below _ ?_ ?_) | (with_reducible refine Below.on ?_ (by with_reducible assumption) ?_) | (with_reducible refine Below.alloc ?_ ?_ _) | (with_reducible refine Below.drew ?_) | (with_reducible refine Below.setCell ?_ ?_ _) | (with_reducible exact Nat.le_refl _) | omega | (simp; done) | (simp [go_sem]; done) | (simp at *; omega))))).mono ?_); rintro _ _ ⟨y1, rfl, rfl⟩; have sy1 := Ext.size y1; (repeat (first | rw [World.size_alloc] at sy1 | rw [World.size_setCell] at sy1 | rw [World.size_drew] at sy1)); have : w.heap.size < y1.now.heap.size := (by omega); have : w.heap.size ≤ y1.now.heap.size := (by omega); have : w.heap.size < y1.now.heap.size + 1 + 1 := (by omega)) | (go_at_call 39; (first | with_reducible refine (Calls.giv2 (c3 _ (by repeat' (first | (with_reducible exact Below.refl _ _) | (with_reducible assumption) | (with_reducible refine Ext.below _ ?_ ?_) | (with_reducible refine Below.on ?_ (by with_reducible assumption) ?_) | (with_reducible refine Below.alloc ?_ ?_ _) | (with_reducible refine Below.drew ?_) | (with_reducible refine Below.setCell ?_ ?_ _) | (with_reducible exact Nat.le_refl _) | omega | (simp; done) | (simp [go_sem]; done) | (simp at *; omega))))).mono ?_ | with_reducible refine (Calls.giv (c3 _ (by repeat' (first | (with_reducible exact Below.refl _ _) | (with_reducible assumption) | (with_reducible refine Ext.below _ ?_ ?_) | (with_reducible refine Below.on ?_ (by with_reducible assumption) ?_) | (with_reducible refine Below.alloc ?_ ?_ _) | (with_reducible refine Below.drew ?_) | (with_reducible refine Below.setCell ?_ ?_ _) | (with_reducible exact Nat.le_refl _) | omega | (simp; done) | (simp [go_sem]; done) | (simp at *; omega))))).mono ?_); rintro _ _ ⟨y2, rfl, rfl⟩; have sy2 := Ext.size y2; (repeat (first | rw [World.size_alloc] at sy2 | rw [World.size_setCell] at sy2 | rw [World.size_drew] at sy2)); have : w.heap.size < y2.now.heap.size := (by omega); have : w.heap.size ≤ y2.now.heap.size := (by omega); have : w.heap.size < y2.now.heap.size + 1 + 1 := (by omega)))
    go_returns
    refine ⟨?_, _, rfl, World.ownsRow_nil _ _ _ _⟩
    repeat' (first | (with_reducible exact Below.refl _ _) | (with_reducible assumption) | (with_reducible refine Ext.below _ ?_ ?_) | (with_reducible refine Below.on ?_ (by with_reducible assumption) ?_) | (with_reducible refine Below.alloc ?_ ?_ _) | (with_reducible refine Below.drew ?_) | (with_reducible refine Below.setCell ?_ ?_ _) | (with_reducible exact Nat.le_refl _) | omega | (simp; done) | (simp [go_sem]; done) | (simp at *; omega))
  rw [if_neg hz] at hV
  have hne : ¬ (gs = []) := fun e => hz (by rw [e]; rfl)
  have hz0 : ¬ ((gs.length : Int) = 0) := by omega
  have cx := Go.Lib.hid (fun (W : World) (y : Below w.heap.size w W) j (hj : j < gs.length) (x : SightR) (k : LookR) (hk : lookR s x = .ok k) => refFits_any s x k gs[j] t W (hA.on y) hE hk (gf j hj) gt')
  have hkl := Go.Lib.hid hlk.length
  have hget := Go.Lib.hid (fun j (h : j < a.length) => hlk.get j h)
  obtain ⟨R, hR⟩ : ∃ R, refB (fun g => missL g t ks) (-1) [] 0 gs = R := ⟨_, rfl⟩
  rw [hR] at hV
  have hR := Go.Lib.hid hR
  have hV := Go.Lib.hid hV
  have hg := Go.Lib.hid hg
  have ha := Go.Lib.hid ha
  clear hA e1 e3 hk hlk va hE gf hz
  unfold SkyR.val SightR.val at *
  generalize s.cats.length = n1 at *; generalize s.cp = n2 at *; generalize s.cc = n3 at *; generalize s.bodies.length = n4 at *; generalize s.bp = n5 at *; generalize s.bc = n6 at *; generalize s.sts.length = n7 at *; generalize s.sp = n8 at *; generalize s.sc = n9 at *; generalize s.home = n0 at *
  go_enter Try.func17, Try.ntmps17
  go_wp2_with (first | ((first | with_reducible refine wp_region_ext2 (by kernel_rfl) (by kernel_rfl) ?_ | with_reducible refine wp_region_ext (by kernel_rfl) (by kernel_rfl) ?_); (repeat (first | go_big_quiet_step ((first | (go_at_call 38; with_reducible exact Calls.ext (c1 _ (by repeat' (first | (with_reducible exact Below.refl _ _) | (with_reducible assumption) | (with_reducible refine Ext.below _ ?_ ?_) | (with_reducible refine Below.on ?_ (by with_reducible assumption) ?_) | (with_reducible refine Below.alloc ?_ ?_ _) | (with_reducible refine Below.drew ?_) | (with_reducible refine Below.setCell ?_ ?_ _) | (with_reducible exact Nat.le_refl _) | omega | (simp; done) | (simp [go_sem]; done) | (simp at *; omega))))) | (go_at_call 39; with_reducible exact Calls.ext (c3 _ (by repeat' (first | (with_reducible exact Below.refl _ _) | (with_reducible assumption) | (with_reducible refine Ext.below _ ?_ ?_) | (with_reducible refine Below.on ?_ (by with_reducible assumption) ?_) | (with_reducible refine Below.alloc ?_ ?_ _) | (with_reducible refine Below.drew ?_) | (with_reducible refine Below.setCell ?_ ?_ _) | (with_reducible exact Nat.le_refl _) | omega | (simp; done) | (simp [go_sem]; done) | (simp at *; omega))))))) | quiet_step ((first | (go_at_call 38; with_reducible exact Calls.ext (c1 _ (by repeat' (first | (with_reducible exact Below.refl _ _) | (with_reducible assumption) | (with_reducible refine Ext.below _ ?_ ?_) | (with_reducible refine Below.on ?_ (by with_reducible assumption) ?_) | (with_reducible refine Below.alloc ?_ ?_ _) | (with_reducible refine Below.drew ?_) | (with_reducible refine Below.setCell ?_ ?_ _) | (with_reducible exact Nat.le_refl _) | omega | (simp; done) | (simp [go_sem]; done) | (simp at *; omega))))) | (go_at_call 39; with_reducible exact Calls.ext (c3 _ (by repeat' (first | (with_reducible exact Below.refl _ _) | (with_reducible assumption) | (with_reducible refine Ext.below _ ?_ ?_) | (with_reducible refine Below.on ?_ (by with_reducible assumption) ?_) | (with_reducible refine Below.alloc ?_ ?_ _) | (with_reducible refine Below.drew ?_) | (with_reducible refine Below.setCell ?_ ?_ _) | (with_reducible exact Nat.le_refl _) | omega | (simp; done) | (simp [go_sem]; done) | (simp at *; omega))))))))); refine wpQuiet_nil ?_; rintro _ ⟨yr, rfl⟩; have syr := Ext.size yr; (repeat (first | rw [World.size_alloc] at syr | rw [World.size_setCell] at syr | rw [World.size_drew] at syr)); have : w.heap.size < yr.now.heap.size := (by omega); have : w.heap.size ≤ yr.now.heap.size := (by omega); have : w.heap.size < yr.now.heap.size + 1 + 1 := (by omega)) | (go_at_call 38; (first | with_reducible refine (Calls.giv2 (c1 _ (by repeat' (first | (with_reducible exact Below.refl _ _) | (with_reducible assumption) | (with_reducible refine Ext.below _ ?_ ?_) | (with_reducible refine Below.on ?_ (by with_reducible assumption) ?_) | (with_reducible refine Below.alloc ?_ ?_ _) | (with_reducible refine Below.drew ?_) | (with_reducible refine Below.setCell ?_ ?_ _) | (with_reducible exact Nat.le_refl _) | omega | (simp; done) | (simp [go_sem]; done) | (simp at *; omega))))).mono ?_ | with_reducible refine (Calls.giv (c1 _ (by repeat' (first | (with_reducible exact Below.refl _ _) | (with_reducible assumption) | (with_reducible refine Ext.below _ ?_ ?_) | (with_reducible refine Below.on ?_ (by with_reducible assumption) ?_) | (with_reducible refine Below.alloc ?_ ?_ _) | (with_reducible refine Below.drew ?_) | (with_reducible refine Below.setCell ?_ ?_ _) | (with_reducible exact Nat.le_refl _) | omega | (simp; done) | (simp [go_sem]; done) | (simp at *; omega))))).mono ?_); rintro _ _ ⟨y1, rfl, rfl⟩; have sy1 := Ext.size y1; (repeat (first | rw [World.size_alloc] at sy1 | rw [World.size_setCell] at sy1 | rw [World.size_drew] at sy1)); have : w.heap.size < y1.now.heap.size := (by omega); have : w.heap.size ≤ y1.now.heap.size := (by omega); have : w.heap.size < y1.now.heap.size + 1 + 1 := (by omega)) | (go_at_call 39; (first | with_reducible refine (Calls.giv2 (c3 _ (by repeat' (first | (with_reducible exact Below.refl _ _) | (with_reducible assumption) | (with_reducible refine Ext.below _ ?_ ?_) | (with_reducible refine Below.on ?_ (by with_reducible assumption) ?_) | (with_reducible refine Below.alloc ?_ ?_ _) | (with_reducible refine Below.drew ?_) | (with_reducible refine Below.setCell ?_ ?_ _) | (with_reducible exact Nat.le_refl _) | omega | (simp; done) | (simp [go_sem]; done) | (simp at *; omega))))).mono ?_ | with_reducible refine (Calls.giv (c3 _ (by repeat' (first | (with_reducible exact Below.refl _ _) | (with_reducible assumption) | (with_reducible refine Ext.below _ ?_ ?_) | (with_reducible refine Below.on ?_ (by with_reducible assumption) ?_) | (with_reducible refine Below.alloc ?_ ?_ _) | (with_reducible refine Below.drew ?_) | (with_reducible refine Below.setCell ?_ ?_ _) | (with_reducible exact Nat.le_refl _) | omega | (simp; done) | (simp [go_sem]; done) | (simp at *; omega))))).mono ?_); rintro _ _ ⟨y2, rfl, rfl⟩; have sy2 := Ext.size y2; (repeat (first | rw [World.size_alloc] at sy2 | rw [World.size_setCell] at sy2 | rw [World.size_drew] at sy2)); have : w.heap.size < y2.now.heap.size := (by omega); have : w.heap.size ≤ y2.now.heap.size := (by omega); have : w.heap.size < y2.now.heap.size + 1 + 1 := (by omega)))
  refine wp_named (fun WA hW => ?_)
  have hbw : Below w.heap.size w WA := by rw [← hW]; repeat' (first | (with_reducible exact Below.refl _ _) | (with_reducible assumption) | (with_reducible refine Ext.below _ ?_ ?_) | (with_reducible refine Below.on ?_ (by with_reducible assumption) ?_) | (with_reducible refine Below.alloc ?_ ?_ _) | (with_reducible refine Below.drew ?_) | (with_reducible refine Below.setCell ?_ ?_ _) | (with_reducible exact Nat.le_refl _) | omega | (simp; done) | (simp [go_sem]; done) | (simp at *; omega))
  have b0 : WA.cell? ⟨w.heap.size, 0, none⟩ = some (.slice n5 n4 n6) := by rw [← hW]; simp [go_sem]
  have b1 : WA.cell? ⟨w.heap.size, 1, none⟩ = some (.int .i64 n0) := by rw [← hW]; simp [go_sem]
  have b2 : WA.cell? ⟨w.heap.size, 2, none⟩ = some (.slice n8 n7 n9) := by rw [← hW]; simp [go_sem]
  have b3 : WA.cell? ⟨w.heap.size, 3, none⟩ = some (.slice n2 n1 n3) := by rw [← hW]; simp [go_sem]
  have hsA : w.heap.size < WA.heap.size := by rw [← hW]; simp at *; omega
  clear hW c1 c3
  have hzb : ((gs.length : Int) == 0) = false := by simpa using hne
  simp only [hzb]
  clear hzb
  have hGA := Go.Lib.hid (hg.out.on hbw)
  have hSA := Go.Lib.hid (ha.out.on hbw)
  obtain ⟨i0, hi0, hz0, hz1, hz2⟩ := info_parts int_info
  go_loopw [12, 13, 14] (fun bv v u W => ∃ (i : Nat) (x : Ext WA) (bb : Int) (wr : List Int), bv = .int .i64 bb ∧ u = .int .i64 i ∧ W = x.now ∧ x.now.ownsRow WA.heap.size 3 1 v wr.length (intsOf wr) ∧ Hid (i ≤ gs.length ∧ refB (fun g => missL g t ks) bb wr i (gs.drop i) = R)) (fun _ _ u _ => gs.length - (intOf u).toNat)
  case atStart => exact ⟨0, ⟨WA, Below.refl _ _⟩, -1, [], rfl, rfl, rfl, World.ownsRow_nil _ _ _ _, Go.Lib.hid ⟨Nat.zero_le _, by simpa using hR.out⟩⟩
  case round =>
    obtain ⟨i, x, bb, wr, rfl, rfl, rfl, hwr, hi⟩ := hrel
    have xs := x.size
    obtain ⟨wp', wc, rfl⟩ := owns_form hwr
    have hbx := x.below hbw (by omega)
    by_cases hlt : i < gs.length
    · have hlt2 : (i : Int) < gs.length := by omega
      have hE := hi.out.2
      rw [drop_at hlt, refB] at hE
      obtain ⟨NG, hNG⟩ : ∃ L, missL gs[i] t ks = L := ⟨_, rfl⟩
      rw [hNG] at hE
      unfold missL at hNG
      have hNG := Go.Lib.hid hNG
      have cxi := Go.Lib.hid (fun (W : World) (y : Below w.heap.size w W) (x : SightR) (k : LookR) (hk : lookR s x = .ok k) => cx.out W y i hlt x k hk)
      have hb := Go.Lib.hid (And.intro ((x.cell hsA).trans b0) (And.intro ((x.cell hsA).trans b1) (And.intro ((x.cell hsA).trans b2) ((x.cell hsA).trans b3))))
      have hsX := x.lt hsA
      have hwx : w.heap.size ≤ x.now.heap.size := by omega
      have hGX := Go.Lib.hid (hGA.out.on x.grew)
      have hSX := Go.Lib.hid (hSA.out.on x.grew)
      have hxA := x.grew
      clear hi
      go_wp2_with (first | ((first | with_reducible refine wp_region_ext2 (by kernel_rfl) (by kernel_rfl) ?_ | with_reducible refine wp_region_ext (by kernel_rfl) (by kernel_rfl) ?_); (repeat (first | go_big_quiet_step ((first | fail)) | quiet_step ((first | fail)))); refine wpQuiet_nil ?_; rintro _ ⟨yr, rfl⟩; have syr := Ext.size yr; (repeat (first | rw [World.size_alloc] at syr | rw [World.size_setCell] at syr | rw [World.size_drew] at syr)); have : w.heap.size < yr.now.heap.size := (by omega); have : w.heap.size ≤ yr.now.heap.size := (by omega); have : w.heap.size < yr.now.heap.size + 1 + 1 := (by omega)))
      generalize x.now = W0 at *
      clear x
      obtain ⟨a0, a1, a2, a3⟩ := hb.out
      clear hb
      go_loopw [15, 16] (fun v u W => ∃ (k : Nat) (y : Ext W0) (acc : List Int), u = .int .i64 k ∧ W = y.now ∧ y.now.ownsRow W0.heap.size 3 1 v acc.length (intsOf acc) ∧ Hid (k ≤ a.length ∧ acc.length ≤ k ∧ missA gs[i] t acc k (ks.drop k) = NG)) (fun _ u _ => a.length - (intOf u).toNat)
      case atStart => exact ⟨0, ⟨W0, Below.refl _ _⟩, [], rfl, rfl, World.ownsRow_nil _ _ _ _, Go.Lib.hid ⟨Nat.zero_le _, by simp, by simpa using hNG.out⟩⟩
      case round =>
        obtain ⟨k, y, acc, rfl, rfl, hown, hk⟩ := hrel
        have ys := y.size
        have hby := y.below hbx (by omega)
        have : w.heap.size < (y.now).heap.size := (by omega); have : w.heap.size < (y.now).heap.size + 1 := (by omega); have : w.heap.size < (y.now).heap.size + 1 + 1 := (by omega); have : w.heap.size ≠ (y.now).heap.size := (by omega); have : w.heap.size ≠ (y.now).heap.size + 1 := (by omega)
        by_cases hka : k < a.length
        · have hka2 : (k : Int) < a.length := by omega
          obtain ⟨kk, hkk, hlook⟩ := hget.out k hka
          have hkl' : k < ks.length := by rw [hkl.out]; exact hka
          have hkk2 : ks[k] = kk := by rw [List.getElem?_eq_getElem hkl'] at hkk; simpa using hkk
          have hEk := hk.out.2.2
          have hak := hk.out.2.1
          rw [drop_at hkl', missA, hkk2] at hEk
          have cxk := fun (W : World) (y : Below w.heap.size w W) => cxi.out W y a[k] kk hlook
          obtain ⟨B, o, rfl, hB, q1, q2, q3, q4, q5, q6, q7, q8, q9⟩ := hSX.out k hka
          obtain ⟨BG, oG, rfl, hBG, u0, u1, u2, u3⟩ := hGX.out i hlt
          have : B < (y.now).heap.size := (by omega); have : B < (y.now).heap.size + 1 := (by omega); have : B < (y.now).heap.size + 1 + 1 := (by omega); have : B ≠ (y.now).heap.size := (by omega); have : B ≠ (y.now).heap.size + 1 := (by omega)
          have : BG < (y.now).heap.size := (by omega); have : BG < (y.now).heap.size + 1 := (by omega); have : BG < (y.now).heap.size + 1 + 1 := (by omega); have : BG ≠ (y.now).heap.size := (by omega); have : BG ≠ (y.now).heap.size + 1 := (by omega)
          clear hkk hkk2 hlook
          cases hm : missB gs[i] t kk
          · rw [hm, if_neg (by simp)] at hEk
            rw [hm] at cxk
            have key : Hid (k + 1 ≤ a.length ∧ acc.length ≤ k + 1 ∧ missA gs[i] t acc (k + 1) (ks.drop (k + 1)) = NG) := Go.Lib.hid ⟨hka, by omega, hEk⟩
            clear hEk hk hm
            generalize a[k].kind = h0 at *
            generalize a[k].st = h1 at *
            generalize a[k].cat = h2 at *
            generalize a[k].tick = h3 at *
            generalize a[k].dir.x = h4 at *
            generalize a[k].dir.y = h5 at *
            generalize a[k].err = h6 at *
            generalize a[k].lo = h7 at *
            generalize a[k].hi = h8 at *
            generalize gs[i].x = j0 at *
            generalize gs[i].y = j1 at *
            generalize gs[i].u = j2 at *
            generalize gs[i].v = j3 at *
            go_wp2_with (first | ((with_reducible refine wp_region_ext (by kernel_rfl) (by kernel_rfl) ?_); (repeat (first | go_big_quiet_step ((first | (go_at_call 40; with_reducible exact Calls.ext (cxk _ (by repeat' (first | (with_reducible exact Below.refl _ _) | (with_reducible assumption) | (with_reducible refine Ext.below _ ?_ ?_) | (with_reducible refine Below.on ?_ (by with_reducible assumption) ?_) | (with_reducible refine Below.alloc ?_ ?_ _) | (with_reducible refine Below.drew ?_) | (with_reducible refine Below.setCell ?_ ?_ _) | (with_reducible exact Nat.le_refl _) | omega | (simp; done) | (simp [go_sem]; done) | (simp at *; omega))))))) | quiet_step ((first | (go_at_call 40; with_reducible exact Calls.ext (cxk _ (by repeat' (first | (with_reducible exact Below.refl _ _) | (with_reducible assumption) | (with_reducible refine Ext.below _ ?_ ?_) | (with_reducible refine Below.on ?_ (by with_reducible assumption) ?_) | (with_reducible refine Below.alloc ?_ ?_ _) | (with_reducible refine Below.drew ?_) | (with_reducible refine Below.setCell ?_ ?_ _) | (with_reducible exact Nat.le_refl _) | omega | (simp; done) | (simp [go_sem]; done) | (simp at *; omega))))))))); refine wpQuiet_nil ?_; rintro _ ⟨yr, rfl⟩; have syr := Ext.size yr; (repeat (first | rw [World.size_alloc] at syr | rw [World.size_setCell] at syr | rw [World.size_drew] at syr)); have : B < yr.now.heap.size := (by omega); have : B ≤ yr.now.heap.size := (by omega); have : B < yr.now.heap.size + 1 + 1 := (by omega); have : BG < yr.now.heap.size := (by omega); have : BG ≤ yr.now.heap.size := (by omega); have : BG < yr.now.heap.size + 1 + 1 := (by omega); have : w.heap.size < yr.now.heap.size := (by omega); have : w.heap.size ≤ yr.now.heap.size := (by omega); have : w.heap.size < yr.now.heap.size + 1 + 1 := (by omega)) | (go_at_call 40; with_reducible refine (Calls.giv (cxk _ (by repeat' (first | (with_reducible exact Below.refl _ _) | (with_reducible assumption) | (with_reducible refine Ext.below _ ?_ ?_) | (with_reducible refine Below.on ?_ (by with_reducible assumption) ?_) | (with_reducible refine Below.alloc ?_ ?_ _) | (with_reducible refine Below.drew ?_) | (with_reducible refine Below.setCell ?_ ?_ _) | (with_reducible exact Nat.le_refl _) | omega | (simp; done) | (simp [go_sem]; done) | (simp at *; omega))))).mono ?_; rintro _ _ ⟨y1, rfl, rfl⟩; have sy1 := Ext.size y1; (repeat (first | rw [World.size_alloc] at sy1 | rw [World.size_setCell] at sy1 | rw [World.size_drew] at sy1)); have : B < y1.now.heap.size := (by omega); have : B ≤ y1.now.heap.size := (by omega); have : B < y1.now.heap.size + 1 + 1 := (by omega); have : BG < y1.now.heap.size := (by omega); have : BG ≤ y1.now.heap.size := (by omega); have : BG < y1.now.heap.size + 1 + 1 := (by omega); have : w.heap.size < y1.now.heap.size := (by omega); have : w.heap.size ≤ y1.now.heap.size := (by omega); have : w.heap.size < y1.now.heap.size + 1 + 1 := (by omega)))
            refine ⟨⟨k + 1, ⟨_, ?_⟩, acc, by simp, rfl, ?_, key⟩, by simp [intOf]; omega⟩
            · repeat' (first | (with_reducible exact Below.refl _ _) | (with_reducible assumption) | (with_reducible refine Ext.below _ ?_ ?_) | (with_reducible refine Below.on ?_ (by with_reducible assumption) ?_) | (with_reducible refine Below.alloc ?_ ?_ _) | (with_reducible refine Below.drew ?_) | (with_reducible refine Below.setCell ?_ ?_ _) | (with_reducible exact Nat.le_refl _) | omega | (simp; done) | (simp [go_sem]; done) | (simp at *; omega))
            · dsimp only; exact (by repeat (first | exact hown | (with_reducible refine World.ownsRow.alloc ?_ _) | (with_reducible refine World.ownsRow.drew ?_) | (with_reducible refine owns_ext ?_ _)))
          · rw [hm, if_pos rfl] at hEk
            rw [hm] at cxk
            have hadd := Go.Lib.hid (intsOf_add acc (k : Int))
            have key : Hid (k + 1 ≤ a.length ∧ (acc ++ [(k : Int)]).length ≤ k + 1 ∧ missA gs[i] t (acc ++ [(k : Int)]) (k + 1) (ks.drop (k + 1)) = NG) := Go.Lib.hid ⟨hka, by rw [List.length_append, List.length_cons, List.length_nil]; omega, hEk⟩
            clear hEk hk hm
            generalize a[k].kind = h0 at *
            generalize a[k].st = h1 at *
            generalize a[k].cat = h2 at *
            generalize a[k].tick = h3 at *
            generalize a[k].dir.x = h4 at *
            generalize a[k].dir.y = h5 at *
            generalize a[k].err = h6 at *
            generalize a[k].lo = h7 at *
            generalize a[k].hi = h8 at *
            generalize gs[i].x = j0 at *
            generalize gs[i].y = j1 at *
            generalize gs[i].u = j2 at *
            generalize gs[i].v = j3 at *
            go_wp2_with (first | ((with_reducible refine wp_region_ext (by kernel_rfl) (by kernel_rfl) ?_); (repeat (first | go_big_quiet_step ((first | (go_at_call 40; with_reducible exact Calls.ext (cxk _ (by repeat' (first | (with_reducible exact Below.refl _ _) | (with_reducible assumption) | (with_reducible refine Ext.below _ ?_ ?_) | (with_reducible refine Below.on ?_ (by with_reducible assumption) ?_) | (with_reducible refine Below.alloc ?_ ?_ _) | (with_reducible refine Below.drew ?_) | (with_reducible refine Below.setCell ?_ ?_ _) | (with_reducible exact Nat.le_refl _) | omega | (simp; done) | (simp [go_sem]; done) | (simp at *; omega))))))) | quiet_step ((first | (go_at_call 40; with_reducible exact Calls.ext (cxk _ (by repeat' (first | (with_reducible exact Below.refl _ _) | (with_reducible assumption) | (with_reducible refine Ext.below _ ?_ ?_) | (with_reducible refine Below.on ?_ (by with_reducible assumption) ?_) | (with_reducible refine Below.alloc ?_ ?_ _) | (with_reducible refine Below.drew ?_) | (with_reducible refine Below.setCell ?_ ?_ _) | (with_reducible exact Nat.le_refl _) | omega | (simp; done) | (simp [go_sem]; done) | (simp at *; omega))))))))); refine wpQuiet_nil ?_; rintro _ ⟨yr, rfl⟩; have syr := Ext.size yr; (repeat (first | rw [World.size_alloc] at syr | rw [World.size_setCell] at syr | rw [World.size_drew] at syr)); have : B < yr.now.heap.size := (by omega); have : B ≤ yr.now.heap.size := (by omega); have : B < yr.now.heap.size + 1 + 1 := (by omega); have : BG < yr.now.heap.size := (by omega); have : BG ≤ yr.now.heap.size := (by omega); have : BG < yr.now.heap.size + 1 + 1 := (by omega); have : w.heap.size < yr.now.heap.size := (by omega); have : w.heap.size ≤ yr.now.heap.size := (by omega); have : w.heap.size < yr.now.heap.size + 1 + 1 := (by omega)) | (go_at_call 40; with_reducible refine (Calls.giv (cxk _ (by repeat' (first | (with_reducible exact Below.refl _ _) | (with_reducible assumption) | (with_reducible refine Ext.below _ ?_ ?_) | (with_reducible refine Below.on ?_ (by with_reducible assumption) ?_) | (with_reducible refine Below.alloc ?_ ?_ _) | (with_reducible refine Below.drew ?_) | (with_reducible refine Below.setCell ?_ ?_ _) | (with_reducible exact Nat.le_refl _) | omega | (simp; done) | (simp [go_sem]; done) | (simp at *; omega))))).mono ?_; rintro _ _ ⟨y1, rfl, rfl⟩; have sy1 := Ext.size y1; (repeat (first | rw [World.size_alloc] at sy1 | rw [World.size_setCell] at sy1 | rw [World.size_drew] at sy1)); have : B < y1.now.heap.size := (by omega); have : B ≤ y1.now.heap.size := (by omega); have : B < y1.now.heap.size + 1 + 1 := (by omega); have : BG < y1.now.heap.size := (by omega); have : BG ≤ y1.now.heap.size := (by omega); have : BG < y1.now.heap.size + 1 + 1 := (by omega); have : w.heap.size < y1.now.heap.size := (by omega); have : w.heap.size ≤ y1.now.heap.size := (by omega); have : w.heap.size < y1.now.heap.size + 1 + 1 := (by omega)) | (at_builtin; refine wpList_append_own _ rfl _ _ 22 rfl W0.heap.size 3 i0 _ 1 8 Try.underlying22 hi0 hz0 hz1 hz2 rfl (by decide) _ acc.length (intsOf acc) rfl (by repeat (first | exact hown | (with_reducible refine World.ownsRow.alloc ?_ _) | (with_reducible refine World.ownsRow.drew ?_) | (with_reducible refine owns_ext ?_ _))) _ 1 1 _ rfl rfl (cells1_new _ _ _) (by intro u hu; simp only [List.mem_cons, List.not_mem_nil, or_false] at hu; subst hu; rfl) (by unfold maxLen; omega) (by omega) (by (try simp only [World.size_alloc]); omega) ?_; intro v' W2 hown' hgrow _; have hbel : Below W0.heap.size W0 W2 := (by refine below_grown (e := 3) (size := 1) (n := acc.length) (xs := intsOf acc) ?_ (by repeat (first | exact hown | (with_reducible refine World.ownsRow.alloc ?_ _) | (with_reducible refine World.ownsRow.drew ?_) | (with_reducible refine owns_ext ?_ _))) (Nat.le_refl _) (by (try simp only [World.size_alloc]); omega) hgrow; repeat' (first | (with_reducible exact Below.refl _ _) | (with_reducible assumption) | (with_reducible refine Ext.below _ ?_ ?_) | (with_reducible refine Below.on ?_ (by with_reducible assumption) ?_) | (with_reducible refine Below.alloc ?_ ?_ _) | (with_reducible refine Below.drew ?_) | (with_reducible refine Below.setCell ?_ ?_ _) | (with_reducible exact Nat.le_refl _) | omega | (simp; done) | (simp [go_sem]; done) | (simp at *; omega)))))
            refine ⟨⟨k + 1, ⟨_, hbel⟩, acc ++ [(k : Int)], by simp, rfl, by rw [hadd.out, List.length_append]; exact hown', key⟩, by simp [intOf]; omega⟩
        · have hka2 : ¬ (k : Int) < a.length := by omega
          have hEk := hk.out.2.2
          rw [drop_end (by rw [hkl.out]; exact hka), missA] at hEk
          subst hEk
          obtain ⟨ap, ac, rfl⟩ := owns_form hown
          have hBy : Below WA.heap.size WA y.now := hxA.trans (y.grew.mono xs)
          have hrow2 := Go.Lib.hid (owns_base hown xs)
          have hwr2 := Go.Lib.hid (owns_below hwr y.grew)
          clear hk
          by_cases hc : bb < 0 ∨ acc.length < wr.length
          · rw [if_pos hc] at hE
            have key : Hid (i + 1 ≤ gs.length ∧ refB (fun g => missL g t ks) i acc (i + 1) (gs.drop (i + 1)) = R) := Go.Lib.hid ⟨hlt, hE⟩
            clear hE hown hwr
            by_cases hbb : bb < 0
            · clear hc
              go_wp2_with (first | ((first | with_reducible refine wp_region_ext2 (by kernel_rfl) (by kernel_rfl) ?_ | with_reducible refine wp_region_ext (by kernel_rfl) (by kernel_rfl) ?_); (repeat (first | go_big_quiet_step ((first | fail)) | quiet_step ((first | fail)))); refine wpQuiet_nil ?_; rintro _ ⟨yr, rfl⟩; have syr := Ext.size yr; (repeat (first | rw [World.size_alloc] at syr | rw [World.size_setCell] at syr | rw [World.size_drew] at syr)); have : w.heap.size < yr.now.heap.size := (by omega); have : w.heap.size ≤ yr.now.heap.size := (by omega); have : w.heap.size < yr.now.heap.size + 1 + 1 := (by omega)))
              exact ⟨⟨i + 1, ⟨y.now, hBy⟩, i, acc, by simp, by simp, rfl, hrow2.out, key⟩, by simp [intOf]; omega⟩
            · have hl1 : (acc.length : Int) < wr.length := by omega
              clear hc
              go_wp2_with (first | ((first | with_reducible refine wp_region_ext2 (by kernel_rfl) (by kernel_rfl) ?_ | with_reducible refine wp_region_ext (by kernel_rfl) (by kernel_rfl) ?_); (repeat (first | go_big_quiet_step ((first | fail)) | quiet_step ((first | fail)))); refine wpQuiet_nil ?_; rintro _ ⟨yr, rfl⟩; have syr := Ext.size yr; (repeat (first | rw [World.size_alloc] at syr | rw [World.size_setCell] at syr | rw [World.size_drew] at syr)); have : w.heap.size < yr.now.heap.size := (by omega); have : w.heap.size ≤ yr.now.heap.size := (by omega); have : w.heap.size < yr.now.heap.size + 1 + 1 := (by omega)))
              exact ⟨⟨i + 1, ⟨y.now, hBy⟩, i, acc, by simp, by simp, rfl, hrow2.out, key⟩, by simp [intOf]; omega⟩
          · rw [if_neg hc] at hE
            have key : Hid (i + 1 ≤ gs.length ∧ refB (fun g => missL g t ks) bb wr (i + 1) (gs.drop (i + 1)) = R) := Go.Lib.hid ⟨hlt, hE⟩
            have hbb : ¬ (bb < 0) := by omega
            have hl1 : ¬ ((acc.length : Int) < wr.length) := by omega
            clear hE hown hwr hc
            go_wp2_with (first | ((first | with_reducible refine wp_region_ext2 (by kernel_rfl) (by kernel_rfl) ?_ | with_reducible refine wp_region_ext (by kernel_rfl) (by kernel_rfl) ?_); (repeat (first | go_big_quiet_step ((first | fail)) | quiet_step ((first | fail)))); refine wpQuiet_nil ?_; rintro _ ⟨yr, rfl⟩; have syr := Ext.size yr; (repeat (first | rw [World.size_alloc] at syr | rw [World.size_setCell] at syr | rw [World.size_drew] at syr)); have : w.heap.size < yr.now.heap.size := (by omega); have : w.heap.size ≤ yr.now.heap.size := (by omega); have : w.heap.size < yr.now.heap.size + 1 + 1 := (by omega)))
            exact ⟨⟨i + 1, ⟨y.now, hBy⟩, bb, wr, by simp, by simp, rfl, hwr2.out, key⟩, by simp [intOf]; omega⟩
    · have hge : ¬ (i : Int) < gs.length := by omega
      have hE := hi.out.2
      rw [drop_end hlt, refB] at hE
      have e1 : V = ⟨bb, wr, 0⟩ := by rw [← hV.out, ← hE]
      clear hi hV hR hE
      subst e1
      go_wp2_with (first | ((first | with_reducible refine wp_region_ext2 (by kernel_rfl) (by kernel_rfl) ?_ | with_reducible refine wp_region_ext (by kernel_rfl) (by kernel_rfl) ?_); (repeat (first | go_big_quiet_step ((first | fail)) | quiet_step ((first | fail)))); refine wpQuiet_nil ?_; rintro _ ⟨yr, rfl⟩; have syr := Ext.size yr; (repeat (first | rw [World.size_alloc] at syr | rw [World.size_setCell] at syr | rw [World.size_drew] at syr))))
      go_returns
      refine ⟨?_, _, rfl, owns_base hwr (by omega)⟩
      repeat' (first | (with_reducible exact Below.refl _ _) | (with_reducible assumption) | (with_reducible refine Ext.below _ ?_ ?_) | (with_reducible refine Below.on ?_ (by with_reducible assumption) ?_) | (with_reducible refine Below.alloc ?_ ?_ _) | (with_reducible refine Below.drew ?_) | (with_reducible refine Below.setCell ?_ ?_ _) | (with_reducible exact Nat.le_refl _) | omega | (simp; done) | (simp [go_sem]; done) | (simp at *; omega))
end Go.Proofs.Ytgoilmiiegpnoaa
namespace Go.Proofs.Ytgoilmiiegpnoaa
open Go.RowKit Go.Shelf
/-- The tracklets that a guess groups: those that are not taken, and of which it misses nothing. -/
def grpA (P : Nat → Bool) (tk : List Bool) : Nat → Nat → List Int → List Int
  | 0, _, acc => acc
  | m + 1, i, acc => grpA P tk m (i + 1) (if tk.getD i false = false ∧ P i = true then acc ++ [(i : Int)] else acc)
def markA : List Bool → List Int → List Bool
  | tk, [] => tk
  | tk, i :: l => markA (tk.set i.toNat true) l
def groupsA {α : Type} (F : α → Nat → Bool) (n : Nat) : List Bool → List (List Int) → List α → List Bool × List (List Int)
  | tk, fd, [] => (tk, fd)
  | tk, fd, g :: gs => if (grpA (F g) tk n 0 []).length < 2 then groupsA F n tk fd gs else groupsA F n (markA tk (grpA (F g) tk n 0 [])) (fd ++ [grpA (F g) tk n 0 []]) gs
def restA (tk : List Bool) : Nat → Nat → List (List Int) → List (List Int)
  | 0, _, fd => fd
  | m + 1, i, fd => restA tk m (i + 1) (if tk.getD i false = true then fd else fd ++ [[(i : Int)]])
def groupsF {α : Type} (F : α → Nat → Bool) (n : Nat) (gs : List α) : List (List Int) := restA (groupsA F n (List.replicate n false) [] gs).1 n 0 (groupsA F n (List.replicate n false) [] gs).2
theorem grpA_in (P : Nat → Bool) (tk : List Bool) : ∀ (m i : Nat) (acc : List Int), (∀ x ∈ acc, 0 ≤ x ∧ x < i) → ∀ x ∈ grpA P tk m i acc, 0 ≤ x ∧ x < i + m := by
  intro m
  induction m with
  | zero => intro i acc h x hx; simpa using h x hx
  | succ m ih =>
    intro i acc h x hx
    rw [grpA] at hx
    have := ih (i + 1) _ (fun y hy => by
      split at hy
      · rcases List.mem_append.1 hy with h1 | h1
        · have := h y h1; push_cast; omega
        · rw [List.mem_singleton.1 h1]; push_cast; omega
      · have := h y hy; push_cast; omega) x hx
    push_cast at this ⊢
    omega
theorem grpA_len (P : Nat → Bool) (tk : List Bool) : ∀ (m i : Nat) (acc : List Int), (grpA P tk m i acc).length ≤ acc.length + m := by
  intro m
  induction m with
  | zero => intro i acc; simp [grpA]
  | succ m ih =>
    intro i acc
    rw [grpA]
    have h1 := ih (i + 1) (if tk.getD i false = false ∧ P i = true then acc ++ [(i : Int)] else acc)
    have h2 : (if tk.getD i false = false ∧ P i = true then acc ++ [(i : Int)] else acc).length ≤ acc.length + 1 := by split <;> simp
    omega
theorem markA_len : ∀ (l : List Int) (tk : List Bool), (markA tk l).length = tk.length := by
  intro l
  induction l with
  | nil => intro tk; rfl
  | cons x l ih => intro tk; rw [markA, ih]; simp
/-- A group in memory. -/
structure IR where
  p : Option Addr
  c : Nat
  l : List Int
def ivals (fd : List IR) : List Value := fd.flatMap fun r => [.slice r.p r.l.length r.c]
theorem ivals_add (l : List IR) (t : IR) : ivals (l ++ [t]) = ivals l ++ [.slice t.p t.l.length t.c] := by unfold ivals; rw [List.flatMap_append]; simp
structure GrRows (W : World) (base : Nat) (v : Value) (fd : List IR) : Prop where
  l : W.ownsRow base 22 1 v fd.length (ivals fd)
  t : ∀ r ∈ fd, W.ownsRow base 3 1 (.slice r.p r.l.length r.c) r.l.length (intsOf r.l)
section
variable {W W' : World} {base b : Nat} {v : Value} {fd : List IR}
theorem GrRows.nil : GrRows W base (.slice none 0 0) [] := ⟨World.ownsRow_nil _ _ _ _, fun _ h => (by simp at h)⟩
theorem GrRows.belowX (h : GrRows W base v fd) (hb : b < base) (y : BelowX b W.heap.size W W') : GrRows W' base v fd := ⟨owns_belowX h.l hb y, fun t ht => owns_belowX (h.t t ht) hb y⟩
theorem GrRows.alloc (h : GrRows W base v fd) (o : Obj) : GrRows (W.alloc o) base v fd := ⟨h.l.alloc o, fun t ht => (h.t t ht).alloc o⟩
theorem GrRows.on (h : GrRows W base v fd) (y : Below W.heap.size W W') : GrRows W' base v fd := ⟨owns_below h.l y, fun t ht => owns_below (h.t t ht) y⟩
theorem GrRows.down {base' : Nat} (h : GrRows W base v fd) (hb : base' ≤ base) : GrRows W base' v fd := ⟨owns_base h.l hb, fun t ht => owns_base (h.t t ht) hb⟩
theorem GrRows.form (h : GrRows W base v fd) : ∃ p c, v = .slice p fd.length c := owns_form h.l
/-- A group has been appended. -/
theorem GrRows.add {v' : Value} {r : IR} (h : GrRows W base v fd) (hr : W.ownsRow base 3 1 (.slice r.p r.l.length r.c) r.l.length (intsOf r.l)) (ho : W'.ownsRow base 22 1 v' (fd.length + 1) (ivals fd ++ [.slice r.p r.l.length r.c])) (hg : W.grownBy W' v.ownBlock) : GrRows W' base v' (fd ++ [r]) := by
  refine ⟨?_, fun q hq => ?_⟩
  · rw [ivals_add, List.length_append]
    exact ho
  · rcases List.mem_append.1 hq with h1 | h1
    · exact (h.t q h1).kept hg (owns_apart2 (h.t q h1) h.l (by decide))
    · rw [List.mem_singleton.1 h1]
      exact hr.kept hg (owns_apart2 hr h.l (by decide))
end
/-- Rows of groups, as the contracts ask. -/
def IRsAt (W : World) (p : Option Addr) (fd : List IR) : Prop := ∀ j (h : j < fd.length), IntsAt W fd[j].p fd[j].l ∧ ∃ B o, p = some ⟨B, o, none⟩ ∧ B < W.heap.size ∧ W.cell? ⟨B, o + j, none⟩ = some (.slice fd[j].p fd[j].l.length fd[j].c)
theorem IRsAt.ext {W : World} {p : Option Addr} {fd : List IR} (h : IRsAt W p fd) (x : Ext W) : IRsAt x.now p fd := fun j hj => by
  obtain ⟨h1, B, o, h2, h3, h4⟩ := h j hj
  exact ⟨h1.on x.grew, B, o, h2, x.lt h3, (x.cell h3).trans h4⟩
theorem IRsAt.on {W W' : World} {p : Option Addr} {fd : List IR} (h : IRsAt W p fd) (b : Below W.heap.size W W') : IRsAt W' p fd := h.ext ⟨W', b⟩
theorem GrRows.at {W : World} {base : Nat} {p : Option Addr} {n c : Nat} {fd : List IR} (h : GrRows W base (.slice p n c) fd) : IRsAt W p fd := by
  intro j hj
  refine ⟨?_, ?_⟩
  · obtain ⟨q, d, e, hs⟩ := owns_ints (h.t fd[j] (List.getElem_mem hj))
    injection e with e1 e2 e3
    rw [e1]
    exact hs
  · obtain ⟨q, d, e, hc⟩ := owns_at (fun t : IR => [Value.slice t.p t.l.length t.c]) 1 (fun _ => rfl) fd h.l
    injection e with e1 e2 e3
    obtain ⟨B, o, hp, _, hB, hv⟩ := hc j hj
    refine ⟨B, o, e1.trans hp, hB, ?_⟩
    have := hv 0 _ rfl
    simpa using this
/-- Looks of tracklets in memory. -/
def LooksRows (W : World) (p : Option Addr) (kss : List (List LookR)) : Prop := ∀ j (h : j < kss.length), ∃ B o q c, p = some ⟨B, o, none⟩ ∧ B < W.heap.size ∧ W.cell? ⟨B, o + j, none⟩ = some (.slice q kss[j].length c) ∧ LooksAt W q kss[j]
theorem LooksRows.ext {W : World} {p : Option Addr} {kss : List (List LookR)} (h : LooksRows W p kss) (x : Ext W) : LooksRows x.now p kss := fun j hj => by
  obtain ⟨B, o, q, c, h1, h2, h3, h4⟩ := h j hj
  exact ⟨B, o, q, c, h1, x.lt h2, (x.cell h2).trans h3, h4.on x.grew⟩
theorem LooksRows.on {W W' : World} {p : Option Addr} {kss : List (List LookR)} (h : LooksRows W p kss) (b : Below W.heap.size W W') : LooksRows W' p kss := h.ext ⟨W', b⟩
theorem inner_at {W : World} {base : Nat} : ∀ (vs : List Value) (kss : List (List LookR)), InnerAt W base vs kss → ∀ j (h : j < kss.length), ∃ u, vs[j]? = some u ∧ W.ownsRow base 103 4 u kss[j].length (rowsOf kss[j])
  | [], [], _ => fun j h => by simp at h
  | u :: vs, k :: kss, hi => fun j h => by
    cases j with
    | zero => exact ⟨u, rfl, hi.1⟩
    | succ j => exact inner_at vs kss hi.2 j (by simpa using h)
  | [], _ :: _, hi => hi.elim
  | _ :: _, [], hi => hi.elim
theorem inner_looks {W : World} {base : Nat} {v : Value} {vs : List Value} {kss : List (List LookR)} (how : W.ownsRow base 68 1 v kss.length vs) (hin : InnerAt W base vs kss) : ∃ p c, v = .slice p kss.length c ∧ LooksRows W p kss := by
  obtain ⟨p, c, rfl⟩ := owns_form how
  refine ⟨p, c, rfl, fun j hj => ?_⟩
  rcases owns_slice how with ⟨-, h2⟩ | ⟨g, c', e, -, hg, hc⟩
  · omega
  · injection e with e1 e2 e3
    obtain ⟨u, hu, hr⟩ := inner_at vs kss hin j hj
    obtain ⟨q, d, rfl, hL⟩ := owns_looks hr
    exact ⟨g, 0, q, d, e1, hg, by simpa using hc j _ hu, hL⟩
end Go.Proofs.Ytgoilmiiegpnoaa
namespace Go.Proofs.Ytgoilmiiegpnoaa
open Go.RowKit Go.Shelf
attribute [local go_sem] Option.isSome_some Ext.cell Ext.frozen Ext.lt Ext.le Ext.lt_add Ext.le_add Ext.ne Ext.ne' lt2 lt3 lt4 lt5 le2 le3 le4
attribute [local go_sem] RExt.cell RExt.frozen RExt.lt RExt.le RExt.lt_add RExt.le_add RExt.ne RExt.ne'
theorem bool_info : (Try.prog.info? 4).map (fun i => (i.zero, i.size, i.bytes)) = some (some (.bool false), 1, 1) := by kernel_rfl
theorem ints_info : (Try.prog.info? 22).map (fun i => (i.zero, i.size, i.bytes)) = some (some (.slice none 0 0), 1, 24) := by kernel_rfl
def boolsOf (l : List Bool) : List Value := l.map Value.bool
theorem bools_at {w : World} {base g n : Nat} {tk : List Bool} (h : w.ownsRow base 4 1 (.slice (some ⟨g, 0, none⟩) n n) n (boolsOf tk)) (hl : tk.length = n) {j : Nat} (hj : j < n) : w.cell? ⟨g, j, none⟩ = some (.bool (tk.getD j false)) := by
  rw [h.cellAt j (by omega)]
  unfold boolsOf
  rw [List.getElem?_map, List.getElem?_eq_getElem (by omega), Option.map_some, List.getD_eq_getElem?_getD, List.getElem?_eq_getElem (by omega), Option.getD_some]
theorem bools_set (tk : List Bool) (j : Nat) : (boolsOf tk).set j (.bool true) = boolsOf (tk.set j true) := by unfold boolsOf; rw [List.map_set]
theorem cell1_at (w : World) (n : Nat) (hn : w.heap.size = n) (v : Value) (T : TypeId) : ∀ j u, [v][j]? = some u → (w.alloc (.cells #[v] T)).cell? ((⟨n, 0, none⟩ : Addr).add j) = some u := by
  subst hn
  intro j u hj
  have hl : j < 1 := by simpa using (List.getElem?_eq_some_iff.1 hj).1
  rw [addr_add]
  obtain rfl : j = 0 := by omega
  simp at hj
  subst hj
  simp [go_sem]
def GroupsPost (w : World) (L : List (List Int)) : Ending → World → Prop := fun e w' => Below w.heap.size w w' ∧ ∃ v fd, e = .returned v ∧ GrRows w' w.heap.size v fd ∧ fd.map IR.l = L
set_option maxRecDepth 100000 in
set_option maxHeartbeats 16000000 in
theorem groups_any (lp gp : Option Addr) (lc gc : Nat) (kss : List (List LookR)) (gs : List StateR) (t : Int) (w : World) (hL : LooksRows w lp kss) (hG : StatesAt w gp gs) (hg : ∀ g ∈ gs, guessB g = true) (hgl : gs.length ≤ 64) (ht : tickB t = true)
    (hk : ∀ ks ∈ kss, (∀ k ∈ ks, k.Fit) ∧ ks.length ≤ 4096) (hn : kss.length ≤ 16) :
    Calls Try.prog 36 #[.slice lp kss.length lc, .slice gp gs.length gc, .int .i64 t] w (GroupsPost w (groupsF (fun g i => decide ((missL g t (kss.getD i [])).length = 0)) kss.length gs)) := by
  have cm := Go.Lib.hid (fun i (hi : i < kss.length) j (hj : j < gs.length) (W : World) (p : Option Addr) (c : Nat) (h : LooksAt W p kss[i]) => misses_any gs[j] t p c kss[i] W (hg _ (List.getElem_mem hj)) ht (hk _ (List.getElem_mem hi)).2 h (fun q hq => (hk _ (List.getElem_mem hi)).1 _ (List.getElem_mem hq)))
  obtain ⟨V, hV⟩ : ∃ V, groupsF (fun g i => decide ((missL g t (kss.getD i [])).length = 0)) kss.length gs = V := ⟨_, rfl⟩
  rw [hV]
  unfold groupsF at hV
  have hV := Go.Lib.hid hV
  obtain ⟨F, hF⟩ : ∃ F : StateR → Nat → Bool, (fun g i => decide ((missL g t (kss.getD i [])).length = 0)) = F := ⟨_, rfl⟩
  have hFm : Hid (∀ i (hi : i < kss.length) g, F g i = decide ((missL g t kss[i]).length = 0)) := Go.Lib.hid fun i hi g => by rw [← hF]; simp [hi]
  simp only [hF] at hV
  clear hF
  have hL := Go.Lib.hid hL
  have hG := Go.Lib.hid hG
  obtain ⟨n, hnn⟩ : ∃ n, kss.length = n := ⟨_, rfl⟩
  rw [hnn] at hV hn ⊢
  have hnn := Go.Lib.hid hnn
  clear hg ht hk
  obtain ⟨ib, hib, hb0, hb1, hb2⟩ := info_parts bool_info
  obtain ⟨ii, hii, hq0, hq1, hq2⟩ := info_parts ints_info
  go_enter Try.func36, Try.ntmps36
  go_wp2_with (at_make; refine wpList_make_full _ rfl _ _ 84 rfl w.heap.size 4 ib (.bool false) 1 Try.underlying84 hib hb0 hb1 .i64 .i64 n n n rfl rfl rfl rfl (by rw [hb2]; omega) (by unfold maxLen; omega) (Nat.le_refl _) ?_; intro W1 ho1 hg1)
  have hB1 : Below w.heap.size w W1 := ⟨hg1.os, hg1.tape, hg1.output, hg1.size, fun k hk => hg1.block k hk (by simp)⟩
  have ho1' : W1.ownsRow w.heap.size 4 1 (.slice (some ⟨w.heap.size, 0, none⟩) n n) n (boolsOf (List.replicate n false)) := by
    have h := ho1
    rw [Nat.mul_one, show (Value.bool false).cells = #[.bool false] from rfl, toList_madeCells_one] at h
    unfold boolsOf
    rw [List.map_replicate]
    exact h
  have hGB1 : w.heap.size < W1.heap.size := (ho1.lt w.heap.size rfl).2
  clear ho1 hg1
  obtain ⟨R, hR⟩ : ∃ R, groupsA F n (List.replicate n false) [] gs = R := ⟨_, rfl⟩
  rw [hR] at hV
  have hR := Go.Lib.hid hR
  obtain ⟨GB, hGB⟩ : ∃ GB, w.heap.size = GB := ⟨_, rfl⟩
  have hGw : GB ≤ w.heap.size := by omega
  rw [hGB] at hB1 ho1' hGB1 ⊢
  have hGBh := Go.Lib.hid hGB
  clear hGB
  go_loopw [7, 22] (fun v u W => ∃ (i : Nat) (x : RExt W1 GB) (tk : List Bool) (fd : List IR), u = .int .i64 i ∧ W = x.now ∧ GrRows x.now W1.heap.size v fd ∧ x.now.ownsRow GB 4 1 (.slice (some ⟨GB, 0, none⟩) n n) n (boolsOf tk) ∧ Hid (i ≤ gs.length ∧ tk.length = n ∧ groupsA F n tk (fd.map IR.l) (gs.drop i) = R ∧ fd.length ≤ i)) (fun _ u _ => gs.length - (intOf u).toNat)
  case atStart => exact ⟨0, ⟨W1, BelowX.refl _ _ _⟩, List.replicate n false, [], rfl, rfl, GrRows.nil, ho1', Go.Lib.hid ⟨Nat.zero_le _, by simp, by simpa using hR.out, by simp⟩⟩
  case round =>
    obtain ⟨i, x, tk, fd, rfl, rfl, hM, hb, hi⟩ := hrel
    have xs := x.size
    obtain ⟨fp, fc, rfl⟩ := hM.form
    have hGx : GB < x.now.heap.size := by omega
    by_cases hlt : i < gs.length
    · have hlt2 : (i : Int) < gs.length := by omega
      obtain ⟨B, o, rfl, hB, r1, r2, r3, r4⟩ := hG.out i hlt
      have hBG : B < GB := by have := hGBh.out; omega
      have hBn : B ≠ GB := by omega
      have hB1' : B < W1.heap.size := by omega
      replace r1 := (hB1.cell (p := ⟨B, o + i * 4, none⟩) hBG).trans r1
      replace r2 := (hB1.cell (p := ⟨B, o + i * 4 + 1, none⟩) hBG).trans r2
      replace r3 := (hB1.cell (p := ⟨B, o + i * 4 + 2, none⟩) hBG).trans r3
      replace r4 := (hB1.cell (p := ⟨B, o + i * 4 + 3, none⟩) hBG).trans r4
      have : B < (x.now).heap.size := (by omega); have : B < (x.now).heap.size + 1 := (by omega); have : B < (x.now).heap.size + 1 + 1 := (by omega); have : B ≠ (x.now).heap.size := (by omega); have : B ≠ (x.now).heap.size + 1 := (by omega)
      go_wp2_with fail
      refine wp_named (fun W0 hW => ?_)
      have e0 : W0.cell? ⟨x.now.heap.size, 0, none⟩ = some (.int .i64 gs[i].x) := by rw [← hW]; simp [go_sem]
      have e1 : W0.cell? ⟨x.now.heap.size, 1, none⟩ = some (.int .i64 gs[i].y) := by rw [← hW]; simp [go_sem]
      have e2 : W0.cell? ⟨x.now.heap.size, 2, none⟩ = some (.int .i64 gs[i].u) := by rw [← hW]; simp [go_sem]
      have e3 : W0.cell? ⟨x.now.heap.size, 3, none⟩ = some (.int .i64 gs[i].v) := by rw [← hW]; simp [go_sem]
      have hM0 : GrRows W0 W1.heap.size (.slice fp fd.length fc) fd := by rw [← hW]; exact hM.alloc _
      have hb0' : W0.ownsRow GB 4 1 (.slice (some ⟨GB, 0, none⟩) n n) n (boolsOf tk) := by rw [← hW]; exact hb.alloc _
      have hx0 : BelowX GB W1.heap.size W1 W0 := by rw [← hW]; exact x.grew.alloc xs _
      have hs0 : x.now.heap.size < W0.heap.size := by rw [← hW]; simp
      clear hW
      have hGB0 : GB < W0.heap.size := by omega
      have hw0 : Below w.heap.size w W0 := (hGBh.out.symm ▸ hB1).trans ((hx0.mono (by have := hGBh.out; omega)).below (by have := hGBh.out; omega))
      have hL0 := Go.Lib.hid (hL.out.on hw0)
      clear hM hb
      generalize x.now.heap.size = QB at *
      have htk := hi.out.2.1
      have hE := hi.out.2.2.1
      have hfl := hi.out.2.2.2
      rw [drop_at hlt, groupsA] at hE
      have hFi := Go.Lib.hid (fun k (hk : k < n) => hFm.out k (by rw [hnn.out]; exact hk) gs[i])
      have cmi := Go.Lib.hid (fun k (hk : k < kss.length) => cm.out k hk i hlt)
      obtain ⟨G, hG0⟩ : ∃ G, grpA (F gs[i]) tk n 0 [] = G := ⟨_, rfl⟩
      rw [hG0] at hE
      have hGin := Go.Lib.hid (grpA_in (F gs[i]) tk n 0 [] (fun _ h => by simp at h))
      have hGl := grpA_len (F gs[i]) tk n 0 []
      rw [hG0] at hGin hGl
      simp only [List.length_nil, Nat.zero_add] at hGl
      have hG0 := Go.Lib.hid hG0
      have hE := Go.Lib.hid hE
      obtain ⟨i0, hi0, hz0, hz1, hz2⟩ := info_parts int_info
      generalize gs[i].x = g1 at *
      generalize gs[i].y = g2 at *
      generalize gs[i].u = g3 at *
      generalize gs[i].v = g4 at *
      go_loopw [11, 28] (fun v u W => ∃ (k : Nat) (y : Ext W0) (acc : List Int), u = .int .i64 k ∧ W = y.now ∧ y.now.ownsRow W0.heap.size 3 1 v acc.length (intsOf acc) ∧ Hid (k ≤ n ∧ acc.length ≤ k ∧ grpA (F gs[i]) tk (n - k) k acc = G)) (fun _ u _ => n - (intOf u).toNat)
      case atStart => exact ⟨0, ⟨W0, Below.refl _ _⟩, [], rfl, rfl, World.ownsRow_nil _ _ _ _, Go.Lib.hid ⟨Nat.zero_le _, by simp, by simpa using hG0.out⟩⟩
      case round =>
        obtain ⟨k, y, acc, rfl, rfl, hown, hk⟩ := hrel
        have ys := y.size
        have : QB < (y.now).heap.size := (by omega); have : QB < (y.now).heap.size + 1 := (by omega); have : QB < (y.now).heap.size + 1 + 1 := (by omega); have : QB ≠ (y.now).heap.size := (by omega); have : QB ≠ (y.now).heap.size + 1 := (by omega)
        by_cases hkn : k < n
        · have hkn2 : (k : Int) < (n : Int) := by omega
          have hkk : k < kss.length := by rw [hnn.out]; exact hkn
          obtain ⟨B2, o2, p2, c2, rfl, hB2, q1, hL2⟩ := hL0.out k hkk
          have : B2 < (y.now).heap.size := (by omega); have : B2 < (y.now).heap.size + 1 := (by omega); have : B2 < (y.now).heap.size + 1 + 1 := (by omega); have : B2 ≠ (y.now).heap.size := (by omega); have : B2 ≠ (y.now).heap.size + 1 := (by omega)
          have hbk := bools_at hb0' htk hkn
          have hGy : GB < y.now.heap.size := by omega
          have hEk := hk.out.2.2
          have hak := hk.out.2.1
          have hnk : n - k = (n - (k + 1)) + 1 := by omega
          rw [hnk, grpA] at hEk
          have hFk := hFi.out k hkn
          have cmk := cmi.out k hkk
          cases hb : tk.getD k false
          case true =>
            rw [hb] at hbk hEk
            rw [if_neg (by simp)] at hEk
            have key : Hid (k + 1 ≤ n ∧ acc.length ≤ k + 1 ∧ grpA (F gs[i]) tk (n - (k + 1)) (k + 1) acc = G) := Go.Lib.hid ⟨hkn, by omega, hEk⟩
            clear hEk hk hFk cmk hb
            go_wp2_with (first | ((first | with_reducible refine wp_region_ext2 (by kernel_rfl) (by kernel_rfl) ?_ | with_reducible refine wp_region_ext (by kernel_rfl) (by kernel_rfl) ?_); (repeat (first | go_big_quiet_step ((first | fail)) | quiet_step ((first | fail)))); refine wpQuiet_nil ?_; rintro _ ⟨yr, rfl⟩; have syr := Ext.size yr; (repeat (first | rw [World.size_alloc] at syr | rw [World.size_setCell] at syr | rw [World.size_drew] at syr)); have : B2 < yr.now.heap.size := (by omega); have : B2 ≤ yr.now.heap.size := (by omega); have : B2 < yr.now.heap.size + 1 + 1 := (by omega); have : QB < yr.now.heap.size := (by omega); have : QB ≤ yr.now.heap.size := (by omega); have : QB < yr.now.heap.size + 1 + 1 := (by omega)))
            refine ⟨⟨k + 1, ⟨_, ?_⟩, acc, by simp, rfl, ?_, key⟩, by simp [intOf]; omega⟩
            · repeat' (first | (with_reducible exact Below.refl _ _) | (with_reducible assumption) | (with_reducible refine Ext.below _ ?_ ?_) | (with_reducible refine Below.on ?_ (by with_reducible assumption) ?_) | (with_reducible refine Below.alloc ?_ ?_ _) | (with_reducible refine Below.drew ?_) | (with_reducible refine Below.setCell ?_ ?_ _) | (with_reducible exact Nat.le_refl _) | omega | (simp; done) | (simp [go_sem]; done) | (simp at *; omega))
            · dsimp only; exact (by repeat (first | exact hown | (with_reducible refine World.ownsRow.alloc ?_ _) | (with_reducible refine World.ownsRow.drew ?_) | (with_reducible refine owns_ext ?_ _)))
          case false =>
            rw [hb] at hbk hEk
            generalize kss[k].length = kl at *
            obtain ⟨ML, hML⟩ : ∃ M, missL gs[i] t kss[k] = M := ⟨_, rfl⟩
            rw [hML] at hFk
            have cmk := fun (W : World) (y : Below W0.heap.size W0 W) => cmk W p2 c2 (hL2.on y)
            simp only [hML] at cmk
            cases hz : decide (ML.length = 0)
            · rw [hz] at hFk
              rw [if_neg (by rw [hFk]; simp)] at hEk
              have hz' : ¬ ((ML.length : Int) = 0) := by simp at hz; simpa using hz
              have key : Hid (k + 1 ≤ n ∧ acc.length ≤ k + 1 ∧ grpA (F gs[i]) tk (n - (k + 1)) (k + 1) acc = G) := Go.Lib.hid ⟨hkn, by omega, hEk⟩
              clear hEk hk hFk hb hz hML
              go_wp2_with (first | ((first | with_reducible refine wp_region_ext2 (by kernel_rfl) (by kernel_rfl) ?_ | with_reducible refine wp_region_ext (by kernel_rfl) (by kernel_rfl) ?_); (repeat (first | go_big_quiet_step ((first | fail)) | quiet_step ((first | fail)))); refine wpQuiet_nil ?_; rintro _ ⟨yr, rfl⟩; have syr := Ext.size yr; (repeat (first | rw [World.size_alloc] at syr | rw [World.size_setCell] at syr | rw [World.size_drew] at syr)); have : B2 < yr.now.heap.size := (by omega); have : B2 ≤ yr.now.heap.size := (by omega); have : B2 < yr.now.heap.size + 1 + 1 := (by omega); have : QB < yr.now.heap.size := (by omega); have : QB ≤ yr.now.heap.size := (by omega); have : QB < yr.now.heap.size + 1 + 1 := (by omega)) | (go_at_call 27; refine (cmk _ (by repeat' (first | (with_reducible exact Below.refl _ _) | (with_reducible assumption) | (with_reducible refine Ext.below _ ?_ ?_) | (with_reducible refine Below.on ?_ (by with_reducible assumption) ?_) | (with_reducible refine Below.alloc ?_ ?_ _) | (with_reducible refine Below.drew ?_) | (with_reducible refine Below.setCell ?_ ?_ _) | (with_reducible exact Nat.le_refl _) | omega | (simp; done) | (simp [go_sem]; done) | (simp at *; omega)))).mono ?_; rintro _ W6 ⟨hb6, v6, rfl, how6⟩; obtain ⟨p6, n6', c6', rfl⟩ := owns_isSlice how6; obtain rfl := owns_len how6; have hby6 : Below W0.heap.size W0 W6 := (by refine Below.on ?_ hb6 (by omega); repeat' (first | (with_reducible exact Below.refl _ _) | (with_reducible assumption) | (with_reducible refine Ext.below _ ?_ ?_) | (with_reducible refine Below.on ?_ (by with_reducible assumption) ?_) | (with_reducible refine Below.alloc ?_ ?_ _) | (with_reducible refine Below.drew ?_) | (with_reducible refine Below.setCell ?_ ?_ _) | (with_reducible exact Nat.le_refl _) | omega | (simp; done) | (simp [go_sem]; done) | (simp at *; omega))); have hown := owns_below hown hb6; have hq6 : QB < W6.heap.size := (by have := hby6.size; omega); have hs6 : W0.heap.size ≤ W6.heap.size := hby6.size; have hs7 : W0.heap.size ≤ W6.heap.size + 1 := (by omega); clear cmk how6))
              exact ⟨⟨k + 1, ⟨W6, hby6⟩, acc, by simp, rfl, hown, key⟩, by simp [intOf]; omega⟩
            · rw [hz] at hFk
              rw [if_pos ⟨rfl, hFk⟩] at hEk
              have hz' : (ML.length : Int) = 0 := by simp at hz; simpa using hz
              have hadd := Go.Lib.hid (intsOf_add acc (k : Int))
              have key : Hid (k + 1 ≤ n ∧ (acc ++ [(k : Int)]).length ≤ k + 1 ∧ grpA (F gs[i]) tk (n - (k + 1)) (k + 1) (acc ++ [(k : Int)]) = G) := Go.Lib.hid ⟨hkn, by rw [List.length_append, List.length_cons, List.length_nil]; omega, hEk⟩
              clear hEk hk hFk hb hz hML
              go_wp2_with (first | ((first | with_reducible refine wp_region_ext2 (by kernel_rfl) (by kernel_rfl) ?_ | with_reducible refine wp_region_ext (by kernel_rfl) (by kernel_rfl) ?_); (repeat (first | go_big_quiet_step ((first | fail)) | quiet_step ((first | fail)))); refine wpQuiet_nil ?_; rintro _ ⟨yr, rfl⟩; have syr := Ext.size yr; (repeat (first | rw [World.size_alloc] at syr | rw [World.size_setCell] at syr | rw [World.size_drew] at syr)); have : B2 < yr.now.heap.size := (by omega); have : B2 ≤ yr.now.heap.size := (by omega); have : B2 < yr.now.heap.size + 1 + 1 := (by omega); have : QB < yr.now.heap.size := (by omega); have : QB ≤ yr.now.heap.size := (by omega); have : QB < yr.now.heap.size + 1 + 1 := (by omega)) | (go_at_call 27; refine (cmk _ (by repeat' (first | (with_reducible exact Below.refl _ _) | (with_reducible assumption) | (with_reducible refine Ext.below _ ?_ ?_) | (with_reducible refine Below.on ?_ (by with_reducible assumption) ?_) | (with_reducible refine Below.alloc ?_ ?_ _) | (with_reducible refine Below.drew ?_) | (with_reducible refine Below.setCell ?_ ?_ _) | (with_reducible exact Nat.le_refl _) | omega | (simp; done) | (simp [go_sem]; done) | (simp at *; omega)))).mono ?_; rintro _ W6 ⟨hb6, v6, rfl, how6⟩; obtain ⟨p6, n6', c6', rfl⟩ := owns_isSlice how6; obtain rfl := owns_len how6; have hby6 : Below W0.heap.size W0 W6 := (by refine Below.on ?_ hb6 (by omega); repeat' (first | (with_reducible exact Below.refl _ _) | (with_reducible assumption) | (with_reducible refine Ext.below _ ?_ ?_) | (with_reducible refine Below.on ?_ (by with_reducible assumption) ?_) | (with_reducible refine Below.alloc ?_ ?_ _) | (with_reducible refine Below.drew ?_) | (with_reducible refine Below.setCell ?_ ?_ _) | (with_reducible exact Nat.le_refl _) | omega | (simp; done) | (simp [go_sem]; done) | (simp at *; omega))); have hown := owns_below hown hb6; have hq6 : QB < W6.heap.size := (by have := hby6.size; omega); have hs6 : W0.heap.size ≤ W6.heap.size := hby6.size; have hs7 : W0.heap.size ≤ W6.heap.size + 1 := (by omega); clear cmk how6) | (at_builtin; refine wpList_append_own _ rfl _ _ 22 rfl W0.heap.size 3 i0 _ 1 8 Try.underlying22 hi0 hz0 hz1 hz2 rfl (by decide) _ acc.length (intsOf acc) rfl (by repeat (first | exact hown | (with_reducible refine World.ownsRow.alloc ?_ _) | (with_reducible refine World.ownsRow.drew ?_) | (with_reducible refine owns_ext ?_ _))) _ 1 1 _ rfl rfl (cells1_new _ _ _) (by intro u hu; simp only [List.mem_cons, List.not_mem_nil, or_false] at hu; subst hu; rfl) (by unfold maxLen; omega) (by omega) (by (try simp only [World.size_alloc]); omega) ?_; intro v' W2 hown' hgrow _; have hbel : Below W0.heap.size W0 W2 := (by refine below_grown (e := 3) (size := 1) (n := acc.length) (xs := intsOf acc) ?_ (by repeat (first | exact hown | (with_reducible refine World.ownsRow.alloc ?_ _) | (with_reducible refine World.ownsRow.drew ?_) | (with_reducible refine owns_ext ?_ _))) (Nat.le_refl _) (by (try simp only [World.size_alloc]); omega) hgrow; repeat' (first | (with_reducible exact Below.refl _ _) | (with_reducible assumption) | (with_reducible refine Ext.below _ ?_ ?_) | (with_reducible refine Below.on ?_ (by with_reducible assumption) ?_) | (with_reducible refine Below.alloc ?_ ?_ _) | (with_reducible refine Below.drew ?_) | (with_reducible refine Below.setCell ?_ ?_ _) | (with_reducible exact Nat.le_refl _) | omega | (simp; done) | (simp [go_sem]; done) | (simp at *; omega)))))
              exact ⟨⟨k + 1, ⟨W2, hbel⟩, acc ++ [(k : Int)], by simp, rfl, by rw [hadd.out, List.length_append]; exact hown', key⟩, by simp [intOf]; omega⟩
        · obtain rfl : k = n := by have := hk.out.1; omega
          have hEk := hk.out.2.2
          rw [Nat.sub_self, grpA] at hEk
          subst hEk
          have hge : ¬ (k : Int) < (k : Int) := by omega
          have hE := hE.out
          obtain ⟨ap, ac, rfl⟩ := owns_form hown
          by_cases hlen : acc.length < 2
          · rw [if_pos hlen] at hE
            have hlen2 : (acc.length : Int) < 2 := by omega
            have key : Hid (i + 1 ≤ gs.length ∧ tk.length = k ∧ groupsA F k tk (fd.map IR.l) (gs.drop (i + 1)) = R ∧ fd.length ≤ i + 1) := Go.Lib.hid ⟨hlt, htk, hE, by omega⟩
            clear hE hk hi hG0
            go_wp2_with (first | ((first | with_reducible refine wp_region_ext2 (by kernel_rfl) (by kernel_rfl) ?_ | with_reducible refine wp_region_ext (by kernel_rfl) (by kernel_rfl) ?_); (repeat (first | go_big_quiet_step ((first | fail)) | quiet_step ((first | fail)))); refine wpQuiet_nil ?_; rintro _ ⟨yr, rfl⟩; have syr := Ext.size yr; (repeat (first | rw [World.size_alloc] at syr | rw [World.size_setCell] at syr | rw [World.size_drew] at syr)); have : QB < yr.now.heap.size := (by omega); have : QB ≤ yr.now.heap.size := (by omega); have : QB < yr.now.heap.size + 1 + 1 := (by omega)))
            have hxy : BelowX GB W1.heap.size W1 y.now := hx0.trans ((BelowX.of y.grew).mono (by have := hx0.size; omega))
            exact ⟨⟨i + 1, ⟨y.now, hxy⟩, tk, fd, by simp, rfl, hM0.on y.grew, owns_ext hb0' y, key⟩, by simp [intOf]; omega⟩
          · rw [if_neg hlen] at hE
            have hlen2 : ¬ ((acc.length : Int) < 2) := by omega
            have hxy : BelowX GB W1.heap.size W1 y.now := hx0.trans ((BelowX.of y.grew).mono (by have := hx0.size; omega))
            have hM2 := hM0.on y.grew
            have hb2 := owns_ext hb0' y
            have hGB2 : GB < y.now.heap.size := y.lt hGB0
            have hown2 := hown
            obtain ⟨ap', ac', eI, hI⟩ := owns_ints hown
            injection eI with eI1 eI2 eI3
            rw [← eI1] at hI
            clear eI1 eI2 eI3 ap' ac' hown hM0 hb0' hk hG0 hi hFi cmi hL0
            have hI := Go.Lib.hid hI
            have hx2 := hxy
            have hW12 : W1.heap.size ≤ y.now.heap.size := hxy.size
            have hW10 : W1.heap.size ≤ W0.heap.size := hx0.size
            have hlow := Go.Lib.hid (fun (B : Nat) (h : (Value.slice ap acc.length ac).ownBlock = some B) => (hown2.lt B h).1)
            go_wp2_with (first | ((first | with_reducible refine wp_region_ext2 (by kernel_rfl) (by kernel_rfl) ?_ | with_reducible refine wp_region_ext (by kernel_rfl) (by kernel_rfl) ?_); (repeat (first | go_big_quiet_step ((first | fail)) | quiet_step ((first | fail)))); refine wpQuiet_nil ?_; rintro _ ⟨yr, rfl⟩; have syr := Ext.size yr; (repeat (first | rw [World.size_alloc] at syr | rw [World.size_setCell] at syr | rw [World.size_drew] at syr)); have : QB < yr.now.heap.size := (by omega); have : QB ≤ yr.now.heap.size := (by omega); have : QB < yr.now.heap.size + 1 + 1 := (by omega)))
            generalize y.now = W2 at *
            clear y hxy e0 e1 e2 e3
            go_loopw [56] (fun u W => ∃ (m : Nat) (z : RExt W2 GB) (tk' : List Bool), u = .int .i64 m ∧ W = z.now ∧ z.now.ownsRow GB 4 1 (.slice (some ⟨GB, 0, none⟩) k k) k (boolsOf tk') ∧ Hid (m ≤ acc.length ∧ tk'.length = k ∧ markA tk' (acc.drop m) = markA tk acc)) (fun u _ => acc.length - (intOf u).toNat)
            case atStart => exact ⟨0, ⟨W2, BelowX.refl _ _ _⟩, tk, rfl, rfl, hb2, Go.Lib.hid ⟨Nat.zero_le _, htk, by simp⟩⟩
            case round =>
              obtain ⟨m, z, tk', rfl, rfl, hbz, hm⟩ := hrel
              have zs := z.size
              have hGz : GB < z.now.heap.size := by omega
              by_cases hma : m < acc.length
              · have hma2 : (m : Int) < acc.length := by omega
                have hm64 : m < 1000 := by omega
                obtain ⟨B3, o3, rfl, hB3, s1⟩ := hI.out m hma
                have hB3G : B3 ≠ GB := by have := hlow.out B3 rfl; omega
                have hB3z : B3 < z.now.heap.size := by omega
                have hin := hGin.out acc[m] (List.getElem_mem hma)
                have hE3 := hm.out.2.2
                have htk' := hm.out.2.1
                rw [drop_at hma, markA] at hE3
                generalize acc[m] = gm at *
                obtain ⟨hin0, hin1⟩ := hin
                obtain ⟨gn, rfl⟩ := Int.eq_ofNat_of_zero_le hin0
                have hgk : gn < k := by omega
                have hgk2 : (gn : Int) < (k : Int) := by omega
                have hc := bools_at hbz htk' hgk
                have hf := hbz.frozenAt gn
                have hst := Go.Lib.hid (hbz.stored gn (.bool true)).1
                have key : Hid (m + 1 ≤ acc.length ∧ (tk'.set gn true).length = k ∧ markA (tk'.set gn true) (acc.drop (m + 1)) = markA tk acc) := Go.Lib.hid ⟨hma, by simpa using htk', by simpa using hE3⟩
                clear hE3 hm hin0 hin1
                go_wp2_with (first | ((first | with_reducible refine wp_region_ext2 (by kernel_rfl) (by kernel_rfl) ?_ | with_reducible refine wp_region_ext (by kernel_rfl) (by kernel_rfl) ?_); (repeat (first | go_big_quiet_step ((first | fail)) | quiet_step ((first | fail)))); refine wpQuiet_nil ?_; rintro _ ⟨yr, rfl⟩; have syr := Ext.size yr; (repeat (first | rw [World.size_alloc] at syr | rw [World.size_setCell] at syr | rw [World.size_drew] at syr)); have : B3 < yr.now.heap.size := (by omega); have : B3 ≤ yr.now.heap.size := (by omega); have : B3 < yr.now.heap.size + 1 + 1 := (by omega); have : GB < yr.now.heap.size := (by omega); have : GB ≤ yr.now.heap.size := (by omega); have : GB < yr.now.heap.size + 1 + 1 := (by omega)))
                exact ⟨⟨m + 1, ⟨_, z.grew.ring gn _⟩, tk'.set gn true, by simp, rfl, by rw [← bools_set]; exact hst.out, key⟩, by simp [intOf]; omega⟩
              · have hma2 : ¬ (m : Int) < acc.length := by omega
                have hE3 := hm.out.2.2
                have htk' := hm.out.2.1
                rw [drop_end hma, markA] at hE3
                rw [← hE3] at hE
                have hz1s : W1.heap.size ≤ z.now.heap.size := by omega
                have hfd : fd.length ≤ 64 := by omega
                have hk16 : acc.length ≤ 1000 := by omega
                clear hm hE3
                go_wp2_with (first | ((first | with_reducible refine wp_region_ext2 (by kernel_rfl) (by kernel_rfl) ?_ | with_reducible refine wp_region_ext (by kernel_rfl) (by kernel_rfl) ?_); (repeat (first | go_big_quiet_step ((first | fail)) | quiet_step ((first | fail)))); refine wpQuiet_nil ?_; rintro _ ⟨yr, rfl⟩; have syr := Ext.size yr; (repeat (first | rw [World.size_alloc] at syr | rw [World.size_setCell] at syr | rw [World.size_drew] at syr))) | (at_builtin; go_loud (refine wpListW_named (fun W12 hWn => ?_); have sn : W12.heap.size = z.now.heap.size + 1 := (by rw [← hWn]; simp); have hMn : GrRows W12 W1.heap.size (.slice fp fd.length fc) fd := (by rw [← hWn]; exact (hM2.belowX hGB1 z.grew).alloc _); have hgrp : W12.ownsRow W1.heap.size 3 1 (.slice ap acc.length ac) acc.length (intsOf acc) := (by rw [← hWn]; exact (owns_base (owns_belowX hown2 hGB0 z.grew) hW10).alloc _); have hbn : W12.ownsRow GB 4 1 (.slice (some ⟨GB, 0, none⟩) k k) k (boolsOf tk') := (by rw [← hWn]; exact hbz.alloc _); have hBn : BelowX GB W1.heap.size W1 W12 := (by rw [← hWn]; exact (z.belowX hx2 hW12).alloc hz1s _); have hcn : ∀ j u, [.slice ap acc.length ac][j]? = some u → W12.cell? ((⟨z.now.heap.size, 0, none⟩ : Addr).add j) = some u := (by rw [← hWn]; exact cell1_at _ _ rfl _ _); clear hWn; refine wpList_append_own _ rfl _ _ 50 rfl W1.heap.size 22 ii _ 1 24 Try.underlying50 hii hq0 hq1 hq2 rfl (by decide) _ fd.length (ivals fd) rfl hMn.l ⟨z.now.heap.size, 0, none⟩ 1 1 [.slice ap acc.length ac] rfl rfl hcn (by intro u hu; rw [List.mem_singleton.1 hu]; rfl) (by unfold maxLen; omega) (by omega) (by omega) ?_; intro v' W13 ho13 hgr _; have hM13 := hMn.add (r := ⟨ap, ac, acc⟩) hgrp ho13 hgr; have hb13 := hbn.kept hgr (owns_apart2 hbn hMn.l (by decide)); have hB13 := belowX_grown hBn hMn.l (Nat.le_refl _) (by omega) hgr; clear hMn hgrp hbn hBn hcn ho13 hgr)))
                have key : Hid (i + 1 ≤ gs.length ∧ tk'.length = k ∧ groupsA F k tk' ((fd ++ [(⟨ap, ac, acc⟩ : IR)]).map IR.l) (gs.drop (i + 1)) = R ∧ (fd ++ [(⟨ap, ac, acc⟩ : IR)]).length ≤ i + 1) := Go.Lib.hid ⟨hlt, htk', by rw [List.map_append]; exact hE, by rw [List.length_append, List.length_cons, List.length_nil]; omega⟩
                exact ⟨⟨i + 1, ⟨W13, hB13⟩, tk', fd ++ [⟨ap, ac, acc⟩], by simp, rfl, hM13, hb13, key⟩, by simp [intOf]; omega⟩
    · have hge : ¬ (i : Int) < gs.length := by omega
      have hE := hi.out.2.2.1
      have htk := hi.out.2.1
      have hfl := hi.out.2.2.2
      rw [drop_end hlt, groupsA] at hE
      subst hE
      have hi' : i ≤ 64 := by have := hi.out.1; omega
      clear hi
      go_wp2_with (first | ((first | with_reducible refine wp_region_ext2 (by kernel_rfl) (by kernel_rfl) ?_ | with_reducible refine wp_region_ext (by kernel_rfl) (by kernel_rfl) ?_); (repeat (first | go_big_quiet_step ((first | fail)) | quiet_step ((first | fail)))); refine wpQuiet_nil ?_; rintro _ ⟨yr, rfl⟩; have syr := Ext.size yr; (repeat (first | rw [World.size_alloc] at syr | rw [World.size_setCell] at syr | rw [World.size_drew] at syr))))
      go_loopw [7, 71] (fun v u W => ∃ (k : Nat) (z : RExt W1 GB) (fd' : List IR), u = .int .i64 k ∧ W = z.now ∧ GrRows z.now W1.heap.size v fd' ∧ z.now.ownsRow GB 4 1 (.slice (some ⟨GB, 0, none⟩) n n) n (boolsOf tk) ∧ Hid (k ≤ n ∧ fd'.length ≤ 64 + k ∧ restA tk (n - k) k (fd'.map IR.l) = V)) (fun _ u _ => n - (intOf u).toNat)
      case atStart => exact ⟨0, x, fd, rfl, rfl, hM, hb, Go.Lib.hid ⟨Nat.zero_le _, by omega, by simpa using hV.out⟩⟩
      case round =>
        clear hM hb xs
        obtain ⟨k, z, fd', rfl, rfl, hMz, hbz, hk⟩ := hrel
        have zs := z.size
        obtain ⟨fp, fc, rfl⟩ := hMz.form
        have hGz : GB < z.now.heap.size := by omega
        by_cases hkn : k < n
        · have hkn2 : (k : Int) < (n : Int) := by omega
          have hc := bools_at hbz htk hkn
          have hEk := hk.out.2.2
          have hfk := hk.out.2.1
          have hnk : n - k = (n - (k + 1)) + 1 := by omega
          rw [hnk, restA] at hEk
          cases hbk : tk.getD k false
          case true =>
            rw [hbk] at hc hEk
            rw [if_pos rfl] at hEk
            have key : Hid (k + 1 ≤ n ∧ fd'.length ≤ 64 + (k + 1) ∧ restA tk (n - (k + 1)) (k + 1) (fd'.map IR.l) = V) := Go.Lib.hid ⟨hkn, by omega, hEk⟩
            clear hEk hk hbk
            go_wp2_with (first | ((first | with_reducible refine wp_region_ext2 (by kernel_rfl) (by kernel_rfl) ?_ | with_reducible refine wp_region_ext (by kernel_rfl) (by kernel_rfl) ?_); (repeat (first | go_big_quiet_step ((first | fail)) | quiet_step ((first | fail)))); refine wpQuiet_nil ?_; rintro _ ⟨yr, rfl⟩; have syr := Ext.size yr; (repeat (first | rw [World.size_alloc] at syr | rw [World.size_setCell] at syr | rw [World.size_drew] at syr)); have : GB < yr.now.heap.size := (by omega); have : GB ≤ yr.now.heap.size := (by omega); have : GB < yr.now.heap.size + 1 + 1 := (by omega)))
            exact ⟨⟨k + 1, z, fd', by simp, rfl, hMz, hbz, key⟩, by simp [intOf]; omega⟩
          case false =>
            rw [hbk] at hc hEk
            rw [if_neg (by simp)] at hEk
            have hfd : fd'.length ≤ 100 := by omega
            clear hk hbk
            go_wp2_with (first | ((first | with_reducible refine wp_region_ext2 (by kernel_rfl) (by kernel_rfl) ?_ | with_reducible refine wp_region_ext (by kernel_rfl) (by kernel_rfl) ?_); (repeat (first | go_big_quiet_step ((first | fail)) | quiet_step ((first | fail)))); refine wpQuiet_nil ?_; rintro _ ⟨yr, rfl⟩; have syr := Ext.size yr; (repeat (first | rw [World.size_alloc] at syr | rw [World.size_setCell] at syr | rw [World.size_drew] at syr)); have : GB < yr.now.heap.size := (by omega); have : GB ≤ yr.now.heap.size := (by omega); have : GB < yr.now.heap.size + 1 + 1 := (by omega)) | (at_builtin; go_loud (refine wpListW_named (fun W12 hWn => ?_); have sn : W12.heap.size = z.now.heap.size + 1 + 1 := (by rw [← hWn]; simp); have hMn : GrRows W12 W1.heap.size (.slice fp fd'.length fc) fd' := (by rw [← hWn]; exact (hMz.alloc _).alloc _); have hgrp : W12.ownsRow W1.heap.size 3 1 (.slice (some ⟨z.now.heap.size, 0, none⟩) 1 1) 1 (intsOf [(k : Int)]) := (by rw [← hWn]; exact (World.ownsRow_lit z.now #[.int .i64 (k : Int)] 1 zs (by decide) rfl).alloc _); have hbn : W12.ownsRow GB 4 1 (.slice (some ⟨GB, 0, none⟩) n n) n (boolsOf tk) := (by rw [← hWn]; exact (hbz.alloc _).alloc _); have hBn : BelowX GB W1.heap.size W1 W12 := (by rw [← hWn]; exact (z.grew.alloc zs _).alloc (by simp only [World.size_alloc]; omega) _); have hcn : ∀ j u, [.slice (some ⟨z.now.heap.size, 0, none⟩) 1 1][j]? = some u → W12.cell? ((⟨z.now.heap.size + 1, 0, none⟩ : Addr).add j) = some u := (by rw [← hWn]; exact cell1_at _ _ (by simp) _ _); clear hWn; refine wpList_append_own _ rfl _ _ 50 rfl W1.heap.size 22 ii _ 1 24 Try.underlying50 hii hq0 hq1 hq2 rfl (by decide) _ fd'.length (ivals fd') rfl hMn.l ⟨z.now.heap.size + 1, 0, none⟩ 1 1 [.slice (some ⟨z.now.heap.size, 0, none⟩) 1 1] rfl rfl hcn (by intro u hu; rw [List.mem_singleton.1 hu]; rfl) (by unfold maxLen; omega) (by omega) (by omega) ?_; intro v' W13 ho13 hgr _; have hM13 := hMn.add (r := ⟨some ⟨z.now.heap.size, 0, none⟩, 1, [(k : Int)]⟩) hgrp ho13 hgr; have hb13 := hbn.kept hgr (owns_apart2 hbn hMn.l (by decide)); have hB13 := belowX_grown hBn hMn.l (Nat.le_refl _) (by omega) hgr; clear hMn hgrp hbn hBn hcn ho13 hgr)))
            have key : Hid (k + 1 ≤ n ∧ (fd' ++ [(⟨some ⟨z.now.heap.size, 0, none⟩, 1, [(k : Int)]⟩ : IR)]).length ≤ 64 + (k + 1) ∧ restA tk (n - (k + 1)) (k + 1) ((fd' ++ [(⟨some ⟨z.now.heap.size, 0, none⟩, 1, [(k : Int)]⟩ : IR)]).map IR.l) = V) := Go.Lib.hid ⟨hkn, by rw [List.length_append, List.length_cons, List.length_nil]; omega, by rw [List.map_append]; exact hEk⟩
            exact ⟨⟨k + 1, ⟨W13, hB13⟩, fd' ++ [⟨some ⟨z.now.heap.size, 0, none⟩, 1, [(k : Int)]⟩], by simp, rfl, hM13, hb13, key⟩, by simp [intOf]; omega⟩
        · obtain rfl : k = n := by have := hk.out.1; omega
          have hEk := hk.out.2.2
          rw [Nat.sub_self, restA] at hEk
          have hge2 : ¬ (k : Int) < (k : Int) := by omega
          clear hk
          have hBw : Below w.heap.size w z.now := (hGBh.out.symm ▸ hB1).trans ((z.grew.mono (by have := hGBh.out; omega)).below (by have := hGBh.out; omega))
          go_wp2_with (first | ((first | with_reducible refine wp_region_ext2 (by kernel_rfl) (by kernel_rfl) ?_ | with_reducible refine wp_region_ext (by kernel_rfl) (by kernel_rfl) ?_); (repeat (first | go_big_quiet_step ((first | fail)) | quiet_step ((first | fail)))); refine wpQuiet_nil ?_; rintro _ ⟨yr, rfl⟩; have syr := Ext.size yr; (repeat (first | rw [World.size_alloc] at syr | rw [World.size_setCell] at syr | rw [World.size_drew] at syr))))
          go_returns
          exact ⟨hBw, _, fd', rfl, hMz.down (by have := hGBh.out; omega), hEk⟩
end Go.Proofs.Ytgoilmiiegpnoaa
namespace Go.Proofs.Ytgoilmiiegpnoaa
open Go.RowKit Go.Shelf
attribute [local go_sem] Option.isSome_some Ext.cell Ext.frozen Ext.lt Ext.le Ext.lt_add Ext.le_add Ext.ne Ext.ne' lt2 lt3 lt4 lt5 le2 le3 le4
/-- What Groups gives back: groups, and an error. -/
structure GroupsR where
  l : List (List Int)
  e : Int
def groupsR (s : SkyR) (ts : List TrR) (gs : List StateR) (t : Int) : GroupsR :=
  if skyE s = 0 then (if 16 < ts.length then ⟨[], 8⟩ else match allR s ts with
    | .ok kss => if guessesE gs t = 0 then ⟨groupsF (fun g i => decide ((missL g t (kss.getD i [])).length = 0)) kss.length gs, 0⟩ else ⟨[], guessesE gs t⟩
    | .error e => ⟨[], e⟩) else ⟨[], skyE s⟩
def GsPost (w : World) (r : GroupsR) : Ending → World → Prop := fun e w' => Below w.heap.size w w' ∧ ∃ v fd, e = .returned (.tuple #[v, .int .i64 r.e]) ∧ GrRows w' w.heap.size v fd ∧ fd.map IR.l = r.l
theorem allA_fit {s : SkyR} (hE : skyE s = 0) : ∀ {ts : List TrR} {acc kss : List (List LookR)}, (∀ ks ∈ acc, (∀ k ∈ ks, k.Fit) ∧ ks.length ≤ 4096) → allA s acc ts = .ok kss → (∀ ks ∈ kss, (∀ k ∈ ks, k.Fit) ∧ ks.length ≤ 4096) ∧ kss.length = acc.length + ts.length := by
  intro ts
  induction ts with
  | nil => intro acc kss h e; injection e with e; subst e; exact ⟨h, rfl⟩
  | cons t ts ih =>
    intro acc kss h e
    rw [allA] at e
    cases hr : looksR s t.l with
    | error e' => rw [hr] at e; cases e
    | ok ks =>
      rw [hr] at e
      have hf := looksR_fit hE hr
      have := ih (acc := acc ++ [ks]) (fun u hu => by
        rcases List.mem_append.1 hu with hu | hu
        · exact h u hu
        · rw [List.mem_singleton.1 hu]; exact ⟨hf.1, by omega⟩) e
      refine ⟨this.1, ?_⟩
      rw [this.2, List.length_append, List.length_cons, List.length_cons, List.length_nil]; omega
theorem allR_fit {s : SkyR} {ts : List TrR} {kss : List (List LookR)} (h : allR s ts = .ok kss) : (∀ ks ∈ kss, (∀ k ∈ ks, k.Fit) ∧ ks.length ≤ 4096) ∧ kss.length = ts.length := by
  unfold allR at h
  by_cases h1 : skyE s = 0
  · rw [if_pos h1] at h
    have := allA_fit h1 (by simp) h
    simpa using this
  · rw [if_neg h1] at h; cases h
set_option maxRecDepth 100000 in
set_option maxHeartbeats 16000000 in
theorem Groups_any (s : SkyR) (tp gp : Option Addr) (tc gc : Nat) (ts : List TrR) (gs : List StateR) (t : Int) (w : World) (hA : s.At w) (hT : TracksAt w tp ts) (hg : StatesAt w gp gs) :
    Calls Try.prog 15 #[s.val, .slice tp ts.length tc, .slice gp gs.length gc, .int .i64 t] w (GsPost w (groupsR s ts gs t)) := by
  have cs := fun (W : World) (y : Below w.heap.size w W) => Check_any s W (hA.on y)
  have cl := fun (W : World) (y : Below w.heap.size w W) (h : ts.length ≤ 4096) => allLooks_any s tp tc ts W h (hA.on y) (hT.on y)
  have cg' := fun (W : World) (y : Below w.heap.size w W) => checkGuesses_any gp gc gs t W (hg.on y)
  have ce := fun e (h : allR s ts = .error e) => allR_err h
  have ck := fun r (h : allR s ts = .ok r) => allR_fit h
  have hg := Go.Lib.hid hg
  obtain ⟨V, hV⟩ : ∃ V, groupsR s ts gs t = V := ⟨_, rfl⟩
  rw [hV]
  unfold groupsR at hV
  clear hA hT
  generalize allR s ts = r at *
  generalize ts.length = lt' at *
  clear ts
  unfold SkyR.val at *
  generalize skyE s = se at *
  generalize s.cats.length = n1 at *; generalize s.cp = n2 at *; generalize s.cc = n3 at *; generalize s.bodies.length = n4 at *; generalize s.bp = n5 at *; generalize s.bc = n6 at *; generalize s.sts.length = n7 at *; generalize s.sp = n8 at *; generalize s.sc = n9 at *; generalize s.home = n0 at *
  by_cases hse : se = 0
  case neg =>
    rw [if_neg hse] at hV
    subst hV
    go_enter Try.func15, Try.ntmps15
    go_wp2_with (first | ((first | with_reducible refine wp_region_ext2 (by kernel_rfl) (by kernel_rfl) ?_ | with_reducible refine wp_region_ext (by kernel_rfl) (by kernel_rfl) ?_); (repeat (first | go_big_quiet_step ((first | (go_at_call 28; with_reducible exact Calls.ext (cs _ (by repeat' (first | (with_reducible exact Below.refl _ _) | (with_reducible assumption) | (with_reducible refine Ext.below _ ?_ ?_) | (with_reducible refine Below.on ?_ (by with_reducible assumption) ?_) | (with_reducible refine Below.alloc ?_ ?_ _) | (with_reducible refine Below.drew ?_) | (with_reducible refine Below.setCell ?_ ?_ _) | (with_reducible exact Nat.le_refl _) | omega | (simp; done) | (simp [go_sem]; done) | (simp at *; omega))))))) | quiet_step ((first | (go_at_call 28; with_reducible exact Calls.ext (cs _ (by repeat' (first | (with_reducible exact Below.refl _ _) | (with_reducible assumption) | (with_reducible refine Ext.below _ ?_ ?_) | (with_reducible refine Below.on ?_ (by with_reducible assumption) ?_) | (with_reducible refine Below.alloc ?_ ?_ _) | (with_reducible refine Below.drew ?_) | (with_reducible refine Below.setCell ?_ ?_ _) | (with_reducible exact Nat.le_refl _) | omega | (simp; done) | (simp [go_sem]; done) | (simp at *; omega))))))))); refine wpQuiet_nil ?_; rintro _ ⟨yr, rfl⟩; have syr := Ext.size yr; (repeat (first | rw [World.size_alloc] at syr | rw [World.size_setCell] at syr | rw [World.size_drew] at syr))) | (go_at_call 28; (first | with_reducible refine (Calls.giv2 (cs _ (by repeat' (first | (with_reducible exact Below.refl _ _) | (with_reducible assumption) | (with_reducible refine Ext.below _ ?_ ?_) | (with_reducible refine Below.on ?_ (by with_reducible assumption) ?_) | (with_reducible refine Below.alloc ?_ ?_ _) | (with_reducible refine Below.drew ?_) | (with_reducible refine Below.setCell ?_ ?_ _) | (with_reducible exact Nat.le_refl _) | omega | (simp; done) | (simp [go_sem]; done) | (simp at *; omega))))).mono ?_ | with_reducible refine (Calls.giv (cs _ (by repeat' (first | (with_reducible exact Below.refl _ _) | (with_reducible assumption) | (with_reducible refine Ext.below _ ?_ ?_) | (with_reducible refine Below.on ?_ (by with_reducible assumption) ?_) | (with_reducible refine Below.alloc ?_ ?_ _) | (with_reducible refine Below.drew ?_) | (with_reducible refine Below.setCell ?_ ?_ _) | (with_reducible exact Nat.le_refl _) | omega | (simp; done) | (simp [go_sem]; done) | (simp at *; omega))))).mono ?_); rintro _ _ ⟨y1, rfl, rfl⟩; have sy1 := Ext.size y1; (repeat (first | rw [World.size_alloc] at sy1 | rw [World.size_setCell] at sy1 | rw [World.size_drew] at sy1))))
    go_returns
    refine ⟨?_, _, [], rfl, GrRows.nil, rfl⟩
    repeat' (first | (with_reducible exact Below.refl _ _) | (with_reducible assumption) | (with_reducible refine Ext.below _ ?_ ?_) | (with_reducible refine Below.on ?_ (by with_reducible assumption) ?_) | (with_reducible refine Below.alloc ?_ ?_ _) | (with_reducible refine Below.drew ?_) | (with_reducible refine Below.setCell ?_ ?_ _) | (with_reducible exact Nat.le_refl _) | omega | (simp; done) | (simp [go_sem]; done) | (simp at *; omega))
  rw [if_pos hse] at hV
  subst hse
  by_cases hl : 16 < lt'
  · rw [if_pos hl] at hV
    subst hV
    have hl2 : (16 : Int) < (lt' : Int) := by omega
    go_enter Try.func15, Try.ntmps15
    go_wp2_with (first | ((first | with_reducible refine wp_region_ext2 (by kernel_rfl) (by kernel_rfl) ?_ | with_reducible refine wp_region_ext (by kernel_rfl) (by kernel_rfl) ?_); (repeat (first | go_big_quiet_step ((first | (go_at_call 28; with_reducible exact Calls.ext (cs _ (by repeat' (first | (with_reducible exact Below.refl _ _) | (with_reducible assumption) | (with_reducible refine Ext.below _ ?_ ?_) | (with_reducible refine Below.on ?_ (by with_reducible assumption) ?_) | (with_reducible refine Below.alloc ?_ ?_ _) | (with_reducible refine Below.drew ?_) | (with_reducible refine Below.setCell ?_ ?_ _) | (with_reducible exact Nat.le_refl _) | omega | (simp; done) | (simp [go_sem]; done) | (simp at *; omega))))))) | quiet_step ((first | (go_at_call 28; with_reducible exact Calls.ext (cs _ (by repeat' (first | (with_reducible exact Below.refl _ _) | (with_reducible assumption) | (with_reducible refine Ext.below _ ?_ ?_) | (with_reducible refine Below.on ?_ (by with_reducible assumption) ?_) | (with_reducible refine Below.alloc ?_ ?_ _) | (with_reducible refine Below.drew ?_) | (with_reducible refine Below.setCell ?_ ?_ _) | (with_reducible exact Nat.le_refl _) | omega | (simp; done) | (simp [go_sem]; done) | (simp at *; omega))))))))); refine wpQuiet_nil ?_; rintro _ ⟨yr, rfl⟩; have syr := Ext.size yr; (repeat (first | rw [World.size_alloc] at syr | rw [World.size_setCell] at syr | rw [World.size_drew] at syr))) | (go_at_call 28; (first | with_reducible refine (Calls.giv2 (cs _ (by repeat' (first | (with_reducible exact Below.refl _ _) | (with_reducible assumption) | (with_reducible refine Ext.below _ ?_ ?_) | (with_reducible refine Below.on ?_ (by with_reducible assumption) ?_) | (with_reducible refine Below.alloc ?_ ?_ _) | (with_reducible refine Below.drew ?_) | (with_reducible refine Below.setCell ?_ ?_ _) | (with_reducible exact Nat.le_refl _) | omega | (simp; done) | (simp [go_sem]; done) | (simp at *; omega))))).mono ?_ | with_reducible refine (Calls.giv (cs _ (by repeat' (first | (with_reducible exact Below.refl _ _) | (with_reducible assumption) | (with_reducible refine Ext.below _ ?_ ?_) | (with_reducible refine Below.on ?_ (by with_reducible assumption) ?_) | (with_reducible refine Below.alloc ?_ ?_ _) | (with_reducible refine Below.drew ?_) | (with_reducible refine Below.setCell ?_ ?_ _) | (with_reducible exact Nat.le_refl _) | omega | (simp; done) | (simp [go_sem]; done) | (simp at *; omega))))).mono ?_); rintro _ _ ⟨y1, rfl, rfl⟩; have sy1 := Ext.size y1; (repeat (first | rw [World.size_alloc] at sy1 | rw [World.size_setCell] at sy1 | rw [World.size_drew] at sy1))))
    go_returns
    refine ⟨?_, _, [], rfl, GrRows.nil, rfl⟩
    repeat' (first | (with_reducible exact Below.refl _ _) | (with_reducible assumption) | (with_reducible refine Ext.below _ ?_ ?_) | (with_reducible refine Below.on ?_ (by with_reducible assumption) ?_) | (with_reducible refine Below.alloc ?_ ?_ _) | (with_reducible refine Below.drew ?_) | (with_reducible refine Below.setCell ?_ ?_ _) | (with_reducible exact Nat.le_refl _) | omega | (simp; done) | (simp [go_sem]; done) | (simp at *; omega))
  rw [if_neg hl] at hV
  have hl2 : ¬ (16 : Int) < (lt' : Int) := by omega
  have cl := fun (W : World) (y : Below w.heap.size w W) => cl W y (by omega)
  cases r with
  | error e =>
    have e0 := ce e rfl
    clear ce ck
    simp only at hV
    subst hV
    unfold AllPost at cl
    simp only at cl
    go_enter Try.func15, Try.ntmps15
    go_wp2_with (first | ((first | with_reducible refine wp_region_ext2 (by kernel_rfl) (by kernel_rfl) ?_ | with_reducible refine wp_region_ext (by kernel_rfl) (by kernel_rfl) ?_); (repeat (first | go_big_quiet_step ((first | (go_at_call 28; with_reducible exact Calls.ext (cs _ (by repeat' (first | (with_reducible exact Below.refl _ _) | (with_reducible assumption) | (with_reducible refine Ext.below _ ?_ ?_) | (with_reducible refine Below.on ?_ (by with_reducible assumption) ?_) | (with_reducible refine Below.alloc ?_ ?_ _) | (with_reducible refine Below.drew ?_) | (with_reducible refine Below.setCell ?_ ?_ _) | (with_reducible exact Nat.le_refl _) | omega | (simp; done) | (simp [go_sem]; done) | (simp at *; omega))))))) | quiet_step ((first | (go_at_call 28; with_reducible exact Calls.ext (cs _ (by repeat' (first | (with_reducible exact Below.refl _ _) | (with_reducible assumption) | (with_reducible refine Ext.below _ ?_ ?_) | (with_reducible refine Below.on ?_ (by with_reducible assumption) ?_) | (with_reducible refine Below.alloc ?_ ?_ _) | (with_reducible refine Below.drew ?_) | (with_reducible refine Below.setCell ?_ ?_ _) | (with_reducible exact Nat.le_refl _) | omega | (simp; done) | (simp [go_sem]; done) | (simp at *; omega))))))))); refine wpQuiet_nil ?_; rintro _ ⟨yr, rfl⟩; have syr := Ext.size yr; (repeat (first | rw [World.size_alloc] at syr | rw [World.size_setCell] at syr | rw [World.size_drew] at syr))) | (go_at_call 28; (first | with_reducible refine (Calls.giv2 (cs _ (by repeat' (first | (with_reducible exact Below.refl _ _) | (with_reducible assumption) | (with_reducible refine Ext.below _ ?_ ?_) | (with_reducible refine Below.on ?_ (by with_reducible assumption) ?_) | (with_reducible refine Below.alloc ?_ ?_ _) | (with_reducible refine Below.drew ?_) | (with_reducible refine Below.setCell ?_ ?_ _) | (with_reducible exact Nat.le_refl _) | omega | (simp; done) | (simp [go_sem]; done) | (simp at *; omega))))).mono ?_ | with_reducible refine (Calls.giv (cs _ (by repeat' (first | (with_reducible exact Below.refl _ _) | (with_reducible assumption) | (with_reducible refine Ext.below _ ?_ ?_) | (with_reducible refine Below.on ?_ (by with_reducible assumption) ?_) | (with_reducible refine Below.alloc ?_ ?_ _) | (with_reducible refine Below.drew ?_) | (with_reducible refine Below.setCell ?_ ?_ _) | (with_reducible exact Nat.le_refl _) | omega | (simp; done) | (simp [go_sem]; done) | (simp at *; omega))))).mono ?_); rintro _ _ ⟨y1, rfl, rfl⟩; have sy1 := Ext.size y1; (repeat (first | rw [World.size_alloc] at sy1 | rw [World.size_setCell] at sy1 | rw [World.size_drew] at sy1))) | (go_at_call 25; refine (cl _ (by repeat' (first | (with_reducible exact Below.refl _ _) | (with_reducible assumption) | (with_reducible refine Ext.below _ ?_ ?_) | (with_reducible refine Below.on ?_ (by with_reducible assumption) ?_) | (with_reducible refine Below.alloc ?_ ?_ _) | (with_reducible refine Below.drew ?_) | (with_reducible refine Below.setCell ?_ ?_ _) | (with_reducible exact Nat.le_refl _) | omega | (simp; done) | (simp [go_sem]; done) | (simp at *; omega)))).mono ?_; rintro _ W3 ⟨hb3, rfl⟩; have hbw3 : Below w.heap.size w W3 := (by refine Below.on ?_ hb3 (by first | omega | (simp only [World.size_alloc]; omega)); repeat' (first | (with_reducible exact Below.refl _ _) | (with_reducible assumption) | (with_reducible refine Ext.below _ ?_ ?_) | (with_reducible refine Below.on ?_ (by with_reducible assumption) ?_) | (with_reducible refine Below.alloc ?_ ?_ _) | (with_reducible refine Below.drew ?_) | (with_reducible refine Below.setCell ?_ ?_ _) | (with_reducible exact Nat.le_refl _) | omega | (simp; done) | (simp [go_sem]; done) | (simp at *; omega))); have u9 : w.heap.size ≤ W3.heap.size := hbw3.size; clear cl))
    go_returns
    refine ⟨?_, _, [], rfl, GrRows.nil, rfl⟩
    repeat' (first | (with_reducible exact Below.refl _ _) | (with_reducible assumption) | (with_reducible refine Ext.below _ ?_ ?_) | (with_reducible refine Below.on ?_ (by with_reducible assumption) ?_) | (with_reducible refine Below.alloc ?_ ?_ _) | (with_reducible refine Below.drew ?_) | (with_reducible refine Below.setCell ?_ ?_ _) | (with_reducible exact Nat.le_refl _) | omega | (simp; done) | (simp [go_sem]; done) | (simp at *; omega))
  | ok kss =>
    obtain ⟨hfit, hlen⟩ := ck kss rfl
    clear ce ck
    simp only at hV
    unfold AllPost at cl
    simp only at cl
    by_cases hge : guessesE gs t = 0
    case neg =>
      rw [if_neg hge] at hV
      subst hV
      generalize guessesE gs t = ge at *
      go_enter Try.func15, Try.ntmps15
      go_wp2_with (first | ((first | with_reducible refine wp_region_ext2 (by kernel_rfl) (by kernel_rfl) ?_ | with_reducible refine wp_region_ext (by kernel_rfl) (by kernel_rfl) ?_); (repeat (first | go_big_quiet_step ((first | (go_at_call 28; with_reducible exact Calls.ext (cs _ (by repeat' (first | (with_reducible exact Below.refl _ _) | (with_reducible assumption) | (with_reducible refine Ext.below _ ?_ ?_) | (with_reducible refine Below.on ?_ (by with_reducible assumption) ?_) | (with_reducible refine Below.alloc ?_ ?_ _) | (with_reducible refine Below.drew ?_) | (with_reducible refine Below.setCell ?_ ?_ _) | (with_reducible exact Nat.le_refl _) | omega | (simp; done) | (simp [go_sem]; done) | (simp at *; omega))))) | (go_at_call 26; with_reducible exact Calls.ext (cg' _ (by repeat' (first | (with_reducible exact Below.refl _ _) | (with_reducible assumption) | (with_reducible refine Ext.below _ ?_ ?_) | (with_reducible refine Below.on ?_ (by with_reducible assumption) ?_) | (with_reducible refine Below.alloc ?_ ?_ _) | (with_reducible refine Below.drew ?_) | (with_reducible refine Below.setCell ?_ ?_ _) | (with_reducible exact Nat.le_refl _) | omega | (simp; done) | (simp [go_sem]; done) | (simp at *; omega))))))) | quiet_step ((first | (go_at_call 28; with_reducible exact Calls.ext (cs _ (by repeat' (first | (with_reducible exact Below.refl _ _) | (with_reducible assumption) | (with_reducible refine Ext.below _ ?_ ?_) | (with_reducible refine Below.on ?_ (by with_reducible assumption) ?_) | (with_reducible refine Below.alloc ?_ ?_ _) | (with_reducible refine Below.drew ?_) | (with_reducible refine Below.setCell ?_ ?_ _) | (with_reducible exact Nat.le_refl _) | omega | (simp; done) | (simp [go_sem]; done) | (simp at *; omega))))) | (go_at_call 26; with_reducible exact Calls.ext (cg' _ (by repeat' (first | (with_reducible exact Below.refl _ _) | (with_reducible assumption) | (with_reducible refine Ext.below _ ?_ ?_) | (with_reducible refine Below.on ?_ (by with_reducible assumption) ?_) | (with_reducible refine Below.alloc ?_ ?_ _) | (with_reducible refine Below.drew ?_) | (with_reducible refine Below.setCell ?_ ?_ _) | (with_reducible exact Nat.le_refl _) | omega | (simp; done) | (simp [go_sem]; done) | (simp at *; omega))))))))); refine wpQuiet_nil ?_; rintro _ ⟨yr, rfl⟩; have syr := Ext.size yr; (repeat (first | rw [World.size_alloc] at syr | rw [World.size_setCell] at syr | rw [World.size_drew] at syr))) | (go_at_call 28; (first | with_reducible refine (Calls.giv2 (cs _ (by repeat' (first | (with_reducible exact Below.refl _ _) | (with_reducible assumption) | (with_reducible refine Ext.below _ ?_ ?_) | (with_reducible refine Below.on ?_ (by with_reducible assumption) ?_) | (with_reducible refine Below.alloc ?_ ?_ _) | (with_reducible refine Below.drew ?_) | (with_reducible refine Below.setCell ?_ ?_ _) | (with_reducible exact Nat.le_refl _) | omega | (simp; done) | (simp [go_sem]; done) | (simp at *; omega))))).mono ?_ | with_reducible refine (Calls.giv (cs _ (by repeat' (first | (with_reducible exact Below.refl _ _) | (with_reducible assumption) | (with_reducible refine Ext.below _ ?_ ?_) | (with_reducible refine Below.on ?_ (by with_reducible assumption) ?_) | (with_reducible refine Below.alloc ?_ ?_ _) | (with_reducible refine Below.drew ?_) | (with_reducible refine Below.setCell ?_ ?_ _) | (with_reducible exact Nat.le_refl _) | omega | (simp; done) | (simp [go_sem]; done) | (simp at *; omega))))).mono ?_); rintro _ _ ⟨y1, rfl, rfl⟩; have sy1 := Ext.size y1; (repeat (first | rw [World.size_alloc] at sy1 | rw [World.size_setCell] at sy1 | rw [World.size_drew] at sy1))) | (go_at_call 26; (first | with_reducible refine (Calls.giv2 (cg' _ (by repeat' (first | (with_reducible exact Below.refl _ _) | (with_reducible assumption) | (with_reducible refine Ext.below _ ?_ ?_) | (with_reducible refine Below.on ?_ (by with_reducible assumption) ?_) | (with_reducible refine Below.alloc ?_ ?_ _) | (with_reducible refine Below.drew ?_) | (with_reducible refine Below.setCell ?_ ?_ _) | (with_reducible exact Nat.le_refl _) | omega | (simp; done) | (simp [go_sem]; done) | (simp at *; omega))))).mono ?_ | with_reducible refine (Calls.giv (cg' _ (by repeat' (first | (with_reducible exact Below.refl _ _) | (with_reducible assumption) | (with_reducible refine Ext.below _ ?_ ?_) | (with_reducible refine Below.on ?_ (by with_reducible assumption) ?_) | (with_reducible refine Below.alloc ?_ ?_ _) | (with_reducible refine Below.drew ?_) | (with_reducible refine Below.setCell ?_ ?_ _) | (with_reducible exact Nat.le_refl _) | omega | (simp; done) | (simp [go_sem]; done) | (simp at *; omega))))).mono ?_); rintro _ _ ⟨y2, rfl, rfl⟩; have sy2 := Ext.size y2; (repeat (first | rw [World.size_alloc] at sy2 | rw [World.size_setCell] at sy2 | rw [World.size_drew] at sy2))) | (go_at_call 25; refine (cl _ (by repeat' (first | (with_reducible exact Below.refl _ _) | (with_reducible assumption) | (with_reducible refine Ext.below _ ?_ ?_) | (with_reducible refine Below.on ?_ (by with_reducible assumption) ?_) | (with_reducible refine Below.alloc ?_ ?_ _) | (with_reducible refine Below.drew ?_) | (with_reducible refine Below.setCell ?_ ?_ _) | (with_reducible exact Nat.le_refl _) | omega | (simp; done) | (simp [go_sem]; done) | (simp at *; omega)))).mono ?_; rintro _ W3 ⟨hb3, v3, vs, rfl, how, hin⟩; have hbw3 : Below w.heap.size w W3 := (by refine Below.on ?_ hb3 (by first | omega | (simp only [World.size_alloc]; omega)); repeat' (first | (with_reducible exact Below.refl _ _) | (with_reducible assumption) | (with_reducible refine Ext.below _ ?_ ?_) | (with_reducible refine Below.on ?_ (by with_reducible assumption) ?_) | (with_reducible refine Below.alloc ?_ ?_ _) | (with_reducible refine Below.drew ?_) | (with_reducible refine Below.setCell ?_ ?_ _) | (with_reducible exact Nat.le_refl _) | omega | (simp; done) | (simp [go_sem]; done) | (simp at *; omega))); have u9 : w.heap.size ≤ W3.heap.size := hbw3.size; clear cl how hin))
      go_returns
      refine ⟨?_, _, [], rfl, GrRows.nil, rfl⟩
      repeat' (first | (with_reducible exact Below.refl _ _) | (with_reducible assumption) | (with_reducible refine Ext.below _ ?_ ?_) | (with_reducible refine Below.on ?_ (by with_reducible assumption) ?_) | (with_reducible refine Below.alloc ?_ ?_ _) | (with_reducible refine Below.drew ?_) | (with_reducible refine Below.setCell ?_ ?_ _) | (with_reducible exact Nat.le_refl _) | omega | (simp; done) | (simp [go_sem]; done) | (simp at *; omega))
    rw [if_pos hge] at hV
    rw [hge] at cg'
    obtain ⟨gn, gt', gf⟩ := guessesE_zero hge
    clear hge
    have hgb : ∀ g ∈ gs, guessB g = true := fun q hq => by
      obtain ⟨j, hj, rfl⟩ := List.getElem_of_mem hq
      exact gf j hj
    have cgr := Go.Lib.hid (fun (W : World) (y : Below w.heap.size w W) (p : Option Addr) (c : Nat) (h : LooksRows W p kss) => groups_any p gp c gc kss gs t W h (hg.out.on y) hgb gn gt' hfit (by omega))
    generalize groupsF (fun g i => decide ((missL g t (kss.getD i [])).length = 0)) kss.length gs = L at *
    replace cgr := cgr.out
    simp only [hlen] at cgr
    replace cgr := Go.Lib.hid cgr
    clear hgb gf hfit gn gt'
    subst hV
    go_enter Try.func15, Try.ntmps15
    go_wp2_with (first | ((first | with_reducible refine wp_region_ext2 (by kernel_rfl) (by kernel_rfl) ?_ | with_reducible refine wp_region_ext (by kernel_rfl) (by kernel_rfl) ?_); (repeat (first | go_big_quiet_step ((first | (go_at_call 28; with_reducible exact Calls.ext (cs _ (by repeat' (first | (with_reducible exact Below.refl _ _) | (with_reducible assumption) | (with_reducible refine Ext.below _ ?_ ?_) | (with_reducible refine Below.on ?_ (by with_reducible assumption) ?_) | (with_reducible refine Below.alloc ?_ ?_ _) | (with_reducible refine Below.drew ?_) | (with_reducible refine Below.setCell ?_ ?_ _) | (with_reducible exact Nat.le_refl _) | omega | (simp; done) | (simp [go_sem]; done) | (simp at *; omega))))) | (go_at_call 26; with_reducible exact Calls.ext (cg' _ (by repeat' (first | (with_reducible exact Below.refl _ _) | (with_reducible assumption) | (with_reducible refine Ext.below _ ?_ ?_) | (with_reducible refine Below.on ?_ (by with_reducible assumption) ?_) | (with_reducible refine Below.alloc ?_ ?_ _) | (with_reducible refine Below.drew ?_) | (with_reducible refine Below.setCell ?_ ?_ _) | (with_reducible exact Nat.le_refl _) | omega | (simp; done) | (simp [go_sem]; done) | (simp at *; omega))))))) | quiet_step ((first | (go_at_call 28; with_reducible exact Calls.ext (cs _ (by repeat' (first | (with_reducible exact Below.refl _ _) | (with_reducible assumption) | (with_reducible refine Ext.below _ ?_ ?_) | (with_reducible refine Below.on ?_ (by with_reducible assumption) ?_) | (with_reducible refine Below.alloc ?_ ?_ _) | (with_reducible refine Below.drew ?_) | (with_reducible refine Below.setCell ?_ ?_ _) | (with_reducible exact Nat.le_refl _) | omega | (simp; done) | (simp [go_sem]; done) | (simp at *; omega))))) | (go_at_call 26; with_reducible exact Calls.ext (cg' _ (by repeat' (first | (with_reducible exact Below.refl _ _) | (with_reducible assumption) | (with_reducible refine Ext.below _ ?_ ?_) | (with_reducible refine Below.on ?_ (by with_reducible assumption) ?_) | (with_reducible refine Below.alloc ?_ ?_ _) | (with_reducible refine Below.drew ?_) | (with_reducible refine Below.setCell ?_ ?_ _) | (with_reducible exact Nat.le_refl _) | omega | (simp; done) | (simp [go_sem]; done) | (simp at *; omega))))))))); refine wpQuiet_nil ?_; rintro _ ⟨yr, rfl⟩; have syr := Ext.size yr; (repeat (first | rw [World.size_alloc] at syr | rw [World.size_setCell] at syr | rw [World.size_drew] at syr))) | (go_at_call 28; (first | with_reducible refine (Calls.giv2 (cs _ (by repeat' (first | (with_reducible exact Below.refl _ _) | (with_reducible assumption) | (with_reducible refine Ext.below _ ?_ ?_) | (with_reducible refine Below.on ?_ (by with_reducible assumption) ?_) | (with_reducible refine Below.alloc ?_ ?_ _) | (with_reducible refine Below.drew ?_) | (with_reducible refine Below.setCell ?_ ?_ _) | (with_reducible exact Nat.le_refl _) | omega | (simp; done) | (simp [go_sem]; done) | (simp at *; omega))))).mono ?_ | with_reducible refine (Calls.giv (cs _ (by repeat' (first | (with_reducible exact Below.refl _ _) | (with_reducible assumption) | (with_reducible refine Ext.below _ ?_ ?_) | (with_reducible refine Below.on ?_ (by with_reducible assumption) ?_) | (with_reducible refine Below.alloc ?_ ?_ _) | (with_reducible refine Below.drew ?_) | (with_reducible refine Below.setCell ?_ ?_ _) | (with_reducible exact Nat.le_refl _) | omega | (simp; done) | (simp [go_sem]; done) | (simp at *; omega))))).mono ?_); rintro _ _ ⟨y1, rfl, rfl⟩; have sy1 := Ext.size y1; (repeat (first | rw [World.size_alloc] at sy1 | rw [World.size_setCell] at sy1 | rw [World.size_drew] at sy1))) | (go_at_call 26; (first | with_reducible refine (Calls.giv2 (cg' _ (by repeat' (first | (with_reducible exact Below.refl _ _) | (with_reducible assumption) | (with_reducible refine Ext.below _ ?_ ?_) | (with_reducible refine Below.on ?_ (by with_reducible assumption) ?_) | (with_reducible refine Below.alloc ?_ ?_ _) | (with_reducible refine Below.drew ?_) | (with_reducible refine Below.setCell ?_ ?_ _) | (with_reducible exact Nat.le_refl _) | omega | (simp; done) | (simp [go_sem]; done) | (simp at *; omega))))).mono ?_ | with_reducible refine (Calls.giv (cg' _ (by repeat' (first | (with_reducible exact Below.refl _ _) | (with_reducible assumption) | (with_reducible refine Ext.below _ ?_ ?_) | (with_reducible refine Below.on ?_ (by with_reducible assumption) ?_) | (with_reducible refine Below.alloc ?_ ?_ _) | (with_reducible refine Below.drew ?_) | (with_reducible refine Below.setCell ?_ ?_ _) | (with_reducible exact Nat.le_refl _) | omega | (simp; done) | (simp [go_sem]; done) | (simp at *; omega))))).mono ?_); rintro _ _ ⟨y2, rfl, rfl⟩; have sy2 := Ext.size y2; (repeat (first | rw [World.size_alloc] at sy2 | rw [World.size_setCell] at sy2 | rw [World.size_drew] at sy2))) | (go_at_call 25; go_loud (refine (cl _ (by repeat' (first | (with_reducible exact Below.refl _ _) | (with_reducible assumption) | (with_reducible refine Ext.below _ ?_ ?_) | (with_reducible refine Below.on ?_ (by with_reducible assumption) ?_) | (with_reducible refine Below.alloc ?_ ?_ _) | (with_reducible refine Below.drew ?_) | (with_reducible refine Below.setCell ?_ ?_ _) | (with_reducible exact Nat.le_refl _) | omega | (simp; done) | (simp [go_sem]; done) | (simp at *; omega)))).mono ?_; rintro _ W3 ⟨hb3, v3, vs, rfl, how, hin⟩; have hbw3 : Below w.heap.size w W3 := (by refine Below.on ?_ hb3 (by first | omega | (simp only [World.size_alloc]; omega)); repeat' (first | (with_reducible exact Below.refl _ _) | (with_reducible assumption) | (with_reducible refine Ext.below _ ?_ ?_) | (with_reducible refine Below.on ?_ (by with_reducible assumption) ?_) | (with_reducible refine Below.alloc ?_ ?_ _) | (with_reducible refine Below.drew ?_) | (with_reducible refine Below.setCell ?_ ?_ _) | (with_reducible exact Nat.le_refl _) | omega | (simp; done) | (simp [go_sem]; done) | (simp at *; omega))); have u9 : w.heap.size ≤ W3.heap.size := hbw3.size; obtain ⟨p3, c3, rfl, hL3⟩ := inner_looks how hin; have hL3 := Go.Lib.hid (fun (W : World) (y : Below W3.heap.size W3 W) => hL3.on y); clear cl how hin)) | (go_at_call 36; go_loud (refine (cgr.out _ (by repeat' (first | (with_reducible exact Below.refl _ _) | (with_reducible assumption) | (with_reducible refine Ext.below _ ?_ ?_) | (with_reducible refine Below.on ?_ (by with_reducible assumption) ?_) | (with_reducible refine Below.alloc ?_ ?_ _) | (with_reducible refine Below.drew ?_) | (with_reducible refine Below.setCell ?_ ?_ _) | (with_reducible exact Nat.le_refl _) | omega | (simp; done) | (simp [go_sem]; done) | (simp at *; omega))) _ _ (hL3.out _ (by repeat' (first | (with_reducible exact Below.refl _ _) | (with_reducible assumption) | (with_reducible refine Ext.below _ ?_ ?_) | (with_reducible refine Below.on ?_ (by with_reducible assumption) ?_) | (with_reducible refine Below.alloc ?_ ?_ _) | (with_reducible refine Below.drew ?_) | (with_reducible refine Below.setCell ?_ ?_ _) | (with_reducible exact Nat.le_refl _) | omega | (simp; done) | (simp [go_sem]; done) | (simp at *; omega))))).mono ?_; rintro _ W6 ⟨hb6, v6, fd, rfl, hM6, hfd⟩; have hbw6 : Below w.heap.size w W6 := (by refine Below.on ?_ hb6 (by first | omega | (simp only [World.size_alloc]; omega)); repeat' (first | (with_reducible exact Below.refl _ _) | (with_reducible assumption) | (with_reducible refine Ext.below _ ?_ ?_) | (with_reducible refine Below.on ?_ (by with_reducible assumption) ?_) | (with_reducible refine Below.alloc ?_ ?_ _) | (with_reducible refine Below.drew ?_) | (with_reducible refine Below.setCell ?_ ?_ _) | (with_reducible exact Nat.le_refl _) | omega | (simp; done) | (simp [go_sem]; done) | (simp at *; omega))); clear cgr)))
    go_returns
    exact ⟨hbw6, _, fd, rfl, hM6.down (by omega), hfd⟩
end Go.Proofs.Ytgoilmiiegpnoaa
namespace Go.Proofs.Ytgoilmiiegpnoaa
open Go.RowKit Go.Shelf
attribute [local go_sem] Option.isSome_some Ext.cell Ext.frozen Ext.lt Ext.le Ext.lt_add Ext.le_add Ext.ne Ext.ne' lt2 lt3 lt4 lt5 le2 le3 le4
attribute [local go_sem] RExt.cell RExt.frozen RExt.lt RExt.le RExt.lt_add RExt.le_add RExt.ne RExt.ne'
/-- The first error of tracklets. -/
def firstE (s : SkyR) : List TrR → Int
  | [] => 0
  | t :: ts => if trackE s t.l = 0 then firstE s ts else trackE s t.l
theorem firstE_all {s : SkyR} : ∀ {ts : List TrR}, firstE s ts = 0 → ∀ t ∈ ts, trackE s t.l = 0 := by
  intro ts
  induction ts with
  | nil => intro _ t h; cases h
  | cons x ts ih =>
    intro h t ht
    rw [firstE] at h
    split at h
    · rename_i hx
      rcases List.mem_cons.1 ht with rfl | ht
      · exact hx
      · exact ih h t ht
    · rename_i hx; exact absurd h hx
theorem allA_first {s : SkyR} (hE : skyE s = 0) : ∀ {ts : List TrR} {acc : List (List LookR)}, (firstE s ts = 0 → ∃ kss, allA s acc ts = .ok (acc ++ kss) ∧ kss.length = ts.length ∧ ∀ j (h : j < ts.length) (h' : j < kss.length), Looked s ts[j].l kss[j]) ∧ (¬ firstE s ts = 0 → allA s acc ts = .error (firstE s ts)) := by
  intro ts
  induction ts with
  | nil => intro acc; exact ⟨fun _ => ⟨[], by rw [allA]; simp, rfl, fun j h => by simp at h⟩, fun h => absurd rfl h⟩
  | cons t ts ih =>
    intro acc
    by_cases ht : trackE s t.l = 0
    · obtain ⟨ks, hk⟩ := trackE_looks ht
      obtain ⟨i1, i2⟩ := ih (acc := acc ++ [ks])
      rw [firstE, if_pos ht, allA, hk]
      simp only
      refine ⟨fun h => ?_, i2⟩
      obtain ⟨kss, h1, h2, h3⟩ := i1 h
      refine ⟨ks :: kss, by rw [h1, List.append_assoc]; rfl, by simp [h2], fun j hj hj' => ?_⟩
      cases j with
      | zero => exact looksR_looked hk
      | succ j => exact h3 j (by simpa using hj) (by simpa using hj')
    · rw [firstE, if_neg ht, allA]
      refine ⟨fun h => absurd h ht, fun _ => ?_⟩
      unfold trackE at ht ⊢
      rw [if_pos hE] at ht ⊢
      cases hr : looksR s t.l with
      | ok ks => rw [hr] at ht; exact absurd rfl ht
      | error e => rfl
theorem miss_same {s : SkyR} {l : List SightR} {ks : List LookR} (h : Looked s l ks) (g : StateR) (t : Int) : decide ((missL g t ks).length = 0) = decide (fmS s g t 0 l < 0) := by
  have h1 := h.first g t 0
  have h2 := fun m hm => missA_in g t ks 0 m hm
  unfold missL
  rw [← h1]
  cases hm : missA g t [] 0 ks with
  | nil => rfl
  | cons m ms =>
    have := (h2 m (by rw [hm]; simp)).1
    rw [show decide ((m :: ms).length = 0) = false from rfl]
    exact (decide_eq_false (by simp only [headV]; omega)).symm
theorem groupsR_eq (s : SkyR) (ts : List TrR) (gs : List StateR) (t : Int) : groupsR s ts gs t = if skyE s = 0 then (if 16 < ts.length then ⟨[], 8⟩ else (if firstE s ts = 0 then (if guessesE gs t = 0 then ⟨groupsF (fun g i => decide (fmS s g t 0 (ts.getD i ⟨none, 0, []⟩).l < 0)) ts.length gs, 0⟩ else ⟨[], guessesE gs t⟩) else ⟨[], firstE s ts⟩)) else ⟨[], skyE s⟩ := by
  unfold groupsR allR
  by_cases hE : skyE s = 0
  · simp only [if_pos hE]
    by_cases hl : 16 < ts.length
    · simp only [if_pos hl]
    · simp only [if_neg hl]
      obtain ⟨i1, i2⟩ := allA_first (s := s) hE (ts := ts) (acc := [])
      by_cases hf : firstE s ts = 0
      · obtain ⟨kss, h1, h2, h3⟩ := i1 hf
        rw [h1, if_pos hf, List.nil_append]
        simp only
        have e : (fun (g : StateR) i => decide ((missL g t (kss.getD i [])).length = 0)) = fun g i => decide (fmS s g t 0 (ts.getD i ⟨none, 0, []⟩).l < 0) := by
          funext g i
          by_cases hi : i < ts.length
          · have hi' : i < kss.length := by omega
            rw [List.getD_eq_getElem?_getD, List.getElem?_eq_getElem hi', List.getD_eq_getElem?_getD, List.getElem?_eq_getElem hi]
            exact miss_same (h3 i hi hi') g t
          · rw [List.getD_eq_getElem?_getD, List.getElem?_eq_none (by omega), List.getD_eq_getElem?_getD, List.getElem?_eq_none (by omega)]
            rfl
        rw [e, h2]
      · rw [i2 hf, if_neg hf]
  · rw [if_neg hE, if_neg hE]
set_option maxRecDepth 100000 in
set_option maxHeartbeats 16000000 in
theorem refGroups_any (s : SkyR) (tp gp : Option Addr) (tc gc : Nat) (ts : List TrR) (gs : List StateR) (t : Int) (w : World) (hA : s.At w) (hT : TracksAt w tp ts) (hg : StatesAt w gp gs) :
    Calls Try.prog 19 #[s.val, .slice tp ts.length tc, .slice gp gs.length gc, .int .i64 t] w (GsPost w (groupsR s ts gs t)) := by
  have cs := fun (W : World) (y : Below w.heap.size w W) => refCheck_any s W (hA.on y)
  have c3 := Go.Lib.hid (fun (W : World) (y : Below w.heap.size w W) => refAsked_any gp gc gs t W (hg.on y))
  have ct := Go.Lib.hid (fun (W : World) (y : Below w.heap.size w W) j (hj : j < ts.length) => refCheckTracklet_any s ts[j].p ts[j].c ts[j].l W (hA.on y) ((hT j hj).1.on y))
  obtain ⟨V, hV⟩ : ∃ V, groupsR s ts gs t = V := ⟨_, rfl⟩
  rw [hV]
  rw [groupsR_eq] at hV
  by_cases hE : skyE s = 0
  case neg =>
    rw [if_neg hE] at hV
    subst hV
    clear hA hT hg c3 ct
    unfold SkyR.val at *
    generalize skyE s = se at *
    generalize s.cats.length = n1 at *; generalize s.cp = n2 at *; generalize s.cc = n3 at *; generalize s.bodies.length = n4 at *; generalize s.bp = n5 at *; generalize s.bc = n6 at *; generalize s.sts.length = n7 at *; generalize s.sp = n8 at *; generalize s.sc = n9 at *; generalize s.home = n0 at *
    go_enter Try.func19, Try.ntmps19
    go_wp2_with (first | ((first | with_reducible refine wp_region_ext2 (by kernel_rfl) (by kernel_rfl) ?_ | with_reducible refine wp_region_ext (by kernel_rfl) (by kernel_rfl) ?_); (repeat (first | go_big_quiet_step ((first | (go_at_call 41; with_reducible exact Calls.ext (cs _ (by repeat' (first | (with_reducible exact Below.refl _ _) | (with_reducible assumption) | (with_reducible refine Ext.below _ ?_ ?_) | (with_reducible refine Below.on ?_ (by with_reducible assumption) ?_) | (with_reducible refine Below.alloc ?_ ?_ _) | (with_reducible refine Below.drew ?_) | (with_reducible refine Below.setCell ?_ ?_ _) | (with_reducible exact Nat.le_refl _) | omega | (simp; done) | (simp [go_sem]; done) | (simp at *; omega))))))) | quiet_step ((first | (go_at_call 41; with_reducible exact Calls.ext (cs _ (by repeat' (first | (with_reducible exact Below.refl _ _) | (with_reducible assumption) | (with_reducible refine Ext.below _ ?_ ?_) | (with_reducible refine Below.on ?_ (by with_reducible assumption) ?_) | (with_reducible refine Below.alloc ?_ ?_ _) | (with_reducible refine Below.drew ?_) | (with_reducible refine Below.setCell ?_ ?_ _) | (with_reducible exact Nat.le_refl _) | omega | (simp; done) | (simp [go_sem]; done) | (simp at *; omega))))))))); refine wpQuiet_nil ?_; rintro _ ⟨yr, rfl⟩; have syr := Ext.size yr; (repeat (first | rw [World.size_alloc] at syr | rw [World.size_setCell] at syr | rw [World.size_drew] at syr))) | (go_at_call 41; (first | with_reducible refine (Calls.giv2 (cs _ (by repeat' (first | (with_reducible exact Below.refl _ _) | (with_reducible assumption) | (with_reducible refine Ext.below _ ?_ ?_) | (with_reducible refine Below.on ?_ (by with_reducible assumption) ?_) | (with_reducible refine Below.alloc ?_ ?_ _) | (with_reducible refine Below.drew ?_) | (with_reducible refine Below.setCell ?_ ?_ _) | (with_reducible exact Nat.le_refl _) | omega | (simp; done) | (simp [go_sem]; done) | (simp at *; omega))))).mono ?_ | with_reducible refine (Calls.giv (cs _ (by repeat' (first | (with_reducible exact Below.refl _ _) | (with_reducible assumption) | (with_reducible refine Ext.below _ ?_ ?_) | (with_reducible refine Below.on ?_ (by with_reducible assumption) ?_) | (with_reducible refine Below.alloc ?_ ?_ _) | (with_reducible refine Below.drew ?_) | (with_reducible refine Below.setCell ?_ ?_ _) | (with_reducible exact Nat.le_refl _) | omega | (simp; done) | (simp [go_sem]; done) | (simp at *; omega))))).mono ?_); rintro _ _ ⟨y1, rfl, rfl⟩; have sy1 := Ext.size y1; (repeat (first | rw [World.size_alloc] at sy1 | rw [World.size_setCell] at sy1 | rw [World.size_drew] at sy1))))
    go_returns
    refine ⟨?_, _, [], rfl, GrRows.nil, rfl⟩
    repeat' (first | (with_reducible exact Below.refl _ _) | (with_reducible assumption) | (with_reducible refine Ext.below _ ?_ ?_) | (with_reducible refine Below.on ?_ (by with_reducible assumption) ?_) | (with_reducible refine Below.alloc ?_ ?_ _) | (with_reducible refine Below.drew ?_) | (with_reducible refine Below.setCell ?_ ?_ _) | (with_reducible exact Nat.le_refl _) | omega | (simp; done) | (simp [go_sem]; done) | (simp at *; omega))
  rw [if_pos hE] at hV
  rw [hE] at cs
  by_cases hl : 16 < ts.length
  · rw [if_pos hl] at hV
    subst hV
    have hl2 : (16 : Int) < (ts.length : Int) := by omega
    clear hA hT hg c3 ct hE
    unfold SkyR.val at *
    generalize s.cats.length = n1 at *; generalize s.cp = n2 at *; generalize s.cc = n3 at *; generalize s.bodies.length = n4 at *; generalize s.bp = n5 at *; generalize s.bc = n6 at *; generalize s.sts.length = n7 at *; generalize s.sp = n8 at *; generalize s.sc = n9 at *; generalize s.home = n0 at *
    go_enter Try.func19, Try.ntmps19
    go_wp2_with (first | ((first | with_reducible refine wp_region_ext2 (by kernel_rfl) (by kernel_rfl) ?_ | with_reducible refine wp_region_ext (by kernel_rfl) (by kernel_rfl) ?_); (repeat (first | go_big_quiet_step ((first | (go_at_call 41; with_reducible exact Calls.ext (cs _ (by repeat' (first | (with_reducible exact Below.refl _ _) | (with_reducible assumption) | (with_reducible refine Ext.below _ ?_ ?_) | (with_reducible refine Below.on ?_ (by with_reducible assumption) ?_) | (with_reducible refine Below.alloc ?_ ?_ _) | (with_reducible refine Below.drew ?_) | (with_reducible refine Below.setCell ?_ ?_ _) | (with_reducible exact Nat.le_refl _) | omega | (simp; done) | (simp [go_sem]; done) | (simp at *; omega))))))) | quiet_step ((first | (go_at_call 41; with_reducible exact Calls.ext (cs _ (by repeat' (first | (with_reducible exact Below.refl _ _) | (with_reducible assumption) | (with_reducible refine Ext.below _ ?_ ?_) | (with_reducible refine Below.on ?_ (by with_reducible assumption) ?_) | (with_reducible refine Below.alloc ?_ ?_ _) | (with_reducible refine Below.drew ?_) | (with_reducible refine Below.setCell ?_ ?_ _) | (with_reducible exact Nat.le_refl _) | omega | (simp; done) | (simp [go_sem]; done) | (simp at *; omega))))))))); refine wpQuiet_nil ?_; rintro _ ⟨yr, rfl⟩; have syr := Ext.size yr; (repeat (first | rw [World.size_alloc] at syr | rw [World.size_setCell] at syr | rw [World.size_drew] at syr))) | (go_at_call 41; (first | with_reducible refine (Calls.giv2 (cs _ (by repeat' (first | (with_reducible exact Below.refl _ _) | (with_reducible assumption) | (with_reducible refine Ext.below _ ?_ ?_) | (with_reducible refine Below.on ?_ (by with_reducible assumption) ?_) | (with_reducible refine Below.alloc ?_ ?_ _) | (with_reducible refine Below.drew ?_) | (with_reducible refine Below.setCell ?_ ?_ _) | (with_reducible exact Nat.le_refl _) | omega | (simp; done) | (simp [go_sem]; done) | (simp at *; omega))))).mono ?_ | with_reducible refine (Calls.giv (cs _ (by repeat' (first | (with_reducible exact Below.refl _ _) | (with_reducible assumption) | (with_reducible refine Ext.below _ ?_ ?_) | (with_reducible refine Below.on ?_ (by with_reducible assumption) ?_) | (with_reducible refine Below.alloc ?_ ?_ _) | (with_reducible refine Below.drew ?_) | (with_reducible refine Below.setCell ?_ ?_ _) | (with_reducible exact Nat.le_refl _) | omega | (simp; done) | (simp [go_sem]; done) | (simp at *; omega))))).mono ?_); rintro _ _ ⟨y1, rfl, rfl⟩; have sy1 := Ext.size y1; (repeat (first | rw [World.size_alloc] at sy1 | rw [World.size_setCell] at sy1 | rw [World.size_drew] at sy1))))
    go_returns
    refine ⟨?_, _, [], rfl, GrRows.nil, rfl⟩
    repeat' (first | (with_reducible exact Below.refl _ _) | (with_reducible assumption) | (with_reducible refine Ext.below _ ?_ ?_) | (with_reducible refine Below.on ?_ (by with_reducible assumption) ?_) | (with_reducible refine Below.alloc ?_ ?_ _) | (with_reducible refine Below.drew ?_) | (with_reducible refine Below.setCell ?_ ?_ _) | (with_reducible exact Nat.le_refl _) | omega | (simp; done) | (simp [go_sem]; done) | (simp at *; omega))
  rw [if_neg hl] at hV
  have hl2 : ¬ (16 : Int) < (ts.length : Int) := by omega
  have hn16 : ts.length ≤ 16 := by omega
  have cm := Go.Lib.hid (fun (W : World) (y : Below w.heap.size w W) (hF : firstE s ts = 0) (hgg : guessesE gs t = 0) i (hi : i < ts.length) j (hj : j < gs.length) => (by
    have h1 := firstE_all hF _ (List.getElem_mem hi)
    obtain ⟨_, _, n2, va⟩ := trackE_zero h1
    obtain ⟨_, gt', gf⟩ := guessesE_zero hgg
    exact refMiss0_any s ts[i].p ts[i].c ts[i].l gs[j] t W (hA.on y) hE ((hT i hi).1.on y) va (by omega) (gf j hj) gt'))
  have hV := Go.Lib.hid hV
  have hT := Go.Lib.hid hT
  have hg := Go.Lib.hid hg
  clear hA hE hl
  unfold SkyR.val at *
  generalize s.cats.length = n1 at *; generalize s.cp = n2 at *; generalize s.cc = n3 at *; generalize s.bodies.length = n4 at *; generalize s.bp = n5 at *; generalize s.bc = n6 at *; generalize s.sts.length = n7 at *; generalize s.sp = n8 at *; generalize s.sc = n9 at *; generalize s.home = n0 at *
  go_enter Try.func19, Try.ntmps19
  go_wp2_with (first | ((first | with_reducible refine wp_region_ext2 (by kernel_rfl) (by kernel_rfl) ?_ | with_reducible refine wp_region_ext (by kernel_rfl) (by kernel_rfl) ?_); (repeat (first | go_big_quiet_step ((first | (go_at_call 41; with_reducible exact Calls.ext (cs _ (by repeat' (first | (with_reducible exact Below.refl _ _) | (with_reducible assumption) | (with_reducible refine Ext.below _ ?_ ?_) | (with_reducible refine Below.on ?_ (by with_reducible assumption) ?_) | (with_reducible refine Below.alloc ?_ ?_ _) | (with_reducible refine Below.drew ?_) | (with_reducible refine Below.setCell ?_ ?_ _) | (with_reducible exact Nat.le_refl _) | omega | (simp; done) | (simp [go_sem]; done) | (simp at *; omega))))))) | quiet_step ((first | (go_at_call 41; with_reducible exact Calls.ext (cs _ (by repeat' (first | (with_reducible exact Below.refl _ _) | (with_reducible assumption) | (with_reducible refine Ext.below _ ?_ ?_) | (with_reducible refine Below.on ?_ (by with_reducible assumption) ?_) | (with_reducible refine Below.alloc ?_ ?_ _) | (with_reducible refine Below.drew ?_) | (with_reducible refine Below.setCell ?_ ?_ _) | (with_reducible exact Nat.le_refl _) | omega | (simp; done) | (simp [go_sem]; done) | (simp at *; omega))))))))); refine wpQuiet_nil ?_; rintro _ ⟨yr, rfl⟩; have syr := Ext.size yr; (repeat (first | rw [World.size_alloc] at syr | rw [World.size_setCell] at syr | rw [World.size_drew] at syr)); have : w.heap.size < yr.now.heap.size := (by omega); have : w.heap.size ≤ yr.now.heap.size := (by omega); have : w.heap.size < yr.now.heap.size + 1 + 1 := (by omega)) | (go_at_call 41; (first | with_reducible refine (Calls.giv2 (cs _ (by repeat' (first | (with_reducible exact Below.refl _ _) | (with_reducible assumption) | (with_reducible refine Ext.below _ ?_ ?_) | (with_reducible refine Below.on ?_ (by with_reducible assumption) ?_) | (with_reducible refine Below.alloc ?_ ?_ _) | (with_reducible refine Below.drew ?_) | (with_reducible refine Below.setCell ?_ ?_ _) | (with_reducible exact Nat.le_refl _) | omega | (simp; done) | (simp [go_sem]; done) | (simp at *; omega))))).mono ?_ | with_reducible refine (Calls.giv (cs _ (by repeat' (first | (with_reducible exact Below.refl _ _) | (with_reducible assumption) | (with_reducible refine Ext.below _ ?_ ?_) | (with_reducible refine Below.on ?_ (by with_reducible assumption) ?_) | (with_reducible refine Below.alloc ?_ ?_ _) | (with_reducible refine Below.drew ?_) | (with_reducible refine Below.setCell ?_ ?_ _) | (with_reducible exact Nat.le_refl _) | omega | (simp; done) | (simp [go_sem]; done) | (simp at *; omega))))).mono ?_); rintro _ _ ⟨y1, rfl, rfl⟩; have sy1 := Ext.size y1; (repeat (first | rw [World.size_alloc] at sy1 | rw [World.size_setCell] at sy1 | rw [World.size_drew] at sy1)); have : w.heap.size < y1.now.heap.size := (by omega); have : w.heap.size ≤ y1.now.heap.size := (by omega); have : w.heap.size < y1.now.heap.size + 1 + 1 := (by omega)))
  refine wp_named (fun WA hW => ?_)
  have hbw : Below w.heap.size w WA := by rw [← hW]; repeat' (first | (with_reducible exact Below.refl _ _) | (with_reducible assumption) | (with_reducible refine Ext.below _ ?_ ?_) | (with_reducible refine Below.on ?_ (by with_reducible assumption) ?_) | (with_reducible refine Below.alloc ?_ ?_ _) | (with_reducible refine Below.drew ?_) | (with_reducible refine Below.setCell ?_ ?_ _) | (with_reducible exact Nat.le_refl _) | omega | (simp; done) | (simp [go_sem]; done) | (simp at *; omega))
  have b0 : WA.cell? ⟨w.heap.size, 0, none⟩ = some (.slice n5 n4 n6) := by rw [← hW]; simp [go_sem]
  have b1 : WA.cell? ⟨w.heap.size, 1, none⟩ = some (.int .i64 n0) := by rw [← hW]; simp [go_sem]
  have b2 : WA.cell? ⟨w.heap.size, 2, none⟩ = some (.slice n8 n7 n9) := by rw [← hW]; simp [go_sem]
  have b3 : WA.cell? ⟨w.heap.size, 3, none⟩ = some (.slice n2 n1 n3) := by rw [← hW]; simp [go_sem]
  have hsA : w.heap.size < WA.heap.size := by rw [← hW]; simp at *; omega
  clear hW cs
  have hTA := Go.Lib.hid (hT.out.on hbw)
  have hGA := Go.Lib.hid (hg.out.on hbw)
  obtain ⟨E, hEe⟩ : ∃ E, firstE s ts = E := ⟨_, rfl⟩
  have hEe := Go.Lib.hid hEe
  go_loopw [10, 11] (fun e u W => ∃ (i : Nat) (x : Ext WA), u = .int .i64 i ∧ e = .int .i64 0 ∧ W = x.now ∧ Hid (i ≤ ts.length ∧ firstE s (ts.drop i) = E)) (fun _ u _ => ts.length - (intOf u).toNat)
  case atStart => exact ⟨0, ⟨WA, Below.refl _ _⟩, rfl, rfl, rfl, Go.Lib.hid ⟨Nat.zero_le _, by simpa using hEe.out⟩⟩
  case round =>
    obtain ⟨i, x, rfl, rfl, rfl, hi⟩ := hrel
    have xs := x.size
    have hbx := x.below hbw (by omega)
    have hwx := hbx.size
    have : w.heap.size < (x.now).heap.size := (by omega); have : w.heap.size < (x.now).heap.size + 1 := (by omega); have : w.heap.size < (x.now).heap.size + 1 + 1 := (by omega); have : w.heap.size ≠ (x.now).heap.size := (by omega); have : w.heap.size ≠ (x.now).heap.size + 1 := (by omega)
    by_cases hlt : i < ts.length
    · have hlt2 : (i : Int) < ts.length := by omega
      obtain ⟨-, B, o, rfl, hB, r⟩ := hTA.out i hlt
      have : B < (x.now).heap.size := (by omega); have : B < (x.now).heap.size + 1 := (by omega); have : B < (x.now).heap.size + 1 + 1 := (by omega); have : B ≠ (x.now).heap.size := (by omega); have : B ≠ (x.now).heap.size + 1 := (by omega)
      have hf := hi.out.2
      rw [drop_at hlt, firstE] at hf
      have cti := fun (W : World) (y : Below w.heap.size w W) => ct.out W y i hlt
      by_cases he : trackE s ts[i].l = 0
      · rw [if_pos he] at hf
        rw [he] at cti
        have key : Hid (i + 1 ≤ ts.length ∧ firstE s (ts.drop (i + 1)) = E) := Go.Lib.hid ⟨hlt, hf⟩
        clear hi hf he
        generalize ts[i].l.length = tl at *
        generalize ts[i].p = tpp at *
        generalize ts[i].c = tcc at *
        go_wp2_with (first | ((first | with_reducible refine wp_region_ext2 (by kernel_rfl) (by kernel_rfl) ?_ | with_reducible refine wp_region_ext (by kernel_rfl) (by kernel_rfl) ?_); (repeat (first | go_big_quiet_step ((first | (go_at_call 38; with_reducible exact Calls.ext (cti _ (by repeat' (first | (with_reducible exact Below.refl _ _) | (with_reducible assumption) | (with_reducible refine Ext.below _ ?_ ?_) | (with_reducible refine Below.on ?_ (by with_reducible assumption) ?_) | (with_reducible refine Below.alloc ?_ ?_ _) | (with_reducible refine Below.drew ?_) | (with_reducible refine Below.setCell ?_ ?_ _) | (with_reducible exact Nat.le_refl _) | omega | (simp; done) | (simp [go_sem]; done) | (simp at *; omega))))))) | quiet_step ((first | (go_at_call 38; with_reducible exact Calls.ext (cti _ (by repeat' (first | (with_reducible exact Below.refl _ _) | (with_reducible assumption) | (with_reducible refine Ext.below _ ?_ ?_) | (with_reducible refine Below.on ?_ (by with_reducible assumption) ?_) | (with_reducible refine Below.alloc ?_ ?_ _) | (with_reducible refine Below.drew ?_) | (with_reducible refine Below.setCell ?_ ?_ _) | (with_reducible exact Nat.le_refl _) | omega | (simp; done) | (simp [go_sem]; done) | (simp at *; omega))))))))); refine wpQuiet_nil ?_; rintro _ ⟨yr, rfl⟩; have syr := Ext.size yr; (repeat (first | rw [World.size_alloc] at syr | rw [World.size_setCell] at syr | rw [World.size_drew] at syr)); have : B < yr.now.heap.size := (by omega); have : B ≤ yr.now.heap.size := (by omega); have : B < yr.now.heap.size + 1 + 1 := (by omega); have : w.heap.size < yr.now.heap.size := (by omega); have : w.heap.size ≤ yr.now.heap.size := (by omega); have : w.heap.size < yr.now.heap.size + 1 + 1 := (by omega)) | (go_at_call 38; (first | with_reducible refine (Calls.giv2 (cti _ (by repeat' (first | (with_reducible exact Below.refl _ _) | (with_reducible assumption) | (with_reducible refine Ext.below _ ?_ ?_) | (with_reducible refine Below.on ?_ (by with_reducible assumption) ?_) | (with_reducible refine Below.alloc ?_ ?_ _) | (with_reducible refine Below.drew ?_) | (with_reducible refine Below.setCell ?_ ?_ _) | (with_reducible exact Nat.le_refl _) | omega | (simp; done) | (simp [go_sem]; done) | (simp at *; omega))))).mono ?_ | with_reducible refine (Calls.giv (cti _ (by repeat' (first | (with_reducible exact Below.refl _ _) | (with_reducible assumption) | (with_reducible refine Ext.below _ ?_ ?_) | (with_reducible refine Below.on ?_ (by with_reducible assumption) ?_) | (with_reducible refine Below.alloc ?_ ?_ _) | (with_reducible refine Below.drew ?_) | (with_reducible refine Below.setCell ?_ ?_ _) | (with_reducible exact Nat.le_refl _) | omega | (simp; done) | (simp [go_sem]; done) | (simp at *; omega))))).mono ?_); rintro _ _ ⟨y1, rfl, rfl⟩; have sy1 := Ext.size y1; (repeat (first | rw [World.size_alloc] at sy1 | rw [World.size_setCell] at sy1 | rw [World.size_drew] at sy1)); have : B < y1.now.heap.size := (by omega); have : B ≤ y1.now.heap.size := (by omega); have : B < y1.now.heap.size + 1 + 1 := (by omega); have : w.heap.size < y1.now.heap.size := (by omega); have : w.heap.size ≤ y1.now.heap.size := (by omega); have : w.heap.size < y1.now.heap.size + 1 + 1 := (by omega)))
        refine ⟨⟨i + 1, ⟨_, ?_⟩, by simp, by simp, rfl, key⟩, by simp [intOf]; omega⟩
        repeat' (first | (with_reducible exact Below.refl _ _) | (with_reducible assumption) | (with_reducible refine Ext.below _ ?_ ?_) | (with_reducible refine Below.on ?_ (by with_reducible assumption) ?_) | (with_reducible refine Below.alloc ?_ ?_ _) | (with_reducible refine Below.drew ?_) | (with_reducible refine Below.setCell ?_ ?_ _) | (with_reducible exact Nat.le_refl _) | omega | (simp; done) | (simp [go_sem]; done) | (simp at *; omega))
      · rw [if_neg he] at hf
        have hv : V = ⟨[], trackE s ts[i].l⟩ := by rw [← hV.out, if_neg (by rw [hEe.out, ← hf]; exact he), hEe.out, hf]
        subst hv
        have he2 : (trackE s ts[i].l == 0) = false := by simpa using he
        clear hi hf hV hEe
        generalize trackE s ts[i].l = te at *
        generalize ts[i].l.length = tl at *
        generalize ts[i].p = tpp at *
        generalize ts[i].c = tcc at *
        go_wp2_with (first | ((first | with_reducible refine wp_region_ext2 (by kernel_rfl) (by kernel_rfl) ?_ | with_reducible refine wp_region_ext (by kernel_rfl) (by kernel_rfl) ?_); (repeat (first | go_big_quiet_step ((first | (go_at_call 38; with_reducible exact Calls.ext (cti _ (by repeat' (first | (with_reducible exact Below.refl _ _) | (with_reducible assumption) | (with_reducible refine Ext.below _ ?_ ?_) | (with_reducible refine Below.on ?_ (by with_reducible assumption) ?_) | (with_reducible refine Below.alloc ?_ ?_ _) | (with_reducible refine Below.drew ?_) | (with_reducible refine Below.setCell ?_ ?_ _) | (with_reducible exact Nat.le_refl _) | omega | (simp; done) | (simp [go_sem]; done) | (simp at *; omega))))))) | quiet_step ((first | (go_at_call 38; with_reducible exact Calls.ext (cti _ (by repeat' (first | (with_reducible exact Below.refl _ _) | (with_reducible assumption) | (with_reducible refine Ext.below _ ?_ ?_) | (with_reducible refine Below.on ?_ (by with_reducible assumption) ?_) | (with_reducible refine Below.alloc ?_ ?_ _) | (with_reducible refine Below.drew ?_) | (with_reducible refine Below.setCell ?_ ?_ _) | (with_reducible exact Nat.le_refl _) | omega | (simp; done) | (simp [go_sem]; done) | (simp at *; omega))))))))); refine wpQuiet_nil ?_; rintro _ ⟨yr, rfl⟩; have syr := Ext.size yr; (repeat (first | rw [World.size_alloc] at syr | rw [World.size_setCell] at syr | rw [World.size_drew] at syr)); have : B < yr.now.heap.size := (by omega); have : B ≤ yr.now.heap.size := (by omega); have : B < yr.now.heap.size + 1 + 1 := (by omega); have : w.heap.size < yr.now.heap.size := (by omega); have : w.heap.size ≤ yr.now.heap.size := (by omega); have : w.heap.size < yr.now.heap.size + 1 + 1 := (by omega)) | (go_at_call 38; (first | with_reducible refine (Calls.giv2 (cti _ (by repeat' (first | (with_reducible exact Below.refl _ _) | (with_reducible assumption) | (with_reducible refine Ext.below _ ?_ ?_) | (with_reducible refine Below.on ?_ (by with_reducible assumption) ?_) | (with_reducible refine Below.alloc ?_ ?_ _) | (with_reducible refine Below.drew ?_) | (with_reducible refine Below.setCell ?_ ?_ _) | (with_reducible exact Nat.le_refl _) | omega | (simp; done) | (simp [go_sem]; done) | (simp at *; omega))))).mono ?_ | with_reducible refine (Calls.giv (cti _ (by repeat' (first | (with_reducible exact Below.refl _ _) | (with_reducible assumption) | (with_reducible refine Ext.below _ ?_ ?_) | (with_reducible refine Below.on ?_ (by with_reducible assumption) ?_) | (with_reducible refine Below.alloc ?_ ?_ _) | (with_reducible refine Below.drew ?_) | (with_reducible refine Below.setCell ?_ ?_ _) | (with_reducible exact Nat.le_refl _) | omega | (simp; done) | (simp [go_sem]; done) | (simp at *; omega))))).mono ?_); rintro _ _ ⟨y1, rfl, rfl⟩; have sy1 := Ext.size y1; (repeat (first | rw [World.size_alloc] at sy1 | rw [World.size_setCell] at sy1 | rw [World.size_drew] at sy1)); have : B < y1.now.heap.size := (by omega); have : B ≤ y1.now.heap.size := (by omega); have : B < y1.now.heap.size + 1 + 1 := (by omega); have : w.heap.size < y1.now.heap.size := (by omega); have : w.heap.size ≤ y1.now.heap.size := (by omega); have : w.heap.size < y1.now.heap.size + 1 + 1 := (by omega)))
        go_returns
        refine ⟨?_, _, [], rfl, GrRows.nil, rfl⟩
        repeat' (first | (with_reducible exact Below.refl _ _) | (with_reducible assumption) | (with_reducible refine Ext.below _ ?_ ?_) | (with_reducible refine Below.on ?_ (by with_reducible assumption) ?_) | (with_reducible refine Below.alloc ?_ ?_ _) | (with_reducible refine Below.drew ?_) | (with_reducible refine Below.setCell ?_ ?_ _) | (with_reducible exact Nat.le_refl _) | omega | (simp; done) | (simp [go_sem]; done) | (simp at *; omega))
    · have hge : ¬ (i : Int) < ts.length := by omega
      have hf := hi.out.2
      rw [drop_end hlt, firstE] at hf
      subst hf
      clear hi
      replace hV := hV.out
      rw [if_pos hEe.out] at hV
      have hV := Go.Lib.hid hV
      have c3x := fun (W : World) (y : Below w.heap.size w W) => c3.out W y
      by_cases hge2 : guessesE gs t = 0
      · rw [hge2] at c3x
        replace hV := hV.out
        rw [if_pos hge2] at hV
        obtain ⟨F, hF⟩ : ∃ F : StateR → Nat → Bool, (fun g i => decide (fmS s g t 0 (ts.getD i ⟨none, 0, []⟩).l < 0)) = F := ⟨_, rfl⟩
        have hFm : Hid (∀ i (hi : i < ts.length) g, F g i = decide (fmS s g t 0 ts[i].l < 0)) := Go.Lib.hid fun i hi g => by rw [← hF]; simp [hi]
        rw [hF] at hV
        clear hF
        obtain ⟨L, hL⟩ : ∃ L, groupsF F ts.length gs = L := ⟨_, rfl⟩
        rw [hL] at hV
        subst hV
        unfold groupsF at hL
        have hL := Go.Lib.hid hL
        have gn := (guessesE_zero hge2).1
        have cmF := Go.Lib.hid (fun (W : World) (y : Below w.heap.size w W) i (hi : i < ts.length) j (hj : j < gs.length) => cm.out W y hEe.out hge2 i hi j hj)
        obtain ⟨ib, hib, hb0, hb1, hb2⟩ := info_parts bool_info
        obtain ⟨ii, hii, hq0, hq1, hq2⟩ := info_parts ints_info
        have k0 := (x.cell (o := 0) hsA).trans b0
        have k1 := (x.cell (o := 1) hsA).trans b1
        have k2 := (x.cell (o := 2) hsA).trans b2
        have k3 := (x.cell (o := 3) hsA).trans b3
        have hsx := x.lt hsA
        clear cm hEe hge2 ct c3 b0 b1 b2 b3 hTA hGA
        generalize x.now = WX at *
        clear x xs hsA
        go_wp2_with (first | ((first | with_reducible refine wp_region_ext2 (by kernel_rfl) (by kernel_rfl) ?_ | with_reducible refine wp_region_ext (by kernel_rfl) (by kernel_rfl) ?_); (repeat (first | go_big_quiet_step ((first | (go_at_call 39; with_reducible exact Calls.ext (c3x _ (by repeat' (first | (with_reducible exact Below.refl _ _) | (with_reducible assumption) | (with_reducible refine Ext.below _ ?_ ?_) | (with_reducible refine Below.on ?_ (by with_reducible assumption) ?_) | (with_reducible refine Below.alloc ?_ ?_ _) | (with_reducible refine Below.drew ?_) | (with_reducible refine Below.setCell ?_ ?_ _) | (with_reducible exact Nat.le_refl _) | omega | (simp; done) | (simp [go_sem]; done) | (simp at *; omega))))))) | quiet_step ((first | (go_at_call 39; with_reducible exact Calls.ext (c3x _ (by repeat' (first | (with_reducible exact Below.refl _ _) | (with_reducible assumption) | (with_reducible refine Ext.below _ ?_ ?_) | (with_reducible refine Below.on ?_ (by with_reducible assumption) ?_) | (with_reducible refine Below.alloc ?_ ?_ _) | (with_reducible refine Below.drew ?_) | (with_reducible refine Below.setCell ?_ ?_ _) | (with_reducible exact Nat.le_refl _) | omega | (simp; done) | (simp [go_sem]; done) | (simp at *; omega))))))))); refine wpQuiet_nil ?_; rintro _ ⟨yr, rfl⟩; have syr := Ext.size yr; (repeat (first | rw [World.size_alloc] at syr | rw [World.size_setCell] at syr | rw [World.size_drew] at syr)); have : w.heap.size < yr.now.heap.size := (by omega); have : w.heap.size ≤ yr.now.heap.size := (by omega); have : w.heap.size < yr.now.heap.size + 1 + 1 := (by omega)) | (go_at_call 39; (first | with_reducible refine (Calls.giv2 (c3x _ (by repeat' (first | (with_reducible exact Below.refl _ _) | (with_reducible assumption) | (with_reducible refine Ext.below _ ?_ ?_) | (with_reducible refine Below.on ?_ (by with_reducible assumption) ?_) | (with_reducible refine Below.alloc ?_ ?_ _) | (with_reducible refine Below.drew ?_) | (with_reducible refine Below.setCell ?_ ?_ _) | (with_reducible exact Nat.le_refl _) | omega | (simp; done) | (simp [go_sem]; done) | (simp at *; omega))))).mono ?_ | with_reducible refine (Calls.giv (c3x _ (by repeat' (first | (with_reducible exact Below.refl _ _) | (with_reducible assumption) | (with_reducible refine Ext.below _ ?_ ?_) | (with_reducible refine Below.on ?_ (by with_reducible assumption) ?_) | (with_reducible refine Below.alloc ?_ ?_ _) | (with_reducible refine Below.drew ?_) | (with_reducible refine Below.setCell ?_ ?_ _) | (with_reducible exact Nat.le_refl _) | omega | (simp; done) | (simp [go_sem]; done) | (simp at *; omega))))).mono ?_); rintro _ _ ⟨y1, rfl, rfl⟩; have sy1 := Ext.size y1; (repeat (first | rw [World.size_alloc] at sy1 | rw [World.size_setCell] at sy1 | rw [World.size_drew] at sy1)); have : w.heap.size < y1.now.heap.size := (by omega); have : w.heap.size ≤ y1.now.heap.size := (by omega); have : w.heap.size < y1.now.heap.size + 1 + 1 := (by omega)) | (at_make; go_loud (refine wpListW_named (fun WB hWB => ?_); have hbB : Below w.heap.size w WB := (by rw [← hWB]; repeat' (first | (with_reducible exact Below.refl _ _) | (with_reducible assumption) | (with_reducible refine Ext.below _ ?_ ?_) | (with_reducible refine Below.on ?_ (by with_reducible assumption) ?_) | (with_reducible refine Below.alloc ?_ ?_ _) | (with_reducible refine Below.drew ?_) | (with_reducible refine Below.setCell ?_ ?_ _) | (with_reducible exact Nat.le_refl _) | omega | (simp; done) | (simp [go_sem]; done) | (simp at *; omega))); have d0 : WB.cell? ⟨w.heap.size, 0, none⟩ = some (.slice n5 n4 n6) := (by rw [← hWB]; exact (y1.cell hsx).trans k0); have d1 : WB.cell? ⟨w.heap.size, 1, none⟩ = some (.int .i64 n0) := (by rw [← hWB]; exact (y1.cell hsx).trans k1); have d2 : WB.cell? ⟨w.heap.size, 2, none⟩ = some (.slice n8 n7 n9) := (by rw [← hWB]; exact (y1.cell hsx).trans k2); have d3 : WB.cell? ⟨w.heap.size, 3, none⟩ = some (.slice n2 n1 n3) := (by rw [← hWB]; exact (y1.cell hsx).trans k3); have hsB : w.heap.size < WB.heap.size := (by rw [← hWB]; exact y1.lt hsx); clear hWB; refine wpList_make_full _ rfl _ _ 84 rfl WB.heap.size 4 ib (.bool false) 1 Try.underlying84 hib hb0 hb1 .i64 .i64 ts.length ts.length ts.length rfl rfl rfl rfl (by rw [hb2]; omega) (by unfold maxLen; omega) (Nat.le_refl _) ?_; intro W1 ho1 hg1)))
        have hB1 : Below WB.heap.size WB W1 := ⟨hg1.os, hg1.tape, hg1.output, hg1.size, fun k hk => hg1.block k hk (by simp)⟩
        have ho1' : W1.ownsRow WB.heap.size 4 1 (.slice (some ⟨WB.heap.size, 0, none⟩) ts.length ts.length) ts.length (boolsOf (List.replicate ts.length false)) := by
          have h := ho1
          rw [Nat.mul_one, show (Value.bool false).cells = #[.bool false] from rfl, toList_madeCells_one] at h
          unfold boolsOf
          rw [List.map_replicate]
          exact h
        have hGB1 : WB.heap.size < W1.heap.size := (ho1.lt WB.heap.size rfl).2
        have hbelB : Hid (∀ y : RExt W1 WB.heap.size, Below WB.heap.size WB y.now) := Go.Lib.hid fun y => hB1.trans ((y.grew.mono (Nat.le_of_lt hGB1)).below (Nat.le_refl _))
        have hTB := Go.Lib.hid (hT.out.on hbB)
        have hGBs := Go.Lib.hid (hg.out.on hbB)
        have dd := Go.Lib.hid (And.intro d0 (And.intro d1 (And.intro d2 d3)))
        clear ho1 hg1 d0 d1 d2 d3 k0 k1 k2 k3 c3x
        obtain ⟨R, hR⟩ : ∃ R, groupsA F ts.length (List.replicate ts.length false) [] gs = R := ⟨_, rfl⟩
        rw [hR] at hL
        have hR := Go.Lib.hid hR
        have hwB := hbB.size
        obtain ⟨GB, hGB⟩ : ∃ GB, WB.heap.size = GB := ⟨_, rfl⟩
        have hcell : Hid (∀ (y : RExt W1 GB), Below GB WB y.now) := Go.Lib.hid (hGB ▸ hbelB.out)
        rw [hGB] at ho1' hGB1 ⊢
        have hGBh := Go.Lib.hid hGB
        have hsG : w.heap.size < GB := by omega
        clear hGB hbelB
        go_loopw [13, 14] (fun v u W => ∃ (i : Nat) (x : RExt W1 GB) (tk : List Bool) (fd : List IR), u = .int .i64 i ∧ W = x.now ∧ GrRows x.now W1.heap.size v fd ∧ x.now.ownsRow GB 4 1 (.slice (some ⟨GB, 0, none⟩) ts.length ts.length) ts.length (boolsOf tk) ∧ Hid (i ≤ gs.length ∧ tk.length = ts.length ∧ groupsA F ts.length tk (fd.map IR.l) (gs.drop i) = R ∧ fd.length ≤ i)) (fun _ u _ => gs.length - (intOf u).toNat)
        case atStart => exact ⟨0, ⟨W1, BelowX.refl _ _ _⟩, List.replicate ts.length false, [], rfl, rfl, GrRows.nil, ho1', Go.Lib.hid ⟨Nat.zero_le _, by simp, by simpa using hR.out, by simp⟩⟩
        case round =>
          obtain ⟨i, x, tk, fd, rfl, rfl, hM0, hb0', hi⟩ := hrel
          have xs := x.size
          obtain ⟨fp, fc, rfl⟩ := hM0.form
          have hGx : GB < x.now.heap.size := by omega
          by_cases hlt : i < gs.length
          · have hlt2 : (i : Int) < gs.length := by omega
            have hbx := hcell.out x
            have hwx := (hbB.trans (hbx.mono (by omega)))
            have htk := hi.out.2.1
            have hE := hi.out.2.2.1
            have hfl := hi.out.2.2.2
            rw [drop_at hlt, groupsA] at hE
            obtain ⟨G, hG0⟩ : ∃ G, grpA (F gs[i]) tk ts.length 0 [] = G := ⟨_, rfl⟩
            rw [hG0] at hE
            have hGin := Go.Lib.hid (grpA_in (F gs[i]) tk ts.length 0 [] (fun _ h => by simp at h))
            have hGl := grpA_len (F gs[i]) tk ts.length 0 []
            rw [hG0] at hGin hGl
            simp only [List.length_nil, Nat.zero_add] at hGl
            have hG0 := Go.Lib.hid hG0
            have hE := Go.Lib.hid hE
            obtain ⟨i0, hi0, hz0, hz1, hz2⟩ := info_parts int_info
            have hx0 := x.grew
            have hww := hwx.size
            clear hi
            go_wp2_with (first | ((first | with_reducible refine wp_region_ext2 (by kernel_rfl) (by kernel_rfl) ?_ | with_reducible refine wp_region_ext (by kernel_rfl) (by kernel_rfl) ?_); (repeat (first | go_big_quiet_step ((first | fail)) | quiet_step ((first | fail)))); refine wpQuiet_nil ?_; rintro _ ⟨yr, rfl⟩; have syr := Ext.size yr; (repeat (first | rw [World.size_alloc] at syr | rw [World.size_setCell] at syr | rw [World.size_drew] at syr)); have : w.heap.size < yr.now.heap.size := (by omega); have : w.heap.size ≤ yr.now.heap.size := (by omega); have : w.heap.size < yr.now.heap.size + 1 + 1 := (by omega)))
            generalize x.now = W0 at *
            clear x
            have hcB : ∀ B o, B < GB → W0.cell? ⟨B, o, none⟩ = WB.cell? ⟨B, o, none⟩ := fun B o h => hbx.cell (p := ⟨B, o, none⟩) h
            have hcB := Go.Lib.hid hcB
            have hT0 := Go.Lib.hid (hTB.out.on (hGBh.out.symm ▸ hbx))
            have hG0s := Go.Lib.hid (hGBs.out.on (hGBh.out.symm ▸ hbx))
            have a0 := (hcB.out w.heap.size 0 hsG).trans dd.out.1
            have a1 := (hcB.out w.heap.size 1 hsG).trans dd.out.2.1
            have a2 := (hcB.out w.heap.size 2 hsG).trans dd.out.2.2.1
            have a3 := (hcB.out w.heap.size 3 hsG).trans dd.out.2.2.2
            have hsW0 : w.heap.size < W0.heap.size := by omega
            have hW10 : W1.heap.size ≤ W0.heap.size := by omega
            go_loopw [15, 16] (fun v u W => ∃ (k : Nat) (y : Ext W0) (acc : List Int), u = .int .i64 k ∧ W = y.now ∧ y.now.ownsRow W0.heap.size 3 1 v acc.length (intsOf acc) ∧ Hid (k ≤ ts.length ∧ acc.length ≤ k ∧ grpA (F gs[i]) tk (ts.length - k) k acc = G)) (fun _ u _ => ts.length - (intOf u).toNat)
            case atStart => exact ⟨0, ⟨W0, Below.refl _ _⟩, [], rfl, rfl, World.ownsRow_nil _ _ _ _, Go.Lib.hid ⟨Nat.zero_le _, by simp, by simpa using hG0.out⟩⟩
            case round =>
              obtain ⟨k, y, acc, rfl, rfl, hown, hk⟩ := hrel
              have ys := y.size
              have hby := y.below hwx (by omega)
              have f0 := (y.cell hsW0).trans a0
              have f1 := (y.cell hsW0).trans a1
              have f2 := (y.cell hsW0).trans a2
              have f3 := (y.cell hsW0).trans a3
              have : w.heap.size < (y.now).heap.size := (by omega); have : w.heap.size < (y.now).heap.size + 1 := (by omega); have : w.heap.size < (y.now).heap.size + 1 + 1 := (by omega); have : w.heap.size ≠ (y.now).heap.size := (by omega); have : w.heap.size ≠ (y.now).heap.size + 1 := (by omega)
              by_cases hkn : k < ts.length
              · have hkn2 : (k : Int) < (ts.length : Int) := by omega
                have hbk := bools_at hb0' htk hkn
                have hGy : GB < y.now.heap.size := by omega
                have hEk := hk.out.2.2
                have hak := hk.out.2.1
                have hnk : ts.length - k = (ts.length - (k + 1)) + 1 := by omega
                rw [hnk, grpA] at hEk
                have hFk := hFm.out k hkn gs[i]
                have cmk := fun (W : World) (y : Below w.heap.size w W) => cmF.out W y k hkn i hlt
                obtain ⟨-, B2, o2, rfl, hB2, q1⟩ := hT0.out k hkn
                obtain ⟨B3, o3, rfl, hB3, u0, u1, u2, u3⟩ := hG0s.out i hlt
                have : B2 < (y.now).heap.size := (by omega); have : B2 < (y.now).heap.size + 1 := (by omega); have : B2 < (y.now).heap.size + 1 + 1 := (by omega); have : B2 ≠ (y.now).heap.size := (by omega); have : B2 ≠ (y.now).heap.size + 1 := (by omega)
                have : B3 < (y.now).heap.size := (by omega); have : B3 < (y.now).heap.size + 1 := (by omega); have : B3 < (y.now).heap.size + 1 + 1 := (by omega); have : B3 ≠ (y.now).heap.size := (by omega); have : B3 ≠ (y.now).heap.size + 1 := (by omega)
                cases hb : tk.getD k false
                case true =>
                  rw [hb] at hbk hEk
                  rw [if_neg (by simp)] at hEk
                  have key : Hid (k + 1 ≤ ts.length ∧ acc.length ≤ k + 1 ∧ grpA (F gs[i]) tk (ts.length - (k + 1)) (k + 1) acc = G) := Go.Lib.hid ⟨hkn, by omega, hEk⟩
                  clear hEk hk hFk cmk hb
                  go_wp2_with (first | ((with_reducible refine wp_region_ext (by kernel_rfl) (by kernel_rfl) ?_); (repeat (first | go_big_quiet_step ((first | fail)) | quiet_step ((first | fail)))); refine wpQuiet_nil ?_; rintro _ ⟨yr, rfl⟩; have syr := Ext.size yr; (repeat (first | rw [World.size_alloc] at syr | rw [World.size_setCell] at syr | rw [World.size_drew] at syr)); have : B2 < yr.now.heap.size := (by omega); have : B2 ≤ yr.now.heap.size := (by omega); have : B2 < yr.now.heap.size + 1 + 1 := (by omega); have : B3 < yr.now.heap.size := (by omega); have : B3 ≤ yr.now.heap.size := (by omega); have : B3 < yr.now.heap.size + 1 + 1 := (by omega); have : w.heap.size < yr.now.heap.size := (by omega); have : w.heap.size ≤ yr.now.heap.size := (by omega); have : w.heap.size < yr.now.heap.size + 1 + 1 := (by omega); have : GB < yr.now.heap.size := (by omega); have : GB ≤ yr.now.heap.size := (by omega); have : GB < yr.now.heap.size + 1 + 1 := (by omega)))
                  refine ⟨⟨k + 1, ⟨_, ?_⟩, acc, by simp, rfl, ?_, key⟩, by simp [intOf]; omega⟩
                  · repeat' (first | (with_reducible exact Below.refl _ _) | (with_reducible assumption) | (with_reducible refine Ext.below _ ?_ ?_) | (with_reducible refine Below.on ?_ (by with_reducible assumption) ?_) | (with_reducible refine Below.alloc ?_ ?_ _) | (with_reducible refine Below.drew ?_) | (with_reducible refine Below.setCell ?_ ?_ _) | (with_reducible exact Nat.le_refl _) | omega | (simp; done) | (simp [go_sem]; done) | (simp at *; omega))
                  · dsimp only; exact (by repeat (first | exact hown | (with_reducible refine World.ownsRow.alloc ?_ _) | (with_reducible refine World.ownsRow.drew ?_) | (with_reducible refine owns_ext ?_ _)))
                case false =>
                  rw [hb] at hbk hEk
                  obtain ⟨P, hP⟩ : ∃ P, fmS s gs[i] t 0 ts[k].l = P := ⟨_, rfl⟩
                  rw [hP] at hFk cmk
                  by_cases hneg : P < 0
                  · rw [decide_eq_true hneg] at hFk
                    rw [if_pos ⟨rfl, hFk⟩] at hEk
                    have hadd := Go.Lib.hid (intsOf_add acc (k : Int))
                    have key : Hid (k + 1 ≤ ts.length ∧ (acc ++ [(k : Int)]).length ≤ k + 1 ∧ grpA (F gs[i]) tk (ts.length - (k + 1)) (k + 1) (acc ++ [(k : Int)]) = G) := Go.Lib.hid ⟨hkn, by rw [List.length_append, List.length_cons, List.length_nil]; omega, hEk⟩
                    clear hEk hk hFk hb hP
                    generalize ts[k].l.length = tl at *
                    generalize ts[k].p = tpp at *
                    generalize ts[k].c = tcc at *
                    generalize gs[i].x = g1 at *
                    generalize gs[i].y = g2 at *
                    generalize gs[i].u = g3 at *
                    generalize gs[i].v = g4 at *
                    go_wp2_with (first | ((with_reducible refine wp_region_ext (by kernel_rfl) (by kernel_rfl) ?_); (repeat (first | go_big_quiet_step ((first | (go_at_call 42; with_reducible exact Calls.ext (cmk _ (by repeat' (first | (with_reducible exact Below.refl _ _) | (with_reducible assumption) | (with_reducible refine Ext.below _ ?_ ?_) | (with_reducible refine Below.on ?_ (by with_reducible assumption) ?_) | (with_reducible refine Below.alloc ?_ ?_ _) | (with_reducible refine Below.drew ?_) | (with_reducible refine Below.setCell ?_ ?_ _) | (with_reducible exact Nat.le_refl _) | omega | (simp; done) | (simp [go_sem]; done) | (simp at *; omega))))))) | quiet_step ((first | (go_at_call 42; with_reducible exact Calls.ext (cmk _ (by repeat' (first | (with_reducible exact Below.refl _ _) | (with_reducible assumption) | (with_reducible refine Ext.below _ ?_ ?_) | (with_reducible refine Below.on ?_ (by with_reducible assumption) ?_) | (with_reducible refine Below.alloc ?_ ?_ _) | (with_reducible refine Below.drew ?_) | (with_reducible refine Below.setCell ?_ ?_ _) | (with_reducible exact Nat.le_refl _) | omega | (simp; done) | (simp [go_sem]; done) | (simp at *; omega))))))))); refine wpQuiet_nil ?_; rintro _ ⟨yr, rfl⟩; have syr := Ext.size yr; (repeat (first | rw [World.size_alloc] at syr | rw [World.size_setCell] at syr | rw [World.size_drew] at syr)); have : B2 < yr.now.heap.size := (by omega); have : B2 ≤ yr.now.heap.size := (by omega); have : B2 < yr.now.heap.size + 1 + 1 := (by omega); have : B3 < yr.now.heap.size := (by omega); have : B3 ≤ yr.now.heap.size := (by omega); have : B3 < yr.now.heap.size + 1 + 1 := (by omega); have : w.heap.size < yr.now.heap.size := (by omega); have : w.heap.size ≤ yr.now.heap.size := (by omega); have : w.heap.size < yr.now.heap.size + 1 + 1 := (by omega); have : GB < yr.now.heap.size := (by omega); have : GB ≤ yr.now.heap.size := (by omega); have : GB < yr.now.heap.size + 1 + 1 := (by omega)) | (go_at_call 42; with_reducible refine (Calls.giv (cmk _ (by repeat' (first | (with_reducible exact Below.refl _ _) | (with_reducible assumption) | (with_reducible refine Ext.below _ ?_ ?_) | (with_reducible refine Below.on ?_ (by with_reducible assumption) ?_) | (with_reducible refine Below.alloc ?_ ?_ _) | (with_reducible refine Below.drew ?_) | (with_reducible refine Below.setCell ?_ ?_ _) | (with_reducible exact Nat.le_refl _) | omega | (simp; done) | (simp [go_sem]; done) | (simp at *; omega))))).mono ?_; rintro _ _ ⟨y1, rfl, rfl⟩; have sy1 := Ext.size y1; (repeat (first | rw [World.size_alloc] at sy1 | rw [World.size_setCell] at sy1 | rw [World.size_drew] at sy1)); have : B2 < y1.now.heap.size := (by omega); have : B2 ≤ y1.now.heap.size := (by omega); have : B2 < y1.now.heap.size + 1 + 1 := (by omega); have : B3 < y1.now.heap.size := (by omega); have : B3 ≤ y1.now.heap.size := (by omega); have : B3 < y1.now.heap.size + 1 + 1 := (by omega); have : w.heap.size < y1.now.heap.size := (by omega); have : w.heap.size ≤ y1.now.heap.size := (by omega); have : w.heap.size < y1.now.heap.size + 1 + 1 := (by omega); have : GB < y1.now.heap.size := (by omega); have : GB ≤ y1.now.heap.size := (by omega); have : GB < y1.now.heap.size + 1 + 1 := (by omega)) | (at_builtin; refine wpList_append_own _ rfl _ _ 22 rfl W0.heap.size 3 i0 _ 1 8 Try.underlying22 hi0 hz0 hz1 hz2 rfl (by decide) _ acc.length (intsOf acc) rfl (by repeat (first | exact hown | (with_reducible refine World.ownsRow.alloc ?_ _) | (with_reducible refine World.ownsRow.drew ?_) | (with_reducible refine owns_ext ?_ _))) _ 1 1 _ rfl rfl (cells1_new _ _ _) (by intro u hu; simp only [List.mem_cons, List.not_mem_nil, or_false] at hu; subst hu; rfl) (by unfold maxLen; omega) (by omega) (by (try simp only [World.size_alloc]); omega) ?_; intro v' W2 hown' hgrow _; have hbel : Below W0.heap.size W0 W2 := (by refine below_grown (e := 3) (size := 1) (n := acc.length) (xs := intsOf acc) ?_ (by repeat (first | exact hown | (with_reducible refine World.ownsRow.alloc ?_ _) | (with_reducible refine World.ownsRow.drew ?_) | (with_reducible refine owns_ext ?_ _))) (Nat.le_refl _) (by (try simp only [World.size_alloc]); omega) hgrow; repeat' (first | (with_reducible exact Below.refl _ _) | (with_reducible assumption) | (with_reducible refine Ext.below _ ?_ ?_) | (with_reducible refine Below.on ?_ (by with_reducible assumption) ?_) | (with_reducible refine Below.alloc ?_ ?_ _) | (with_reducible refine Below.drew ?_) | (with_reducible refine Below.setCell ?_ ?_ _) | (with_reducible exact Nat.le_refl _) | omega | (simp; done) | (simp [go_sem]; done) | (simp at *; omega)))))
                    exact ⟨⟨k + 1, ⟨W2, hbel⟩, acc ++ [(k : Int)], by simp, rfl, by rw [hadd.out, List.length_append]; exact hown', key⟩, by simp [intOf]; omega⟩
                  · rw [decide_eq_false hneg] at hFk
                    rw [if_neg (by rw [hFk]; simp)] at hEk
                    have key : Hid (k + 1 ≤ ts.length ∧ acc.length ≤ k + 1 ∧ grpA (F gs[i]) tk (ts.length - (k + 1)) (k + 1) acc = G) := Go.Lib.hid ⟨hkn, by omega, hEk⟩
                    clear hEk hk hFk hb hP
                    generalize ts[k].l.length = tl at *
                    generalize ts[k].p = tpp at *
                    generalize ts[k].c = tcc at *
                    generalize gs[i].x = g1 at *
                    generalize gs[i].y = g2 at *
                    generalize gs[i].u = g3 at *
                    generalize gs[i].v = g4 at *
                    go_wp2_with (first | ((with_reducible refine wp_region_ext (by kernel_rfl) (by kernel_rfl) ?_); (repeat (first | go_big_quiet_step ((first | (go_at_call 42; with_reducible exact Calls.ext (cmk _ (by repeat' (first | (with_reducible exact Below.refl _ _) | (with_reducible assumption) | (with_reducible refine Ext.below _ ?_ ?_) | (with_reducible refine Below.on ?_ (by with_reducible assumption) ?_) | (with_reducible refine Below.alloc ?_ ?_ _) | (with_reducible refine Below.drew ?_) | (with_reducible refine Below.setCell ?_ ?_ _) | (with_reducible exact Nat.le_refl _) | omega | (simp; done) | (simp [go_sem]; done) | (simp at *; omega))))))) | quiet_step ((first | (go_at_call 42; with_reducible exact Calls.ext (cmk _ (by repeat' (first | (with_reducible exact Below.refl _ _) | (with_reducible assumption) | (with_reducible refine Ext.below _ ?_ ?_) | (with_reducible refine Below.on ?_ (by with_reducible assumption) ?_) | (with_reducible refine Below.alloc ?_ ?_ _) | (with_reducible refine Below.drew ?_) | (with_reducible refine Below.setCell ?_ ?_ _) | (with_reducible exact Nat.le_refl _) | omega | (simp; done) | (simp [go_sem]; done) | (simp at *; omega))))))))); refine wpQuiet_nil ?_; rintro _ ⟨yr, rfl⟩; have syr := Ext.size yr; (repeat (first | rw [World.size_alloc] at syr | rw [World.size_setCell] at syr | rw [World.size_drew] at syr)); have : B2 < yr.now.heap.size := (by omega); have : B2 ≤ yr.now.heap.size := (by omega); have : B2 < yr.now.heap.size + 1 + 1 := (by omega); have : B3 < yr.now.heap.size := (by omega); have : B3 ≤ yr.now.heap.size := (by omega); have : B3 < yr.now.heap.size + 1 + 1 := (by omega); have : w.heap.size < yr.now.heap.size := (by omega); have : w.heap.size ≤ yr.now.heap.size := (by omega); have : w.heap.size < yr.now.heap.size + 1 + 1 := (by omega); have : GB < yr.now.heap.size := (by omega); have : GB ≤ yr.now.heap.size := (by omega); have : GB < yr.now.heap.size + 1 + 1 := (by omega)) | (go_at_call 42; with_reducible refine (Calls.giv (cmk _ (by repeat' (first | (with_reducible exact Below.refl _ _) | (with_reducible assumption) | (with_reducible refine Ext.below _ ?_ ?_) | (with_reducible refine Below.on ?_ (by with_reducible assumption) ?_) | (with_reducible refine Below.alloc ?_ ?_ _) | (with_reducible refine Below.drew ?_) | (with_reducible refine Below.setCell ?_ ?_ _) | (with_reducible exact Nat.le_refl _) | omega | (simp; done) | (simp [go_sem]; done) | (simp at *; omega))))).mono ?_; rintro _ _ ⟨y1, rfl, rfl⟩; have sy1 := Ext.size y1; (repeat (first | rw [World.size_alloc] at sy1 | rw [World.size_setCell] at sy1 | rw [World.size_drew] at sy1)); have : B2 < y1.now.heap.size := (by omega); have : B2 ≤ y1.now.heap.size := (by omega); have : B2 < y1.now.heap.size + 1 + 1 := (by omega); have : B3 < y1.now.heap.size := (by omega); have : B3 ≤ y1.now.heap.size := (by omega); have : B3 < y1.now.heap.size + 1 + 1 := (by omega); have : w.heap.size < y1.now.heap.size := (by omega); have : w.heap.size ≤ y1.now.heap.size := (by omega); have : w.heap.size < y1.now.heap.size + 1 + 1 := (by omega); have : GB < y1.now.heap.size := (by omega); have : GB ≤ y1.now.heap.size := (by omega); have : GB < y1.now.heap.size + 1 + 1 := (by omega)))
                    refine ⟨⟨k + 1, ⟨_, ?_⟩, acc, by simp, rfl, ?_, key⟩, by simp [intOf]; omega⟩
                    · repeat' (first | (with_reducible exact Below.refl _ _) | (with_reducible assumption) | (with_reducible refine Ext.below _ ?_ ?_) | (with_reducible refine Below.on ?_ (by with_reducible assumption) ?_) | (with_reducible refine Below.alloc ?_ ?_ _) | (with_reducible refine Below.drew ?_) | (with_reducible refine Below.setCell ?_ ?_ _) | (with_reducible exact Nat.le_refl _) | omega | (simp; done) | (simp [go_sem]; done) | (simp at *; omega))
                    · dsimp only; exact (by repeat (first | exact hown | (with_reducible refine World.ownsRow.alloc ?_ _) | (with_reducible refine World.ownsRow.drew ?_) | (with_reducible refine owns_ext ?_ _)))
              · obtain rfl : k = ts.length := by have := hk.out.1; omega
                have hEk := hk.out.2.2
                rw [Nat.sub_self, grpA] at hEk
                subst hEk
                have hge : ¬ (ts.length : Int) < (ts.length : Int) := by omega
                have hE := hE.out
                obtain ⟨ap, ac, rfl⟩ := owns_form hown
                by_cases hlen : acc.length < 2
                · rw [if_pos hlen] at hE
                  have hlen2 : (acc.length : Int) < 2 := by omega
                  have key : Hid (i + 1 ≤ gs.length ∧ tk.length = ts.length ∧ groupsA F ts.length tk (fd.map IR.l) (gs.drop (i + 1)) = R ∧ fd.length ≤ i + 1) := Go.Lib.hid ⟨hlt, htk, hE, by omega⟩
                  clear hE hk hG0
                  go_wp2_with (first | ((first | with_reducible refine wp_region_ext2 (by kernel_rfl) (by kernel_rfl) ?_ | with_reducible refine wp_region_ext (by kernel_rfl) (by kernel_rfl) ?_); (repeat (first | go_big_quiet_step ((first | fail)) | quiet_step ((first | fail)))); refine wpQuiet_nil ?_; rintro _ ⟨yr, rfl⟩; have syr := Ext.size yr; (repeat (first | rw [World.size_alloc] at syr | rw [World.size_setCell] at syr | rw [World.size_drew] at syr)); have : w.heap.size < yr.now.heap.size := (by omega); have : w.heap.size ≤ yr.now.heap.size := (by omega); have : w.heap.size < yr.now.heap.size + 1 + 1 := (by omega)))
                  have hxy : BelowX GB W1.heap.size W1 y.now := hx0.trans ((BelowX.of y.grew).mono hW10)
                  exact ⟨⟨i + 1, ⟨y.now, hxy⟩, tk, fd, by simp, rfl, hM0.on y.grew, owns_ext hb0' y, key⟩, by simp [intOf]; omega⟩
                · rw [if_neg hlen] at hE
                  have hlen2 : ¬ ((acc.length : Int) < 2) := by omega
                  have hW1y : W1.heap.size ≤ y.now.heap.size := by omega
                  have hfd : fd.length ≤ 64 := by omega
                  have hk16 : acc.length ≤ 1000 := by omega
                  clear hk hG0
                  go_wp2_with (first | ((first | with_reducible refine wp_region_ext2 (by kernel_rfl) (by kernel_rfl) ?_ | with_reducible refine wp_region_ext (by kernel_rfl) (by kernel_rfl) ?_); (repeat (first | go_big_quiet_step ((first | fail)) | quiet_step ((first | fail)))); refine wpQuiet_nil ?_; rintro _ ⟨yr, rfl⟩; have syr := Ext.size yr; (repeat (first | rw [World.size_alloc] at syr | rw [World.size_setCell] at syr | rw [World.size_drew] at syr))) | (at_builtin; go_loud (refine wpListW_named (fun W12 hWn => ?_); have sn : W12.heap.size = y.now.heap.size + 1 := (by rw [← hWn]; simp); have hMn : GrRows W12 W1.heap.size (.slice fp fd.length fc) fd := (by rw [← hWn]; exact (hM0.on y.grew).alloc _); have hgrp : W12.ownsRow W1.heap.size 3 1 (.slice ap acc.length ac) acc.length (intsOf acc) := (by rw [← hWn]; exact (owns_base hown hW10).alloc _); have hbn : W12.ownsRow GB 4 1 (.slice (some ⟨GB, 0, none⟩) ts.length ts.length) ts.length (boolsOf tk) := (by rw [← hWn]; exact (owns_ext hb0' y).alloc _); have hBn : BelowX GB W1.heap.size W1 W12 := (by rw [← hWn]; exact (hx0.trans ((BelowX.of y.grew).mono hW10)).alloc hW1y _); have hcn : ∀ j u, [.slice ap acc.length ac][j]? = some u → W12.cell? ((⟨y.now.heap.size, 0, none⟩ : Addr).add j) = some u := (by rw [← hWn]; exact cell1_at _ _ rfl _ _); clear hWn; refine wpList_append_own _ rfl _ _ 50 rfl W1.heap.size 22 ii _ 1 24 Try.underlying50 hii hq0 hq1 hq2 rfl (by decide) _ fd.length (ivals fd) rfl hMn.l ⟨y.now.heap.size, 0, none⟩ 1 1 [.slice ap acc.length ac] rfl rfl hcn (by intro u hu; rw [List.mem_singleton.1 hu]; rfl) (by unfold maxLen; omega) (by omega) (by omega) ?_; intro v' W13 ho13 hgr _; have hM13 := hMn.add (r := ⟨ap, ac, acc⟩) hgrp ho13 hgr; have hb13 := hbn.kept hgr (owns_apart2 hbn hMn.l (by decide)); have hB13 := belowX_grown hBn hMn.l (Nat.le_refl _) (by omega) hgr; have s13 := hgr.size; clear hMn hgrp hbn hBn hcn ho13 hgr)))
                  have hgr13 := hM13.t ⟨ap, ac, acc⟩ (by simp)
                  simp only at hgr13
                  obtain ⟨ap', ac', eI, hI⟩ := owns_ints hgr13
                  injection eI with eI1 eI2 eI3
                  rw [← eI1] at hI
                  clear eI1 eI2 eI3 ap' ac'
                  have hI := Go.Lib.hid hI
                  have hlow := Go.Lib.hid (fun (B : Nat) (h : (Value.slice ap acc.length ac).ownBlock = some B) => (hgr13.lt B h).1)
                  have hW1z : W1.heap.size ≤ W13.heap.size := hB13.size
                  clear hgr13 hown
                  go_loopw [17] (fun u W => ∃ (m : Nat) (z : RExt W13 GB) (tk' : List Bool), u = .int .i64 m ∧ W = z.now ∧ z.now.ownsRow GB 4 1 (.slice (some ⟨GB, 0, none⟩) ts.length ts.length) ts.length (boolsOf tk') ∧ Hid (m ≤ acc.length ∧ tk'.length = ts.length ∧ markA tk' (acc.drop m) = markA tk acc)) (fun u _ => acc.length - (intOf u).toNat)
                  case atStart => exact ⟨0, ⟨W13, BelowX.refl _ _ _⟩, tk, rfl, rfl, hb13, Go.Lib.hid ⟨Nat.zero_le _, htk, by simp⟩⟩
                  case round =>
                    obtain ⟨m, z, tk', rfl, rfl, hbz, hm⟩ := hrel
                    have zs := z.size
                    have hGz : GB < z.now.heap.size := by omega
                    by_cases hma : m < acc.length
                    · have hma2 : (m : Int) < acc.length := by omega
                      have hm64 : m < 1000 := by omega
                      obtain ⟨B4, o4, rfl, hB4, s1⟩ := hI.out m hma
                      have hB4G : B4 ≠ GB := by have := hlow.out B4 rfl; omega
                      have hB4z : B4 < z.now.heap.size := by omega
                      have hin := hGin.out acc[m] (List.getElem_mem hma)
                      have hE3 := hm.out.2.2
                      have htk' := hm.out.2.1
                      rw [drop_at hma, markA] at hE3
                      generalize acc[m] = gm at *
                      obtain ⟨hin0, hin1⟩ := hin
                      obtain ⟨gn', rfl⟩ := Int.eq_ofNat_of_zero_le hin0
                      have hgk : gn' < ts.length := by omega
                      have hgk2 : (gn' : Int) < (ts.length : Int) := by omega
                      have hc := bools_at hbz htk' hgk
                      have hf := hbz.frozenAt gn'
                      have hst := Go.Lib.hid (hbz.stored gn' (.bool true)).1
                      have key : Hid (m + 1 ≤ acc.length ∧ (tk'.set gn' true).length = ts.length ∧ markA (tk'.set gn' true) (acc.drop (m + 1)) = markA tk acc) := Go.Lib.hid ⟨hma, by simpa using htk', by simpa using hE3⟩
                      clear hE3 hm hin0 hin1
                      go_wp2_with (first | ((first | with_reducible refine wp_region_ext2 (by kernel_rfl) (by kernel_rfl) ?_ | with_reducible refine wp_region_ext (by kernel_rfl) (by kernel_rfl) ?_); (repeat (first | go_big_quiet_step ((first | fail)) | quiet_step ((first | fail)))); refine wpQuiet_nil ?_; rintro _ ⟨yr, rfl⟩; have syr := Ext.size yr; (repeat (first | rw [World.size_alloc] at syr | rw [World.size_setCell] at syr | rw [World.size_drew] at syr)); have : B4 < yr.now.heap.size := (by omega); have : B4 ≤ yr.now.heap.size := (by omega); have : B4 < yr.now.heap.size + 1 + 1 := (by omega); have : GB < yr.now.heap.size := (by omega); have : GB ≤ yr.now.heap.size := (by omega); have : GB < yr.now.heap.size + 1 + 1 := (by omega)))
                      exact ⟨⟨m + 1, ⟨_, z.grew.ring gn' _⟩, tk'.set gn' true, by simp, rfl, by rw [← bools_set]; exact hst.out, key⟩, by simp [intOf]; omega⟩
                    · have hma2 : ¬ (m : Int) < acc.length := by omega
                      have hE3 := hm.out.2.2
                      have htk' := hm.out.2.1
                      rw [drop_end hma, markA] at hE3
                      rw [← hE3] at hE
                      clear hm hE3
                      have key : Hid (i + 1 ≤ gs.length ∧ tk'.length = ts.length ∧ groupsA F ts.length tk' ((fd ++ [(⟨ap, ac, acc⟩ : IR)]).map IR.l) (gs.drop (i + 1)) = R ∧ (fd ++ [(⟨ap, ac, acc⟩ : IR)]).length ≤ i + 1) := Go.Lib.hid ⟨hlt, htk', by rw [List.map_append]; exact hE, by rw [List.length_append, List.length_cons, List.length_nil]; omega⟩
                      go_wp2_with (first | ((first | with_reducible refine wp_region_ext2 (by kernel_rfl) (by kernel_rfl) ?_ | with_reducible refine wp_region_ext (by kernel_rfl) (by kernel_rfl) ?_); (repeat (first | go_big_quiet_step ((first | fail)) | quiet_step ((first | fail)))); refine wpQuiet_nil ?_; rintro _ ⟨yr, rfl⟩; have syr := Ext.size yr; (repeat (first | rw [World.size_alloc] at syr | rw [World.size_setCell] at syr | rw [World.size_drew] at syr)); have : GB < yr.now.heap.size := (by omega); have : GB ≤ yr.now.heap.size := (by omega); have : GB < yr.now.heap.size + 1 + 1 := (by omega)))
                      exact ⟨⟨i + 1, ⟨z.now, z.belowX hB13 hW1z⟩, tk', fd ++ [⟨ap, ac, acc⟩], by simp, rfl, hM13.belowX hGB1 z.grew, hbz, key⟩, by simp [intOf]; omega⟩
          · have hge : ¬ (i : Int) < gs.length := by omega
            have hE := hi.out.2.2.1
            have htk := hi.out.2.1
            have hfl := hi.out.2.2.2
            rw [drop_end hlt, groupsA] at hE
            subst hE
            have hi' : i ≤ 64 := by have := hi.out.1; omega
            clear hi
            go_wp2_with (first | ((first | with_reducible refine wp_region_ext2 (by kernel_rfl) (by kernel_rfl) ?_ | with_reducible refine wp_region_ext (by kernel_rfl) (by kernel_rfl) ?_); (repeat (first | go_big_quiet_step ((first | fail)) | quiet_step ((first | fail)))); refine wpQuiet_nil ?_; rintro _ ⟨yr, rfl⟩; have syr := Ext.size yr; (repeat (first | rw [World.size_alloc] at syr | rw [World.size_setCell] at syr | rw [World.size_drew] at syr))))
            go_loopw [13, 18] (fun v u W => ∃ (k : Nat) (z : RExt W1 GB) (fd' : List IR), u = .int .i64 k ∧ W = z.now ∧ GrRows z.now W1.heap.size v fd' ∧ z.now.ownsRow GB 4 1 (.slice (some ⟨GB, 0, none⟩) ts.length ts.length) ts.length (boolsOf tk) ∧ Hid (k ≤ ts.length ∧ fd'.length ≤ 64 + k ∧ restA tk (ts.length - k) k (fd'.map IR.l) = L)) (fun _ u _ => ts.length - (intOf u).toNat)
            case atStart => exact ⟨0, x, fd, rfl, rfl, hM0, hb0', Go.Lib.hid ⟨Nat.zero_le _, by omega, by simpa using hL.out⟩⟩
            case round =>
              clear hM0 hb0' xs
              obtain ⟨k, z, fd', rfl, rfl, hMz, hbz, hk⟩ := hrel
              have zs := z.size
              obtain ⟨fp, fc, rfl⟩ := hMz.form
              have hGz : GB < z.now.heap.size := by omega
              by_cases hkn : k < ts.length
              · have hkn2 : (k : Int) < (ts.length : Int) := by omega
                have hc := bools_at hbz htk hkn
                have hEk := hk.out.2.2
                have hfk := hk.out.2.1
                have hnk : ts.length - k = (ts.length - (k + 1)) + 1 := by omega
                rw [hnk, restA] at hEk
                cases hbk : tk.getD k false
                case true =>
                  rw [hbk] at hc hEk
                  rw [if_pos rfl] at hEk
                  have key : Hid (k + 1 ≤ ts.length ∧ fd'.length ≤ 64 + (k + 1) ∧ restA tk (ts.length - (k + 1)) (k + 1) (fd'.map IR.l) = L) := Go.Lib.hid ⟨hkn, by omega, hEk⟩
                  clear hEk hk hbk
                  go_wp2_with (first | ((first | with_reducible refine wp_region_ext2 (by kernel_rfl) (by kernel_rfl) ?_ | with_reducible refine wp_region_ext (by kernel_rfl) (by kernel_rfl) ?_); (repeat (first | go_big_quiet_step ((first | fail)) | quiet_step ((first | fail)))); refine wpQuiet_nil ?_; rintro _ ⟨yr, rfl⟩; have syr := Ext.size yr; (repeat (first | rw [World.size_alloc] at syr | rw [World.size_setCell] at syr | rw [World.size_drew] at syr)); have : GB < yr.now.heap.size := (by omega); have : GB ≤ yr.now.heap.size := (by omega); have : GB < yr.now.heap.size + 1 + 1 := (by omega)))
                  exact ⟨⟨k + 1, z, fd', by simp, rfl, hMz, hbz, key⟩, by simp [intOf]; omega⟩
                case false =>
                  rw [hbk] at hc hEk
                  rw [if_neg (by simp)] at hEk
                  have hfd : fd'.length ≤ 100 := by omega
                  clear hk hbk
                  go_wp2_with (first | ((first | with_reducible refine wp_region_ext2 (by kernel_rfl) (by kernel_rfl) ?_ | with_reducible refine wp_region_ext (by kernel_rfl) (by kernel_rfl) ?_); (repeat (first | go_big_quiet_step ((first | fail)) | quiet_step ((first | fail)))); refine wpQuiet_nil ?_; rintro _ ⟨yr, rfl⟩; have syr := Ext.size yr; (repeat (first | rw [World.size_alloc] at syr | rw [World.size_setCell] at syr | rw [World.size_drew] at syr)); have : GB < yr.now.heap.size := (by omega); have : GB ≤ yr.now.heap.size := (by omega); have : GB < yr.now.heap.size + 1 + 1 := (by omega)) | (at_builtin; go_loud (refine wpListW_named (fun W12 hWn => ?_); have sn : W12.heap.size = z.now.heap.size + 1 + 1 := (by rw [← hWn]; simp); have hMn : GrRows W12 W1.heap.size (.slice fp fd'.length fc) fd' := (by rw [← hWn]; exact (hMz.alloc _).alloc _); have hgrp : W12.ownsRow W1.heap.size 3 1 (.slice (some ⟨z.now.heap.size, 0, none⟩) 1 1) 1 (intsOf [(k : Int)]) := (by rw [← hWn]; exact (World.ownsRow_lit z.now #[.int .i64 (k : Int)] 1 zs (by decide) rfl).alloc _); have hbn : W12.ownsRow GB 4 1 (.slice (some ⟨GB, 0, none⟩) ts.length ts.length) ts.length (boolsOf tk) := (by rw [← hWn]; exact (hbz.alloc _).alloc _); have hBn : BelowX GB W1.heap.size W1 W12 := (by rw [← hWn]; exact (z.grew.alloc zs _).alloc (by simp only [World.size_alloc]; omega) _); have hcn : ∀ j u, [.slice (some ⟨z.now.heap.size, 0, none⟩) 1 1][j]? = some u → W12.cell? ((⟨z.now.heap.size + 1, 0, none⟩ : Addr).add j) = some u := (by rw [← hWn]; exact cell1_at _ _ (by simp) _ _); clear hWn; refine wpList_append_own _ rfl _ _ 50 rfl W1.heap.size 22 ii _ 1 24 Try.underlying50 hii hq0 hq1 hq2 rfl (by decide) _ fd'.length (ivals fd') rfl hMn.l ⟨z.now.heap.size + 1, 0, none⟩ 1 1 [.slice (some ⟨z.now.heap.size, 0, none⟩) 1 1] rfl rfl hcn (by intro u hu; rw [List.mem_singleton.1 hu]; rfl) (by unfold maxLen; omega) (by omega) (by omega) ?_; intro v' W13 ho13 hgr _; have hM13 := hMn.add (r := ⟨some ⟨z.now.heap.size, 0, none⟩, 1, [(k : Int)]⟩) hgrp ho13 hgr; have hb13 := hbn.kept hgr (owns_apart2 hbn hMn.l (by decide)); have hB13 := belowX_grown hBn hMn.l (Nat.le_refl _) (by omega) hgr; have s13 := hgr.size; clear hMn hgrp hbn hBn hcn ho13 hgr)))
                  have key : Hid (k + 1 ≤ ts.length ∧ (fd' ++ [(⟨some ⟨z.now.heap.size, 0, none⟩, 1, [(k : Int)]⟩ : IR)]).length ≤ 64 + (k + 1) ∧ restA tk (ts.length - (k + 1)) (k + 1) ((fd' ++ [(⟨some ⟨z.now.heap.size, 0, none⟩, 1, [(k : Int)]⟩ : IR)]).map IR.l) = L) := Go.Lib.hid ⟨hkn, by rw [List.length_append, List.length_cons, List.length_nil]; omega, by rw [List.map_append]; exact hEk⟩
                  exact ⟨⟨k + 1, ⟨W13, hB13⟩, fd' ++ [⟨some ⟨z.now.heap.size, 0, none⟩, 1, [(k : Int)]⟩], by simp, rfl, hM13, hb13, key⟩, by simp [intOf]; omega⟩
              · obtain rfl : k = ts.length := by have := hk.out.1; omega
                have hEk := hk.out.2.2
                rw [Nat.sub_self, restA] at hEk
                have hge2 : ¬ (ts.length : Int) < (ts.length : Int) := by omega
                clear hk
                have hBw : Below w.heap.size w z.now := hbB.trans ((hcell.out z).mono (by omega))
                go_wp2_with (first | ((first | with_reducible refine wp_region_ext2 (by kernel_rfl) (by kernel_rfl) ?_ | with_reducible refine wp_region_ext (by kernel_rfl) (by kernel_rfl) ?_); (repeat (first | go_big_quiet_step ((first | fail)) | quiet_step ((first | fail)))); refine wpQuiet_nil ?_; rintro _ ⟨yr, rfl⟩; have syr := Ext.size yr; (repeat (first | rw [World.size_alloc] at syr | rw [World.size_setCell] at syr | rw [World.size_drew] at syr))))
                go_returns
                exact ⟨hBw, _, fd', rfl, hMz.down (by omega), hEk⟩
      · replace hV := hV.out
        rw [if_neg hge2] at hV
        subst hV
        generalize guessesE gs t = ge at *
        go_wp2_with (first | ((first | with_reducible refine wp_region_ext2 (by kernel_rfl) (by kernel_rfl) ?_ | with_reducible refine wp_region_ext (by kernel_rfl) (by kernel_rfl) ?_); (repeat (first | go_big_quiet_step ((first | (go_at_call 39; with_reducible exact Calls.ext (c3x _ (by repeat' (first | (with_reducible exact Below.refl _ _) | (with_reducible assumption) | (with_reducible refine Ext.below _ ?_ ?_) | (with_reducible refine Below.on ?_ (by with_reducible assumption) ?_) | (with_reducible refine Below.alloc ?_ ?_ _) | (with_reducible refine Below.drew ?_) | (with_reducible refine Below.setCell ?_ ?_ _) | (with_reducible exact Nat.le_refl _) | omega | (simp; done) | (simp [go_sem]; done) | (simp at *; omega))))))) | quiet_step ((first | (go_at_call 39; with_reducible exact Calls.ext (c3x _ (by repeat' (first | (with_reducible exact Below.refl _ _) | (with_reducible assumption) | (with_reducible refine Ext.below _ ?_ ?_) | (with_reducible refine Below.on ?_ (by with_reducible assumption) ?_) | (with_reducible refine Below.alloc ?_ ?_ _) | (with_reducible refine Below.drew ?_) | (with_reducible refine Below.setCell ?_ ?_ _) | (with_reducible exact Nat.le_refl _) | omega | (simp; done) | (simp [go_sem]; done) | (simp at *; omega))))))))); refine wpQuiet_nil ?_; rintro _ ⟨yr, rfl⟩; have syr := Ext.size yr; (repeat (first | rw [World.size_alloc] at syr | rw [World.size_setCell] at syr | rw [World.size_drew] at syr)); have : w.heap.size < yr.now.heap.size := (by omega); have : w.heap.size ≤ yr.now.heap.size := (by omega); have : w.heap.size < yr.now.heap.size + 1 + 1 := (by omega)) | (go_at_call 39; (first | with_reducible refine (Calls.giv2 (c3x _ (by repeat' (first | (with_reducible exact Below.refl _ _) | (with_reducible assumption) | (with_reducible refine Ext.below _ ?_ ?_) | (with_reducible refine Below.on ?_ (by with_reducible assumption) ?_) | (with_reducible refine Below.alloc ?_ ?_ _) | (with_reducible refine Below.drew ?_) | (with_reducible refine Below.setCell ?_ ?_ _) | (with_reducible exact Nat.le_refl _) | omega | (simp; done) | (simp [go_sem]; done) | (simp at *; omega))))).mono ?_ | with_reducible refine (Calls.giv (c3x _ (by repeat' (first | (with_reducible exact Below.refl _ _) | (with_reducible assumption) | (with_reducible refine Ext.below _ ?_ ?_) | (with_reducible refine Below.on ?_ (by with_reducible assumption) ?_) | (with_reducible refine Below.alloc ?_ ?_ _) | (with_reducible refine Below.drew ?_) | (with_reducible refine Below.setCell ?_ ?_ _) | (with_reducible exact Nat.le_refl _) | omega | (simp; done) | (simp [go_sem]; done) | (simp at *; omega))))).mono ?_); rintro _ _ ⟨y1, rfl, rfl⟩; have sy1 := Ext.size y1; (repeat (first | rw [World.size_alloc] at sy1 | rw [World.size_setCell] at sy1 | rw [World.size_drew] at sy1)); have : w.heap.size < y1.now.heap.size := (by omega); have : w.heap.size ≤ y1.now.heap.size := (by omega); have : w.heap.size < y1.now.heap.size + 1 + 1 := (by omega)))
        go_returns
        refine ⟨?_, _, [], rfl, GrRows.nil, rfl⟩
        repeat' (first | (with_reducible exact Below.refl _ _) | (with_reducible assumption) | (with_reducible refine Ext.below _ ?_ ?_) | (with_reducible refine Below.on ?_ (by with_reducible assumption) ?_) | (with_reducible refine Below.alloc ?_ ?_ _) | (with_reducible refine Below.drew ?_) | (with_reducible refine Below.setCell ?_ ?_ _) | (with_reducible exact Nat.le_refl _) | omega | (simp; done) | (simp [go_sem]; done) | (simp at *; omega))
end Go.Proofs.Ytgoilmiiegpnoaa

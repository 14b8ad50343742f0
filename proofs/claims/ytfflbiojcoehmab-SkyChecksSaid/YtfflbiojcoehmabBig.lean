/- Contracts of BigWorld and BigSky: whether a sky is greater than the statements cover. Condition: the cells that are read. -/
import Derived.Test.YtfflbiojcoehmabSkyF
namespace Go.Proofs.Ytfflbiojcoehmab
open Go.RowKit Go.Shelf
attribute [local go_sem] Option.isSome_some Ext.cell Ext.frozen Ext.lt Ext.le Ext.lt_add Ext.le_add Ext.ne Ext.ne' lt2 lt3 lt4 lt5 le2 le3 le4
def bigN (n : Nat) : Bool := (decide (60 < n) && decide (n < 4096)) || decide (4097 < n)
def bigL : List BodyR → Bool
  | [] => false
  | b :: l => if bigN b.track.length then true else bigL l
def bigW (l : List BodyR) : Bool := if 10 < l.length then true else bigL l
def bigS (s : SkyR) : Bool := bigW s.bodies || decide (18 < s.sts.length) || decide (10 < s.cats.length)
set_option maxHeartbeats 4000000 in
theorem BigWorld_any (p : Option Addr) (c : Nat) (l : List BodyR) (h : Int) (w : World) (hl : l.length < 9223372036854775808) (ht : ∀ b ∈ l, b.track.length < 9223372036854775808) (hP : BodiesAt w p l) :
    Calls Try.prog 24 #[wval p l.length c h] w (Gives (.bool (bigW l)) w) := by
  obtain ⟨V, hV⟩ : ∃ V, bigW l = V := ⟨_, rfl⟩
  rw [hV]
  unfold wval bigW at *
  replace ht : ∀ i (hi : i < l.length), l[i].track.length < 9223372036854775808 := fun i hi => ht _ (List.getElem_mem hi)
  replace ht := Go.Lib.hid ht
  by_cases h4 : 10 < l.length
  · rw [if_pos h4] at hV
    have h6 : (10 : Int) < l.length := by omega
    clear h4 hP ht
    subst hV
    clear hl
    generalize l.length = n at *
    go_enter Try.func24, Try.ntmps24
    go_wp2_with (first | ((first | with_reducible refine wp_region_ext2 (by kernel_rfl) (by kernel_rfl) ?_ | with_reducible refine wp_region_ext (by kernel_rfl) (by kernel_rfl) ?_); (repeat (first | go_big_quiet_step ((first | fail)) | quiet_step ((first | fail)))); refine wpQuiet_nil ?_; rintro _ ⟨yr, rfl⟩; have syr := Ext.size yr; (repeat (first | rw [World.size_alloc] at syr | rw [World.size_setCell] at syr | rw [World.size_drew] at syr))))
    go_returns
    refine ⟨rfl, ?_⟩
    repeat' (first | (with_reducible exact Below.refl _ _) | (with_reducible assumption) | (with_reducible refine Ext.below _ ?_ ?_) | (with_reducible refine Below.on ?_ (by with_reducible assumption) ?_) | (with_reducible refine Below.alloc ?_ ?_ _) | (with_reducible refine Below.drew ?_) | (with_reducible refine Below.setCell ?_ ?_ _) | (with_reducible exact Nat.le_refl _) | omega | (simp; done) | (simp [go_sem]; done) | (simp at *; omega))
  rw [if_neg h4] at hV
  have hn : l.length ≤ 10 := by omega
  obtain ⟨n, hln⟩ : ∃ n, l.length = n := ⟨_, rfl⟩
  rw [hln] at h4 hn hl ⊢
  have h6 : ¬ (10 : Int) < n := by omega
  have hln := Go.Lib.hid hln
  clear h4
  have hV := Go.Lib.hid hV
  have hP := Go.Lib.hid hP
  go_enter Try.func24, Try.ntmps24
  go_wp2_with (first | ((first | with_reducible refine wp_region_ext2 (by kernel_rfl) (by kernel_rfl) ?_ | with_reducible refine wp_region_ext (by kernel_rfl) (by kernel_rfl) ?_); (repeat (first | go_big_quiet_step ((first | fail)) | quiet_step ((first | fail)))); refine wpQuiet_nil ?_; rintro _ ⟨yr, rfl⟩; have syr := Ext.size yr; (repeat (first | rw [World.size_alloc] at syr | rw [World.size_setCell] at syr | rw [World.size_drew] at syr))))
  refine wp_named (fun W0 hW => ?_)
  have hBw : Below w.heap.size w W0 := by rw [← hW]; repeat' (first | (with_reducible exact Below.refl _ _) | (with_reducible assumption) | (with_reducible refine Ext.below _ ?_ ?_) | (with_reducible refine Below.on ?_ (by with_reducible assumption) ?_) | (with_reducible refine Below.alloc ?_ ?_ _) | (with_reducible refine Below.drew ?_) | (with_reducible refine Below.setCell ?_ ?_ _) | (with_reducible exact Nat.le_refl _) | omega | (simp; done) | (simp [go_sem]; done) | (simp at *; omega))
  have hs0 : w.heap.size < W0.heap.size := by rw [← hW]; simp
  have b0 : W0.cell? ⟨w.heap.size, 0, none⟩ = some (.slice p n c) := by rw [← hW]; simp [go_sem]
  have hP := Go.Lib.hid (hP.out.on hBw)
  clear hW h6
  go_loopw [3] (fun s W => ∃ (i : Nat) (x : Ext W0), s = .int .i64 i ∧ W = x.now ∧ Hid (i ≤ n ∧ bigL (l.drop i) = V)) (fun s _ => n - (intOf s).toNat)
  case atStart => exact ⟨0, ⟨W0, Below.refl _ _⟩, rfl, rfl, Go.Lib.hid ⟨Nat.zero_le _, by simpa using hV.out⟩⟩
  case round =>
    obtain ⟨i, x, rfl, rfl, hi⟩ := hrel
    have xs := x.size
    have hbx := x.below hBw (by omega)
    have : w.heap.size < (x.now).heap.size := (by omega); have : w.heap.size < (x.now).heap.size + 1 := (by omega); have : w.heap.size < (x.now).heap.size + 1 + 1 := (by omega); have : w.heap.size ≠ (x.now).heap.size := (by omega); have : w.heap.size ≠ (x.now).heap.size + 1 := (by omega)
    by_cases hlt : i < n
    · have hlt2 : (i : Int) < n := by omega
      have hlt' : i < l.length := by rw [hln.out]; exact hlt
      obtain ⟨-, B, o, rfl, hB, q1, q2, q3⟩ := hP.out i hlt'
      have : B < (x.now).heap.size := (by omega); have : B < (x.now).heap.size + 1 := (by omega); have : B < (x.now).heap.size + 1 + 1 := (by omega); have : B ≠ (x.now).heap.size := (by omega); have : B ≠ (x.now).heap.size + 1 := (by omega)
      have hE := hi.out.2
      have hm := ht.out i hlt'
      rw [drop_at hlt', bigL] at hE
      clear q1 q2
      by_cases hw : bigN l[i].track.length = true
      · have eV : V = true := by rw [if_pos hw] at hE; exact hE.symm
        unfold bigN at hw
        clear hE hi hV
        subst eV
        generalize l[i].track.length = m at *
        generalize l[i].tp = u4 at *
        generalize l[i].tc = u5 at *
        simp only [Bool.or_eq_true, Bool.and_eq_true, decide_eq_true_eq] at hw
        by_cases k1 : (60 : Int) < m <;> by_cases k2 : (m : Int) < 4096 <;> by_cases k3 : (4097 : Int) < m
        all_goals (first | (exfalso; omega) | (
          go_wp2_with (first | ((first | with_reducible refine wp_region_ext2 (by kernel_rfl) (by kernel_rfl) ?_ | with_reducible refine wp_region_ext (by kernel_rfl) (by kernel_rfl) ?_); (repeat (first | go_big_quiet_step ((first | fail)) | quiet_step ((first | fail)))); refine wpQuiet_nil ?_; rintro _ ⟨yr, rfl⟩; have syr := Ext.size yr; (repeat (first | rw [World.size_alloc] at syr | rw [World.size_setCell] at syr | rw [World.size_drew] at syr)); have : B < yr.now.heap.size := (by omega); have : B ≤ yr.now.heap.size := (by omega); have : B < yr.now.heap.size + 1 + 1 := (by omega); have : w.heap.size < yr.now.heap.size := (by omega); have : w.heap.size ≤ yr.now.heap.size := (by omega); have : w.heap.size < yr.now.heap.size + 1 + 1 := (by omega)))
          go_returns
          refine ⟨rfl, ?_⟩
          repeat' (first | (with_reducible exact Below.refl _ _) | (with_reducible assumption) | (with_reducible refine Ext.below _ ?_ ?_) | (with_reducible refine Below.on ?_ (by with_reducible assumption) ?_) | (with_reducible refine Below.alloc ?_ ?_ _) | (with_reducible refine Below.drew ?_) | (with_reducible refine Below.setCell ?_ ?_ _) | (with_reducible exact Nat.le_refl _) | omega | (simp; done) | (simp [go_sem]; done) | (simp at *; omega))))
      · have key : Hid (i + 1 ≤ n ∧ bigL (l.drop (i + 1)) = V) := Go.Lib.hid ⟨hlt, by rw [if_neg hw] at hE; exact hE⟩
        unfold bigN at hw
        clear hE hi
        generalize l[i].track.length = m at *
        generalize l[i].tp = u4 at *
        generalize l[i].tc = u5 at *
        simp only [Bool.or_eq_true, Bool.and_eq_true, decide_eq_true_eq] at hw
        by_cases k1 : (60 : Int) < m <;> by_cases k2 : (m : Int) < 4096 <;> by_cases k3 : (4097 : Int) < m
        all_goals (first | (exfalso; omega) | (
          go_wp2_with (first | ((first | with_reducible refine wp_region_ext2 (by kernel_rfl) (by kernel_rfl) ?_ | with_reducible refine wp_region_ext (by kernel_rfl) (by kernel_rfl) ?_); (repeat (first | go_big_quiet_step ((first | fail)) | quiet_step ((first | fail)))); refine wpQuiet_nil ?_; rintro _ ⟨yr, rfl⟩; have syr := Ext.size yr; (repeat (first | rw [World.size_alloc] at syr | rw [World.size_setCell] at syr | rw [World.size_drew] at syr)); have : B < yr.now.heap.size := (by omega); have : B ≤ yr.now.heap.size := (by omega); have : B < yr.now.heap.size + 1 + 1 := (by omega); have : w.heap.size < yr.now.heap.size := (by omega); have : w.heap.size ≤ yr.now.heap.size := (by omega); have : w.heap.size < yr.now.heap.size + 1 + 1 := (by omega)))
          exact ⟨⟨i + 1, x, by simp, rfl, key⟩, by simp [intOf]; omega⟩))
    · have hge : ¬ (i : Int) < n := by omega
      have eV : V = false := by have hE := hi.out.2; rw [drop_end (by rw [hln.out]; exact hlt), bigL] at hE; exact hE.symm
      clear hi hV
      subst eV
      go_wp2_with (first | ((first | with_reducible refine wp_region_ext2 (by kernel_rfl) (by kernel_rfl) ?_ | with_reducible refine wp_region_ext (by kernel_rfl) (by kernel_rfl) ?_); (repeat (first | go_big_quiet_step ((first | fail)) | quiet_step ((first | fail)))); refine wpQuiet_nil ?_; rintro _ ⟨yr, rfl⟩; have syr := Ext.size yr; (repeat (first | rw [World.size_alloc] at syr | rw [World.size_setCell] at syr | rw [World.size_drew] at syr))))
      go_returns
      refine ⟨rfl, ?_⟩
      repeat' (first | (with_reducible exact Below.refl _ _) | (with_reducible assumption) | (with_reducible refine Ext.below _ ?_ ?_) | (with_reducible refine Below.on ?_ (by with_reducible assumption) ?_) | (with_reducible refine Below.alloc ?_ ?_ _) | (with_reducible refine Below.drew ?_) | (with_reducible refine Below.setCell ?_ ?_ _) | (with_reducible exact Nat.le_refl _) | omega | (simp; done) | (simp [go_sem]; done) | (simp at *; omega))
set_option maxHeartbeats 4000000 in
theorem BigSky_any (s : SkyR) (w : World) (hf : s.bodies.length < 9223372036854775808 ∧ (∀ b ∈ s.bodies, b.track.length < 9223372036854775808) ∧ s.sts.length < 9223372036854775808 ∧ s.cats.length < 9223372036854775808) (hP : s.At w) :
    Calls Try.prog 7 #[s.val] w (Gives (.bool (bigS s)) w) := by
  have cb := fun (W : World) (y : Below w.heap.size w W) => BigWorld_any s.bp s.bc s.bodies s.home W hf.1 hf.2.1 (hP.bs.on y)
  unfold SkyR.val wval bigS at *
  obtain ⟨-, -, f1, f2⟩ := hf
  clear hP
  generalize bigW s.bodies = b at *
  generalize s.cats.length = n1 at *; generalize s.cp = n2 at *; generalize s.cc = n3 at *; generalize s.bodies.length = n4 at *; generalize s.bp = n5 at *; generalize s.bc = n6 at *; generalize s.sts.length = n7 at *; generalize s.sp = n8 at *; generalize s.sc = n9 at *; generalize s.home = n0 at *
  by_cases h1 : (18 : Int) < n7 <;> by_cases h2 : (10 : Int) < n1
  all_goals
    have e1 : decide (18 < n7) = decide ((18 : Int) < n7) := by rw [decide_eq_decide]; omega
    have e2 : decide (10 < n1) = decide ((10 : Int) < n1) := by rw [decide_eq_decide]; omega
    rw [e1, e2]
    clear e1 e2
    cases b
    all_goals
      go_enter Try.func7, Try.ntmps7
      go_wp2_with (first | ((first | with_reducible refine wp_region_ext2 (by kernel_rfl) (by kernel_rfl) ?_ | with_reducible refine wp_region_ext (by kernel_rfl) (by kernel_rfl) ?_); (repeat (first | go_big_quiet_step ((first | (go_at_call 24; with_reducible exact Calls.ext (cb _ (by repeat' (first | (with_reducible exact Below.refl _ _) | (with_reducible assumption) | (with_reducible refine Ext.below _ ?_ ?_) | (with_reducible refine Below.on ?_ (by with_reducible assumption) ?_) | (with_reducible refine Below.alloc ?_ ?_ _) | (with_reducible refine Below.drew ?_) | (with_reducible refine Below.setCell ?_ ?_ _) | (with_reducible exact Nat.le_refl _) | omega | (simp; done) | (simp [go_sem]; done) | (simp at *; omega))))))) | quiet_step ((first | (go_at_call 24; with_reducible exact Calls.ext (cb _ (by repeat' (first | (with_reducible exact Below.refl _ _) | (with_reducible assumption) | (with_reducible refine Ext.below _ ?_ ?_) | (with_reducible refine Below.on ?_ (by with_reducible assumption) ?_) | (with_reducible refine Below.alloc ?_ ?_ _) | (with_reducible refine Below.drew ?_) | (with_reducible refine Below.setCell ?_ ?_ _) | (with_reducible exact Nat.le_refl _) | omega | (simp; done) | (simp [go_sem]; done) | (simp at *; omega))))))))); refine wpQuiet_nil ?_; rintro _ ⟨yr, rfl⟩; have syr := Ext.size yr; (repeat (first | rw [World.size_alloc] at syr | rw [World.size_setCell] at syr | rw [World.size_drew] at syr)); have : w.heap.size < yr.now.heap.size := (by omega); have : w.heap.size ≤ yr.now.heap.size := (by omega); have : w.heap.size < yr.now.heap.size + 1 + 1 := (by omega)) | (go_at_call 24; (first | with_reducible refine (Calls.giv2 (cb _ (by repeat' (first | (with_reducible exact Below.refl _ _) | (with_reducible assumption) | (with_reducible refine Ext.below _ ?_ ?_) | (with_reducible refine Below.on ?_ (by with_reducible assumption) ?_) | (with_reducible refine Below.alloc ?_ ?_ _) | (with_reducible refine Below.drew ?_) | (with_reducible refine Below.setCell ?_ ?_ _) | (with_reducible exact Nat.le_refl _) | omega | (simp; done) | (simp [go_sem]; done) | (simp at *; omega))))).mono ?_ | with_reducible refine (Calls.giv (cb _ (by repeat' (first | (with_reducible exact Below.refl _ _) | (with_reducible assumption) | (with_reducible refine Ext.below _ ?_ ?_) | (with_reducible refine Below.on ?_ (by with_reducible assumption) ?_) | (with_reducible refine Below.alloc ?_ ?_ _) | (with_reducible refine Below.drew ?_) | (with_reducible refine Below.setCell ?_ ?_ _) | (with_reducible exact Nat.le_refl _) | omega | (simp; done) | (simp [go_sem]; done) | (simp at *; omega))))).mono ?_); rintro _ _ ⟨y1, rfl, rfl⟩; have sy1 := Ext.size y1; (repeat (first | rw [World.size_alloc] at sy1 | rw [World.size_setCell] at sy1 | rw [World.size_drew] at sy1)); have : w.heap.size < y1.now.heap.size := (by omega); have : w.heap.size ≤ y1.now.heap.size := (by omega); have : w.heap.size < y1.now.heap.size + 1 + 1 := (by omega)))
      go_returns
      refine ⟨by simp [h1, h2], ?_⟩
      repeat' (first | (with_reducible exact Below.refl _ _) | (with_reducible assumption) | (with_reducible refine Ext.below _ ?_ ?_) | (with_reducible refine Below.on ?_ (by with_reducible assumption) ?_) | (with_reducible refine Below.alloc ?_ ?_ _) | (with_reducible refine Below.drew ?_) | (with_reducible refine Below.setCell ?_ ?_ _) | (with_reducible exact Nat.le_refl _) | omega | (simp; done) | (simp [go_sem]; done) | (simp at *; omega))
end Go.Proofs.Ytfflbiojcoehmab

/- Contracts of the reference's sight, CheckSight of layer 2: the error of a sight. Condition: a sky in memory. -/
import Derived.Test.YtgoilmiiegpnoaaSkyRe
namespace Go.Proofs.Ytgoilmiiegpnoaa
open Go.RowKit Go.Shelf
attribute [local go_sem] Option.isSome_some Ext.cell Ext.frozen Ext.lt Ext.le Ext.lt_add Ext.le_add Ext.ne Ext.ne' lt2 lt3 lt4 lt5 le2 le3 le4
def errOf {α : Type} : Except Int α → Int
  | .ok _ => 0
  | .error e => e
/-- The error of a sight, test by test. -/
def sightE (st : Bool) (ct : Bool) (x : SightR) : Int :=
  if x.kind < 1 ∨ 3 < x.kind then 4
  else if tickB x.tick = false then 2
  else if st = false then 7
  else if x.kind = 2 then (if x.lo < 0 ∨ x.hi < x.lo ∨ 134217728 < x.hi then 2 else 0)
  else if ct = false then 7
  else if vwinB x.dir 4096 = false ∨ (x.dir.x = 0 ∧ x.dir.y = 0) ∨ x.err < 0 ∨ 500000 < x.err then 2
  else if x.kind = 3 ∧ (x.hi < 1 ∨ 134217728 < x.hi) then 2 else 0
theorem sightE_look (s : SkyR) (x : SightR) : errOf (lookR s x) = sightE (whereL (homeAt s x.tick) x.st s.sts).2 (biasL x.cat s.cats).2 x := by
  unfold lookR sightE wordR coneR
  generalize whereL (homeAt s x.tick) x.st s.sts = a
  generalize biasL x.cat s.cats = b
  by_cases h1 : x.kind < 1 ∨ 3 < x.kind
  · simp only [if_pos h1]; rfl
  simp only [if_neg h1]
  by_cases h2 : tickB x.tick = false
  · simp only [if_pos h2]; rfl
  simp only [if_neg h2]
  by_cases h3 : a.2 = false
  · simp only [if_pos h3]; rfl
  simp only [if_neg h3]
  by_cases h4 : x.kind = 2
  · simp only [if_pos h4]
    by_cases h5 : x.lo < 0 ∨ x.hi < x.lo ∨ 134217728 < x.hi
    · simp only [if_pos h5]; rfl
    · simp only [if_neg h5]; rfl
  simp only [if_neg h4]
  by_cases h5 : b.2 = true
  · simp only [if_pos h5, if_neg (show ¬ b.2 = false from fun h => by rw [h] at h5; cases h5)]
    by_cases h6 : vwinB x.dir 4096 = false ∨ (x.dir.x = 0 ∧ x.dir.y = 0) ∨ x.err < 0 ∨ 500000 < x.err
    · simp only [if_pos h6]; rfl
    · simp only [if_neg h6]
      by_cases h7 : x.kind = 1
      · simp only [if_pos h7, if_neg (show ¬ (x.kind = 3 ∧ (x.hi < 1 ∨ 134217728 < x.hi)) by omega)]; rfl
      · simp only [if_neg h7]
        by_cases h8 : x.hi < 1 ∨ 134217728 < x.hi
        · simp only [if_pos h8, if_pos (show x.kind = 3 ∧ (x.hi < 1 ∨ 134217728 < x.hi) from ⟨by omega, h8⟩)]; rfl
        · simp only [if_neg h8, if_neg (show ¬ (x.kind = 3 ∧ (x.hi < 1 ∨ 134217728 < x.hi)) from fun h => h8 h.2)]; rfl
  · simp only [if_neg h5, if_pos (show b.2 = false from Bool.eq_false_iff.2 h5)]; rfl
set_option maxRecDepth 100000 in
set_option maxHeartbeats 16000000 in
theorem refSight_any (s : SkyR) (x : SightR) (w : World) (hP : s.At w) (hE : skyE s = 0) :
    Calls Try.prog 57 #[s.val, x.val] w (Gives (.int .i64 (errOf (lookR s x))) w) := by
  have n16 := (stationsE_zero (skyE_zero hE).2.1).1
  have n8 := (catalogsE_zero (skyE_zero hE).2.2).1
  have cst := fun (W : World) (y : Below w.heap.size w W) => refStation_any s x.st W (hP.on y) (by omega)
  have cct := fun (W : World) (y : Below w.heap.size w W) => refCatalog_any s x.cat W (hP.on y) (by omega)
  have c0 := fun W => refBetween_any x.tick 0 1073741824 W
  have etk : (decide (0 ≤ x.tick) && decide (x.tick ≤ 1073741824)) = tickB x.tick := by unfold tickB; rw [Bool.eq_iff_iff]; simp
  rw [etk] at c0
  clear etk
  have c1 := fun W => refBetween_any x.dir.x (-4096) 4096 W
  have c2 := fun W => refBetween_any x.dir.y (-4096) 4096 W
  rw [between_win] at c1 c2
  have c3 := fun W => refBetween_any x.err 0 500000 W
  have c4 := fun W => refBetween_any x.hi 1 134217728 W
  have hst : stIdx x.st 0 s.sts < 0 ↔ (whereL (homeAt s x.tick) x.st s.sts).2 = false := by
    rcases stIdx_where (h := homeAt s x.tick) (id := x.st) (l := s.sts) (i := 0) with ⟨e1, e2⟩ | ⟨j, hj, e1, e2⟩
    · rw [e1, e2]; simp
    · rw [e1, e2]; simp
  have hct : ctIdx x.cat 0 s.cats < 0 ↔ (biasL x.cat s.cats).2 = false := by
    rcases ctIdx_bias (id := x.cat) (l := s.cats) (i := 0) with ⟨e1, e2⟩ | ⟨j, hj, e1, e2⟩
    · rw [e1, e2]; simp
    · rw [e1, e2]; simp
  rw [sightE_look]
  generalize (whereL (homeAt s x.tick) x.st s.sts).2 = sb at *
  generalize (biasL x.cat s.cats).2 = cb at *
  generalize stIdx x.st 0 s.sts = si at *
  generalize ctIdx x.cat 0 s.cats = ci at *
  obtain ⟨V, hV⟩ : ∃ V, sightE sb cb x = V := ⟨_, rfl⟩
  rw [hV]
  unfold sightE vwinB at hV
  unfold SkyR.val SightR.val at *
  obtain ⟨kind, st, cat, tick, ⟨dx, dy⟩, err, lo, hi⟩ := x
  simp only at *
  clear hP hE
  generalize s.cats.length = n1 at *; generalize s.cp = n2 at *; generalize s.cc = n3 at *; generalize s.bodies.length = n4 at *; generalize s.bp = n5 at *; generalize s.bc = n6 at *; generalize s.sts.length = n7 at *; generalize s.sp = n8 at *; generalize s.sc = n9 at *; generalize s.home = n0 at *
  generalize winB dx 4096 = b1 at *
  generalize winB dy 4096 = b2 at *
  generalize tickB tick = tb at *
  obtain ⟨b3, hb3⟩ : ∃ b3, (decide (0 ≤ err) && decide (err ≤ 500000)) = b3 := ⟨_, rfl⟩
  obtain ⟨b4, hb4⟩ : ∃ b4, (decide (1 ≤ hi) && decide (hi ≤ 134217728)) = b4 := ⟨_, rfl⟩
  rw [hb3] at c3
  rw [hb4] at c4
  replace hst := Go.Lib.hid hst
  replace hct := Go.Lib.hid hct
  replace hV := Go.Lib.hid hV
  replace hb3 := Go.Lib.hid hb3
  replace hb4 := Go.Lib.hid hb4
  go_enter Try.func57, Try.ntmps57
  go_wp2_with (first | ((first | with_reducible refine wp_region_ext2 (by kernel_rfl) (by kernel_rfl) ?_ | with_reducible refine wp_region_ext (by kernel_rfl) (by kernel_rfl) ?_); (repeat (first | go_big_quiet_step ((first | (go_at_call 70; with_reducible exact Calls.ext (cst _ (by repeat' (first | (with_reducible exact Below.refl _ _) | (with_reducible assumption) | (with_reducible refine Ext.below _ ?_ ?_) | (with_reducible refine Below.on ?_ (by with_reducible assumption) ?_) | (with_reducible refine Below.alloc ?_ ?_ _) | (with_reducible refine Below.drew ?_) | (with_reducible refine Below.setCell ?_ ?_ _) | (with_reducible exact Nat.le_refl _) | omega | (simp; done) | (simp [go_sem]; done) | (simp at *; omega))))) | (go_at_call 71; with_reducible exact Calls.ext (cct _ (by repeat' (first | (with_reducible exact Below.refl _ _) | (with_reducible assumption) | (with_reducible refine Ext.below _ ?_ ?_) | (with_reducible refine Below.on ?_ (by with_reducible assumption) ?_) | (with_reducible refine Below.alloc ?_ ?_ _) | (with_reducible refine Below.drew ?_) | (with_reducible refine Below.setCell ?_ ?_ _) | (with_reducible exact Nat.le_refl _) | omega | (simp; done) | (simp [go_sem]; done) | (simp at *; omega))))) | (go_at_call 58; with_reducible exact Calls.ext (c0 _)) | (go_at_call 58; with_reducible exact Calls.ext (c1 _)) | (go_at_call 58; with_reducible exact Calls.ext (c2 _)) | (go_at_call 58; with_reducible exact Calls.ext (c3 _)) | (go_at_call 58; with_reducible exact Calls.ext (c4 _)))) | quiet_step ((first | (go_at_call 70; with_reducible exact Calls.ext (cst _ (by repeat' (first | (with_reducible exact Below.refl _ _) | (with_reducible assumption) | (with_reducible refine Ext.below _ ?_ ?_) | (with_reducible refine Below.on ?_ (by with_reducible assumption) ?_) | (with_reducible refine Below.alloc ?_ ?_ _) | (with_reducible refine Below.drew ?_) | (with_reducible refine Below.setCell ?_ ?_ _) | (with_reducible exact Nat.le_refl _) | omega | (simp; done) | (simp [go_sem]; done) | (simp at *; omega))))) | (go_at_call 71; with_reducible exact Calls.ext (cct _ (by repeat' (first | (with_reducible exact Below.refl _ _) | (with_reducible assumption) | (with_reducible refine Ext.below _ ?_ ?_) | (with_reducible refine Below.on ?_ (by with_reducible assumption) ?_) | (with_reducible refine Below.alloc ?_ ?_ _) | (with_reducible refine Below.drew ?_) | (with_reducible refine Below.setCell ?_ ?_ _) | (with_reducible exact Nat.le_refl _) | omega | (simp; done) | (simp [go_sem]; done) | (simp at *; omega))))) | (go_at_call 58; with_reducible exact Calls.ext (c0 _)) | (go_at_call 58; with_reducible exact Calls.ext (c1 _)) | (go_at_call 58; with_reducible exact Calls.ext (c2 _)) | (go_at_call 58; with_reducible exact Calls.ext (c3 _)) | (go_at_call 58; with_reducible exact Calls.ext (c4 _)))))); refine wpQuiet_nil ?_; rintro _ ⟨yr, rfl⟩; have syr := Ext.size yr; (repeat (first | rw [World.size_alloc] at syr | rw [World.size_setCell] at syr | rw [World.size_drew] at syr)); have : w.heap.size < yr.now.heap.size := (by omega); have : w.heap.size ≤ yr.now.heap.size := (by omega); have : w.heap.size < yr.now.heap.size + 1 + 1 := (by omega); have : w.heap.size + 1 < yr.now.heap.size := (by omega); have : w.heap.size + 1 ≤ yr.now.heap.size := (by omega); have : w.heap.size + 1 < yr.now.heap.size + 1 + 1 := (by omega)) | (go_at_call 70; (first | with_reducible refine (Calls.giv2 (cst _ (by repeat' (first | (with_reducible exact Below.refl _ _) | (with_reducible assumption) | (with_reducible refine Ext.below _ ?_ ?_) | (with_reducible refine Below.on ?_ (by with_reducible assumption) ?_) | (with_reducible refine Below.alloc ?_ ?_ _) | (with_reducible refine Below.drew ?_) | (with_reducible refine Below.setCell ?_ ?_ _) | (with_reducible exact Nat.le_refl _) | omega | (simp; done) | (simp [go_sem]; done) | (simp at *; omega))))).mono ?_ | with_reducible refine (Calls.giv (cst _ (by repeat' (first | (with_reducible exact Below.refl _ _) | (with_reducible assumption) | (with_reducible refine Ext.below _ ?_ ?_) | (with_reducible refine Below.on ?_ (by with_reducible assumption) ?_) | (with_reducible refine Below.alloc ?_ ?_ _) | (with_reducible refine Below.drew ?_) | (with_reducible refine Below.setCell ?_ ?_ _) | (with_reducible exact Nat.le_refl _) | omega | (simp; done) | (simp [go_sem]; done) | (simp at *; omega))))).mono ?_); rintro _ _ ⟨y1, rfl, rfl⟩; have sy1 := Ext.size y1; (repeat (first | rw [World.size_alloc] at sy1 | rw [World.size_setCell] at sy1 | rw [World.size_drew] at sy1)); have : w.heap.size < y1.now.heap.size := (by omega); have : w.heap.size ≤ y1.now.heap.size := (by omega); have : w.heap.size < y1.now.heap.size + 1 + 1 := (by omega); have : w.heap.size + 1 < y1.now.heap.size := (by omega); have : w.heap.size + 1 ≤ y1.now.heap.size := (by omega); have : w.heap.size + 1 < y1.now.heap.size + 1 + 1 := (by omega)) | (go_at_call 71; (first | with_reducible refine (Calls.giv2 (cct _ (by repeat' (first | (with_reducible exact Below.refl _ _) | (with_reducible assumption) | (with_reducible refine Ext.below _ ?_ ?_) | (with_reducible refine Below.on ?_ (by with_reducible assumption) ?_) | (with_reducible refine Below.alloc ?_ ?_ _) | (with_reducible refine Below.drew ?_) | (with_reducible refine Below.setCell ?_ ?_ _) | (with_reducible exact Nat.le_refl _) | omega | (simp; done) | (simp [go_sem]; done) | (simp at *; omega))))).mono ?_ | with_reducible refine (Calls.giv (cct _ (by repeat' (first | (with_reducible exact Below.refl _ _) | (with_reducible assumption) | (with_reducible refine Ext.below _ ?_ ?_) | (with_reducible refine Below.on ?_ (by with_reducible assumption) ?_) | (with_reducible refine Below.alloc ?_ ?_ _) | (with_reducible refine Below.drew ?_) | (with_reducible refine Below.setCell ?_ ?_ _) | (with_reducible exact Nat.le_refl _) | omega | (simp; done) | (simp [go_sem]; done) | (simp at *; omega))))).mono ?_); rintro _ _ ⟨y2, rfl, rfl⟩; have sy2 := Ext.size y2; (repeat (first | rw [World.size_alloc] at sy2 | rw [World.size_setCell] at sy2 | rw [World.size_drew] at sy2)); have : w.heap.size < y2.now.heap.size := (by omega); have : w.heap.size ≤ y2.now.heap.size := (by omega); have : w.heap.size < y2.now.heap.size + 1 + 1 := (by omega); have : w.heap.size + 1 < y2.now.heap.size := (by omega); have : w.heap.size + 1 ≤ y2.now.heap.size := (by omega); have : w.heap.size + 1 < y2.now.heap.size + 1 + 1 := (by omega)) | (go_at_call 58; (first | with_reducible refine (Calls.giv2 (c0 _)).mono ?_ | with_reducible refine (Calls.giv (c0 _)).mono ?_); rintro _ _ ⟨y3, rfl, rfl⟩; have sy3 := Ext.size y3; (repeat (first | rw [World.size_alloc] at sy3 | rw [World.size_setCell] at sy3 | rw [World.size_drew] at sy3)); have : w.heap.size < y3.now.heap.size := (by omega); have : w.heap.size ≤ y3.now.heap.size := (by omega); have : w.heap.size < y3.now.heap.size + 1 + 1 := (by omega); have : w.heap.size + 1 < y3.now.heap.size := (by omega); have : w.heap.size + 1 ≤ y3.now.heap.size := (by omega); have : w.heap.size + 1 < y3.now.heap.size + 1 + 1 := (by omega)) | (go_at_call 58; (first | with_reducible refine (Calls.giv2 (c1 _)).mono ?_ | with_reducible refine (Calls.giv (c1 _)).mono ?_); rintro _ _ ⟨y4, rfl, rfl⟩; have sy4 := Ext.size y4; (repeat (first | rw [World.size_alloc] at sy4 | rw [World.size_setCell] at sy4 | rw [World.size_drew] at sy4)); have : w.heap.size < y4.now.heap.size := (by omega); have : w.heap.size ≤ y4.now.heap.size := (by omega); have : w.heap.size < y4.now.heap.size + 1 + 1 := (by omega); have : w.heap.size + 1 < y4.now.heap.size := (by omega); have : w.heap.size + 1 ≤ y4.now.heap.size := (by omega); have : w.heap.size + 1 < y4.now.heap.size + 1 + 1 := (by omega)) | (go_at_call 58; (first | with_reducible refine (Calls.giv2 (c2 _)).mono ?_ | with_reducible refine (Calls.giv (c2 _)).mono ?_); rintro _ _ ⟨y5, rfl, rfl⟩; have sy5 := Ext.size y5; (repeat (first | rw [World.size_alloc] at sy5 | rw [World.size_setCell] at sy5 | rw [World.size_drew] at sy5)); have : w.heap.size < y5.now.heap.size := (by omega); have : w.heap.size ≤ y5.now.heap.size := (by omega); have : w.heap.size < y5.now.heap.size + 1 + 1 := (by omega); have : w.heap.size + 1 < y5.now.heap.size := (by omega); have : w.heap.size + 1 ≤ y5.now.heap.size := (by omega); have : w.heap.size + 1 < y5.now.heap.size + 1 + 1 := (by omega)) | (go_at_call 58; (first | with_reducible refine (Calls.giv2 (c3 _)).mono ?_ | with_reducible refine (Calls.giv (c3 _)).mono ?_); rintro _ _ ⟨y6, rfl, rfl⟩; have sy6 := Ext.size y6; (repeat (first | rw [World.size_alloc] at sy6 | rw [World.size_setCell] at sy6 | rw [World.size_drew] at sy6)); have : w.heap.size < y6.now.heap.size := (by omega); have : w.heap.size ≤ y6.now.heap.size := (by omega); have : w.heap.size < y6.now.heap.size + 1 + 1 := (by omega); have : w.heap.size + 1 < y6.now.heap.size := (by omega); have : w.heap.size + 1 ≤ y6.now.heap.size := (by omega); have : w.heap.size + 1 < y6.now.heap.size + 1 + 1 := (by omega)) | (go_at_call 58; (first | with_reducible refine (Calls.giv2 (c4 _)).mono ?_ | with_reducible refine (Calls.giv (c4 _)).mono ?_); rintro _ _ ⟨y7, rfl, rfl⟩; have sy7 := Ext.size y7; (repeat (first | rw [World.size_alloc] at sy7 | rw [World.size_setCell] at sy7 | rw [World.size_drew] at sy7)); have : w.heap.size < y7.now.heap.size := (by omega); have : w.heap.size ≤ y7.now.heap.size := (by omega); have : w.heap.size < y7.now.heap.size + 1 + 1 := (by omega); have : w.heap.size + 1 < y7.now.heap.size := (by omega); have : w.heap.size + 1 ≤ y7.now.heap.size := (by omega); have : w.heap.size + 1 < y7.now.heap.size + 1 + 1 := (by omega)))
  all_goals go_returns
  all_goals refine ⟨ret_int ?_, ?_⟩
  all_goals first
    | (clear cst cct c0 c1 c2 c3 c4; have a1 := hst.out; have a2 := hct.out; have a3 := hV.out; have a4 := hb3.out; have a5 := hb4.out; clear hst hct hV hb3 hb4; subst a3 a4 a5; simp at *; grind)
    | ((repeat' (first | (with_reducible exact Below.refl _ _) | (with_reducible assumption) | (with_reducible refine Ext.below _ ?_ ?_) | (with_reducible refine Below.on ?_ (by with_reducible assumption) ?_) | (with_reducible refine Below.alloc ?_ ?_ _) | (with_reducible refine Below.drew ?_) | (with_reducible refine Below.setCell ?_ ?_ _) | (with_reducible exact Nat.le_refl _) | omega | (simp; done) | (simp [go_sem]; done) | (simp at *; omega))); done)
end Go.Proofs.Ytgoilmiiegpnoaa

/- Contracts of the reference's CheckArea, corners, Excludes of layer 2. Condition: a sky in memory. -/
import Derived.Test.YtphdnoojacnopaaSkyRg
import Derived.Test.YtphdnoojacnopaaSkyS
namespace Go.Proofs.Ytphdnoojacnopaa
open Go.RowKit Go.Shelf
attribute [local go_sem] Option.isSome_some Ext.cell Ext.frozen Ext.lt Ext.le Ext.lt_add Ext.le_add Ext.ne Ext.ne' lt2 lt3 lt4 lt5 le2 le3 le4
set_option maxHeartbeats 4000000 in
theorem refCheckArea_any (a b c d : Int) (w : World) : Calls Try.prog 50 #[.agg #[.int .i64 a, .int .i64 b, .int .i64 c, .int .i64 d]] w (Gives (.bool (partB a b && partB c d)) w) := by
  have c1 := fun W => refNear_any a c W
  have c2 := fun W => refNear_any b d W
  obtain ⟨V, hV⟩ : ∃ V, (partB a b && partB c d) = V := ⟨_, rfl⟩
  rw [hV]
  obtain ⟨n1, h1⟩ : ∃ n, vwinB ⟨a, c⟩ 33554432 = n := ⟨_, rfl⟩
  obtain ⟨n2, h2⟩ : ∃ n, vwinB ⟨b, d⟩ 33554432 = n := ⟨_, rfl⟩
  rw [h1] at c1
  rw [h2] at c2
  unfold partB at hV
  unfold vwinB winB at h1 h2
  replace hV := Go.Lib.hid hV
  replace h1 := Go.Lib.hid h1
  replace h2 := Go.Lib.hid h2
  by_cases g1 : a ≤ b <;> by_cases g2 : c ≤ d <;> cases n1 <;> cases n2
  all_goals
    go_enter Try.func50, Try.ntmps50
    go_wp2_with (first | ((first | with_reducible refine wp_region_ext2 (by kernel_rfl) (by kernel_rfl) ?_ | with_reducible refine wp_region_ext (by kernel_rfl) (by kernel_rfl) ?_); (repeat (first | go_big_quiet_step ((first | (go_at_call 45; with_reducible exact Calls.ext (c1 _)) | (go_at_call 45; with_reducible exact Calls.ext (c2 _)))) | quiet_step ((first | (go_at_call 45; with_reducible exact Calls.ext (c1 _)) | (go_at_call 45; with_reducible exact Calls.ext (c2 _)))))); refine wpQuiet_nil ?_; rintro _ ⟨yr, rfl⟩; have syr := Ext.size yr; (repeat (first | rw [World.size_alloc] at syr | rw [World.size_setCell] at syr | rw [World.size_drew] at syr)); have : w.heap.size < yr.now.heap.size := (by omega); have : w.heap.size ≤ yr.now.heap.size := (by omega); have : w.heap.size < yr.now.heap.size + 1 + 1 := (by omega)) | (go_at_call 45; (first | with_reducible refine (Calls.giv2 (c1 _)).mono ?_ | with_reducible refine (Calls.giv (c1 _)).mono ?_); rintro _ _ ⟨y1, rfl, rfl⟩; have sy1 := Ext.size y1; (repeat (first | rw [World.size_alloc] at sy1 | rw [World.size_setCell] at sy1 | rw [World.size_drew] at sy1)); have : w.heap.size < y1.now.heap.size := (by omega); have : w.heap.size ≤ y1.now.heap.size := (by omega); have : w.heap.size < y1.now.heap.size + 1 + 1 := (by omega)) | (go_at_call 45; (first | with_reducible refine (Calls.giv2 (c2 _)).mono ?_ | with_reducible refine (Calls.giv (c2 _)).mono ?_); rintro _ _ ⟨y2, rfl, rfl⟩; have sy2 := Ext.size y2; (repeat (first | rw [World.size_alloc] at sy2 | rw [World.size_setCell] at sy2 | rw [World.size_drew] at sy2)); have : w.heap.size < y2.now.heap.size := (by omega); have : w.heap.size ≤ y2.now.heap.size := (by omega); have : w.heap.size < y2.now.heap.size + 1 + 1 := (by omega)))
    go_returns
    refine ⟨ret_bool ?_, ?_⟩
  all_goals first
    | (clear c1 c2; have a3 := hV.out; have a4 := h1.out; have a5 := h2.out; clear hV h1 h2; subst a3; simp at *; omega)
    | (clear c1 c2; have a3 := hV.out; have a4 := h1.out; have a5 := h2.out; clear hV h1 h2; subst a3; simp at *; grind)
    | ((repeat' (first | (with_reducible exact Below.refl _ _) | (with_reducible assumption) | (with_reducible refine Ext.below _ ?_ ?_) | (with_reducible refine Below.on ?_ (by with_reducible assumption) ?_) | (with_reducible refine Below.alloc ?_ ?_ _) | (with_reducible refine Below.drew ?_) | (with_reducible refine Below.setCell ?_ ?_ _) | (with_reducible exact Nat.le_refl _) | omega | (simp; done) | (simp [go_sem]; done) | (simp at *; omega))); done)
set_option maxHeartbeats 4000000 in
theorem refCorners_any (a b c d : Int) (w : World) : Calls Try.prog 51 #[.agg #[.int .i64 a, .int .i64 b, .int .i64 c, .int .i64 d]] w fun e w' => ∃ B, e = .returned (.slice (some ⟨B, 0, none⟩) 4 4) ∧ Below w.heap.size w w' ∧ VecsAt w' (some ⟨B, 0, none⟩) (corV a b c d) := by
  go_enter Try.func51, Try.ntmps51
  go_wp2_with (first | ((first | with_reducible refine wp_region_ext2 (by kernel_rfl) (by kernel_rfl) ?_ | with_reducible refine wp_region_ext (by kernel_rfl) (by kernel_rfl) ?_); (repeat (first | go_big_quiet_step ((first | fail)) | quiet_step ((first | fail)))); refine wpQuiet_nil ?_; rintro _ ⟨yr, rfl⟩; have syr := Ext.size yr; (repeat (first | rw [World.size_alloc] at syr | rw [World.size_setCell] at syr | rw [World.size_drew] at syr)); have : w.heap.size < yr.now.heap.size := (by omega); have : w.heap.size ≤ yr.now.heap.size := (by omega); have : w.heap.size < yr.now.heap.size + 1 + 1 := (by omega)))
  go_returns
  refine ⟨_, rfl, ?_, fun j hj => ⟨w.heap.size + 1, 0, rfl, by simp, ?_⟩⟩
  · repeat' (first | (with_reducible exact Below.refl _ _) | (with_reducible assumption) | (with_reducible refine Ext.below _ ?_ ?_) | (with_reducible refine Below.on ?_ (by with_reducible assumption) ?_) | (with_reducible refine Below.alloc ?_ ?_ _) | (with_reducible refine Below.drew ?_) | (with_reducible refine Below.setCell ?_ ?_ _) | (with_reducible exact Nat.le_refl _) | omega | (simp; done) | (simp [go_sem]; done) | (simp at *; omega))
  · have hj4 : j < 4 := hj
    rcases (show j = 0 ∨ j = 1 ∨ j = 2 ∨ j = 3 by omega) with rfl | rfl | rfl | rfl <;> simp [go_sem, corV]
def cntP (f : V2 → Bool) (l : List V2) (i : Nat) : Int := ((l.take i).countP f : Int)
theorem cntP_zero (f : V2 → Bool) (l : List V2) : cntP f l 0 = 0 := rfl
theorem cntP_succ (f : V2 → Bool) (l : List V2) (i : Nat) (h : i < l.length) : cntP f l (i + 1) = cntP f l i + (if f l[i] = true then 1 else 0) := by
  unfold cntP
  rw [List.take_succ_eq_append_getElem h, List.countP_append]
  by_cases hf : f l[i] = true <;> simp [hf]
theorem cntP_all (f : V2 → Bool) (l : List V2) (n : Nat) (h : l.length = n) : (cntP f l n = n) ↔ l.all f = true := by
  unfold cntP
  rw [← h, List.take_length]
  have h2 := List.countP_eq_length (p := f) (l := l)
  rw [List.all_eq_true, ← h2]
  omega
theorem cntP_in (f : V2 → Bool) (l : List V2) (i : Nat) : 0 ≤ cntP f l i ∧ cntP f l i ≤ i := by
  unfold cntP
  have := List.countP_le_length (p := f) (l := l.take i)
  have := List.length_take_le i l
  omega
theorem corV_near {a b c d : Int} (h1 : partB a b = true) (h2 : partB c d = true) : ∀ i (hi : i < (corV a b c d).length), vwinB (corV a b c d)[i] 33554432 = true := by
  unfold partB at h1 h2
  simp only [Bool.and_eq_true, decide_eq_true_eq] at h1 h2
  intro i hi
  have hi4 : i < 4 := hi
  unfold vwinB winB
  match i, hi4 with
  | 0, _ => show (decide (-33554432 ≤ a ∧ a ≤ 33554432) && decide (-33554432 ≤ c ∧ c ≤ 33554432)) = true; simp only [Bool.and_eq_true, decide_eq_true_eq]; omega
  | 1, _ => show (decide (-33554432 ≤ a ∧ a ≤ 33554432) && decide (-33554432 ≤ d ∧ d ≤ 33554432)) = true; simp only [Bool.and_eq_true, decide_eq_true_eq]; omega
  | 2, _ => show (decide (-33554432 ≤ b ∧ b ≤ 33554432) && decide (-33554432 ≤ c ∧ c ≤ 33554432)) = true; simp only [Bool.and_eq_true, decide_eq_true_eq]; omega
  | 3, _ => show (decide (-33554432 ≤ b ∧ b ≤ 33554432) && decide (-33554432 ≤ d ∧ d ≤ 33554432)) = true; simp only [Bool.and_eq_true, decide_eq_true_eq]; omega
theorem corV_all (f : V2 → Bool) (a b c d x y : Int) : (corV (a - x) (b - x) (c - y) (d - y)).all f = (corV a b c d).all fun p => f ⟨p.x - x, p.y - y⟩ := rfl
set_option maxRecDepth 100000 in
set_option maxHeartbeats 16000000 in
/-- Excludes at angles and empty looks. -/
theorem refExcludes_cone (s : SkyR) (x : SightR) (k : LookR) (cn : ConeR) (a b c d : Int) (w : World) (hP : s.At w) (hE : skyE s = 0) (hk : lookR s x = .ok k) (hc : coneR s.cats x = .ok cn) (hkd : x.kind ≠ 2) (hp1 : partB a b = true) (hp2 : partB c d = true) :
    Calls Try.prog 23 #[s.val, x.val, .agg #[.int .i64 a, .int .i64 b, .int .i64 c, .int .i64 d]] w (Gives (.bool (excl k.says (a - k.frm.x) (b - k.frm.x) (c - k.frm.y) (d - k.frm.y))) w) := by
  have cs := fun (W : World) (y : Below w.heap.size w W) => refCheckSight_any s x W (hP.on y)
  have hce : errOf (checkedR s x) = 0 := by unfold checkedR; rw [if_pos hE, hk]; rfl
  rw [hce] at cs
  have cA := fun W => refCheckArea_any a b c d W
  rw [hp1, hp2] at cA
  have cC := fun W => refCorners_any a b c d W
  obtain ⟨hg, kk1, kk2, -⟩ := look_word hk
  unfold wordR at hg
  rw [if_neg hkd, hc] at hg
  simp only at hg
  -- the bounds of Hi
  have hhi : x.kind = 1 ∨ (x.kind = 3 ∧ 1 ≤ x.hi ∧ x.hi ≤ 134217728) := by
    by_cases h1 : x.kind = 1
    · exact .inl h1
    · rw [if_neg h1] at hg
      by_cases h3 : x.hi < 1 ∨ 134217728 < x.hi
      · rw [if_pos h3] at hg; cases hg
      · exact .inr ⟨by omega, by omega, by omega⟩
  have hnear := corV_near hp1 hp2
  have cF := fun (W : World) (y : Below w.heap.size w W) i (hi : i < (corV a b c d).length) => refFar_any s x k (corV a b c d)[i] W (hP.on y) hE hk (hnear i hi)
  have cS := fun (W : World) (y : Below w.heap.size w W) i (hi : i < (corV a b c d).length) => refSides_any s x k cn (corV a b c d)[i] W (hP.on y) hE hk hc (hnear i hi)
  have hseen := fun i (hi : i < (corV a b c d).length) => sqV_in (seen_of hE hk (hnear i hi)).1 (seen_of hE hk (hnear i hi)).2
  have hlen : (corV a b c d).length = 4 := rfl
  obtain ⟨V, hV⟩ : ∃ V, excl k.says (a - k.frm.x) (b - k.frm.x) (c - k.frm.y) (d - k.frm.y) = V := ⟨_, rfl⟩
  rw [hV]
  have hV2 : V = if x.kind = 1 then (((corV a b c d).all fun p => behindB cn (p.x - k.frm.x) (p.y - k.frm.y)) || ((corV a b c d).all fun p => rightB cn (p.x - k.frm.x) (p.y - k.frm.y)) || ((corV a b c d).all fun p => leftB2 cn (p.x - k.frm.x) (p.y - k.frm.y))) else ((corV a b c d).all fun p => blocksB cn x.hi (p.x - k.frm.x) (p.y - k.frm.y)) := by
    rw [← hV]
    by_cases h1 : x.kind = 1
    · rw [if_pos h1] at hg ⊢
      injection hg with hg
      rw [← hg]
      simp only [excl, corV_all]
    · rw [if_neg h1] at hg ⊢
      by_cases h3 : x.hi < 1 ∨ 134217728 < x.hi
      · rw [if_pos h3] at hg; cases hg
      rw [if_neg h3] at hg
      injection hg with hg
      rw [← hg]
      simp only [excl, corV_all]
  clear hV hg hce hk hc hE hp1 hp2 hnear
  generalize corV a b c d = L at *
  -- what is counted
  obtain ⟨fB, hfB⟩ : ∃ f : V2 → Bool, (fun p => behindB cn (p.x - k.frm.x) (p.y - k.frm.y)) = f := ⟨_, rfl⟩
  obtain ⟨fR, hfR⟩ : ∃ f : V2 → Bool, (fun p => rightB cn (p.x - k.frm.x) (p.y - k.frm.y)) = f := ⟨_, rfl⟩
  obtain ⟨fL, hfL⟩ : ∃ f : V2 → Bool, (fun p => leftB2 cn (p.x - k.frm.x) (p.y - k.frm.y)) = f := ⟨_, rfl⟩
  obtain ⟨fK, hfK⟩ : ∃ f : V2 → Bool, (fun p => blocksB cn x.hi (p.x - k.frm.x) (p.y - k.frm.y)) = f := ⟨_, rfl⟩
  rw [hfB, hfR, hfL, hfK] at hV2
  have eB : ∀ i (hi : i < L.length), fB L[i] = decide (aheadV cn (L[i].x - k.frm.x) (L[i].y - k.frm.y) ≤ 0) := fun i hi => by rw [← hfB]; rfl
  have eR : ∀ i (hi : i < L.length), fR L[i] = decide (1000000 * leftV cn (L[i].x - k.frm.x) (L[i].y - k.frm.y) - cn.lo * aheadV cn (L[i].x - k.frm.x) (L[i].y - k.frm.y) < 0) := fun i hi => by
    rw [← hfR]; simp only [rightB]; rw [decide_eq_decide]; omega
  have eL : ∀ i (hi : i < L.length), fL L[i] = decide (cn.hi * aheadV cn (L[i].x - k.frm.x) (L[i].y - k.frm.y) - 1000000 * leftV cn (L[i].x - k.frm.x) (L[i].y - k.frm.y) < 0) := fun i hi => by
    rw [← hfL]; simp only [leftB2]; rw [decide_eq_decide]; omega
  have eK : ∀ i (hi : i < L.length), fK L[i] = (!fB L[i] && !fR L[i] && !fL L[i] && decide (sqV (L[i].x - k.frm.x) (L[i].y - k.frm.y) ≤ x.hi * x.hi)) := fun i hi => by
    rw [← hfK, ← hfB, ← hfR, ← hfL]; rfl
  clear hfB hfR hfL hfK
  have hQ : x.kind ≠ 1 → wrap64 (x.hi * x.hi) = x.hi * x.hi := fun h1 => by
    rcases hhi with h | ⟨-, h2, h3⟩
    · exact absurd h h1
    · have := mulb (A := 134217728) (B := 134217728) (a := x.hi) (b := x.hi) (by omega) (by omega) (by omega) (by omega)
      exact IntWalk.wrap64_in _ (by omega)
  replace eB := Go.Lib.hid eB
  replace eR := Go.Lib.hid eR
  replace eL := Go.Lib.hid eL
  replace eK := Go.Lib.hid eK
  replace hQ := Go.Lib.hid hQ
  replace hV2 := Go.Lib.hid hV2
  replace hlen := Go.Lib.hid hlen
  replace hseen := Go.Lib.hid hseen
  replace cF := Go.Lib.hid cF
  replace cS := Go.Lib.hid cS
  have hk13 := Go.Lib.hid (show x.kind = 1 ∨ x.kind = 3 by omega)
  have hk2 : (x.kind == 2) = false := by rw [beq_eq_false_iff_ne]; exact hkd
  obtain ⟨kind, st, cat, tick, ⟨dx, dy⟩, err, lo, hi⟩ := x
  unfold SkyR.val SightR.val at *
  simp only at *
  clear hP hhi kk1 kk2 hkd
  generalize s.cats.length = n1 at *; generalize s.cp = n2 at *; generalize s.cc = n3 at *; generalize s.bodies.length = n4 at *; generalize s.bp = n5 at *; generalize s.bc = n6 at *; generalize s.sts.length = n7 at *; generalize s.sp = n8 at *; generalize s.sc = n9 at *; generalize s.home = n0 at *
  go_enter Try.func23, Try.ntmps23
  go_wp2_with (first | ((first | with_reducible refine wp_region_ext2 (by kernel_rfl) (by kernel_rfl) ?_ | with_reducible refine wp_region_ext (by kernel_rfl) (by kernel_rfl) ?_); (repeat (first | go_big_quiet_step ((first | (go_at_call 19; with_reducible exact Calls.ext (cs _ (by repeat' (first | (with_reducible exact Below.refl _ _) | (with_reducible assumption) | (with_reducible refine Ext.below _ ?_ ?_) | (with_reducible refine Below.on ?_ (by with_reducible assumption) ?_) | (with_reducible refine Below.alloc ?_ ?_ _) | (with_reducible refine Below.drew ?_) | (with_reducible refine Below.setCell ?_ ?_ _) | (with_reducible exact Nat.le_refl _) | omega | (simp; done) | (simp [go_sem]; done) | (simp at *; omega))))) | (go_at_call 50; with_reducible exact Calls.ext (cA _)))) | quiet_step ((first | (go_at_call 19; with_reducible exact Calls.ext (cs _ (by repeat' (first | (with_reducible exact Below.refl _ _) | (with_reducible assumption) | (with_reducible refine Ext.below _ ?_ ?_) | (with_reducible refine Below.on ?_ (by with_reducible assumption) ?_) | (with_reducible refine Below.alloc ?_ ?_ _) | (with_reducible refine Below.drew ?_) | (with_reducible refine Below.setCell ?_ ?_ _) | (with_reducible exact Nat.le_refl _) | omega | (simp; done) | (simp [go_sem]; done) | (simp at *; omega))))) | (go_at_call 50; with_reducible exact Calls.ext (cA _)))))); refine wpQuiet_nil ?_; rintro _ ⟨yr, rfl⟩; have syr := Ext.size yr; (repeat (first | rw [World.size_alloc] at syr | rw [World.size_setCell] at syr | rw [World.size_drew] at syr)); have : w.heap.size < yr.now.heap.size := (by omega); have : w.heap.size ≤ yr.now.heap.size := (by omega); have : w.heap.size < yr.now.heap.size + 1 + 1 := (by omega); have : w.heap.size + 1 < yr.now.heap.size := (by omega); have : w.heap.size + 1 ≤ yr.now.heap.size := (by omega); have : w.heap.size + 1 < yr.now.heap.size + 1 + 1 := (by omega); have : w.heap.size + 1 + 1 < yr.now.heap.size := (by omega); have : w.heap.size + 1 + 1 ≤ yr.now.heap.size := (by omega); have : w.heap.size + 1 + 1 < yr.now.heap.size + 1 + 1 := (by omega)) | (go_at_call 19; (first | with_reducible refine (Calls.giv2 (cs _ (by repeat' (first | (with_reducible exact Below.refl _ _) | (with_reducible assumption) | (with_reducible refine Ext.below _ ?_ ?_) | (with_reducible refine Below.on ?_ (by with_reducible assumption) ?_) | (with_reducible refine Below.alloc ?_ ?_ _) | (with_reducible refine Below.drew ?_) | (with_reducible refine Below.setCell ?_ ?_ _) | (with_reducible exact Nat.le_refl _) | omega | (simp; done) | (simp [go_sem]; done) | (simp at *; omega))))).mono ?_ | with_reducible refine (Calls.giv (cs _ (by repeat' (first | (with_reducible exact Below.refl _ _) | (with_reducible assumption) | (with_reducible refine Ext.below _ ?_ ?_) | (with_reducible refine Below.on ?_ (by with_reducible assumption) ?_) | (with_reducible refine Below.alloc ?_ ?_ _) | (with_reducible refine Below.drew ?_) | (with_reducible refine Below.setCell ?_ ?_ _) | (with_reducible exact Nat.le_refl _) | omega | (simp; done) | (simp [go_sem]; done) | (simp at *; omega))))).mono ?_); rintro _ _ ⟨y1, rfl, rfl⟩; have sy1 := Ext.size y1; (repeat (first | rw [World.size_alloc] at sy1 | rw [World.size_setCell] at sy1 | rw [World.size_drew] at sy1)); have : w.heap.size < y1.now.heap.size := (by omega); have : w.heap.size ≤ y1.now.heap.size := (by omega); have : w.heap.size < y1.now.heap.size + 1 + 1 := (by omega); have : w.heap.size + 1 < y1.now.heap.size := (by omega); have : w.heap.size + 1 ≤ y1.now.heap.size := (by omega); have : w.heap.size + 1 < y1.now.heap.size + 1 + 1 := (by omega); have : w.heap.size + 1 + 1 < y1.now.heap.size := (by omega); have : w.heap.size + 1 + 1 ≤ y1.now.heap.size := (by omega); have : w.heap.size + 1 + 1 < y1.now.heap.size + 1 + 1 := (by omega)) | (go_at_call 50; (first | with_reducible refine (Calls.giv2 (cA _)).mono ?_ | with_reducible refine (Calls.giv (cA _)).mono ?_); rintro _ _ ⟨y2, rfl, rfl⟩; have sy2 := Ext.size y2; (repeat (first | rw [World.size_alloc] at sy2 | rw [World.size_setCell] at sy2 | rw [World.size_drew] at sy2)); have : w.heap.size < y2.now.heap.size := (by omega); have : w.heap.size ≤ y2.now.heap.size := (by omega); have : w.heap.size < y2.now.heap.size + 1 + 1 := (by omega); have : w.heap.size + 1 < y2.now.heap.size := (by omega); have : w.heap.size + 1 ≤ y2.now.heap.size := (by omega); have : w.heap.size + 1 < y2.now.heap.size + 1 + 1 := (by omega); have : w.heap.size + 1 + 1 < y2.now.heap.size := (by omega); have : w.heap.size + 1 + 1 ≤ y2.now.heap.size := (by omega); have : w.heap.size + 1 + 1 < y2.now.heap.size + 1 + 1 := (by omega)))
  have hBw2 : Below w.heap.size w y2.now := by repeat' (first | (with_reducible exact Below.refl _ _) | (with_reducible assumption) | (with_reducible refine Ext.below _ ?_ ?_) | (with_reducible refine Below.on ?_ (by with_reducible assumption) ?_) | (with_reducible refine Below.alloc ?_ ?_ _) | (with_reducible refine Below.drew ?_) | (with_reducible refine Below.setCell ?_ ?_ _) | (with_reducible exact Nat.le_refl _) | omega | (simp; done) | (simp [go_sem]; done) | (simp at *; omega))
  have f00 : y2.now.cell? ⟨w.heap.size, 0, none⟩ = some (.slice n5 n4 n6) := by rw [y2.cell (by first | (simp; done) | (simp; omega))]; simp [go_sem]
  have f01 : y2.now.cell? ⟨w.heap.size, 1, none⟩ = some (.int .i64 n0) := by rw [y2.cell (by first | (simp; done) | (simp; omega))]; simp [go_sem]
  have f02 : y2.now.cell? ⟨w.heap.size, 2, none⟩ = some (.slice n8 n7 n9) := by rw [y2.cell (by first | (simp; done) | (simp; omega))]; simp [go_sem]
  have f03 : y2.now.cell? ⟨w.heap.size, 3, none⟩ = some (.slice n2 n1 n3) := by rw [y2.cell (by first | (simp; done) | (simp; omega))]; simp [go_sem]
  have f10 : y2.now.cell? ⟨w.heap.size + 1, 0, none⟩ = some (.int .i64 kind) := by rw [y2.cell (by first | (simp; done) | (simp; omega))]; simp [go_sem]
  have f11 : y2.now.cell? ⟨w.heap.size + 1, 1, none⟩ = some (.int .i64 st) := by rw [y2.cell (by first | (simp; done) | (simp; omega))]; simp [go_sem]
  have f12 : y2.now.cell? ⟨w.heap.size + 1, 2, none⟩ = some (.int .i64 cat) := by rw [y2.cell (by first | (simp; done) | (simp; omega))]; simp [go_sem]
  have f13 : y2.now.cell? ⟨w.heap.size + 1, 3, none⟩ = some (.int .i64 tick) := by rw [y2.cell (by first | (simp; done) | (simp; omega))]; simp [go_sem]
  have f14 : y2.now.cell? ⟨w.heap.size + 1, 4, none⟩ = some (.int .i64 dx) := by rw [y2.cell (by first | (simp; done) | (simp; omega))]; simp [go_sem]
  have f15 : y2.now.cell? ⟨w.heap.size + 1, 5, none⟩ = some (.int .i64 dy) := by rw [y2.cell (by first | (simp; done) | (simp; omega))]; simp [go_sem]
  have f16 : y2.now.cell? ⟨w.heap.size + 1, 6, none⟩ = some (.int .i64 err) := by rw [y2.cell (by first | (simp; done) | (simp; omega))]; simp [go_sem]
  have f17 : y2.now.cell? ⟨w.heap.size + 1, 7, none⟩ = some (.int .i64 lo) := by rw [y2.cell (by first | (simp; done) | (simp; omega))]; simp [go_sem]
  have f18 : y2.now.cell? ⟨w.heap.size + 1, 8, none⟩ = some (.int .i64 hi) := by rw [y2.cell (by first | (simp; done) | (simp; omega))]; simp [go_sem]
  go_wp2_with (first | ((first | with_reducible refine wp_region_ext2 (by kernel_rfl) (by kernel_rfl) ?_ | with_reducible refine wp_region_ext (by kernel_rfl) (by kernel_rfl) ?_); (repeat (first | go_big_quiet_step ((first | fail)) | quiet_step ((first | fail)))); refine wpQuiet_nil ?_; rintro _ ⟨yr, rfl⟩; have syr := Ext.size yr; (repeat (first | rw [World.size_alloc] at syr | rw [World.size_setCell] at syr | rw [World.size_drew] at syr))) | (go_at_call 51; refine (cC _).mono ?_; rintro _ W3 ⟨B, rfl, hb3, hv3⟩; have hs3 := hb3.size; have hBw3 : Below w.heap.size w W3 := hBw2.trans (hb3.mono hBw2.size); have f00 := (hb3.cell (p := ⟨w.heap.size, 0, none⟩) (show w.heap.size < _ by omega)).trans f00; have f01 := (hb3.cell (p := ⟨w.heap.size, 1, none⟩) (show w.heap.size < _ by omega)).trans f01; have f02 := (hb3.cell (p := ⟨w.heap.size, 2, none⟩) (show w.heap.size < _ by omega)).trans f02; have f03 := (hb3.cell (p := ⟨w.heap.size, 3, none⟩) (show w.heap.size < _ by omega)).trans f03; have f10 := (hb3.cell (p := ⟨w.heap.size + 1, 0, none⟩) (show w.heap.size + 1 < _ by omega)).trans f10; have f11 := (hb3.cell (p := ⟨w.heap.size + 1, 1, none⟩) (show w.heap.size + 1 < _ by omega)).trans f11; have f12 := (hb3.cell (p := ⟨w.heap.size + 1, 2, none⟩) (show w.heap.size + 1 < _ by omega)).trans f12; have f13 := (hb3.cell (p := ⟨w.heap.size + 1, 3, none⟩) (show w.heap.size + 1 < _ by omega)).trans f13; have f14 := (hb3.cell (p := ⟨w.heap.size + 1, 4, none⟩) (show w.heap.size + 1 < _ by omega)).trans f14; have f15 := (hb3.cell (p := ⟨w.heap.size + 1, 5, none⟩) (show w.heap.size + 1 < _ by omega)).trans f15; have f16 := (hb3.cell (p := ⟨w.heap.size + 1, 6, none⟩) (show w.heap.size + 1 < _ by omega)).trans f16; have f17 := (hb3.cell (p := ⟨w.heap.size + 1, 7, none⟩) (show w.heap.size + 1 < _ by omega)).trans f17; have f18 := (hb3.cell (p := ⟨w.heap.size + 1, 8, none⟩) (show w.heap.size + 1 < _ by omega)).trans f18; have ls0 : w.heap.size < W3.heap.size := (by omega); have ls1 : w.heap.size + 1 < W3.heap.size := (by omega); clear hb3 hs3 cC cA cs; replace hv3 := Go.Lib.hid hv3))
  clear hBw2
  generalize y2.now = Wy at *
  go_loopw [8, 9, 10, 11, 12, 13] (fun v8 v9 v10 v11 v12 v13 W => ∃ (i : Nat) (x : Ext W3) (m : Int), v8 = .int .i64 (cntP fB L i) ∧ v9 = .int .i64 (cntP fR L i) ∧ v10 = .int .i64 (cntP fL L i) ∧ v11 = .int .i64 0 ∧ v12 = .int .i64 m ∧ v13 = .int .i64 i ∧ W = x.now ∧ Hid (i ≤ 4 ∧ 0 ≤ m ∧ m ≤ i ∧ (kind ≠ 1 → m = cntP fK L i))) (fun _ _ _ _ _ s _ => 4 - (intOf s).toNat)
  case atStart => exact ⟨0, ⟨W3, Below.refl _ _⟩, 0, rfl, rfl, rfl, rfl, rfl, rfl, rfl, Go.Lib.hid ⟨by omega, by omega, by omega, fun _ => rfl⟩⟩
  case round =>
    obtain ⟨i, x, mi, rfl, rfl, rfl, rfl, rfl, rfl, rfl, hii⟩ := hrel
    have xs := x.size
    have hbx := x.below hBw3 (by omega)
    have : w.heap.size < (x.now).heap.size := (by omega); have : w.heap.size < (x.now).heap.size + 1 := (by omega); have : w.heap.size < (x.now).heap.size + 1 + 1 := (by omega); have : w.heap.size ≠ (x.now).heap.size := (by omega); have : w.heap.size ≠ (x.now).heap.size + 1 := (by omega)
    have : w.heap.size + 1 < (x.now).heap.size := (by omega); have : w.heap.size + 1 < (x.now).heap.size + 1 := (by omega); have : w.heap.size + 1 < (x.now).heap.size + 1 + 1 := (by omega); have : w.heap.size + 1 ≠ (x.now).heap.size := (by omega); have : w.heap.size + 1 ≠ (x.now).heap.size + 1 := (by omega)
    obtain ⟨i4, mi0, mi1, mik⟩ := hii.out
    by_cases hlt : i < 4
    · have hlt' : i < L.length := by rw [hlen.out]; exact hlt
      obtain ⟨B', o', eB', hB', q1, q2⟩ := hv3.out i hlt'
      injection eB' with eB'
      injection eB' with e1 e2
      subst e1 e2
      simp only [Nat.zero_add] at q1 q2
      have : B < (x.now).heap.size := (by omega); have : B < (x.now).heap.size + 1 := (by omega); have : B < (x.now).heap.size + 1 + 1 := (by omega); have : B ≠ (x.now).heap.size := (by omega); have : B ≠ (x.now).heap.size + 1 := (by omega)
      have hlt2 : (i : Int) < 4 := by omega
      have cf := fun (W : World) (y : Below w.heap.size w W) => cF.out W y i hlt'
      have cd := fun (W : World) (y : Below w.heap.size w W) => cS.out W y i hlt'
      have g1 := cntP_succ fB L i hlt'
      have g2 := cntP_succ fR L i hlt'
      have g3 := cntP_succ fL L i hlt'
      have g4 := cntP_succ fK L i hlt'
      have h1 := eB.out i hlt'
      have h2 := eR.out i hlt'
      have h3 := eL.out i hlt'
      have h4 := eK.out i hlt'
      obtain ⟨n0', n1'⟩ := hseen.out i hlt'
      obtain ⟨b10, b11⟩ := cntP_in fB L i
      obtain ⟨b20, b21⟩ := cntP_in fR L i
      obtain ⟨b30, b31⟩ := cntP_in fL L i
      generalize fB L[i] = tB at *
      generalize fR L[i] = tR at *
      generalize fL L[i] = tL at *
      generalize fK L[i] = tK at *
      generalize aheadV cn (L[i].x - k.frm.x) (L[i].y - k.frm.y) = dV at *
      generalize sqV (L[i].x - k.frm.x) (L[i].y - k.frm.y) = nV at *
      generalize 1000000 * leftV cn (L[i].x - k.frm.x) (L[i].y - k.frm.y) - cn.lo * dV = lowV at *
      generalize cn.hi * dV - 1000000 * leftV cn (L[i].x - k.frm.x) (L[i].y - k.frm.y) = highV at *
      generalize L[i].x = u at *
      generalize L[i].y = v at *
      generalize cntP fB L i = m1 at *
      generalize cntP fR L i = m2 at *
      generalize cntP fL L i = m3 at *
      generalize cntP fK L i = m4 at *
      replace g1 := Go.Lib.hid g1
      replace g2 := Go.Lib.hid g2
      replace g3 := Go.Lib.hid g3
      replace g4 := Go.Lib.hid g4
      replace h1 := Go.Lib.hid h1
      replace h2 := Go.Lib.hid h2
      replace h3 := Go.Lib.hid h3
      replace h4 := Go.Lib.hid h4
      replace mik := Go.Lib.hid mik
      clear hii hlen hseen cF cS eB eR eL eK hv3
      go_wp2_with (first | ((first | with_reducible refine wp_region_ext2 (by kernel_rfl) (by kernel_rfl) ?_ | with_reducible refine wp_region_ext (by kernel_rfl) (by kernel_rfl) ?_); (repeat (first | go_big_quiet_step ((first | (go_at_call 52; with_reducible exact Calls.ext (cf _ (by repeat' (first | (with_reducible exact Below.refl _ _) | (with_reducible assumption) | (with_reducible refine Ext.below _ ?_ ?_) | (with_reducible refine Below.on ?_ (by with_reducible assumption) ?_) | (with_reducible refine Below.alloc ?_ ?_ _) | (with_reducible refine Below.drew ?_) | (with_reducible refine Below.setCell ?_ ?_ _) | (with_reducible exact Nat.le_refl _) | omega | (simp; done) | (simp [go_sem]; done) | (simp at *; omega))))) | (go_at_call 53; with_reducible exact Calls.ext (cd _ (by repeat' (first | (with_reducible exact Below.refl _ _) | (with_reducible assumption) | (with_reducible refine Ext.below _ ?_ ?_) | (with_reducible refine Below.on ?_ (by with_reducible assumption) ?_) | (with_reducible refine Below.alloc ?_ ?_ _) | (with_reducible refine Below.drew ?_) | (with_reducible refine Below.setCell ?_ ?_ _) | (with_reducible exact Nat.le_refl _) | omega | (simp; done) | (simp [go_sem]; done) | (simp at *; omega))))))) | quiet_step ((first | (go_at_call 52; with_reducible exact Calls.ext (cf _ (by repeat' (first | (with_reducible exact Below.refl _ _) | (with_reducible assumption) | (with_reducible refine Ext.below _ ?_ ?_) | (with_reducible refine Below.on ?_ (by with_reducible assumption) ?_) | (with_reducible refine Below.alloc ?_ ?_ _) | (with_reducible refine Below.drew ?_) | (with_reducible refine Below.setCell ?_ ?_ _) | (with_reducible exact Nat.le_refl _) | omega | (simp; done) | (simp [go_sem]; done) | (simp at *; omega))))) | (go_at_call 53; with_reducible exact Calls.ext (cd _ (by repeat' (first | (with_reducible exact Below.refl _ _) | (with_reducible assumption) | (with_reducible refine Ext.below _ ?_ ?_) | (with_reducible refine Below.on ?_ (by with_reducible assumption) ?_) | (with_reducible refine Below.alloc ?_ ?_ _) | (with_reducible refine Below.drew ?_) | (with_reducible refine Below.setCell ?_ ?_ _) | (with_reducible exact Nat.le_refl _) | omega | (simp; done) | (simp [go_sem]; done) | (simp at *; omega))))))))); refine wpQuiet_nil ?_; rintro _ ⟨yr, rfl⟩; have syr := Ext.size yr; (repeat (first | rw [World.size_alloc] at syr | rw [World.size_setCell] at syr | rw [World.size_drew] at syr)); have : B < yr.now.heap.size := (by omega); have : B ≤ yr.now.heap.size := (by omega); have : B < yr.now.heap.size + 1 + 1 := (by omega); have : w.heap.size < yr.now.heap.size := (by omega); have : w.heap.size ≤ yr.now.heap.size := (by omega); have : w.heap.size < yr.now.heap.size + 1 + 1 := (by omega); have : w.heap.size + 1 < yr.now.heap.size := (by omega); have : w.heap.size + 1 ≤ yr.now.heap.size := (by omega); have : w.heap.size + 1 < yr.now.heap.size + 1 + 1 := (by omega)) | (go_at_call 52; (first | with_reducible refine (Calls.giv2 (cf _ (by repeat' (first | (with_reducible exact Below.refl _ _) | (with_reducible assumption) | (with_reducible refine Ext.below _ ?_ ?_) | (with_reducible refine Below.on ?_ (by with_reducible assumption) ?_) | (with_reducible refine Below.alloc ?_ ?_ _) | (with_reducible refine Below.drew ?_) | (with_reducible refine Below.setCell ?_ ?_ _) | (with_reducible exact Nat.le_refl _) | omega | (simp; done) | (simp [go_sem]; done) | (simp at *; omega))))).mono ?_ | with_reducible refine (Calls.giv (cf _ (by repeat' (first | (with_reducible exact Below.refl _ _) | (with_reducible assumption) | (with_reducible refine Ext.below _ ?_ ?_) | (with_reducible refine Below.on ?_ (by with_reducible assumption) ?_) | (with_reducible refine Below.alloc ?_ ?_ _) | (with_reducible refine Below.drew ?_) | (with_reducible refine Below.setCell ?_ ?_ _) | (with_reducible exact Nat.le_refl _) | omega | (simp; done) | (simp [go_sem]; done) | (simp at *; omega))))).mono ?_); rintro _ _ ⟨y1, rfl, rfl⟩; have sy1 := Ext.size y1; (repeat (first | rw [World.size_alloc] at sy1 | rw [World.size_setCell] at sy1 | rw [World.size_drew] at sy1)); have : B < y1.now.heap.size := (by omega); have : B ≤ y1.now.heap.size := (by omega); have : B < y1.now.heap.size + 1 + 1 := (by omega); have : w.heap.size < y1.now.heap.size := (by omega); have : w.heap.size ≤ y1.now.heap.size := (by omega); have : w.heap.size < y1.now.heap.size + 1 + 1 := (by omega); have : w.heap.size + 1 < y1.now.heap.size := (by omega); have : w.heap.size + 1 ≤ y1.now.heap.size := (by omega); have : w.heap.size + 1 < y1.now.heap.size + 1 + 1 := (by omega)) | (go_at_call 53; (first | with_reducible refine (Calls.giv2 (cd _ (by repeat' (first | (with_reducible exact Below.refl _ _) | (with_reducible assumption) | (with_reducible refine Ext.below _ ?_ ?_) | (with_reducible refine Below.on ?_ (by with_reducible assumption) ?_) | (with_reducible refine Below.alloc ?_ ?_ _) | (with_reducible refine Below.drew ?_) | (with_reducible refine Below.setCell ?_ ?_ _) | (with_reducible exact Nat.le_refl _) | omega | (simp; done) | (simp [go_sem]; done) | (simp at *; omega))))).mono ?_ | with_reducible refine (Calls.giv (cd _ (by repeat' (first | (with_reducible exact Below.refl _ _) | (with_reducible assumption) | (with_reducible refine Ext.below _ ?_ ?_) | (with_reducible refine Below.on ?_ (by with_reducible assumption) ?_) | (with_reducible refine Below.alloc ?_ ?_ _) | (with_reducible refine Below.drew ?_) | (with_reducible refine Below.setCell ?_ ?_ _) | (with_reducible exact Nat.le_refl _) | omega | (simp; done) | (simp [go_sem]; done) | (simp at *; omega))))).mono ?_); rintro _ _ ⟨y2, rfl, rfl⟩; have sy2 := Ext.size y2; (repeat (first | rw [World.size_alloc] at sy2 | rw [World.size_setCell] at sy2 | rw [World.size_drew] at sy2)); have : B < y2.now.heap.size := (by omega); have : B ≤ y2.now.heap.size := (by omega); have : B < y2.now.heap.size + 1 + 1 := (by omega); have : w.heap.size < y2.now.heap.size := (by omega); have : w.heap.size ≤ y2.now.heap.size := (by omega); have : w.heap.size < y2.now.heap.size + 1 + 1 := (by omega); have : w.heap.size + 1 < y2.now.heap.size := (by omega); have : w.heap.size + 1 ≤ y2.now.heap.size := (by omega); have : w.heap.size + 1 < y2.now.heap.size + 1 + 1 := (by omega)))
      all_goals
        have k1 := g1.out
        have k2 := g2.out
        have k3 := g3.out
        have k4 := g4.out
        have l1 := h1.out
        have l2 := h2.out
        have l3 := h3.out
        have l4 := h4.out
        have km := mik.out
        have kq := hQ.out
        clear cf cd g1 g2 g3 g4 h1 h2 h3 h4 mik hQ hV2 hk13
        refine ⟨⟨i + 1, ⟨yr.now, ?_⟩, _, ?_, ?_, ?_, rfl, rfl, by simp, rfl, Go.Lib.hid ⟨by omega, ?_, ?_, ?_⟩⟩, by simp [intOf]; omega⟩
        · repeat' (first | (with_reducible exact Below.refl _ _) | (with_reducible assumption) | (with_reducible refine Ext.below _ ?_ ?_) | (with_reducible refine Below.on ?_ (by with_reducible assumption) ?_) | (with_reducible refine Below.alloc ?_ ?_ _) | (with_reducible refine Below.drew ?_) | (with_reducible refine Below.setCell ?_ ?_ _) | (with_reducible exact Nat.le_refl _) | omega | (simp; done) | (simp [go_sem]; done) | (simp at *; omega))
        · rw [k1, l1]; congr 1; simp only [decide_eq_true_eq]; split <;> omega
        · rw [k2, l2]; congr 1; simp only [decide_eq_true_eq]; split <;> omega
        · rw [k3, l3]; congr 1; simp only [decide_eq_true_eq]; split <;> omega
        · omega
        · omega
        · intro hk
          have e1 := km hk
          have e2 := kq hk
          rw [k4, l4, l1, l2, l3, ← e2]
          generalize wrap64 (hi * hi) = Q at *
          simp only [Bool.and_eq_true, Bool.not_eq_true', decide_eq_true_eq, decide_eq_false_iff_not]
          split <;> omega
    · have hie : i = 4 := by omega
      have g1 : (cntP fB L i = 4) ↔ L.all fB = true := by rw [hie]; exact cntP_all fB L 4 hlen.out
      have g2 : (cntP fR L i = 4) ↔ L.all fR = true := by rw [hie]; exact cntP_all fR L 4 hlen.out
      have g3 : (cntP fL L i = 4) ↔ L.all fL = true := by rw [hie]; exact cntP_all fL L 4 hlen.out
      have g4 : (cntP fK L i = 4) ↔ L.all fK = true := by rw [hie]; exact cntP_all fK L 4 hlen.out
      have hge : ¬ (i : Int) < 4 := by omega
      have hV3 := hV2.out
      generalize L.all fB = wB at *
      generalize L.all fR = wR at *
      generalize L.all fL = wL at *
      generalize L.all fK = wK at *
      generalize cntP fB L i = m1 at *
      generalize cntP fR L i = m2 at *
      generalize cntP fL L i = m3 at *
      generalize cntP fK L i = m4 at *
      replace g1 := Go.Lib.hid g1
      replace g2 := Go.Lib.hid g2
      replace g3 := Go.Lib.hid g3
      replace g4 := Go.Lib.hid g4
      replace hV3 := Go.Lib.hid hV3
      replace mik := Go.Lib.hid mik
      clear hii hlen hseen cF cS eB eR eL eK hv3 hV2 hie hlt
      go_wp2_with (first | ((first | with_reducible refine wp_region_ext2 (by kernel_rfl) (by kernel_rfl) ?_ | with_reducible refine wp_region_ext (by kernel_rfl) (by kernel_rfl) ?_); (repeat (first | go_big_quiet_step ((first | fail)) | quiet_step ((first | fail)))); refine wpQuiet_nil ?_; rintro _ ⟨yr, rfl⟩; have syr := Ext.size yr; (repeat (first | rw [World.size_alloc] at syr | rw [World.size_setCell] at syr | rw [World.size_drew] at syr)); have : w.heap.size < yr.now.heap.size := (by omega); have : w.heap.size ≤ yr.now.heap.size := (by omega); have : w.heap.size < yr.now.heap.size + 1 + 1 := (by omega); have : w.heap.size + 1 < yr.now.heap.size := (by omega); have : w.heap.size + 1 ≤ yr.now.heap.size := (by omega); have : w.heap.size + 1 < yr.now.heap.size + 1 + 1 := (by omega)))
      all_goals go_returns
      all_goals refine ⟨ret_bool ?_, ?_⟩
      all_goals first
        | (have k1 := g1.out; have k2 := g2.out; have k3 := g3.out; have k4 := g4.out; have km := mik.out; have kv := hV3.out; have ks := hk13.out; clear g1 g2 g3 g4 mik hV3 hk13 hQ; subst kv; simp at *; grind)
        | ((repeat' (first | (with_reducible exact Below.refl _ _) | (with_reducible assumption) | (with_reducible refine Ext.below _ ?_ ?_) | (with_reducible refine Below.on ?_ (by with_reducible assumption) ?_) | (with_reducible refine Below.alloc ?_ ?_ _) | (with_reducible refine Below.drew ?_) | (with_reducible refine Below.setCell ?_ ?_ _) | (with_reducible exact Nat.le_refl _) | omega | (simp; done) | (simp [go_sem]; done) | (simp at *; omega))); done)
end Go.Proofs.Ytphdnoojacnopaa

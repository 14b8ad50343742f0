/- Contracts of CheckGrades and Reach for any grades. Condition: the grades stand in memory, at most 1000 for Reach. -/
import Derived.Test.YtlmhbggigbmeaaaDoorBlGrG
namespace Go.Proofs.YtlmhbggigbmeaaaDoor
open Go.RowKit Go.Shelf
attribute [local go_sem] Option.isSome_some Ext.cell Ext.frozen Ext.lt Ext.le Ext.lt_add Ext.le_add Ext.ne Ext.ne' lt2 lt3 lt4 lt5 le2 le3 le4
/-- What is wrong with grades, one behind the other. -/
def grE : Option V2 → List V2 → Int
  | _, [] => 0
  | o, g :: l => if (0 ≤ g.x ∧ g.x ≤ 1152921504606846976) ∧ (0 ≤ g.y ∧ g.y ≤ 400) then (if ∃ q, o = some q ∧ (g.x ≤ q.x ∨ g.y < q.y) then 11 else grE (some g) l) else 2
def gradesE (l : List V2) : Int := if l.length = 0 then 6 else if 32 < l.length then 8 else grE none l
def prv (l : List V2) : Nat → Option V2
  | 0 => none
  | j + 1 => l[j]?
theorem grE_in {o : Option V2} {g : V2} {l : List V2} {V : Int} (h : grE o (g :: l) = V) (hr : (0 ≤ g.x ∧ g.x ≤ 1152921504606846976) ∧ (0 ≤ g.y ∧ g.y ≤ 400)) (hu : ∀ q, o = some q → q.x < g.x ∧ q.y ≤ g.y) : grE (some g) l = V := by
  rw [grE, if_pos hr, if_neg (by rintro ⟨q, e, hq⟩; have := hu q e; omega)] at h
  exact h
theorem grE_range {o : Option V2} {g : V2} {l : List V2} {V : Int} (h : grE o (g :: l) = V) (hr : ¬ ((0 ≤ g.x ∧ g.x ≤ 1152921504606846976) ∧ (0 ≤ g.y ∧ g.y ≤ 400))) : V = 2 := by
  rw [grE, if_neg hr] at h
  exact h.symm
theorem grE_order {o : Option V2} {g q : V2} {l : List V2} {V : Int} (h : grE o (g :: l) = V) (hr : (0 ≤ g.x ∧ g.x ≤ 1152921504606846976) ∧ (0 ≤ g.y ∧ g.y ≤ 400)) (e : o = some q) (hq : g.x ≤ q.x ∨ g.y < q.y) : V = 11 := by
  rw [grE, if_pos hr, if_pos ⟨q, e, hq⟩] at h
  exact h.symm
theorem grE_ok : ∀ (l : List V2) (o : Option V2), grE o l = 0 → (∀ g ∈ l, (0 ≤ g.x ∧ g.x ≤ 1152921504606846976) ∧ 0 ≤ g.y ∧ g.y ≤ 400) ∧ (∀ q g, o = some q → l[0]? = some g → q.x < g.x ∧ q.y ≤ g.y) ∧ ∀ i (h : i + 1 < l.length), l[i].x < l[i + 1].x ∧ l[i].y ≤ l[i + 1].y
  | [], o, _ => ⟨by simp, by simp, by simp⟩
  | g :: l, o, h => by
    unfold grE at h
    split at h
    · rename_i hr
      split at h
      · cases h
      · rename_i hn
        obtain ⟨h1, h2, h3⟩ := grE_ok l (some g) h
        refine ⟨fun u hu => ?_, fun q u hq hu => ?_, fun i hi => ?_⟩
        · rcases List.mem_cons.1 hu with rfl | hu
          · exact hr
          · exact h1 u hu
        · simp only [List.getElem?_cons_zero, Option.some.injEq] at hu
          subst hu
          have : ¬ (g.x ≤ q.x ∨ g.y < q.y) := fun e => hn ⟨q, hq, e⟩
          omega
        · cases i with
          | zero => exact h2 g _ rfl (by simp [List.getElem?_eq_getElem (show 0 < l.length by simpa using hi)])
          | succ j => exact h3 j (by simpa using hi)
    · cases h
theorem gradesE_ok {l : List V2} (h : gradesE l = 0) : GradesOk l := by
  unfold gradesE at h
  split at h
  · cases h
  · split at h
    · cases h
    · obtain ⟨h1, -, h3⟩ := grE_ok l none h
      exact ⟨by omega, by omega, h1, h3⟩
theorem gradesE_of {l : List V2} (h : GradesOk l) : gradesE l = 0 := by
  unfold gradesE
  rw [if_neg (by have := h.pos; omega), if_neg (by have := h.le; omega)]
  have key : ∀ n i, i + n = l.length → grE (prv l i) (l.drop i) = 0 := by
    intro n
    induction n with
    | zero => intro i hi; rw [List.drop_of_length_le (by omega)]; rfl
    | succ n ih =>
      intro i hi
      have hlt : i < l.length := by omega
      rw [drop_at hlt, grE, if_pos (h.rng _ (List.getElem_mem hlt)), if_neg]
      · have := ih (i + 1) (by omega)
        simpa [prv, hlt] using this
      · rintro ⟨q, e, hq⟩
        cases i with
        | zero => cases e
        | succ j =>
          simp only [prv, List.getElem?_eq_getElem (show j < l.length by omega), Option.some.injEq] at e
          subst e
          have := h.up j hlt
          omega
  simpa [prv] using key l.length 0 (by omega)
set_option maxRecDepth 100000 in
set_option maxHeartbeats 8000000 in
theorem CheckGrades_any (p : Option Addr) (c : Nat) (l : List V2) (w : World) (hP : VecsAt w p l) : Calls Tryd.prog 56 #[.slice p l.length c] w (Gives (.int .i64 (gradesE l)) w) := by
  unfold gradesE
  by_cases h0 : l.length = 0
  · rw [if_pos h0]
    have h02 : (l.length : Int) = 0 := by omega
    generalize l.length = n at *
    clear hP
    go_enter Tryd.func56, Tryd.ntmps56
    go_wp2_with (first | ((first | with_reducible refine wrx2 ?_ | with_reducible refine wrx ?_); (repeat (first | go_big_quiet_step ((first | fail)) | quiet_step ((first | fail)))); refine wpQuiet_nil ?_; rintro _ ⟨yr, rfl⟩; have syr := Ext.size yr; (repeat (first | rw [World.size_alloc] at syr | rw [World.size_setCell] at syr | rw [World.size_drew] at syr))))
    go_returns
    refine ⟨rfl, ?_⟩
    repeat' (first | (with_reducible exact Below.refl _ _) | (with_reducible assumption) | (with_reducible refine Ext.below _ ?_ ?_) | (with_reducible refine Below.on ?_ (by with_reducible assumption) ?_) | (with_reducible refine Below.alloc ?_ ?_ _) | (with_reducible refine Below.drew ?_) | (with_reducible refine Below.setCell ?_ ?_ _) | (with_reducible exact Nat.le_refl _) | omega | (simp; done) | (simp [go_sem]; done) | (simp at *; omega))
  rw [if_neg h0]
  have h02 : ¬ (l.length : Int) = 0 := by omega
  have h03 : ((l.length : Int) == 0) = false := by rw [beq_eq_false_iff_ne]; exact h02
  by_cases hc : 32 < l.length
  · rw [if_pos hc]
    have hc2 : 32 < (l.length : Int) := by omega
    generalize l.length = n at *
    clear hP
    go_enter Tryd.func56, Tryd.ntmps56
    go_wp2_with (first | ((first | with_reducible refine wrx2 ?_ | with_reducible refine wrx ?_); (repeat (first | go_big_quiet_step ((first | fail)) | quiet_step ((first | fail)))); refine wpQuiet_nil ?_; rintro _ ⟨yr, rfl⟩; have syr := Ext.size yr; (repeat (first | rw [World.size_alloc] at syr | rw [World.size_setCell] at syr | rw [World.size_drew] at syr))))
    go_returns
    refine ⟨rfl, ?_⟩
    repeat' (first | (with_reducible exact Below.refl _ _) | (with_reducible assumption) | (with_reducible refine Ext.below _ ?_ ?_) | (with_reducible refine Below.on ?_ (by with_reducible assumption) ?_) | (with_reducible refine Below.alloc ?_ ?_ _) | (with_reducible refine Below.drew ?_) | (with_reducible refine Below.setCell ?_ ?_ _) | (with_reducible exact Nat.le_refl _) | omega | (simp; done) | (simp [go_sem]; done) | (simp at *; omega))
  rw [if_neg hc]
  have hc2 : ¬ 32 < (l.length : Int) := by omega
  obtain ⟨V, hV⟩ : ∃ V, grE none l = V := ⟨_, rfl⟩
  rw [hV]
  replace hV := Go.Lib.hid hV
  replace hP := Go.Lib.hid hP
  clear h0
  go_enter Tryd.func56, Tryd.ntmps56
  go_wp2_with (first | ((first | with_reducible refine wrx2 ?_ | with_reducible refine wrx ?_); (repeat (first | go_big_quiet_step ((first | fail)) | quiet_step ((first | fail)))); refine wpQuiet_nil ?_; rintro _ ⟨yr, rfl⟩; have syr := Ext.size yr; (repeat (first | rw [World.size_alloc] at syr | rw [World.size_setCell] at syr | rw [World.size_drew] at syr))))
  clear h02 h03 hc2
  go_loopw [13] (fun s W => ∃ (i : Nat) (x : Ext w), s = .int .i64 i ∧ W = x.now ∧ Hid (i ≤ l.length ∧ grE (prv l i) (l.drop i) = V)) (fun s _ => l.length - (intOf s).toNat)
  case atStart => exact ⟨0, ⟨w, Below.refl _ _⟩, rfl, rfl, Go.Lib.hid ⟨Nat.zero_le _, by simpa [prv] using hV.out⟩⟩
  case round =>
    obtain ⟨i, x, rfl, rfl, hi⟩ := hrel
    have xs := x.size
    by_cases hlt : i < l.length
    · have hlt2 : (i : Int) < l.length := by omega
      obtain ⟨B, o, hp, hB, c1, c2⟩ := hP.out i hlt
      have hE := hi.out.2
      rw [drop_at hlt] at hE
      have hi32 : i ≤ 32 := by omega
      clear hi
      subst hp
      have : B < (x.now).heap.size := (by omega); have : B < (x.now).heap.size + 1 := (by omega); have : B < (x.now).heap.size + 1 + 1 := (by omega); have : B ≠ (x.now).heap.size := (by omega); have : B ≠ (x.now).heap.size + 1 := (by omega)
      by_cases hr : (0 ≤ l[i].x ∧ l[i].x ≤ 1152921504606846976) ∧ (0 ≤ l[i].y ∧ l[i].y ≤ 400)
      · cases i with
        | zero =>
          have key : Hid (0 + 1 ≤ l.length ∧ grE (prv l (0 + 1)) (l.drop (0 + 1)) = V) := Go.Lib.hid ⟨hlt, by have := grE_in hE hr (by intro q e; cases e); simpa [prv, hlt] using this⟩
          clear hE hV
          obtain ⟨⟨g1, g2⟩, g3, g4⟩ := hr
          generalize l[0].x = t1 at *
          generalize l[0].y = t2 at *
          simp only [Nat.zero_mul, Nat.add_zero] at c1 c2
          go_wp2_with (first | ((first | with_reducible refine wrx2 ?_ | with_reducible refine wrx ?_); (repeat (first | go_big_quiet_step ((first | fail)) | quiet_step ((first | fail)))); refine wpQuiet_nil ?_; rintro _ ⟨yr, rfl⟩; have syr := Ext.size yr; (repeat (first | rw [World.size_alloc] at syr | rw [World.size_setCell] at syr | rw [World.size_drew] at syr)); have : B < yr.now.heap.size := (by omega); have : B ≤ yr.now.heap.size := (by omega); have : B < yr.now.heap.size + 1 + 1 := (by omega)))
          refine ⟨⟨1, ⟨yr.now, ?_⟩, by simp, rfl, key⟩, by simp [intOf]; omega⟩
          repeat' (first | (with_reducible exact Below.refl _ _) | (with_reducible assumption) | (with_reducible refine Ext.below _ ?_ ?_) | (with_reducible refine Below.on ?_ (by with_reducible assumption) ?_) | (with_reducible refine Below.alloc ?_ ?_ _) | (with_reducible refine Below.drew ?_) | (with_reducible refine Below.setCell ?_ ?_ _) | (with_reducible exact Nat.le_refl _) | omega | (simp; done) | (simp [go_sem]; done) | (simp at *; omega))
        | succ j =>
          obtain ⟨B', o', hp', hB', d1, d2⟩ := hP.out j (by omega)
          injection hp' with hp'
          injection hp' with e1 e2
          subst e1 e2
          have hj2 : (j : Int) < l.length := by omega
          have hpj : prv l (j + 1) = some l[j] := by simp [prv, show j < l.length by omega]
          by_cases hu : l[j].x < l[j + 1].x ∧ l[j].y ≤ l[j + 1].y
          · have key : Hid (j + 1 + 1 ≤ l.length ∧ grE (prv l (j + 1 + 1)) (l.drop (j + 1 + 1)) = V) := Go.Lib.hid ⟨hlt, by have := grE_in hE hr (by intro q e; rw [hpj] at e; injection e with e; subst e; exact hu); simpa [prv, hlt] using this⟩
            clear hE hV hpj
            obtain ⟨⟨g1, g2⟩, g3, g4⟩ := hr
            obtain ⟨u1, u2⟩ := hu
            generalize l[j + 1].x = t1 at *
            generalize l[j + 1].y = t2 at *
            generalize l[j].x = t3 at *
            generalize l[j].y = t4 at *
            have u3 : ¬ t1 ≤ t3 := by omega
            have u4 : ¬ t2 < t4 := by omega
            clear hB' u1 u2
            go_wp2_with (first | ((first | with_reducible refine wrx2 ?_ | with_reducible refine wrx ?_); (repeat (first | go_big_quiet_step ((first | fail)) | quiet_step ((first | fail)))); refine wpQuiet_nil ?_; rintro _ ⟨yr, rfl⟩; have syr := Ext.size yr; (repeat (first | rw [World.size_alloc] at syr | rw [World.size_setCell] at syr | rw [World.size_drew] at syr)); have : B < yr.now.heap.size := (by omega); have : B ≤ yr.now.heap.size := (by omega); have : B < yr.now.heap.size + 1 + 1 := (by omega)))
            refine ⟨⟨j + 1 + 1, ⟨yr.now, ?_⟩, by simp, rfl, key⟩, by simp [intOf]; omega⟩
            repeat' (first | (with_reducible exact Below.refl _ _) | (with_reducible assumption) | (with_reducible refine Ext.below _ ?_ ?_) | (with_reducible refine Below.on ?_ (by with_reducible assumption) ?_) | (with_reducible refine Below.alloc ?_ ?_ _) | (with_reducible refine Below.drew ?_) | (with_reducible refine Below.setCell ?_ ?_ _) | (with_reducible exact Nat.le_refl _) | omega | (simp; done) | (simp [go_sem]; done) | (simp at *; omega))
          · have eV : V = 11 := grE_order hE hr hpj (by omega)
            clear hE hV hpj
            subst eV
            obtain ⟨⟨g1, g2⟩, g3, g4⟩ := hr
            generalize l[j + 1].x = t1 at *
            generalize l[j + 1].y = t2 at *
            generalize l[j].x = t3 at *
            generalize l[j].y = t4 at *
            clear hB'
            rcases (show t1 ≤ t3 ∨ (¬ t1 ≤ t3 ∧ t2 < t4) by omega) with u1 | ⟨u1, u2⟩
            all_goals
              clear hu
              go_wp2_with (first | ((first | with_reducible refine wrx2 ?_ | with_reducible refine wrx ?_); (repeat (first | go_big_quiet_step ((first | fail)) | quiet_step ((first | fail)))); refine wpQuiet_nil ?_; rintro _ ⟨yr, rfl⟩; have syr := Ext.size yr; (repeat (first | rw [World.size_alloc] at syr | rw [World.size_setCell] at syr | rw [World.size_drew] at syr)); have : B < yr.now.heap.size := (by omega); have : B ≤ yr.now.heap.size := (by omega); have : B < yr.now.heap.size + 1 + 1 := (by omega)))
              go_returns
              refine ⟨rfl, ?_⟩
              repeat' (first | (with_reducible exact Below.refl _ _) | (with_reducible assumption) | (with_reducible refine Ext.below _ ?_ ?_) | (with_reducible refine Below.on ?_ (by with_reducible assumption) ?_) | (with_reducible refine Below.alloc ?_ ?_ _) | (with_reducible refine Below.drew ?_) | (with_reducible refine Below.setCell ?_ ?_ _) | (with_reducible exact Nat.le_refl _) | omega | (simp; done) | (simp [go_sem]; done) | (simp at *; omega))
      · have eV : V = 2 := grE_range hE hr
        clear hE hV
        subst eV
        generalize l[i].x = t1 at *
        generalize l[i].y = t2 at *
        rcases (show t1 < 0 ∨ (0 ≤ t1 ∧ 1152921504606846976 < t1) ∨ (0 ≤ t1 ∧ t1 ≤ 1152921504606846976 ∧ t2 < 0) ∨ (0 ≤ t1 ∧ t1 ≤ 1152921504606846976 ∧ 0 ≤ t2 ∧ 400 < t2) by omega) with g1 | ⟨g1, g2⟩ | ⟨g1, g2, g3⟩ | ⟨g1, g2, g3, g4⟩
        all_goals
          clear hr
          go_wp2_with (first | ((first | with_reducible refine wrx2 ?_ | with_reducible refine wrx ?_); (repeat (first | go_big_quiet_step ((first | fail)) | quiet_step ((first | fail)))); refine wpQuiet_nil ?_; rintro _ ⟨yr, rfl⟩; have syr := Ext.size yr; (repeat (first | rw [World.size_alloc] at syr | rw [World.size_setCell] at syr | rw [World.size_drew] at syr)); have : B < yr.now.heap.size := (by omega); have : B ≤ yr.now.heap.size := (by omega); have : B < yr.now.heap.size + 1 + 1 := (by omega)))
          go_returns
          refine ⟨rfl, ?_⟩
          repeat' (first | (with_reducible exact Below.refl _ _) | (with_reducible assumption) | (with_reducible refine Ext.below _ ?_ ?_) | (with_reducible refine Below.on ?_ (by with_reducible assumption) ?_) | (with_reducible refine Below.alloc ?_ ?_ _) | (with_reducible refine Below.drew ?_) | (with_reducible refine Below.setCell ?_ ?_ _) | (with_reducible exact Nat.le_refl _) | omega | (simp; done) | (simp [go_sem]; done) | (simp at *; omega))
    · have hge : ¬ (i : Int) < l.length := by omega
      have eV : V = 0 := by have hE := hi.out.2; rw [drop_end hlt, grE] at hE; exact hE.symm
      clear hi hV
      subst eV
      go_wp2_with (first | ((first | with_reducible refine wrx2 ?_ | with_reducible refine wrx ?_); (repeat (first | go_big_quiet_step ((first | fail)) | quiet_step ((first | fail)))); refine wpQuiet_nil ?_; rintro _ ⟨yr, rfl⟩; have syr := Ext.size yr; (repeat (first | rw [World.size_alloc] at syr | rw [World.size_setCell] at syr | rw [World.size_drew] at syr))))
      go_returns
      refine ⟨rfl, ?_⟩
      repeat' (first | (with_reducible exact Below.refl _ _) | (with_reducible assumption) | (with_reducible refine Ext.below _ ?_ ?_) | (with_reducible refine Below.on ?_ (by with_reducible assumption) ?_) | (with_reducible refine Below.alloc ?_ ?_ _) | (with_reducible refine Below.drew ?_) | (with_reducible refine Below.setCell ?_ ?_ _) | (with_reducible exact Nat.le_refl _) | omega | (simp; done) | (simp [go_sem]; done) | (simp at *; omega))
/-- How far a blow reaches; 0 for grades that are not valid. -/
def reachV (l : List V2) (e : Int) : Int := if gradesE l = 0 then reachL e l 0 else 0
theorem Reach_any (p : Option Addr) (c : Nat) (l : List V2) (e : Int) (w : World) (hP : VecsAt w p l) (hn : l.length ≤ 1000) : Calls Tryd.prog 30 #[.slice p l.length c, .int .i64 e] w (Gives (.int .i64 (reachV l e)) w) := by
  have cc := fun (W : World) (y : Below w.heap.size w W) => CheckGrades_any p c l W (hP.on y)
  have cr := fun (W : World) (y : Below w.heap.size w W) => reachOf_any p c l e W (hP.on y) hn
  unfold reachV
  generalize reachL e l 0 = V at *
  generalize gradesE l = E at *
  clear hP hn
  generalize l.length = n at *
  by_cases hE : E = 0
  · rw [if_pos hE]
    go_enter Tryd.func30, Tryd.ntmps30
    go_wp2_with (first | ((first | with_reducible refine wrx2 ?_ | with_reducible refine wrx ?_); (repeat (first | go_big_quiet_step ((first | (go_at_call 56; with_reducible exact Calls.ext (cc _ bcl)) | (go_at_call 57; with_reducible exact Calls.ext (cr _ bcl)))) | quiet_step ((first | (go_at_call 56; with_reducible exact Calls.ext (cc _ bcl)) | (go_at_call 57; with_reducible exact Calls.ext (cr _ bcl)))))); refine wpQuiet_nil ?_; rintro _ ⟨yr, rfl⟩; have syr := Ext.size yr; (repeat (first | rw [World.size_alloc] at syr | rw [World.size_setCell] at syr | rw [World.size_drew] at syr))) | (go_at_call 56; (first | with_reducible refine (Calls.giv2 (cc _ bcl)).mono ?_ | with_reducible refine (Calls.giv (cc _ bcl)).mono ?_); rintro _ _ ⟨y1, rfl, rfl⟩; have sy1 := Ext.size y1; (repeat (first | rw [World.size_alloc] at sy1 | rw [World.size_setCell] at sy1 | rw [World.size_drew] at sy1))) | (go_at_call 57; (first | with_reducible refine (Calls.giv2 (cr _ bcl)).mono ?_ | with_reducible refine (Calls.giv (cr _ bcl)).mono ?_); rintro _ _ ⟨y2, rfl, rfl⟩; have sy2 := Ext.size y2; (repeat (first | rw [World.size_alloc] at sy2 | rw [World.size_setCell] at sy2 | rw [World.size_drew] at sy2))))
    go_returns
    refine ⟨rfl, ?_⟩
    repeat' (first | (with_reducible exact Below.refl _ _) | (with_reducible assumption) | (with_reducible refine Ext.below _ ?_ ?_) | (with_reducible refine Below.on ?_ (by with_reducible assumption) ?_) | (with_reducible refine Below.alloc ?_ ?_ _) | (with_reducible refine Below.drew ?_) | (with_reducible refine Below.setCell ?_ ?_ _) | (with_reducible exact Nat.le_refl _) | omega | (simp; done) | (simp [go_sem]; done) | (simp at *; omega))
  · rw [if_neg hE]
    go_enter Tryd.func30, Tryd.ntmps30
    go_wp2_with (first | ((first | with_reducible refine wrx2 ?_ | with_reducible refine wrx ?_); (repeat (first | go_big_quiet_step ((first | (go_at_call 56; with_reducible exact Calls.ext (cc _ bcl)) | (go_at_call 57; with_reducible exact Calls.ext (cr _ bcl)))) | quiet_step ((first | (go_at_call 56; with_reducible exact Calls.ext (cc _ bcl)) | (go_at_call 57; with_reducible exact Calls.ext (cr _ bcl)))))); refine wpQuiet_nil ?_; rintro _ ⟨yr, rfl⟩; have syr := Ext.size yr; (repeat (first | rw [World.size_alloc] at syr | rw [World.size_setCell] at syr | rw [World.size_drew] at syr))) | (go_at_call 56; (first | with_reducible refine (Calls.giv2 (cc _ bcl)).mono ?_ | with_reducible refine (Calls.giv (cc _ bcl)).mono ?_); rintro _ _ ⟨y1, rfl, rfl⟩; have sy1 := Ext.size y1; (repeat (first | rw [World.size_alloc] at sy1 | rw [World.size_setCell] at sy1 | rw [World.size_drew] at sy1))) | (go_at_call 57; (first | with_reducible refine (Calls.giv2 (cr _ bcl)).mono ?_ | with_reducible refine (Calls.giv (cr _ bcl)).mono ?_); rintro _ _ ⟨y2, rfl, rfl⟩; have sy2 := Ext.size y2; (repeat (first | rw [World.size_alloc] at sy2 | rw [World.size_setCell] at sy2 | rw [World.size_drew] at sy2))))
    go_returns
    refine ⟨rfl, ?_⟩
    repeat' (first | (with_reducible exact Below.refl _ _) | (with_reducible assumption) | (with_reducible refine Ext.below _ ?_ ?_) | (with_reducible refine Below.on ?_ (by with_reducible assumption) ?_) | (with_reducible refine Below.alloc ?_ ?_ _) | (with_reducible refine Below.drew ?_) | (with_reducible refine Below.setCell ?_ ?_ _) | (with_reducible exact Nat.le_refl _) | omega | (simp; done) | (simp [go_sem]; done) | (simp at *; omega))
end Go.Proofs.YtlmhbggigbmeaaaDoor

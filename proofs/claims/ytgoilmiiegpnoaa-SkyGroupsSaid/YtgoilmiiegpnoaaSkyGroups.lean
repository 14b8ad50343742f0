/- SkyGroups: the groups of tracklets, or the error, are what the reference says. Condition: none beyond the statement's own. -/
import Derived.Test.YtgoilmiiegpnoaaSkyGz
import Derived.Test.YtgoilmiiegpnoaaSkyU
import Derived.Test.YtgoilmiiegpnoaaOpen
namespace Go.Proofs.Ytgoilmiiegpnoaa
open Go.RowKit Go.Shelf Go.ChangeShapes Go.WideShapes Go.ChangeAt Go.Joins
attribute [local go_sem] Option.isSome_some Ext.cell Ext.frozen Ext.lt Ext.le Ext.lt_add Ext.le_add Ext.ne Ext.ne' lt2 lt3 lt4 lt5 le2 le3 le4
theorem SkyR.Fits.big {s : SkyR} (h : s.Fits) : s.bodies.length < 9223372036854775808 ∧ (∀ b ∈ s.bodies, b.track.length < 9223372036854775808) ∧ s.sts.length < 9223372036854775808 ∧ s.cats.length < 9223372036854775808 := ⟨h.fb, h.ft, h.fs, h.fc⟩
theorem restA_small {n : Nat} (tk : List Bool) : ∀ (m i : Nat) (fd : List (List Int)), (∀ x ∈ fd, x.length ≤ n + 1) → ∀ x ∈ restA tk m i fd, x.length ≤ n + 1 := by
  intro m
  induction m with
  | zero => intro i fd h; exact h
  | succ m ih =>
    intro i fd h
    rw [restA]
    refine ih (i + 1) _ fun x hx => ?_
    split at hx
    · exact h x hx
    · rcases List.mem_append.1 hx with h1 | h1
      · exact h x h1
      · rw [List.mem_singleton.1 h1]; simp
theorem groupsA_small {α : Type} (F : α → Nat → Bool) (n : Nat) : ∀ (l : List α) (tk : List Bool) (fd : List (List Int)), (∀ x ∈ fd, x.length ≤ n + 1) → ∀ x ∈ (groupsA F n tk fd l).2, x.length ≤ n + 1 := by
  intro l
  induction l with
  | nil => intro tk fd h; exact h
  | cons g l ih =>
    intro tk fd h
    rw [groupsA]
    split
    · exact ih _ _ h
    · refine ih _ _ fun x hx => ?_
      rcases List.mem_append.1 hx with h1 | h1
      · exact h x h1
      · rw [List.mem_singleton.1 h1]
        have := grpA_len (F g) tk n 0 []
        simp only [List.length_nil] at this
        omega
theorem groupsR_small {s : SkyR} {ts : List TrR} {gs : List StateR} {t : Int} (h : ts.length ≤ 18) : ∀ x ∈ (groupsR s ts gs t).l, x.length ≤ 1048576 := by
  intro x hx
  rw [groupsR_eq] at hx
  split at hx
  · split at hx
    · simp at hx
    · split at hx
      · split at hx
        · have := restA_small (n := ts.length) _ _ _ _ (groupsA_small _ ts.length gs (List.replicate ts.length false) [] (fun x hx => by simp at hx)) x hx
          omega
        · simp at hx
      · simp at hx
  · simp at hx
theorem bigGB {s : SkyR} {n : Nat} {ts : List TrR} (h : bigB s n ts = false) : ts.length ≤ 18 := by
  unfold bigB at h
  simp only [Bool.or_eq_false_iff, decide_eq_false_iff_not] at h
  omega
theorem owns_max {w : World} {base : Nat} {e : TypeId} {size : Nat} {v : Value} {n : Nat} {xs : List Value} (h : w.ownsRow base e size v n xs) : n ≤ maxLen := by
  rcases h.2 with ⟨_, h2⟩ | ⟨g, cap, cur, _, _, _, hn, hc, _⟩
  · omega
  · omega
set_option maxRecDepth 100000 in
set_option maxHeartbeats 16000000 in
theorem SkyGroups_any (s : SkyR) (tp : Option Addr) (tc : Nat) (ts : List TrR) (gp : Option Addr) (gc : Nat) (gl : List StateR) (n : Int) (w : World) (hs : s.At w ∧ s.Fits) (ht : ts.length < 9223372036854775808 ∧ TracksAt w tp ts ∧ ∀ b ∈ ts, b.l.length < 9223372036854775808) (hg : gl.length < 9223372036854775808 ∧ StatesAt w gp gl) (_h4 : I64 n) :
    Calls Try.prog 7 #[s.val, .slice tp ts.length tc, .slice gp gl.length gc, .int .i64 n] w (Gives (.bool true) w) := by
  have cb := fun (W : World) (y : Below w.heap.size w W) => big_any s gp gl.length gc tp tc ts W hs.2.big (hs.1.on y) (ht.2.1.on y)
  have c1 := fun (W : World) (y : Below w.heap.size w W) => Groups_any s tp gp tc gc ts gl n W (hs.1.on y) (ht.2.1.on y) (hg.2.on y)
  have c2 := fun (W : World) (y : Below w.heap.size w W) => refGroups_any s tp gp tc gc ts gl n W (hs.1.on y) (ht.2.1.on y) (hg.2.on y)
  have ca := fun W => skyAwake_any W
  have hbg := fun h => bigGB (s := s) (n := gl.length) (ts := ts) h
  have hsm := fun h => groupsR_small (s := s) (ts := ts) (gs := gl) (t := n) h
  clear _h4 hs ht hg
  generalize groupsR s ts gl n = r at *
  generalize bigB s gl.length ts = g at *
  generalize ts.length = lt' at *
  generalize gl.length = lg at *
  unfold SkyR.val at *
  generalize s.cats.length = n1 at *; generalize s.cp = n2 at *; generalize s.cc = n3 at *; generalize s.bodies.length = n4 at *; generalize s.bp = n5 at *; generalize s.bc = n6 at *; generalize s.sts.length = n7 at *; generalize s.sp = n8 at *; generalize s.sc = n9 at *; generalize s.home = n0 at *
  obtain ⟨rl, re⟩ := r
  simp only at *
  have hee : (re == re) = true := by simp
  cases g
  case true =>
    clear c1 c2 hsm hbg
    go_enter Try.func7, Try.ntmps7
    go_wp2_with (first | ((first | with_reducible refine wp_region_ext2 (by kernel_rfl) (by kernel_rfl) ?_ | with_reducible refine wp_region_ext (by kernel_rfl) (by kernel_rfl) ?_); (repeat (first | go_big_quiet_step ((first | (go_at_call 16; with_reducible exact Calls.ext (cb _ (by repeat' (first | (with_reducible exact Below.refl _ _) | (with_reducible assumption) | (with_reducible refine Ext.below _ ?_ ?_) | (with_reducible refine Below.on ?_ (by with_reducible assumption) ?_) | (with_reducible refine Below.alloc ?_ ?_ _) | (with_reducible refine Below.drew ?_) | (with_reducible refine Below.setCell ?_ ?_ _) | (with_reducible exact Nat.le_refl _) | omega | (simp; done) | (simp [go_sem]; done) | (simp at *; omega))))) | (go_at_call 12; with_reducible exact Calls.ext (ca _)))) | quiet_step ((first | (go_at_call 16; with_reducible exact Calls.ext (cb _ (by repeat' (first | (with_reducible exact Below.refl _ _) | (with_reducible assumption) | (with_reducible refine Ext.below _ ?_ ?_) | (with_reducible refine Below.on ?_ (by with_reducible assumption) ?_) | (with_reducible refine Below.alloc ?_ ?_ _) | (with_reducible refine Below.drew ?_) | (with_reducible refine Below.setCell ?_ ?_ _) | (with_reducible exact Nat.le_refl _) | omega | (simp; done) | (simp [go_sem]; done) | (simp at *; omega))))) | (go_at_call 12; with_reducible exact Calls.ext (ca _)))))); refine wpQuiet_nil ?_; rintro _ ⟨yr, rfl⟩; have syr := Ext.size yr; (repeat (first | rw [World.size_alloc] at syr | rw [World.size_setCell] at syr | rw [World.size_drew] at syr))) | (go_at_call 16; (first | with_reducible refine (Calls.giv2 (cb _ (by repeat' (first | (with_reducible exact Below.refl _ _) | (with_reducible assumption) | (with_reducible refine Ext.below _ ?_ ?_) | (with_reducible refine Below.on ?_ (by with_reducible assumption) ?_) | (with_reducible refine Below.alloc ?_ ?_ _) | (with_reducible refine Below.drew ?_) | (with_reducible refine Below.setCell ?_ ?_ _) | (with_reducible exact Nat.le_refl _) | omega | (simp; done) | (simp [go_sem]; done) | (simp at *; omega))))).mono ?_ | with_reducible refine (Calls.giv (cb _ (by repeat' (first | (with_reducible exact Below.refl _ _) | (with_reducible assumption) | (with_reducible refine Ext.below _ ?_ ?_) | (with_reducible refine Below.on ?_ (by with_reducible assumption) ?_) | (with_reducible refine Below.alloc ?_ ?_ _) | (with_reducible refine Below.drew ?_) | (with_reducible refine Below.setCell ?_ ?_ _) | (with_reducible exact Nat.le_refl _) | omega | (simp; done) | (simp [go_sem]; done) | (simp at *; omega))))).mono ?_); rintro _ _ ⟨y1, rfl, rfl⟩; have sy1 := Ext.size y1; (repeat (first | rw [World.size_alloc] at sy1 | rw [World.size_setCell] at sy1 | rw [World.size_drew] at sy1))) | (go_at_call 12; (first | with_reducible refine (Calls.giv2 (ca _)).mono ?_ | with_reducible refine (Calls.giv (ca _)).mono ?_); rintro _ _ ⟨y2, rfl, rfl⟩; have sy2 := Ext.size y2; (repeat (first | rw [World.size_alloc] at sy2 | rw [World.size_setCell] at sy2 | rw [World.size_drew] at sy2))))
    go_returns
    refine ⟨rfl, ?_⟩
    repeat' (first | (with_reducible exact Below.refl _ _) | (with_reducible assumption) | (with_reducible refine Ext.below _ ?_ ?_) | (with_reducible refine Below.on ?_ (by with_reducible assumption) ?_) | (with_reducible refine Below.alloc ?_ ?_ _) | (with_reducible refine Below.drew ?_) | (with_reducible refine Below.setCell ?_ ?_ _) | (with_reducible exact Nat.le_refl _) | omega | (simp; done) | (simp [go_sem]; done) | (simp at *; omega))
  have hsm := Go.Lib.hid (hsm (hbg rfl))
  clear hbg
  unfold GsPost at c1 c2
  simp only at c1 c2
  go_enter Try.func7, Try.ntmps7
  go_wp2_with (first | ((with_reducible refine wp_region_ext (by kernel_rfl) (by kernel_rfl) ?_); (repeat (first | go_big_quiet_step ((first | (go_at_call 16; with_reducible exact Calls.ext (cb _ (by repeat' (first | (with_reducible exact Below.refl _ _) | (with_reducible assumption) | (with_reducible refine Ext.below _ ?_ ?_) | (with_reducible refine Below.on ?_ (by with_reducible assumption) ?_) | (with_reducible refine Below.alloc ?_ ?_ _) | (with_reducible refine Below.drew ?_) | (with_reducible refine Below.setCell ?_ ?_ _) | (with_reducible exact Nat.le_refl _) | omega | (simp; done) | (simp [go_sem]; done) | (simp at *; omega))))))) | quiet_step ((first | (go_at_call 16; with_reducible exact Calls.ext (cb _ (by repeat' (first | (with_reducible exact Below.refl _ _) | (with_reducible assumption) | (with_reducible refine Ext.below _ ?_ ?_) | (with_reducible refine Below.on ?_ (by with_reducible assumption) ?_) | (with_reducible refine Below.alloc ?_ ?_ _) | (with_reducible refine Below.drew ?_) | (with_reducible refine Below.setCell ?_ ?_ _) | (with_reducible exact Nat.le_refl _) | omega | (simp; done) | (simp [go_sem]; done) | (simp at *; omega))))))))); refine wpQuiet_nil ?_; rintro _ ⟨yr, rfl⟩; have syr := Ext.size yr; (repeat (first | rw [World.size_alloc] at syr | rw [World.size_setCell] at syr | rw [World.size_drew] at syr)); have : w.heap.size < yr.now.heap.size := (by omega); have : w.heap.size ≤ yr.now.heap.size := (by omega); have : w.heap.size < yr.now.heap.size + 1 + 1 := (by omega)) | (go_at_call 16; with_reducible refine (Calls.giv (cb _ (by repeat' (first | (with_reducible exact Below.refl _ _) | (with_reducible assumption) | (with_reducible refine Ext.below _ ?_ ?_) | (with_reducible refine Below.on ?_ (by with_reducible assumption) ?_) | (with_reducible refine Below.alloc ?_ ?_ _) | (with_reducible refine Below.drew ?_) | (with_reducible refine Below.setCell ?_ ?_ _) | (with_reducible exact Nat.le_refl _) | omega | (simp; done) | (simp [go_sem]; done) | (simp at *; omega))))).mono ?_; rintro _ _ ⟨y1, rfl, rfl⟩; have sy1 := Ext.size y1; (repeat (first | rw [World.size_alloc] at sy1 | rw [World.size_setCell] at sy1 | rw [World.size_drew] at sy1)); have : w.heap.size < y1.now.heap.size := (by omega); have : w.heap.size ≤ y1.now.heap.size := (by omega); have : w.heap.size < y1.now.heap.size + 1 + 1 := (by omega)) | (go_at_call 15; go_loud (refine (c1 _ (by repeat' (first | (with_reducible exact Below.refl _ _) | (with_reducible assumption) | (with_reducible refine Ext.below _ ?_ ?_) | (with_reducible refine Below.on ?_ (by with_reducible assumption) ?_) | (with_reducible refine Below.alloc ?_ ?_ _) | (with_reducible refine Below.drew ?_) | (with_reducible refine Below.setCell ?_ ?_ _) | (with_reducible exact Nat.le_refl _) | omega | (simp; done) | (simp [go_sem]; done) | (simp at *; omega)))).mono ?_; rintro _ W4 ⟨hb4, v4, fa, rfl, hR4, hfa⟩; have yw4 : Below w.heap.size w W4 := (by refine Below.on ?_ hb4 (by first | omega | (simp only [World.size_alloc]; omega)); repeat' (first | (with_reducible exact Below.refl _ _) | (with_reducible assumption) | (with_reducible refine Ext.below _ ?_ ?_) | (with_reducible refine Below.on ?_ (by with_reducible assumption) ?_) | (with_reducible refine Below.alloc ?_ ?_ _) | (with_reducible refine Below.drew ?_) | (with_reducible refine Below.setCell ?_ ?_ _) | (with_reducible exact Nat.le_refl _) | omega | (simp; done) | (simp [go_sem]; done) | (simp at *; omega))); obtain ⟨p4, d4, rfl⟩ := hR4.form; have hI4 := hR4.at; have g0 : W4.cell? ⟨w.heap.size, 0, none⟩ = some (.slice n5 n4 n6) := ((hb4.cell (p := ⟨w.heap.size, 0, none⟩) (by first | omega | (simp; omega))).trans (by simp [go_sem])); have g1 : W4.cell? ⟨w.heap.size, 1, none⟩ = some (.int .i64 n0) := ((hb4.cell (p := ⟨w.heap.size, 1, none⟩) (by first | omega | (simp; omega))).trans (by simp [go_sem])); have g2 : W4.cell? ⟨w.heap.size, 2, none⟩ = some (.slice n8 n7 n9) := ((hb4.cell (p := ⟨w.heap.size, 2, none⟩) (by first | omega | (simp; omega))).trans (by simp [go_sem])); have g3 : W4.cell? ⟨w.heap.size, 3, none⟩ = some (.slice n2 n1 n3) := ((hb4.cell (p := ⟨w.heap.size, 3, none⟩) (by first | omega | (simp; omega))).trans (by simp [go_sem])); have hw4 := yw4.size; have hfl := owns_max hR4.l; clear c1 hR4)) | (go_at_call 19; go_loud (refine (c2 W4 yw4).mono ?_; rintro _ W5 ⟨hb5, v5, fb, rfl, hR5, hfb⟩; have yw5 : Below w.heap.size w W5 := (yw4.trans (hb5.mono (by omega))); obtain ⟨p5, d5, rfl⟩ := hR5.form; have hI5 := Go.Lib.hid hR5.at; have hI45 := Go.Lib.hid (hI4.on hb5); have hw5 := yw5.size; have hlen : fb.length = fa.length := (by have h1 := congrArg List.length hfa; have h2 := congrArg List.length hfb; simp only [List.length_map] at h1 h2; omega); rw [hlen]; replace hlen := Go.Lib.hid hlen; clear c2 hR5 g0 g1 g2 g3)))
  have hfa := Go.Lib.hid hfa
  have hfb := Go.Lib.hid hfb
  clear hI4 hb4 hb5 yw4 cb
  go_loopw [13] (fun u W => ∃ (i : Nat) (x : Ext W5), u = .int .i64 i ∧ W = x.now ∧ Hid (i ≤ fa.length)) (fun u _ => fa.length - (intOf u).toNat)
  case atStart => exact ⟨0, ⟨W5, Below.refl _ _⟩, rfl, rfl, Go.Lib.hid (Nat.zero_le _)⟩
  case round =>
    obtain ⟨i, x, rfl, rfl, hi⟩ := hrel
    have xs := x.size
    have hwx : w.heap.size ≤ x.now.heap.size := by omega
    have hbx := x.below yw5 (by omega)
    by_cases hlt : i < fa.length
    · have hlt2 : (i : Int) < fa.length := by omega
      have hi63 : i < 9223372036854775807 := by unfold maxLen at hfl; omega
      have hlb : i < fb.length := by rw [hlen.out]; exact hlt
      have eA : fa[i].l = rl[i]'(by have h := hfa.out; subst h; simpa using hlt) := by have h := hfa.out; subst h; simp
      have eB : fb[i].l = fa[i].l := by
        have h1 : (fb.map IR.l)[i]? = (fa.map IR.l)[i]? := by rw [hfa.out, hfb.out]
        rw [List.getElem?_map, List.getElem?_map, List.getElem?_eq_getElem hlt, List.getElem?_eq_getElem hlb] at h1
        simpa using h1
      have hm : fa[i].l.length ≤ 1048576 := hsm.out _ (by rw [eA]; exact List.getElem_mem _)
      obtain ⟨hPa, BA, oA, rfl, hBA, ra⟩ := hI45.out i hlt
      obtain ⟨hPb, BB, oB, rfl, hBB, rb⟩ := hI5.out i hlb
      rw [eB] at hPb rb
      have cs := fun (W : World) (y : Below W5.heap.size W5 W) => SameInts_any fa[i].p fb[i].p fa[i].c fb[i].c fa[i].l fa[i].l W hm (hPa.on y) (hPb.on y)
      simp only [sameB_self] at cs
      have : BA < (x.now).heap.size := (by omega); have : BA < (x.now).heap.size + 1 := (by omega); have : BA < (x.now).heap.size + 1 + 1 := (by omega); have : BA ≠ (x.now).heap.size := (by omega); have : BA ≠ (x.now).heap.size + 1 := (by omega)
      have : BB < (x.now).heap.size := (by omega); have : BB < (x.now).heap.size + 1 := (by omega); have : BB < (x.now).heap.size + 1 + 1 := (by omega); have : BB ≠ (x.now).heap.size := (by omega); have : BB ≠ (x.now).heap.size + 1 := (by omega)
      clear hi eA eB hm hPa hPb
      generalize fa[i].l.length = xl at *
      generalize fa[i].p = xp at *
      generalize fa[i].c = xc at *
      generalize fb[i].p = yp at *
      generalize fb[i].c = yc at *
      go_wp2_with (first | ((first | with_reducible refine wp_region_ext2 (by kernel_rfl) (by kernel_rfl) ?_ | with_reducible refine wp_region_ext (by kernel_rfl) (by kernel_rfl) ?_); (repeat (first | go_big_quiet_step ((first | (go_at_call 18; with_reducible exact Calls.ext (cs _ (by repeat' (first | (with_reducible exact Below.refl _ _) | (with_reducible assumption) | (with_reducible refine Ext.below _ ?_ ?_) | (with_reducible refine Below.on ?_ (by with_reducible assumption) ?_) | (with_reducible refine Below.alloc ?_ ?_ _) | (with_reducible refine Below.drew ?_) | (with_reducible refine Below.setCell ?_ ?_ _) | (with_reducible exact Nat.le_refl _) | omega | (simp; done) | (simp [go_sem]; done) | (simp at *; omega))))))) | quiet_step ((first | (go_at_call 18; with_reducible exact Calls.ext (cs _ (by repeat' (first | (with_reducible exact Below.refl _ _) | (with_reducible assumption) | (with_reducible refine Ext.below _ ?_ ?_) | (with_reducible refine Below.on ?_ (by with_reducible assumption) ?_) | (with_reducible refine Below.alloc ?_ ?_ _) | (with_reducible refine Below.drew ?_) | (with_reducible refine Below.setCell ?_ ?_ _) | (with_reducible exact Nat.le_refl _) | omega | (simp; done) | (simp [go_sem]; done) | (simp at *; omega))))))))); refine wpQuiet_nil ?_; rintro _ ⟨yr, rfl⟩; have syr := Ext.size yr; (repeat (first | rw [World.size_alloc] at syr | rw [World.size_setCell] at syr | rw [World.size_drew] at syr)); have : BA < yr.now.heap.size := (by omega); have : BA ≤ yr.now.heap.size := (by omega); have : BA < yr.now.heap.size + 1 + 1 := (by omega); have : BB < yr.now.heap.size := (by omega); have : BB ≤ yr.now.heap.size := (by omega); have : BB < yr.now.heap.size + 1 + 1 := (by omega)) | (go_at_call 18; (first | with_reducible refine (Calls.giv2 (cs _ (by repeat' (first | (with_reducible exact Below.refl _ _) | (with_reducible assumption) | (with_reducible refine Ext.below _ ?_ ?_) | (with_reducible refine Below.on ?_ (by with_reducible assumption) ?_) | (with_reducible refine Below.alloc ?_ ?_ _) | (with_reducible refine Below.drew ?_) | (with_reducible refine Below.setCell ?_ ?_ _) | (with_reducible exact Nat.le_refl _) | omega | (simp; done) | (simp [go_sem]; done) | (simp at *; omega))))).mono ?_ | with_reducible refine (Calls.giv (cs _ (by repeat' (first | (with_reducible exact Below.refl _ _) | (with_reducible assumption) | (with_reducible refine Ext.below _ ?_ ?_) | (with_reducible refine Below.on ?_ (by with_reducible assumption) ?_) | (with_reducible refine Below.alloc ?_ ?_ _) | (with_reducible refine Below.drew ?_) | (with_reducible refine Below.setCell ?_ ?_ _) | (with_reducible exact Nat.le_refl _) | omega | (simp; done) | (simp [go_sem]; done) | (simp at *; omega))))).mono ?_); rintro _ _ ⟨y1, rfl, rfl⟩; have sy1 := Ext.size y1; (repeat (first | rw [World.size_alloc] at sy1 | rw [World.size_setCell] at sy1 | rw [World.size_drew] at sy1)); have : BA < y1.now.heap.size := (by omega); have : BA ≤ y1.now.heap.size := (by omega); have : BA < y1.now.heap.size + 1 + 1 := (by omega); have : BB < y1.now.heap.size := (by omega); have : BB ≤ y1.now.heap.size := (by omega); have : BB < y1.now.heap.size + 1 + 1 := (by omega)))
      refine ⟨⟨i + 1, ⟨_, ?_⟩, by simp, rfl, Go.Lib.hid hlt⟩, by simp [intOf]; omega⟩
      repeat' (first | (with_reducible exact Below.refl _ _) | (with_reducible assumption) | (with_reducible refine Ext.below _ ?_ ?_) | (with_reducible refine Below.on ?_ (by with_reducible assumption) ?_) | (with_reducible refine Below.alloc ?_ ?_ _) | (with_reducible refine Below.drew ?_) | (with_reducible refine Below.setCell ?_ ?_ _) | (with_reducible exact Nat.le_refl _) | omega | (simp; done) | (simp [go_sem]; done) | (simp at *; omega))
    · have hge : ¬ (i : Int) < fa.length := by omega
      clear hi
      go_wp2_with (first | ((first | with_reducible refine wp_region_ext2 (by kernel_rfl) (by kernel_rfl) ?_ | with_reducible refine wp_region_ext (by kernel_rfl) (by kernel_rfl) ?_); (repeat (first | go_big_quiet_step ((first | (go_at_call 12; with_reducible exact Calls.ext (ca _)))) | quiet_step ((first | (go_at_call 12; with_reducible exact Calls.ext (ca _)))))); refine wpQuiet_nil ?_; rintro _ ⟨yr, rfl⟩; have syr := Ext.size yr; (repeat (first | rw [World.size_alloc] at syr | rw [World.size_setCell] at syr | rw [World.size_drew] at syr))) | (go_at_call 12; (first | with_reducible refine (Calls.giv2 (ca _)).mono ?_ | with_reducible refine (Calls.giv (ca _)).mono ?_); rintro _ _ ⟨y1, rfl, rfl⟩; have sy1 := Ext.size y1; (repeat (first | rw [World.size_alloc] at sy1 | rw [World.size_setCell] at sy1 | rw [World.size_drew] at sy1))))
      go_returns
      refine ⟨rfl, ?_⟩
      repeat' (first | (with_reducible exact Below.refl _ _) | (with_reducible assumption) | (with_reducible refine Ext.below _ ?_ ?_) | (with_reducible refine Below.on ?_ (by with_reducible assumption) ?_) | (with_reducible refine Below.alloc ?_ ?_ _) | (with_reducible refine Below.drew ?_) | (with_reducible refine Below.setCell ?_ ?_ _) | (with_reducible exact Nat.le_refl _) | omega | (simp; done) | (simp [go_sem]; done) | (simp at *; omega))
set_option maxRecDepth 100000 in
theorem SkyGroups_lifted (os : Os) (started : os.Started) (H : Type) (enc : TypeId × Value → H) :
    ReturnsInHanded {} Try.checked os 7 .any (Rows.skyGroupsSpec.pre6 enc Try.prog Try.f7 Rows.skyGroupsRow.domain false) (Rows.skyGroupsSpec.post enc Try.prog Try.f7 false true false false) := by
  refine returnsInHanded_of_change (C := Try.checked) own started (by kernel_rfl) Try.func7
    (ChangeSpec.witness6 (enc := enc) (C := Try.checked) false ⟨#[], #[.agg #[.slice none 0 0, .int .i64 0, .slice none 0 0, .slice none 0 0], .slice none 0 0, .slice none 0 0, .int .i64 0], []⟩ 8 (by kernel_rfl) (by kernel_rfl) (by kernel_rfl) (by kernel_rfl)) ?_
  intro W base args ds gs before hval0 hW _ _
  have hval : ∀ (j : Nat) t v, Try.f7.params[j]? = some t → args[j]? = some v → Value.okWide Try.prog W .any base t v := hval0
  have hW' := hW
  obtain ⟨p, q, hA0, hV, _, _, _⟩ := hW
  have hA : DataW.TrodAll enc Try.prog W 0 (fun _ => true) true Try.f7.params.toList args.toList ds p := hA0
  rw [Try.params7] at hA hval
  obtain ⟨v0, vs0, d0, ds0, p0, q0, hargs0, rfl, _, h0, r0⟩ := trodAll_cons hA
  obtain ⟨v1, vs1, d1, ds1, p1, q1, hargs1, rfl, _, h1, r1⟩ := trodAll_cons r0
  obtain ⟨v2, vs2, d2, ds2, p2, q2, hargs2, rfl, _, h2, r2⟩ := trodAll_cons r1
  obtain ⟨v3, vs3, d3, ds3, p3, q3, hargs3, rfl, _, h3, r3⟩ := trodAll_cons r2
  obtain ⟨hlast, rfl, _⟩ := trodAll_nil r3
  subst hlast
  subst hargs3
  subst hargs2
  subst hargs1
  obtain rfl : args = #[v0, v1, v2, v3] := by cases args; simp_all
  obtain ⟨rfl, rfl⟩ := trodVars_none hV
  obtain ⟨s0, rfl, hi0⟩ := open_sky (hval 0 29 v0 rfl rfl) h0
  obtain ⟨mp1, mc1, ml1, rfl, hi1⟩ := open_trsV (hval 1 30 v1 rfl rfl) h1
  obtain ⟨gp2, gc2, gl2, rfl, hi2⟩ := open_statesV (hval 2 31 v2 rfl rfl) h2
  obtain ⟨x3, rfl, hi3⟩ := open_num (P := Try.prog) Try.underlying2 (hval 3 2 v3 rfl rfl)
  exact (SkyGroups_any s0 mp1 mc1 ml1 gp2 gc2 gl2 x3 W hi0 hi1 hi2 hi3).mono fun e W' h => law_post laid_out (by rw [Try.params7]; intro t ht; simp only [List.mem_cons, List.not_mem_nil, or_false] at ht; rcases ht with rfl | rfl | rfl | rfl | rfl | rfl | rfl | rfl; all_goals exact ⟨by kernel_rfl, by decide +kernel⟩) rfl rfl Try.underlying4 hW' rfl h
/-- The statement. -/
theorem SkyGroups_holds : Rows.SkyGroupsSaid :=
  OpenClaim.holds_of_wide 7 Try.f7 rfl rfl rfl rfl rfl rfl rfl ⟨rfl, rfl, rfl, rfl, rfl⟩ rfl rfl rfl rfl rfl (by kernel_rfl) Try.func7 (by kernel_rfl)
    (of_decide_eq_true (by kernel_rfl)) (by unfold Func.isWrapper; first | (rw [if_pos (by decide +kernel)]; kernel_rfl) | (rw [if_neg (by decide +kernel)]; exact ⟨rfl, rfl⟩))
    (fun os started H enc _ => SkyGroups_lifted os started H enc)
end Go.Proofs.Ytgoilmiiegpnoaa

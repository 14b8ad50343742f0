/- SkyLinks: which tracklets are linked, and the reasons why not, is what the reference says. Condition: none beyond the statement's own. -/
import Derived.Test.YtehaonlndfjpfaaSkyRl
import Derived.Test.YtehaonlndfjpfaaSkyRk
import Derived.Test.YtehaonlndfjpfaaSkyU
import Derived.Test.YtehaonlndfjpfaaOpen
namespace Go.Proofs.Ytehaonlndfjpfaa
open Go.RowKit Go.Shelf Go.ChangeShapes Go.WideShapes Go.ChangeAt Go.Joins
attribute [local go_sem] Option.isSome_some Ext.cell Ext.frozen Ext.lt Ext.le Ext.lt_add Ext.le_add Ext.ne Ext.ne' lt2 lt3 lt4 lt5 le2 le3 le4
theorem SkyR.Fits.big {s : SkyR} (h : s.Fits) : s.bodies.length < 9223372036854775808 ∧ (∀ b ∈ s.bodies, b.track.length < 9223372036854775808) ∧ s.sts.length < 9223372036854775808 ∧ s.cats.length < 9223372036854775808 := ⟨h.fb, h.ft, h.fs, h.fc⟩
theorem linkA_len {t : Int} {both : List LookR} : ∀ (gs : List StateR) (acc : List Int) (i : Nat), (linkA t both acc i gs).2.length ≤ acc.length + gs.length := by
  intro gs
  induction gs with
  | nil => intro acc i; rw [linkA]; simp
  | cons g gs ih =>
    intro acc i
    rw [linkA]
    split
    · simp
    · rename_i m ms _
      have := ih (acc ++ [m]) (i + 1)
      simp at this ⊢; omega
theorem linkR_len (s : SkyR) (a b : List SightR) (gs : List StateR) (t : Int) : (linkR s a b gs t).l.length ≤ gs.length := by
  unfold linkR
  split
  · split
    · have := linkA_len (t := t) (both := ‹List LookR› ++ ‹List LookR›) gs [] 0
      rename_i x y _ _
      have := linkA_len (t := t) (both := x ++ y) gs [] 0
      simpa using this
    · simp
  · simp
  · simp
theorem track2_new (W W0 : World) (b : Below W0.heap.size W0 W) (t u : TrR) (h : SightsAt W0 t.p t.l) (h' : SightsAt W0 u.p u.l) (T : TypeId) (B : Nat) (hB : B = W.heap.size) : TracksAt (W.alloc (.cells #[.slice t.p t.l.length t.c, .slice u.p u.l.length u.c] T)) (some ⟨B, 0, none⟩) [t, u] := by
  subst hB
  intro j hj
  rcases (show j = 0 ∨ j = 1 by simp only [List.length_cons, List.length_nil] at hj; omega) with rfl | rfl
  · exact ⟨(h.on b).on ((Below.refl _ W).alloc (Nat.le_refl _) _), W.heap.size, 0, rfl, by simp, by simp [go_sem]⟩
  · exact ⟨(h'.on b).on ((Below.refl _ W).alloc (Nat.le_refl _) _), W.heap.size, 0, rfl, by simp, by simp [go_sem]⟩
theorem bigB_n {s : SkyR} {n : Nat} {ts : List TrR} (h : bigB s n ts = false) : n ≤ 66 := by
  unfold bigB at h
  simp only [Bool.or_eq_false_iff, decide_eq_false_iff_not] at h
  omega
set_option maxRecDepth 100000 in
set_option maxHeartbeats 16000000 in
theorem SkyLinks_any (s : SkyR) (t u : TrR) (gp : Option Addr) (gc : Nat) (gl : List StateR) (n : Int) (w : World) (hs : s.At w ∧ s.Fits) (ht : t.l.length < 9223372036854775808 ∧ SightsAt w t.p t.l) (hu : u.l.length < 9223372036854775808 ∧ SightsAt w u.p u.l) (hg : gl.length < 9223372036854775808 ∧ StatesAt w gp gl) (_h4 : I64 n) :
    Calls Try.prog 4 #[s.val, .slice t.p t.l.length t.c, .slice u.p u.l.length u.c, .slice gp gl.length gc, .int .i64 n] w (Gives (.bool true) w) := by
  have cb := fun (W : World) (p : Option Addr) (y : Below w.heap.size w W) (h : TracksAt W p [t, u]) => big_any s gp gl.length gc p 2 [t, u] W hs.2.big (hs.1.on y) h
  have c1 := fun (W : World) (y : Below w.heap.size w W) => Link_any s t.p u.p gp t.c u.c gc t.l u.l gl n W (hs.1.on y) (ht.2.on y) (hu.2.on y) (hg.2.on y)
  have c2 := fun (W : World) (y : Below w.heap.size w W) => refLink_any s t.p u.p gp t.c u.c gc t.l u.l gl n W (hs.1.on y) (ht.2.on y) (hu.2.on y) (hg.2.on y)
  have ca := fun W => skyAwake_any W
  have ct := fun (W : World) (y : Below w.heap.size w W) T B hB => track2_new W w y t u ht.2 hu.2 T B hB
  have hl := linkR_len s t.l u.l gl n
  have hb := fun h => bigB_n (s := s) (n := gl.length) (ts := [t, u]) h
  simp only [List.length_cons, List.length_nil, Nat.zero_add, Nat.reduceAdd] at cb
  clear _h4 hs ht hu hg
  generalize linkR s t.l u.l gl n = r at *
  generalize bigB s gl.length [t, u] = g at *
  generalize t.l.length = lt' at *
  generalize u.l.length = lu at *
  generalize gl.length = lg at *
  unfold SkyR.val at *
  (try simp only at *)
  generalize s.cats.length = n1 at *; generalize s.cp = n2 at *; generalize s.cc = n3 at *; generalize s.bodies.length = n4 at *; generalize s.bp = n5 at *; generalize s.bc = n6 at *; generalize s.sts.length = n7 at *; generalize s.sp = n8 at *; generalize s.sc = n9 at *; generalize s.home = n0 at *
  have cs := fun (p q : Option Addr) (c d : Nat) (W : World) (hl : r.l.length ≤ 1048576) (hP : IntsAt W p r.l) (hQ : IntsAt W q r.l) => SameInts_any p q c d r.l r.l W hl hP hQ
  simp only [sameB_self] at cs
  obtain ⟨rn, rl, re⟩ := r
  simp only at *
  have hee : (re == re) = true := by simp
  have hmm : (rn == rn) = true := by simp
  have ct := Go.Lib.hid ct
  cases g
  case true =>
    clear c1 c2 cs hl hb
    go_enter Try.func4, Try.ntmps4
    go_wp2_with (first | ((first | with_reducible refine wp_region_ext2 (by kernel_rfl) (by kernel_rfl) ?_ | with_reducible refine wp_region_ext (by kernel_rfl) (by kernel_rfl) ?_); (repeat (first | go_big_quiet_step ((first | (go_at_call 10; with_reducible exact Calls.ext (cb _ _ (by repeat' (first | (with_reducible exact Below.refl _ _) | (with_reducible assumption) | (with_reducible refine Ext.below _ ?_ ?_) | (with_reducible refine Below.on ?_ (by with_reducible assumption) ?_) | (with_reducible refine Below.alloc ?_ ?_ _) | (with_reducible refine Below.drew ?_) | (with_reducible refine Below.setCell ?_ ?_ _) | (with_reducible exact Nat.le_refl _) | omega | (simp; done) | (simp [go_sem]; done) | (simp at *; omega))) (ct.out _ (by repeat' (first | (with_reducible exact Below.refl _ _) | (with_reducible assumption) | (with_reducible refine Ext.below _ ?_ ?_) | (with_reducible refine Below.on ?_ (by with_reducible assumption) ?_) | (with_reducible refine Below.alloc ?_ ?_ _) | (with_reducible refine Below.drew ?_) | (with_reducible refine Below.setCell ?_ ?_ _) | (with_reducible exact Nat.le_refl _) | omega | (simp; done) | (simp [go_sem]; done) | (simp at *; omega))) _ _ (by simp)))) | (go_at_call 11; with_reducible exact Calls.ext (ca _)))) | quiet_step ((first | (go_at_call 10; with_reducible exact Calls.ext (cb _ _ (by repeat' (first | (with_reducible exact Below.refl _ _) | (with_reducible assumption) | (with_reducible refine Ext.below _ ?_ ?_) | (with_reducible refine Below.on ?_ (by with_reducible assumption) ?_) | (with_reducible refine Below.alloc ?_ ?_ _) | (with_reducible refine Below.drew ?_) | (with_reducible refine Below.setCell ?_ ?_ _) | (with_reducible exact Nat.le_refl _) | omega | (simp; done) | (simp [go_sem]; done) | (simp at *; omega))) (ct.out _ (by repeat' (first | (with_reducible exact Below.refl _ _) | (with_reducible assumption) | (with_reducible refine Ext.below _ ?_ ?_) | (with_reducible refine Below.on ?_ (by with_reducible assumption) ?_) | (with_reducible refine Below.alloc ?_ ?_ _) | (with_reducible refine Below.drew ?_) | (with_reducible refine Below.setCell ?_ ?_ _) | (with_reducible exact Nat.le_refl _) | omega | (simp; done) | (simp [go_sem]; done) | (simp at *; omega))) _ _ (by simp)))) | (go_at_call 11; with_reducible exact Calls.ext (ca _)))))); refine wpQuiet_nil ?_; rintro _ ⟨yr, rfl⟩; have syr := Ext.size yr; (repeat (first | rw [World.size_alloc] at syr | rw [World.size_setCell] at syr | rw [World.size_drew] at syr))) | (go_at_call 10; (first | with_reducible refine (Calls.giv2 (cb _ _ (by repeat' (first | (with_reducible exact Below.refl _ _) | (with_reducible assumption) | (with_reducible refine Ext.below _ ?_ ?_) | (with_reducible refine Below.on ?_ (by with_reducible assumption) ?_) | (with_reducible refine Below.alloc ?_ ?_ _) | (with_reducible refine Below.drew ?_) | (with_reducible refine Below.setCell ?_ ?_ _) | (with_reducible exact Nat.le_refl _) | omega | (simp; done) | (simp [go_sem]; done) | (simp at *; omega))) (ct.out _ (by repeat' (first | (with_reducible exact Below.refl _ _) | (with_reducible assumption) | (with_reducible refine Ext.below _ ?_ ?_) | (with_reducible refine Below.on ?_ (by with_reducible assumption) ?_) | (with_reducible refine Below.alloc ?_ ?_ _) | (with_reducible refine Below.drew ?_) | (with_reducible refine Below.setCell ?_ ?_ _) | (with_reducible exact Nat.le_refl _) | omega | (simp; done) | (simp [go_sem]; done) | (simp at *; omega))) _ _ (by simp)))).mono ?_ | with_reducible refine (Calls.giv (cb _ _ (by repeat' (first | (with_reducible exact Below.refl _ _) | (with_reducible assumption) | (with_reducible refine Ext.below _ ?_ ?_) | (with_reducible refine Below.on ?_ (by with_reducible assumption) ?_) | (with_reducible refine Below.alloc ?_ ?_ _) | (with_reducible refine Below.drew ?_) | (with_reducible refine Below.setCell ?_ ?_ _) | (with_reducible exact Nat.le_refl _) | omega | (simp; done) | (simp [go_sem]; done) | (simp at *; omega))) (ct.out _ (by repeat' (first | (with_reducible exact Below.refl _ _) | (with_reducible assumption) | (with_reducible refine Ext.below _ ?_ ?_) | (with_reducible refine Below.on ?_ (by with_reducible assumption) ?_) | (with_reducible refine Below.alloc ?_ ?_ _) | (with_reducible refine Below.drew ?_) | (with_reducible refine Below.setCell ?_ ?_ _) | (with_reducible exact Nat.le_refl _) | omega | (simp; done) | (simp [go_sem]; done) | (simp at *; omega))) _ _ (by simp)))).mono ?_); rintro _ _ ⟨y1, rfl, rfl⟩; have sy1 := Ext.size y1; (repeat (first | rw [World.size_alloc] at sy1 | rw [World.size_setCell] at sy1 | rw [World.size_drew] at sy1))) | (go_at_call 11; (first | with_reducible refine (Calls.giv2 (ca _)).mono ?_ | with_reducible refine (Calls.giv (ca _)).mono ?_); rintro _ _ ⟨y2, rfl, rfl⟩; have sy2 := Ext.size y2; (repeat (first | rw [World.size_alloc] at sy2 | rw [World.size_setCell] at sy2 | rw [World.size_drew] at sy2))))
    go_returns
    refine ⟨rfl, ?_⟩
    repeat' (first | (with_reducible exact Below.refl _ _) | (with_reducible assumption) | (with_reducible refine Ext.below _ ?_ ?_) | (with_reducible refine Below.on ?_ (by with_reducible assumption) ?_) | (with_reducible refine Below.alloc ?_ ?_ _) | (with_reducible refine Below.drew ?_) | (with_reducible refine Below.setCell ?_ ?_ _) | (with_reducible exact Nat.le_refl _) | omega | (simp; done) | (simp [go_sem]; done) | (simp at *; omega))
  have hl : rl.length ≤ 1048576 := by have := hb rfl; omega
  clear hb
  replace cs := fun p q c d W hP hQ => cs p q c d W hl hP hQ
  unfold LinkPost at c1 c2
  (try simp only at c1 c2)
  go_enter Try.func4, Try.ntmps4
  go_wp2_with (first | ((first | with_reducible refine wp_region_ext2 (by kernel_rfl) (by kernel_rfl) ?_ | with_reducible refine wp_region_ext (by kernel_rfl) (by kernel_rfl) ?_); (repeat (first | go_big_quiet_step ((first | (go_at_call 10; with_reducible exact Calls.ext (cb _ _ (by repeat' (first | (with_reducible exact Below.refl _ _) | (with_reducible assumption) | (with_reducible refine Ext.below _ ?_ ?_) | (with_reducible refine Below.on ?_ (by with_reducible assumption) ?_) | (with_reducible refine Below.alloc ?_ ?_ _) | (with_reducible refine Below.drew ?_) | (with_reducible refine Below.setCell ?_ ?_ _) | (with_reducible exact Nat.le_refl _) | omega | (simp; done) | (simp [go_sem]; done) | (simp at *; omega))) (ct.out _ (by repeat' (first | (with_reducible exact Below.refl _ _) | (with_reducible assumption) | (with_reducible refine Ext.below _ ?_ ?_) | (with_reducible refine Below.on ?_ (by with_reducible assumption) ?_) | (with_reducible refine Below.alloc ?_ ?_ _) | (with_reducible refine Below.drew ?_) | (with_reducible refine Below.setCell ?_ ?_ _) | (with_reducible exact Nat.le_refl _) | omega | (simp; done) | (simp [go_sem]; done) | (simp at *; omega))) _ _ (by simp)))) | (go_at_call 11; with_reducible exact Calls.ext (ca _)))) | quiet_step ((first | (go_at_call 10; with_reducible exact Calls.ext (cb _ _ (by repeat' (first | (with_reducible exact Below.refl _ _) | (with_reducible assumption) | (with_reducible refine Ext.below _ ?_ ?_) | (with_reducible refine Below.on ?_ (by with_reducible assumption) ?_) | (with_reducible refine Below.alloc ?_ ?_ _) | (with_reducible refine Below.drew ?_) | (with_reducible refine Below.setCell ?_ ?_ _) | (with_reducible exact Nat.le_refl _) | omega | (simp; done) | (simp [go_sem]; done) | (simp at *; omega))) (ct.out _ (by repeat' (first | (with_reducible exact Below.refl _ _) | (with_reducible assumption) | (with_reducible refine Ext.below _ ?_ ?_) | (with_reducible refine Below.on ?_ (by with_reducible assumption) ?_) | (with_reducible refine Below.alloc ?_ ?_ _) | (with_reducible refine Below.drew ?_) | (with_reducible refine Below.setCell ?_ ?_ _) | (with_reducible exact Nat.le_refl _) | omega | (simp; done) | (simp [go_sem]; done) | (simp at *; omega))) _ _ (by simp)))) | (go_at_call 11; with_reducible exact Calls.ext (ca _)))))); refine wpQuiet_nil ?_; rintro _ ⟨yr, rfl⟩; have syr := Ext.size yr; (repeat (first | rw [World.size_alloc] at syr | rw [World.size_setCell] at syr | rw [World.size_drew] at syr))) | (go_at_call 10; (first | with_reducible refine (Calls.giv2 (cb _ _ (by repeat' (first | (with_reducible exact Below.refl _ _) | (with_reducible assumption) | (with_reducible refine Ext.below _ ?_ ?_) | (with_reducible refine Below.on ?_ (by with_reducible assumption) ?_) | (with_reducible refine Below.alloc ?_ ?_ _) | (with_reducible refine Below.drew ?_) | (with_reducible refine Below.setCell ?_ ?_ _) | (with_reducible exact Nat.le_refl _) | omega | (simp; done) | (simp [go_sem]; done) | (simp at *; omega))) (ct.out _ (by repeat' (first | (with_reducible exact Below.refl _ _) | (with_reducible assumption) | (with_reducible refine Ext.below _ ?_ ?_) | (with_reducible refine Below.on ?_ (by with_reducible assumption) ?_) | (with_reducible refine Below.alloc ?_ ?_ _) | (with_reducible refine Below.drew ?_) | (with_reducible refine Below.setCell ?_ ?_ _) | (with_reducible exact Nat.le_refl _) | omega | (simp; done) | (simp [go_sem]; done) | (simp at *; omega))) _ _ (by simp)))).mono ?_ | with_reducible refine (Calls.giv (cb _ _ (by repeat' (first | (with_reducible exact Below.refl _ _) | (with_reducible assumption) | (with_reducible refine Ext.below _ ?_ ?_) | (with_reducible refine Below.on ?_ (by with_reducible assumption) ?_) | (with_reducible refine Below.alloc ?_ ?_ _) | (with_reducible refine Below.drew ?_) | (with_reducible refine Below.setCell ?_ ?_ _) | (with_reducible exact Nat.le_refl _) | omega | (simp; done) | (simp [go_sem]; done) | (simp at *; omega))) (ct.out _ (by repeat' (first | (with_reducible exact Below.refl _ _) | (with_reducible assumption) | (with_reducible refine Ext.below _ ?_ ?_) | (with_reducible refine Below.on ?_ (by with_reducible assumption) ?_) | (with_reducible refine Below.alloc ?_ ?_ _) | (with_reducible refine Below.drew ?_) | (with_reducible refine Below.setCell ?_ ?_ _) | (with_reducible exact Nat.le_refl _) | omega | (simp; done) | (simp [go_sem]; done) | (simp at *; omega))) _ _ (by simp)))).mono ?_); rintro _ _ ⟨y1, rfl, rfl⟩; have sy1 := Ext.size y1; (repeat (first | rw [World.size_alloc] at sy1 | rw [World.size_setCell] at sy1 | rw [World.size_drew] at sy1))) | (go_at_call 11; (first | with_reducible refine (Calls.giv2 (ca _)).mono ?_ | with_reducible refine (Calls.giv (ca _)).mono ?_); rintro _ _ ⟨y2, rfl, rfl⟩; have sy2 := Ext.size y2; (repeat (first | rw [World.size_alloc] at sy2 | rw [World.size_setCell] at sy2 | rw [World.size_drew] at sy2))) | (go_at_call 16; refine (c1 _ (by repeat' (first | (with_reducible exact Below.refl _ _) | (with_reducible assumption) | (with_reducible refine Ext.below _ ?_ ?_) | (with_reducible refine Below.on ?_ (by with_reducible assumption) ?_) | (with_reducible refine Below.alloc ?_ ?_ _) | (with_reducible refine Below.drew ?_) | (with_reducible refine Below.setCell ?_ ?_ _) | (with_reducible exact Nat.le_refl _) | omega | (simp; done) | (simp [go_sem]; done) | (simp at *; omega)))).mono ?_; rintro _ W3 ⟨hb3, v3, rfl, how3⟩; have hbw3 : Below w.heap.size w W3 := (by refine Below.on ?_ hb3 (by first | omega | (simp only [World.size_alloc]; omega)); repeat' (first | (with_reducible exact Below.refl _ _) | (with_reducible assumption) | (with_reducible refine Ext.below _ ?_ ?_) | (with_reducible refine Below.on ?_ (by with_reducible assumption) ?_) | (with_reducible refine Below.alloc ?_ ?_ _) | (with_reducible refine Below.drew ?_) | (with_reducible refine Below.setCell ?_ ?_ _) | (with_reducible exact Nat.le_refl _) | omega | (simp; done) | (simp [go_sem]; done) | (simp at *; omega))); obtain ⟨p3, d3, rfl, hI3⟩ := owns_ints how3; have e0 : W3.cell? ⟨w.heap.size, 0, none⟩ = some (.slice n5 n4 n6) := ((hb3.cell (p := ⟨w.heap.size, 0, none⟩) (by dsimp only; omega)).trans (by first | (simp; done) | (simp [go_sem]; done))); have e1 : W3.cell? ⟨w.heap.size, 1, none⟩ = some (.int .i64 n0) := ((hb3.cell (p := ⟨w.heap.size, 1, none⟩) (by dsimp only; omega)).trans (by first | (simp; done) | (simp [go_sem]; done))); have e2 : W3.cell? ⟨w.heap.size, 2, none⟩ = some (.slice n8 n7 n9) := ((hb3.cell (p := ⟨w.heap.size, 2, none⟩) (by dsimp only; omega)).trans (by first | (simp; done) | (simp [go_sem]; done))); have e3 : W3.cell? ⟨w.heap.size, 3, none⟩ = some (.slice n2 n1 n3) := ((hb3.cell (p := ⟨w.heap.size, 3, none⟩) (by dsimp only; omega)).trans (by first | (simp; done) | (simp [go_sem]; done))); have le0 : w.heap.size < W3.heap.size := (by have := hb3.size; first | omega | (simp only [World.size_alloc] at this; omega)); clear c1 how3) | (go_at_call 17; refine (c2 _ (by repeat' (first | (with_reducible exact Below.refl _ _) | (with_reducible assumption) | (with_reducible refine Ext.below _ ?_ ?_) | (with_reducible refine Below.on ?_ (by with_reducible assumption) ?_) | (with_reducible refine Below.alloc ?_ ?_ _) | (with_reducible refine Below.drew ?_) | (with_reducible refine Below.setCell ?_ ?_ _) | (with_reducible exact Nat.le_refl _) | omega | (simp; done) | (simp [go_sem]; done) | (simp at *; omega)))).mono ?_; rintro _ W4 ⟨hb4, v4, rfl, how4⟩; have hbw4 : Below w.heap.size w W4 := (by refine Below.on ?_ hb4 (by have := hbw3.size; omega); repeat' (first | (with_reducible exact Below.refl _ _) | (with_reducible assumption) | (with_reducible refine Ext.below _ ?_ ?_) | (with_reducible refine Below.on ?_ (by with_reducible assumption) ?_) | (with_reducible refine Below.alloc ?_ ?_ _) | (with_reducible refine Below.drew ?_) | (with_reducible refine Below.setCell ?_ ?_ _) | (with_reducible exact Nat.le_refl _) | omega | (simp; done) | (simp [go_sem]; done) | (simp at *; omega))); obtain ⟨p4, d4, rfl, hI4⟩ := owns_ints how4; have hI34 := hI3.on hb4; have le4 : w.heap.size ≤ W4.heap.size := hbw4.size; clear c2 how4) | (go_at_call 18; refine (Calls.giv (cs _ _ _ _ _ hI34 hI4)).mono ?_; rintro _ _ ⟨y6, rfl, rfl⟩))
  go_returns
  refine ⟨rfl, ?_⟩
  repeat' (first | (with_reducible exact Below.refl _ _) | (with_reducible assumption) | (with_reducible refine Ext.below _ ?_ ?_) | (with_reducible refine Below.on ?_ (by with_reducible assumption) ?_) | (with_reducible refine Below.alloc ?_ ?_ _) | (with_reducible refine Below.drew ?_) | (with_reducible refine Below.setCell ?_ ?_ _) | (with_reducible exact Nat.le_refl _) | omega | (simp; done) | (simp [go_sem]; done) | (simp at *; omega))
set_option maxRecDepth 100000 in
theorem SkyLinks_lifted (os : Os) (started : os.Started) (H : Type) (enc : TypeId × Value → H) :
    ReturnsInHanded {} Try.checked os 4 .any (Rows.skyLinksSpec.pre6 enc Try.prog Try.f4 Rows.skyLinksRow.domain false) (Rows.skyLinksSpec.post enc Try.prog Try.f4 false true false false) := by
  refine returnsInHanded_of_change (C := Try.checked) own started (by kernel_rfl) Try.func4
    (ChangeSpec.witness6 (enc := enc) (C := Try.checked) false ⟨#[], #[.agg #[.slice none 0 0, .int .i64 0, .slice none 0 0, .slice none 0 0], .slice none 0 0, .slice none 0 0, .slice none 0 0, .int .i64 0], []⟩ 8 (by kernel_rfl) (by kernel_rfl) (by kernel_rfl) (by kernel_rfl)) ?_
  intro W base args ds gs before hval0 hW _ _
  have hval : ∀ (j : Nat) t v, Try.f4.params[j]? = some t → args[j]? = some v → Value.okWide Try.prog W .any base t v := hval0
  have hW' := hW
  obtain ⟨p, q, hA0, hV, _, _, _⟩ := hW
  have hA : DataW.TrodAll enc Try.prog W 0 (fun _ => true) true Try.f4.params.toList args.toList ds p := hA0
  rw [Try.params4] at hA hval
  obtain ⟨v0, vs0, d0, ds0, p0, q0, hargs0, rfl, _, h0, r0⟩ := trodAll_cons hA
  obtain ⟨v1, vs1, d1, ds1, p1, q1, hargs1, rfl, _, h1, r1⟩ := trodAll_cons r0
  obtain ⟨v2, vs2, d2, ds2, p2, q2, hargs2, rfl, _, h2, r2⟩ := trodAll_cons r1
  obtain ⟨v3, vs3, d3, ds3, p3, q3, hargs3, rfl, _, h3, r3⟩ := trodAll_cons r2
  obtain ⟨v4, vs4, d4, ds4, p4, q4, hargs4, rfl, _, h4, r4⟩ := trodAll_cons r3
  obtain ⟨hlast, rfl, _⟩ := trodAll_nil r4
  subst hlast
  subst hargs4
  subst hargs3
  subst hargs2
  subst hargs1
  obtain rfl : args = #[v0, v1, v2, v3, v4] := by cases args; simp_all
  obtain ⟨rfl, rfl⟩ := trodVars_none hV
  obtain ⟨s0, rfl, hi0⟩ := open_sky (hval 0 28 v0 rfl rfl) h0
  obtain ⟨t1, rfl, hi1⟩ := open_sightsV (hval 1 29 v1 rfl rfl) h1
  obtain ⟨t2, rfl, hi2⟩ := open_sightsV (hval 2 29 v2 rfl rfl) h2
  obtain ⟨gp3, gc3, gl3, rfl, hi3⟩ := open_statesV (hval 3 38 v3 rfl rfl) h3
  obtain ⟨x4, rfl, hi4⟩ := open_num (P := Try.prog) Try.underlying2 (hval 4 2 v4 rfl rfl)
  exact (SkyLinks_any s0 t1 t2 gp3 gc3 gl3 x4 W hi0 hi1 hi2 hi3 hi4).mono fun e W' h => law_post laid_out (by rw [Try.params4]; intro t ht; simp only [List.mem_cons, List.not_mem_nil, or_false] at ht; rcases ht with rfl | rfl | rfl | rfl | rfl | rfl; all_goals exact ⟨by kernel_rfl, by decide +kernel⟩) rfl rfl Try.underlying4 hW' rfl h
/-- The statement. -/
theorem SkyLinks_holds : Rows.SkyLinksSaid :=
  OpenClaim.holds_of_wide 4 Try.f4 rfl rfl rfl rfl rfl rfl rfl ⟨rfl, rfl, rfl, rfl, rfl⟩ rfl rfl rfl rfl rfl (by kernel_rfl) Try.func4 (by kernel_rfl)
    (of_decide_eq_true (by kernel_rfl)) (by unfold Func.isWrapper; first | (rw [if_pos (by decide +kernel)]; kernel_rfl) | (rw [if_neg (by decide +kernel)]; exact ⟨rfl, rfl⟩))
    (fun os started H enc _ => SkyLinks_lifted os started H enc)
end Go.Proofs.Ytehaonlndfjpfaa

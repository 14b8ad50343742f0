/- SkyBelieves: which guess most sights agree with, and which ones do not, is what the reference says; the sights are not changed. Condition: none beyond the statement's own. -/
import Derived.Test.YtgoilmiiegpnoaaSkyBz
import Derived.Test.YtgoilmiiegpnoaaSkyU
import Derived.Test.YtgoilmiiegpnoaaOpen
import Derived.Test.YtgoilmiiegpnoaaAppE
namespace Go.Proofs.Ytgoilmiiegpnoaa
open Go.RowKit Go.Shelf Go.ChangeShapes Go.WideShapes Go.ChangeAt Go.Joins
attribute [local go_sem] Option.isSome_some Ext.cell Ext.frozen Ext.lt Ext.le Ext.lt_add Ext.le_add Ext.ne Ext.ne' lt2 lt3 lt4 lt5 le2 le3 le4
theorem SkyR.Fits.big {s : SkyR} (h : s.Fits) : s.bodies.length < 9223372036854775808 ∧ (∀ b ∈ s.bodies, b.track.length < 9223372036854775808) ∧ s.sts.length < 9223372036854775808 ∧ s.cats.length < 9223372036854775808 := ⟨h.fb, h.ft, h.fs, h.fc⟩
theorem track1_new (W W0 : World) (b : Below W0.heap.size W0 W) (t : TrR) (h : SightsAt W0 t.p t.l) (T : TypeId) (B : Nat) (hB : B = W.heap.size) : TracksAt (W.alloc (.cells #[.slice t.p t.l.length t.c] T)) (some ⟨B, 0, none⟩) [t] := by
  subst hB
  intro j hj
  obtain rfl : j = 0 := by simp only [List.length_cons, List.length_nil] at hj; omega
  exact ⟨(h.on b).on ((Below.refl _ W).alloc (Nat.le_refl _) _), W.heap.size, 0, rfl, by simp, by simp [go_sem]⟩
theorem big1B {s : SkyR} {n : Nat} {t : TrR} (h : bigB s n [t] = false) : n ≤ 66 ∧ t.l.length ≤ 66 := by
  unfold bigB at h
  simp only [Bool.or_eq_false_iff, decide_eq_false_iff_not] at h
  exact ⟨by omega, bigT_false h.2 t (by simp)⟩
theorem missL_len (g : StateR) (t : Int) (ks : List LookR) : (missL g t ks).length ≤ ks.length := by
  have := missA_len g t ks [] 0
  unfold missL
  simpa using this
theorem believeR_len (s : SkyR) (a : List SightR) (gs : List StateR) (t : Int) : (believeR s a gs t).l.length ≤ 1048576 := by
  unfold believeR
  split
  · rename_i x hx
    split
    · split
      · simp
      · have h1 := missL_len (gs.getD (leastI (fun g => ((missL g t x).length : Int)) 0 0 0 gs).toNat ⟨0, 0, 0, 0⟩) t x
        obtain ⟨x', e, _, _, h2⟩ := allR_ok1 hx
        injection e with e
        subst e
        simp only
        omega
    · simp
  · simp
  · simp
theorem made_sights (w : World) (n : Nat) (hn : w.heap.size = n) : (w.alloc (.cells #[] 47)).ownsRow n 47 9 (.slice (some ⟨n, 0, none⟩) 0 0) 0 [] := by
  subst hn
  exact World.ownsRow_lit w #[] 0 (Nat.le_refl _) (by decide) rfl
set_option maxRecDepth 100000 in
set_option maxHeartbeats 16000000 in
theorem SkyBelieves_any (s : SkyR) (t : TrR) (gp : Option Addr) (gc : Nat) (gl : List StateR) (n : Int) (w : World) (hs : s.At w ∧ s.Fits) (ht : t.l.length < 9223372036854775808 ∧ SightsAt w t.p t.l) (hg : gl.length < 9223372036854775808 ∧ StatesAt w gp gl) (_h4 : I64 n) :
    Calls Try.prog 6 #[s.val, .slice t.p t.l.length t.c, .slice gp gl.length gc, .int .i64 n] w (Gives (.bool true) w) := by
  obtain ⟨tp, tcc, tl⟩ := t
  simp only at ht ⊢
  have cb := fun (W : World) (p : Option Addr) (y : Below w.heap.size w W) (h : TracksAt W p [⟨tp, tcc, tl⟩]) => big_any s gp gl.length gc p 1 [⟨tp, tcc, tl⟩] W hs.2.big (hs.1.on y) h
  have c1 := Go.Lib.hid (fun (W : World) (y : Below w.heap.size w W) (p : Option Addr) (c : Nat) (h : SightsAt W p tl) => Believe_any s p gp c gc tl gl n W (hs.1.on y) h (hg.2.on y))
  have c2 := fun (W : World) (y : Below w.heap.size w W) => refBelieve_any s tp gp tcc gc tl gl n W (hs.1.on y) (ht.2.on y) (hg.2.on y)
  have ca := fun W => skyAwake_any W
  have ct := Go.Lib.hid (fun (W : World) (y : Below w.heap.size w W) T B hB => track1_new W w y ⟨tp, tcc, tl⟩ ht.2 T B hB)
  have hb := fun h => big1B (s := s) (n := gl.length) (t := ⟨tp, tcc, tl⟩) h
  have hbl := believeR_len s tl gl n
  have hS := Go.Lib.hid (fun (W : World) (y : Below w.heap.size w W) => ht.2.on y)
  simp only [List.length_cons, List.length_nil, Nat.zero_add] at cb
  clear _h4 hs ht hg
  generalize believeR s tl gl n = r at *
  generalize bigB s gl.length [⟨tp, tcc, tl⟩] = g at *
  generalize gl.length = lg at *
  unfold SkyR.val at *
  generalize s.cats.length = n1 at *; generalize s.cp = n2 at *; generalize s.cc = n3 at *; generalize s.bodies.length = n4 at *; generalize s.bp = n5 at *; generalize s.bc = n6 at *; generalize s.sts.length = n7 at *; generalize s.sp = n8 at *; generalize s.sc = n9 at *; generalize s.home = n0 at *
  obtain ⟨rn, rl, re⟩ := r
  simp only at *
  have hee : (re == re) = true := by simp
  have hmm : (rn == rn) = true := by simp
  have cs := fun (p q : Option Addr) (c d : Nat) (W : World) (hl : rl.length ≤ 1048576) (hP : IntsAt W p rl) (hQ : IntsAt W q rl) => SameInts_any p q c d rl rl W hl hP hQ
  simp only [sameB_self] at cs
  cases g
  case true =>
    clear c1 c2 cs hb hbl
    go_enter Try.func6, Try.ntmps6
    go_wp2_with (first | ((first | with_reducible refine wp_region_ext2 (by kernel_rfl) (by kernel_rfl) ?_ | with_reducible refine wp_region_ext (by kernel_rfl) (by kernel_rfl) ?_); (repeat (first | go_big_quiet_step ((first | (go_at_call 16; with_reducible exact Calls.ext (cb _ _ (by repeat' (first | (with_reducible exact Below.refl _ _) | (with_reducible assumption) | (with_reducible refine Ext.below _ ?_ ?_) | (with_reducible refine Below.on ?_ (by with_reducible assumption) ?_) | (with_reducible refine Below.alloc ?_ ?_ _) | (with_reducible refine Below.drew ?_) | (with_reducible refine Below.setCell ?_ ?_ _) | (with_reducible exact Nat.le_refl _) | omega | (simp; done) | (simp [go_sem]; done) | (simp at *; omega))) (ct.out _ (by repeat' (first | (with_reducible exact Below.refl _ _) | (with_reducible assumption) | (with_reducible refine Ext.below _ ?_ ?_) | (with_reducible refine Below.on ?_ (by with_reducible assumption) ?_) | (with_reducible refine Below.alloc ?_ ?_ _) | (with_reducible refine Below.drew ?_) | (with_reducible refine Below.setCell ?_ ?_ _) | (with_reducible exact Nat.le_refl _) | omega | (simp; done) | (simp [go_sem]; done) | (simp at *; omega))) _ _ (by simp)))) | (go_at_call 12; with_reducible exact Calls.ext (ca _)))) | quiet_step ((first | (go_at_call 16; with_reducible exact Calls.ext (cb _ _ (by repeat' (first | (with_reducible exact Below.refl _ _) | (with_reducible assumption) | (with_reducible refine Ext.below _ ?_ ?_) | (with_reducible refine Below.on ?_ (by with_reducible assumption) ?_) | (with_reducible refine Below.alloc ?_ ?_ _) | (with_reducible refine Below.drew ?_) | (with_reducible refine Below.setCell ?_ ?_ _) | (with_reducible exact Nat.le_refl _) | omega | (simp; done) | (simp [go_sem]; done) | (simp at *; omega))) (ct.out _ (by repeat' (first | (with_reducible exact Below.refl _ _) | (with_reducible assumption) | (with_reducible refine Ext.below _ ?_ ?_) | (with_reducible refine Below.on ?_ (by with_reducible assumption) ?_) | (with_reducible refine Below.alloc ?_ ?_ _) | (with_reducible refine Below.drew ?_) | (with_reducible refine Below.setCell ?_ ?_ _) | (with_reducible exact Nat.le_refl _) | omega | (simp; done) | (simp [go_sem]; done) | (simp at *; omega))) _ _ (by simp)))) | (go_at_call 12; with_reducible exact Calls.ext (ca _)))))); refine wpQuiet_nil ?_; rintro _ ⟨yr, rfl⟩; have syr := Ext.size yr; (repeat (first | rw [World.size_alloc] at syr | rw [World.size_setCell] at syr | rw [World.size_drew] at syr))) | (go_at_call 16; (first | with_reducible refine (Calls.giv2 (cb _ _ (by repeat' (first | (with_reducible exact Below.refl _ _) | (with_reducible assumption) | (with_reducible refine Ext.below _ ?_ ?_) | (with_reducible refine Below.on ?_ (by with_reducible assumption) ?_) | (with_reducible refine Below.alloc ?_ ?_ _) | (with_reducible refine Below.drew ?_) | (with_reducible refine Below.setCell ?_ ?_ _) | (with_reducible exact Nat.le_refl _) | omega | (simp; done) | (simp [go_sem]; done) | (simp at *; omega))) (ct.out _ (by repeat' (first | (with_reducible exact Below.refl _ _) | (with_reducible assumption) | (with_reducible refine Ext.below _ ?_ ?_) | (with_reducible refine Below.on ?_ (by with_reducible assumption) ?_) | (with_reducible refine Below.alloc ?_ ?_ _) | (with_reducible refine Below.drew ?_) | (with_reducible refine Below.setCell ?_ ?_ _) | (with_reducible exact Nat.le_refl _) | omega | (simp; done) | (simp [go_sem]; done) | (simp at *; omega))) _ _ (by simp)))).mono ?_ | with_reducible refine (Calls.giv (cb _ _ (by repeat' (first | (with_reducible exact Below.refl _ _) | (with_reducible assumption) | (with_reducible refine Ext.below _ ?_ ?_) | (with_reducible refine Below.on ?_ (by with_reducible assumption) ?_) | (with_reducible refine Below.alloc ?_ ?_ _) | (with_reducible refine Below.drew ?_) | (with_reducible refine Below.setCell ?_ ?_ _) | (with_reducible exact Nat.le_refl _) | omega | (simp; done) | (simp [go_sem]; done) | (simp at *; omega))) (ct.out _ (by repeat' (first | (with_reducible exact Below.refl _ _) | (with_reducible assumption) | (with_reducible refine Ext.below _ ?_ ?_) | (with_reducible refine Below.on ?_ (by with_reducible assumption) ?_) | (with_reducible refine Below.alloc ?_ ?_ _) | (with_reducible refine Below.drew ?_) | (with_reducible refine Below.setCell ?_ ?_ _) | (with_reducible exact Nat.le_refl _) | omega | (simp; done) | (simp [go_sem]; done) | (simp at *; omega))) _ _ (by simp)))).mono ?_); rintro _ _ ⟨y1, rfl, rfl⟩; have sy1 := Ext.size y1; (repeat (first | rw [World.size_alloc] at sy1 | rw [World.size_setCell] at sy1 | rw [World.size_drew] at sy1))) | (go_at_call 12; (first | with_reducible refine (Calls.giv2 (ca _)).mono ?_ | with_reducible refine (Calls.giv (ca _)).mono ?_); rintro _ _ ⟨y2, rfl, rfl⟩; have sy2 := Ext.size y2; (repeat (first | rw [World.size_alloc] at sy2 | rw [World.size_setCell] at sy2 | rw [World.size_drew] at sy2))))
    go_returns
    refine ⟨rfl, ?_⟩
    repeat' (first | (with_reducible exact Below.refl _ _) | (with_reducible assumption) | (with_reducible refine Ext.below _ ?_ ?_) | (with_reducible refine Below.on ?_ (by with_reducible assumption) ?_) | (with_reducible refine Below.alloc ?_ ?_ _) | (with_reducible refine Below.drew ?_) | (with_reducible refine Below.setCell ?_ ?_ _) | (with_reducible exact Nat.le_refl _) | omega | (simp; done) | (simp [go_sem]; done) | (simp at *; omega))
  obtain ⟨hb1, hb2⟩ := hb rfl
  have hl := hbl
  clear hb hbl
  replace cs := fun p q c d W hP hQ => cs p q c d W hl hP hQ
  obtain ⟨ii, hii, hq0, hq1, hq2⟩ := info_parts sight_info
  have hnp : 0 < tl.length → ∃ B o, tp = some ⟨B, o, none⟩ := fun h => by
    obtain ⟨B, o, e, _⟩ := hS.out w (Below.refl _ _) 0 h
    exact ⟨B, o, e⟩
  have hnews := Go.Lib.hid (fun (W : World) (y : Below w.heap.size w W) B o (e : tp = some ⟨B, o, none⟩) => sights_cells (e ▸ hS.out W y))
  have hlen := rowsX_length tl
  have hone := Go.Lib.hid (rowsX_one tl)
  unfold LinkPost at c1 c2
  simp only at c1 c2
  go_enter Try.func6, Try.ntmps6
  go_wp2_with (first | ((with_reducible refine wp_region_ext (by kernel_rfl) (by kernel_rfl) ?_); (repeat (first | go_big_quiet_step ((first | (go_at_call 16; with_reducible exact Calls.ext (cb _ _ (by repeat' (first | (with_reducible exact Below.refl _ _) | (with_reducible assumption) | (with_reducible refine Ext.below _ ?_ ?_) | (with_reducible refine Below.on ?_ (by with_reducible assumption) ?_) | (with_reducible refine Below.alloc ?_ ?_ _) | (with_reducible refine Below.drew ?_) | (with_reducible refine Below.setCell ?_ ?_ _) | (with_reducible exact Nat.le_refl _) | omega | (simp; done) | (simp [go_sem]; done) | (simp at *; omega))) (ct.out _ (by repeat' (first | (with_reducible exact Below.refl _ _) | (with_reducible assumption) | (with_reducible refine Ext.below _ ?_ ?_) | (with_reducible refine Below.on ?_ (by with_reducible assumption) ?_) | (with_reducible refine Below.alloc ?_ ?_ _) | (with_reducible refine Below.drew ?_) | (with_reducible refine Below.setCell ?_ ?_ _) | (with_reducible exact Nat.le_refl _) | omega | (simp; done) | (simp [go_sem]; done) | (simp at *; omega))) _ _ (by simp)))))) | quiet_step ((first | (go_at_call 16; with_reducible exact Calls.ext (cb _ _ (by repeat' (first | (with_reducible exact Below.refl _ _) | (with_reducible assumption) | (with_reducible refine Ext.below _ ?_ ?_) | (with_reducible refine Below.on ?_ (by with_reducible assumption) ?_) | (with_reducible refine Below.alloc ?_ ?_ _) | (with_reducible refine Below.drew ?_) | (with_reducible refine Below.setCell ?_ ?_ _) | (with_reducible exact Nat.le_refl _) | omega | (simp; done) | (simp [go_sem]; done) | (simp at *; omega))) (ct.out _ (by repeat' (first | (with_reducible exact Below.refl _ _) | (with_reducible assumption) | (with_reducible refine Ext.below _ ?_ ?_) | (with_reducible refine Below.on ?_ (by with_reducible assumption) ?_) | (with_reducible refine Below.alloc ?_ ?_ _) | (with_reducible refine Below.drew ?_) | (with_reducible refine Below.setCell ?_ ?_ _) | (with_reducible exact Nat.le_refl _) | omega | (simp; done) | (simp [go_sem]; done) | (simp at *; omega))) _ _ (by simp)))))))); refine wpQuiet_nil ?_; rintro _ ⟨yr, rfl⟩; have syr := Ext.size yr; (repeat (first | rw [World.size_alloc] at syr | rw [World.size_setCell] at syr | rw [World.size_drew] at syr)); have : w.heap.size < yr.now.heap.size := (by omega); have : w.heap.size ≤ yr.now.heap.size := (by omega); have : w.heap.size < yr.now.heap.size + 1 + 1 := (by omega)) | (go_at_call 16; with_reducible refine (Calls.giv (cb _ _ (by repeat' (first | (with_reducible exact Below.refl _ _) | (with_reducible assumption) | (with_reducible refine Ext.below _ ?_ ?_) | (with_reducible refine Below.on ?_ (by with_reducible assumption) ?_) | (with_reducible refine Below.alloc ?_ ?_ _) | (with_reducible refine Below.drew ?_) | (with_reducible refine Below.setCell ?_ ?_ _) | (with_reducible exact Nat.le_refl _) | omega | (simp; done) | (simp [go_sem]; done) | (simp at *; omega))) (ct.out _ (by repeat' (first | (with_reducible exact Below.refl _ _) | (with_reducible assumption) | (with_reducible refine Ext.below _ ?_ ?_) | (with_reducible refine Below.on ?_ (by with_reducible assumption) ?_) | (with_reducible refine Below.alloc ?_ ?_ _) | (with_reducible refine Below.drew ?_) | (with_reducible refine Below.setCell ?_ ?_ _) | (with_reducible exact Nat.le_refl _) | omega | (simp; done) | (simp [go_sem]; done) | (simp at *; omega))) _ _ (by simp)))).mono ?_; rintro _ _ ⟨y1, rfl, rfl⟩; have sy1 := Ext.size y1; (repeat (first | rw [World.size_alloc] at sy1 | rw [World.size_setCell] at sy1 | rw [World.size_drew] at sy1)); have : w.heap.size < y1.now.heap.size := (by omega); have : w.heap.size ≤ y1.now.heap.size := (by omega); have : w.heap.size < y1.now.heap.size + 1 + 1 := (by omega)) | (at_builtin; go_loud (refine wpListW_named (fun W2 hW2 => ?_); have s2 : W2.heap.size = y1.now.heap.size + 1 := (by rw [← hW2]; simp); have yw : Below w.heap.size w W2 := (by rw [← hW2]; repeat' (first | (with_reducible exact Below.refl _ _) | (with_reducible assumption) | (with_reducible refine Ext.below _ ?_ ?_) | (with_reducible refine Below.on ?_ (by with_reducible assumption) ?_) | (with_reducible refine Below.alloc ?_ ?_ _) | (with_reducible refine Below.drew ?_) | (with_reducible refine Below.setCell ?_ ?_ _) | (with_reducible exact Nat.le_refl _) | omega | (simp; done) | (simp [go_sem]; done) | (simp at *; omega))); have e0 : W2.cell? ⟨w.heap.size, 0, none⟩ = some (.slice n5 n4 n6) := (by rw [← hW2]; simp [go_sem]); have e1 : W2.cell? ⟨w.heap.size, 1, none⟩ = some (.int .i64 n0) := (by rw [← hW2]; simp [go_sem]); have e2 : W2.cell? ⟨w.heap.size, 2, none⟩ = some (.slice n8 n7 n9) := (by rw [← hW2]; simp [go_sem]); have e3 : W2.cell? ⟨w.heap.size, 3, none⟩ = some (.slice n2 n1 n3) := (by rw [← hW2]; simp [go_sem]); have hm2 : W2.ownsRow y1.now.heap.size 47 9 (.slice (some ⟨y1.now.heap.size, 0, none⟩) 0 0) 0 [] := (by rw [← hW2]; exact made_sights _ _ rfl); clear hW2; refine wpList_append_copy rfl _ _ 34 rfl y1.now.heap.size 47 ii _ 9 72 Try.underlying34 hii hq0 hq1 hq2 rfl (by decide) y1.now.heap.size rfl hm2 tp tl.length tcc (rowsX tl) rfl hlen hnp (hnews.out W2 yw) hone.out (by unfold maxLen; omega) (by omega) (by omega) ?_; intro gs cs' W3 hrow3 hgs hgr3; have yw3 : Below w.heap.size w W3 := below_grown yw hm2 (by omega) (by omega) hgr3; have hk3 : W3.heap[w.heap.size]? = W2.heap[w.heap.size]? := hgr3.block w.heap.size (by omega) (fun e => by simp only [Option.some.injEq] at e; omega); have f0 : W3.cell? ⟨w.heap.size, 0, none⟩ = some (.slice n5 n4 n6) := ((World.cell?_of_block (a := ⟨w.heap.size, 0, none⟩) hk3).trans e0); have f1 : W3.cell? ⟨w.heap.size, 1, none⟩ = some (.int .i64 n0) := ((World.cell?_of_block (a := ⟨w.heap.size, 1, none⟩) hk3).trans e1); have f2 : W3.cell? ⟨w.heap.size, 2, none⟩ = some (.slice n8 n7 n9) := ((World.cell?_of_block (a := ⟨w.heap.size, 2, none⟩) hk3).trans e2); have f3 : W3.cell? ⟨w.heap.size, 3, none⟩ = some (.slice n2 n1 n3) := ((World.cell?_of_block (a := ⟨w.heap.size, 3, none⟩) hk3).trans e3); have s3 : w.heap.size < W3.heap.size := (by have := hgr3.size; omega); obtain ⟨q3, d3, eq3, hS3⟩ := owns_sights hrow3; injection eq3 with eq3 eq4 eq5; rw [← eq3] at hS3; clear eq3 eq4 eq5 e0 e1 e2 e3 hm2 hrow3 hgr3 hk3 yw)) | (go_at_call 13; go_loud (refine (c1.out W3 yw3 _ cs' hS3).mono ?_; rintro _ W4 ⟨hb4, v4, rfl, how4⟩; have yw4 : Below w.heap.size w W4 := (yw3.trans (hb4.mono (by omega))); obtain ⟨p4, d4, rfl, hI4⟩ := owns_ints how4; have g0 : W4.cell? ⟨w.heap.size, 0, none⟩ = some (.slice n5 n4 n6) := ((hb4.cell (p := ⟨w.heap.size, 0, none⟩) s3).trans f0); have g1 : W4.cell? ⟨w.heap.size, 1, none⟩ = some (.int .i64 n0) := ((hb4.cell (p := ⟨w.heap.size, 1, none⟩) s3).trans f1); have g2 : W4.cell? ⟨w.heap.size, 2, none⟩ = some (.slice n8 n7 n9) := ((hb4.cell (p := ⟨w.heap.size, 2, none⟩) s3).trans f2); have g3 : W4.cell? ⟨w.heap.size, 3, none⟩ = some (.slice n2 n1 n3) := ((hb4.cell (p := ⟨w.heap.size, 3, none⟩) s3).trans f3); have s4 : w.heap.size < W4.heap.size := (by have := hb4.size; omega); have hS4 := hS3.on hb4; have hw4 := yw4.size; clear c1 how4 f0 f1 f2 f3)) | (go_at_call 17; go_loud (refine (c2 W4 yw4).mono ?_; rintro _ W5 ⟨hb5, v5, rfl, how5⟩; have yw5 : Below w.heap.size w W5 := (yw4.trans (hb5.mono (by omega))); obtain ⟨p5, d5, rfl, hI5⟩ := owns_ints how5; have hI45 := Go.Lib.hid (hI4.on hb5); have hI5 := Go.Lib.hid hI5; have hS5 := Go.Lib.hid (hS4.on hb5); have hw5 := yw5.size; clear c2 how5 g0 g1 g2 g3)))
  have hT5 := Go.Lib.hid (hS.out W5 yw5)
  clear hnews hone hlen hnp hI4 hS3 hS4 hb4 hb5 yw3 yw4 cb ct
  go_loopw [16] (fun u W => ∃ (i : Nat) (x : Ext W5), u = .int .i64 i ∧ W = x.now ∧ Hid (i ≤ tl.length)) (fun u _ => tl.length - (intOf u).toNat)
  case atStart => exact ⟨0, ⟨W5, Below.refl _ _⟩, rfl, rfl, Go.Lib.hid (Nat.zero_le _)⟩
  case round =>
    obtain ⟨i, x, rfl, rfl, hi⟩ := hrel
    have xs := x.size
    have hwx : w.heap.size ≤ x.now.heap.size := by omega
    by_cases hlt : i < tl.length
    · have hlt2 : (i : Int) < tl.length := by omega
      obtain ⟨BA, oA, eA, hBA, z0, z1, z2, z3, z4, z5, z6, z7, z8⟩ := hS5.out i hlt
      injection eA with eA
      injection eA with eA1 eA2
      subst eA1 eA2
      obtain ⟨BB, oB, rfl, hBB, y0, y1', y2, y3, y4, y5, y6, y7, y8⟩ := hT5.out i hlt
      simp only [Nat.zero_add] at z0 z1 z2 z3 z4 z5 z6 z7 z8
      have : gs < (x.now).heap.size := (by omega); have : gs < (x.now).heap.size + 1 := (by omega); have : gs < (x.now).heap.size + 1 + 1 := (by omega); have : gs ≠ (x.now).heap.size := (by omega); have : gs ≠ (x.now).heap.size + 1 := (by omega)
      have : BB < (x.now).heap.size := (by omega); have : BB < (x.now).heap.size + 1 := (by omega); have : BB < (x.now).heap.size + 1 + 1 := (by omega); have : BB ≠ (x.now).heap.size := (by omega); have : BB ≠ (x.now).heap.size + 1 := (by omega)
      clear hi
      generalize tl[i].kind = h0 at *
      generalize tl[i].st = h1 at *
      generalize tl[i].cat = h2 at *
      generalize tl[i].tick = h3 at *
      generalize tl[i].dir.x = h4 at *
      generalize tl[i].dir.y = h5 at *
      generalize tl[i].err = h6 at *
      generalize tl[i].lo = h7 at *
      generalize tl[i].hi = h8 at *
      go_wp2_with (first | ((first | with_reducible refine wp_region_ext2 (by kernel_rfl) (by kernel_rfl) ?_ | with_reducible refine wp_region_ext (by kernel_rfl) (by kernel_rfl) ?_); (repeat (first | go_big_quiet_step ((first | fail)) | quiet_step ((first | fail)))); refine wpQuiet_nil ?_; rintro _ ⟨yr, rfl⟩; have syr := Ext.size yr; (repeat (first | rw [World.size_alloc] at syr | rw [World.size_setCell] at syr | rw [World.size_drew] at syr)); have : gs < yr.now.heap.size := (by omega); have : gs ≤ yr.now.heap.size := (by omega); have : gs < yr.now.heap.size + 1 + 1 := (by omega); have : BB < yr.now.heap.size := (by omega); have : BB ≤ yr.now.heap.size := (by omega); have : BB < yr.now.heap.size + 1 + 1 := (by omega)))
      refine ⟨⟨i + 1, ⟨_, ?_⟩, by simp, rfl, Go.Lib.hid hlt⟩, by simp [intOf]; omega⟩
      repeat' (first | (with_reducible exact Below.refl _ _) | (with_reducible assumption) | (with_reducible refine Ext.below _ ?_ ?_) | (with_reducible refine Below.on ?_ (by with_reducible assumption) ?_) | (with_reducible refine Below.alloc ?_ ?_ _) | (with_reducible refine Below.drew ?_) | (with_reducible refine Below.setCell ?_ ?_ _) | (with_reducible exact Nat.le_refl _) | omega | (simp; done) | (simp [go_sem]; done) | (simp at *; omega))
    · have hge : ¬ (i : Int) < tl.length := by omega
      have hP := hI45.out.on x.grew
      have hQ := hI5.out.on x.grew
      have csx := cs p4 p5 d4 d5 x.now hP hQ
      have hbx := x.below yw5 (by omega)
      clear hi
      go_wp2_with (first | ((first | with_reducible refine wp_region_ext2 (by kernel_rfl) (by kernel_rfl) ?_ | with_reducible refine wp_region_ext (by kernel_rfl) (by kernel_rfl) ?_); (repeat (first | go_big_quiet_step ((first | (go_at_call 12; with_reducible exact Calls.ext (ca _)))) | quiet_step ((first | (go_at_call 12; with_reducible exact Calls.ext (ca _)))))); refine wpQuiet_nil ?_; rintro _ ⟨yr, rfl⟩; have syr := Ext.size yr; (repeat (first | rw [World.size_alloc] at syr | rw [World.size_setCell] at syr | rw [World.size_drew] at syr))) | (go_at_call 12; (first | with_reducible refine (Calls.giv2 (ca _)).mono ?_ | with_reducible refine (Calls.giv (ca _)).mono ?_); rintro _ _ ⟨y1, rfl, rfl⟩; have sy1 := Ext.size y1; (repeat (first | rw [World.size_alloc] at sy1 | rw [World.size_setCell] at sy1 | rw [World.size_drew] at sy1))) | (go_at_call 18; go_loud (refine (Calls.giv csx).mono ?_; rintro _ _ ⟨y6, rfl, rfl⟩; have sy6 := y6.size)))
      go_returns
      refine ⟨rfl, ?_⟩
      repeat' (first | (with_reducible exact Below.refl _ _) | (with_reducible assumption) | (with_reducible refine Ext.below _ ?_ ?_) | (with_reducible refine Below.on ?_ (by with_reducible assumption) ?_) | (with_reducible refine Below.alloc ?_ ?_ _) | (with_reducible refine Below.drew ?_) | (with_reducible refine Below.setCell ?_ ?_ _) | (with_reducible exact Nat.le_refl _) | omega | (simp; done) | (simp [go_sem]; done) | (simp at *; omega))
set_option maxRecDepth 100000 in
theorem SkyBelieves_lifted (os : Os) (started : os.Started) (H : Type) (enc : TypeId × Value → H) :
    ReturnsInHanded {} Try.checked os 6 .any (Rows.skyBelievesSpec.pre6 enc Try.prog Try.f6 Rows.skyBelievesRow.domain false) (Rows.skyBelievesSpec.post enc Try.prog Try.f6 false true false false) := by
  refine returnsInHanded_of_change (C := Try.checked) own started (by kernel_rfl) Try.func6
    (ChangeSpec.witness6 (enc := enc) (C := Try.checked) false ⟨#[], #[.agg #[.slice none 0 0, .int .i64 0, .slice none 0 0, .slice none 0 0], .slice none 0 0, .slice none 0 0, .int .i64 0], []⟩ 8 (by kernel_rfl) (by kernel_rfl) (by kernel_rfl) (by kernel_rfl)) ?_
  intro W base args ds gs before hval0 hW _ _
  have hval : ∀ (j : Nat) t v, Try.f6.params[j]? = some t → args[j]? = some v → Value.okWide Try.prog W .any base t v := hval0
  have hW' := hW
  obtain ⟨p, q, hA0, hV, _, _, _⟩ := hW
  have hA : DataW.TrodAll enc Try.prog W 0 (fun _ => true) true Try.f6.params.toList args.toList ds p := hA0
  rw [Try.params6] at hA hval
  obtain ⟨v0, vs0, d0, ds0, p0, q0, hargs0, rfl, _, h0, r0⟩ := trodAll_cons hA
  obtain ⟨v1, vs1, d1, ds1, p1, q1, hargs1, rfl, _, h1, r1⟩ := trodAll_cons r0
  obtain ⟨v2, vs2, d2, ds2, p2, q2, hargs2, rfl, _, h2, r2⟩ := trodAll_cons r1
  obtain ⟨v3, vs3, d3, ds3, p3, q3, hargs3, rfl, _, h3, r3⟩ := trodAll_cons r2
  obtain ⟨hlast, rfl, _⟩ := trodAll_nil r3
  subst hlast
  subst hargs3
  subst hargs2
  subst hargs1
  obtain rfl : args = #[v0, v1, v2, v3] := by cases args; simp_all
  obtain ⟨rfl, rfl⟩ := trodVars_none hV
  obtain ⟨s0, rfl, hi0⟩ := open_sky (hval 0 29 v0 rfl rfl) h0
  obtain ⟨t1, rfl, hi1⟩ := open_sightsV (hval 1 34 v1 rfl rfl) h1
  obtain ⟨gp2, gc2, gl2, rfl, hi2⟩ := open_statesV (hval 2 31 v2 rfl rfl) h2
  obtain ⟨x3, rfl, hi3⟩ := open_num (P := Try.prog) Try.underlying2 (hval 3 2 v3 rfl rfl)
  exact (SkyBelieves_any s0 t1 gp2 gc2 gl2 x3 W hi0 hi1 hi2 hi3).mono fun e W' h => law_post laid_out (by rw [Try.params6]; intro t ht; simp only [List.mem_cons, List.not_mem_nil, or_false] at ht; rcases ht with rfl | rfl | rfl | rfl | rfl | rfl | rfl | rfl; all_goals exact ⟨by kernel_rfl, by decide +kernel⟩) rfl rfl Try.underlying4 hW' rfl h
/-- The statement. -/
theorem SkyBelieves_holds : Rows.SkyBelievesSaid :=
  OpenClaim.holds_of_wide 6 Try.f6 rfl rfl rfl rfl rfl rfl rfl ⟨rfl, rfl, rfl, rfl, rfl⟩ rfl rfl rfl rfl rfl (by kernel_rfl) Try.func6 (by kernel_rfl)
    (of_decide_eq_true (by kernel_rfl)) (by unfold Func.isWrapper; first | (rw [if_pos (by decide +kernel)]; kernel_rfl) | (rw [if_neg (by decide +kernel)]; exact ⟨rfl, rfl⟩))
    (fun os started H enc _ => SkyBelieves_lifted os started H enc)
end Go.Proofs.Ytgoilmiiegpnoaa

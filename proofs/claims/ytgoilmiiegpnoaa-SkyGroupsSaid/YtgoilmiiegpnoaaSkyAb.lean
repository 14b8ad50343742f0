/- Contract of Link: the first guess that misses no sight of two tracklets, or the reasons. Condition: a sky, the tracklets and the guesses in memory. -/
import Derived.Test.YtgoilmiiegpnoaaSkyV
import Derived.Test.YtgoilmiiegpnoaaSkyAa
namespace Go.Proofs.Ytgoilmiiegpnoaa
open Go.RowKit Go.Shelf
attribute [local go_sem] Option.isSome_some Ext.cell Ext.frozen Ext.lt Ext.le Ext.lt_add Ext.le_add Ext.ne Ext.ne' lt2 lt3 lt4 lt5 le2 le3 le4
def linkA (t : Int) (both : List LookR) : List Int → Nat → List StateR → Int × List Int
  | acc, _, [] => (-1, acc)
  | acc, i, g :: l => match missL g t both with
    | [] => (i, [])
    | m :: _ => linkA t both (acc ++ [m]) (i + 1) l
/-- What Link gives back. -/
structure LinkR where
  n : Int
  l : List Int
  e : Int
def linkR (s : SkyR) (a b : List SightR) (gs : List StateR) (t : Int) : LinkR := match allR s [⟨none, 0, a⟩, ⟨none, 0, b⟩] with
  | .ok [x, y] => if guessesE gs t = 0 then ⟨(linkA t (x ++ y) [] 0 gs).1, (linkA t (x ++ y) [] 0 gs).2, 0⟩ else ⟨0, [], guessesE gs t⟩
  | .ok _ => ⟨0, [], 0⟩
  | .error e => ⟨0, [], e⟩
theorem looksA_fit {s : SkyR} (hE : skyE s = 0) : ∀ {l : List SightR} {acc : List LookR} {prev : Option Int} {ks : List LookR}, (∀ k ∈ acc, k.Fit) → looksA s acc prev l = .ok ks → (∀ k ∈ ks, k.Fit) ∧ ks.length = acc.length + l.length := by
  intro l
  induction l with
  | nil => intro acc prev ks h e; injection e with e; subst e; exact ⟨h, rfl⟩
  | cons x l ih =>
    intro acc prev ks h e
    rw [looksA] at e
    cases hr : lookR s x with
    | error e' => rw [hr] at e; cases e
    | ok k =>
      rw [hr] at e
      simp only at e
      split at e
      · cases e
      · have := ih (acc := acc ++ [k]) (fun u hu => by
          rcases List.mem_append.1 hu with hu | hu
          · exact h u hu
          · simp at hu; subst hu; exact lookR_fit hE hr) e
        refine ⟨this.1, ?_⟩
        rw [this.2, List.length_append, List.length_cons, List.length_cons, List.length_nil]; omega
theorem looksR_fit {s : SkyR} (hE : skyE s = 0) {l : List SightR} {ks : List LookR} (h : looksR s l = .ok ks) : (∀ k ∈ ks, k.Fit) ∧ 1 ≤ ks.length ∧ ks.length ≤ 64 := by
  unfold looksR at h
  by_cases h1 : cntE l.length 1 64 = 0
  · rw [if_pos h1] at h
    have := looksA_fit hE (by simp) h
    have hc := cntE_zero h1
    refine ⟨this.1, ?_⟩
    rw [this.2]; simp; omega
  · rw [if_neg h1] at h; cases h
theorem allR_two {s : SkyR} {a b : List SightR} (p q : Option Addr) (c d : Nat) : allR s [⟨p, c, a⟩, ⟨q, d, b⟩] = allR s [⟨none, 0, a⟩, ⟨none, 0, b⟩] := rfl
theorem allR_ok {s : SkyR} {a b : List SightR} {r : List (List LookR)} (h : allR s [⟨none, 0, a⟩, ⟨none, 0, b⟩] = .ok r) : ∃ x y, r = [x, y] ∧ (∀ k ∈ x, k.Fit) ∧ (∀ k ∈ y, k.Fit) ∧ (1 ≤ x.length ∧ x.length ≤ 64) ∧ 1 ≤ y.length ∧ y.length ≤ 64 := by
  unfold allR at h
  by_cases h1 : skyE s = 0
  · rw [if_pos h1, allA] at h
    cases hx : looksR s a with
    | error e => rw [hx] at h; cases h
    | ok x =>
      rw [hx] at h
      simp only [allA] at h
      cases hy : looksR s b with
      | error e => rw [hy] at h; cases h
      | ok y =>
        rw [hy] at h
        injection h with h
        have fx := looksR_fit h1 hx
        have fy := looksR_fit h1 hy
        exact ⟨x, y, by rw [← h]; rfl, fx.1, fy.1, fx.2, fy.2⟩
  · rw [if_neg h1] at h; cases h
theorem allA_err {s : SkyR} : ∀ {l : List TrR} {acc : List (List LookR)} {e : Int}, allA s acc l = .error e → e ≠ 0 := by
  intro l
  induction l with
  | nil => intro acc e h; cases h
  | cons x l ih =>
    intro acc e h
    rw [allA] at h
    cases hr : looksR s x.l with
    | error e' => rw [hr] at h; injection h with h; rw [← h]; exact looksR_err hr
    | ok k => rw [hr] at h; exact ih h
theorem allR_err {s : SkyR} {l : List TrR} {e : Int} (h : allR s l = .error e) : e ≠ 0 := by
  unfold allR at h
  by_cases h1 : skyE s = 0
  · rw [if_pos h1] at h; exact allA_err h
  · rw [if_neg h1] at h; injection h with h; rw [← h]; exact h1
theorem two_looks {W : World} {base : Nat} {v : Value} {vs : List Value} {x y : List LookR} (how : W.ownsRow base 68 1 v 2 vs) (hin : InnerAt W base vs [x, y]) (hx : 1 ≤ x.length) (hy : 1 ≤ y.length) :
    ∃ g c g0 c0 g1 c1, v = .slice (some ⟨g, 0, none⟩) 2 c ∧ g < W.heap.size ∧ W.cell? ⟨g, 0, none⟩ = some (.slice (some ⟨g0, 0, none⟩) x.length c0) ∧ W.cell? ⟨g, 1, none⟩ = some (.slice (some ⟨g1, 0, none⟩) y.length c1) ∧
      W.ownsRow base 103 4 (.slice (some ⟨g0, 0, none⟩) x.length c0) x.length (rowsOf x) ∧ g1 < W.heap.size ∧ (∀ j u, (rowsOf y)[j]? = some u → W.cell? ⟨g1, j, none⟩ = some u) := by
  match vs, hin with
  | [u0, u1], hin =>
    obtain ⟨h0, h1, -⟩ := hin
    rcases owns_slice how with ⟨-, h2⟩ | ⟨g, c, rfl, -, hg, hc⟩
    · cases h2
    rcases owns_slice h0 with ⟨-, h2⟩ | ⟨g0, c0, rfl, -, hg0, hc0⟩
    · omega
    rcases owns_slice h1 with ⟨-, h2⟩ | ⟨g1, c1, rfl, -, hg1, hc1⟩
    · omega
    exact ⟨g, c, g0, c0, g1, c1, rfl, hg, hc 0 _ rfl, hc 1 _ rfl, h0, hg1, hc1⟩
theorem rowsOf_length (l : List LookR) : (rowsOf l).length = l.length * 4 := by
  induction l with
  | nil => rfl
  | cons k l ih =>
    have hr : rowsOf (k :: l) = LookR.cells k ++ rowsOf l := by unfold rowsOf; rw [List.flatMap_cons]
    rw [hr, List.length_append, ih, List.length_cons]; simp [LookR.cells]; omega
theorem rowsOf_append (l m : List LookR) : rowsOf (l ++ m) = rowsOf l ++ rowsOf m := by unfold rowsOf; rw [List.flatMap_append]
theorem rowsOf_one (l : List LookR) : ∀ u ∈ rowsOf l, u.oneCell' = true := by
  intro u hu
  obtain ⟨k, -, hk⟩ := List.mem_flatMap.1 hu
  simp only [LookR.cells, List.mem_cons, List.not_mem_nil, or_false] at hk
  rcases hk with rfl | rfl | rfl | rfl
  · rfl
  · rfl
  · rfl
  · cases k.says <;> rfl
theorem owns_len {w : World} {base : Nat} {e : TypeId} {size : Nat} {p : Option Addr} {n' c : Nat} {xs : List Value} {n : Nat} (h : w.ownsRow base e size (.slice p n' c) n xs) : n' = n := by
  rcases h.2 with ⟨h1, h2⟩ | ⟨g, cap, cur, h1, _⟩
  · injection h1 with _ h3 _; omega
  · injection h1 with _ h3 _
theorem owns_first {w : World} {base : Nat} {v : Value} {m : Int} {ms : List Int} (h : w.ownsRow base 3 1 v (m :: ms).length (intsOf (m :: ms))) : ∃ g c, v = .slice (some ⟨g, 0, none⟩) (ms.length + 1) c ∧ g < w.heap.size ∧ w.cell? ⟨g, 0, none⟩ = some (.int .i64 m) := by
  rcases owns_slice h with ⟨-, h2⟩ | ⟨g, c, rfl, -, hg, hc⟩
  · simp at h2
  · exact ⟨g, c, rfl, hg, hc 0 _ rfl⟩
def LinkPost (w : World) (r : LinkR) : Ending → World → Prop := fun e w' => Below w.heap.size w w' ∧ ∃ v, e = .returned (.tuple #[.int .i64 r.n, v, .int .i64 r.e]) ∧ w'.ownsRow w.heap.size 3 1 v r.l.length (intsOf r.l)
set_option maxRecDepth 100000 in
set_option maxHeartbeats 16000000 in
theorem Link_any (s : SkyR) (pa pb pg : Option Addr) (ca cb cg : Nat) (a b : List SightR) (gs : List StateR) (t : Int) (w : World) (hA : s.At w) (ha : SightsAt w pa a) (hb : SightsAt w pb b) (hg : StatesAt w pg gs) :
    Calls Try.prog 10 #[s.val, .slice pa a.length ca, .slice pb b.length cb, .slice pg gs.length cg, .int .i64 t] w (LinkPost w (linkR s a b gs t)) := by
  have cl := fun (W : World) (y : Below w.heap.size w W) (p : Option Addr) (h : TracksAt W p [⟨pa, ca, a⟩, ⟨pb, cb, b⟩]) => allLooks_any s p 2 [⟨pa, ca, a⟩, ⟨pb, cb, b⟩] W (by simp) (hA.on y) h
  have cg' := fun (W : World) (y : Below w.heap.size w W) => checkGuesses_any pg cg gs t W (hg.on y)
  have htr : ∀ (W : World) (B : Nat), Below w.heap.size w W → B < W.heap.size → W.cell? ⟨B, 0, none⟩ = some (.slice pa a.length ca) → W.cell? ⟨B, 1, none⟩ = some (.slice pb b.length cb) → TracksAt W (some ⟨B, 0, none⟩) [⟨pa, ca, a⟩, ⟨pb, cb, b⟩] := by
    intro W B y hB h0 h1 j hj
    rcases (show j = 0 ∨ j = 1 by simp only [List.length_cons, List.length_nil] at hj; omega) with rfl | rfl
    · exact ⟨ha.on y, B, 0, rfl, hB, h0⟩
    · exact ⟨hb.on y, B, 0, rfl, hB, h1⟩
  have htr := Go.Lib.hid htr
  simp only [List.length_cons, List.length_nil, Nat.zero_add, Nat.reduceAdd, allR_two] at cl
  have ce := fun e (h : allR s [⟨none, 0, a⟩, ⟨none, 0, b⟩] = .error e) => allR_err h
  have ck := fun r (h : allR s [⟨none, 0, a⟩, ⟨none, 0, b⟩] = .ok r) => allR_ok h
  have hg := Go.Lib.hid hg
  obtain ⟨V, hV⟩ : ∃ V, linkR s a b gs t = V := ⟨_, rfl⟩
  rw [hV]
  unfold linkR at hV
  clear hA ha hb
  generalize allR s [⟨none, 0, a⟩, ⟨none, 0, b⟩] = r at *
  unfold SkyR.val at *
  generalize s.cats.length = n1 at *
  generalize s.cp = n2 at *
  generalize s.cc = n3 at *
  generalize s.bodies.length = n4 at *
  generalize s.bp = n5 at *
  generalize s.bc = n6 at *
  generalize s.sts.length = n7 at *
  generalize s.sp = n8 at *
  generalize s.sc = n9 at *
  generalize s.home = n0 at *
  generalize a.length = la at *
  generalize b.length = lb at *
  cases r with
  | error e =>
    have e0 := ce e rfl
    clear ce ck
    simp only at hV
    subst hV
    go_enter Try.func10, Try.ntmps10
    go_wp2_with (first | ((first | with_reducible refine wp_region_ext2 (by kernel_rfl) (by kernel_rfl) ?_ | with_reducible refine wp_region_ext (by kernel_rfl) (by kernel_rfl) ?_); (repeat (first | go_big_quiet_step ((first | fail)) | quiet_step ((first | fail)))); refine wpQuiet_nil ?_; rintro _ ⟨yr, rfl⟩; have syr := Ext.size yr; (repeat (first | rw [World.size_alloc] at syr | rw [World.size_setCell] at syr | rw [World.size_drew] at syr))) | (go_at_call 25; refine (cl _ (by repeat' (first | (with_reducible exact Below.refl _ _) | (with_reducible assumption) | (with_reducible refine Ext.below _ ?_ ?_) | (with_reducible refine Below.on ?_ (by with_reducible assumption) ?_) | (with_reducible refine Below.alloc ?_ ?_ _) | (with_reducible refine Below.drew ?_) | (with_reducible refine Below.setCell ?_ ?_ _) | (with_reducible exact Nat.le_refl _) | omega | (simp; done) | (simp [go_sem]; done) | (simp at *; omega))) _ (htr.out _ _ (by repeat' (first | (with_reducible exact Below.refl _ _) | (with_reducible assumption) | (with_reducible refine Ext.below _ ?_ ?_) | (with_reducible refine Below.on ?_ (by with_reducible assumption) ?_) | (with_reducible refine Below.alloc ?_ ?_ _) | (with_reducible refine Below.drew ?_) | (with_reducible refine Below.setCell ?_ ?_ _) | (with_reducible exact Nat.le_refl _) | omega | (simp; done) | (simp [go_sem]; done) | (simp at *; omega))) (by simp) (by simp [go_sem]) (by simp [go_sem]))).mono ?_; rintro _ W3 ⟨hb3, rfl⟩; have hbw3 : Below w.heap.size w W3 := (by refine Below.on ?_ hb3 (by simp only [World.size_alloc]; omega); repeat' (first | (with_reducible exact Below.refl _ _) | (with_reducible assumption) | (with_reducible refine Ext.below _ ?_ ?_) | (with_reducible refine Below.on ?_ (by with_reducible assumption) ?_) | (with_reducible refine Below.alloc ?_ ?_ _) | (with_reducible refine Below.drew ?_) | (with_reducible refine Below.setCell ?_ ?_ _) | (with_reducible exact Nat.le_refl _) | omega | (simp; done) | (simp [go_sem]; done) | (simp at *; omega))); clear cl htr))
    go_returns
    refine ⟨?_, _, rfl, World.ownsRow_nil _ _ _ _⟩
    repeat' (first | (with_reducible exact Below.refl _ _) | (with_reducible assumption) | (with_reducible refine Ext.below _ ?_ ?_) | (with_reducible refine Below.on ?_ (by with_reducible assumption) ?_) | (with_reducible refine Below.alloc ?_ ?_ _) | (with_reducible refine Below.drew ?_) | (with_reducible refine Below.setCell ?_ ?_ _) | (with_reducible exact Nat.le_refl _) | omega | (simp; done) | (simp [go_sem]; done) | (simp at *; omega))
  | ok r =>
    obtain ⟨x, y, rfl, fx, fy, hx, hy⟩ := ck r rfl
    clear ce ck
    simp only at hV
    by_cases hge : guessesE gs t = 0
    · rw [if_pos hge] at hV
      rw [hge] at cg'
      obtain ⟨gn, gt', gf⟩ := guessesE_zero hge
      clear hge
      go_enter Try.func10, Try.ntmps10
      go_wp2_with (first | ((first | with_reducible refine wp_region_ext2 (by kernel_rfl) (by kernel_rfl) ?_ | with_reducible refine wp_region_ext (by kernel_rfl) (by kernel_rfl) ?_); (repeat (first | go_big_quiet_step ((first | (go_at_call 26; with_reducible exact Calls.ext (cg' _ (by repeat' (first | (with_reducible exact Below.refl _ _) | (with_reducible assumption) | (with_reducible refine Ext.below _ ?_ ?_) | (with_reducible refine Below.on ?_ (by with_reducible assumption) ?_) | (with_reducible refine Below.alloc ?_ ?_ _) | (with_reducible refine Below.drew ?_) | (with_reducible refine Below.setCell ?_ ?_ _) | (with_reducible exact Nat.le_refl _) | omega | (simp; done) | (simp [go_sem]; done) | (simp at *; omega))))))) | quiet_step ((first | (go_at_call 26; with_reducible exact Calls.ext (cg' _ (by repeat' (first | (with_reducible exact Below.refl _ _) | (with_reducible assumption) | (with_reducible refine Ext.below _ ?_ ?_) | (with_reducible refine Below.on ?_ (by with_reducible assumption) ?_) | (with_reducible refine Below.alloc ?_ ?_ _) | (with_reducible refine Below.drew ?_) | (with_reducible refine Below.setCell ?_ ?_ _) | (with_reducible exact Nat.le_refl _) | omega | (simp; done) | (simp [go_sem]; done) | (simp at *; omega))))))))); refine wpQuiet_nil ?_; rintro _ ⟨yr, rfl⟩; have syr := Ext.size yr; (repeat (first | rw [World.size_alloc] at syr | rw [World.size_setCell] at syr | rw [World.size_drew] at syr))) | (go_at_call 26; (first | with_reducible refine (Calls.giv2 (cg' _ (by repeat' (first | (with_reducible exact Below.refl _ _) | (with_reducible assumption) | (with_reducible refine Ext.below _ ?_ ?_) | (with_reducible refine Below.on ?_ (by with_reducible assumption) ?_) | (with_reducible refine Below.alloc ?_ ?_ _) | (with_reducible refine Below.drew ?_) | (with_reducible refine Below.setCell ?_ ?_ _) | (with_reducible exact Nat.le_refl _) | omega | (simp; done) | (simp [go_sem]; done) | (simp at *; omega))))).mono ?_ | with_reducible refine (Calls.giv (cg' _ (by repeat' (first | (with_reducible exact Below.refl _ _) | (with_reducible assumption) | (with_reducible refine Ext.below _ ?_ ?_) | (with_reducible refine Below.on ?_ (by with_reducible assumption) ?_) | (with_reducible refine Below.alloc ?_ ?_ _) | (with_reducible refine Below.drew ?_) | (with_reducible refine Below.setCell ?_ ?_ _) | (with_reducible exact Nat.le_refl _) | omega | (simp; done) | (simp [go_sem]; done) | (simp at *; omega))))).mono ?_); rintro _ _ ⟨y1, rfl, rfl⟩; have sy1 := Ext.size y1; (repeat (first | rw [World.size_alloc] at sy1 | rw [World.size_setCell] at sy1 | rw [World.size_drew] at sy1))) | (go_at_call 25; refine (cl _ (by repeat' (first | (with_reducible exact Below.refl _ _) | (with_reducible assumption) | (with_reducible refine Ext.below _ ?_ ?_) | (with_reducible refine Below.on ?_ (by with_reducible assumption) ?_) | (with_reducible refine Below.alloc ?_ ?_ _) | (with_reducible refine Below.drew ?_) | (with_reducible refine Below.setCell ?_ ?_ _) | (with_reducible exact Nat.le_refl _) | omega | (simp; done) | (simp [go_sem]; done) | (simp at *; omega))) _ (htr.out _ _ (by repeat' (first | (with_reducible exact Below.refl _ _) | (with_reducible assumption) | (with_reducible refine Ext.below _ ?_ ?_) | (with_reducible refine Below.on ?_ (by with_reducible assumption) ?_) | (with_reducible refine Below.alloc ?_ ?_ _) | (with_reducible refine Below.drew ?_) | (with_reducible refine Below.setCell ?_ ?_ _) | (with_reducible exact Nat.le_refl _) | omega | (simp; done) | (simp [go_sem]; done) | (simp at *; omega))) (by simp) (by simp [go_sem]) (by simp [go_sem]))).mono ?_; rintro _ W3 ⟨hb3, v3, vs, rfl, how, hin⟩; have hbw3 : Below w.heap.size w W3 := (by refine Below.on ?_ hb3 (by simp only [World.size_alloc]; omega); repeat' (first | (with_reducible exact Below.refl _ _) | (with_reducible assumption) | (with_reducible refine Ext.below _ ?_ ?_) | (with_reducible refine Below.on ?_ (by with_reducible assumption) ?_) | (with_reducible refine Below.alloc ?_ ?_ _) | (with_reducible refine Below.drew ?_) | (with_reducible refine Below.setCell ?_ ?_ _) | (with_reducible exact Nat.le_refl _) | omega | (simp; done) | (simp [go_sem]; done) | (simp at *; omega))); have hbs3 := hb3.size; simp only [World.size_alloc] at hbs3; obtain ⟨g, c, g0, c0, g1, c1, rfl, hgs, q0, q1, hw0, hgs1, hrow⟩ := two_looks (owns_base how (base' := w.heap.size) (by simp only [World.size_alloc]; omega)) (hin.base (b' := w.heap.size) (by simp only [World.size_alloc]; omega)) hx.1 hy.1; clear cl htr how hin))
      have hbw4 : Below w.heap.size w y1.now := by repeat' (first | (with_reducible exact Below.refl _ _) | (with_reducible assumption) | (with_reducible refine Ext.below _ ?_ ?_) | (with_reducible refine Below.on ?_ (by with_reducible assumption) ?_) | (with_reducible refine Below.alloc ?_ ?_ _) | (with_reducible refine Below.drew ?_) | (with_reducible refine Below.setCell ?_ ?_ _) | (with_reducible exact Nat.le_refl _) | omega | (simp; done) | (simp [go_sem]; done) | (simp at *; omega))
      have q0 := (y1.cell hgs).trans q0
      have q1 := (y1.cell hgs).trans q1
      have hw0 := owns_ext hw0 y1
      have hrow : ∀ j u, (rowsOf y)[j]? = some u → y1.now.cell? ⟨g1, j, none⟩ = some u := fun j u h => (y1.cell hgs1).trans (hrow j u h)
      have hgs := y1.lt hgs
      have hgs1 := y1.lt hgs1
      have hbs4 : w.heap.size < y1.now.heap.size := by omega
      generalize y1.now = W4 at *
      clear sy1 hb3 hbw3 hbs3
      clear y1
      have hrow := Go.Lib.hid hrow
      (first | with_reducible refine wp_region_ext2_heads 6 (by kernel_rfl) (by kernel_rfl) ?_ | with_reducible refine wp_region_ext_heads 6 (by kernel_rfl) (by kernel_rfl) ?_); simp only [List.take_succ_cons, List.take_zero, List.length_cons, List.length_nil, Nat.reduceAdd, Nat.reduceSub]; (repeat (first | go_big_quiet_step (fail) | quiet_step (fail))); refine wpQuiet_nil ?_; rintro _ ⟨yr, rfl⟩
      have syr := yr.size
      refine wpAny_ready (rs := [6]) (by kernel_rfl) (by simp) ?_
      refine AllReady.cons rfl (fun K hK => ?_) AllReady.nil
      refine Eq.mpr (if_pos rfl) ?_
      obtain ⟨i0, hi0, hz0, hz1, hz2⟩ := info_parts look_info
      refine wp_append_own _ _ _ 68 rfl w.heap.size 103 i0 _ 4 40 Try.underlying68 hi0 hz0 hz1 hz2 rfl (by decide) _ x.length (rowsOf x) rfl (owns_ext hw0 yr) ⟨g1, 0, none⟩ y.length c1 (rowsOf y) rfl (rowsOf_length y) ?_ (rowsOf_one y) (by unfold maxLen; omega) (by omega) (by omega) ?_
      · intro j u hu
        have hadd : (⟨g1, 0, none⟩ : Addr).add j = ⟨g1, j, none⟩ := by unfold Addr.add; split <;> simp_all
        rw [hadd]
        exact (yr.cell hgs1).trans (hrow.out j u hu)
      intro v5 W0 how5 hg5 _
      refine hK _ _ ?_
      clear hK K
      have hbw5 : Below w.heap.size w W0 := below_grown (hbw4.trans (yr.grew.mono (by omega))) (owns_ext hw0 yr) (Nat.le_refl _) (by omega) hg5
      rw [← rowsOf_append, ← List.length_append] at how5
      have hsz5 : w.heap.size < W0.heap.size := by have := hg5.size; omega
      have hfit : ∀ j (h : j < (x ++ y).length), (x ++ y)[j].Fit := fun j h => by
        rcases List.mem_append.1 (List.getElem_mem h) with hm | hm
        · exact fx _ hm
        · exact fy _ hm
      have hlen : (x ++ y).length ≤ 128 := by rw [List.length_append]; omega
      obtain ⟨p5, c5, rfl, hL⟩ := owns_looks how5
      clear how5 hg5 hrow hw0 hgs hgs1 q0 q1 hbw4 hbs4 syr fx fy hx hy hi0 hz0 hz1 hz2 i0
      generalize x ++ y = both at *
      refine wpAny_ready (rs := [7]) (by kernel_rfl) (by simp) ?_
      refine AllReady.cons rfl (fun K hK => ?_) AllReady.nil
      go_simp
      refine hK _ _ ?_
      clear hK K
      refine wpAny_done (by kernel_rfl) ?_ _
      obtain ⟨R, hR⟩ : ∃ R, linkA t both [] 0 gs = R := ⟨_, rfl⟩
      rw [hR] at hV
      have hR := Go.Lib.hid hR
      have hP := Go.Lib.hid (hg.out.on hbw5)
      have hL := Go.Lib.hid hL
      have gf := Go.Lib.hid gf
      have hfit := Go.Lib.hid hfit
      have hV := Go.Lib.hid hV
      obtain ⟨i0, hi0, hz0, hz1, hz2⟩ := info_parts int_info
      go_wp2_with (first | ((first | with_reducible refine wp_region_ext2 (by kernel_rfl) (by kernel_rfl) ?_ | with_reducible refine wp_region_ext (by kernel_rfl) (by kernel_rfl) ?_); (repeat (first | go_big_quiet_step ((first | fail)) | quiet_step ((first | fail)))); refine wpQuiet_nil ?_; rintro _ ⟨yr, rfl⟩; have syr := Ext.size yr; (repeat (first | rw [World.size_alloc] at syr | rw [World.size_setCell] at syr | rw [World.size_drew] at syr))))
      have hlen0 : gs.length ≤ 64 := gn
      clear gn
      go_loopw [17, 47] (fun v u W => ∃ (i : Nat) (x : Ext W0) (acc : List Int), u = .int .i64 i ∧ W = x.now ∧ x.now.ownsRow W0.heap.size 3 1 v acc.length (intsOf acc) ∧ Hid (i ≤ gs.length ∧ acc.length = i ∧ linkA t both acc i (gs.drop i) = R)) (fun _ u _ => gs.length - (intOf u).toNat)
      case atStart => exact ⟨0, ⟨W0, Below.refl _ _⟩, [], rfl, rfl, World.ownsRow_nil _ _ _ _, Go.Lib.hid ⟨Nat.zero_le _, rfl, by simpa using hR.out⟩⟩
      case round =>
        obtain ⟨i, x, acc, rfl, rfl, hown, hi⟩ := hrel
        have xs := x.size
        have hbx := x.below hbw5 (by omega)
        by_cases hlt : i < gs.length
        · have hlt2 : (i : Int) < gs.length := by omega
          obtain ⟨B, o, rfl, hB, r1, r2, r3, r4⟩ := hP.out i hlt
          have hE := hi.out.2.2
          have hil := hi.out.2.1
          rw [drop_at hlt, linkA] at hE
          have : B < (x.now).heap.size := (by omega); have : B < (x.now).heap.size + 1 := (by omega); have : B < (x.now).heap.size + 1 + 1 := (by omega); have : B ≠ (x.now).heap.size := (by omega); have : B ≠ (x.now).heap.size + 1 := (by omega)
          have cm := fun (W : World) (y : Below W0.heap.size W0 W) => misses_any gs[i] t p5 c5 both W (gf.out i hlt) gt' (by omega) (hL.out.on y) hfit.out
          cases hm : missL gs[i] t both with
          | nil =>
            rw [hm] at hE cm
            simp only at hE
            have e1 : V = ⟨i, [], 0⟩ := by rw [← hV.out, ← hE]
            clear hE hi hm hil hV hR
            subst e1
            generalize gs[i].x = g1' at *
            generalize gs[i].y = g2' at *
            generalize gs[i].u = g3' at *
            generalize gs[i].v = g4' at *
            go_wp2_with (first | ((first | with_reducible refine wp_region_ext2 (by kernel_rfl) (by kernel_rfl) ?_ | with_reducible refine wp_region_ext (by kernel_rfl) (by kernel_rfl) ?_); (repeat (first | go_big_quiet_step ((first | fail)) | quiet_step ((first | fail)))); refine wpQuiet_nil ?_; rintro _ ⟨yr, rfl⟩; have syr := Ext.size yr; (repeat (first | rw [World.size_alloc] at syr | rw [World.size_setCell] at syr | rw [World.size_drew] at syr)); have : B < yr.now.heap.size := (by omega); have : B ≤ yr.now.heap.size := (by omega); have : B < yr.now.heap.size + 1 + 1 := (by omega)) | (go_at_call 27; refine (cm _ (by repeat' (first | (with_reducible exact Below.refl _ _) | (with_reducible assumption) | (with_reducible refine Ext.below _ ?_ ?_) | (with_reducible refine Below.on ?_ (by with_reducible assumption) ?_) | (with_reducible refine Below.alloc ?_ ?_ _) | (with_reducible refine Below.drew ?_) | (with_reducible refine Below.setCell ?_ ?_ _) | (with_reducible exact Nat.le_refl _) | omega | (simp; done) | (simp [go_sem]; done) | (simp at *; omega)))).mono ?_; rintro _ W6 ⟨hb6, v6, rfl, how6⟩; obtain ⟨p6, n6', c6', rfl⟩ := owns_isSlice how6; have hbw6 : Below w.heap.size w W6 := (by refine Below.on ?_ hb6 (by simp only [World.size_alloc]; omega); repeat' (first | (with_reducible exact Below.refl _ _) | (with_reducible assumption) | (with_reducible refine Ext.below _ ?_ ?_) | (with_reducible refine Below.on ?_ (by with_reducible assumption) ?_) | (with_reducible refine Below.alloc ?_ ?_ _) | (with_reducible refine Below.drew ?_) | (with_reducible refine Below.setCell ?_ ?_ _) | (with_reducible exact Nat.le_refl _) | omega | (simp; done) | (simp [go_sem]; done) | (simp at *; omega))); have hz6 : n6' = 0 := (owns_len how6); subst hz6; clear cm how6))
            go_returns
            refine ⟨?_, _, rfl, World.ownsRow_nil _ _ _ _⟩
            repeat' (first | (with_reducible exact Below.refl _ _) | (with_reducible assumption) | (with_reducible refine Ext.below _ ?_ ?_) | (with_reducible refine Below.on ?_ (by with_reducible assumption) ?_) | (with_reducible refine Below.alloc ?_ ?_ _) | (with_reducible refine Below.drew ?_) | (with_reducible refine Below.setCell ?_ ?_ _) | (with_reducible exact Nat.le_refl _) | omega | (simp; done) | (simp [go_sem]; done) | (simp at *; omega))
          | cons m ms =>
            rw [hm] at hE cm
            simp only at hE
            have hadd := Go.Lib.hid (intsOf_add acc m)
            have key : Hid (i + 1 ≤ gs.length ∧ (acc ++ [m]).length = i + 1 ∧ linkA t both (acc ++ [m]) (i + 1) (gs.drop (i + 1)) = R) := Go.Lib.hid ⟨hlt, by simp [hil], hE⟩
            clear hE hi hm
            generalize gs[i].x = g1' at *
            generalize gs[i].y = g2' at *
            generalize gs[i].u = g3' at *
            generalize gs[i].v = g4' at *
            go_wp2_with (first | ((first | with_reducible refine wp_region_ext2 (by kernel_rfl) (by kernel_rfl) ?_ | with_reducible refine wp_region_ext (by kernel_rfl) (by kernel_rfl) ?_); (repeat (first | go_big_quiet_step ((first | fail)) | quiet_step ((first | fail)))); refine wpQuiet_nil ?_; rintro _ ⟨yr, rfl⟩; have syr := Ext.size yr; (repeat (first | rw [World.size_alloc] at syr | rw [World.size_setCell] at syr | rw [World.size_drew] at syr)); have : B < yr.now.heap.size := (by omega); have : B ≤ yr.now.heap.size := (by omega); have : B < yr.now.heap.size + 1 + 1 := (by omega)) | (go_at_call 27; refine (cm _ (by repeat' (first | (with_reducible exact Below.refl _ _) | (with_reducible assumption) | (with_reducible refine Ext.below _ ?_ ?_) | (with_reducible refine Below.on ?_ (by with_reducible assumption) ?_) | (with_reducible refine Below.alloc ?_ ?_ _) | (with_reducible refine Below.drew ?_) | (with_reducible refine Below.setCell ?_ ?_ _) | (with_reducible exact Nat.le_refl _) | omega | (simp; done) | (simp [go_sem]; done) | (simp at *; omega)))).mono ?_; rintro _ W6 ⟨hb6, v6, rfl, how6⟩; obtain ⟨g6, c6', rfl, hg6, hq6⟩ := owns_first how6; have hbs6 := hb6.size; simp only [World.size_alloc] at hbs6; have hbx6 : Below W0.heap.size W0 W6 := (by refine Below.on ?_ hb6 (by simp only [World.size_alloc]; omega); repeat' (first | (with_reducible exact Below.refl _ _) | (with_reducible assumption) | (with_reducible refine Ext.below _ ?_ ?_) | (with_reducible refine Below.on ?_ (by with_reducible assumption) ?_) | (with_reducible refine Below.alloc ?_ ?_ _) | (with_reducible refine Below.drew ?_) | (with_reducible refine Below.setCell ?_ ?_ _) | (with_reducible exact Nat.le_refl _) | omega | (simp; done) | (simp [go_sem]; done) | (simp at *; omega))); have hown := owns_below (World.ownsRow.alloc hown _) hb6; have hlm : ¬ ((ms.length : Int) + 1 = 0) := (by omega); have hlm2 : (0 : Int) < (ms.length : Int) + 1 := (by omega); clear cm how6) | (at_builtin; refine wpList_append_own _ rfl _ _ 22 rfl W0.heap.size 3 i0 _ 1 8 Try.underlying22 hi0 hz0 hz1 hz2 rfl (by decide) _ acc.length (intsOf acc) rfl (by repeat (first | exact hown | (with_reducible refine World.ownsRow.alloc ?_ _) | (with_reducible refine World.ownsRow.drew ?_) | (with_reducible refine owns_ext ?_ _))) _ 1 1 _ rfl rfl (cells1_new _ _ _) (by intro u hu; simp only [List.mem_cons, List.not_mem_nil, or_false] at hu; subst hu; rfl) (by unfold maxLen; omega) (by omega) (by (try simp only [World.size_alloc]); omega) ?_; intro v' W2 hown' hgrow _; have hbel : Below W0.heap.size W0 W2 := (by refine below_grown (e := 3) (size := 1) (n := acc.length) (xs := intsOf acc) ?_ (by repeat (first | exact hown | (with_reducible refine World.ownsRow.alloc ?_ _) | (with_reducible refine World.ownsRow.drew ?_) | (with_reducible refine owns_ext ?_ _))) (Nat.le_refl _) (by (try simp only [World.size_alloc]); omega) hgrow; repeat' (first | (with_reducible exact Below.refl _ _) | (with_reducible assumption) | (with_reducible refine Ext.below _ ?_ ?_) | (with_reducible refine Below.on ?_ (by with_reducible assumption) ?_) | (with_reducible refine Below.alloc ?_ ?_ _) | (with_reducible refine Below.drew ?_) | (with_reducible refine Below.setCell ?_ ?_ _) | (with_reducible exact Nat.le_refl _) | omega | (simp; done) | (simp [go_sem]; done) | (simp at *; omega)))))
            refine ⟨⟨i + 1, ⟨_, hbel⟩, acc ++ [m], by simp, rfl, by rw [hadd.out, List.length_append]; exact hown', key⟩, by simp [intOf]; omega⟩
        · have hge : ¬ (i : Int) < gs.length := by omega
          have hE := hi.out.2.2
          rw [drop_end hlt, linkA] at hE
          have e1 : V = ⟨-1, acc, 0⟩ := by rw [← hV.out, ← hE]
          clear hi hV hR hE
          subst e1
          go_wp2_with (first | ((first | with_reducible refine wp_region_ext2 (by kernel_rfl) (by kernel_rfl) ?_ | with_reducible refine wp_region_ext (by kernel_rfl) (by kernel_rfl) ?_); (repeat (first | go_big_quiet_step ((first | fail)) | quiet_step ((first | fail)))); refine wpQuiet_nil ?_; rintro _ ⟨yr, rfl⟩; have syr := Ext.size yr; (repeat (first | rw [World.size_alloc] at syr | rw [World.size_setCell] at syr | rw [World.size_drew] at syr))))
          go_returns
          refine ⟨?_, _, rfl, owns_base hown (by omega)⟩
          repeat' (first | (with_reducible exact Below.refl _ _) | (with_reducible assumption) | (with_reducible refine Ext.below _ ?_ ?_) | (with_reducible refine Below.on ?_ (by with_reducible assumption) ?_) | (with_reducible refine Below.alloc ?_ ?_ _) | (with_reducible refine Below.drew ?_) | (with_reducible refine Below.setCell ?_ ?_ _) | (with_reducible exact Nat.le_refl _) | omega | (simp; done) | (simp [go_sem]; done) | (simp at *; omega))
    · rw [if_neg hge] at hV
      subst hV
      generalize guessesE gs t = ge at *
      go_enter Try.func10, Try.ntmps10
      go_wp2_with (first | ((first | with_reducible refine wp_region_ext2 (by kernel_rfl) (by kernel_rfl) ?_ | with_reducible refine wp_region_ext (by kernel_rfl) (by kernel_rfl) ?_); (repeat (first | go_big_quiet_step ((first | (go_at_call 26; with_reducible exact Calls.ext (cg' _ (by repeat' (first | (with_reducible exact Below.refl _ _) | (with_reducible assumption) | (with_reducible refine Ext.below _ ?_ ?_) | (with_reducible refine Below.on ?_ (by with_reducible assumption) ?_) | (with_reducible refine Below.alloc ?_ ?_ _) | (with_reducible refine Below.drew ?_) | (with_reducible refine Below.setCell ?_ ?_ _) | (with_reducible exact Nat.le_refl _) | omega | (simp; done) | (simp [go_sem]; done) | (simp at *; omega))))))) | quiet_step ((first | (go_at_call 26; with_reducible exact Calls.ext (cg' _ (by repeat' (first | (with_reducible exact Below.refl _ _) | (with_reducible assumption) | (with_reducible refine Ext.below _ ?_ ?_) | (with_reducible refine Below.on ?_ (by with_reducible assumption) ?_) | (with_reducible refine Below.alloc ?_ ?_ _) | (with_reducible refine Below.drew ?_) | (with_reducible refine Below.setCell ?_ ?_ _) | (with_reducible exact Nat.le_refl _) | omega | (simp; done) | (simp [go_sem]; done) | (simp at *; omega))))))))); refine wpQuiet_nil ?_; rintro _ ⟨yr, rfl⟩; have syr := Ext.size yr; (repeat (first | rw [World.size_alloc] at syr | rw [World.size_setCell] at syr | rw [World.size_drew] at syr))) | (go_at_call 26; (first | with_reducible refine (Calls.giv2 (cg' _ (by repeat' (first | (with_reducible exact Below.refl _ _) | (with_reducible assumption) | (with_reducible refine Ext.below _ ?_ ?_) | (with_reducible refine Below.on ?_ (by with_reducible assumption) ?_) | (with_reducible refine Below.alloc ?_ ?_ _) | (with_reducible refine Below.drew ?_) | (with_reducible refine Below.setCell ?_ ?_ _) | (with_reducible exact Nat.le_refl _) | omega | (simp; done) | (simp [go_sem]; done) | (simp at *; omega))))).mono ?_ | with_reducible refine (Calls.giv (cg' _ (by repeat' (first | (with_reducible exact Below.refl _ _) | (with_reducible assumption) | (with_reducible refine Ext.below _ ?_ ?_) | (with_reducible refine Below.on ?_ (by with_reducible assumption) ?_) | (with_reducible refine Below.alloc ?_ ?_ _) | (with_reducible refine Below.drew ?_) | (with_reducible refine Below.setCell ?_ ?_ _) | (with_reducible exact Nat.le_refl _) | omega | (simp; done) | (simp [go_sem]; done) | (simp at *; omega))))).mono ?_); rintro _ _ ⟨y1, rfl, rfl⟩; have sy1 := Ext.size y1; (repeat (first | rw [World.size_alloc] at sy1 | rw [World.size_setCell] at sy1 | rw [World.size_drew] at sy1))) | (go_at_call 25; refine (cl _ (by repeat' (first | (with_reducible exact Below.refl _ _) | (with_reducible assumption) | (with_reducible refine Ext.below _ ?_ ?_) | (with_reducible refine Below.on ?_ (by with_reducible assumption) ?_) | (with_reducible refine Below.alloc ?_ ?_ _) | (with_reducible refine Below.drew ?_) | (with_reducible refine Below.setCell ?_ ?_ _) | (with_reducible exact Nat.le_refl _) | omega | (simp; done) | (simp [go_sem]; done) | (simp at *; omega))) _ (htr.out _ _ (by repeat' (first | (with_reducible exact Below.refl _ _) | (with_reducible assumption) | (with_reducible refine Ext.below _ ?_ ?_) | (with_reducible refine Below.on ?_ (by with_reducible assumption) ?_) | (with_reducible refine Below.alloc ?_ ?_ _) | (with_reducible refine Below.drew ?_) | (with_reducible refine Below.setCell ?_ ?_ _) | (with_reducible exact Nat.le_refl _) | omega | (simp; done) | (simp [go_sem]; done) | (simp at *; omega))) (by simp) (by simp [go_sem]) (by simp [go_sem]))).mono ?_; rintro _ W3 ⟨hb3, v3, vs, rfl, how, hin⟩; have hbw3 : Below w.heap.size w W3 := (by refine Below.on ?_ hb3 (by simp only [World.size_alloc]; omega); repeat' (first | (with_reducible exact Below.refl _ _) | (with_reducible assumption) | (with_reducible refine Ext.below _ ?_ ?_) | (with_reducible refine Below.on ?_ (by with_reducible assumption) ?_) | (with_reducible refine Below.alloc ?_ ?_ _) | (with_reducible refine Below.drew ?_) | (with_reducible refine Below.setCell ?_ ?_ _) | (with_reducible exact Nat.le_refl _) | omega | (simp; done) | (simp [go_sem]; done) | (simp at *; omega))); have hbs3 := hb3.size; simp only [World.size_alloc] at hbs3; clear cl htr how hin))
      go_returns
      refine ⟨?_, _, rfl, World.ownsRow_nil _ _ _ _⟩
      repeat' (first | (with_reducible exact Below.refl _ _) | (with_reducible assumption) | (with_reducible refine Ext.below _ ?_ ?_) | (with_reducible refine Below.on ?_ (by with_reducible assumption) ?_) | (with_reducible refine Below.alloc ?_ ?_ _) | (with_reducible refine Below.drew ?_) | (with_reducible refine Below.setCell ?_ ?_ _) | (with_reducible exact Nat.le_refl _) | omega | (simp; done) | (simp [go_sem]; done) | (simp at *; omega))
end Go.Proofs.Ytgoilmiiegpnoaa

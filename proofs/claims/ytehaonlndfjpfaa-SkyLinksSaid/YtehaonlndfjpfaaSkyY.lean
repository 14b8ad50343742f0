/- Contract of allLooks: the looks of each tracklet, or the first error. Condition: a sky and the tracklets in memory. -/
import Derived.Test.YtehaonlndfjpfaaSkyX
namespace Go.Proofs.Ytehaonlndfjpfaa
open Go.RowKit Go.Shelf
attribute [local go_sem] Option.isSome_some Ext.cell Ext.frozen Ext.lt Ext.le Ext.lt_add Ext.le_add Ext.ne Ext.ne' lt2 lt3 lt4 lt5 le2 le3 le4
structure TrR where
  p : Option Addr
  c : Nat
  l : List SightR
def TracksAt (W : World) (p : Option Addr) (ts : List TrR) : Prop := ∀ j (h : j < ts.length), SightsAt W ts[j].p ts[j].l ∧ ∃ B o, p = some ⟨B, o, none⟩ ∧ B < W.heap.size ∧ W.cell? ⟨B, o + j, none⟩ = some (.slice ts[j].p ts[j].l.length ts[j].c)
theorem TracksAt.ext {W : World} {p : Option Addr} {l : List TrR} (h : TracksAt W p l) (x : Ext W) : TracksAt x.now p l := fun j hj => by
  obtain ⟨hs, B, o, rfl, hB, h1⟩ := h j hj
  exact ⟨hs.ext x, B, o, rfl, x.lt hB, (x.cell hB).trans h1⟩
theorem TracksAt.on {W W' : World} {p : Option Addr} {l : List TrR} (h : TracksAt W p l) (b : Below W.heap.size W W') : TracksAt W' p l := h.ext ⟨W', b⟩
/-- Lists of looks in a list. -/
def InnerAt (W : World) (base : Nat) : List Value → List (List LookR) → Prop
  | [], [] => True
  | u :: vs, ks :: kss => W.ownsRow base 104 4 u ks.length (rowsOf ks) ∧ InnerAt W base vs kss
  | _, _ => False
theorem InnerAt.map {W W' : World} {base : Nat} : ∀ {vs : List Value} {kss : List (List LookR)}, InnerAt W base vs kss → (∀ v n xs, W.ownsRow base 104 4 v n xs → W'.ownsRow base 104 4 v n xs) → InnerAt W' base vs kss
  | [], [], _, _ => trivial
  | _ :: _, _ :: _, h, f => ⟨f _ _ _ h.1, InnerAt.map h.2 f⟩
  | [], _ :: _, h, _ => h.elim
  | _ :: _, [], h, _ => h.elim
theorem InnerAt.base {W : World} {b b' : Nat} (hb : b' ≤ b) : ∀ {vs : List Value} {kss : List (List LookR)}, InnerAt W b vs kss → InnerAt W b' vs kss
  | [], [], _ => trivial
  | _ :: _, _ :: _, h => ⟨owns_base h.1 hb, InnerAt.base hb h.2⟩
  | [], _ :: _, h => h.elim
  | _ :: _, [], h => h.elim
theorem InnerAt.snoc {W : World} {base : Nat} {u : Value} {ks : List LookR} (h2 : W.ownsRow base 104 4 u ks.length (rowsOf ks)) : ∀ {vs : List Value} {kss : List (List LookR)}, InnerAt W base vs kss → InnerAt W base (vs ++ [u]) (kss ++ [ks])
  | [], [], _ => ⟨h2, trivial⟩
  | _ :: _, _ :: _, h => ⟨h.1, InnerAt.snoc h2 h.2⟩
  | [], _ :: _, h => h.elim
  | _ :: _, [], h => h.elim
theorem InnerAt.length {W : World} {base : Nat} : ∀ {vs : List Value} {kss : List (List LookR)}, InnerAt W base vs kss → vs.length = kss.length
  | [], [], _ => rfl
  | _ :: _, _ :: _, h => by simp [InnerAt.length h.2]
  | [], _ :: _, h => h.elim
  | _ :: _, [], h => h.elim
theorem InnerAt.below {W W' : World} {base : Nat} {vs : List Value} {kss : List (List LookR)} (h : InnerAt W base vs kss) (b : Below W.heap.size W W') : InnerAt W' base vs kss := h.map fun _ _ _ g => owns_below g b
theorem InnerAt.alloc {W : World} {base : Nat} {vs : List Value} {kss : List (List LookR)} (h : InnerAt W base vs kss) (o : Obj) : InnerAt (W.alloc o) base vs kss := h.map fun _ _ _ g => g.alloc o
theorem owns_apart {w : World} {b b' : Nat} {e e' : TypeId} {s s' : Nat} {v v' : Value} {n n' : Nat} {xs xs' : List Value} (h : w.ownsRow b e s v n xs) (h' : w.ownsRow b' e' s' v' n' xs') (he : e ≠ e') : v.ownBlock = none ∨ v.ownBlock ≠ v'.ownBlock := by
  rcases h.2 with ⟨rfl, _⟩ | ⟨g, cap, cur, rfl, _, hg, _⟩
  · exact .inl rfl
  · rcases h'.2 with ⟨rfl, _⟩ | ⟨g', cap', cur', rfl, _, hg', _⟩
    · exact .inr (by simp [Value.ownBlock])
    · refine .inr fun hh => ?_
      simp only [Value.ownBlock, Option.some.injEq] at hh
      subst hh
      rw [hg] at hg'
      simp only [Option.some.injEq, Obj.cells.injEq] at hg'
      exact he hg'.2.1
theorem InnerAt.grown {W W' : World} {base : Nat} {vs : List Value} {kss : List (List LookR)} {v : Value} {n : Nat} {xs : List Value} (h : InnerAt W base vs kss) (hown : W.ownsRow base 68 1 v n xs) (hg : W.grownBy W' v.ownBlock) : InnerAt W' base vs kss :=
  h.map fun _ _ _ g => g.kept hg (owns_apart g hown (by decide))
def allA (s : SkyR) : List (List LookR) → List TrR → Except Int (List (List LookR))
  | acc, [] => .ok acc
  | acc, t :: ts => match looksR s t.l with
    | .error e => .error e
    | .ok ks => allA s (acc ++ [ks]) ts
def allR (s : SkyR) (ts : List TrR) : Except Int (List (List LookR)) := if skyE s = 0 then allA s [] ts else .error (skyE s)
theorem looksA_err {s : SkyR} : ∀ {l : List SightR} {acc : List LookR} {prev : Option Int} {e : Int}, looksA s acc prev l = .error e → e ≠ 0 := by
  intro l
  induction l with
  | nil => intro acc prev e h; cases h
  | cons x l ih =>
    intro acc prev e h
    rw [looksA] at h
    cases hr : lookR s x with
    | error e' => rw [hr] at h; injection h with h; rw [← h]; exact lookR_err hr
    | ok k =>
      rw [hr] at h
      simp only at h
      split at h
      · injection h; omega
      · exact ih h
theorem looksR_err {s : SkyR} {l : List SightR} {e : Int} (h : looksR s l = .error e) : e ≠ 0 := by
  unfold looksR at h
  by_cases h1 : cntE l.length 1 64 = 0
  · rw [if_pos h1] at h; exact looksA_err h
  · rw [if_neg h1] at h; injection h with h; rw [← h]; exact h1
def AllPost (w : World) (r : Except Int (List (List LookR))) : Ending → World → Prop := fun e w' => Below w.heap.size w w' ∧ match r with
  | .error n => e = .returned (.tuple #[.slice none 0 0, .int .i64 n])
  | .ok kss => ∃ v vs, e = .returned (.tuple #[v, .int .i64 0]) ∧ w'.ownsRow w.heap.size 68 1 v kss.length vs ∧ InnerAt w' w.heap.size vs kss
theorem slice_info : (Try.prog.info? 68).map (fun i => (i.zero, i.size, i.bytes)) = some (some (.slice none 0 0), 1, 24) := by kernel_rfl
theorem owns_isSlice {w : World} {b : Nat} {e : TypeId} {s : Nat} {v : Value} {n : Nat} {xs : List Value} (h : w.ownsRow b e s v n xs) : ∃ p n c, v = .slice p n c := by
  rcases h.2 with ⟨rfl, _⟩ | ⟨g, cap, cur, rfl, _⟩
  · exact ⟨_, _, _, rfl⟩
  · exact ⟨_, _, _, rfl⟩
set_option maxRecDepth 100000 in
set_option maxHeartbeats 16000000 in
theorem allLooks_any (s : SkyR) (p : Option Addr) (c : Nat) (l : List TrR) (w : World) (hn : l.length ≤ 4096) (hA : s.At w) (hP : TracksAt w p l) :
    Calls Try.prog 40 #[s.val, .slice p l.length c] w (AllPost w (allR s l)) := by
  have cs := fun (W : World) (y : Below w.heap.size w W) => Check_any s W (hA.on y)
  unfold allR
  by_cases hc : skyE s = 0
  · rw [if_pos hc]
    have cl := Go.Lib.hid (fun (W : World) (y : Below w.heap.size w W) (p : Option Addr) (c : Nat) (l : List SightR) (h : SightsAt W p l) => looksOf_any s p c l W (hA.on y) hc h)
    rw [hc] at cs
    have ce := Go.Lib.hid (fun l e (h : looksR s l = .error e) => looksR_err h)
    clear hc
    obtain ⟨V, hV⟩ : ∃ V, allA s [] l = V := ⟨_, rfl⟩
    rw [hV]
    have hV := Go.Lib.hid hV
    have hP := Go.Lib.hid hP
    obtain ⟨i0, hi0, hz0, hz1, hz2⟩ := info_parts slice_info
    unfold SkyR.val at *
    clear hA
    obtain ⟨n1, hn1⟩ : ∃ a, s.cats.length = a := ⟨_, rfl⟩
    obtain ⟨n2, hn2⟩ : ∃ a, s.cp = a := ⟨_, rfl⟩
    obtain ⟨n3, hn3⟩ : ∃ a, s.cc = a := ⟨_, rfl⟩
    obtain ⟨n4, hn4⟩ : ∃ a, s.bodies.length = a := ⟨_, rfl⟩
    obtain ⟨n5, hn5⟩ : ∃ a, s.bp = a := ⟨_, rfl⟩
    obtain ⟨n6, hn6⟩ : ∃ a, s.bc = a := ⟨_, rfl⟩
    obtain ⟨n7, hn7⟩ : ∃ a, s.sts.length = a := ⟨_, rfl⟩
    obtain ⟨n8, hn8⟩ : ∃ a, s.sp = a := ⟨_, rfl⟩
    obtain ⟨n9, hn9⟩ : ∃ a, s.sc = a := ⟨_, rfl⟩
    obtain ⟨n0, hn0⟩ : ∃ a, s.home = a := ⟨_, rfl⟩
    have cl := cl.out
    simp only [hn0, hn1, hn2, hn3, hn4, hn5, hn6, hn7, hn8, hn9] at cl cs ⊢
    have cl := Go.Lib.hid cl
    clear hn0 hn1 hn2 hn3 hn4 hn5 hn6 hn7 hn8 hn9
    go_enter Try.func40, Try.ntmps40
    go_wp2_with (first | ((first | with_reducible refine wp_region_ext2 (by kernel_rfl) (by kernel_rfl) ?_ | with_reducible refine wp_region_ext (by kernel_rfl) (by kernel_rfl) ?_); (repeat (first | go_big_quiet_step ((first | (go_at_call 31; with_reducible exact Calls.ext (cs _ (by repeat' (first | (with_reducible exact Below.refl _ _) | (with_reducible assumption) | (with_reducible refine Ext.below _ ?_ ?_) | (with_reducible refine Below.on ?_ (by with_reducible assumption) ?_) | (with_reducible refine Below.alloc ?_ ?_ _) | (with_reducible refine Below.drew ?_) | (with_reducible refine Below.setCell ?_ ?_ _) | (with_reducible exact Nat.le_refl _) | omega | (simp; done) | (simp [go_sem]; done) | (simp at *; omega))))))) | quiet_step ((first | (go_at_call 31; with_reducible exact Calls.ext (cs _ (by repeat' (first | (with_reducible exact Below.refl _ _) | (with_reducible assumption) | (with_reducible refine Ext.below _ ?_ ?_) | (with_reducible refine Below.on ?_ (by with_reducible assumption) ?_) | (with_reducible refine Below.alloc ?_ ?_ _) | (with_reducible refine Below.drew ?_) | (with_reducible refine Below.setCell ?_ ?_ _) | (with_reducible exact Nat.le_refl _) | omega | (simp; done) | (simp [go_sem]; done) | (simp at *; omega))))))))); refine wpQuiet_nil ?_; rintro _ ⟨yr, rfl⟩; have syr := Ext.size yr; (repeat (first | rw [World.size_alloc] at syr | rw [World.size_setCell] at syr | rw [World.size_drew] at syr))) | (go_at_call 31; (first | with_reducible refine (Calls.giv2 (cs _ (by repeat' (first | (with_reducible exact Below.refl _ _) | (with_reducible assumption) | (with_reducible refine Ext.below _ ?_ ?_) | (with_reducible refine Below.on ?_ (by with_reducible assumption) ?_) | (with_reducible refine Below.alloc ?_ ?_ _) | (with_reducible refine Below.drew ?_) | (with_reducible refine Below.setCell ?_ ?_ _) | (with_reducible exact Nat.le_refl _) | omega | (simp; done) | (simp [go_sem]; done) | (simp at *; omega))))).mono ?_ | with_reducible refine (Calls.giv (cs _ (by repeat' (first | (with_reducible exact Below.refl _ _) | (with_reducible assumption) | (with_reducible refine Ext.below _ ?_ ?_) | (with_reducible refine Below.on ?_ (by with_reducible assumption) ?_) | (with_reducible refine Below.alloc ?_ ?_ _) | (with_reducible refine Below.drew ?_) | (with_reducible refine Below.setCell ?_ ?_ _) | (with_reducible exact Nat.le_refl _) | omega | (simp; done) | (simp [go_sem]; done) | (simp at *; omega))))).mono ?_); rintro _ _ ⟨y1, rfl, rfl⟩; have sy1 := Ext.size y1; (repeat (first | rw [World.size_alloc] at sy1 | rw [World.size_setCell] at sy1 | rw [World.size_drew] at sy1))))
    refine wp_named (fun W0 hW => ?_)
    have hBw : Below w.heap.size w W0 := by rw [← hW]; repeat' (first | (with_reducible exact Below.refl _ _) | (with_reducible assumption) | (with_reducible refine Ext.below _ ?_ ?_) | (with_reducible refine Below.on ?_ (by with_reducible assumption) ?_) | (with_reducible refine Below.alloc ?_ ?_ _) | (with_reducible refine Below.drew ?_) | (with_reducible refine Below.setCell ?_ ?_ _) | (with_reducible exact Nat.le_refl _) | omega | (simp; done) | (simp [go_sem]; done) | (simp at *; omega))
    have hs0 : w.heap.size < W0.heap.size := by rw [← hW]; omega
    have c0 : W0.cell? ⟨w.heap.size, 0, none⟩ = some (.slice n5 n4 n6) := by rw [← hW]; simp [go_sem]
    have c1 : W0.cell? ⟨w.heap.size, 1, none⟩ = some (.int .i64 n0) := by rw [← hW]; simp [go_sem]
    have c2 : W0.cell? ⟨w.heap.size, 2, none⟩ = some (.slice n8 n7 n9) := by rw [← hW]; simp [go_sem]
    have c3 : W0.cell? ⟨w.heap.size, 3, none⟩ = some (.slice n2 n1 n3) := by rw [← hW]; simp [go_sem]
    have hP := Go.Lib.hid (hP.out.on hBw)
    clear hW sy1
    clear y1
    go_loopw [7, 19] (fun v t W => ∃ (i : Nat) (x : Ext W0) (acc : List (List LookR)) (vs : List Value), t = .int .i64 i ∧ W = x.now ∧ x.now.ownsRow W0.heap.size 68 1 v i vs ∧ Hid (InnerAt x.now W0.heap.size vs acc ∧ i ≤ l.length ∧ acc.length = i ∧ allA s acc (l.drop i) = V)) (fun _ t _ => l.length - (intOf t).toNat)
    case atStart => exact ⟨0, ⟨W0, Below.refl _ _⟩, [], [], rfl, rfl, World.ownsRow_nil _ _ _ _, Go.Lib.hid ⟨trivial, Nat.zero_le _, rfl, by simpa using hV.out⟩⟩
    case round =>
      obtain ⟨i, x, acc, vs, rfl, rfl, hown, hi⟩ := hrel
      have xs := x.size
      have hbx := x.below hBw (by omega)
      have hsw : w.heap.size < x.now.heap.size := by omega
      by_cases hlt : i < l.length
      · have hlt2 : (i : Int) < l.length := by omega
        obtain ⟨hs, B, o, rfl, hB, q1⟩ := hP.out i hlt
        have hE := hi.out.2.2.2
        have hil := hi.out.2.2.1
        have hinn := Go.Lib.hid hi.out.1
        rw [drop_at hlt, allA] at hE
        have : B < (x.now).heap.size := (by omega); have : B < (x.now).heap.size + 1 := (by omega); have : B < (x.now).heap.size + 1 + 1 := (by omega); have : B ≠ (x.now).heap.size := (by omega); have : B ≠ (x.now).heap.size + 1 := (by omega)
        have : w.heap.size < (x.now).heap.size := (by omega); have : w.heap.size < (x.now).heap.size + 1 := (by omega); have : w.heap.size < (x.now).heap.size + 1 + 1 := (by omega); have : w.heap.size ≠ (x.now).heap.size := (by omega); have : w.heap.size ≠ (x.now).heap.size + 1 := (by omega)
        have cl := cl.out x.now hbx l[i].p l[i].c l[i].l (hs.ext x)
        cases hr : looksR s l[i].l with
        | error e =>
          rw [hr] at hE cl
          have e0 := ce.out _ _ hr
          clear hr hi hV hs hinn
          simp only at hE
          subst hE
          generalize l[i].l.length = g1 at *
          generalize l[i].p = g2 at *
          generalize l[i].c = g3 at *
          go_wp2_with (first | ((first | with_reducible refine wp_region_ext2 (by kernel_rfl) (by kernel_rfl) ?_ | with_reducible refine wp_region_ext (by kernel_rfl) (by kernel_rfl) ?_); (repeat (first | go_big_quiet_step ((first | fail)) | quiet_step ((first | fail)))); refine wpQuiet_nil ?_; rintro _ ⟨yr, rfl⟩; have syr := Ext.size yr; (repeat (first | rw [World.size_alloc] at syr | rw [World.size_setCell] at syr | rw [World.size_drew] at syr)); have : B < yr.now.heap.size := (by omega); have : B ≤ yr.now.heap.size := (by omega); have : B < yr.now.heap.size + 1 + 1 := (by omega)) | (go_at_call 32; refine cl.mono ?_; rintro _ W3 ⟨hb3, rfl⟩; have hbw3 := hbx.trans (hb3.mono (by omega)); clear cl))
          go_returns
          refine ⟨?_, rfl⟩
          repeat' (first | (with_reducible exact Below.refl _ _) | (with_reducible assumption) | (with_reducible refine Ext.below _ ?_ ?_) | (with_reducible refine Below.on ?_ (by with_reducible assumption) ?_) | (with_reducible refine Below.alloc ?_ ?_ _) | (with_reducible refine Below.drew ?_) | (with_reducible refine Below.setCell ?_ ?_ _) | (with_reducible exact Nat.le_refl _) | omega | (simp; done) | (simp [go_sem]; done) | (simp at *; omega))
        | ok ks =>
          rw [hr] at hE cl
          simp only at hE
          have key : Hid (i + 1 ≤ l.length ∧ (acc ++ [ks]).length = i + 1 ∧ allA s (acc ++ [ks]) (l.drop (i + 1)) = V) := Go.Lib.hid ⟨hlt, by simp [hil], hE⟩
          clear hr hi hV hs hE hil
          generalize l[i].l.length = g1 at *
          generalize l[i].p = g2 at *
          generalize l[i].c = g3 at *
          go_wp2_with (first | ((first | with_reducible refine wp_region_ext2 (by kernel_rfl) (by kernel_rfl) ?_ | with_reducible refine wp_region_ext (by kernel_rfl) (by kernel_rfl) ?_); (repeat (first | go_big_quiet_step ((first | fail)) | quiet_step ((first | fail)))); refine wpQuiet_nil ?_; rintro _ ⟨yr, rfl⟩; have syr := Ext.size yr; (repeat (first | rw [World.size_alloc] at syr | rw [World.size_setCell] at syr | rw [World.size_drew] at syr)); have : B < yr.now.heap.size := (by omega); have : B ≤ yr.now.heap.size := (by omega); have : B < yr.now.heap.size + 1 + 1 := (by omega)) | (go_at_call 32; refine cl.mono ?_; rintro _ W3 ⟨hb3, v3, rfl, how3⟩; have hown := owns_below hown hb3; have hinn := (hinn.out.below hb3).snoc (owns_base how3 xs); have hbW3 := x.grew.trans (hb3.mono xs); have hbs3 := hb3.size; obtain ⟨p3, n3', c3', rfl⟩ := owns_isSlice how3; clear cl how3) | (at_builtin; refine wpList_append_own _ rfl _ _ 76 rfl W0.heap.size 68 i0 _ 1 24 Try.underlying76 hi0 hz0 hz1 hz2 rfl (by decide) _ i (vs) rfl (by repeat (first | exact hown | (with_reducible refine World.ownsRow.alloc ?_ _) | (with_reducible refine World.ownsRow.drew ?_) | (with_reducible refine owns_ext ?_ _))) _ 1 1 _ rfl rfl (cells1_new _ _ _) (by intro u hu; simp only [List.mem_cons, List.not_mem_nil, or_false] at hu; subst hu; rfl) (by unfold maxLen; omega) (by omega) (by (try simp only [World.size_alloc]); omega) ?_; intro v' W2 hown' hgrow _; have hbel : Below W0.heap.size W0 W2 := (by refine below_grown (e := 68) (size := 1) (n := i) (xs := vs) ?_ (by repeat (first | exact hown | (with_reducible refine World.ownsRow.alloc ?_ _) | (with_reducible refine World.ownsRow.drew ?_) | (with_reducible refine owns_ext ?_ _))) (Nat.le_refl _) (by (try simp only [World.size_alloc]); omega) hgrow; repeat' (first | (with_reducible exact Below.refl _ _) | (with_reducible assumption) | (with_reducible refine Ext.below _ ?_ ?_) | (with_reducible refine Below.on ?_ (by with_reducible assumption) ?_) | (with_reducible refine Below.alloc ?_ ?_ _) | (with_reducible refine Below.drew ?_) | (with_reducible refine Below.setCell ?_ ?_ _) | (with_reducible exact Nat.le_refl _) | omega | (simp; done) | (simp [go_sem]; done) | (simp at *; omega))); have hinn' := InnerAt.grown (InnerAt.alloc hinn _) (World.ownsRow.alloc hown _) hgrow))
          refine ⟨⟨i + 1, ⟨_, hbel⟩, acc ++ [ks], vs ++ [_], by simp, rfl, hown', Go.Lib.hid ⟨hinn', key.out⟩⟩, by simp [intOf]; omega⟩
      · have hge : ¬ (i : Int) < l.length := by omega
        have hE := hi.out.2.2.2
        have hinn := hi.out.1
        rw [drop_end hlt, allA] at hE
        have hil : acc.length = i := hi.out.2.2.1
        clear hi hV
        subst hE
        have hinn := Go.Lib.hid hinn
        go_wp2_with (first | ((first | with_reducible refine wp_region_ext2 (by kernel_rfl) (by kernel_rfl) ?_ | with_reducible refine wp_region_ext (by kernel_rfl) (by kernel_rfl) ?_); (repeat (first | go_big_quiet_step ((first | fail)) | quiet_step ((first | fail)))); refine wpQuiet_nil ?_; rintro _ ⟨yr, rfl⟩; have syr := Ext.size yr; (repeat (first | rw [World.size_alloc] at syr | rw [World.size_setCell] at syr | rw [World.size_drew] at syr))))
        go_returns
        refine ⟨?_, _, _, rfl, ?_, hinn.out.base (by omega)⟩
        · repeat' (first | (with_reducible exact Below.refl _ _) | (with_reducible assumption) | (with_reducible refine Ext.below _ ?_ ?_) | (with_reducible refine Below.on ?_ (by with_reducible assumption) ?_) | (with_reducible refine Below.alloc ?_ ?_ _) | (with_reducible refine Below.drew ?_) | (with_reducible refine Below.setCell ?_ ?_ _) | (with_reducible exact Nat.le_refl _) | omega | (simp; done) | (simp [go_sem]; done) | (simp at *; omega))
        · rw [hil]; exact owns_base hown (by omega)
  · rw [if_neg hc]
    clear hA hP
    unfold SkyR.val at *
    generalize s.cats.length = n1 at *
    generalize s.cp = n2 at *
    generalize s.cc = n3 at *
    generalize s.bodies.length = n4 at *
    generalize s.bp = n5 at *
    generalize s.bc = n6 at *
    generalize s.sts.length = n7 at *
    generalize s.sp = n8 at *
    generalize s.sc = n9 at *
    generalize skyE s = e at *
    generalize s.home = n0 at *
    go_enter Try.func40, Try.ntmps40
    go_wp2_with (first | ((first | with_reducible refine wp_region_ext2 (by kernel_rfl) (by kernel_rfl) ?_ | with_reducible refine wp_region_ext (by kernel_rfl) (by kernel_rfl) ?_); (repeat (first | go_big_quiet_step ((first | (go_at_call 31; with_reducible exact Calls.ext (cs _ (by repeat' (first | (with_reducible exact Below.refl _ _) | (with_reducible assumption) | (with_reducible refine Ext.below _ ?_ ?_) | (with_reducible refine Below.on ?_ (by with_reducible assumption) ?_) | (with_reducible refine Below.alloc ?_ ?_ _) | (with_reducible refine Below.drew ?_) | (with_reducible refine Below.setCell ?_ ?_ _) | (with_reducible exact Nat.le_refl _) | omega | (simp; done) | (simp [go_sem]; done) | (simp at *; omega))))))) | quiet_step ((first | (go_at_call 31; with_reducible exact Calls.ext (cs _ (by repeat' (first | (with_reducible exact Below.refl _ _) | (with_reducible assumption) | (with_reducible refine Ext.below _ ?_ ?_) | (with_reducible refine Below.on ?_ (by with_reducible assumption) ?_) | (with_reducible refine Below.alloc ?_ ?_ _) | (with_reducible refine Below.drew ?_) | (with_reducible refine Below.setCell ?_ ?_ _) | (with_reducible exact Nat.le_refl _) | omega | (simp; done) | (simp [go_sem]; done) | (simp at *; omega))))))))); refine wpQuiet_nil ?_; rintro _ ⟨yr, rfl⟩; have syr := Ext.size yr; (repeat (first | rw [World.size_alloc] at syr | rw [World.size_setCell] at syr | rw [World.size_drew] at syr))) | (go_at_call 31; (first | with_reducible refine (Calls.giv2 (cs _ (by repeat' (first | (with_reducible exact Below.refl _ _) | (with_reducible assumption) | (with_reducible refine Ext.below _ ?_ ?_) | (with_reducible refine Below.on ?_ (by with_reducible assumption) ?_) | (with_reducible refine Below.alloc ?_ ?_ _) | (with_reducible refine Below.drew ?_) | (with_reducible refine Below.setCell ?_ ?_ _) | (with_reducible exact Nat.le_refl _) | omega | (simp; done) | (simp [go_sem]; done) | (simp at *; omega))))).mono ?_ | with_reducible refine (Calls.giv (cs _ (by repeat' (first | (with_reducible exact Below.refl _ _) | (with_reducible assumption) | (with_reducible refine Ext.below _ ?_ ?_) | (with_reducible refine Below.on ?_ (by with_reducible assumption) ?_) | (with_reducible refine Below.alloc ?_ ?_ _) | (with_reducible refine Below.drew ?_) | (with_reducible refine Below.setCell ?_ ?_ _) | (with_reducible exact Nat.le_refl _) | omega | (simp; done) | (simp [go_sem]; done) | (simp at *; omega))))).mono ?_); rintro _ _ ⟨y1, rfl, rfl⟩; have sy1 := Ext.size y1; (repeat (first | rw [World.size_alloc] at sy1 | rw [World.size_setCell] at sy1 | rw [World.size_drew] at sy1))))
    go_returns
    refine ⟨?_, rfl⟩
    repeat' (first | (with_reducible exact Below.refl _ _) | (with_reducible assumption) | (with_reducible refine Ext.below _ ?_ ?_) | (with_reducible refine Below.on ?_ (by with_reducible assumption) ?_) | (with_reducible refine Below.alloc ?_ ?_ _) | (with_reducible refine Below.drew ?_) | (with_reducible refine Below.setCell ?_ ?_ _) | (with_reducible exact Nat.le_refl _) | omega | (simp; done) | (simp [go_sem]; done) | (simp at *; omega))
end Go.Proofs.Ytehaonlndfjpfaa

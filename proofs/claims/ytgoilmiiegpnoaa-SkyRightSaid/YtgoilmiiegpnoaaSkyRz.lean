/- Contract of GuessOf: a guess with a place within 3,000 and a speed within 60, made of a ring's numbers. Condition: the ring's block is as NewRing made it. Rows of sights in memory. No condition. Contract of the reference's Link of layer 2: the first guess that misses no sight of two tracklets, or the reasons. Condition: a sky, the tracklets and the guesses in memory. Contracts of CheckTracklet, Miss. Condition: a sky and a tracklet in memory. Of a list of guesses the first one that misses nothing, or how each of them misses, as plain mathematics (SkyRl.linkS is linkF of fmS). No condition. Contract of the statements' made: a small sky, a place and a sight of it, out of a list of numbers. Condition: the list in memory. Contract of TrackletOf: a tracklet of valid sights, by ticks, made of a ring's numbers. Condition: the ring's block is as NewRing made it; a small sky of the call's own. Rows of tracklets and guesses that a call makes. No condition. The tracklets and guesses that many makes are valid. Condition: a small sky. What SkyJoins asks, as plain mathematics, for sights of many. No condition beyond valid tracklets and guesses. Contract of the statements' many: a small sky, tracklets and guesses, out of a list of numbers. Condition: the list in memory. Contracts of leastOf, with the closure that counts misses, and of Believe. Condition: a sky, a tracklet and the guesses in memory. What SkyRight asks, as plain mathematics: merged tracklets, the least guess, the sights that it misses; and the contract of HasInt. No condition beyond valid tracklets and guesses. -/
import Derived.Test.YtgoilmiiegpnoaaRingX
import Derived.Test.YtgoilmiiegpnoaaSkyV
import Derived.Test.YtgoilmiiegpnoaaSkyOa
import Derived.Test.YtgoilmiiegpnoaaSkyRj
import Derived.Test.YtgoilmiiegpnoaaSkyAb
import Derived.Test.YtgoilmiiegpnoaaBase
import Derived.Test.YtgoilmiiegpnoaaSightOf
import Derived.Test.YtgoilmiiegpnoaaLawList
import Derived.Test.YtgoilmiiegpnoaaAppE
import Derived.Test.YtgoilmiiegpnoaaTail
import Derived.Deep.RegionLawGrows
namespace Go.Proofs.Ytgoilmiiegpnoaa
open Go.RowKit Go.Shelf
attribute [local go_sem] Option.isSome_some Ext.cell Ext.frozen Ext.lt Ext.le Ext.lt_add Ext.le_add Ext.ne Ext.ne' lt2 lt3 lt4 lt5 le2 le3 le4
attribute [local go_sem] RExt.cell RExt.frozen RExt.lt RExt.le RExt.lt_add RExt.le_add RExt.ne RExt.ne'
structure GuessOk (g : StateR) : Prop where
  x : -3000 ≤ g.x ∧ g.x ≤ 3000
  y : -3000 ≤ g.y ∧ g.y ≤ 3000
  u : -60 ≤ g.u ∧ g.u ≤ 60
  v : -60 ≤ g.v ∧ g.v ≤ 60
def GuessPost (w : World) (b m : Nat) : Ending → World → Prop := fun e w' => ∃ (y : RExt w b) (g : StateR), e = .returned g.val ∧ GuessOk g ∧ w' = y.now ∧ RingM y.now b (m + 4)
theorem GuessPost.intro {w W : World} {b m : Nat} {e : Ending} (g : StateR) (he : e = .returned g.val) (hg : GuessOk g) (hB : BelowX b w.heap.size w W) (hr : RingM W b (m + 4)) : GuessPost w b m e W := ⟨⟨W, hB⟩, g, he, hg, rfl, hr⟩
set_option maxHeartbeats 4000000 in
theorem GuessOf_y (b m : Nat) (w : World) (hm : m < 1000000) (hb : b < w.heap.size) (h : RingM w b m) :
    Calls Try.prog 23 #[.pointer (some ⟨b, 0, none⟩)] w (GuessPost w b m) := by
  have hn0 : w.heap.size ≠ b := by omega
  have hn1 : b < w.heap.size + 1 := by omega
  go_enter Try.func23, Try.ntmps23
  go_wp2_with (first | ((first | with_reducible refine wp_region_ext2 (by kernel_rfl) (by kernel_rfl) ?_ | with_reducible refine wp_region_ext (by kernel_rfl) (by kernel_rfl) ?_); (repeat (first | go_big_quiet_step ((first | fail)) | quiet_step ((first | fail)))); refine wpQuiet_nil ?_; rintro _ ⟨yr, rfl⟩; have syr := Ext.size yr; (repeat (first | rw [World.size_alloc] at syr | rw [World.size_setCell] at syr | rw [World.size_drew] at syr)); have : w.heap.size < yr.now.heap.size := (by omega); have : w.heap.size ≤ yr.now.heap.size := (by omega); have : w.heap.size < yr.now.heap.size + 1 + 1 := (by omega)) | (go_at_call 43; (with_reducible refine Calls.mono (PointOf_y 3000 b m _ (by omega) (by omega) (by omega) ?_) ?_); (focus ((repeat (first | (with_reducible assumption) | (with_reducible refine RingM.alloc ?_ _) | (with_reducible refine RingM.drew ?_) | (with_reducible refine RingM.ext ?_ _) | (with_reducible refine RingM.set ?_ _ (by omega)))); done)); (rintro _ _ ⟨yx1, vx1, rfl, hvx1, rfl, rgx1⟩); have syx1 := RExt.size yx1; (repeat (first | rw [World.size_alloc] at syx1 | rw [World.size_setCell] at syx1 | rw [World.size_drew] at syx1)); have : w.heap.size < yx1.now.heap.size := (by omega); have : w.heap.size ≤ yx1.now.heap.size := (by omega); have : w.heap.size < yx1.now.heap.size + 1 + 1 := (by omega)) | (go_at_call 43; (with_reducible refine Calls.mono (PointOf_y 60 b (m + 2) _ (by omega) (by omega) (by omega) ?_) ?_); (focus ((repeat (first | (with_reducible assumption) | (with_reducible refine RingM.alloc ?_ _) | (with_reducible refine RingM.drew ?_) | (with_reducible refine RingM.ext ?_ _) | (with_reducible refine RingM.set ?_ _ (by omega)))); done)); (rintro _ _ ⟨yx2, vx2, rfl, hvx2, rfl, rgx2⟩); have syx2 := RExt.size yx2; (repeat (first | rw [World.size_alloc] at syx2 | rw [World.size_setCell] at syx2 | rw [World.size_drew] at syx2)); have : w.heap.size < yx2.now.heap.size := (by omega); have : w.heap.size ≤ yx2.now.heap.size := (by omega); have : w.heap.size < yx2.now.heap.size + 1 + 1 := (by omega)))
  refine bodyPost_ret (v := .agg #[.int .i64 vx1.x, .int .i64 vx1.y, .int .i64 vx2.x, .int .i64 vx2.y]) (by simp (maxDischargeDepth := 9) [results, Try.results23, go_sem, *]) rfl ?_
  refine GuessPost.intro ⟨vx1.x, vx1.y, vx2.x, vx2.y⟩ rfl ⟨hvx1.1, hvx1.2, hvx2.1, hvx2.2⟩ ?_ ?_
  · repeat' (first | (with_reducible exact BelowX.refl _ _ _) | (with_reducible assumption) | (with_reducible refine RExt.belowX _ ?_ ?_) | (with_reducible refine Ext.belowX _ ?_ ?_) | (with_reducible refine BelowX.alloc ?_ ?_ _) | (with_reducible refine BelowX.drew ?_) | (with_reducible refine BelowX.setCell ?_ ?_ _) | (with_reducible exact Nat.le_refl _) | omega | (simp; done) | (simp [go_sem]; done) | (simp at *; omega))
  · (repeat (first | (with_reducible assumption) | (with_reducible refine RingM.alloc ?_ _) | (with_reducible refine RingM.set ?_ _ (by omega))))
end Go.Proofs.Ytgoilmiiegpnoaa
namespace Go.Proofs.Ytgoilmiiegpnoaa
open Go.RowKit Go.Shelf
def cellsX (x : SightR) : List Value := [.int .i64 x.kind, .int .i64 x.st, .int .i64 x.cat, .int .i64 x.tick, .int .i64 x.dir.x, .int .i64 x.dir.y, .int .i64 x.err, .int .i64 x.lo, .int .i64 x.hi]
def rowsX (l : List SightR) : List Value := l.flatMap cellsX
theorem rowsX_cons (x : SightR) (l : List SightR) : rowsX (x :: l) = cellsX x ++ rowsX l := by unfold rowsX; rw [List.flatMap_cons]
theorem rowsX_append (l m : List SightR) : rowsX (l ++ m) = rowsX l ++ rowsX m := by unfold rowsX; rw [List.flatMap_append]
theorem rowsX_length (l : List SightR) : (rowsX l).length = l.length * 9 := by
  induction l with
  | nil => rfl
  | cons k l ih => rw [rowsX_cons, List.length_append, ih, List.length_cons]; simp [cellsX]; omega
theorem rowsX_one (l : List SightR) : ∀ u ∈ rowsX l, u.oneCell' = true := by
  intro u hu
  obtain ⟨k, -, hk⟩ := List.mem_flatMap.1 hu
  simp only [cellsX, List.mem_cons, List.not_mem_nil, or_false] at hk
  rcases hk with rfl | rfl | rfl | rfl | rfl | rfl | rfl | rfl | rfl <;> rfl
theorem addr_add (B o j : Nat) : (⟨B, o, none⟩ : Addr).add j = ⟨B, o + j, none⟩ := by unfold Addr.add; split <;> simp_all
theorem sights_cells {W : World} {B : Nat} : ∀ {l : List SightR} {o : Nat}, SightsAt W (some ⟨B, o, none⟩) l → ∀ j u, (rowsX l)[j]? = some u → W.cell? ((⟨B, o, none⟩ : Addr).add j) = some u := by
  intro l
  induction l with
  | nil => intro o _ j u h; simp [rowsX] at h
  | cons x l ih =>
    intro o h j u hj
    rw [rowsX_cons] at hj
    by_cases h9 : j < 9
    · rw [List.getElem?_append_left (by simpa [cellsX] using h9)] at hj
      obtain ⟨B', o', e, hB, q0, q1, q2, q3, q4, q5, q6, q7, q8⟩ := h 0 (by simp)
      injection e with e
      injection e with e1 e2
      subst e1 e2
      simp only [Nat.zero_mul, Nat.add_zero, List.getElem_cons_zero] at q0 q1 q2 q3 q4 q5 q6 q7 q8
      rw [addr_add]
      rcases (show j = 0 ∨ j = 1 ∨ j = 2 ∨ j = 3 ∨ j = 4 ∨ j = 5 ∨ j = 6 ∨ j = 7 ∨ j = 8 by omega) with rfl | rfl | rfl | rfl | rfl | rfl | rfl | rfl | rfl <;> (simp [cellsX] at hj; subst hj; simpa using by assumption)
    · rw [List.getElem?_append_right (by simp [cellsX]; omega)] at hj
      have h2 : SightsAt W (some ⟨B, o + 9, none⟩) l := fun i hi => by
        obtain ⟨B', o', e, hB, q⟩ := h (i + 1) (by simpa using hi)
        injection e with e
        injection e with e1 e2
        subst e1 e2
        refine ⟨B, o + 9, rfl, hB, ?_⟩
        have e : o + (i + 1) * 9 = o + 9 + i * 9 := by omega
        rw [e] at q
        simpa using q
      have := ih h2 (j - (cellsX x).length) u hj
      rw [addr_add] at this ⊢
      rw [← this]
      congr 2
      simp [cellsX]; omega
theorem owns_sights {w : World} {base : Nat} {v : Value} {l : List SightR} (h : w.ownsRow base 47 9 v l.length (rowsX l)) : ∃ p c, v = .slice p l.length c ∧ SightsAt w p l := by
  obtain ⟨p, c, e, hc⟩ := owns_at cellsX 9 (fun _ => rfl) l h
  refine ⟨p, c, e, fun j hj => ?_⟩
  obtain ⟨B, o, hp, _, hB, hv⟩ := hc j hj
  exact ⟨B, o, hp, hB, hv 0 _ rfl, hv 1 _ rfl, hv 2 _ rfl, hv 3 _ rfl, hv 4 _ rfl, hv 5 _ rfl, hv 6 _ rfl, hv 7 _ rfl, hv 8 _ rfl⟩
theorem sight_info : (Try.prog.info? 47).map (fun i => (i.zero, i.size, i.bytes)) = some (some (.agg #[.int .i64 0, .int .i64 0, .int .i64 0, .int .i64 0, .int .i64 0, .int .i64 0, .int .i64 0, .int .i64 0, .int .i64 0]), 9, 72) := by kernel_rfl
end Go.Proofs.Ytgoilmiiegpnoaa
namespace Go.Proofs.Ytgoilmiiegpnoaa
open Go.RowKit Go.Shelf
attribute [local go_sem] Option.isSome_some Ext.cell Ext.frozen Ext.lt Ext.le Ext.lt_add Ext.le_add Ext.ne Ext.ne' lt2 lt3 lt4 lt5 le2 le3 le4
/-- What the reference says of links. -/
def linkS (s : SkyR) (t : Int) (all : List SightR) : List Int → Nat → List StateR → Int × List Int
  | acc, _, [] => (-1, acc)
  | acc, i, g :: l => if fmS s g t 0 all < 0 then (i, []) else linkS s t all (acc ++ [fmS s g t 0 all]) (i + 1) l
theorem linkS_A {s : SkyR} {t : Int} {all : List SightR} {ks : List LookR} (h : Looked s all ks) : ∀ (gs : List StateR) (acc : List Int) (i : Nat), linkA t ks acc i gs = linkS s t all acc i gs := by
  intro gs
  induction gs with
  | nil => intro acc i; rfl
  | cons g gs ih =>
    intro acc i
    rw [linkA, linkS]
    have h1 := h.first g t 0
    have h2 := fun m hm => missA_in g t ks 0 m hm
    unfold missL
    cases hm : missA g t [] 0 ks with
    | nil =>
      rw [hm] at h1
      rw [← h1, if_pos (by decide)]
    | cons m ms =>
      rw [hm] at h1
      have := h2 m (by rw [hm]; simp)
      rw [← h1, if_neg (by simp only [headV]; omega)]
      exact ih _ _
theorem linkR_eq (s : SkyR) (a b : List SightR) (gs : List StateR) (t : Int) : linkR s a b gs t = if trackE s a = 0 then (if trackE s b = 0 then (if guessesE gs t = 0 then ⟨(linkS s t (a ++ b) [] 0 gs).1, (linkS s t (a ++ b) [] 0 gs).2, 0⟩ else ⟨0, [], guessesE gs t⟩) else ⟨0, [], trackE s b⟩) else ⟨0, [], trackE s a⟩ := by
  unfold linkR allR trackE
  by_cases hE : skyE s = 0
  · simp only [if_pos hE]
    rw [allA]
    cases hx : looksR s a with
    | error e =>
      have e0 : ¬ (errOf (Except.error e : Except Int (List LookR)) = 0) := looksR_err hx
      rw [if_neg e0]; rfl
    | ok x =>
      rw [if_pos (show errOf (Except.ok x : Except Int (List LookR)) = 0 from rfl)]
      simp only [allA]
      cases hy : looksR s b with
      | error e =>
        have e0 : ¬ (errOf (Except.error e : Except Int (List LookR)) = 0) := looksR_err hy
        rw [if_neg e0]; rfl
      | ok y =>
        rw [if_pos (show errOf (Except.ok y : Except Int (List LookR)) = 0 from rfl)]
        simp only [List.nil_append, List.cons_append]
        rw [linkS_A ((looksR_looked hx).append (looksR_looked hy))]
  · simp only [if_neg hE]
end Go.Proofs.Ytgoilmiiegpnoaa
namespace Go.Proofs.Ytgoilmiiegpnoaa
open Go.RowKit Go.Shelf
attribute [local go_sem] Option.isSome_some Ext.cell Ext.frozen Ext.lt Ext.le Ext.lt_add Ext.le_add Ext.ne Ext.ne' lt2 lt3 lt4 lt5 le2 le3 le4
theorem guessesE_one {g : StateR} {t : Int} : guessesE [g] t = 0 ↔ guessB g = true ∧ tickB t = true := by
  unfold guessesE
  rw [if_neg (by simp)]
  cases tickB t <;> simp [guessesL]
theorem guess1_new (W : World) (x y u v : Int) : StatesAt (W.alloc (.cells #[.int .i64 x, .int .i64 y, .int .i64 u, .int .i64 v] 41)) (some ⟨W.heap.size, 0, none⟩) [⟨x, y, u, v⟩] := by
  intro j hj
  obtain rfl : j = 0 := by simpa using hj
  exact ⟨W.heap.size, 0, rfl, by simp, by simp [go_sem], by simp [go_sem], by simp [go_sem], by simp [go_sem]⟩
set_option maxRecDepth 100000 in
set_option maxHeartbeats 16000000 in
theorem Miss_any (s : SkyR) (p : Option Addr) (c : Nat) (l : List SightR) (g : StateR) (t : Int) (w : World) (hA : s.At w) (hP : SightsAt w p l) :
    Calls Try.prog 11 #[s.val, .slice p l.length c, .agg #[.int .i64 g.x, .int .i64 g.y, .int .i64 g.u, .int .i64 g.v], .int .i64 t] w (Gives (.int .i64 (missV s l g t)) w) := by
  have cs := fun (W : World) (y : Below w.heap.size w W) => Check_any s W (hA.on y)
  obtain ⟨V, hV⟩ : ∃ V, missV s l g t = V := ⟨_, rfl⟩
  rw [hV]
  unfold missV trackE at hV
  by_cases hE : skyE s = 0
  case neg =>
    rw [if_neg hE, if_neg (fun h => hE h.1)] at hV
    subst hV
    unfold SkyR.val at *
    clear hA hP
    obtain ⟨gx, gy, gu, gv⟩ := g
    generalize l.length = n at *
    generalize skyE s = e at *
    generalize s.cats.length = n1 at *; generalize s.cp = n2 at *; generalize s.cc = n3 at *; generalize s.bodies.length = n4 at *; generalize s.bp = n5 at *; generalize s.bc = n6 at *; generalize s.sts.length = n7 at *; generalize s.sp = n8 at *; generalize s.sc = n9 at *; generalize s.home = n0 at *
    go_enter Try.func11, Try.ntmps11
    go_wp2_with (first | ((first | with_reducible refine wp_region_ext2 (by kernel_rfl) (by kernel_rfl) ?_ | with_reducible refine wp_region_ext (by kernel_rfl) (by kernel_rfl) ?_); (repeat (first | go_big_quiet_step ((first | (go_at_call 28; with_reducible exact Calls.ext (cs _ (by repeat' (first | (with_reducible exact Below.refl _ _) | (with_reducible assumption) | (with_reducible refine Ext.below _ ?_ ?_) | (with_reducible refine Below.on ?_ (by with_reducible assumption) ?_) | (with_reducible refine Below.alloc ?_ ?_ _) | (with_reducible refine Below.drew ?_) | (with_reducible refine Below.setCell ?_ ?_ _) | (with_reducible exact Nat.le_refl _) | omega | (simp; done) | (simp [go_sem]; done) | (simp at *; omega))))))) | quiet_step ((first | (go_at_call 28; with_reducible exact Calls.ext (cs _ (by repeat' (first | (with_reducible exact Below.refl _ _) | (with_reducible assumption) | (with_reducible refine Ext.below _ ?_ ?_) | (with_reducible refine Below.on ?_ (by with_reducible assumption) ?_) | (with_reducible refine Below.alloc ?_ ?_ _) | (with_reducible refine Below.drew ?_) | (with_reducible refine Below.setCell ?_ ?_ _) | (with_reducible exact Nat.le_refl _) | omega | (simp; done) | (simp [go_sem]; done) | (simp at *; omega))))))))); refine wpQuiet_nil ?_; rintro _ ⟨yr, rfl⟩; have syr := Ext.size yr; (repeat (first | rw [World.size_alloc] at syr | rw [World.size_setCell] at syr | rw [World.size_drew] at syr))) | (go_at_call 28; (first | with_reducible refine (Calls.giv2 (cs _ (by repeat' (first | (with_reducible exact Below.refl _ _) | (with_reducible assumption) | (with_reducible refine Ext.below _ ?_ ?_) | (with_reducible refine Below.on ?_ (by with_reducible assumption) ?_) | (with_reducible refine Below.alloc ?_ ?_ _) | (with_reducible refine Below.drew ?_) | (with_reducible refine Below.setCell ?_ ?_ _) | (with_reducible exact Nat.le_refl _) | omega | (simp; done) | (simp [go_sem]; done) | (simp at *; omega))))).mono ?_ | with_reducible refine (Calls.giv (cs _ (by repeat' (first | (with_reducible exact Below.refl _ _) | (with_reducible assumption) | (with_reducible refine Ext.below _ ?_ ?_) | (with_reducible refine Below.on ?_ (by with_reducible assumption) ?_) | (with_reducible refine Below.alloc ?_ ?_ _) | (with_reducible refine Below.drew ?_) | (with_reducible refine Below.setCell ?_ ?_ _) | (with_reducible exact Nat.le_refl _) | omega | (simp; done) | (simp [go_sem]; done) | (simp at *; omega))))).mono ?_); rintro _ _ ⟨y1, rfl, rfl⟩; have sy1 := Ext.size y1; (repeat (first | rw [World.size_alloc] at sy1 | rw [World.size_setCell] at sy1 | rw [World.size_drew] at sy1))))
    go_returns
    refine ⟨rfl, ?_⟩
    repeat' (first | (with_reducible exact Below.refl _ _) | (with_reducible assumption) | (with_reducible refine Ext.below _ ?_ ?_) | (with_reducible refine Below.on ?_ (by with_reducible assumption) ?_) | (with_reducible refine Below.alloc ?_ ?_ _) | (with_reducible refine Below.drew ?_) | (with_reducible refine Below.setCell ?_ ?_ _) | (with_reducible exact Nat.le_refl _) | omega | (simp; done) | (simp [go_sem]; done) | (simp at *; omega))
  have cl := fun (W : World) (y : Below w.heap.size w W) => looksOf_any s p c l W (hA.on y) hE (hP.on y)
  have cg := fun (W : World) (q : Option Addr) (h : StatesAt W q [g]) => checkGuesses_any q 1 [g] t W h
  simp only [List.length_cons, List.length_nil, Nat.zero_add] at cg
  rw [if_pos hE] at hV
  rw [hE] at cs
  cases hr : looksR s l with
  | error e =>
    have e0 := looksR_err hr
    rw [hr] at cl hV
    have eV : V = -2 := by rw [← hV]; exact if_neg (fun h => e0 h.1)
    clear hV
    subst eV
    unfold SkyR.val at *
    clear hA hP cg hr hE
    obtain ⟨gx, gy, gu, gv⟩ := g
    generalize l.length = n at *
    generalize s.cats.length = n1 at *; generalize s.cp = n2 at *; generalize s.cc = n3 at *; generalize s.bodies.length = n4 at *; generalize s.bp = n5 at *; generalize s.bc = n6 at *; generalize s.sts.length = n7 at *; generalize s.sp = n8 at *; generalize s.sc = n9 at *; generalize s.home = n0 at *
    go_enter Try.func11, Try.ntmps11
    go_wp2_with (first | ((first | with_reducible refine wp_region_ext2 (by kernel_rfl) (by kernel_rfl) ?_ | with_reducible refine wp_region_ext (by kernel_rfl) (by kernel_rfl) ?_); (repeat (first | go_big_quiet_step ((first | (go_at_call 28; with_reducible exact Calls.ext (cs _ (by repeat' (first | (with_reducible exact Below.refl _ _) | (with_reducible assumption) | (with_reducible refine Ext.below _ ?_ ?_) | (with_reducible refine Below.on ?_ (by with_reducible assumption) ?_) | (with_reducible refine Below.alloc ?_ ?_ _) | (with_reducible refine Below.drew ?_) | (with_reducible refine Below.setCell ?_ ?_ _) | (with_reducible exact Nat.le_refl _) | omega | (simp; done) | (simp [go_sem]; done) | (simp at *; omega))))))) | quiet_step ((first | (go_at_call 28; with_reducible exact Calls.ext (cs _ (by repeat' (first | (with_reducible exact Below.refl _ _) | (with_reducible assumption) | (with_reducible refine Ext.below _ ?_ ?_) | (with_reducible refine Below.on ?_ (by with_reducible assumption) ?_) | (with_reducible refine Below.alloc ?_ ?_ _) | (with_reducible refine Below.drew ?_) | (with_reducible refine Below.setCell ?_ ?_ _) | (with_reducible exact Nat.le_refl _) | omega | (simp; done) | (simp [go_sem]; done) | (simp at *; omega))))))))); refine wpQuiet_nil ?_; rintro _ ⟨yr, rfl⟩; have syr := Ext.size yr; (repeat (first | rw [World.size_alloc] at syr | rw [World.size_setCell] at syr | rw [World.size_drew] at syr))) | (go_at_call 28; (first | with_reducible refine (Calls.giv2 (cs _ (by repeat' (first | (with_reducible exact Below.refl _ _) | (with_reducible assumption) | (with_reducible refine Ext.below _ ?_ ?_) | (with_reducible refine Below.on ?_ (by with_reducible assumption) ?_) | (with_reducible refine Below.alloc ?_ ?_ _) | (with_reducible refine Below.drew ?_) | (with_reducible refine Below.setCell ?_ ?_ _) | (with_reducible exact Nat.le_refl _) | omega | (simp; done) | (simp [go_sem]; done) | (simp at *; omega))))).mono ?_ | with_reducible refine (Calls.giv (cs _ (by repeat' (first | (with_reducible exact Below.refl _ _) | (with_reducible assumption) | (with_reducible refine Ext.below _ ?_ ?_) | (with_reducible refine Below.on ?_ (by with_reducible assumption) ?_) | (with_reducible refine Below.alloc ?_ ?_ _) | (with_reducible refine Below.drew ?_) | (with_reducible refine Below.setCell ?_ ?_ _) | (with_reducible exact Nat.le_refl _) | omega | (simp; done) | (simp [go_sem]; done) | (simp at *; omega))))).mono ?_); rintro _ _ ⟨y1, rfl, rfl⟩; have sy1 := Ext.size y1; (repeat (first | rw [World.size_alloc] at sy1 | rw [World.size_setCell] at sy1 | rw [World.size_drew] at sy1))) | (go_at_call 29; refine (cl _ (by repeat' (first | (with_reducible exact Below.refl _ _) | (with_reducible assumption) | (with_reducible refine Ext.below _ ?_ ?_) | (with_reducible refine Below.on ?_ (by with_reducible assumption) ?_) | (with_reducible refine Below.alloc ?_ ?_ _) | (with_reducible refine Below.drew ?_) | (with_reducible refine Below.setCell ?_ ?_ _) | (with_reducible exact Nat.le_refl _) | omega | (simp; done) | (simp [go_sem]; done) | (simp at *; omega)))).mono ?_; rintro _ W3 ⟨hb3, rfl⟩; have hbw3 : Below w.heap.size w W3 := (by refine Below.on ?_ hb3 (by first | omega | (simp only [World.size_alloc]; omega)); repeat' (first | (with_reducible exact Below.refl _ _) | (with_reducible assumption) | (with_reducible refine Ext.below _ ?_ ?_) | (with_reducible refine Below.on ?_ (by with_reducible assumption) ?_) | (with_reducible refine Below.alloc ?_ ?_ _) | (with_reducible refine Below.drew ?_) | (with_reducible refine Below.setCell ?_ ?_ _) | (with_reducible exact Nat.le_refl _) | omega | (simp; done) | (simp [go_sem]; done) | (simp at *; omega))); clear cl))
    go_returns
    refine ⟨rfl, ?_⟩
    repeat' (first | (with_reducible exact Below.refl _ _) | (with_reducible assumption) | (with_reducible refine Ext.below _ ?_ ?_) | (with_reducible refine Below.on ?_ (by with_reducible assumption) ?_) | (with_reducible refine Below.alloc ?_ ?_ _) | (with_reducible refine Below.drew ?_) | (with_reducible refine Below.setCell ?_ ?_ _) | (with_reducible exact Nat.le_refl _) | omega | (simp; done) | (simp [go_sem]; done) | (simp at *; omega))
  | ok ks =>
    have hfm := Looked.first g t 0 (looksR_looked hr)
    obtain ⟨hfit, k1, k64⟩ := looksR_fit hE hr
    rw [hr] at cl hV
    clear hr
    have cm := fun (hg : guessB g = true) (ht : tickB t = true) (q : Option Addr) (d : Nat) (W : World) (h : LooksAt W q ks) => misses_any g t q d ks W hg ht (by omega) h (fun j hj => hfit _ (List.getElem_mem hj))
    unfold missL at cm
    by_cases hgt : guessesE [g] t = 0
    case neg =>
      have eV : V = -2 := by rw [← hV]; exact if_neg (fun h => hgt (guessesE_one.2 h.2))
      clear hV hfm
      subst eV
      unfold SkyR.val at *
      clear hA hP cm hE hfit
      generalize guessesE [g] t = ge at *
      obtain ⟨gx, gy, gu, gv⟩ := g
      generalize l.length = n at *
      generalize s.cats.length = n1 at *; generalize s.cp = n2 at *; generalize s.cc = n3 at *; generalize s.bodies.length = n4 at *; generalize s.bp = n5 at *; generalize s.bc = n6 at *; generalize s.sts.length = n7 at *; generalize s.sp = n8 at *; generalize s.sc = n9 at *; generalize s.home = n0 at *
      go_enter Try.func11, Try.ntmps11
      go_wp2_with (first | ((first | with_reducible refine wp_region_ext2 (by kernel_rfl) (by kernel_rfl) ?_ | with_reducible refine wp_region_ext (by kernel_rfl) (by kernel_rfl) ?_); (repeat (first | go_big_quiet_step ((first | (go_at_call 28; with_reducible exact Calls.ext (cs _ (by repeat' (first | (with_reducible exact Below.refl _ _) | (with_reducible assumption) | (with_reducible refine Ext.below _ ?_ ?_) | (with_reducible refine Below.on ?_ (by with_reducible assumption) ?_) | (with_reducible refine Below.alloc ?_ ?_ _) | (with_reducible refine Below.drew ?_) | (with_reducible refine Below.setCell ?_ ?_ _) | (with_reducible exact Nat.le_refl _) | omega | (simp; done) | (simp [go_sem]; done) | (simp at *; omega))))) | (go_at_call 26; with_reducible exact Calls.ext (cg _ _ (guess1_new _ _ _ _ _))))) | quiet_step ((first | (go_at_call 28; with_reducible exact Calls.ext (cs _ (by repeat' (first | (with_reducible exact Below.refl _ _) | (with_reducible assumption) | (with_reducible refine Ext.below _ ?_ ?_) | (with_reducible refine Below.on ?_ (by with_reducible assumption) ?_) | (with_reducible refine Below.alloc ?_ ?_ _) | (with_reducible refine Below.drew ?_) | (with_reducible refine Below.setCell ?_ ?_ _) | (with_reducible exact Nat.le_refl _) | omega | (simp; done) | (simp [go_sem]; done) | (simp at *; omega))))) | (go_at_call 26; with_reducible exact Calls.ext (cg _ _ (guess1_new _ _ _ _ _))))))); refine wpQuiet_nil ?_; rintro _ ⟨yr, rfl⟩; have syr := Ext.size yr; (repeat (first | rw [World.size_alloc] at syr | rw [World.size_setCell] at syr | rw [World.size_drew] at syr))) | (go_at_call 28; (first | with_reducible refine (Calls.giv2 (cs _ (by repeat' (first | (with_reducible exact Below.refl _ _) | (with_reducible assumption) | (with_reducible refine Ext.below _ ?_ ?_) | (with_reducible refine Below.on ?_ (by with_reducible assumption) ?_) | (with_reducible refine Below.alloc ?_ ?_ _) | (with_reducible refine Below.drew ?_) | (with_reducible refine Below.setCell ?_ ?_ _) | (with_reducible exact Nat.le_refl _) | omega | (simp; done) | (simp [go_sem]; done) | (simp at *; omega))))).mono ?_ | with_reducible refine (Calls.giv (cs _ (by repeat' (first | (with_reducible exact Below.refl _ _) | (with_reducible assumption) | (with_reducible refine Ext.below _ ?_ ?_) | (with_reducible refine Below.on ?_ (by with_reducible assumption) ?_) | (with_reducible refine Below.alloc ?_ ?_ _) | (with_reducible refine Below.drew ?_) | (with_reducible refine Below.setCell ?_ ?_ _) | (with_reducible exact Nat.le_refl _) | omega | (simp; done) | (simp [go_sem]; done) | (simp at *; omega))))).mono ?_); rintro _ _ ⟨y1, rfl, rfl⟩; have sy1 := Ext.size y1; (repeat (first | rw [World.size_alloc] at sy1 | rw [World.size_setCell] at sy1 | rw [World.size_drew] at sy1))) | (go_at_call 26; (first | with_reducible refine (Calls.giv2 (cg _ _ (guess1_new _ _ _ _ _))).mono ?_ | with_reducible refine (Calls.giv (cg _ _ (guess1_new _ _ _ _ _))).mono ?_); rintro _ _ ⟨y2, rfl, rfl⟩; have sy2 := Ext.size y2; (repeat (first | rw [World.size_alloc] at sy2 | rw [World.size_setCell] at sy2 | rw [World.size_drew] at sy2))) | (go_at_call 29; refine (cl _ (by repeat' (first | (with_reducible exact Below.refl _ _) | (with_reducible assumption) | (with_reducible refine Ext.below _ ?_ ?_) | (with_reducible refine Below.on ?_ (by with_reducible assumption) ?_) | (with_reducible refine Below.alloc ?_ ?_ _) | (with_reducible refine Below.drew ?_) | (with_reducible refine Below.setCell ?_ ?_ _) | (with_reducible exact Nat.le_refl _) | omega | (simp; done) | (simp [go_sem]; done) | (simp at *; omega)))).mono ?_; rintro _ W3 ⟨hb3, v3, rfl, how3⟩; have hbw3 : Below w.heap.size w W3 := (by refine Below.on ?_ hb3 (by first | omega | (simp only [World.size_alloc]; omega)); repeat' (first | (with_reducible exact Below.refl _ _) | (with_reducible assumption) | (with_reducible refine Ext.below _ ?_ ?_) | (with_reducible refine Below.on ?_ (by with_reducible assumption) ?_) | (with_reducible refine Below.alloc ?_ ?_ _) | (with_reducible refine Below.drew ?_) | (with_reducible refine Below.setCell ?_ ?_ _) | (with_reducible exact Nat.le_refl _) | omega | (simp; done) | (simp [go_sem]; done) | (simp at *; omega))); obtain ⟨p3, n3', c3', rfl⟩ := owns_isSlice how3; have d0 : W3.cell? ⟨w.heap.size + 1, 0, none⟩ = some (.int .i64 gx) := ((hb3.cell (p := ⟨w.heap.size + 1, 0, none⟩) (by simp; omega)).trans (by simp [go_sem])); have d1 : W3.cell? ⟨w.heap.size + 1, 1, none⟩ = some (.int .i64 gy) := ((hb3.cell (p := ⟨w.heap.size + 1, 1, none⟩) (by simp; omega)).trans (by simp [go_sem])); have d2 : W3.cell? ⟨w.heap.size + 1, 2, none⟩ = some (.int .i64 gu) := ((hb3.cell (p := ⟨w.heap.size + 1, 2, none⟩) (by simp; omega)).trans (by simp [go_sem])); have d3 : W3.cell? ⟨w.heap.size + 1, 3, none⟩ = some (.int .i64 gv) := ((hb3.cell (p := ⟨w.heap.size + 1, 3, none⟩) (by simp; omega)).trans (by simp [go_sem])); have l3 : w.heap.size + 1 < W3.heap.size := (by have := hb3.size; omega); have l30 : w.heap.size < W3.heap.size := (by omega); have l31 : w.heap.size + 1 < W3.heap.size + 1 := (by omega); have l32 : w.heap.size + 1 ≠ W3.heap.size := (by omega); clear cl how3))
      go_returns
      refine ⟨rfl, ?_⟩
      repeat' (first | (with_reducible exact Below.refl _ _) | (with_reducible assumption) | (with_reducible refine Ext.below _ ?_ ?_) | (with_reducible refine Below.on ?_ (by with_reducible assumption) ?_) | (with_reducible refine Below.alloc ?_ ?_ _) | (with_reducible refine Below.drew ?_) | (with_reducible refine Below.setCell ?_ ?_ _) | (with_reducible exact Nat.le_refl _) | omega | (simp; done) | (simp [go_sem]; done) | (simp at *; omega))
    have hg := (guessesE_one.1 hgt).1
    have ht := (guessesE_one.1 hgt).2
    replace cm := cm hg ht
    have eV : V = headV (missA g t [] 0 ks) := by rw [← hV, hfm]; exact if_pos ⟨rfl, hg, ht⟩
    rw [hgt] at cg
    unfold SkyR.val at *
    clear hA hP hE hfit hV hfm hgt hg ht k1 k64
    obtain ⟨gx, gy, gu, gv⟩ := g
    generalize l.length = n at *
    generalize s.cats.length = n1 at *; generalize s.cp = n2 at *; generalize s.cc = n3 at *; generalize s.bodies.length = n4 at *; generalize s.bp = n5 at *; generalize s.bc = n6 at *; generalize s.sts.length = n7 at *; generalize s.sp = n8 at *; generalize s.sc = n9 at *; generalize s.home = n0 at *
    cases hm : missA ⟨gx, gy, gu, gv⟩ t [] 0 ks with
    | nil =>
      rw [hm] at eV cm
      simp only [headV] at eV
      clear hm
      subst eV
      go_enter Try.func11, Try.ntmps11
      go_wp2_with (first | ((first | with_reducible refine wp_region_ext2 (by kernel_rfl) (by kernel_rfl) ?_ | with_reducible refine wp_region_ext (by kernel_rfl) (by kernel_rfl) ?_); (repeat (first | go_big_quiet_step ((first | (go_at_call 28; with_reducible exact Calls.ext (cs _ (by repeat' (first | (with_reducible exact Below.refl _ _) | (with_reducible assumption) | (with_reducible refine Ext.below _ ?_ ?_) | (with_reducible refine Below.on ?_ (by with_reducible assumption) ?_) | (with_reducible refine Below.alloc ?_ ?_ _) | (with_reducible refine Below.drew ?_) | (with_reducible refine Below.setCell ?_ ?_ _) | (with_reducible exact Nat.le_refl _) | omega | (simp; done) | (simp [go_sem]; done) | (simp at *; omega))))) | (go_at_call 26; with_reducible exact Calls.ext (cg _ _ (guess1_new _ _ _ _ _))))) | quiet_step ((first | (go_at_call 28; with_reducible exact Calls.ext (cs _ (by repeat' (first | (with_reducible exact Below.refl _ _) | (with_reducible assumption) | (with_reducible refine Ext.below _ ?_ ?_) | (with_reducible refine Below.on ?_ (by with_reducible assumption) ?_) | (with_reducible refine Below.alloc ?_ ?_ _) | (with_reducible refine Below.drew ?_) | (with_reducible refine Below.setCell ?_ ?_ _) | (with_reducible exact Nat.le_refl _) | omega | (simp; done) | (simp [go_sem]; done) | (simp at *; omega))))) | (go_at_call 26; with_reducible exact Calls.ext (cg _ _ (guess1_new _ _ _ _ _))))))); refine wpQuiet_nil ?_; rintro _ ⟨yr, rfl⟩; have syr := Ext.size yr; (repeat (first | rw [World.size_alloc] at syr | rw [World.size_setCell] at syr | rw [World.size_drew] at syr))) | (go_at_call 28; (first | with_reducible refine (Calls.giv2 (cs _ (by repeat' (first | (with_reducible exact Below.refl _ _) | (with_reducible assumption) | (with_reducible refine Ext.below _ ?_ ?_) | (with_reducible refine Below.on ?_ (by with_reducible assumption) ?_) | (with_reducible refine Below.alloc ?_ ?_ _) | (with_reducible refine Below.drew ?_) | (with_reducible refine Below.setCell ?_ ?_ _) | (with_reducible exact Nat.le_refl _) | omega | (simp; done) | (simp [go_sem]; done) | (simp at *; omega))))).mono ?_ | with_reducible refine (Calls.giv (cs _ (by repeat' (first | (with_reducible exact Below.refl _ _) | (with_reducible assumption) | (with_reducible refine Ext.below _ ?_ ?_) | (with_reducible refine Below.on ?_ (by with_reducible assumption) ?_) | (with_reducible refine Below.alloc ?_ ?_ _) | (with_reducible refine Below.drew ?_) | (with_reducible refine Below.setCell ?_ ?_ _) | (with_reducible exact Nat.le_refl _) | omega | (simp; done) | (simp [go_sem]; done) | (simp at *; omega))))).mono ?_); rintro _ _ ⟨y1, rfl, rfl⟩; have sy1 := Ext.size y1; (repeat (first | rw [World.size_alloc] at sy1 | rw [World.size_setCell] at sy1 | rw [World.size_drew] at sy1))) | (go_at_call 26; (first | with_reducible refine (Calls.giv2 (cg _ _ (guess1_new _ _ _ _ _))).mono ?_ | with_reducible refine (Calls.giv (cg _ _ (guess1_new _ _ _ _ _))).mono ?_); rintro _ _ ⟨y2, rfl, rfl⟩; have sy2 := Ext.size y2; (repeat (first | rw [World.size_alloc] at sy2 | rw [World.size_setCell] at sy2 | rw [World.size_drew] at sy2))) | (go_at_call 29; refine (cl _ (by repeat' (first | (with_reducible exact Below.refl _ _) | (with_reducible assumption) | (with_reducible refine Ext.below _ ?_ ?_) | (with_reducible refine Below.on ?_ (by with_reducible assumption) ?_) | (with_reducible refine Below.alloc ?_ ?_ _) | (with_reducible refine Below.drew ?_) | (with_reducible refine Below.setCell ?_ ?_ _) | (with_reducible exact Nat.le_refl _) | omega | (simp; done) | (simp [go_sem]; done) | (simp at *; omega)))).mono ?_; rintro _ W3 ⟨hb3, v3, rfl, how3⟩; have hbw3 : Below w.heap.size w W3 := (by refine Below.on ?_ hb3 (by first | omega | (simp only [World.size_alloc]; omega)); repeat' (first | (with_reducible exact Below.refl _ _) | (with_reducible assumption) | (with_reducible refine Ext.below _ ?_ ?_) | (with_reducible refine Below.on ?_ (by with_reducible assumption) ?_) | (with_reducible refine Below.alloc ?_ ?_ _) | (with_reducible refine Below.drew ?_) | (with_reducible refine Below.setCell ?_ ?_ _) | (with_reducible exact Nat.le_refl _) | omega | (simp; done) | (simp [go_sem]; done) | (simp at *; omega))); obtain ⟨p3, c3', rfl, hL3⟩ := owns_looks how3; have hL3 := Go.Lib.hid (fun (W : World) (y : Below W3.heap.size W3 W) => hL3.on y); have d0 : W3.cell? ⟨w.heap.size + 1, 0, none⟩ = some (.int .i64 gx) := ((hb3.cell (p := ⟨w.heap.size + 1, 0, none⟩) (by simp; omega)).trans (by simp [go_sem])); have d1 : W3.cell? ⟨w.heap.size + 1, 1, none⟩ = some (.int .i64 gy) := ((hb3.cell (p := ⟨w.heap.size + 1, 1, none⟩) (by simp; omega)).trans (by simp [go_sem])); have d2 : W3.cell? ⟨w.heap.size + 1, 2, none⟩ = some (.int .i64 gu) := ((hb3.cell (p := ⟨w.heap.size + 1, 2, none⟩) (by simp; omega)).trans (by simp [go_sem])); have d3 : W3.cell? ⟨w.heap.size + 1, 3, none⟩ = some (.int .i64 gv) := ((hb3.cell (p := ⟨w.heap.size + 1, 3, none⟩) (by simp; omega)).trans (by simp [go_sem])); have l3 : w.heap.size + 1 < W3.heap.size := (by have := hb3.size; omega); have l30 : w.heap.size < W3.heap.size := (by omega); have l31 : w.heap.size + 1 < W3.heap.size + 1 := (by omega); have l32 : w.heap.size + 1 ≠ W3.heap.size := (by omega); clear cl how3) | (go_at_call 27; refine (cm _ _ _ (hL3.out _ (by repeat' (first | (with_reducible exact Below.refl _ _) | (with_reducible assumption) | (with_reducible refine Ext.below _ ?_ ?_) | (with_reducible refine Below.on ?_ (by with_reducible assumption) ?_) | (with_reducible refine Below.alloc ?_ ?_ _) | (with_reducible refine Below.drew ?_) | (with_reducible refine Below.setCell ?_ ?_ _) | (with_reducible exact Nat.le_refl _) | omega | (simp; done) | (simp [go_sem]; done) | (simp at *; omega))))).mono ?_; rintro _ W6 ⟨hb6, v6, rfl, how6⟩; obtain ⟨p6, n6', c6', rfl⟩ := owns_isSlice how6; have hbw6 : Below w.heap.size w W6 := (by refine Below.on ?_ hb6 (by first | omega | (simp only [World.size_alloc]; omega)); repeat' (first | (with_reducible exact Below.refl _ _) | (with_reducible assumption) | (with_reducible refine Ext.below _ ?_ ?_) | (with_reducible refine Below.on ?_ (by with_reducible assumption) ?_) | (with_reducible refine Below.alloc ?_ ?_ _) | (with_reducible refine Below.drew ?_) | (with_reducible refine Below.setCell ?_ ?_ _) | (with_reducible exact Nat.le_refl _) | omega | (simp; done) | (simp [go_sem]; done) | (simp at *; omega))); have hz6 : n6' = 0 := (owns_len how6); subst hz6; clear cm how6))
      go_returns
      refine ⟨rfl, ?_⟩
      repeat' (first | (with_reducible exact Below.refl _ _) | (with_reducible assumption) | (with_reducible refine Ext.below _ ?_ ?_) | (with_reducible refine Below.on ?_ (by with_reducible assumption) ?_) | (with_reducible refine Below.alloc ?_ ?_ _) | (with_reducible refine Below.drew ?_) | (with_reducible refine Below.setCell ?_ ?_ _) | (with_reducible exact Nat.le_refl _) | omega | (simp; done) | (simp [go_sem]; done) | (simp at *; omega))
    | cons m ms =>
      rw [hm] at eV cm
      simp only [headV] at eV
      clear hm
      subst eV
      go_enter Try.func11, Try.ntmps11
      go_wp2_with (first | ((first | with_reducible refine wp_region_ext2 (by kernel_rfl) (by kernel_rfl) ?_ | with_reducible refine wp_region_ext (by kernel_rfl) (by kernel_rfl) ?_); (repeat (first | go_big_quiet_step ((first | (go_at_call 28; with_reducible exact Calls.ext (cs _ (by repeat' (first | (with_reducible exact Below.refl _ _) | (with_reducible assumption) | (with_reducible refine Ext.below _ ?_ ?_) | (with_reducible refine Below.on ?_ (by with_reducible assumption) ?_) | (with_reducible refine Below.alloc ?_ ?_ _) | (with_reducible refine Below.drew ?_) | (with_reducible refine Below.setCell ?_ ?_ _) | (with_reducible exact Nat.le_refl _) | omega | (simp; done) | (simp [go_sem]; done) | (simp at *; omega))))) | (go_at_call 26; with_reducible exact Calls.ext (cg _ _ (guess1_new _ _ _ _ _))))) | quiet_step ((first | (go_at_call 28; with_reducible exact Calls.ext (cs _ (by repeat' (first | (with_reducible exact Below.refl _ _) | (with_reducible assumption) | (with_reducible refine Ext.below _ ?_ ?_) | (with_reducible refine Below.on ?_ (by with_reducible assumption) ?_) | (with_reducible refine Below.alloc ?_ ?_ _) | (with_reducible refine Below.drew ?_) | (with_reducible refine Below.setCell ?_ ?_ _) | (with_reducible exact Nat.le_refl _) | omega | (simp; done) | (simp [go_sem]; done) | (simp at *; omega))))) | (go_at_call 26; with_reducible exact Calls.ext (cg _ _ (guess1_new _ _ _ _ _))))))); refine wpQuiet_nil ?_; rintro _ ⟨yr, rfl⟩; have syr := Ext.size yr; (repeat (first | rw [World.size_alloc] at syr | rw [World.size_setCell] at syr | rw [World.size_drew] at syr))) | (go_at_call 28; (first | with_reducible refine (Calls.giv2 (cs _ (by repeat' (first | (with_reducible exact Below.refl _ _) | (with_reducible assumption) | (with_reducible refine Ext.below _ ?_ ?_) | (with_reducible refine Below.on ?_ (by with_reducible assumption) ?_) | (with_reducible refine Below.alloc ?_ ?_ _) | (with_reducible refine Below.drew ?_) | (with_reducible refine Below.setCell ?_ ?_ _) | (with_reducible exact Nat.le_refl _) | omega | (simp; done) | (simp [go_sem]; done) | (simp at *; omega))))).mono ?_ | with_reducible refine (Calls.giv (cs _ (by repeat' (first | (with_reducible exact Below.refl _ _) | (with_reducible assumption) | (with_reducible refine Ext.below _ ?_ ?_) | (with_reducible refine Below.on ?_ (by with_reducible assumption) ?_) | (with_reducible refine Below.alloc ?_ ?_ _) | (with_reducible refine Below.drew ?_) | (with_reducible refine Below.setCell ?_ ?_ _) | (with_reducible exact Nat.le_refl _) | omega | (simp; done) | (simp [go_sem]; done) | (simp at *; omega))))).mono ?_); rintro _ _ ⟨y1, rfl, rfl⟩; have sy1 := Ext.size y1; (repeat (first | rw [World.size_alloc] at sy1 | rw [World.size_setCell] at sy1 | rw [World.size_drew] at sy1))) | (go_at_call 26; (first | with_reducible refine (Calls.giv2 (cg _ _ (guess1_new _ _ _ _ _))).mono ?_ | with_reducible refine (Calls.giv (cg _ _ (guess1_new _ _ _ _ _))).mono ?_); rintro _ _ ⟨y2, rfl, rfl⟩; have sy2 := Ext.size y2; (repeat (first | rw [World.size_alloc] at sy2 | rw [World.size_setCell] at sy2 | rw [World.size_drew] at sy2))) | (go_at_call 29; refine (cl _ (by repeat' (first | (with_reducible exact Below.refl _ _) | (with_reducible assumption) | (with_reducible refine Ext.below _ ?_ ?_) | (with_reducible refine Below.on ?_ (by with_reducible assumption) ?_) | (with_reducible refine Below.alloc ?_ ?_ _) | (with_reducible refine Below.drew ?_) | (with_reducible refine Below.setCell ?_ ?_ _) | (with_reducible exact Nat.le_refl _) | omega | (simp; done) | (simp [go_sem]; done) | (simp at *; omega)))).mono ?_; rintro _ W3 ⟨hb3, v3, rfl, how3⟩; have hbw3 : Below w.heap.size w W3 := (by refine Below.on ?_ hb3 (by first | omega | (simp only [World.size_alloc]; omega)); repeat' (first | (with_reducible exact Below.refl _ _) | (with_reducible assumption) | (with_reducible refine Ext.below _ ?_ ?_) | (with_reducible refine Below.on ?_ (by with_reducible assumption) ?_) | (with_reducible refine Below.alloc ?_ ?_ _) | (with_reducible refine Below.drew ?_) | (with_reducible refine Below.setCell ?_ ?_ _) | (with_reducible exact Nat.le_refl _) | omega | (simp; done) | (simp [go_sem]; done) | (simp at *; omega))); obtain ⟨p3, c3', rfl, hL3⟩ := owns_looks how3; have hL3 := Go.Lib.hid (fun (W : World) (y : Below W3.heap.size W3 W) => hL3.on y); have d0 : W3.cell? ⟨w.heap.size + 1, 0, none⟩ = some (.int .i64 gx) := ((hb3.cell (p := ⟨w.heap.size + 1, 0, none⟩) (by simp; omega)).trans (by simp [go_sem])); have d1 : W3.cell? ⟨w.heap.size + 1, 1, none⟩ = some (.int .i64 gy) := ((hb3.cell (p := ⟨w.heap.size + 1, 1, none⟩) (by simp; omega)).trans (by simp [go_sem])); have d2 : W3.cell? ⟨w.heap.size + 1, 2, none⟩ = some (.int .i64 gu) := ((hb3.cell (p := ⟨w.heap.size + 1, 2, none⟩) (by simp; omega)).trans (by simp [go_sem])); have d3 : W3.cell? ⟨w.heap.size + 1, 3, none⟩ = some (.int .i64 gv) := ((hb3.cell (p := ⟨w.heap.size + 1, 3, none⟩) (by simp; omega)).trans (by simp [go_sem])); have l3 : w.heap.size + 1 < W3.heap.size := (by have := hb3.size; omega); have l30 : w.heap.size < W3.heap.size := (by omega); have l31 : w.heap.size + 1 < W3.heap.size + 1 := (by omega); have l32 : w.heap.size + 1 ≠ W3.heap.size := (by omega); clear cl how3) | (go_at_call 27; refine (cm _ _ _ (hL3.out _ (by repeat' (first | (with_reducible exact Below.refl _ _) | (with_reducible assumption) | (with_reducible refine Ext.below _ ?_ ?_) | (with_reducible refine Below.on ?_ (by with_reducible assumption) ?_) | (with_reducible refine Below.alloc ?_ ?_ _) | (with_reducible refine Below.drew ?_) | (with_reducible refine Below.setCell ?_ ?_ _) | (with_reducible exact Nat.le_refl _) | omega | (simp; done) | (simp [go_sem]; done) | (simp at *; omega))))).mono ?_; rintro _ W6 ⟨hb6, v6, rfl, how6⟩; obtain ⟨g6, c6', rfl, hg6, hq6⟩ := owns_first how6; have hbw6 : Below w.heap.size w W6 := (by refine Below.on ?_ hb6 (by first | omega | (simp only [World.size_alloc]; omega)); repeat' (first | (with_reducible exact Below.refl _ _) | (with_reducible assumption) | (with_reducible refine Ext.below _ ?_ ?_) | (with_reducible refine Below.on ?_ (by with_reducible assumption) ?_) | (with_reducible refine Below.alloc ?_ ?_ _) | (with_reducible refine Below.drew ?_) | (with_reducible refine Below.setCell ?_ ?_ _) | (with_reducible exact Nat.le_refl _) | omega | (simp; done) | (simp [go_sem]; done) | (simp at *; omega))); have hlm : ¬ ((ms.length : Int) + 1 = 0) := (by omega); have hlm2 : (0 : Int) < (ms.length : Int) + 1 := (by omega); clear cm how6))
      go_returns
      refine ⟨rfl, ?_⟩
      repeat' (first | (with_reducible exact Below.refl _ _) | (with_reducible assumption) | (with_reducible refine Ext.below _ ?_ ?_) | (with_reducible refine Below.on ?_ (by with_reducible assumption) ?_) | (with_reducible refine Below.alloc ?_ ?_ _) | (with_reducible refine Below.drew ?_) | (with_reducible refine Below.setCell ?_ ?_ _) | (with_reducible exact Nat.le_refl _) | omega | (simp; done) | (simp [go_sem]; done) | (simp at *; omega))
end Go.Proofs.Ytgoilmiiegpnoaa
namespace Go.Proofs.Ytgoilmiiegpnoaa
def linkF {α : Type} (F : α → Int) : List Int → Nat → List α → Int × List Int
  | acc, _, [] => (-1, acc)
  | acc, i, g :: l => if F g < 0 then (i, []) else linkF F (acc ++ [F g]) (i + 1) l
/-- Either the first guess that misses nothing, or all that is missed. -/
theorem linkF_says {α : Type} (F : α → Int) : ∀ (gs : List α) (acc : List Int) (i : Nat), (∃ j, ∃ h : j < gs.length, F gs[j] < 0 ∧ (∀ m (hm : m < j), 0 ≤ F (gs[m]'(by omega))) ∧ linkF F acc i gs = (((i + j : Nat) : Int), [])) ∨ ((∀ g ∈ gs, 0 ≤ F g) ∧ linkF F acc i gs = (-1, acc ++ gs.map F)) := by
  intro gs
  induction gs with
  | nil => intro acc i; exact .inr ⟨fun g h => (by cases h), by simp [linkF]⟩
  | cons g gs ih =>
    intro acc i
    rw [linkF]
    by_cases h : F g < 0
    · rw [if_pos h]
      exact .inl ⟨0, by simp, h, fun m hm => (by omega), by simp⟩
    · rw [if_neg h]
      rcases ih (acc ++ [F g]) (i + 1) with ⟨j, hj, h1, h2, h3⟩ | ⟨h1, h2⟩
      · refine .inl ⟨j + 1, by simpa using hj, by simpa using h1, fun m hm => ?_, ?_⟩
        · cases m with
          | zero => simp only [List.getElem_cons_zero]; omega
          | succ m => simpa using h2 m (by omega)
        · rw [h3]; congr 1; omega
      · refine .inr ⟨fun q hq => ?_, ?_⟩
        · rcases List.mem_cons.1 hq with rfl | hq
          · omega
          · exact h1 q hq
        · rw [h2, List.map_cons, List.append_assoc]; rfl
/-- Two ways of missing that miss nothing for the same guesses give the same first one. -/
theorem linkF_same {α : Type} (F G : α → Int) (gs : List α) (h : ∀ g ∈ gs, F g < 0 ↔ G g < 0) : (linkF F [] 0 gs).1 = (linkF G [] 0 gs).1 ∧ (linkF F [] 0 gs).2.length = (linkF G [] 0 gs).2.length := by
  rcases linkF_says F gs [] 0 with ⟨j, hj, h1, h2, h3⟩ | ⟨h1, h2⟩ <;> rcases linkF_says G gs [] 0 with ⟨k, hk, g1, g2, g3⟩ | ⟨g1, g2⟩
  · have hjk : j = k := by
      rcases Nat.lt_trichotomy j k with q | q | q
      · have := g2 j q
        have := (h gs[j] (List.getElem_mem hj)).1 h1
        omega
      · exact q
      · have := h2 k q
        have := (h gs[k] (List.getElem_mem hk)).2 g1
        omega
    rw [h3, g3, hjk]
    exact ⟨rfl, rfl⟩
  · have := g1 gs[j] (List.getElem_mem hj)
    have := (h gs[j] (List.getElem_mem hj)).1 h1
    omega
  · have := h1 gs[k] (List.getElem_mem hk)
    have := (h gs[k] (List.getElem_mem hk)).2 g1
    omega
  · rw [h2, g2]
    simp
/-- More guesses behind: the first one stays the first. -/
theorem linkF_more {α : Type} (F : α → Int) (gs : List α) (g : α) (n : Int) (hn : (linkF F [] 0 gs).1 = n) (h0 : 0 ≤ n) : linkF F [] 0 (gs ++ [g]) = (n, []) := by
  rcases linkF_says F gs [] 0 with ⟨j, hj, h1, h2, h3⟩ | ⟨h1, h2⟩
  · rcases linkF_says F (gs ++ [g]) [] 0 with ⟨k, hk, g1, g2, g3⟩ | ⟨g1, g2⟩
    · have hjk : j = k := by
        rcases Nat.lt_trichotomy j k with q | q | q
        · have := g2 j q
          rw [List.getElem_append_left hj] at this
          omega
        · exact q
        · have := h2 k q
          rw [List.getElem_append_left (by omega)] at g1
          omega
      rw [g3, ← hn, h3, hjk]
    · have := g1 gs[j] (List.mem_append_left _ (List.getElem_mem hj))
      omega
  · rw [h2] at hn
    simp only at hn
    omega
end Go.Proofs.Ytgoilmiiegpnoaa
namespace Go.Proofs.Ytgoilmiiegpnoaa
open Go.RowKit Go.Shelf
attribute [local go_sem] Ext.cell Ext.frozen Ext.lt Ext.le Ext.lt_add Ext.le_add Ext.ne Ext.ne' lt2 lt3 lt4 lt5 le2 le3 le4
attribute [local go_sem] RExt.cell RExt.frozen RExt.lt RExt.le RExt.lt_add RExt.le_add RExt.ne RExt.ne'
def MadePost (w : World) : Ending → World → Prop := fun e w' => ∃ (s : SkyR) (p : V2) (x : SightR) (t : Int), e = .returned (.tuple #[s.val, .agg #[.int .i64 p.x, .int .i64 p.y], x.val]) ∧ Below w.heap.size w w' ∧ SmallSky s ∧ s.At w' ∧ ((-4000 ≤ p.x ∧ p.x ≤ 4000) ∧ -4000 ≤ p.y ∧ p.y ≤ 4000) ∧ SightOk s t x ∧ 0 ≤ t ∧ t < 9
theorem calls_named' {P : Program} {f : FuncId} {args : Array Value} {w : World} {Q : Ending → World → Prop} (h : ∀ W0, w = W0 → Calls P f args W0 Q) : Calls P f args w Q := h w rfl
theorem ListIn.on {w w' : World} {p : Option Addr} {len : Nat} {z : Nat → Int} (h : ListIn w p len z) (b : Below w.heap.size w w') : ListIn w' p len z := by
  refine ⟨h.long, fun h0 => ?_⟩
  obtain ⟨B, o, hp, hB, hi⟩ := h.some h0
  let x : Ext w := ⟨w', b⟩
  exact ⟨B, o, hp, x.lt hB, fun i hi' => ⟨(x.cell hB).trans (hi i hi').1, (hi i hi').2⟩⟩
theorem SkyR.AtX.low {s : SkyR} {base : Nat} {W : World} (h : s.AtX base W) {C : Nat} (hC : C < base) (o : Nat) (u : Value) : s.AtX base (W.setCell ⟨C, o, none⟩ u) :=
  h.keep (by simp) fun B o' h1 _ => by
    have h2 : B ≠ C := by omega
    have h3 : C ≠ B := by omega
    simp [go_sem]
theorem SightBox.low {W : World} {B : Nat} {v0 v1 v2 v3 v4 v5 v6 v7 v8 : Int} (h : SightBox W B v0 v1 v2 v3 v4 v5 v6 v7 v8) {C : Nat} (hC : C < B) (o : Nat) (u : Value) : SightBox (W.setCell ⟨C, o, none⟩ u) B v0 v1 v2 v3 v4 v5 v6 v7 v8 := by
  have h1 : B ≠ C := by omega
  have h2 : C ≠ B := by omega
  obtain ⟨c0, c1, c2, c3, c4, c5, c6, c7, c8, f0, f1, f2, f3, f4, f5, f6, f7, f8, lt⟩ := h
  exact ⟨by simp [go_sem, *], by simp [go_sem, *], by simp [go_sem, *], by simp [go_sem, *], by simp [go_sem, *], by simp [go_sem, *], by simp [go_sem, *], by simp [go_sem, *], by simp [go_sem, *], by simp [go_sem, *], by simp [go_sem, *], by simp [go_sem, *], by simp [go_sem, *], by simp [go_sem, *], by simp [go_sem, *], by simp [go_sem, *], by simp [go_sem, *], by simp [go_sem, *], by simpa using lt⟩
theorem made_cells {W : World} {R : Nat} {a0 a1 a2 a3 b0 b1 : Value} {v0 v1 v2 v3 v4 v5 v6 v7 v8 : Int} (h0 : W.cell? ⟨R, 0, none⟩ = some (.slice none 0 0)) (h1 : W.cell? ⟨R, 1, none⟩ = some (.int .i64 0)) (h2 : W.cell? ⟨R, 2, none⟩ = some (.slice none 0 0)) (h3 : W.cell? ⟨R, 3, none⟩ = some (.slice none 0 0)) (g0 : W.cell? ⟨R + 1, 0, none⟩ = some (.int .i64 0)) (g1 : W.cell? ⟨R + 1, 1, none⟩ = some (.int .i64 0)) :
    ((((((((((((((((W.setCell ⟨R, 0, none⟩ a0).setCell ⟨R, 1, none⟩ a1).setCell ⟨R, 2, none⟩ a2).setCell ⟨R, 3, none⟩ a3).setCell ⟨R + 1, 0, none⟩ b0).setCell ⟨R + 1, 1, none⟩ b1).setCell ⟨R + 1 + 1, 0, none⟩ (.int .i64 v0)).setCell ⟨R + 1 + 1, 1, none⟩ (.int .i64 v1)).setCell ⟨R + 1 + 1, 2, none⟩ (.int .i64 v2)).setCell ⟨R + 1 + 1, 3, none⟩ (.int .i64 v3)).setCell ⟨R + 1 + 1, 4, none⟩ (.int .i64 v4)).setCell ⟨R + 1 + 1, 5, none⟩ (.int .i64 v5)).setCell ⟨R + 1 + 1, 6, none⟩ (.int .i64 v6)).setCell ⟨R + 1 + 1, 7, none⟩ (.int .i64 v7)).setCell ⟨R + 1 + 1, 8, none⟩ (.int .i64 v8))).cell? ⟨R, 0, none⟩ = some a0 ∧ ((((((((((((((((W.setCell ⟨R, 0, none⟩ a0).setCell ⟨R, 1, none⟩ a1).setCell ⟨R, 2, none⟩ a2).setCell ⟨R, 3, none⟩ a3).setCell ⟨R + 1, 0, none⟩ b0).setCell ⟨R + 1, 1, none⟩ b1).setCell ⟨R + 1 + 1, 0, none⟩ (.int .i64 v0)).setCell ⟨R + 1 + 1, 1, none⟩ (.int .i64 v1)).setCell ⟨R + 1 + 1, 2, none⟩ (.int .i64 v2)).setCell ⟨R + 1 + 1, 3, none⟩ (.int .i64 v3)).setCell ⟨R + 1 + 1, 4, none⟩ (.int .i64 v4)).setCell ⟨R + 1 + 1, 5, none⟩ (.int .i64 v5)).setCell ⟨R + 1 + 1, 6, none⟩ (.int .i64 v6)).setCell ⟨R + 1 + 1, 7, none⟩ (.int .i64 v7)).setCell ⟨R + 1 + 1, 8, none⟩ (.int .i64 v8))).cell? ⟨R, 1, none⟩ = some a1 ∧ ((((((((((((((((W.setCell ⟨R, 0, none⟩ a0).setCell ⟨R, 1, none⟩ a1).setCell ⟨R, 2, none⟩ a2).setCell ⟨R, 3, none⟩ a3).setCell ⟨R + 1, 0, none⟩ b0).setCell ⟨R + 1, 1, none⟩ b1).setCell ⟨R + 1 + 1, 0, none⟩ (.int .i64 v0)).setCell ⟨R + 1 + 1, 1, none⟩ (.int .i64 v1)).setCell ⟨R + 1 + 1, 2, none⟩ (.int .i64 v2)).setCell ⟨R + 1 + 1, 3, none⟩ (.int .i64 v3)).setCell ⟨R + 1 + 1, 4, none⟩ (.int .i64 v4)).setCell ⟨R + 1 + 1, 5, none⟩ (.int .i64 v5)).setCell ⟨R + 1 + 1, 6, none⟩ (.int .i64 v6)).setCell ⟨R + 1 + 1, 7, none⟩ (.int .i64 v7)).setCell ⟨R + 1 + 1, 8, none⟩ (.int .i64 v8))).cell? ⟨R, 2, none⟩ = some a2 ∧ ((((((((((((((((W.setCell ⟨R, 0, none⟩ a0).setCell ⟨R, 1, none⟩ a1).setCell ⟨R, 2, none⟩ a2).setCell ⟨R, 3, none⟩ a3).setCell ⟨R + 1, 0, none⟩ b0).setCell ⟨R + 1, 1, none⟩ b1).setCell ⟨R + 1 + 1, 0, none⟩ (.int .i64 v0)).setCell ⟨R + 1 + 1, 1, none⟩ (.int .i64 v1)).setCell ⟨R + 1 + 1, 2, none⟩ (.int .i64 v2)).setCell ⟨R + 1 + 1, 3, none⟩ (.int .i64 v3)).setCell ⟨R + 1 + 1, 4, none⟩ (.int .i64 v4)).setCell ⟨R + 1 + 1, 5, none⟩ (.int .i64 v5)).setCell ⟨R + 1 + 1, 6, none⟩ (.int .i64 v6)).setCell ⟨R + 1 + 1, 7, none⟩ (.int .i64 v7)).setCell ⟨R + 1 + 1, 8, none⟩ (.int .i64 v8))).cell? ⟨R, 3, none⟩ = some a3 ∧ ((((((((((((((((W.setCell ⟨R, 0, none⟩ a0).setCell ⟨R, 1, none⟩ a1).setCell ⟨R, 2, none⟩ a2).setCell ⟨R, 3, none⟩ a3).setCell ⟨R + 1, 0, none⟩ b0).setCell ⟨R + 1, 1, none⟩ b1).setCell ⟨R + 1 + 1, 0, none⟩ (.int .i64 v0)).setCell ⟨R + 1 + 1, 1, none⟩ (.int .i64 v1)).setCell ⟨R + 1 + 1, 2, none⟩ (.int .i64 v2)).setCell ⟨R + 1 + 1, 3, none⟩ (.int .i64 v3)).setCell ⟨R + 1 + 1, 4, none⟩ (.int .i64 v4)).setCell ⟨R + 1 + 1, 5, none⟩ (.int .i64 v5)).setCell ⟨R + 1 + 1, 6, none⟩ (.int .i64 v6)).setCell ⟨R + 1 + 1, 7, none⟩ (.int .i64 v7)).setCell ⟨R + 1 + 1, 8, none⟩ (.int .i64 v8))).cell? ⟨R + 1, 0, none⟩ = some b0 ∧ ((((((((((((((((W.setCell ⟨R, 0, none⟩ a0).setCell ⟨R, 1, none⟩ a1).setCell ⟨R, 2, none⟩ a2).setCell ⟨R, 3, none⟩ a3).setCell ⟨R + 1, 0, none⟩ b0).setCell ⟨R + 1, 1, none⟩ b1).setCell ⟨R + 1 + 1, 0, none⟩ (.int .i64 v0)).setCell ⟨R + 1 + 1, 1, none⟩ (.int .i64 v1)).setCell ⟨R + 1 + 1, 2, none⟩ (.int .i64 v2)).setCell ⟨R + 1 + 1, 3, none⟩ (.int .i64 v3)).setCell ⟨R + 1 + 1, 4, none⟩ (.int .i64 v4)).setCell ⟨R + 1 + 1, 5, none⟩ (.int .i64 v5)).setCell ⟨R + 1 + 1, 6, none⟩ (.int .i64 v6)).setCell ⟨R + 1 + 1, 7, none⟩ (.int .i64 v7)).setCell ⟨R + 1 + 1, 8, none⟩ (.int .i64 v8))).cell? ⟨R + 1, 1, none⟩ = some b1 := by
  have e1 : ∀ (V : World) (B o o' : Nat) (u x : Value), V.cell? ⟨B, o, none⟩ = some x → (V.setCell ⟨B, o, none⟩ u).cell? ⟨B, o, none⟩ = some u := fun V B o o' u x h => by simp [go_sem, h]
  have e2 : ∀ (V : World) (B o C o' : Nat) (u x : Value), (B ≠ C ∨ o ≠ o') → V.cell? ⟨B, o, none⟩ = some x → (V.setCell ⟨C, o', none⟩ u).cell? ⟨B, o, none⟩ = some x := fun V B o C o' u x hne h => by
    rcases hne with hne | hne
    · have : C ≠ B := fun e => hne e.symm
      simp [go_sem, h]
    · have : o' ≠ o := fun e => hne e.symm
      by_cases hB : B = C
      · subst hB; simp [go_sem, this, h]
      · have hB' : C ≠ B := fun e => hB e.symm
        simp [go_sem, h]
  refine ⟨?_, ?_, ?_, ?_, ?_, ?_⟩ <;> (repeat (first | (with_reducible exact e1 _ _ _ 0 _ _ h0) | (with_reducible exact e1 _ _ _ 0 _ _ (e2 _ _ _ _ _ _ _ (by omega) h1)) | (with_reducible exact e1 _ _ _ 0 _ _ (e2 _ _ _ _ _ _ _ (by omega) (e2 _ _ _ _ _ _ _ (by omega) h2))) | (with_reducible exact e1 _ _ _ 0 _ _ (e2 _ _ _ _ _ _ _ (by omega) (e2 _ _ _ _ _ _ _ (by omega) (e2 _ _ _ _ _ _ _ (by omega) h3)))) | (with_reducible exact e1 _ _ _ 0 _ _ (e2 _ _ _ _ _ _ _ (by omega) (e2 _ _ _ _ _ _ _ (by omega) (e2 _ _ _ _ _ _ _ (by omega) (e2 _ _ _ _ _ _ _ (by omega) g0))))) | (with_reducible exact e1 _ _ _ 0 _ _ (e2 _ _ _ _ _ _ _ (by omega) (e2 _ _ _ _ _ _ _ (by omega) (e2 _ _ _ _ _ _ _ (by omega) (e2 _ _ _ _ _ _ _ (by omega) (e2 _ _ _ _ _ _ _ (by omega) g1)))))) | (with_reducible refine e2 _ _ _ _ _ _ _ (by omega) ?_)))
end Go.Proofs.Ytgoilmiiegpnoaa
namespace Go.Proofs.Ytgoilmiiegpnoaa
open Go.RowKit Go.Shelf
attribute [local go_sem] Option.isSome_some Ext.cell Ext.frozen Ext.lt Ext.le Ext.lt_add Ext.le_add Ext.ne Ext.ne' lt2 lt3 lt4 lt5 le2 le3 le4
attribute [local go_sem] RExt.cell RExt.frozen RExt.lt RExt.le RExt.lt_add RExt.le_add RExt.ne RExt.ne'
/-- Valid sights whose ticks do not fall. -/
structure TrackOk (s : SkyR) (tk : Int) (l : List SightR) : Prop where
  ok : ∀ x ∈ l, ∃ t, SightOk s t x ∧ 0 ≤ t ∧ t ≤ tk
  up : l.Pairwise fun x y => x.tick ≤ y.tick
theorem TrackOk.snoc {s : SkyR} {tk tk' : Int} {l : List SightR} {x : SightR} (h : TrackOk s tk l) (hx : SightOk s tk x) (h0 : 0 ≤ tk) (ht : tk ≤ tk') : TrackOk s tk' (l ++ [x]) := by
  refine ⟨fun y hy => ?_, ?_⟩
  · rcases List.mem_append.1 hy with h1 | h1
    · obtain ⟨t, h2, h3, h4⟩ := h.ok y h1
      exact ⟨t, h2, h3, by omega⟩
    · rw [List.mem_singleton.1 h1]; exact ⟨tk, hx, h0, ht⟩
  · rw [List.pairwise_append]
    refine ⟨h.up, List.pairwise_singleton _ _, fun a ha c hc => ?_⟩
    rw [List.mem_singleton.1 hc, hx.ot]
    obtain ⟨t, h2, h3, h4⟩ := h.ok a ha
    rw [h2.ot]
    exact h4
theorem TrackOk.mono {s : SkyR} {tk tk' : Int} {l : List SightR} (h : TrackOk s tk l) (ht : tk ≤ tk') : TrackOk s tk' l := ⟨fun x hx => by obtain ⟨t, h1, h2, h3⟩ := h.ok x hx; exact ⟨t, h1, h2, by omega⟩, h.up⟩
def TrackPost (w : World) (b m : Nat) (s : SkyR) (n : Nat) : Ending → World → Prop := fun e w' => ∃ (y : RExt w b) (v : Value) (l : List SightR), e = .returned v ∧ y.now.ownsRow (w.heap.size + 1 + 1) 47 9 v l.length (rowsX l) ∧ TrackOk s 1000 l ∧ 1 ≤ l.length ∧ l.length ≤ n ∧ w' = y.now ∧ RingM y.now b (m + 1 + 10 * n)
theorem TrackPost.intro {w W : World} {b m : Nat} {s : SkyR} {n : Nat} {v : Value} (l : List SightR) (hB : BelowX b w.heap.size w W) (ho : W.ownsRow (w.heap.size + 1 + 1) 47 9 v l.length (rowsX l)) (ht : TrackOk s 1000 l) (h1 : 1 ≤ l.length) (h2 : l.length ≤ n) (hr : RingM W b (m + 1 + 10 * n)) : TrackPost w b m s n (.returned v) W := ⟨⟨W, hB⟩, v, l, rfl, ho, ht, h1, h2, rfl, hr⟩
/-- The boxes of the sky and of the guess. -/
structure TrackBox (W : World) (R : Nat) (k0 k1 k2 k3 : Value) (g : StateR) : Prop where
  c0 : W.cell? ⟨R, 0, none⟩ = some k0
  c1 : W.cell? ⟨R, 1, none⟩ = some k1
  c2 : W.cell? ⟨R, 2, none⟩ = some k2
  c3 : W.cell? ⟨R, 3, none⟩ = some k3
  g0 : W.cell? ⟨R + 1, 0, none⟩ = some (.int .i64 g.x)
  g1 : W.cell? ⟨R + 1, 1, none⟩ = some (.int .i64 g.y)
  g2 : W.cell? ⟨R + 1, 2, none⟩ = some (.int .i64 g.u)
  g3 : W.cell? ⟨R + 1, 3, none⟩ = some (.int .i64 g.v)
  lt : R + 1 < W.heap.size
theorem TrackBox.keep {W W' : World} {R : Nat} {k0 k1 k2 k3 : Value} {g : StateR} (h : TrackBox W R k0 k1 k2 k3 g) (hb : ∀ B, B ≤ R + 1 → R ≤ B → W'.heap[B]? = W.heap[B]?) (hs : W.heap.size ≤ W'.heap.size) : TrackBox W' R k0 k1 k2 k3 g := by
  have hc : ∀ o, W'.cell? ⟨R, o, none⟩ = W.cell? ⟨R, o, none⟩ := fun o => World.cell?_of_block (a := ⟨R, o, none⟩) (hb R (by omega) (by omega))
  have hc' : ∀ o, W'.cell? ⟨R + 1, o, none⟩ = W.cell? ⟨R + 1, o, none⟩ := fun o => World.cell?_of_block (a := ⟨R + 1, o, none⟩) (hb (R + 1) (by omega) (by omega))
  exact ⟨(hc 0).trans h.c0, (hc 1).trans h.c1, (hc 2).trans h.c2, (hc 3).trans h.c3, (hc' 0).trans h.g0, (hc' 1).trans h.g1, (hc' 2).trans h.g2, (hc' 3).trans h.g3, Nat.lt_of_lt_of_le h.lt hs⟩
theorem TrackBox.rext {W : World} {R b : Nat} {k0 k1 k2 k3 : Value} {g : StateR} (h : TrackBox W R k0 k1 k2 k3 g) (hb : b < R) (x : RExt W b) : TrackBox x.now R k0 k1 k2 k3 g := by
  have := h.lt
  exact h.keep (fun B h1 h2 => x.grew.block B (by omega) (by omega)) x.size
theorem TrackBox.alloc {W : World} {R : Nat} {k0 k1 k2 k3 : Value} {g : StateR} (h : TrackBox W R k0 k1 k2 k3 g) (o : Obj) : TrackBox (W.alloc o) R k0 k1 k2 k3 g := by
  have := h.lt
  exact h.keep (fun B h1 h2 => ((Below.refl W.heap.size W).alloc (Nat.le_refl _) o).block B (by omega)) (by simp)
theorem TrackBox.grown {W W' : World} {R base e k n : Nat} {k0 k1 k2 k3 v : Value} {g : StateR} {xs : List Value} (h : TrackBox W R k0 k1 k2 k3 g) (hown : W.ownsRow base e k v n xs) (hb : R + 1 < base) (hg : W.grownBy W' v.ownBlock) : TrackBox W' R k0 k1 k2 k3 g := by
  have := h.lt
  exact h.keep (fun B h1 h2 => hg.block B (by omega) (fun e => by have := (hown.lt B e.symm).1; omega)) hg.size
theorem cells9_new (w : World) (n : Nat) (hn : w.heap.size = n) (x : SightR) (T : TypeId) : ∀ j u, (cellsX x)[j]? = some u → (w.alloc (.cells #[.int .i64 x.kind, .int .i64 x.st, .int .i64 x.cat, .int .i64 x.tick, .int .i64 x.dir.x, .int .i64 x.dir.y, .int .i64 x.err, .int .i64 x.lo, .int .i64 x.hi] T)).cell? ((⟨n, 0, none⟩ : Addr).add j) = some u := by
  subst hn
  intro j u hj
  have hl : j < 9 := by simpa [cellsX] using (List.getElem?_eq_some_iff.1 hj).1
  rw [addr_add]
  rcases (show j = 0 ∨ j = 1 ∨ j = 2 ∨ j = 3 ∨ j = 4 ∨ j = 5 ∨ j = 6 ∨ j = 7 ∨ j = 8 by omega) with rfl | rfl | rfl | rfl | rfl | rfl | rfl | rfl | rfl <;> (simp [cellsX] at hj; subst hj; simp [go_sem])
theorem cellsX_one (x : SightR) : ∀ u ∈ cellsX x, u.oneCell' = true := fun u hu => rowsX_one [x] u (by rw [rowsX_cons]; exact List.mem_append_left _ hu)
set_option maxRecDepth 100000 in
set_option maxHeartbeats 8000000 in
theorem TrackletOf_y (b m : Nat) (s : SkyR) (g : StateR) (n : Nat) (w : World) (hm : m < 50000) (hn1 : 1 ≤ n) (hn4 : n ≤ 4) (hb : b < w.heap.size) (h : RingM w b m) (hA : s.AtX (b + 1) w) (hS : SmallSky s) (hg : GuessOk g) :
    Calls Try.prog 24 #[.pointer (some ⟨b, 0, none⟩), s.val, g.val, .int .i64 n] w (TrackPost w b m s n) := by
  obtain ⟨i9, hi9, hy0, hy1, hy2⟩ := info_parts sight_info
  have hn0 : w.heap.size ≠ b := by omega
  have hn1' : w.heap.size + 1 ≠ b := by omega
  have hn2' : b < w.heap.size + 1 + 1 := by omega
  replace hA := Go.Lib.hid hA
  obtain ⟨⟨gx0, gx1⟩, ⟨gy0, gy1⟩, ⟨gu0, gu1⟩, gv0, gv1⟩ := hg
  unfold SkyR.val StateR.val
  go_enter Try.func24, Try.ntmps24
  go_wp2_with (first | ((first | with_reducible refine wp_region_ext2 (by kernel_rfl) (by kernel_rfl) ?_ | with_reducible refine wp_region_ext (by kernel_rfl) (by kernel_rfl) ?_); (repeat (first | go_big_quiet_step ((first | fail)) | quiet_step ((first | fail)))); refine wpQuiet_nil ?_; rintro _ ⟨yr, rfl⟩; have syr := Ext.size yr; (repeat (first | rw [World.size_alloc] at syr | rw [World.size_setCell] at syr | rw [World.size_drew] at syr)); have : w.heap.size < yr.now.heap.size := (by omega); have : w.heap.size ≤ yr.now.heap.size := (by omega); have : w.heap.size < yr.now.heap.size + 1 + 1 := (by omega); have : w.heap.size + 1 < yr.now.heap.size := (by omega); have : w.heap.size + 1 ≤ yr.now.heap.size := (by omega); have : w.heap.size + 1 < yr.now.heap.size + 1 + 1 := (by omega)) | (go_at_call 22; (with_reducible refine Calls.mono (Next_y n b m _ (by omega) (by omega) (by omega) ?_) ?_); (focus ((repeat (first | (with_reducible assumption) | (with_reducible refine RingM.alloc ?_ _) | (with_reducible refine RingM.drew ?_) | (with_reducible refine RingM.ext ?_ _) | (with_reducible refine RingM.set ?_ _ (by omega)))); done)); (rintro _ _ ⟨yx1, vx1, rfl, hvx1, rfl, rgx1⟩); have syx1 := RExt.size yx1; (repeat (first | rw [World.size_alloc] at syx1 | rw [World.size_setCell] at syx1 | rw [World.size_drew] at syx1)); have : w.heap.size < yx1.now.heap.size := (by omega); have : w.heap.size ≤ yx1.now.heap.size := (by omega); have : w.heap.size < yx1.now.heap.size + 1 + 1 := (by omega); have : w.heap.size + 1 < yx1.now.heap.size := (by omega); have : w.heap.size + 1 ≤ yx1.now.heap.size := (by omega); have : w.heap.size + 1 < yx1.now.heap.size + 1 + 1 := (by omega)))
  refine wp_named (fun W0 hW => ?_)
  have hbox : TrackBox W0 w.heap.size (.slice s.bp s.bodies.length s.bc) (.int .i64 s.home) (.slice s.sp s.sts.length s.sc) (.slice s.cp s.cats.length s.cc) g := by
    rw [← hW]
    exact ⟨(yx1.cell (by simp only [World.size_alloc]; omega) hn0).trans (by simp [go_sem]), (yx1.cell (by simp only [World.size_alloc]; omega) hn0).trans (by simp [go_sem]), (yx1.cell (by simp only [World.size_alloc]; omega) hn0).trans (by simp [go_sem]), (yx1.cell (by simp only [World.size_alloc]; omega) hn0).trans (by simp [go_sem]), (yx1.cell (by simp only [World.size_alloc]; omega) hn1').trans (by simp [go_sem]), (yx1.cell (by simp only [World.size_alloc]; omega) hn1').trans (by simp [go_sem]), (yx1.cell (by simp only [World.size_alloc]; omega) hn1').trans (by simp [go_sem]), (yx1.cell (by simp only [World.size_alloc]; omega) hn1').trans (by simp [go_sem]), by omega⟩
  have hB0 : BelowX b w.heap.size w W0 := by rw [← hW]; repeat' (first | (with_reducible exact BelowX.refl _ _ _) | (with_reducible assumption) | (with_reducible refine RExt.belowX _ ?_ ?_) | (with_reducible refine Ext.belowX _ ?_ ?_) | (with_reducible refine BelowX.alloc ?_ ?_ _) | (with_reducible refine BelowX.drew ?_) | (with_reducible refine BelowX.setCell ?_ ?_ _) | (with_reducible exact Nat.le_refl _) | omega | (simp; done) | (simp [go_sem]; done) | (simp at *; omega))
  have hr0 : RingM W0 b (m + 1) := by rw [← hW]; assumption
  clear hW
  obtain ⟨hv0, hv1⟩ := hvx1
  obtain ⟨k0, rfl⟩ := Int.eq_ofNat_of_zero_le hv0
  have hk0 : k0 < n := by omega
  have wk : (1 : Int) + (k0 : Int) = ((1 + k0 : Nat) : Int) := by omega
  simp only [wk]
  clear wk hv0 hv1
  generalize hK : 1 + k0 = K at *
  go_loopw [9, 10, 11] (fun v t u W => ∃ (k : Nat) (x : RExt w b) (l : List SightR) (tk : Int), t = .int .i64 tk ∧ u = .int .i64 k ∧ W = x.now ∧ x.now.ownsRow (w.heap.size + 1 + 1) 47 9 v l.length (rowsX l) ∧ TrackBox x.now w.heap.size (.slice s.bp s.bodies.length s.bc) (.int .i64 s.home) (.slice s.sp s.sts.length s.sc) (.slice s.cp s.cats.length s.cc) g ∧ RingM x.now b (m + 1 + 10 * l.length) ∧ Hid (TrackOk s tk l ∧ l.length + k = K ∧ 0 ≤ tk ∧ tk ≤ 3 * l.length)) (fun _ _ u _ => (intOf u).toNat)
  case atStart => exact ⟨K, ⟨W0, hB0⟩, [], 0, rfl, rfl, rfl, World.ownsRow_nil _ _ _ _, hbox, hr0, Go.Lib.hid ⟨⟨fun _ h => by simp at h, List.Pairwise.nil⟩, by simp, by omega, by simp⟩⟩
  case round =>
    clear hbox hB0 hr0
    obtain ⟨k, x, l, tk, rfl, rfl, rfl, hown, hbx, hrg, hi⟩ := hrel
    have xs := x.size
    obtain ⟨hok, hlk, ht0, ht1⟩ := hi.out
    replace hok := Go.Lib.hid hok
    replace hlk := Go.Lib.hid hlk
    obtain ⟨bp, bc, rfl⟩ := owns_form hown
    by_cases hk : 0 < k
    · have hkp : (0 : Int) < (k : Int) := by omega
      have hl4 : l.length ≤ 3 := by have := hlk.out; omega
      have wk1 : IntKind.i64.wrap ((k : Int) - 1) = ((k - 1 : Nat) : Int) := by have := hlk.out; rw [IntWalk.i64_in _ (by omega)]; omega
      have htb : tickB tk = true := by unfold tickB; simp; omega
      obtain ⟨pu, hpu⟩ : ∃ q, g.u * tk = q := ⟨_, rfl⟩
      obtain ⟨pv, hpv⟩ : ∃ q, g.v * tk = q := ⟨_, rfl⟩
      have e1 := Int.mul_le_mul_of_nonneg_right gu0 ht0
      have e2 := Int.mul_le_mul_of_nonneg_right gu1 ht0
      have e3 := Int.mul_le_mul_of_nonneg_right gv0 ht0
      have e4 := Int.mul_le_mul_of_nonneg_right gv1 ht0
      rw [hpu] at e1 e2
      rw [hpv] at e3 e4
      obtain ⟨px, hpx⟩ : ∃ q, g.x + pu = q := ⟨_, rfl⟩
      obtain ⟨py, hpy⟩ : ∃ q, g.y + pv = q := ⟨_, rfl⟩
      have w1 : IntKind.i64.wrap (g.u * tk) = pu := by rw [hpu]; exact IntWalk.i64_in _ (by omega)
      have w2 : IntKind.i64.wrap (g.v * tk) = pv := by rw [hpv]; exact IntWalk.i64_in _ (by omega)
      have w3 : IntKind.i64.wrap (g.x + pu) = px := by rw [hpx]; exact IntWalk.i64_in _ (by omega)
      have w4 : IntKind.i64.wrap (g.y + pv) = py := by rw [hpy]; exact IntWalk.i64_in _ (by omega)
      have bpx : -10000 ≤ px ∧ px ≤ 10000 := by omega
      have bpy : -10000 ≤ py ∧ py ≤ 10000 := by omega
      clear e1 e2 e3 e4 hpu hpv hpx hpy
      have hAx : s.AtX (b + 1) x.now := hA.out.rext (by omega) x
      have cs := SightOf_y b (m + 1 + 10 * l.length) s tk px py x.now (by omega) (by omega) hrg hAx hS htb (by omega) (by omega)
      unfold SkyR.val at cs
      have hbx' := Go.Lib.hid hbx
      obtain ⟨c0, c1, c2, c3, g0, g1, g2, g3, lt⟩ := hbx
      clear hi
      have : w.heap.size < x.now.heap.size := by omega
      go_wp2_with (first | ((first | with_reducible refine wp_region_ext2 (by kernel_rfl) (by kernel_rfl) ?_ | with_reducible refine wp_region_ext (by kernel_rfl) (by kernel_rfl) ?_); (repeat (first | go_big_quiet_step ((first | fail)) | quiet_step ((first | fail)))); refine wpQuiet_nil ?_; rintro _ ⟨yr, rfl⟩; have syr := Ext.size yr; (repeat (first | rw [World.size_alloc] at syr | rw [World.size_setCell] at syr | rw [World.size_drew] at syr))) | (go_at_call 44; go_loud ((with_reducible refine Calls.mono cs ?_); rintro _ _ ⟨y, z, rfl, hz, rfl, hrz⟩; unfold SightR.val; have ys := y.size; have hB2 : BelowX b w.heap.size w y.now := RExt.belowX y x.grew (by omega); have how2 := owns_belowX hown (by omega) y.grew; have hbx2 := Go.Lib.hid (hbx'.out.rext (by omega) y); clear c0 c1 c2 c3 g0 g1 g2 g3 lt hown hbx' hrg hAx cs; generalize y.now = W2 at *; clear y; obtain ⟨c0, c1, c2, c3, g0, g1, g2, g3, lt⟩ := hbx2.out; have : w.heap.size < W2.heap.size := (by omega); have : w.heap.size + 1 < W2.heap.size := (by omega))) | (at_builtin; go_loud (refine wpListW_named (fun W3 hW3 => ?_); have s3 : W3.heap.size = W2.heap.size + 1 := (by rw [← hW3]; simp); have how3 : W3.ownsRow (w.heap.size + 1 + 1) 47 9 (.slice bp l.length bc) l.length (rowsX l) := (by rw [← hW3]; exact how2.alloc _); have hbx3 : TrackBox W3 w.heap.size (.slice s.bp s.bodies.length s.bc) (.int .i64 s.home) (.slice s.sp s.sts.length s.sc) (.slice s.cp s.cats.length s.cc) g := (by rw [← hW3]; exact hbx2.out.alloc _); have hr3 : RingM W3 b (m + 1 + 10 * l.length + 9) := (by rw [← hW3]; exact hrz.alloc _); have hB3 : BelowX b w.heap.size w W3 := (by rw [← hW3]; exact hB2.alloc (by omega) _); have hc3 : ∀ j u, (cellsX z)[j]? = some u → W3.cell? ((⟨W2.heap.size, 0, none⟩ : Addr).add j) = some u := (by rw [← hW3]; exact cells9_new _ _ rfl _ _); clear hW3; refine wpList_append_own _ rfl _ _ 34 rfl (w.heap.size + 1 + 1) 47 i9 _ 9 72 Try.underlying34 hi9 hy0 hy1 hy2 rfl (by decide) _ l.length (rowsX l) rfl how3 ⟨W2.heap.size, 0, none⟩ 1 1 (cellsX z) rfl rfl hc3 (cellsX_one z) (by have := hlk.out; unfold maxLen; omega) (by have := hlk.out; omega) (by omega) ?_; intro v' W4 how4 hgr _; have hbx4 := hbx3.grown how3 (by omega) hgr; have hr4 := RingM.grown hr3 how3 (by omega) hgr; have hB4 : BelowX b w.heap.size w W4 := belowX_grown hB3 how3 (by omega) (by omega) hgr; have s4 := hgr.size; clear c0 c1 c2 c3 g0 g1 g2 g3 lt hbx2 hr3 hB3 hc3 hbx3 how3 hgr how2 hrz hB2)) | (go_at_call 22; (with_reducible refine Calls.mono (Next_y 4 b (m + 1 + 10 * l.length + 9) W4 (by omega) (by omega) (by omega) hr4) ?_); rintro _ _ ⟨y5, d, rfl, ⟨hd0, hd1⟩, rfl, hr5⟩; have hB5 : BelowX b w.heap.size w y5.now := RExt.belowX y5 hB4 (by omega); have how5 := owns_belowX how4 (by omega) y5.grew; have hbx5 := hbx4.rext (by omega) y5; have wd : IntKind.i64.wrap (tk + d) = tk + d := IntWalk.i64_in _ (by omega)))
      refine ⟨⟨k - 1, ⟨_, hB5⟩, l ++ [z], tk + d, rfl, rfl, rfl, ?_, hbx5, ?_, Go.Lib.hid ⟨hok.out.snoc hz ht0 (by omega), ?_, by omega, ?_⟩⟩, by simp [intOf]; omega⟩
      · rw [List.length_append, rowsX_append]
        have e : rowsX [z] = cellsX z := by rw [rowsX_cons]; simp [rowsX]
        rw [e]
        exact how5
      · rw [List.length_append]
        exact RingM.mono hr5 (by simp only [List.length_cons, List.length_nil]; omega)
      · have := hlk.out
        rw [List.length_append, List.length_cons, List.length_nil]
        omega
      · rw [List.length_append, List.length_cons, List.length_nil]
        omega
    · have hk0' : k = 0 := by omega
      subst hk0'
      have := hlk.out
      go_wp2_with (first | ((first | with_reducible refine wp_region_ext2 (by kernel_rfl) (by kernel_rfl) ?_ | with_reducible refine wp_region_ext (by kernel_rfl) (by kernel_rfl) ?_); (repeat (first | go_big_quiet_step ((first | fail)) | quiet_step ((first | fail)))); refine wpQuiet_nil ?_; rintro _ ⟨yr, rfl⟩; have syr := Ext.size yr; (repeat (first | rw [World.size_alloc] at syr | rw [World.size_setCell] at syr | rw [World.size_drew] at syr))))
      go_returns
      exact TrackPost.intro l x.grew hown (hok.out.mono (by omega)) (by omega) (by omega) (RingM.mono hrg (by omega))
end Go.Proofs.Ytgoilmiiegpnoaa
namespace Go.Proofs.Ytgoilmiiegpnoaa
open Go.RowKit Go.Shelf
def gcells (g : StateR) : List Value := [.int .i64 g.x, .int .i64 g.y, .int .i64 g.u, .int .i64 g.v]
def growsG (l : List StateR) : List Value := l.flatMap gcells
def tvals (ts : List TrR) : List Value := ts.flatMap fun t => [.slice t.p t.l.length t.c]
theorem growsG_add (l : List StateR) (g : StateR) : growsG (l ++ [g]) = growsG l ++ gcells g := by unfold growsG; rw [List.flatMap_append]; simp
theorem tvals_add (l : List TrR) (t : TrR) : tvals (l ++ [t]) = tvals l ++ [.slice t.p t.l.length t.c] := by unfold tvals; rw [List.flatMap_append]; simp
/-- Tracklets and guesses, rows of the call's own. -/
structure ManyRows (W : World) (base : Nat) (v : Value) (ts : List TrR) (u : Value) (gs : List StateR) : Prop where
  l : W.ownsRow base 34 1 v ts.length (tvals ts)
  t : ∀ t ∈ ts, W.ownsRow base 47 9 (.slice t.p t.l.length t.c) t.l.length (rowsX t.l)
  g : W.ownsRow base 41 4 u gs.length (growsG gs)
section
variable {W W' : World} {base b : Nat} {v u : Value} {ts : List TrR} {gs : List StateR}
theorem ManyRows.nil : ManyRows W base (.slice none 0 0) [] (.slice none 0 0) [] := ⟨World.ownsRow_nil _ _ _ _, fun _ h => (by simp at h), World.ownsRow_nil _ _ _ _⟩
theorem ManyRows.belowX (h : ManyRows W base v ts u gs) (hb : b < base) (y : BelowX b W.heap.size W W') : ManyRows W' base v ts u gs := ⟨owns_belowX h.l hb y, fun t ht => owns_belowX (h.t t ht) hb y, owns_belowX h.g hb y⟩
theorem ManyRows.alloc (h : ManyRows W base v ts u gs) (o : Obj) : ManyRows (W.alloc o) base v ts u gs := ⟨h.l.alloc o, fun t ht => (h.t t ht).alloc o, h.g.alloc o⟩
theorem ManyRows.put (h : ManyRows W base v ts u gs) {B : Nat} (hB : B < base) (o : Nat) (q : Value) : ManyRows (W.setCell ⟨B, o, none⟩ q) base v ts u gs := ⟨owns_put h.l hB o q, fun t ht => owns_put (h.t t ht) hB o q, owns_put h.g hB o q⟩
theorem ManyRows.down {base' : Nat} (h : ManyRows W base v ts u gs) (hb : base' ≤ base) : ManyRows W base' v ts u gs := ⟨owns_base h.l hb, fun t ht => owns_base (h.t t ht) hb, owns_base h.g hb⟩
/-- A guess has been appended. -/
theorem ManyRows.guess {u' : Value} {g : StateR} (h : ManyRows W base v ts u gs) (ho : W'.ownsRow base 41 4 u' (gs.length + 1) (growsG gs ++ gcells g)) (hg : W.grownBy W' u.ownBlock) : ManyRows W' base v ts u' (gs ++ [g]) := by
  refine ⟨h.l.kept hg (owns_apart2 h.l h.g (by decide)), fun t ht => (h.t t ht).kept hg (owns_apart2 (h.t t ht) h.g (by decide)), ?_⟩
  rw [growsG_add, List.length_append]
  exact ho
/-- A tracklet has been appended. -/
theorem ManyRows.track {v' : Value} {t : TrR} (h : ManyRows W base v ts u gs) (ht : W.ownsRow base 47 9 (.slice t.p t.l.length t.c) t.l.length (rowsX t.l)) (ho : W'.ownsRow base 34 1 v' (ts.length + 1) (tvals ts ++ [.slice t.p t.l.length t.c])) (hg : W.grownBy W' v.ownBlock) : ManyRows W' base v' (ts ++ [t]) u gs := by
  refine ⟨?_, fun q hq => ?_, h.g.kept hg (owns_apart2 h.g h.l (by decide))⟩
  · rw [tvals_add, List.length_append]
    exact ho
  · rcases List.mem_append.1 hq with h1 | h1
    · exact (h.t q h1).kept hg (owns_apart2 (h.t q h1) h.l (by decide))
    · rw [List.mem_singleton.1 h1]
      exact ht.kept hg (owns_apart2 ht h.l (by decide))
theorem ManyRows.form (h : ManyRows W base v ts u gs) : (∃ p c, v = .slice p ts.length c) ∧ ∃ p c, u = .slice p gs.length c := ⟨owns_form h.l, owns_form h.g⟩
/-- What the contracts of package sky ask of them. -/
theorem ManyRows.tracks {p : Option Addr} {c : Nat} (h : ManyRows W base (.slice p ts.length c) ts u gs) : TracksAt W p ts := by
  intro j hj
  refine ⟨?_, ?_⟩
  · obtain ⟨q, d, e, hs⟩ := owns_sights (h.t ts[j] (List.getElem_mem hj))
    injection e with e1 e2 e3
    rw [e1]
    exact hs
  · obtain ⟨q, d, e, hc⟩ := owns_at (fun t : TrR => [Value.slice t.p t.l.length t.c]) 1 (fun _ => rfl) ts h.l
    injection e with e1 e2 e3
    obtain ⟨B, o, hp, _, hB, hv⟩ := hc j hj
    refine ⟨B, o, e1.trans hp, hB, ?_⟩
    have := hv 0 _ rfl
    simpa using this
theorem ManyRows.states {p : Option Addr} {c : Nat} (h : ManyRows W base v ts (.slice p gs.length c) gs) : StatesAt W p gs := by
  intro j hj
  obtain ⟨q, d, e, hc⟩ := owns_at gcells 4 (fun _ => rfl) gs h.g
  injection e with e1 e2 e3
  obtain ⟨B, o, hp, _, hB, hv⟩ := hc j hj
  exact ⟨B, o, e1.trans hp, hB, hv 0 _ rfl, hv 1 _ rfl, hv 2 _ rfl, hv 3 _ rfl⟩
end
end Go.Proofs.Ytgoilmiiegpnoaa
namespace Go.Proofs.Ytgoilmiiegpnoaa
open Go.RowKit Go.Shelf
theorem look_ok {s : SkyR} {t : Int} {x : SightR} (hok : SightOk s t x) (ht0 : 0 ≤ t) (ht1 : t ≤ 1000) : ∃ k, lookR s x = .ok k := by
  have ht : tickB x.tick = true := by rw [hok.ot]; unfold tickB; simp; omega
  have hw := whereL_found (h := homeAt s x.tick) hok.os
  have hk := hok.ok
  have hc : ∃ c, coneR s.cats x = .ok c := by
    unfold coneR
    rw [if_pos (biasL_found hok.oc), if_neg]
    · exact ⟨_, rfl⟩
    · have h1 := hok.od
      have h2 := hok.on
      have h3 := hok.oe
      unfold vwinB winB
      simp only [Bool.and_eq_false_iff, decide_eq_false_iff_not]
      omega
  obtain ⟨c, hc⟩ := hc
  have h1 := hok.ol
  have h2 := hok.oh
  have h3 := hok.orr
  have hg : ∃ g, wordR s.cats x = .ok g := by
    unfold wordR
    by_cases e2 : x.kind = 2
    · rw [if_pos e2, if_neg (by omega)]; exact ⟨_, rfl⟩
    · rw [if_neg e2, hc]
      simp only
      by_cases e1 : x.kind = 1
      · rw [if_pos e1]; exact ⟨_, rfl⟩
      · rw [if_neg e1, if_neg (by omega)]; exact ⟨_, rfl⟩
  obtain ⟨g, hg⟩ := hg
  unfold lookR
  rw [if_neg (by omega), if_neg (by simp [ht]), if_neg (by simp [hw]), hg]
  exact ⟨_, rfl⟩
theorem looksA_ok {s : SkyR} : ∀ {l : List SightR} {acc : List LookR} {prev : Option Int}, (∀ x ∈ l, ∃ t, SightOk s t x ∧ 0 ≤ t ∧ t ≤ 1000) → (l.Pairwise fun x y => x.tick ≤ y.tick) → (∀ u, prev = some u → ∀ x ∈ l, u ≤ x.tick) → ∃ ks, looksA s acc prev l = .ok ks
  | [], _, _, _, _, _ => ⟨_, rfl⟩
  | x :: l, acc, prev, h, hp, hu => by
    obtain ⟨t, h1, h2, h3⟩ := h x (by simp)
    obtain ⟨k, hk⟩ := look_ok h1 h2 h3
    rw [looksA, hk]
    simp only
    have hl : lateB prev x.tick = false := by
      unfold lateB
      cases prev with
      | none => rfl
      | some u => have := hu u rfl x (by simp); simp only [decide_eq_false_iff_not]; omega
    rw [hl]
    rw [List.pairwise_cons] at hp
    exact looksA_ok (fun y hy => h y (by simp [hy])) hp.2 fun u e y hy => by injection e with e; subst e; exact hp.1 y hy
theorem TrackOk.looks {s : SkyR} {l : List SightR} (h : TrackOk s 1000 l) (h1 : 1 ≤ l.length) (h4 : l.length ≤ 4) : ∃ ks, looksR s l = .ok ks := by
  have hc : cntE l.length 1 64 = 0 := by unfold cntE; rw [if_neg (by omega), if_neg (by omega)]
  unfold looksR
  rw [if_pos hc]
  exact looksA_ok h.ok h.up fun u e => by cases e
theorem guessesL_ok : ∀ {l : List StateR}, (∀ g ∈ l, GuessOk g) → guessesL l = 0
  | [], _ => rfl
  | g :: l, h => by
    have hg := h g (by simp)
    rw [guessesL, if_pos]
    · exact guessesL_ok fun q hq => h q (by simp [hq])
    · have h1 := hg.x
      have h2 := hg.y
      have h3 := hg.u
      have h4 := hg.v
      unfold guessB vwinB winB
      simp only [Bool.and_eq_true, decide_eq_true_eq]
      omega
theorem guessesE_ok {l : List StateR} (h : ∀ g ∈ l, GuessOk g) (hl : l.length ≤ 64) : guessesE l 0 = 0 := by
  unfold guessesE
  rw [if_neg (by omega), if_pos (by decide)]
  exact guessesL_ok h
end Go.Proofs.Ytgoilmiiegpnoaa
namespace Go.Proofs.Ytgoilmiiegpnoaa
open Go.RowKit Go.Shelf
theorem fmS_shift {s : SkyR} (g : StateR) (t : Int) : ∀ (l : List SightR) (i : Nat), fmS s g t i l = if fmS s g t 0 l < 0 then -1 else i + fmS s g t 0 l := by
  intro l
  induction l with
  | nil => intro i; simp [fmS]
  | cons x l ih =>
    intro i
    rw [fmS, fmS]
    split
    · split
      · simp
      · rw [ih (i + 1), ih 1]
        split
        · rfl
        · rw [if_neg (by omega)]; push_cast; omega
    · simp
theorem fmS_append {s : SkyR} (g : StateR) (t : Int) : ∀ (a b : List SightR) (i : Nat), fmS s g t i (a ++ b) = if fmS s g t i a < 0 then fmS s g t (i + a.length) b else fmS s g t i a := by
  intro a
  induction a with
  | nil => intro b i; simp [fmS]
  | cons x a ih =>
    intro b i
    rw [List.cons_append, fmS, fmS]
    split
    · split
      · rw [if_neg (by omega)]
      · rw [ih b (i + 1), List.length_cons, Nat.add_right_comm, Nat.add_assoc]
    · rw [if_neg (by omega)]
theorem fmS_both {s : SkyR} (g : StateR) (t : Int) (a b : List SightR) : fmS s g t 0 (a ++ b) = if fmS s g t 0 a < 0 then (if fmS s g t 0 b < 0 then -1 else a.length + fmS s g t 0 b) else fmS s g t 0 a := by
  rw [fmS_append, fmS_shift g t b (0 + a.length)]
  simp
theorem linkS_F (s : SkyR) (t : Int) (all : List SightR) : ∀ (gs : List StateR) (acc : List Int) (i : Nat), linkS s t all acc i gs = linkF (fun g => fmS s g t 0 all) acc i gs := by
  intro gs
  induction gs with
  | nil => intro acc i; rfl
  | cons g gs ih => intro acc i; rw [linkS, linkF, ih]
theorem fmS_ge {s : SkyR} (g : StateR) (t : Int) (l : List SightR) : fmS s g t 0 l < 0 → fmS s g t 0 l = -1 := fun h => by
  rcases fmS_in (s := s) g t l 0 with h1 | h1
  · exact h1
  · omega
/-- Links of valid tracklets: of both orders, and with one guess more. -/
theorem joins_says {s : SkyR} {a b : List SightR} {gs : List StateR} {g0 : StateR} (ha : trackE s a = 0) (hb : trackE s b = 0) (hg : guessesE gs 0 = 0) (hg2 : guessesE (gs ++ [g0]) 0 = 0) :
    (∃ j : Nat, ∃ h : j < gs.length, linkR s a b gs 0 = ⟨j, [], 0⟩ ∧ linkR s b a gs 0 = ⟨j, [], 0⟩ ∧ linkR s a b (gs ++ [g0]) 0 = ⟨j, [], 0⟩ ∧ fmS s gs[j] 0 0 a = -1 ∧ fmS s gs[j] 0 0 b = -1 ∧ ∀ m (hm : m < j), ¬ (fmS s (gs[m]'(by omega)) 0 0 a < 0 ∧ fmS s (gs[m]'(by omega)) 0 0 b < 0)) ∨
    (∃ x y : List Int, linkR s a b gs 0 = ⟨-1, x, 0⟩ ∧ linkR s b a gs 0 = ⟨-1, y, 0⟩ ∧ x.length = gs.length ∧ y.length = gs.length ∧ ∀ j (h : j < gs.length) (h' : j < x.length), x[j] = if fmS s gs[j] 0 0 a < 0 then a.length + fmS s gs[j] 0 0 b else fmS s gs[j] 0 0 a) := by
  have hab : ∀ g ∈ gs, (fmS s g 0 0 (a ++ b) < 0 ↔ fmS s g 0 0 (b ++ a) < 0) := fun g _ => by
    rw [fmS_both, fmS_both]
    have := fmS_ge (s := s) g 0 a
    have := fmS_ge (s := s) g 0 b
    split <;> split <;> (try split) <;> omega
  have hs := linkF_same (fun g => fmS s g 0 0 (a ++ b)) (fun g => fmS s g 0 0 (b ++ a)) gs hab
  have e1 : linkR s a b gs 0 = ⟨(linkF (fun g => fmS s g 0 0 (a ++ b)) [] 0 gs).1, (linkF (fun g => fmS s g 0 0 (a ++ b)) [] 0 gs).2, 0⟩ := by
    rw [linkR_eq, if_pos ha, if_pos hb, if_pos hg, linkS_F]
  have e2 : linkR s b a gs 0 = ⟨(linkF (fun g => fmS s g 0 0 (b ++ a)) [] 0 gs).1, (linkF (fun g => fmS s g 0 0 (b ++ a)) [] 0 gs).2, 0⟩ := by
    rw [linkR_eq, if_pos ha, if_pos hb, if_pos hg, linkS_F]
  have e3 : linkR s a b (gs ++ [g0]) 0 = ⟨(linkF (fun g => fmS s g 0 0 (a ++ b)) [] 0 (gs ++ [g0])).1, (linkF (fun g => fmS s g 0 0 (a ++ b)) [] 0 (gs ++ [g0])).2, 0⟩ := by
    rw [linkR_eq, if_pos ha, if_pos hb, if_pos hg2, linkS_F]
  rcases linkF_says (fun g => fmS s g 0 0 (a ++ b)) gs [] 0 with ⟨j, hj, h1, h2, h3⟩ | ⟨h1, h2⟩
  · left
    have h4 := linkF_more (fun g => fmS s g 0 0 (a ++ b)) gs g0 j (by rw [h3]; simp) (by omega)
    rw [h3] at hs e1
    rw [h4] at e3
    simp only [Nat.zero_add, List.length_nil] at hs e1
    have hy : (linkF (fun g => fmS s g 0 0 (b ++ a)) [] 0 gs).2 = [] := List.length_eq_zero_iff.1 hs.2.symm
    rw [← hs.1, hy] at e2
    rw [fmS_both] at h1
    have i1 := fmS_ge (s := s) gs[j] 0 a
    have i2 := fmS_ge (s := s) gs[j] 0 b
    refine ⟨j, hj, e1, e2, e3, ?_, ?_, fun m hm hc => ?_⟩
    · split at h1
      · omega
      · omega
    · split at h1
      · split at h1
        · omega
        · omega
      · omega
    · have h5 := h2 m hm
      rw [fmS_both, if_pos hc.1, if_pos hc.2] at h5
      omega
  · right
    rw [h2] at hs e1
    simp only [List.nil_append, List.length_map] at hs e1
    rw [← hs.1] at e2
    refine ⟨_, _, e1, e2, by simp, hs.2.symm, fun j h h' => ?_⟩
    have h5 := h1 gs[j] (List.getElem_mem h)
    rw [List.getElem_map]
    rw [fmS_both] at h5 ⊢
    split at h5
    · split at h5
      · omega
      · rename_i q1 q2; rw [if_pos q1, if_neg q2, if_pos q1]
    · rename_i q1; rw [if_neg q1, if_neg q1]
theorem missV_ok {s : SkyR} {a : List SightR} {gs : List StateR} (ha : trackE s a = 0) (hg : ∀ g ∈ gs, GuessOk g) (j : Nat) (h : j < gs.length) : missV s a gs[j] 0 = fmS s gs[j] 0 0 a := by
  have h1 := guessesE_ok (l := [gs[j]]) (fun g hm => by rw [List.mem_singleton.1 hm]; exact hg _ (List.getElem_mem h)) (by simp)
  have h2 := guessesE_one.1 h1
  unfold missV
  rw [if_pos ⟨ha, h2.1, h2.2⟩]
theorem TrackOk.err {s : SkyR} {l : List SightR} (hs : SmallSky s) (h : TrackOk s 1000 l) (h1 : 1 ≤ l.length) (h4 : l.length ≤ 4) : trackE s l = 0 := by
  obtain ⟨ks, hk⟩ := h.looks h1 h4
  unfold trackE
  rw [if_pos hs.e, hk]
  rfl
end Go.Proofs.Ytgoilmiiegpnoaa
namespace Go.Proofs.Ytgoilmiiegpnoaa
open Go.RowKit Go.Shelf
attribute [local go_sem] Option.isSome_some Ext.cell Ext.frozen Ext.lt Ext.le Ext.lt_add Ext.le_add Ext.ne Ext.ne' lt2 lt3 lt4 lt5 le2 le3 le4
attribute [local go_sem] RExt.cell RExt.frozen RExt.lt RExt.le RExt.lt_add RExt.le_add RExt.ne RExt.ne'
theorem tr_info : (Try.prog.info? 34).map (fun i => (i.zero, i.size, i.bytes)) = some (some (.slice none 0 0), 1, 24) := by kernel_rfl
theorem state_info : (Try.prog.info? 41).map (fun i => (i.zero, i.size, i.bytes)) = some (some (.agg #[.int .i64 0, .int .i64 0, .int .i64 0, .int .i64 0]), 4, 32) := by kernel_rfl
theorem cell1_new (w : World) (n : Nat) (hn : w.heap.size = n) (v : Value) (T : TypeId) : ∀ j u, [v][j]? = some u → (w.alloc (.cells #[v] T)).cell? ((⟨n, 0, none⟩ : Addr).add j) = some u := by
  subst hn
  intro j u hj
  have hl : j < 1 := by simpa using (List.getElem?_eq_some_iff.1 hj).1
  rw [addr_add]
  obtain rfl : j = 0 := by omega
  simp at hj
  subst hj
  simp [go_sem]
theorem owns_ne {w : World} {base : Nat} {e T : TypeId} {size B n : Nat} {v : Value} {xs : List Value} {cs : Array Value} {f : Nat × Nat} (h : w.ownsRow base e size v n xs) (hY : w.heap[B]? = some (.cells cs T f)) (hne : T ≠ e) : some B ≠ v.ownBlock := by
  rcases h.2 with ⟨rfl, _⟩ | ⟨g, cap, cur, rfl, _, hc, _⟩
  · intro e; cases e
  · intro e'
    simp only [Value.ownBlock, Option.some.injEq] at e'
    subst e'
    rw [hc] at hY
    simp only [Option.some.injEq, Obj.cells.injEq] at hY
    exact hne hY.2.1.symm
theorem cellsG_new (w : World) (n : Nat) (hn : w.heap.size = n) (g : StateR) (T : TypeId) : ∀ j u, (gcells g)[j]? = some u → (w.alloc (.cells #[.int .i64 g.x, .int .i64 g.y, .int .i64 g.u, .int .i64 g.v] T)).cell? ((⟨n, 0, none⟩ : Addr).add j) = some u := by
  subst hn
  intro j u hj
  have hl : j < 4 := by simpa [gcells] using (List.getElem?_eq_some_iff.1 hj).1
  rw [addr_add]
  rcases (show j = 0 ∨ j = 1 ∨ j = 2 ∨ j = 3 by omega) with rfl | rfl | rfl | rfl <;> (simp [gcells] at hj; subst hj; simp [go_sem])
theorem gcells_one (g : StateR) : ∀ u ∈ gcells g, u.oneCell' = true := by
  intro u hu
  simp only [gcells, List.mem_cons, List.not_mem_nil, or_false] at hu
  rcases hu with rfl | rfl | rfl | rfl <;> rfl
structure ManyOk (s : SkyR) (ts : List TrR) (gs : List StateR) : Prop where
  t : ∀ t ∈ ts, TrackOk s 1000 t.l ∧ 1 ≤ t.l.length ∧ t.l.length ≤ 4
  g : ∀ g ∈ gs, GuessOk g
def ManyPost (w : World) : Ending → World → Prop := fun e w' => ∃ (s : SkyR) (ts : List TrR) (gs : List StateR) (v u : Value), e = .returned (.tuple #[s.val, v, u]) ∧ Below w.heap.size w w' ∧ SmallSky s ∧ s.At w' ∧ ManyRows w' w.heap.size v ts u gs ∧ ManyOk s ts gs ∧ (1 ≤ ts.length ∧ ts.length ≤ 6) ∧ 1 ≤ gs.length ∧ gs.length ≤ 6
set_option maxRecDepth 100000 in
set_option maxHeartbeats 16000000 in
theorem many_any (p : Option Addr) (len cap : Nat) (z : Nat → Int) (w : World) (hw : ListIn w p len z) : Calls Try.prog 8 #[.slice p len cap] w (ManyPost w) := by
  obtain ⟨i7, hi7, hx0, hx1, hx2⟩ := info_parts tr_info
  obtain ⟨i8, hi8, hy0, hy1, hy2⟩ := info_parts state_info
  go_enter Try.func8, Try.ntmps8
  go_wp2_with fail
  refine calls_named' (fun W0 hW => ?_)
  have e0o : W0.cell? ⟨w.heap.size, 0, none⟩ = some (.slice none 0 0) := by rw [← hW]; simp [go_sem]
  have ef0o : W0.frozen? ⟨w.heap.size, 0, none⟩ = false := by rw [← hW]; simp [go_sem]
  have e1o : W0.cell? ⟨w.heap.size, 1, none⟩ = some (.int .i64 0) := by rw [← hW]; simp [go_sem]
  have ef1o : W0.frozen? ⟨w.heap.size, 1, none⟩ = false := by rw [← hW]; simp [go_sem]
  have e2o : W0.cell? ⟨w.heap.size, 2, none⟩ = some (.slice none 0 0) := by rw [← hW]; simp [go_sem]
  have ef2o : W0.frozen? ⟨w.heap.size, 2, none⟩ = false := by rw [← hW]; simp [go_sem]
  have e3o : W0.cell? ⟨w.heap.size, 3, none⟩ = some (.slice none 0 0) := by rw [← hW]; simp [go_sem]
  have ef3o : W0.frozen? ⟨w.heap.size, 3, none⟩ = false := by rw [← hW]; simp [go_sem]
  have hl0 : w.heap.size < W0.heap.size := by rw [← hW]; simp
  have hB0 : Below w.heap.size w W0 := by rw [← hW]; repeat' (first | (with_reducible exact Below.refl _ _) | (with_reducible assumption) | (with_reducible refine Ext.below _ ?_ ?_) | (with_reducible refine Below.on ?_ (by with_reducible assumption) ?_) | (with_reducible refine Below.alloc ?_ ?_ _) | (with_reducible refine Below.drew ?_) | (with_reducible refine Below.setCell ?_ ?_ _) | (with_reducible exact Nat.le_refl _) | omega | (simp; done) | (simp [go_sem]; done) | (simp at *; omega))
  have hw0 : ListIn W0 p len z := hw.on hB0
  clear hW
  (go_at_call 20; refine (NewRing_r p len cap z _ hw0).mono ?_; rintro _ _ ⟨y0, rfl, rfl, hs0, hr0⟩)
  replace hr0 : RingM y0.now W0.heap.size 0 := ⟨p, len, cap, z, 0, hr0, Nat.le_refl _⟩
  generalize hb : W0.heap.size = b at *
  go_wp2_with (first | ((first | with_reducible refine wp_region_ext2 (by kernel_rfl) (by kernel_rfl) ?_ | with_reducible refine wp_region_ext (by kernel_rfl) (by kernel_rfl) ?_); (repeat (first | go_big_quiet_step ((first | fail)) | quiet_step ((first | fail)))); refine wpQuiet_nil ?_; rintro _ ⟨yr, rfl⟩; have syr := Ext.size yr; (repeat (first | rw [World.size_alloc] at syr | rw [World.size_setCell] at syr | rw [World.size_drew] at syr))) | (go_at_call 21; refine (SkyOf_y b 0 _ (by omega) hr0).mono ?_; rintro _ _ ⟨y1, s, rfl, hsm, rfl, hAt1, hr1⟩; have sy1 := y1.size; have hl1 := hr1.lt; unfold SkyR.val) | (go_at_call 22; refine (Next_y 3 b (0 + 80) _ (by omega) (by omega) (by omega) (hr1.alloc _)).mono ?_; rintro _ _ ⟨y2, n0, rfl, hn0, rfl, hr2⟩; have sy2 := y2.size; simp only [World.size_alloc] at sy2; have hAt2 : s.AtX (b + 1) y2.now := ((hAt1.alloc _).rext (by omega) y2)))
  have hn1 : y1.now.heap.size ≠ b := by omega
  have hlt1 : y1.now.heap.size < y2.now.heap.size := by omega
  have hbS : b < y1.now.heap.size := hl1
  refine wp_named (fun W4 hW => ?_)
  have k0 : W4.cell? ⟨y1.now.heap.size, 0, none⟩ = some (.slice s.bp s.bodies.length s.bc) := by rw [← hW]; simp [go_sem, hn1]
  have k1 : W4.cell? ⟨y1.now.heap.size, 1, none⟩ = some (.int .i64 s.home) := by rw [← hW]; simp [go_sem, hn1]
  have k2 : W4.cell? ⟨y1.now.heap.size, 2, none⟩ = some (.slice s.sp s.sts.length s.sc) := by rw [← hW]; simp [go_sem, hn1]
  have k3 : W4.cell? ⟨y1.now.heap.size, 3, none⟩ = some (.slice s.cp s.cats.length s.cc) := by rw [← hW]; simp [go_sem, hn1]
  have hr4 : RingM W4 b (0 + 80 + 1) := by rw [← hW]; exact hr2
  have hA4 : s.AtX (b + 1) W4 := by rw [← hW]; exact hAt2
  have hs4 : y1.now.heap.size < W4.heap.size := by rw [← hW]; exact hlt1
  have hB4 : BelowX b b W0 W4 := by rw [← hW]; subst hb; repeat' (first | (with_reducible exact BelowX.refl _ _ _) | (with_reducible assumption) | (with_reducible refine RExt.belowX _ ?_ ?_) | (with_reducible refine Ext.belowX _ ?_ ?_) | (with_reducible refine BelowX.alloc ?_ ?_ _) | (with_reducible refine BelowX.drew ?_) | (with_reducible refine BelowX.setCell ?_ ?_ _) | (with_reducible exact Nat.le_refl _) | omega | (simp; done) | (simp [go_sem]; done) | (simp at *; omega))
  clear hW hAt1 hAt2 hr1 hr2 hr0
  generalize y1.now.heap.size = SB at *
  clear sy1 sy2 hl1 hlt1
  clear y2
  clear y1
  clear hs0
  clear y0
  obtain ⟨hn0a, hn0b⟩ := hn0
  obtain ⟨k0', rfl⟩ := Int.eq_ofNat_of_zero_le hn0a
  have wk : (1 : Int) + (k0' : Int) = ((1 + k0' : Nat) : Int) := by omega
  simp only [wk]
  have hK : 1 + k0' ≤ 3 := by omega
  have hK1 : 1 ≤ 1 + k0' := by omega
  clear wk hn0a hn0b
  generalize 1 + k0' = K at *
  have kk := Go.Lib.hid (And.intro k0 (And.intro k1 (And.intro k2 k3)))
  have hA4 := Go.Lib.hid hA4
  clear k0 k1 k2 k3
  go_loopw [7, 8, 9] (fun v u t W => ∃ (k : Nat) (x : RExt W4 b) (ts : List TrR) (gs : List StateR), t = .int .i64 k ∧ W = x.now ∧ ManyRows x.now W4.heap.size v ts u gs ∧ RingM x.now b (81 + 100 * (K - k)) ∧ Hid (ManyOk s ts gs ∧ k ≤ K ∧ (K - k) ≤ ts.length ∧ ts.length ≤ 2 * (K - k) ∧ (K - k) ≤ gs.length ∧ gs.length ≤ 2 * (K - k))) (fun _ _ t _ => (intOf t).toNat)
  case atStart => exact ⟨K, ⟨W4, BelowX.refl _ _ _⟩, [], [], rfl, rfl, ManyRows.nil, RingM.mono hr4 (by omega), Go.Lib.hid ⟨⟨fun _ h => by simp at h, fun _ h => by simp at h⟩, Nat.le_refl _, by simp, by simp, by simp, by simp⟩⟩
  case round =>
    obtain ⟨k, x, ts, gs, rfl, rfl, hM, hrg, hi⟩ := hrel
    have xs := x.size
    obtain ⟨⟨vp, vc, rfl⟩, up, uc, rfl⟩ := hM.form
    have hkK := hi.out.2.1
    by_cases hk : 0 < k
    · have hkp : (0 : Int) < (k : Int) := by omega
      have wk1 : IntKind.i64.wrap ((k : Int) - 1) = ((k - 1 : Nat) : Int) := by rw [IntWalk.i64_in _ (by omega)]; omega
      have hgb0 : b < x.now.heap.size := by omega
      go_wp2_with (first | ((first | with_reducible refine wp_region_ext2 (by kernel_rfl) (by kernel_rfl) ?_ | with_reducible refine wp_region_ext (by kernel_rfl) (by kernel_rfl) ?_); (repeat (first | go_big_quiet_step ((first | fail)) | quiet_step ((first | fail)))); refine wpQuiet_nil ?_; rintro _ ⟨yr, rfl⟩; have syr := Ext.size yr; (repeat (first | rw [World.size_alloc] at syr | rw [World.size_setCell] at syr | rw [World.size_drew] at syr))) | (go_at_call 23; go_loud (refine (GuessOf_y b (81 + 100 * (K - k)) x.now (by omega) (by omega) hrg).mono ?_; rintro _ _ ⟨y1, g, rfl, hg, rfl, hr1⟩; unfold StateR.val; have sy1 := y1.size; have hB1 : BelowX b W4.heap.size W4 y1.now := RExt.belowX y1 x.grew (by omega); have hM1 := hM.belowX (by omega) y1.grew; clear hM hrg; generalize y1.now = W5 at *; clear y1)) | (go_at_call 22; go_loud (refine callsW_named (fun W6 hW6 => ?_); have hG6 : W6.heap[W5.heap.size]? = some (.cells #[.int .i64 g.x, .int .i64 g.y, .int .i64 g.u, .int .i64 g.v] 41 (0, 0)) := (by rw [← hW6]; exact heap_alloc_new _ _); have s6 : W5.heap.size < W6.heap.size := (by rw [← hW6]; simp); have hM6 : ManyRows W6 W4.heap.size (.slice vp ts.length vc) ts (.slice up gs.length uc) gs := (by rw [← hW6]; exact hM1.alloc _); have hr6 : RingM W6 b (81 + 100 * (K - k) + 4) := (by rw [← hW6]; exact hr1.alloc _); have hB6 : BelowX b W4.heap.size W4 W6 := (by rw [← hW6]; exact hB1.alloc (by omega) _); clear hW6 hM1 hr1 hB1; refine (Next_y 2 b (81 + 100 * (K - k) + 4) W6 (by omega) (by omega) (by omega) hr6).mono ?_; rintro _ _ ⟨y2, n2, rfl, ⟨hn2a, hn2b⟩, rfl, hr7⟩; have sy2 := y2.size; have hM7 := hM6.belowX (by omega) y2.grew; have hB7 : BelowX b W4.heap.size W4 y2.now := RExt.belowX y2 hB6 (by omega); have hG7 := (y2.grew.block W5.heap.size s6 (by omega)).trans hG6; clear hM6 hr6 hB6; generalize y2.now = W7 at *; clear y2)))
      have s7 : W5.heap.size < W7.heap.size := by omega
      have hGb : W5.heap.size ≠ b := by omega
      have sB7 := hB7.size
      have hs7 : SB < W7.heap.size := by omega
      have hbW7 : b < W7.heap.size := by omega
      generalize W5.heap.size = GB at *
      obtain ⟨j0, rfl⟩ := Int.eq_ofNat_of_zero_le hn2a
      have wk2 : (1 : Int) + (j0 : Int) = ((1 + j0 : Nat) : Int) := by omega
      simp only [wk2]
      have hJ1 : 1 ≤ 1 + j0 := by omega
      have hJ2 : 1 + j0 ≤ 2 := by omega
      clear wk2 hn2a hn2b
      generalize 1 + j0 = J at *
      have hcnt := hi.out.2.2
      have hokT := Go.Lib.hid hi.out.1.t
      go_loopw [7, 11] (fun v t W => ∃ (j : Nat) (x2 : RExt W4 b) (ts2 : List TrR), t = .int .i64 j ∧ W = x2.now ∧ ManyRows x2.now W4.heap.size v ts2 (.slice up gs.length uc) gs ∧ RingM x2.now b (81 + 100 * (K - k) + 5 + 41 * (J - j)) ∧ (x2.now.heap[GB]? = some (.cells #[.int .i64 g.x, .int .i64 g.y, .int .i64 g.u, .int .i64 g.v] 41 (0, 0)) ∧ GB < x2.now.heap.size) ∧ Hid ((∀ t ∈ ts2, TrackOk s 1000 t.l ∧ 1 ≤ t.l.length ∧ t.l.length ≤ 4) ∧ j ≤ J ∧ ts2.length + j = ts.length + J)) (fun _ t _ => (intOf t).toNat)
      case atStart => exact ⟨J, ⟨W7, hB7⟩, ts, rfl, rfl, hM7, RingM.mono hr7 (by omega), ⟨hG7, s7⟩, Go.Lib.hid ⟨hokT.out, Nat.le_refl _, rfl⟩⟩
      case round =>
        clear hM7 hr7 hG7
        obtain ⟨j, x2, ts2, rfl, rfl, hM2, hrg2, ⟨hG, hGs⟩, hi2⟩ := hrel
        have xs2 := x2.size
        obtain ⟨⟨vq, vd, rfl⟩, -⟩ := hM2.form
        obtain ⟨-, hjJ, hjl⟩ := hi2.out
        replace hjl := Go.Lib.hid hjl
        by_cases hj : 0 < j
        · have hjp : (0 : Int) < (j : Int) := by omega
          have wj1 : IntKind.i64.wrap ((j : Int) - 1) = ((j - 1 : Nat) : Int) := by rw [IntWalk.i64_in _ (by omega)]; omega
          have hts2 : ts2.length ≤ 100 := by have := hjl.out; omega
          have c0 := (x2.cell hs4 hn1).trans kk.out.1
          have c1 := (x2.cell hs4 hn1).trans kk.out.2.1
          have c2 := (x2.cell hs4 hn1).trans kk.out.2.2.1
          have c3' := (x2.cell hs4 hn1).trans kk.out.2.2.2
          have d0 := cell_of_row x2.now GB 0 _ _ _ hG
          have d1 := cell_of_row x2.now GB 1 _ _ _ hG
          have d2 := cell_of_row x2.now GB 2 _ _ _ hG
          have d3 := cell_of_row x2.now GB 3 _ _ _ hG
          simp only [List.getElem?_toArray, List.getElem?_cons_zero, List.getElem?_cons_succ] at d0 d1 d2 d3
          have hA2 : s.AtX (b + 1) x2.now := hA4.out.rext (by omega) x2
          have cT := TrackletOf_y b (81 + 100 * (K - k) + 5 + 41 * (J - j)) s g 4 x2.now (by omega) (by omega) (by omega) (by omega) hrg2 hA2 hsm hg
          unfold SkyR.val StateR.val at cT
          rw [show ((4 : Nat) : Int) = 4 from rfl] at cT
          go_wp2_with (first | ((first | with_reducible refine wp_region_ext2 (by kernel_rfl) (by kernel_rfl) ?_ | with_reducible refine wp_region_ext (by kernel_rfl) (by kernel_rfl) ?_); (repeat (first | go_big_quiet_step ((first | fail)) | quiet_step ((first | fail)))); refine wpQuiet_nil ?_; rintro _ ⟨yr, rfl⟩; have syr := Ext.size yr; (repeat (first | rw [World.size_alloc] at syr | rw [World.size_setCell] at syr | rw [World.size_drew] at syr))) | (go_at_call 24; go_loud (refine cT.mono ?_; rintro _ _ ⟨y3, v3, l3, rfl, ho3, ht3, h31, h32, rfl, hr3⟩; obtain ⟨p3, c3, rfl⟩ := owns_form ho3; have sy3 := y3.size; have hM3 := hM2.belowX (by omega) y3.grew; replace ho3 := owns_base ho3 (show W4.heap.size ≤ x2.now.heap.size + 1 + 1 by omega); have hB3 : BelowX b W4.heap.size W4 y3.now := RExt.belowX y3 x2.grew (by omega); have hG3 := (y3.grew.block GB hGs hGb).trans hG; clear hM2 hrg2 cT c0 c1 c2 c3' d0 d1 d2 d3 hA2; generalize y3.now = W8 at *; clear y3)) | (at_builtin; go_loud (refine wpListW_named (fun W9 hW9 => ?_); have s9 : W9.heap.size = W8.heap.size + 1 := (by rw [← hW9]; simp); have hM9 : ManyRows W9 W4.heap.size (.slice vq ts2.length vd) ts2 (.slice up gs.length uc) gs := (by rw [← hW9]; exact hM3.alloc _); have ho9 : W9.ownsRow W4.heap.size 47 9 (.slice p3 l3.length c3) l3.length (rowsX l3) := (by rw [← hW9]; exact ho3.alloc _); have hr9 : RingM W9 b (81 + 100 * (K - k) + 5 + 41 * (J - j) + 1 + 10 * 4) := (by rw [← hW9]; exact hr3.alloc _); have hB9 : BelowX b W4.heap.size W4 W9 := (by rw [← hW9]; exact hB3.alloc (by omega) _); have hG9 : W9.heap[GB]? = some (.cells #[.int .i64 g.x, .int .i64 g.y, .int .i64 g.u, .int .i64 g.v] 41 (0, 0)) := (by rw [← hW9]; exact (heap_alloc_old _ _ (by omega)).trans hG3); have hc9 : ∀ j u, [Value.slice p3 l3.length c3][j]? = some u → W9.cell? ((⟨W8.heap.size, 0, none⟩ : Addr).add j) = some u := (by rw [← hW9]; exact cell1_new _ _ rfl _ _); clear hW9; refine wpList_append_own _ rfl _ _ 30 rfl W4.heap.size 34 i7 _ 1 24 Try.underlying30 hi7 hx0 hx1 hx2 rfl (by decide) _ ts2.length (tvals ts2) rfl hM9.l ⟨W8.heap.size, 0, none⟩ 1 1 [.slice p3 l3.length c3] rfl rfl hc9 (by intro u hu; rw [List.mem_singleton.1 hu]; rfl) (by unfold maxLen; omega) (by omega) (by omega) ?_; intro v' W10 ho10 hgr _; have hM10 := hM9.track (t := ⟨p3, c3, l3⟩) ho9 ho10 hgr; have hr10 := RingM.grown hr9 hM9.l (by omega) hgr; have hB10 : BelowX b W4.heap.size W4 W10 := belowX_grown hB9 hM9.l (by omega) (by omega) hgr; have hG10 := (hgr.block GB (by omega) (owns_ne hM9.l hG9 (by decide))).trans hG9; have hs10 := hgr.size; have hGs10 : GB < W10.heap.size := (by omega); clear hM9 ho9 hr9 hB9 hc9 hgr ho10 hM3 ho3 hr3 hB3)))
          refine ⟨⟨j - 1, ⟨_, hB10⟩, ts2 ++ [⟨p3, c3, l3⟩], rfl, rfl, hM10, RingM.mono hr10 (by omega), ⟨hG10, hGs10⟩, Go.Lib.hid ⟨fun t ht => ?_, by omega, ?_⟩⟩, by simp [intOf]; omega⟩
          · rcases List.mem_append.1 ht with h1 | h1
            · exact hi2.out.1 t h1
            · rw [List.mem_singleton.1 h1]; exact ⟨ht3, h31, h32⟩
          · have := hjl.out
            rw [List.length_append, List.length_cons, List.length_nil]
            omega
        · have hj0 : j = 0 := by omega
          subst hj0
          have hrg2' : RingM x2.now b (81 + 100 * (K - k) + 5 + 41 * J) := RingM.mono hrg2 (by omega)
          have hjl' := hjl.out
          have hgs6 : gs.length ≤ 6 := by omega
          go_upto_if 41 with (go_at_call 22; go_loud (refine (Next_y 4 b (81 + 100 * (K - k) + 5 + 41 * J) x2.now (by omega) (by omega) (by omega) hrg2').mono ?_; rintro _ _ ⟨y5, d, rfl, ⟨hd0, hd1⟩, rfl, hr5⟩; have sy5 := y5.size; have hM5 := hM2.belowX (by omega) y5.grew; have hB5 : BelowX b W4.heap.size W4 y5.now := RExt.belowX y5 x2.grew (by omega); have hG5 := (y5.grew.block GB hGs hGb).trans hG; clear hM2 hrg2 hrg2' hG; generalize y5.now = W11 at *; clear y5))
          obtain ⟨V, hV⟩ : ∃ V, decide (0 < d) = V := ⟨_, rfl⟩
          rw [hV]
          replace hV := Go.Lib.hid hV
          go_cut [8] from 42 to 50 (fun s8 wx => ∃ (gs' : List StateR), Hid (ManyRows wx W4.heap.size (.slice vq ts2.length vd) ts2 s8 gs') ∧ RingM wx b (81 + 100 * (K - k) + 5 + 41 * J + 1) ∧ BelowX b W4.heap.size W4 wx ∧ Hid ((∀ q ∈ gs', GuessOk q) ∧ gs.length ≤ gs'.length ∧ gs'.length ≤ gs.length + 1))
          case first =>
            have sB5 := hB5.size
            cases V with
            | true =>
              have b0 := cell_of_row W11 GB 0 _ _ _ hG5
              have b1 := cell_of_row W11 GB 1 _ _ _ hG5
              have b2 := cell_of_row W11 GB 2 _ _ _ hG5
              have b3 := cell_of_row W11 GB 3 _ _ _ hG5
              simp only [List.getElem?_toArray, List.getElem?_cons_zero, List.getElem?_cons_succ] at b0 b1 b2 b3
              go_wp2_with (first | ((first | with_reducible refine wp_region_ext2 (by kernel_rfl) (by kernel_rfl) ?_ | with_reducible refine wp_region_ext (by kernel_rfl) (by kernel_rfl) ?_); (repeat (first | go_big_quiet_step ((first | fail)) | quiet_step ((first | fail)))); refine wpQuiet_nil ?_; rintro _ ⟨yr, rfl⟩; have syr := Ext.size yr; (repeat (first | rw [World.size_alloc] at syr | rw [World.size_setCell] at syr | rw [World.size_drew] at syr))) | (at_builtin; go_loud (refine wpListW_named (fun W12 hWn => ?_); have sn : W12.heap.size = W11.heap.size + 1 := (by rw [← hWn]; simp); have hMn : ManyRows W12 W4.heap.size (.slice vq ts2.length vd) ts2 (.slice up gs.length uc) gs := (by rw [← hWn]; exact hM5.alloc _); have hrn : RingM W12 b (81 + 100 * (K - k) + 5 + 41 * J + 1) := (by rw [← hWn]; exact hr5.alloc _); have hBn : BelowX b W4.heap.size W4 W12 := (by rw [← hWn]; exact hB5.alloc (by omega) _); have hcn : ∀ j u, (gcells g)[j]? = some u → W12.cell? ((⟨W11.heap.size, 0, none⟩ : Addr).add j) = some u := (by rw [← hWn]; exact cellsG_new _ _ rfl _ _); clear hWn; refine wpList_append_own _ rfl _ _ 31 rfl W4.heap.size 41 i8 _ 4 32 Try.underlying31 hi8 hy0 hy1 hy2 rfl (by decide) _ (gs).length (growsG gs) rfl hMn.g ⟨W11.heap.size, 0, none⟩ 1 1 (gcells g) rfl rfl hcn (gcells_one g) (by unfold maxLen; omega) (by omega) (by omega) ?_; intro vn W13 hon hgn _; have hM13 := hMn.guess (g := g) hon hgn; have hr13 := RingM.grown hrn hMn.g (by omega) hgn; have hB13 : BelowX b W4.heap.size W4 W13 := belowX_grown hBn hMn.g (by omega) (by omega) hgn; have so := hgn.size; clear hMn hrn hBn hcn hgn hon)))
              go_meet
              exact ⟨gs ++ [g], Go.Lib.hid hM13, hr13, hB13, Go.Lib.hid ⟨fun r hr => by
                rcases List.mem_append.1 hr with h1 | h1
                · exact hi.out.1.g r h1
                · rw [List.mem_singleton.1 h1]; exact hg, by rw [List.length_append]; omega, by rw [List.length_append]; exact Nat.le_refl _⟩⟩
            | false =>
              go_wp2_with fail
              go_meet
              exact ⟨gs, Go.Lib.hid hM5, hr5, hB5, Go.Lib.hid ⟨hi.out.1.g, Nat.le_refl _, by omega⟩⟩
          case rest =>
            obtain ⟨gs', hM14, hr14, hB14, hc14⟩ := hcut
            replace hM14 := hM14.out
            obtain ⟨-, uq, ud, rfl⟩ := hM14.form
            obtain ⟨ho14, hc14a, hc14b⟩ := hc14.out
            have sB14 := hB14.size
            have hb14 : b < wc.heap.size := by omega
            generalize wc = W14 at *
            go_wp2_with (first | ((first | with_reducible refine wp_region_ext2 (by kernel_rfl) (by kernel_rfl) ?_ | with_reducible refine wp_region_ext (by kernel_rfl) (by kernel_rfl) ?_); (repeat (first | go_big_quiet_step ((first | fail)) | quiet_step ((first | fail)))); refine wpQuiet_nil ?_; rintro _ ⟨yr, rfl⟩; have syr := Ext.size yr; (repeat (first | rw [World.size_alloc] at syr | rw [World.size_setCell] at syr | rw [World.size_drew] at syr))) | (go_at_call 23; go_loud (refine (GuessOf_y b (81 + 100 * (K - k) + 5 + 41 * J + 1) W14 (by omega) (by omega) hr14).mono ?_; rintro _ _ ⟨y6, q, rfl, hq, rfl, hr6⟩; unfold StateR.val; have sy6 := y6.size; have hB6 : BelowX b W4.heap.size W4 y6.now := RExt.belowX y6 hB14 (by omega); have hM6 := hM14.belowX (by omega) y6.grew; clear hM14 hr14 hB14; generalize y6.now = W15 at *; clear y6)) | (at_builtin; go_loud (refine wpListW_named (fun W16 hWn => ?_); have sn : W16.heap.size = W15.heap.size + 1 := (by rw [← hWn]; simp); have hMn : ManyRows W16 W4.heap.size (.slice vq ts2.length vd) ts2 (.slice uq gs'.length ud) gs' := (by rw [← hWn]; exact hM6.alloc _); have hrn : RingM W16 b (81 + 100 * (K - k) + 5 + 41 * J + 1 + 4) := (by rw [← hWn]; exact hr6.alloc _); have hBn : BelowX b W4.heap.size W4 W16 := (by rw [← hWn]; exact hB6.alloc (by omega) _); have hcn : ∀ j u, (gcells q)[j]? = some u → W16.cell? ((⟨W15.heap.size, 0, none⟩ : Addr).add j) = some u := (by rw [← hWn]; exact cellsG_new _ _ rfl _ _); clear hWn; refine wpList_append_own _ rfl _ _ 31 rfl W4.heap.size 41 i8 _ 4 32 Try.underlying31 hi8 hy0 hy1 hy2 rfl (by decide) _ (gs').length (growsG gs') rfl hMn.g ⟨W15.heap.size, 0, none⟩ 1 1 (gcells q) rfl rfl hcn (gcells_one q) (by unfold maxLen; omega) (by omega) (by omega) ?_; intro vn W17 hon hgn _; have hM17 := hMn.guess (g := q) hon hgn; have hr17 := RingM.grown hrn hMn.g (by omega) hgn; have hB17 : BelowX b W4.heap.size W4 W17 := belowX_grown hBn hMn.g (by omega) (by omega) hgn; have so := hgn.size; clear hMn hrn hBn hcn hgn hon)))
            refine ⟨⟨k - 1, ⟨_, hB17⟩, ts2, gs' ++ [q], rfl, rfl, hM17, RingM.mono hr17 (by omega), Go.Lib.hid ⟨⟨hi2.out.1, fun r hr => ?_⟩, by omega, by omega, by omega, ?_, ?_⟩⟩, by simp [intOf]; omega⟩
            · rcases List.mem_append.1 hr with h1 | h1
              · exact ho14 r h1
              · rw [List.mem_singleton.1 h1]; exact hq
            · rw [List.length_append, List.length_cons, List.length_nil]; omega
            · rw [List.length_append, List.length_cons, List.length_nil]; omega
    · have hk0 : k = 0 := by omega
      subst hk0
      have hB4' : BelowX b W0.heap.size W0 W4 := by rw [hb]; exact hB4
      have l00 : w.heap.size < W0.heap.size := by omega
      have n00 : w.heap.size ≠ b := by omega
      have l04 : w.heap.size < W4.heap.size := by omega
      have e0 := (x.cell l04 n00).trans ((RExt.cell ⟨W4, hB4'⟩ l00 n00).trans e0o)
      have ef0 := (x.frozen l04 n00).trans ((RExt.frozen ⟨W4, hB4'⟩ l00 n00).trans ef0o)
      have e1 := (x.cell l04 n00).trans ((RExt.cell ⟨W4, hB4'⟩ l00 n00).trans e1o)
      have ef1 := (x.frozen l04 n00).trans ((RExt.frozen ⟨W4, hB4'⟩ l00 n00).trans ef1o)
      have e2 := (x.cell l04 n00).trans ((RExt.cell ⟨W4, hB4'⟩ l00 n00).trans e2o)
      have ef2 := (x.frozen l04 n00).trans ((RExt.frozen ⟨W4, hB4'⟩ l00 n00).trans ef2o)
      have e3 := (x.cell l04 n00).trans ((RExt.cell ⟨W4, hB4'⟩ l00 n00).trans e3o)
      have ef3 := (x.frozen l04 n00).trans ((RExt.frozen ⟨W4, hB4'⟩ l00 n00).trans ef3o)
      have c0 := (x.cell hs4 hn1).trans kk.out.1
      have c1 := (x.cell hs4 hn1).trans kk.out.2.1
      have c2 := (x.cell hs4 hn1).trans kk.out.2.2.1
      have c3 := (x.cell hs4 hn1).trans kk.out.2.2.2
      have hAx : s.AtX (b + 1) x.now := hA4.out.rext (by omega) x
      have hBw : Below w.heap.size w x.now := (hB0.trans ((hB4.below (Nat.le_refl _)).mono (by omega))).trans (((x.grew.mono (show b ≤ W4.heap.size by omega)).below (Nat.le_refl _)).mono (by omega))
      have hMx := Go.Lib.hid hM
      obtain ⟨q1, -, q2, q3, q4, q5⟩ := hi.out
      replace q1 := Go.Lib.hid q1
      clear hi hM hrg kk e0o ef0o e1o ef1o e2o ef2o e3o ef3o
      go_wp2_with (first | ((first | with_reducible refine wp_region_ext2 (by kernel_rfl) (by kernel_rfl) ?_ | with_reducible refine wp_region_ext (by kernel_rfl) (by kernel_rfl) ?_); (repeat (first | go_big_quiet_step ((first | fail)) | quiet_step ((first | fail)))); refine wpQuiet_nil ?_; rintro _ ⟨yr, rfl⟩; have syr := Ext.size yr; (repeat (first | rw [World.size_alloc] at syr | rw [World.size_setCell] at syr | rw [World.size_drew] at syr))))
      refine bodyPost_ret (v := .tuple #[.agg #[.slice s.bp s.bodies.length s.bc, .int .i64 s.home, .slice s.sp s.sts.length s.sc, .slice s.cp s.cats.length s.cc], .slice vp ts.length vc, .slice up gs.length uc]) (by simp (maxDischargeDepth := 9) [results, Try.results8, go_sem, *]) rfl ?_
      refine ⟨s, ts, gs, .slice vp ts.length vc, .slice up gs.length uc, rfl, ?_, hsm, ?_, ?_, q1.out, ⟨by omega, by omega⟩, by omega, by omega⟩
      · repeat' (first | (with_reducible exact Below.refl _ _) | (with_reducible assumption) | (with_reducible refine Ext.below _ ?_ ?_) | (with_reducible refine Below.on ?_ (by with_reducible assumption) ?_) | (with_reducible refine Below.alloc ?_ ?_ _) | (with_reducible refine Below.drew ?_) | (with_reducible refine Below.setCell ?_ ?_ _) | (with_reducible exact Nat.le_refl _) | omega | (simp; done) | (simp [go_sem]; done) | (simp at *; omega))
      · exact ((((hAx.low (by omega) _ _).low (by omega) _ _).low (by omega) _ _).low (by omega) _ _).at
      · exact ((((hMx.out.put (by omega) _ _).put (by omega) _ _).put (by omega) _ _).put (by omega) _ _).down (by omega)
end Go.Proofs.Ytgoilmiiegpnoaa
namespace Go.Proofs.Ytgoilmiiegpnoaa
open Go.RowKit Go.Shelf
attribute [local go_sem] Option.isSome_some Ext.cell Ext.frozen Ext.lt Ext.le Ext.lt_add Ext.le_add Ext.ne Ext.ne' lt2 lt3 lt4 lt5 le2 le3 le4
/-- The number of the part with the least size, the first one of equal ones. -/
def leastI {α : Type} (F : α → Int) : Int → Int → Nat → List α → Int
  | _, best, _, [] => best
  | least, best, i, g :: l => if i = 0 ∨ F g < least then leastI F (F g) i (i + 1) l else leastI F least best (i + 1) l
theorem leastI_in {α : Type} (F : α → Int) : ∀ (l : List α) (least best : Int) (i : Nat), leastI F least best i l = best ∨ ((i : Int) ≤ leastI F least best i l ∧ leastI F least best i l < i + l.length) := by
  intro l
  induction l with
  | nil => intro least best i; exact .inl rfl
  | cons g l ih =>
    intro least best i
    rw [leastI]
    simp only [List.length_cons]
    split
    · right
      rcases ih (F g) i (i + 1) with h | h <;> omega
    · rcases ih least best (i + 1) with h | h
      · exact .inl h
      · right; omega
theorem missA_len (g : StateR) (t : Int) : ∀ (ks : List LookR) (acc : List Int) (i : Nat), (missA g t acc i ks).length ≤ acc.length + ks.length := by
  intro ks
  induction ks with
  | nil => intro acc i; rw [missA]; simp
  | cons k ks ih =>
    intro acc i
    rw [missA]
    have h1 := ih (if missB g t k then acc ++ [(i : Int)] else acc) (i + 1)
    have h2 : (if missB g t k then acc ++ [(i : Int)] else acc).length ≤ acc.length + 1 := by split <;> simp
    rw [List.length_cons]
    omega
structure BelAt (W : World) (LB TB : Nat) (ks : List LookR) (t : Int) : Prop where
  l : ∃ g o n c pk ck, W.cell? ⟨LB, 0, none⟩ = some (.slice (some ⟨g, o, none⟩) n c) ∧ 0 < n ∧ g < W.heap.size ∧ W.cell? ⟨g, o, none⟩ = some (.slice pk ks.length ck) ∧ LooksAt W pk ks
  lb : LB < W.heap.size
  tb : TB < W.heap.size
  t : W.cell? ⟨TB, 0, none⟩ = some (.int .i64 t)
theorem BelAt.ext {W : World} {LB TB : Nat} {ks : List LookR} {t : Int} (h : BelAt W LB TB ks t) (x : Ext W) : BelAt x.now LB TB ks t := by
  obtain ⟨g, o, n, c, pk, ck, h1, h2, h3, h4, h5⟩ := h.l
  exact ⟨⟨g, o, n, c, pk, ck, (x.cell h.lb).trans h1, h2, x.lt h3, (x.cell h3).trans h4, h5.on x.grew⟩, x.lt h.lb, x.lt h.tb, (x.cell h.tb).trans h.t⟩
theorem BelAt.on {W W' : World} {LB TB : Nat} {ks : List LookR} {t : Int} (h : BelAt W LB TB ks t) (b : Below W.heap.size W W') : BelAt W' LB TB ks t := h.ext ⟨W', b⟩
set_option maxRecDepth 100000 in
set_option maxHeartbeats 4000000 in
theorem Believe1_any (g : StateR) (t : Int) (LB TB : Nat) (ks : List LookR) (w : World) (hg : guessB g = true) (ht : tickB t = true) (hn : ks.length ≤ 4096) (hP : BelAt w LB TB ks t) (hF : ∀ j (h : j < ks.length), ks[j].Fit) :
    Calls Try.prog 35 #[.agg #[.int .i64 g.x, .int .i64 g.y, .int .i64 g.u, .int .i64 g.v], .pointer (some ⟨LB, 0, none⟩), .pointer (some ⟨TB, 0, none⟩)] w (Gives (.int .i64 (missL g t ks).length) w) := by
  obtain ⟨⟨gl, o, n, c, pk, ck, h1, h2, h3, h4, h5⟩, hl, htb, h6⟩ := hP
  have cm := fun (W : World) (y : Below w.heap.size w W) => misses_any g t pk ck ks W hg ht hn (h5.on y) hF
  have hn2 : (0 : Int) < (n : Int) := by omega
  generalize missL g t ks = M at *
  obtain ⟨gx, gy, gu, gv⟩ := g
  simp only at *
  clear hg ht hF h5
  go_enter Try.func35, Try.ntmps35
  go_wp2_with fail
  (first | with_reducible refine wp_region_ext2_heads 5 (by kernel_rfl) (by kernel_rfl) ?_ | with_reducible refine wp_region_ext_heads 5 (by kernel_rfl) (by kernel_rfl) ?_); simp only [List.take_succ_cons, List.take_zero, List.length_cons, List.length_nil, Nat.reduceAdd, Nat.reduceSub]; (repeat (first | go_big_quiet_step (fail) | quiet_step (fail))); refine wpQuiet_nil ?_; rintro _ ⟨yr, rfl⟩
  have syr := yr.size
  have hbr : Below w.heap.size w yr.now := by repeat' (first | (with_reducible exact Below.refl _ _) | (with_reducible assumption) | (with_reducible refine Ext.below _ ?_ ?_) | (with_reducible refine Below.on ?_ (by with_reducible assumption) ?_) | (with_reducible refine Below.alloc ?_ ?_ _) | (with_reducible refine Below.drew ?_) | (with_reducible refine Below.setCell ?_ ?_ _) | (with_reducible exact Nat.le_refl _) | omega | (simp; done) | (simp [go_sem]; done) | (simp at *; omega))
  refine wpAny_ready (rs := [5]) (by kernel_rfl) (by simp) ?_
  refine AllReady.cons rfl (fun K hK => ?_) AllReady.nil
  go_simp
  go_at_call 27
  refine (cm _ hbr).mono ?_
  rintro _ W6 ⟨hb6, v6, rfl, how6⟩
  obtain ⟨p6, n6, c6, rfl⟩ := owns_isSlice how6
  obtain rfl := owns_len how6
  have hbw6 : Below w.heap.size w W6 := by
    refine hbr.trans (hb6.mono ?_)
    have := hbr.size
    omega
  refine hK _ _ ?_
  clear hK K
  refine wpAny_ready (rs := [6]) (by kernel_rfl) (by simp) ?_
  refine AllReady.cons rfl (fun K hK => ?_) AllReady.nil
  go_simp
  refine hK _ _ ?_
  clear hK K
  refine wpAny_ready (rs := [7]) (by kernel_rfl) (by simp) ?_
  refine AllReady.cons rfl (fun K hK => ?_) AllReady.nil
  go_simp
  refine hK _ _ ?_
  clear hK K
  refine wpAny_done (by kernel_rfl) ?_ _
  go_wp2_with (first | ((first | with_reducible refine wp_region_ext2 (by kernel_rfl) (by kernel_rfl) ?_ | with_reducible refine wp_region_ext (by kernel_rfl) (by kernel_rfl) ?_); (repeat (first | go_big_quiet_step ((first | fail)) | quiet_step ((first | fail)))); refine wpQuiet_nil ?_; rintro _ ⟨yr, rfl⟩; have syr := Ext.size yr; (repeat (first | rw [World.size_alloc] at syr | rw [World.size_setCell] at syr | rw [World.size_drew] at syr))))
  go_returns
  refine ⟨rfl, ?_⟩
  repeat' (first | (with_reducible exact Below.refl _ _) | (with_reducible assumption) | (with_reducible refine Ext.below _ ?_ ?_) | (with_reducible refine Below.on ?_ (by with_reducible assumption) ?_) | (with_reducible refine Below.alloc ?_ ?_ _) | (with_reducible refine Below.drew ?_) | (with_reducible refine Below.setCell ?_ ?_ _) | (with_reducible exact Nat.le_refl _) | omega | (simp; done) | (simp [go_sem]; done) | (simp at *; omega))
set_option maxRecDepth 100000 in
set_option maxHeartbeats 8000000 in
theorem leastOf_any (gp : Option Addr) (gc : Nat) (gs : List StateR) (t : Int) (LB TB : Nat) (ks : List LookR) (w : World) (hG : StatesAt w gp gs) (hg : ∀ g ∈ gs, guessB g = true) (hgl : gs.length ≤ 64) (ht : tickB t = true) (hn : ks.length ≤ 4096) (hP : BelAt w LB TB ks t) (hF : ∀ j (h : j < ks.length), ks[j].Fit) :
    Calls Try.prog 34 #[.slice gp gs.length gc, .func (.func 35) #[] #[.pointer (some ⟨LB, 0, none⟩), .pointer (some ⟨TB, 0, none⟩)]] w (Gives (.int .i64 (leastI (fun g => ((missL g t ks).length : Int)) 0 0 0 gs)) w) := by
  have cb := Go.Lib.hid (fun j (h : j < gs.length) (W : World) (y : Below w.heap.size w W) => Believe1_any gs[j] t LB TB ks W (hg _ (List.getElem_mem h)) ht hn (hP.on y) hF)
  have hml : Hid (∀ j (h : j < gs.length), (missL gs[j] t ks).length ≤ 4096) := Go.Lib.hid fun j h => by
    have := missA_len gs[j] t ks [] 0
    unfold missL
    simp only [List.length_nil] at this
    omega
  obtain ⟨V, hV⟩ : ∃ V, leastI (fun g => ((missL g t ks).length : Int)) 0 0 0 gs = V := ⟨_, rfl⟩
  rw [hV]
  have hV := Go.Lib.hid hV
  have hG := Go.Lib.hid hG
  clear hg ht hn hP hF
  go_enter Try.func34, Try.ntmps34
  go_wp2_with fail
  refine wp_named (fun W0 hW => ?_)
  have hB0 : Below w.heap.size w W0 := by rw [← hW]; repeat' (first | (with_reducible exact Below.refl _ _) | (with_reducible assumption) | (with_reducible refine Ext.below _ ?_ ?_) | (with_reducible refine Below.on ?_ (by with_reducible assumption) ?_) | (with_reducible refine Below.alloc ?_ ?_ _) | (with_reducible refine Below.drew ?_) | (with_reducible refine Below.setCell ?_ ?_ _) | (with_reducible exact Nat.le_refl _) | omega | (simp; done) | (simp [go_sem]; done) | (simp at *; omega))
  have hG0 := Go.Lib.hid (hG.out.on hB0)
  clear hW hG
  go_loopw [5, 6, 12] (fun a b u W => ∃ (i : Nat) (x : Ext W0) (least best : Int), a = .int .i64 least ∧ b = .int .i64 best ∧ u = .int .i64 i ∧ W = x.now ∧ Hid (i ≤ gs.length ∧ leastI (fun g => ((missL g t ks).length : Int)) least best i (gs.drop i) = V)) (fun _ _ u _ => gs.length - (intOf u).toNat)
  case atStart => exact ⟨0, ⟨W0, Below.refl _ _⟩, 0, 0, rfl, rfl, rfl, rfl, Go.Lib.hid ⟨Nat.zero_le _, by simpa using hV.out⟩⟩
  case round =>
    obtain ⟨i, x, least, best, rfl, rfl, rfl, rfl, hi⟩ := hrel
    have xs := x.size
    have hbx := x.below hB0 (by have := hB0.size; omega)
    have hwx := hbx.size
    by_cases hlt : i < gs.length
    · have hlt2 : (i : Int) < gs.length := by omega
      obtain ⟨B, o, rfl, hB, r1, r2, r3, r4⟩ := hG0.out i hlt
      have hE := hi.out.2
      rw [drop_at hlt, leastI] at hE
      have cb := fun (W : World) (y : Below w.heap.size w W) => cb.out i hlt W y
      have hm := hml.out i hlt
      have : B < (x.now).heap.size := (by omega); have : B < (x.now).heap.size + 1 := (by omega); have : B < (x.now).heap.size + 1 + 1 := (by omega); have : B ≠ (x.now).heap.size := (by omega); have : B ≠ (x.now).heap.size + 1 := (by omega)
      by_cases hc : i = 0 ∨ ((missL gs[i] t ks).length : Int) < least
      · rw [if_pos hc] at hE
        have key : Hid (i + 1 ≤ gs.length ∧ leastI (fun g => ((missL g t ks).length : Int)) ((missL gs[i] t ks).length : Int) i (i + 1) (gs.drop (i + 1)) = V) := Go.Lib.hid ⟨hlt, hE⟩
        clear hE hi hml hV
        generalize (missL gs[i] t ks).length = ml at *
        generalize gs[i].x = g1' at *
        generalize gs[i].y = g2' at *
        generalize gs[i].u = g3' at *
        generalize gs[i].v = g4' at *
        by_cases hz : i = 0
        · clear hc
          subst hz
          simp only [Nat.zero_mul, Nat.add_zero] at r1 r2 r3 r4
          go_wp2_with (first | ((first | with_reducible refine wp_region_ext2 (by kernel_rfl) (by kernel_rfl) ?_ | with_reducible refine wp_region_ext (by kernel_rfl) (by kernel_rfl) ?_); (repeat (first | go_big_quiet_step ((first | (go_at_call 35; with_reducible exact Calls.ext (cb _ (by repeat' (first | (with_reducible exact Below.refl _ _) | (with_reducible assumption) | (with_reducible refine Ext.below _ ?_ ?_) | (with_reducible refine Below.on ?_ (by with_reducible assumption) ?_) | (with_reducible refine Below.alloc ?_ ?_ _) | (with_reducible refine Below.drew ?_) | (with_reducible refine Below.setCell ?_ ?_ _) | (with_reducible exact Nat.le_refl _) | omega | (simp; done) | (simp [go_sem]; done) | (simp at *; omega))))))) | quiet_step ((first | (go_at_call 35; with_reducible exact Calls.ext (cb _ (by repeat' (first | (with_reducible exact Below.refl _ _) | (with_reducible assumption) | (with_reducible refine Ext.below _ ?_ ?_) | (with_reducible refine Below.on ?_ (by with_reducible assumption) ?_) | (with_reducible refine Below.alloc ?_ ?_ _) | (with_reducible refine Below.drew ?_) | (with_reducible refine Below.setCell ?_ ?_ _) | (with_reducible exact Nat.le_refl _) | omega | (simp; done) | (simp [go_sem]; done) | (simp at *; omega))))))))); refine wpQuiet_nil ?_; rintro _ ⟨yr, rfl⟩; have syr := Ext.size yr; (repeat (first | rw [World.size_alloc] at syr | rw [World.size_setCell] at syr | rw [World.size_drew] at syr)); have : B < yr.now.heap.size := (by omega); have : B ≤ yr.now.heap.size := (by omega); have : B < yr.now.heap.size + 1 + 1 := (by omega)) | (go_at_call 35; (first | with_reducible refine (Calls.giv2 (cb _ (by repeat' (first | (with_reducible exact Below.refl _ _) | (with_reducible assumption) | (with_reducible refine Ext.below _ ?_ ?_) | (with_reducible refine Below.on ?_ (by with_reducible assumption) ?_) | (with_reducible refine Below.alloc ?_ ?_ _) | (with_reducible refine Below.drew ?_) | (with_reducible refine Below.setCell ?_ ?_ _) | (with_reducible exact Nat.le_refl _) | omega | (simp; done) | (simp [go_sem]; done) | (simp at *; omega))))).mono ?_ | with_reducible refine (Calls.giv (cb _ (by repeat' (first | (with_reducible exact Below.refl _ _) | (with_reducible assumption) | (with_reducible refine Ext.below _ ?_ ?_) | (with_reducible refine Below.on ?_ (by with_reducible assumption) ?_) | (with_reducible refine Below.alloc ?_ ?_ _) | (with_reducible refine Below.drew ?_) | (with_reducible refine Below.setCell ?_ ?_ _) | (with_reducible exact Nat.le_refl _) | omega | (simp; done) | (simp [go_sem]; done) | (simp at *; omega))))).mono ?_); rintro _ _ ⟨y1, rfl, rfl⟩; have sy1 := Ext.size y1; (repeat (first | rw [World.size_alloc] at sy1 | rw [World.size_setCell] at sy1 | rw [World.size_drew] at sy1)); have : B < y1.now.heap.size := (by omega); have : B ≤ y1.now.heap.size := (by omega); have : B < y1.now.heap.size + 1 + 1 := (by omega)))
          refine ⟨⟨0 + 1, ⟨_, ?_⟩, _, _, rfl, rfl, by simp, rfl, key⟩, by simp [intOf]; omega⟩
          repeat' (first | (with_reducible exact Below.refl _ _) | (with_reducible assumption) | (with_reducible refine Ext.below _ ?_ ?_) | (with_reducible refine Below.on ?_ (by with_reducible assumption) ?_) | (with_reducible refine Below.alloc ?_ ?_ _) | (with_reducible refine Below.drew ?_) | (with_reducible refine Below.setCell ?_ ?_ _) | (with_reducible exact Nat.le_refl _) | omega | (simp; done) | (simp [go_sem]; done) | (simp at *; omega))
        · have hz' : ¬ (i : Int) = 0 := by omega
          have hc' : (ml : Int) < least := by omega
          clear hc
          go_wp2_with (first | ((first | with_reducible refine wp_region_ext2 (by kernel_rfl) (by kernel_rfl) ?_ | with_reducible refine wp_region_ext (by kernel_rfl) (by kernel_rfl) ?_); (repeat (first | go_big_quiet_step ((first | (go_at_call 35; with_reducible exact Calls.ext (cb _ (by repeat' (first | (with_reducible exact Below.refl _ _) | (with_reducible assumption) | (with_reducible refine Ext.below _ ?_ ?_) | (with_reducible refine Below.on ?_ (by with_reducible assumption) ?_) | (with_reducible refine Below.alloc ?_ ?_ _) | (with_reducible refine Below.drew ?_) | (with_reducible refine Below.setCell ?_ ?_ _) | (with_reducible exact Nat.le_refl _) | omega | (simp; done) | (simp [go_sem]; done) | (simp at *; omega))))))) | quiet_step ((first | (go_at_call 35; with_reducible exact Calls.ext (cb _ (by repeat' (first | (with_reducible exact Below.refl _ _) | (with_reducible assumption) | (with_reducible refine Ext.below _ ?_ ?_) | (with_reducible refine Below.on ?_ (by with_reducible assumption) ?_) | (with_reducible refine Below.alloc ?_ ?_ _) | (with_reducible refine Below.drew ?_) | (with_reducible refine Below.setCell ?_ ?_ _) | (with_reducible exact Nat.le_refl _) | omega | (simp; done) | (simp [go_sem]; done) | (simp at *; omega))))))))); refine wpQuiet_nil ?_; rintro _ ⟨yr, rfl⟩; have syr := Ext.size yr; (repeat (first | rw [World.size_alloc] at syr | rw [World.size_setCell] at syr | rw [World.size_drew] at syr)); have : B < yr.now.heap.size := (by omega); have : B ≤ yr.now.heap.size := (by omega); have : B < yr.now.heap.size + 1 + 1 := (by omega)) | (go_at_call 35; (first | with_reducible refine (Calls.giv2 (cb _ (by repeat' (first | (with_reducible exact Below.refl _ _) | (with_reducible assumption) | (with_reducible refine Ext.below _ ?_ ?_) | (with_reducible refine Below.on ?_ (by with_reducible assumption) ?_) | (with_reducible refine Below.alloc ?_ ?_ _) | (with_reducible refine Below.drew ?_) | (with_reducible refine Below.setCell ?_ ?_ _) | (with_reducible exact Nat.le_refl _) | omega | (simp; done) | (simp [go_sem]; done) | (simp at *; omega))))).mono ?_ | with_reducible refine (Calls.giv (cb _ (by repeat' (first | (with_reducible exact Below.refl _ _) | (with_reducible assumption) | (with_reducible refine Ext.below _ ?_ ?_) | (with_reducible refine Below.on ?_ (by with_reducible assumption) ?_) | (with_reducible refine Below.alloc ?_ ?_ _) | (with_reducible refine Below.drew ?_) | (with_reducible refine Below.setCell ?_ ?_ _) | (with_reducible exact Nat.le_refl _) | omega | (simp; done) | (simp [go_sem]; done) | (simp at *; omega))))).mono ?_); rintro _ _ ⟨y1, rfl, rfl⟩; have sy1 := Ext.size y1; (repeat (first | rw [World.size_alloc] at sy1 | rw [World.size_setCell] at sy1 | rw [World.size_drew] at sy1)); have : B < y1.now.heap.size := (by omega); have : B ≤ y1.now.heap.size := (by omega); have : B < y1.now.heap.size + 1 + 1 := (by omega)))
          refine ⟨⟨i + 1, ⟨_, ?_⟩, _, _, rfl, rfl, by simp, rfl, key⟩, by simp [intOf]; omega⟩
          repeat' (first | (with_reducible exact Below.refl _ _) | (with_reducible assumption) | (with_reducible refine Ext.below _ ?_ ?_) | (with_reducible refine Below.on ?_ (by with_reducible assumption) ?_) | (with_reducible refine Below.alloc ?_ ?_ _) | (with_reducible refine Below.drew ?_) | (with_reducible refine Below.setCell ?_ ?_ _) | (with_reducible exact Nat.le_refl _) | omega | (simp; done) | (simp [go_sem]; done) | (simp at *; omega))
      · rw [if_neg hc] at hE
        have key : Hid (i + 1 ≤ gs.length ∧ leastI (fun g => ((missL g t ks).length : Int)) least best (i + 1) (gs.drop (i + 1)) = V) := Go.Lib.hid ⟨hlt, hE⟩
        have hz' : ¬ (i : Int) = 0 := by omega
        have hc' : ¬ ((missL gs[i] t ks).length : Int) < least := by omega
        clear hE hi hml hV hc
        generalize (missL gs[i] t ks).length = ml at *
        have hcb : decide ((ml : Int) < least) = false := by simp only [decide_eq_false_iff_not]; exact hc'
        have hle : least ≤ (ml : Int) := by omega
        generalize gs[i].x = g1' at *
        generalize gs[i].y = g2' at *
        generalize gs[i].u = g3' at *
        generalize gs[i].v = g4' at *
        go_wp2_with (first | ((first | with_reducible refine wp_region_ext2 (by kernel_rfl) (by kernel_rfl) ?_ | with_reducible refine wp_region_ext (by kernel_rfl) (by kernel_rfl) ?_); (repeat (first | go_big_quiet_step ((first | (go_at_call 35; with_reducible exact Calls.ext (cb _ (by repeat' (first | (with_reducible exact Below.refl _ _) | (with_reducible assumption) | (with_reducible refine Ext.below _ ?_ ?_) | (with_reducible refine Below.on ?_ (by with_reducible assumption) ?_) | (with_reducible refine Below.alloc ?_ ?_ _) | (with_reducible refine Below.drew ?_) | (with_reducible refine Below.setCell ?_ ?_ _) | (with_reducible exact Nat.le_refl _) | omega | (simp; done) | (simp [go_sem]; done) | (simp at *; omega))))))) | quiet_step ((first | (go_at_call 35; with_reducible exact Calls.ext (cb _ (by repeat' (first | (with_reducible exact Below.refl _ _) | (with_reducible assumption) | (with_reducible refine Ext.below _ ?_ ?_) | (with_reducible refine Below.on ?_ (by with_reducible assumption) ?_) | (with_reducible refine Below.alloc ?_ ?_ _) | (with_reducible refine Below.drew ?_) | (with_reducible refine Below.setCell ?_ ?_ _) | (with_reducible exact Nat.le_refl _) | omega | (simp; done) | (simp [go_sem]; done) | (simp at *; omega))))))))); refine wpQuiet_nil ?_; rintro _ ⟨yr, rfl⟩; have syr := Ext.size yr; (repeat (first | rw [World.size_alloc] at syr | rw [World.size_setCell] at syr | rw [World.size_drew] at syr)); have : B < yr.now.heap.size := (by omega); have : B ≤ yr.now.heap.size := (by omega); have : B < yr.now.heap.size + 1 + 1 := (by omega)) | (go_at_call 35; (first | with_reducible refine (Calls.giv2 (cb _ (by repeat' (first | (with_reducible exact Below.refl _ _) | (with_reducible assumption) | (with_reducible refine Ext.below _ ?_ ?_) | (with_reducible refine Below.on ?_ (by with_reducible assumption) ?_) | (with_reducible refine Below.alloc ?_ ?_ _) | (with_reducible refine Below.drew ?_) | (with_reducible refine Below.setCell ?_ ?_ _) | (with_reducible exact Nat.le_refl _) | omega | (simp; done) | (simp [go_sem]; done) | (simp at *; omega))))).mono ?_ | with_reducible refine (Calls.giv (cb _ (by repeat' (first | (with_reducible exact Below.refl _ _) | (with_reducible assumption) | (with_reducible refine Ext.below _ ?_ ?_) | (with_reducible refine Below.on ?_ (by with_reducible assumption) ?_) | (with_reducible refine Below.alloc ?_ ?_ _) | (with_reducible refine Below.drew ?_) | (with_reducible refine Below.setCell ?_ ?_ _) | (with_reducible exact Nat.le_refl _) | omega | (simp; done) | (simp [go_sem]; done) | (simp at *; omega))))).mono ?_); rintro _ _ ⟨y1, rfl, rfl⟩; have sy1 := Ext.size y1; (repeat (first | rw [World.size_alloc] at sy1 | rw [World.size_setCell] at sy1 | rw [World.size_drew] at sy1)); have : B < y1.now.heap.size := (by omega); have : B ≤ y1.now.heap.size := (by omega); have : B < y1.now.heap.size + 1 + 1 := (by omega)))
        refine ⟨⟨i + 1, ⟨_, ?_⟩, _, _, rfl, rfl, by simp, rfl, key⟩, by simp [intOf]; omega⟩
        repeat' (first | (with_reducible exact Below.refl _ _) | (with_reducible assumption) | (with_reducible refine Ext.below _ ?_ ?_) | (with_reducible refine Below.on ?_ (by with_reducible assumption) ?_) | (with_reducible refine Below.alloc ?_ ?_ _) | (with_reducible refine Below.drew ?_) | (with_reducible refine Below.setCell ?_ ?_ _) | (with_reducible exact Nat.le_refl _) | omega | (simp; done) | (simp [go_sem]; done) | (simp at *; omega))
    · have hge : ¬ (i : Int) < gs.length := by omega
      have hE := hi.out.2
      rw [drop_end hlt, leastI] at hE
      clear hi hV
      subst hE
      go_wp2_with (first | ((first | with_reducible refine wp_region_ext2 (by kernel_rfl) (by kernel_rfl) ?_ | with_reducible refine wp_region_ext (by kernel_rfl) (by kernel_rfl) ?_); (repeat (first | go_big_quiet_step ((first | fail)) | quiet_step ((first | fail)))); refine wpQuiet_nil ?_; rintro _ ⟨yr, rfl⟩; have syr := Ext.size yr; (repeat (first | rw [World.size_alloc] at syr | rw [World.size_setCell] at syr | rw [World.size_drew] at syr))))
      go_returns
      refine ⟨rfl, ?_⟩
      repeat' (first | (with_reducible exact Below.refl _ _) | (with_reducible assumption) | (with_reducible refine Ext.below _ ?_ ?_) | (with_reducible refine Below.on ?_ (by with_reducible assumption) ?_) | (with_reducible refine Below.alloc ?_ ?_ _) | (with_reducible refine Below.drew ?_) | (with_reducible refine Below.setCell ?_ ?_ _) | (with_reducible exact Nat.le_refl _) | omega | (simp; done) | (simp [go_sem]; done) | (simp at *; omega))
/-- What Believe gives back. -/
def believeR (s : SkyR) (a : List SightR) (gs : List StateR) (t : Int) : LinkR := match allR s [⟨none, 0, a⟩] with
  | .ok [x] => if guessesE gs t = 0 then (if gs.length = 0 then ⟨0, [], 7⟩ else ⟨leastI (fun g => ((missL g t x).length : Int)) 0 0 0 gs, missL (gs.getD (leastI (fun g => ((missL g t x).length : Int)) 0 0 0 gs).toNat ⟨0, 0, 0, 0⟩) t x, 0⟩) else ⟨0, [], guessesE gs t⟩
  | .ok _ => ⟨0, [], 0⟩
  | .error e => ⟨0, [], e⟩
theorem allR_one {s : SkyR} {a : List SightR} (p : Option Addr) (c : Nat) : allR s [⟨p, c, a⟩] = allR s [⟨none, 0, a⟩] := rfl
theorem allR_ok1 {s : SkyR} {a : List SightR} {r : List (List LookR)} (h : allR s [⟨none, 0, a⟩] = .ok r) : ∃ x, r = [x] ∧ (∀ k ∈ x, k.Fit) ∧ 1 ≤ x.length ∧ x.length ≤ 64 := by
  unfold allR at h
  by_cases h1 : skyE s = 0
  · rw [if_pos h1, allA] at h
    cases hx : looksR s a with
    | error e => rw [hx] at h; cases h
    | ok x =>
      rw [hx] at h
      injection h with h
      have fx := looksR_fit h1 hx
      exact ⟨x, by rw [← h]; rfl, fx.1, fx.2⟩
  · rw [if_neg h1] at h; cases h
theorem one_looks {W : World} {base : Nat} {v : Value} {vs : List Value} {x : List LookR} (how : W.ownsRow base 68 1 v 1 vs) (hin : InnerAt W base vs [x]) :
    ∃ g c p0 c0, v = .slice (some ⟨g, 0, none⟩) 1 c ∧ g < W.heap.size ∧ W.cell? ⟨g, 0, none⟩ = some (.slice p0 x.length c0) ∧ LooksAt W p0 x := by
  match vs, hin with
  | [u0], hin =>
    obtain ⟨h0, -⟩ := hin
    rcases owns_slice how with ⟨-, h2⟩ | ⟨g, c, rfl, -, hg, hc⟩
    · cases h2
    obtain ⟨p0, c0, rfl, hL⟩ := owns_looks h0
    exact ⟨g, c, p0, c0, rfl, hg, hc 0 _ rfl, hL⟩
set_option maxRecDepth 100000 in
set_option maxHeartbeats 16000000 in
theorem Believe_any (s : SkyR) (pa pg : Option Addr) (ca cg : Nat) (a : List SightR) (gs : List StateR) (t : Int) (w : World) (hA : s.At w) (ha : SightsAt w pa a) (hg : StatesAt w pg gs) :
    Calls Try.prog 13 #[s.val, .slice pa a.length ca, .slice pg gs.length cg, .int .i64 t] w (LinkPost w (believeR s a gs t)) := by
  have cl := fun (W : World) (y : Below w.heap.size w W) (p : Option Addr) (h : TracksAt W p [⟨pa, ca, a⟩]) => allLooks_any s p 1 [⟨pa, ca, a⟩] W (by simp) (hA.on y) h
  have cg' := fun (W : World) (y : Below w.heap.size w W) => checkGuesses_any pg cg gs t W (hg.on y)
  have htr : ∀ (W : World) (B : Nat), Below w.heap.size w W → B < W.heap.size → W.cell? ⟨B, 0, none⟩ = some (.slice pa a.length ca) → TracksAt W (some ⟨B, 0, none⟩) [⟨pa, ca, a⟩] := by
    intro W B y hB h0 j hj
    obtain rfl : j = 0 := by simp only [List.length_cons, List.length_nil] at hj; omega
    exact ⟨ha.on y, B, 0, rfl, hB, h0⟩
  have htr := Go.Lib.hid htr
  simp only [List.length_cons, List.length_nil, Nat.zero_add, allR_one] at cl
  have ce := fun e (h : allR s [⟨none, 0, a⟩] = .error e) => allR_err h
  have ck := fun r (h : allR s [⟨none, 0, a⟩] = .ok r) => allR_ok1 h
  have hg := Go.Lib.hid hg
  obtain ⟨V, hV⟩ : ∃ V, believeR s a gs t = V := ⟨_, rfl⟩
  rw [hV]
  unfold believeR at hV
  clear hA ha
  generalize allR s [⟨none, 0, a⟩] = r at *
  unfold SkyR.val at *
  generalize s.cats.length = n1 at *; generalize s.cp = n2 at *; generalize s.cc = n3 at *; generalize s.bodies.length = n4 at *; generalize s.bp = n5 at *; generalize s.bc = n6 at *; generalize s.sts.length = n7 at *; generalize s.sp = n8 at *; generalize s.sc = n9 at *; generalize s.home = n0 at *
  generalize a.length = la at *
  cases r with
  | error e =>
    have e0 := ce e rfl
    clear ce ck
    simp only at hV
    subst hV
    go_enter Try.func13, Try.ntmps13
    go_wp2_with (first | ((first | with_reducible refine wp_region_ext2 (by kernel_rfl) (by kernel_rfl) ?_ | with_reducible refine wp_region_ext (by kernel_rfl) (by kernel_rfl) ?_); (repeat (first | go_big_quiet_step ((first | fail)) | quiet_step ((first | fail)))); refine wpQuiet_nil ?_; rintro _ ⟨yr, rfl⟩; have syr := Ext.size yr; (repeat (first | rw [World.size_alloc] at syr | rw [World.size_setCell] at syr | rw [World.size_drew] at syr))) | (go_at_call 25; refine (cl _ (by repeat' (first | (with_reducible exact Below.refl _ _) | (with_reducible assumption) | (with_reducible refine Ext.below _ ?_ ?_) | (with_reducible refine Below.on ?_ (by with_reducible assumption) ?_) | (with_reducible refine Below.alloc ?_ ?_ _) | (with_reducible refine Below.drew ?_) | (with_reducible refine Below.setCell ?_ ?_ _) | (with_reducible exact Nat.le_refl _) | omega | (simp; done) | (simp [go_sem]; done) | (simp at *; omega))) _ (htr.out _ _ (by repeat' (first | (with_reducible exact Below.refl _ _) | (with_reducible assumption) | (with_reducible refine Ext.below _ ?_ ?_) | (with_reducible refine Below.on ?_ (by with_reducible assumption) ?_) | (with_reducible refine Below.alloc ?_ ?_ _) | (with_reducible refine Below.drew ?_) | (with_reducible refine Below.setCell ?_ ?_ _) | (with_reducible exact Nat.le_refl _) | omega | (simp; done) | (simp [go_sem]; done) | (simp at *; omega))) (by simp) (by simp [go_sem]))).mono ?_; rintro _ W3 ⟨hb3, rfl⟩; have hbw3 : Below w.heap.size w W3 := (by refine Below.on ?_ hb3 (by simp only [World.size_alloc]; omega); repeat' (first | (with_reducible exact Below.refl _ _) | (with_reducible assumption) | (with_reducible refine Ext.below _ ?_ ?_) | (with_reducible refine Below.on ?_ (by with_reducible assumption) ?_) | (with_reducible refine Below.alloc ?_ ?_ _) | (with_reducible refine Below.drew ?_) | (with_reducible refine Below.setCell ?_ ?_ _) | (with_reducible exact Nat.le_refl _) | omega | (simp; done) | (simp [go_sem]; done) | (simp at *; omega))); have u9 : w.heap.size ≤ W3.heap.size := hbw3.size; clear cl htr))
    go_returns
    refine ⟨?_, _, rfl, World.ownsRow_nil _ _ _ _⟩
    repeat' (first | (with_reducible exact Below.refl _ _) | (with_reducible assumption) | (with_reducible refine Ext.below _ ?_ ?_) | (with_reducible refine Below.on ?_ (by with_reducible assumption) ?_) | (with_reducible refine Below.alloc ?_ ?_ _) | (with_reducible refine Below.drew ?_) | (with_reducible refine Below.setCell ?_ ?_ _) | (with_reducible exact Nat.le_refl _) | omega | (simp; done) | (simp [go_sem]; done) | (simp at *; omega))
  | ok r =>
    obtain ⟨x, rfl, fx, hx⟩ := ck r rfl
    clear ce ck
    simp only at hV
    by_cases hge : guessesE gs t = 0
    case neg =>
      rw [if_neg hge] at hV
      subst hV
      generalize guessesE gs t = ge at *
      go_enter Try.func13, Try.ntmps13
      go_wp2_with (first | ((first | with_reducible refine wp_region_ext2 (by kernel_rfl) (by kernel_rfl) ?_ | with_reducible refine wp_region_ext (by kernel_rfl) (by kernel_rfl) ?_); (repeat (first | go_big_quiet_step ((first | (go_at_call 26; with_reducible exact Calls.ext (cg' _ (by repeat' (first | (with_reducible exact Below.refl _ _) | (with_reducible assumption) | (with_reducible refine Ext.below _ ?_ ?_) | (with_reducible refine Below.on ?_ (by with_reducible assumption) ?_) | (with_reducible refine Below.alloc ?_ ?_ _) | (with_reducible refine Below.drew ?_) | (with_reducible refine Below.setCell ?_ ?_ _) | (with_reducible exact Nat.le_refl _) | omega | (simp; done) | (simp [go_sem]; done) | (simp at *; omega))))))) | quiet_step ((first | (go_at_call 26; with_reducible exact Calls.ext (cg' _ (by repeat' (first | (with_reducible exact Below.refl _ _) | (with_reducible assumption) | (with_reducible refine Ext.below _ ?_ ?_) | (with_reducible refine Below.on ?_ (by with_reducible assumption) ?_) | (with_reducible refine Below.alloc ?_ ?_ _) | (with_reducible refine Below.drew ?_) | (with_reducible refine Below.setCell ?_ ?_ _) | (with_reducible exact Nat.le_refl _) | omega | (simp; done) | (simp [go_sem]; done) | (simp at *; omega))))))))); refine wpQuiet_nil ?_; rintro _ ⟨yr, rfl⟩; have syr := Ext.size yr; (repeat (first | rw [World.size_alloc] at syr | rw [World.size_setCell] at syr | rw [World.size_drew] at syr))) | (go_at_call 26; (first | with_reducible refine (Calls.giv2 (cg' _ (by repeat' (first | (with_reducible exact Below.refl _ _) | (with_reducible assumption) | (with_reducible refine Ext.below _ ?_ ?_) | (with_reducible refine Below.on ?_ (by with_reducible assumption) ?_) | (with_reducible refine Below.alloc ?_ ?_ _) | (with_reducible refine Below.drew ?_) | (with_reducible refine Below.setCell ?_ ?_ _) | (with_reducible exact Nat.le_refl _) | omega | (simp; done) | (simp [go_sem]; done) | (simp at *; omega))))).mono ?_ | with_reducible refine (Calls.giv (cg' _ (by repeat' (first | (with_reducible exact Below.refl _ _) | (with_reducible assumption) | (with_reducible refine Ext.below _ ?_ ?_) | (with_reducible refine Below.on ?_ (by with_reducible assumption) ?_) | (with_reducible refine Below.alloc ?_ ?_ _) | (with_reducible refine Below.drew ?_) | (with_reducible refine Below.setCell ?_ ?_ _) | (with_reducible exact Nat.le_refl _) | omega | (simp; done) | (simp [go_sem]; done) | (simp at *; omega))))).mono ?_); rintro _ _ ⟨y1, rfl, rfl⟩; have sy1 := Ext.size y1; (repeat (first | rw [World.size_alloc] at sy1 | rw [World.size_setCell] at sy1 | rw [World.size_drew] at sy1))) | (go_at_call 25; refine (cl _ (by repeat' (first | (with_reducible exact Below.refl _ _) | (with_reducible assumption) | (with_reducible refine Ext.below _ ?_ ?_) | (with_reducible refine Below.on ?_ (by with_reducible assumption) ?_) | (with_reducible refine Below.alloc ?_ ?_ _) | (with_reducible refine Below.drew ?_) | (with_reducible refine Below.setCell ?_ ?_ _) | (with_reducible exact Nat.le_refl _) | omega | (simp; done) | (simp [go_sem]; done) | (simp at *; omega))) _ (htr.out _ _ (by repeat' (first | (with_reducible exact Below.refl _ _) | (with_reducible assumption) | (with_reducible refine Ext.below _ ?_ ?_) | (with_reducible refine Below.on ?_ (by with_reducible assumption) ?_) | (with_reducible refine Below.alloc ?_ ?_ _) | (with_reducible refine Below.drew ?_) | (with_reducible refine Below.setCell ?_ ?_ _) | (with_reducible exact Nat.le_refl _) | omega | (simp; done) | (simp [go_sem]; done) | (simp at *; omega))) (by simp) (by simp [go_sem]))).mono ?_; rintro _ W3 ⟨hb3, v3, vs, rfl, how, hin⟩; have hbw3 : Below w.heap.size w W3 := (by refine Below.on ?_ hb3 (by simp only [World.size_alloc]; omega); repeat' (first | (with_reducible exact Below.refl _ _) | (with_reducible assumption) | (with_reducible refine Ext.below _ ?_ ?_) | (with_reducible refine Below.on ?_ (by with_reducible assumption) ?_) | (with_reducible refine Below.alloc ?_ ?_ _) | (with_reducible refine Below.drew ?_) | (with_reducible refine Below.setCell ?_ ?_ _) | (with_reducible exact Nat.le_refl _) | omega | (simp; done) | (simp [go_sem]; done) | (simp at *; omega))); have hbs3 := hb3.size; simp only [World.size_alloc] at hbs3; obtain ⟨g, c, p0, c0, rfl, hgs, q0, hL⟩ := one_looks how hin; have u0 : W3.cell? ⟨w.heap.size + 1, 0, none⟩ = some (.int .i64 t) := ((hb3.cell (p := ⟨w.heap.size + 1, 0, none⟩) (by simp only [World.size_alloc]; omega)).trans (by simp [go_sem])); have u9 : w.heap.size ≤ W3.heap.size := hbw3.size; have u1 : w.heap.size + 1 < W3.heap.size := (by omega); have u2 : w.heap.size + 1 < W3.heap.size + 1 := (by omega); have u3 : w.heap.size + 1 ≠ W3.heap.size := (by omega); clear cl htr how hin))
      go_returns
      refine ⟨?_, _, rfl, World.ownsRow_nil _ _ _ _⟩
      repeat' (first | (with_reducible exact Below.refl _ _) | (with_reducible assumption) | (with_reducible refine Ext.below _ ?_ ?_) | (with_reducible refine Below.on ?_ (by with_reducible assumption) ?_) | (with_reducible refine Below.alloc ?_ ?_ _) | (with_reducible refine Below.drew ?_) | (with_reducible refine Below.setCell ?_ ?_ _) | (with_reducible exact Nat.le_refl _) | omega | (simp; done) | (simp [go_sem]; done) | (simp at *; omega))
    rw [if_pos hge] at hV
    rw [hge] at cg'
    obtain ⟨gn, gt', gf⟩ := guessesE_zero hge
    clear hge
    by_cases hz : gs.length = 0
    · rw [if_pos hz] at hV
      subst hV
      rw [hz] at cg' ⊢
      go_enter Try.func13, Try.ntmps13
      go_wp2_with (first | ((first | with_reducible refine wp_region_ext2 (by kernel_rfl) (by kernel_rfl) ?_ | with_reducible refine wp_region_ext (by kernel_rfl) (by kernel_rfl) ?_); (repeat (first | go_big_quiet_step ((first | (go_at_call 26; with_reducible exact Calls.ext (cg' _ (by repeat' (first | (with_reducible exact Below.refl _ _) | (with_reducible assumption) | (with_reducible refine Ext.below _ ?_ ?_) | (with_reducible refine Below.on ?_ (by with_reducible assumption) ?_) | (with_reducible refine Below.alloc ?_ ?_ _) | (with_reducible refine Below.drew ?_) | (with_reducible refine Below.setCell ?_ ?_ _) | (with_reducible exact Nat.le_refl _) | omega | (simp; done) | (simp [go_sem]; done) | (simp at *; omega))))))) | quiet_step ((first | (go_at_call 26; with_reducible exact Calls.ext (cg' _ (by repeat' (first | (with_reducible exact Below.refl _ _) | (with_reducible assumption) | (with_reducible refine Ext.below _ ?_ ?_) | (with_reducible refine Below.on ?_ (by with_reducible assumption) ?_) | (with_reducible refine Below.alloc ?_ ?_ _) | (with_reducible refine Below.drew ?_) | (with_reducible refine Below.setCell ?_ ?_ _) | (with_reducible exact Nat.le_refl _) | omega | (simp; done) | (simp [go_sem]; done) | (simp at *; omega))))))))); refine wpQuiet_nil ?_; rintro _ ⟨yr, rfl⟩; have syr := Ext.size yr; (repeat (first | rw [World.size_alloc] at syr | rw [World.size_setCell] at syr | rw [World.size_drew] at syr))) | (go_at_call 26; (first | with_reducible refine (Calls.giv2 (cg' _ (by repeat' (first | (with_reducible exact Below.refl _ _) | (with_reducible assumption) | (with_reducible refine Ext.below _ ?_ ?_) | (with_reducible refine Below.on ?_ (by with_reducible assumption) ?_) | (with_reducible refine Below.alloc ?_ ?_ _) | (with_reducible refine Below.drew ?_) | (with_reducible refine Below.setCell ?_ ?_ _) | (with_reducible exact Nat.le_refl _) | omega | (simp; done) | (simp [go_sem]; done) | (simp at *; omega))))).mono ?_ | with_reducible refine (Calls.giv (cg' _ (by repeat' (first | (with_reducible exact Below.refl _ _) | (with_reducible assumption) | (with_reducible refine Ext.below _ ?_ ?_) | (with_reducible refine Below.on ?_ (by with_reducible assumption) ?_) | (with_reducible refine Below.alloc ?_ ?_ _) | (with_reducible refine Below.drew ?_) | (with_reducible refine Below.setCell ?_ ?_ _) | (with_reducible exact Nat.le_refl _) | omega | (simp; done) | (simp [go_sem]; done) | (simp at *; omega))))).mono ?_); rintro _ _ ⟨y1, rfl, rfl⟩; have sy1 := Ext.size y1; (repeat (first | rw [World.size_alloc] at sy1 | rw [World.size_setCell] at sy1 | rw [World.size_drew] at sy1))) | (go_at_call 25; refine (cl _ (by repeat' (first | (with_reducible exact Below.refl _ _) | (with_reducible assumption) | (with_reducible refine Ext.below _ ?_ ?_) | (with_reducible refine Below.on ?_ (by with_reducible assumption) ?_) | (with_reducible refine Below.alloc ?_ ?_ _) | (with_reducible refine Below.drew ?_) | (with_reducible refine Below.setCell ?_ ?_ _) | (with_reducible exact Nat.le_refl _) | omega | (simp; done) | (simp [go_sem]; done) | (simp at *; omega))) _ (htr.out _ _ (by repeat' (first | (with_reducible exact Below.refl _ _) | (with_reducible assumption) | (with_reducible refine Ext.below _ ?_ ?_) | (with_reducible refine Below.on ?_ (by with_reducible assumption) ?_) | (with_reducible refine Below.alloc ?_ ?_ _) | (with_reducible refine Below.drew ?_) | (with_reducible refine Below.setCell ?_ ?_ _) | (with_reducible exact Nat.le_refl _) | omega | (simp; done) | (simp [go_sem]; done) | (simp at *; omega))) (by simp) (by simp [go_sem]))).mono ?_; rintro _ W3 ⟨hb3, v3, vs, rfl, how, hin⟩; have hbw3 : Below w.heap.size w W3 := (by refine Below.on ?_ hb3 (by simp only [World.size_alloc]; omega); repeat' (first | (with_reducible exact Below.refl _ _) | (with_reducible assumption) | (with_reducible refine Ext.below _ ?_ ?_) | (with_reducible refine Below.on ?_ (by with_reducible assumption) ?_) | (with_reducible refine Below.alloc ?_ ?_ _) | (with_reducible refine Below.drew ?_) | (with_reducible refine Below.setCell ?_ ?_ _) | (with_reducible exact Nat.le_refl _) | omega | (simp; done) | (simp [go_sem]; done) | (simp at *; omega))); have hbs3 := hb3.size; simp only [World.size_alloc] at hbs3; obtain ⟨g, c, p0, c0, rfl, hgs, q0, hL⟩ := one_looks how hin; have u0 : W3.cell? ⟨w.heap.size + 1, 0, none⟩ = some (.int .i64 t) := ((hb3.cell (p := ⟨w.heap.size + 1, 0, none⟩) (by simp only [World.size_alloc]; omega)).trans (by simp [go_sem])); have u9 : w.heap.size ≤ W3.heap.size := hbw3.size; have u1 : w.heap.size + 1 < W3.heap.size := (by omega); have u2 : w.heap.size + 1 < W3.heap.size + 1 := (by omega); have u3 : w.heap.size + 1 ≠ W3.heap.size := (by omega); clear cl htr how hin))
      go_returns
      refine ⟨?_, _, rfl, World.ownsRow_nil _ _ _ _⟩
      repeat' (first | (with_reducible exact Below.refl _ _) | (with_reducible assumption) | (with_reducible refine Ext.below _ ?_ ?_) | (with_reducible refine Below.on ?_ (by with_reducible assumption) ?_) | (with_reducible refine Below.alloc ?_ ?_ _) | (with_reducible refine Below.drew ?_) | (with_reducible refine Below.setCell ?_ ?_ _) | (with_reducible exact Nat.le_refl _) | omega | (simp; done) | (simp [go_sem]; done) | (simp at *; omega))
    rw [if_neg hz] at hV
    have hz0 : ¬ ((gs.length : Int) = 0) := by omega
    have hFit : ∀ j (h : j < x.length), x[j].Fit := fun j h => fx _ (List.getElem_mem h)
    have hgb : ∀ g ∈ gs, guessB g = true := fun q hq => by
      obtain ⟨j, hj, rfl⟩ := List.getElem_of_mem hq
      exact gf j hj
    have cb := Go.Lib.hid (fun (W : World) (y : Below w.heap.size w W) (LB TB : Nat) (h : BelAt W LB TB x t) => leastOf_any pg cg gs t LB TB x W (hg.out.on y) hgb gn gt' (by omega) h hFit)
    obtain ⟨I, hI⟩ : ∃ I, leastI (fun g => ((missL g t x).length : Int)) 0 0 0 gs = I := ⟨_, rfl⟩
    rw [hI] at hV
    simp only [hI] at cb
    have hI2 := leastI_in (fun g => ((missL g t x).length : Int)) gs 0 0 0
    rw [hI] at hI2
    have hI3 : 0 ≤ I ∧ I < gs.length := by omega
    obtain ⟨n, rfl⟩ := Int.eq_ofNat_of_zero_le hI3.1
    have hn : n < gs.length := by omega
    have hn2 : (n : Int) < (gs.length : Int) := by omega
    clear hI hI2 hI3
    have eg : gs.getD (n : Int).toNat ⟨0, 0, 0, 0⟩ = gs[n] := by simp [hn]
    rw [eg] at hV
    have cm := Go.Lib.hid (fun (W : World) (p : Option Addr) (c : Nat) (h : LooksAt W p x) => misses_any gs[n] t p c x W (gf n hn) gt' (by omega) h hFit)
    clear eg hFit hgb gf fx hx gn gt'
    subst hV
    go_enter Try.func13, Try.ntmps13
    go_wp2_with (first | ((first | with_reducible refine wp_region_ext2 (by kernel_rfl) (by kernel_rfl) ?_ | with_reducible refine wp_region_ext (by kernel_rfl) (by kernel_rfl) ?_); (repeat (first | go_big_quiet_step ((first | (go_at_call 26; with_reducible exact Calls.ext (cg' _ (by repeat' (first | (with_reducible exact Below.refl _ _) | (with_reducible assumption) | (with_reducible refine Ext.below _ ?_ ?_) | (with_reducible refine Below.on ?_ (by with_reducible assumption) ?_) | (with_reducible refine Below.alloc ?_ ?_ _) | (with_reducible refine Below.drew ?_) | (with_reducible refine Below.setCell ?_ ?_ _) | (with_reducible exact Nat.le_refl _) | omega | (simp; done) | (simp [go_sem]; done) | (simp at *; omega))))))) | quiet_step ((first | (go_at_call 26; with_reducible exact Calls.ext (cg' _ (by repeat' (first | (with_reducible exact Below.refl _ _) | (with_reducible assumption) | (with_reducible refine Ext.below _ ?_ ?_) | (with_reducible refine Below.on ?_ (by with_reducible assumption) ?_) | (with_reducible refine Below.alloc ?_ ?_ _) | (with_reducible refine Below.drew ?_) | (with_reducible refine Below.setCell ?_ ?_ _) | (with_reducible exact Nat.le_refl _) | omega | (simp; done) | (simp [go_sem]; done) | (simp at *; omega))))))))); refine wpQuiet_nil ?_; rintro _ ⟨yr, rfl⟩; have syr := Ext.size yr; (repeat (first | rw [World.size_alloc] at syr | rw [World.size_setCell] at syr | rw [World.size_drew] at syr))) | (go_at_call 26; (first | with_reducible refine (Calls.giv2 (cg' _ (by repeat' (first | (with_reducible exact Below.refl _ _) | (with_reducible assumption) | (with_reducible refine Ext.below _ ?_ ?_) | (with_reducible refine Below.on ?_ (by with_reducible assumption) ?_) | (with_reducible refine Below.alloc ?_ ?_ _) | (with_reducible refine Below.drew ?_) | (with_reducible refine Below.setCell ?_ ?_ _) | (with_reducible exact Nat.le_refl _) | omega | (simp; done) | (simp [go_sem]; done) | (simp at *; omega))))).mono ?_ | with_reducible refine (Calls.giv (cg' _ (by repeat' (first | (with_reducible exact Below.refl _ _) | (with_reducible assumption) | (with_reducible refine Ext.below _ ?_ ?_) | (with_reducible refine Below.on ?_ (by with_reducible assumption) ?_) | (with_reducible refine Below.alloc ?_ ?_ _) | (with_reducible refine Below.drew ?_) | (with_reducible refine Below.setCell ?_ ?_ _) | (with_reducible exact Nat.le_refl _) | omega | (simp; done) | (simp [go_sem]; done) | (simp at *; omega))))).mono ?_); rintro _ _ ⟨y1, rfl, rfl⟩; have sy1 := Ext.size y1; (repeat (first | rw [World.size_alloc] at sy1 | rw [World.size_setCell] at sy1 | rw [World.size_drew] at sy1))) | (go_at_call 25; refine (cl _ (by repeat' (first | (with_reducible exact Below.refl _ _) | (with_reducible assumption) | (with_reducible refine Ext.below _ ?_ ?_) | (with_reducible refine Below.on ?_ (by with_reducible assumption) ?_) | (with_reducible refine Below.alloc ?_ ?_ _) | (with_reducible refine Below.drew ?_) | (with_reducible refine Below.setCell ?_ ?_ _) | (with_reducible exact Nat.le_refl _) | omega | (simp; done) | (simp [go_sem]; done) | (simp at *; omega))) _ (htr.out _ _ (by repeat' (first | (with_reducible exact Below.refl _ _) | (with_reducible assumption) | (with_reducible refine Ext.below _ ?_ ?_) | (with_reducible refine Below.on ?_ (by with_reducible assumption) ?_) | (with_reducible refine Below.alloc ?_ ?_ _) | (with_reducible refine Below.drew ?_) | (with_reducible refine Below.setCell ?_ ?_ _) | (with_reducible exact Nat.le_refl _) | omega | (simp; done) | (simp [go_sem]; done) | (simp at *; omega))) (by simp) (by simp [go_sem]))).mono ?_; rintro _ W3 ⟨hb3, v3, vs, rfl, how, hin⟩; have hbw3 : Below w.heap.size w W3 := (by refine Below.on ?_ hb3 (by simp only [World.size_alloc]; omega); repeat' (first | (with_reducible exact Below.refl _ _) | (with_reducible assumption) | (with_reducible refine Ext.below _ ?_ ?_) | (with_reducible refine Below.on ?_ (by with_reducible assumption) ?_) | (with_reducible refine Below.alloc ?_ ?_ _) | (with_reducible refine Below.drew ?_) | (with_reducible refine Below.setCell ?_ ?_ _) | (with_reducible exact Nat.le_refl _) | omega | (simp; done) | (simp [go_sem]; done) | (simp at *; omega))); have hbs3 := hb3.size; simp only [World.size_alloc] at hbs3; obtain ⟨g, c, p0, c0, rfl, hgs, q0, hL⟩ := one_looks how hin; have u0 : W3.cell? ⟨w.heap.size + 1, 0, none⟩ = some (.int .i64 t) := ((hb3.cell (p := ⟨w.heap.size + 1, 0, none⟩) (by simp only [World.size_alloc]; omega)).trans (by simp [go_sem])); have u9 : w.heap.size ≤ W3.heap.size := hbw3.size; have u1 : w.heap.size + 1 < W3.heap.size := (by omega); have u2 : w.heap.size + 1 < W3.heap.size + 1 := (by omega); have u3 : w.heap.size + 1 ≠ W3.heap.size := (by omega); clear cl htr how hin) | (go_at_call 34; have hBel : BelAt y1.now W3.heap.size (w.heap.size + 1) x t := (BelAt.ext (⟨⟨g, 0, 1, c, p0, c0, by simp [go_sem], by omega, by simp only [World.size_alloc]; omega, (((Below.refl _ W3).alloc (Nat.le_refl _) _).cell (p := ⟨g, 0, none⟩) hgs).trans q0, hL.on ((Below.refl _ W3).alloc (Nat.le_refl _) _)⟩, by simp, by simp only [World.size_alloc]; omega, (((Below.refl _ W3).alloc (Nat.le_refl _) _).cell (p := ⟨w.heap.size + 1, 0, none⟩) u1).trans u0⟩) y1); with_reducible refine (Calls.giv (cb.out _ (by repeat' (first | (with_reducible exact Below.refl _ _) | (with_reducible assumption) | (with_reducible refine Ext.below _ ?_ ?_) | (with_reducible refine Below.on ?_ (by with_reducible assumption) ?_) | (with_reducible refine Below.alloc ?_ ?_ _) | (with_reducible refine Below.drew ?_) | (with_reducible refine Below.setCell ?_ ?_ _) | (with_reducible exact Nat.le_refl _) | omega | (simp; done) | (simp [go_sem]; done) | (simp at *; omega))) _ _ hBel)).mono ?_; rintro _ _ ⟨y2, rfl, rfl⟩; have sy2 := y2.size; have hB5 : Below w.heap.size w y2.now := (by repeat' (first | (with_reducible exact Below.refl _ _) | (with_reducible assumption) | (with_reducible refine Ext.below _ ?_ ?_) | (with_reducible refine Below.on ?_ (by with_reducible assumption) ?_) | (with_reducible refine Below.alloc ?_ ?_ _) | (with_reducible refine Below.drew ?_) | (with_reducible refine Below.setCell ?_ ?_ _) | (with_reducible exact Nat.le_refl _) | omega | (simp; done) | (simp [go_sem]; done) | (simp at *; omega))); have hBel5 := hBel.ext y2; clear hBel cb))
    have hP5 := hg.out.on hB5
    generalize y2.now = W5 at *
    clear y2
    clear u0 u1 u2 u3 u9 hL hgs q0 hb3 hbw3 hbs3 sy1 sy2 y1
    have hw5 := hB5.size
    generalize W3.heap.size = LB at *
    obtain ⟨⟨g1, o1, n1', c1', pk, ck, h1, h2, h3, h4, h5⟩, hl, htb, h6⟩ := hBel5
    obtain ⟨B, o, rfl, hB, r1, r2, r3, r4⟩ := hP5 n hn
    have h2i : (0 : Int) < (n1' : Int) := by omega
    have hn0 : (0 : Int) ≤ (n : Int) := by omega
    generalize gs[n].x = g1' at *
    generalize gs[n].y = g2' at *
    generalize gs[n].u = g3' at *
    generalize gs[n].v = g4' at *
    go_region_law (first
      | (go_simp; go_at_call 27; go_loud (refine (cm.out _ pk ck (h5.on (Below.refl _ _).drew)).mono ?_; rintro _ W6 ⟨hb6, v6, rfl, how6⟩; have hbw6 : Below w.heap.size w W6 := (hB5.drew).trans (hb6.mono hw5); have how6 := Go.Lib.hid (owns_base how6 hw5))))
    all_goals
      go_wp2_with (first | ((first | with_reducible refine wp_region_ext2 (by kernel_rfl) (by kernel_rfl) ?_ | with_reducible refine wp_region_ext (by kernel_rfl) (by kernel_rfl) ?_); (repeat (first | go_big_quiet_step ((first | fail)) | quiet_step ((first | fail)))); refine wpQuiet_nil ?_; rintro _ ⟨yr, rfl⟩; have syr := Ext.size yr; (repeat (first | rw [World.size_alloc] at syr | rw [World.size_setCell] at syr | rw [World.size_drew] at syr))))
      go_returns
      exact ⟨hbw6, _, rfl, how6.out⟩
end Go.Proofs.Ytgoilmiiegpnoaa
namespace Go.Proofs.Ytgoilmiiegpnoaa
open Go.RowKit Go.Shelf
attribute [local go_sem] Option.isSome_some Ext.cell Ext.frozen Ext.lt Ext.le Ext.lt_add Ext.le_add Ext.ne Ext.ne' lt2 lt3 lt4 lt5 le2 le3 le4
/-- Two tracklets merged by ticks. -/
def mrg : List SightR → List SightR → List SightR
  | [], b => b
  | x :: a, [] => x :: a
  | x :: a, y :: b => if x.tick ≤ y.tick then x :: mrg a (y :: b) else y :: mrg (x :: a) b
  termination_by a b => a.length + b.length
theorem mrg_nil (a : List SightR) : mrg a [] = a := by cases a <;> rw [mrg]
theorem mrg_len (a b : List SightR) : (mrg a b).length = a.length + b.length := by
  fun_induction mrg a b with
  | case1 b => simp
  | case2 x a => simp
  | case3 x a y b h ih => rw [List.length_cons, ih, List.length_cons, List.length_cons]; omega
  | case4 x a y b h ih => rw [List.length_cons, ih, List.length_cons, List.length_cons]; omega
theorem mrg_mem {a b : List SightR} {z : SightR} : z ∈ mrg a b → z ∈ a ∨ z ∈ b := by
  fun_induction mrg a b with
  | case1 b => intro h; exact .inr h
  | case2 x a => intro h; exact .inl h
  | case3 x a y b h ih =>
    intro hz
    rcases List.mem_cons.1 hz with rfl | hz
    · exact .inl (by simp)
    · rcases ih hz with h | h
      · exact .inl (by simp [h])
      · exact .inr h
  | case4 x a y b h ih =>
    intro hz
    rcases List.mem_cons.1 hz with rfl | hz
    · exact .inr (by simp)
    · rcases ih hz with h | h
      · exact .inl h
      · exact .inr (by simp [h])
theorem mrg_up (a b : List SightR) (ha : a.Pairwise fun x y => x.tick ≤ y.tick) (hb : b.Pairwise fun x y => x.tick ≤ y.tick) : (mrg a b).Pairwise fun x y => x.tick ≤ y.tick := by
  fun_induction mrg a b with
  | case1 b => exact hb
  | case2 x a => exact ha
  | case3 x a y b h ih =>
    rw [List.pairwise_cons] at ha
    refine List.pairwise_cons.2 ⟨fun z hz => ?_, ih ha.2 hb⟩
    rcases mrg_mem hz with h1 | h1
    · exact ha.1 z h1
    · rw [List.pairwise_cons] at hb
      rcases List.mem_cons.1 h1 with rfl | h1
      · exact h
      · exact Int.le_trans h (hb.1 z h1)
  | case4 x a y b h ih =>
    rw [List.pairwise_cons] at hb
    refine List.pairwise_cons.2 ⟨fun z hz => ?_, ih ha hb.2⟩
    rcases mrg_mem hz with h1 | h1
    · rw [List.pairwise_cons] at ha
      rcases List.mem_cons.1 h1 with rfl | h1
      · omega
      · have := ha.1 z h1; omega
    · exact hb.1 z h1
theorem mrg_ok {s : SkyR} {a b : List SightR} (ha : TrackOk s 1000 a) (hb : TrackOk s 1000 b) : TrackOk s 1000 (mrg a b) := ⟨fun x hx => by
  rcases mrg_mem hx with h | h
  · exact ha.ok x h
  · exact hb.ok x h, mrg_up a b ha.up hb.up⟩
theorem TrackOk.looks64 {s : SkyR} {l : List SightR} (h : TrackOk s 1000 l) (h1 : 1 ≤ l.length) (h4 : l.length ≤ 64) : ∃ ks, looksR s l = .ok ks := by
  have hc : cntE l.length 1 64 = 0 := by unfold cntE; rw [if_neg (by omega), if_neg (by omega)]
  unfold looksR
  rw [if_pos hc]
  exact looksA_ok h.ok h.up fun u e => by cases e
/-- Whether a guess misses the look of this number. -/
def mbl (g : StateR) (ks : List LookR) (j : Nat) : Bool := match ks[j]? with
  | some k => missB g 0 k
  | none => false
theorem missA_eq (g : StateR) : ∀ (ks : List LookR) (acc : List Int) (i : Nat), missA g 0 acc i ks = acc ++ ((List.range' 0 ks.length).filter (fun j => mbl g ks j)).map (fun j : Nat => ((i + j : Nat) : Int)) := by
  intro ks
  induction ks with
  | nil => intro acc i; rw [missA]; simp
  | cons k ks ih =>
    intro acc i
    have e1 : (List.range' 0 (k :: ks).length) = 0 :: (List.range' 0 ks.length).map (· + 1) := by
      rw [List.length_cons, List.range'_succ, Nat.zero_add]
      congr 1
      apply List.ext_getElem?
      intro j
      by_cases hj : j < ks.length
      · simp [hj]; omega
      · simp [hj]
    have e2 : ∀ j, mbl g (k :: ks) (j + 1) = mbl g ks j := fun j => by unfold mbl; simp
    rw [missA, ih, e1, List.filter_cons, List.filter_map]
    have e3 : (fun j => mbl g (k :: ks) j) ∘ (· + 1) = fun j => mbl g ks j := by funext j; exact e2 j
    rw [e3]
    have e4 : mbl g (k :: ks) 0 = missB g 0 k := by unfold mbl; simp
    rw [e4]
    have e5 : ((List.range' 0 ks.length).filter fun j => mbl g ks j).map (fun j : Nat => ((i + 1 + j : Nat) : Int)) = (((List.range' 0 ks.length).filter fun j => mbl g ks j).map (· + 1)).map (fun j : Nat => ((i + j : Nat) : Int)) := by
      rw [List.map_map]
      apply List.map_congr_left
      intro j _
      simp only [Function.comp]
      omega
    rw [e5]
    cases missB g 0 k
    · rw [if_neg (by simp), if_neg (by simp)]
    · rw [if_pos rfl, if_pos rfl, List.map_cons, List.append_assoc]; rfl
theorem missL_eq (g : StateR) (ks : List LookR) : missL g 0 ks = ((List.range' 0 ks.length).filter (fun j => mbl g ks j)).map (fun j : Nat => (j : Int)) := by
  unfold missL
  rw [missA_eq]
  simp
/-- How many of the first n looks a guess misses. -/
def cntM (g : StateR) (ks : List LookR) (n : Nat) : Nat := ((List.range' 0 n).filter (fun j => mbl g ks j)).length
theorem cntM_succ (g : StateR) (ks : List LookR) (n : Nat) : cntM g ks (n + 1) = cntM g ks n + if mbl g ks n = true then 1 else 0 := by
  unfold cntM
  rw [show List.range' 0 (n + 1) = List.range' 0 n ++ [n] by rw [List.range'_concat]; simp, List.filter_append, List.length_append]
  simp only [List.filter_cons, List.filter_nil]
  split <;> rfl
theorem cntM_all (g : StateR) (ks : List LookR) : cntM g ks ks.length = (missL g 0 ks).length := by rw [missL_eq, List.length_map]; rfl
theorem missL_mem {g : StateR} {ks : List LookR} {n : Nat} (h : n < ks.length) : ((n : Int) ∈ missL g 0 ks) ↔ mbl g ks n = true := by
  rw [missL_eq, List.mem_map]
  constructor
  · rintro ⟨j, hj, e⟩
    obtain rfl : j = n := by omega
    exact (List.mem_filter.1 hj).2
  · intro hb
    exact ⟨n, List.mem_filter.2 ⟨List.mem_range'_1.2 ⟨by omega, by omega⟩, hb⟩, rfl⟩
/-- The least number of a list, the first one. -/
theorem leastI_min {α : Type} (F : α → Int) (gs : List α) (f : Nat → Int) (hf : ∀ j (h : j < gs.length), f j = F gs[j]) : ∀ (m i b : Nat), i + m = gs.length → 1 ≤ i → b < i → (∀ j, j < i → f b ≤ f j ∧ (j < b → f b < f j)) → ∃ r, r < gs.length ∧ leastI F (f b) b i (gs.drop i) = (r : Int) ∧ ∀ j, j < gs.length → f r ≤ f j ∧ (j < r → f r < f j) := by
  intro m
  induction m with
  | zero =>
    intro i b hi h1 hb h
    rw [drop_end (by omega), leastI]
    exact ⟨b, by omega, rfl, fun j hj => h j (by omega)⟩
  | succ m ih =>
    intro i b hi h1 hb h
    have hlt : i < gs.length := by omega
    rw [drop_at hlt, leastI, ← hf i hlt]
    by_cases hc : i = 0 ∨ f i < f b
    · rw [if_pos hc]
      have hc' : f i < f b := by omega
      refine ih (i + 1) i (by omega) (by omega) (by omega) fun j hj => ?_
      by_cases e : j = i
      · subst e; exact ⟨Int.le_refl _, fun h => by omega⟩
      · have := (h j (by omega)).1
        exact ⟨by omega, fun _ => by omega⟩
    · rw [if_neg hc]
      refine ih (i + 1) b (by omega) (by omega) (by omega) fun j hj => ?_
      by_cases e : j = i
      · subst e; exact ⟨by omega, fun h => by omega⟩
      · exact h j (by omega)
/-- What Believe says of merged tracklets. -/
theorem right_says {s : SkyR} {a b : List SightR} {gs : List StateR} (hs : SmallSky s) (ha : TrackOk s 1000 a) (hb : TrackOk s 1000 b) (a1 : 1 ≤ a.length) (a4 : a.length ≤ 4) (b4 : b.length ≤ 4) (hg : ∀ g ∈ gs, GuessOk g) (g1 : 1 ≤ gs.length) (g6 : gs.length ≤ 6) :
    ∃ (ks : List LookR) (r : Nat), ks.length = (mrg a b).length ∧ (∃ h : r < gs.length, believeR s (mrg a b) gs 0 = ⟨r, missL gs[r] 0 ks, 0⟩ ∧ ∀ j (hj : j < gs.length), (missL gs[r] 0 ks).length ≤ (missL gs[j] 0 ks).length ∧ (j < r → (missL gs[r] 0 ks).length < (missL gs[j] 0 ks).length)) ∧
      ∀ j (hj : j < gs.length) n (hn : n < (mrg a b).length), missV s [(mrg a b)[n]] gs[j] 0 = if mbl gs[j] ks n = true then 0 else -1 := by
  have hM := mrg_ok ha hb
  have hl := mrg_len a b
  obtain ⟨ks, hk⟩ := hM.looks64 (by omega) (by omega)
  have hlk := looksR_looked hk
  have hge := guessesE_ok hg (by omega)
  obtain ⟨r, hr, e, hmin⟩ := leastI_min (fun g => ((missL g 0 ks).length : Int)) gs (fun j => ((missL (gs.getD j ⟨0, 0, 0, 0⟩) 0 ks).length : Int)) (fun j h => by simp [h]) (gs.length - 1) 1 0 (by omega) (by omega) (by omega) (fun j hj => by
    obtain rfl : j = 0 := by omega
    exact ⟨Int.le_refl _, fun h => by omega⟩)
  have e0 : leastI (fun g => ((missL g 0 ks).length : Int)) 0 0 0 gs = (r : Int) := by
    rw [← e]
    have h0 : gs = gs[0] :: gs.drop 1 := by rw [← drop_at (by omega)]; simp
    conv => lhs; rw [h0]
    rw [leastI, if_pos (.inl rfl)]
    simp [show 0 < gs.length by omega]
  refine ⟨ks, r, hlk.length, ⟨hr, ?_, fun j hj => ?_⟩, fun j hj n hn => ?_⟩
  · unfold believeR allR
    rw [if_pos hs.e, allA, hk]
    simp only [allA, List.nil_append]
    rw [if_pos hge, if_neg (by omega), e0]
    simp [hr]
  · have := hmin j hj
    simp only [List.getD_eq_getElem?_getD, List.getElem?_eq_getElem hj, List.getElem?_eq_getElem hr, Option.getD_some] at this
    exact ⟨by omega, fun h => by have := this.2 h; omega⟩
  · have hok1 : TrackOk s 1000 [(mrg a b)[n]] := ⟨fun x hx => by rw [List.mem_singleton.1 hx]; exact hM.ok _ (List.getElem_mem hn), by simp⟩
    have h1 := missV_ok (s := s) (a := [(mrg a b)[n]]) (gs := gs) (TrackOk.err hs hok1 (by simp) (by simp)) hg j hj
    rw [h1]
    obtain ⟨k, e1, e2⟩ := hlk.get n hn
    rw [fmS, e2]
    simp only
    unfold mbl
    rw [e1]
    simp only
    split <;> simp [fmS]
def hasI (l : List Int) (n : Int) : Bool := decide (n ∈ l)
set_option maxHeartbeats 4000000 in
theorem HasInt_any (p : Option Addr) (c : Nat) (l : List Int) (n : Int) (w : World) (hl : l.length ≤ 1048576) (hP : IntsAt w p l) : Calls Try.prog 14 #[.slice p l.length c, .int .i64 n] w (Gives (.bool (hasI l n)) w) := by
  obtain ⟨V, hV⟩ : ∃ V, hasI l n = V := ⟨_, rfl⟩
  rw [hV]
  unfold hasI at hV
  have hV := Go.Lib.hid hV
  have hP := Go.Lib.hid hP
  go_enter Try.func14, Try.ntmps14
  go_wp2_with (first | ((first | with_reducible refine wp_region_ext2 (by kernel_rfl) (by kernel_rfl) ?_ | with_reducible refine wp_region_ext (by kernel_rfl) (by kernel_rfl) ?_); (repeat (first | go_big_quiet_step ((first | fail)) | quiet_step ((first | fail)))); refine wpQuiet_nil ?_; rintro _ ⟨yr, rfl⟩; have syr := Ext.size yr; (repeat (first | rw [World.size_alloc] at syr | rw [World.size_setCell] at syr | rw [World.size_drew] at syr))))
  go_loopw [5] (fun u W => ∃ (i : Nat) (x : Ext w), u = .int .i64 i ∧ W = x.now ∧ Hid (i ≤ l.length ∧ decide (n ∈ l.drop i) = V)) (fun u _ => l.length - (intOf u).toNat)
  case atStart => exact ⟨0, ⟨w, Below.refl _ _⟩, rfl, rfl, Go.Lib.hid ⟨Nat.zero_le _, by simpa using hV.out⟩⟩
  case round =>
    obtain ⟨i, x, rfl, rfl, hi⟩ := hrel
    have xs := x.size
    by_cases hlt : i < l.length
    · have hlt2 : (i : Int) < l.length := by omega
      obtain ⟨B, o, rfl, hB, r⟩ := hP.out i hlt
      have hE := hi.out.2
      rw [drop_at hlt] at hE
      have : B < (x.now).heap.size := (by omega); have : B < (x.now).heap.size + 1 := (by omega); have : B < (x.now).heap.size + 1 + 1 := (by omega); have : B ≠ (x.now).heap.size := (by omega); have : B ≠ (x.now).heap.size + 1 := (by omega)
      by_cases hn : l[i] = n
      · have hv : V = true := by rw [← hE]; simp [hn]
        subst hv
        rw [hn] at r
        clear hi hE hV
        go_wp2_with (first | ((first | with_reducible refine wp_region_ext2 (by kernel_rfl) (by kernel_rfl) ?_ | with_reducible refine wp_region_ext (by kernel_rfl) (by kernel_rfl) ?_); (repeat (first | go_big_quiet_step ((first | fail)) | quiet_step ((first | fail)))); refine wpQuiet_nil ?_; rintro _ ⟨yr, rfl⟩; have syr := Ext.size yr; (repeat (first | rw [World.size_alloc] at syr | rw [World.size_setCell] at syr | rw [World.size_drew] at syr)); have : B < yr.now.heap.size := (by omega); have : B ≤ yr.now.heap.size := (by omega); have : B < yr.now.heap.size + 1 + 1 := (by omega)))
        go_returns
        refine ⟨rfl, ?_⟩
        repeat' (first | (with_reducible exact Below.refl _ _) | (with_reducible assumption) | (with_reducible refine Ext.below _ ?_ ?_) | (with_reducible refine Below.on ?_ (by with_reducible assumption) ?_) | (with_reducible refine Below.alloc ?_ ?_ _) | (with_reducible refine Below.drew ?_) | (with_reducible refine Below.setCell ?_ ?_ _) | (with_reducible exact Nat.le_refl _) | omega | (simp; done) | (simp [go_sem]; done) | (simp at *; omega))
      · have key : Hid (i + 1 ≤ l.length ∧ decide (n ∈ l.drop (i + 1)) = V) := Go.Lib.hid ⟨hlt, by rw [← hE, decide_eq_decide, List.mem_cons]; exact ⟨.inr, fun h => h.resolve_left (fun e => hn e.symm)⟩⟩
        clear hi hE hV
        generalize l[i] = li at *
        go_wp2_with (first | ((first | with_reducible refine wp_region_ext2 (by kernel_rfl) (by kernel_rfl) ?_ | with_reducible refine wp_region_ext (by kernel_rfl) (by kernel_rfl) ?_); (repeat (first | go_big_quiet_step ((first | fail)) | quiet_step ((first | fail)))); refine wpQuiet_nil ?_; rintro _ ⟨yr, rfl⟩; have syr := Ext.size yr; (repeat (first | rw [World.size_alloc] at syr | rw [World.size_setCell] at syr | rw [World.size_drew] at syr)); have : B < yr.now.heap.size := (by omega); have : B ≤ yr.now.heap.size := (by omega); have : B < yr.now.heap.size + 1 + 1 := (by omega)))
        refine ⟨⟨i + 1, ⟨_, ?_⟩, by simp, rfl, key⟩, by simp [intOf]; omega⟩
        repeat' (first | (with_reducible exact Below.refl _ _) | (with_reducible assumption) | (with_reducible refine Ext.below _ ?_ ?_) | (with_reducible refine Below.on ?_ (by with_reducible assumption) ?_) | (with_reducible refine Below.alloc ?_ ?_ _) | (with_reducible refine Below.drew ?_) | (with_reducible refine Below.setCell ?_ ?_ _) | (with_reducible exact Nat.le_refl _) | omega | (simp; done) | (simp [go_sem]; done) | (simp at *; omega))
    · have hge : ¬ (i : Int) < l.length := by omega
      have hE := hi.out.2
      rw [drop_end hlt] at hE
      have hv : V = false := by rw [← hE]; simp
      subst hv
      clear hi hE hV
      go_wp2_with (first | ((first | with_reducible refine wp_region_ext2 (by kernel_rfl) (by kernel_rfl) ?_ | with_reducible refine wp_region_ext (by kernel_rfl) (by kernel_rfl) ?_); (repeat (first | go_big_quiet_step ((first | fail)) | quiet_step ((first | fail)))); refine wpQuiet_nil ?_; rintro _ ⟨yr, rfl⟩; have syr := Ext.size yr; (repeat (first | rw [World.size_alloc] at syr | rw [World.size_setCell] at syr | rw [World.size_drew] at syr))))
      go_returns
      refine ⟨rfl, ?_⟩
      repeat' (first | (with_reducible exact Below.refl _ _) | (with_reducible assumption) | (with_reducible refine Ext.below _ ?_ ?_) | (with_reducible refine Below.on ?_ (by with_reducible assumption) ?_) | (with_reducible refine Below.alloc ?_ ?_ _) | (with_reducible refine Below.drew ?_) | (with_reducible refine Below.setCell ?_ ?_ _) | (with_reducible exact Nat.le_refl _) | omega | (simp; done) | (simp [go_sem]; done) | (simp at *; omega))
end Go.Proofs.Ytgoilmiiegpnoaa

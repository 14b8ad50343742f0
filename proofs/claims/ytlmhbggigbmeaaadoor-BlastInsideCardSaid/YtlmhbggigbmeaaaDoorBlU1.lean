/- The program's checkScene, effectOf, scene.harm and Harms, for any arguments. Condition: air, grades and land in memory. -/
import Derived.Test.YtlmhbggigbmeaaaDoorBlQ1
import Derived.Test.YtlmhbggigbmeaaaDoorBlQ3
namespace Go.Proofs.YtlmhbggigbmeaaaDoor
open Go.RowKit Go.Shelf
attribute [local go_sem] Option.isSome_some Ext.cell Ext.frozen Ext.lt Ext.le Ext.lt_add Ext.le_add Ext.ne Ext.ne' lt2 lt3 lt4 lt5 le2 le3 le4
theorem run_store_func {P : Program} {w : World} (a : Addr) (m : Mode) (f : Fn) (t cs : Array Value) : (store a (.func f t cs) m).run P w = stored P w a (.func f t cs) m := run_store P w a _ m rfl
attribute [local go_sem] run_store_func
/-- What is wrong with grades and a land. -/
def sceneE (g : List V2) (x : LandR) : Int := if gradesE g ≠ 0 then gradesE g else landE x
/-- Whether a blow makes a wave; how far it reaches; whom it harms. -/
def wavesB (n : Nat) (x : LandR) (layer a : Int) : Bool := decide ((n : Int) - layer = 0) && x.wl.getD a.toNat false
def reachW (n : Nat) (g : List V2) (layer e : Int) : Int := max (reachL e g 0 - ((n : Int) - layer)) 0
def harmsV (n : Nat) (g : List V2) (x : LandR) (layer e a : Int) : Int := if wavesB n x layer a = true then waveV x a (reachL e g 0) else harmV x a (reachW n g layer e)
theorem reachL_in {e : Int} : ∀ (l : List V2) (a : Int), (∀ g ∈ l, 0 ≤ g.y ∧ g.y ≤ 400) → 0 ≤ a → a ≤ 400 → 0 ≤ reachL e l a ∧ reachL e l a ≤ 400
  | [], a, _, h0, h1 => ⟨h0, h1⟩
  | g :: l, a, h, h0, h1 => by
    have hg := h g (by simp)
    unfold reachL
    split
    · exact reachL_in l _ (fun u hu => h u (by simp [hu])) hg.1 hg.2
    · exact reachL_in l _ (fun u hu => h u (by simp [hu])) h0 h1
theorem checkScene_any (gp : Option Addr) (gc : Nat) (g : List V2) (x : LandR) (w : World) (hg : VecsAt w gp g) (hx : x.At w) : Calls Tryd.prog 62 #[.slice gp g.length gc, x.val] w (Gives (.int .i64 (sceneE g x)) w) := by
  have c1 := fun (W : World) (y : Below w.heap.size w W) => CheckGrades_any gp gc g W (hg.on y)
  have c2 := fun (W : World) (y : Below w.heap.size w W) => CheckLand_any x W (hx.on y).nums
  unfold sceneE
  unfold LandR.val at *
  generalize gradesE g = E1 at *
  generalize landE x = E2 at *
  clear hg hx
  generalize g.length = n at *
  generalize x.pl.length = n1 at *
  generalize x.wl.length = n2 at *
  by_cases h : E1 = 0
  · rw [if_neg (by simpa using h)]
    go_enter Tryd.func62, Tryd.ntmps62
    go_wp2_with (first | ((first | with_reducible refine wrx2 ?_ | with_reducible refine wrx ?_); (repeat (first | go_big_quiet_step ((first | (go_at_call 56; with_reducible exact Calls.ext (c1 _ bcl)) | (go_at_call 58; with_reducible exact Calls.ext (c2 _ bcl)))) | quiet_step ((first | (go_at_call 56; with_reducible exact Calls.ext (c1 _ bcl)) | (go_at_call 58; with_reducible exact Calls.ext (c2 _ bcl)))))); refine wpQuiet_nil ?_; rintro _ ⟨yr, rfl⟩; have syr := Ext.size yr; (repeat (first | rw [World.size_alloc] at syr | rw [World.size_setCell] at syr | rw [World.size_drew] at syr))) | (go_at_call 56; (first | with_reducible refine (Calls.giv2 (c1 _ bcl)).mono ?_ | with_reducible refine (Calls.giv (c1 _ bcl)).mono ?_); rintro _ _ ⟨y1, rfl, rfl⟩; have sy1 := Ext.size y1; (repeat (first | rw [World.size_alloc] at sy1 | rw [World.size_setCell] at sy1 | rw [World.size_drew] at sy1))) | (go_at_call 58; (first | with_reducible refine (Calls.giv2 (c2 _ bcl)).mono ?_ | with_reducible refine (Calls.giv (c2 _ bcl)).mono ?_); rintro _ _ ⟨y2, rfl, rfl⟩; have sy2 := Ext.size y2; (repeat (first | rw [World.size_alloc] at sy2 | rw [World.size_setCell] at sy2 | rw [World.size_drew] at sy2))))
    go_returns
    refine ⟨rfl, ?_⟩
    repeat' (first | (with_reducible exact Below.refl _ _) | (with_reducible assumption) | (with_reducible refine Ext.below _ ?_ ?_) | (with_reducible refine Below.on ?_ (by with_reducible assumption) ?_) | (with_reducible refine Below.alloc ?_ ?_ _) | (with_reducible refine Below.drew ?_) | (with_reducible refine Below.setCell ?_ ?_ _) | (with_reducible exact Nat.le_refl _) | omega | (simp; done) | (simp [go_sem]; done) | (simp at *; omega))
  · rw [if_pos h]
    go_enter Tryd.func62, Tryd.ntmps62
    go_wp2_with (first | ((first | with_reducible refine wrx2 ?_ | with_reducible refine wrx ?_); (repeat (first | go_big_quiet_step ((first | (go_at_call 56; with_reducible exact Calls.ext (c1 _ bcl)))) | quiet_step ((first | (go_at_call 56; with_reducible exact Calls.ext (c1 _ bcl)))))); refine wpQuiet_nil ?_; rintro _ ⟨yr, rfl⟩; have syr := Ext.size yr; (repeat (first | rw [World.size_alloc] at syr | rw [World.size_setCell] at syr | rw [World.size_drew] at syr))) | (go_at_call 56; (first | with_reducible refine (Calls.giv2 (c1 _ bcl)).mono ?_ | with_reducible refine (Calls.giv (c1 _ bcl)).mono ?_); rintro _ _ ⟨y1, rfl, rfl⟩; have sy1 := Ext.size y1; (repeat (first | rw [World.size_alloc] at sy1 | rw [World.size_setCell] at sy1 | rw [World.size_drew] at sy1))))
    go_returns
    refine ⟨rfl, ?_⟩
    repeat' (first | (with_reducible exact Below.refl _ _) | (with_reducible assumption) | (with_reducible refine Ext.below _ ?_ ?_) | (with_reducible refine Below.on ?_ (by with_reducible assumption) ?_) | (with_reducible refine Below.alloc ?_ ?_ _) | (with_reducible refine Below.drew ?_) | (with_reducible refine Below.setCell ?_ ?_ _) | (with_reducible exact Nat.le_refl _) | omega | (simp; done) | (simp [go_sem]; done) | (simp at *; omega))
set_option maxHeartbeats 4000000 in
theorem effectOf_any (lp : Option Addr) (n lc : Nat) (gp : Option Addr) (gc : Nat) (g : List V2) (x : LandR) (layer e a : Int) (w : World) (hn : n ≤ 32) (hg : VecsAt w gp g) (hgk : GradesOk g) (hx : x.At w) (hok : x.Ok) (h0 : 0 ≤ layer) (h1 : layer ≤ n) (h2 : 0 ≤ a) (h3 : a < x.pl.length) :
    Calls Tryd.prog 86 #[.agg #[.slice lp n lc, .slice gp g.length gc, .slice x.pp x.pl.length x.pc, .slice x.wp x.wl.length x.wc], .int .i64 layer, .int .i64 e, .int .i64 a] w (Gives (if wavesB n x layer a = true then .agg #[.int .i64 (reachL e g 0), .func (.func 61) #[] #[]] else .agg #[.int .i64 (reachW n g layer e), .func (.func 60) #[] #[]]) w) := by
  have cr := fun (W : World) (y : Below w.heap.size w W) => reachOf_any gp gc g e W (hg.on y) (by have := hgk.le; omega)
  have hR := reachL_in (e := e) g 0 (fun u hu => (hgk.rng u hu).2) (by omega) (by omega)
  unfold reachW wavesB
  generalize reachL e g 0 = R at *
  obtain ⟨b, rfl⟩ := Int.eq_ofNat_of_zero_le h2
  have hlen := hok.len
  have hle := hok.le
  have hbn : b < x.wl.length := by omega
  obtain ⟨B, o, hp, hB, c1⟩ := hx.bools b hbn
  rw [Int.toNat_natCast, getD_at b false hbn]
  have hb4 : (b : Int) < x.wl.length := by omega
  rw [hp]
  generalize x.wl[b] = bw at *
  clear hg hgk hx hok h3 hlen hle hbn hp
  obtain ⟨hR1, hR2⟩ := hR
  obtain ⟨A, hA⟩ : ∃ A, (n : Int) - layer = A := ⟨_, rfl⟩
  have hA1 : 0 ≤ A ∧ A ≤ 32 := by omega
  rw [hA]
  obtain ⟨hA2, hA3⟩ := hA1
  generalize g.length = gn at *
  generalize x.pl.length = n1 at *
  generalize x.wl.length = n2 at *
  have hB1 : B < w.heap.size + 1 := by omega
  have hB2 : B < w.heap.size + 1 + 1 := by omega
  have hB3 : B ≠ w.heap.size := by omega
  have hB4 : B ≠ w.heap.size + 1 := by omega
  by_cases hA0 : A = 0
  · cases bw
    · rw [if_neg (by simp)]
      go_enter Tryd.func86, Tryd.ntmps86
      go_wp2_with (first | ((first | with_reducible refine wrx2 ?_ | with_reducible refine wrx ?_); (repeat (first | go_big_quiet_step ((first | (go_at_call 57; with_reducible exact Calls.ext (cr _ bcl)))) | quiet_step ((first | (go_at_call 57; with_reducible exact Calls.ext (cr _ bcl)))))); refine wpQuiet_nil ?_; rintro _ ⟨yr, rfl⟩; have syr := Ext.size yr; (repeat (first | rw [World.size_alloc] at syr | rw [World.size_setCell] at syr | rw [World.size_drew] at syr)); have : w.heap.size < yr.now.heap.size := (by omega); have : w.heap.size ≤ yr.now.heap.size := (by omega); have : w.heap.size < yr.now.heap.size + 1 + 1 := (by omega); have : w.heap.size + 1 < yr.now.heap.size := (by omega); have : w.heap.size + 1 ≤ yr.now.heap.size := (by omega); have : w.heap.size + 1 < yr.now.heap.size + 1 + 1 := (by omega); have : B < yr.now.heap.size := (by omega); have : B ≤ yr.now.heap.size := (by omega); have : B < yr.now.heap.size + 1 + 1 := (by omega)) | (go_at_call 57; (first | with_reducible refine (Calls.giv2 (cr _ bcl)).mono ?_ | with_reducible refine (Calls.giv (cr _ bcl)).mono ?_); rintro _ _ ⟨y1, rfl, rfl⟩; have sy1 := Ext.size y1; (repeat (first | rw [World.size_alloc] at sy1 | rw [World.size_setCell] at sy1 | rw [World.size_drew] at sy1)); have : w.heap.size < y1.now.heap.size := (by omega); have : w.heap.size ≤ y1.now.heap.size := (by omega); have : w.heap.size < y1.now.heap.size + 1 + 1 := (by omega); have : w.heap.size + 1 < y1.now.heap.size := (by omega); have : w.heap.size + 1 ≤ y1.now.heap.size := (by omega); have : w.heap.size + 1 < y1.now.heap.size + 1 + 1 := (by omega); have : B < y1.now.heap.size := (by omega); have : B ≤ y1.now.heap.size := (by omega); have : B < y1.now.heap.size + 1 + 1 := (by omega)))
      refine bodyPost_ret (v := .agg #[.int .i64 (max R 0), .func (.func 60) #[] #[]]) (by simp (maxDischargeDepth := 9) [results, Tryd.results86, go_sem]) rfl ?_
      refine ⟨by simp [hA0], ?_⟩
      repeat' (first | (with_reducible exact Below.refl _ _) | (with_reducible assumption) | (with_reducible refine Ext.below _ ?_ ?_) | (with_reducible refine Below.on ?_ (by with_reducible assumption) ?_) | (with_reducible refine Below.alloc ?_ ?_ _) | (with_reducible refine Below.drew ?_) | (with_reducible refine Below.setCell ?_ ?_ _) | (with_reducible exact Nat.le_refl _) | omega | (simp; done) | (simp [go_sem]; done) | (simp at *; omega))
    · rw [if_pos (by simp [hA0])]
      go_enter Tryd.func86, Tryd.ntmps86
      go_wp2_with (first | ((first | with_reducible refine wrx2 ?_ | with_reducible refine wrx ?_); (repeat (first | go_big_quiet_step ((first | (go_at_call 57; with_reducible exact Calls.ext (cr _ bcl)))) | quiet_step ((first | (go_at_call 57; with_reducible exact Calls.ext (cr _ bcl)))))); refine wpQuiet_nil ?_; rintro _ ⟨yr, rfl⟩; have syr := Ext.size yr; (repeat (first | rw [World.size_alloc] at syr | rw [World.size_setCell] at syr | rw [World.size_drew] at syr)); have : w.heap.size < yr.now.heap.size := (by omega); have : w.heap.size ≤ yr.now.heap.size := (by omega); have : w.heap.size < yr.now.heap.size + 1 + 1 := (by omega); have : w.heap.size + 1 < yr.now.heap.size := (by omega); have : w.heap.size + 1 ≤ yr.now.heap.size := (by omega); have : w.heap.size + 1 < yr.now.heap.size + 1 + 1 := (by omega); have : B < yr.now.heap.size := (by omega); have : B ≤ yr.now.heap.size := (by omega); have : B < yr.now.heap.size + 1 + 1 := (by omega)) | (go_at_call 57; (first | with_reducible refine (Calls.giv2 (cr _ bcl)).mono ?_ | with_reducible refine (Calls.giv (cr _ bcl)).mono ?_); rintro _ _ ⟨y1, rfl, rfl⟩; have sy1 := Ext.size y1; (repeat (first | rw [World.size_alloc] at sy1 | rw [World.size_setCell] at sy1 | rw [World.size_drew] at sy1)); have : w.heap.size < y1.now.heap.size := (by omega); have : w.heap.size ≤ y1.now.heap.size := (by omega); have : w.heap.size < y1.now.heap.size + 1 + 1 := (by omega); have : w.heap.size + 1 < y1.now.heap.size := (by omega); have : w.heap.size + 1 ≤ y1.now.heap.size := (by omega); have : w.heap.size + 1 < y1.now.heap.size + 1 + 1 := (by omega); have : B < y1.now.heap.size := (by omega); have : B ≤ y1.now.heap.size := (by omega); have : B < y1.now.heap.size + 1 + 1 := (by omega)))
      refine bodyPost_ret (v := .agg #[.int .i64 R, .func (.func 61) #[] #[]]) (by simp (maxDischargeDepth := 9) [results, Tryd.results86, go_sem]) rfl ?_
      refine ⟨rfl, ?_⟩
      repeat' (first | (with_reducible exact Below.refl _ _) | (with_reducible assumption) | (with_reducible refine Ext.below _ ?_ ?_) | (with_reducible refine Below.on ?_ (by with_reducible assumption) ?_) | (with_reducible refine Below.alloc ?_ ?_ _) | (with_reducible refine Below.drew ?_) | (with_reducible refine Below.setCell ?_ ?_ _) | (with_reducible exact Nat.le_refl _) | omega | (simp; done) | (simp [go_sem]; done) | (simp at *; omega))
  · rw [if_neg (by simp [hA0])]
    go_enter Tryd.func86, Tryd.ntmps86
    go_wp2_with (first | ((first | with_reducible refine wrx2 ?_ | with_reducible refine wrx ?_); (repeat (first | go_big_quiet_step ((first | (go_at_call 57; with_reducible exact Calls.ext (cr _ bcl)))) | quiet_step ((first | (go_at_call 57; with_reducible exact Calls.ext (cr _ bcl)))))); refine wpQuiet_nil ?_; rintro _ ⟨yr, rfl⟩; have syr := Ext.size yr; (repeat (first | rw [World.size_alloc] at syr | rw [World.size_setCell] at syr | rw [World.size_drew] at syr)); have : w.heap.size < yr.now.heap.size := (by omega); have : w.heap.size ≤ yr.now.heap.size := (by omega); have : w.heap.size < yr.now.heap.size + 1 + 1 := (by omega); have : w.heap.size + 1 < yr.now.heap.size := (by omega); have : w.heap.size + 1 ≤ yr.now.heap.size := (by omega); have : w.heap.size + 1 < yr.now.heap.size + 1 + 1 := (by omega); have : B < yr.now.heap.size := (by omega); have : B ≤ yr.now.heap.size := (by omega); have : B < yr.now.heap.size + 1 + 1 := (by omega)) | (go_at_call 57; (first | with_reducible refine (Calls.giv2 (cr _ bcl)).mono ?_ | with_reducible refine (Calls.giv (cr _ bcl)).mono ?_); rintro _ _ ⟨y1, rfl, rfl⟩; have sy1 := Ext.size y1; (repeat (first | rw [World.size_alloc] at sy1 | rw [World.size_setCell] at sy1 | rw [World.size_drew] at sy1)); have : w.heap.size < y1.now.heap.size := (by omega); have : w.heap.size ≤ y1.now.heap.size := (by omega); have : w.heap.size < y1.now.heap.size + 1 + 1 := (by omega); have : w.heap.size + 1 < y1.now.heap.size := (by omega); have : w.heap.size + 1 ≤ y1.now.heap.size := (by omega); have : w.heap.size + 1 < y1.now.heap.size + 1 + 1 := (by omega); have : B < y1.now.heap.size := (by omega); have : B ≤ y1.now.heap.size := (by omega); have : B < y1.now.heap.size + 1 + 1 := (by omega)))
    refine bodyPost_ret (v := .agg #[.int .i64 (max (R - A) 0), .func (.func 60) #[] #[]]) (by simp (maxDischargeDepth := 9) [results, Tryd.results86, go_sem]) rfl ?_
    refine ⟨rfl, ?_⟩
    repeat' (first | (with_reducible exact Below.refl _ _) | (with_reducible assumption) | (with_reducible refine Ext.below _ ?_ ?_) | (with_reducible refine Below.on ?_ (by with_reducible assumption) ?_) | (with_reducible refine Below.alloc ?_ ?_ _) | (with_reducible refine Below.drew ?_) | (with_reducible refine Below.setCell ?_ ?_ _) | (with_reducible exact Nat.le_refl _) | omega | (simp; done) | (simp [go_sem]; done) | (simp at *; omega))
set_option maxHeartbeats 4000000 in
theorem sceneHarm_any (lp : Option Addr) (n lc : Nat) (gp : Option Addr) (gc : Nat) (g : List V2) (x : LandR) (layer e a : Int) (w : World) (hn : n ≤ 32) (hg : VecsAt w gp g) (hgk : GradesOk g) (hx : x.At w) (hok : x.Ok) (h0 : 0 ≤ layer) (h1 : layer ≤ n) (h2 : 0 ≤ a) (h3 : a < x.pl.length) :
    Calls Tryd.prog 63 #[.agg #[.slice lp n lc, .slice gp g.length gc, .slice x.pp x.pl.length x.pc, .slice x.wp x.wl.length x.wc], .int .i64 layer, .int .i64 e, .int .i64 a] w (Gives (.int .i64 (harmsV n g x layer e a)) w) := by
  have ce := fun (W : World) (y : Below w.heap.size w W) => effectOf_any lp n lc gp gc g x layer e a W hn (hg.on y) hgk (hx.on y) hok h0 h1 h2 h3
  have hR := reachL_in (e := e) g 0 (fun u hu => (hgk.rng u hu).2) (by omega) (by omega)
  have hR2 : 0 ≤ reachW n g layer e ∧ reachW n g layer e ≤ 400 := by unfold reachW; omega
  have cw := fun (W : World) (y : Below w.heap.size w W) => waveOf_any x a (reachL e g 0) W (hx.on y) hok h2 h3 hR.1 (by unfold I64; omega)
  have ch : ∀ (W : World) (y : Below w.heap.size w W), Calls Tryd.prog 60 #[x.val, .int .i64 a, .int .i64 (reachW n g layer e)] W (Gives (.int .i64 (harmV x a (reachW n g layer e))) W) := fun W y => harmOf_any x a (reachW n g layer e) W (hx.on y) hok h2 h3 hR2.1 (by unfold I64; omega)
  unfold harmsV
  cases hb : wavesB n x layer a
  · rw [hb] at ce
    simp only [Bool.false_eq_true, if_false] at ce ⊢
    unfold LandR.val at *
    generalize reachW n g layer e = R at *
    generalize harmV x a R = V at *
    clear cw hR hg hgk hx hok h3 hb
    generalize g.length = gn at *
    generalize x.pl.length = n1 at *
    generalize x.wl.length = n2 at *
    go_enter Tryd.func63, Tryd.ntmps63
    go_wp2_with (first | ((first | with_reducible refine wrx2 ?_ | with_reducible refine wrx ?_); (repeat (first | go_big_quiet_step ((first | (go_at_call 86; with_reducible exact Calls.ext (ce _ bcl)) | (with_reducible exact Calls.ext (ch _ bcl)))) | quiet_step ((first | (go_at_call 86; with_reducible exact Calls.ext (ce _ bcl)) | (with_reducible exact Calls.ext (ch _ bcl)))))); refine wpQuiet_nil ?_; rintro _ ⟨yr, rfl⟩; have syr := Ext.size yr; (repeat (first | rw [World.size_alloc] at syr | rw [World.size_setCell] at syr | rw [World.size_drew] at syr)); have : w.heap.size < yr.now.heap.size := (by omega); have : w.heap.size ≤ yr.now.heap.size := (by omega); have : w.heap.size < yr.now.heap.size + 1 + 1 := (by omega)) | (go_at_call 86; (first | with_reducible refine (Calls.giv2 (ce _ bcl)).mono ?_ | with_reducible refine (Calls.giv (ce _ bcl)).mono ?_); rintro _ _ ⟨y1, rfl, rfl⟩; have sy1 := Ext.size y1; (repeat (first | rw [World.size_alloc] at sy1 | rw [World.size_setCell] at sy1 | rw [World.size_drew] at sy1)); have : w.heap.size < y1.now.heap.size := (by omega); have : w.heap.size ≤ y1.now.heap.size := (by omega); have : w.heap.size < y1.now.heap.size + 1 + 1 := (by omega)) | ((first | with_reducible refine (Calls.giv2 (ch _ bcl)).mono ?_ | with_reducible refine (Calls.giv (ch _ bcl)).mono ?_); rintro _ _ ⟨y2, rfl, rfl⟩; have sy2 := Ext.size y2; (repeat (first | rw [World.size_alloc] at sy2 | rw [World.size_setCell] at sy2 | rw [World.size_drew] at sy2)); have : w.heap.size < y2.now.heap.size := (by omega); have : w.heap.size ≤ y2.now.heap.size := (by omega); have : w.heap.size < y2.now.heap.size + 1 + 1 := (by omega)))
    go_returns
    refine ⟨rfl, ?_⟩
    repeat' (first | (with_reducible exact Below.refl _ _) | (with_reducible assumption) | (with_reducible refine Ext.below _ ?_ ?_) | (with_reducible refine Below.on ?_ (by with_reducible assumption) ?_) | (with_reducible refine Below.alloc ?_ ?_ _) | (with_reducible refine Below.drew ?_) | (with_reducible refine Below.setCell ?_ ?_ _) | (with_reducible exact Nat.le_refl _) | omega | (simp; done) | (simp [go_sem]; done) | (simp at *; omega))
  · rw [hb] at ce
    simp only [if_true] at ce ⊢
    unfold LandR.val at *
    generalize reachL e g 0 = R at *
    generalize waveV x a R = V at *
    clear ch hR2 hR hg hgk hx hok h3 hb
    generalize g.length = gn at *
    generalize x.pl.length = n1 at *
    generalize x.wl.length = n2 at *
    go_enter Tryd.func63, Tryd.ntmps63
    go_wp2_with (first | ((first | with_reducible refine wrx2 ?_ | with_reducible refine wrx ?_); (repeat (first | go_big_quiet_step ((first | (go_at_call 86; with_reducible exact Calls.ext (ce _ bcl)) | (with_reducible exact Calls.ext (cw _ bcl)))) | quiet_step ((first | (go_at_call 86; with_reducible exact Calls.ext (ce _ bcl)) | (with_reducible exact Calls.ext (cw _ bcl)))))); refine wpQuiet_nil ?_; rintro _ ⟨yr, rfl⟩; have syr := Ext.size yr; (repeat (first | rw [World.size_alloc] at syr | rw [World.size_setCell] at syr | rw [World.size_drew] at syr)); have : w.heap.size < yr.now.heap.size := (by omega); have : w.heap.size ≤ yr.now.heap.size := (by omega); have : w.heap.size < yr.now.heap.size + 1 + 1 := (by omega)) | (go_at_call 86; (first | with_reducible refine (Calls.giv2 (ce _ bcl)).mono ?_ | with_reducible refine (Calls.giv (ce _ bcl)).mono ?_); rintro _ _ ⟨y1, rfl, rfl⟩; have sy1 := Ext.size y1; (repeat (first | rw [World.size_alloc] at sy1 | rw [World.size_setCell] at sy1 | rw [World.size_drew] at sy1)); have : w.heap.size < y1.now.heap.size := (by omega); have : w.heap.size ≤ y1.now.heap.size := (by omega); have : w.heap.size < y1.now.heap.size + 1 + 1 := (by omega)) | ((first | with_reducible refine (Calls.giv2 (cw _ bcl)).mono ?_ | with_reducible refine (Calls.giv (cw _ bcl)).mono ?_); rintro _ _ ⟨y2, rfl, rfl⟩; have sy2 := Ext.size y2; (repeat (first | rw [World.size_alloc] at sy2 | rw [World.size_setCell] at sy2 | rw [World.size_drew] at sy2)); have : w.heap.size < y2.now.heap.size := (by omega); have : w.heap.size ≤ y2.now.heap.size := (by omega); have : w.heap.size < y2.now.heap.size + 1 + 1 := (by omega)))
    go_returns
    refine ⟨rfl, ?_⟩
    repeat' (first | (with_reducible exact Below.refl _ _) | (with_reducible assumption) | (with_reducible refine Ext.below _ ?_ ?_) | (with_reducible refine Below.on ?_ (by with_reducible assumption) ?_) | (with_reducible refine Below.alloc ?_ ?_ _) | (with_reducible refine Below.drew ?_) | (with_reducible refine Below.setCell ?_ ?_ _) | (with_reducible exact Nat.le_refl _) | omega | (simp; done) | (simp [go_sem]; done) | (simp at *; omega))
end Go.Proofs.YtlmhbggigbmeaaaDoor

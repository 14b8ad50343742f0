/- Harms of the reference, where all is valid. Condition: air, grades and land in memory, air and grades of at most 1000. The reference's Harms, for any arguments. Condition: air, grades and land in memory, air of at most 1000 layers. Contracts of what package span computes with the ends of two spans. No condition but the operation's own contract. Contract of package span's product of two spans. No condition. Contract of package span's quotient of two spans. No condition. -/
import Derived.Test.YtlmhbggigbmeaaaDoorBlUpG
import Derived.Test.YtlmhbggigbmeaaaDoorBlQ2
import Derived.Test.YtlmhbggigbmeaaaDoorBlQ5
import Derived.Test.YtlmhbggigbmeaaaDoorBlC3G
import Derived.Test.YtlmhbggigbmeaaaDoorBlBgG
import Derived.Test.YtlmhbggigbmeaaaDoorArea
import Derived.Test.YtlmhbggigbmeaaaDoorKitG
import Derived.Test.YtlmhbggigbmeaaaDoorSpansG
import Derived.Test.YtlmhbggigbmeaaaDoorOver
namespace Go.Proofs.YtlmhbggigbmeaaaDoor
open Go.RowKit Go.Shelf
attribute [local go_sem] Option.isSome_some Ext.cell Ext.frozen Ext.lt Ext.le Ext.lt_add Ext.le_add Ext.ne Ext.ne' lt2 lt3 lt4 lt5 le2 le3 le4
theorem rboth_any (gp : Option Addr) (gc : Nat) (g : List V2) (x : LandR) (w : World) (hg : VecsAt w gp g) (hx : x.At w) : Calls Tryd.prog 72 #[.slice gp g.length gc, x.val] w (Gives (.int .i64 (sceneE g x)) w) := by
  have c1 := fun (W : World) (y : Below w.heap.size w W) => rCheckGrades_any gp gc g W (hg.on y)
  have c2 := fun (W : World) (y : Below w.heap.size w W) => rCheckLand_any x W (hx.on y).nums
  unfold sceneE
  unfold LandR.val at *
  generalize gradesE g = E1 at *
  generalize landE x = E2 at *
  clear hg hx
  generalize g.length = n at *
  generalize x.pl.length = n1 at *
  generalize x.wl.length = n2 at *
  by_cases h : E1 = 0
  · rw [if_neg (by simpa using h)]
    go_enter Tryd.func72, Tryd.ntmps72
    go_wp2_with (first | ((first | with_reducible refine wrx2 ?_ | with_reducible refine wrx ?_); (repeat (first | go_big_quiet_step ((first | (go_at_call 94; with_reducible exact Calls.ext (c1 _ bcl)) | (go_at_call 95; with_reducible exact Calls.ext (c2 _ bcl)))) | quiet_step ((first | (go_at_call 94; with_reducible exact Calls.ext (c1 _ bcl)) | (go_at_call 95; with_reducible exact Calls.ext (c2 _ bcl)))))); refine wpQuiet_nil ?_; rintro _ ⟨yr, rfl⟩; have syr := Ext.size yr; (repeat (first | rw [World.size_alloc] at syr | rw [World.size_setCell] at syr | rw [World.size_drew] at syr))) | (go_at_call 94; (first | with_reducible refine (Calls.giv2 (c1 _ bcl)).mono ?_ | with_reducible refine (Calls.giv (c1 _ bcl)).mono ?_); rintro _ _ ⟨y1, rfl, rfl⟩; have sy1 := Ext.size y1; (repeat (first | rw [World.size_alloc] at sy1 | rw [World.size_setCell] at sy1 | rw [World.size_drew] at sy1))) | (go_at_call 95; (first | with_reducible refine (Calls.giv2 (c2 _ bcl)).mono ?_ | with_reducible refine (Calls.giv (c2 _ bcl)).mono ?_); rintro _ _ ⟨y2, rfl, rfl⟩; have sy2 := Ext.size y2; (repeat (first | rw [World.size_alloc] at sy2 | rw [World.size_setCell] at sy2 | rw [World.size_drew] at sy2))))
    go_returns
    refine ⟨rfl, ?_⟩
    repeat' (first | (with_reducible exact Below.refl _ _) | (with_reducible assumption) | (with_reducible refine Ext.below _ ?_ ?_) | (with_reducible refine Below.on ?_ (by with_reducible assumption) ?_) | (with_reducible refine Below.alloc ?_ ?_ _) | (with_reducible refine Below.drew ?_) | (with_reducible refine Below.setCell ?_ ?_ _) | (with_reducible exact Nat.le_refl _) | omega | (simp; done) | (simp [go_sem]; done) | (simp at *; omega))
  · rw [if_pos h]
    go_enter Tryd.func72, Tryd.ntmps72
    go_wp2_with (first | ((first | with_reducible refine wrx2 ?_ | with_reducible refine wrx ?_); (repeat (first | go_big_quiet_step ((first | (go_at_call 94; with_reducible exact Calls.ext (c1 _ bcl)))) | quiet_step ((first | (go_at_call 94; with_reducible exact Calls.ext (c1 _ bcl)))))); refine wpQuiet_nil ?_; rintro _ ⟨yr, rfl⟩; have syr := Ext.size yr; (repeat (first | rw [World.size_alloc] at syr | rw [World.size_setCell] at syr | rw [World.size_drew] at syr))) | (go_at_call 94; (first | with_reducible refine (Calls.giv2 (c1 _ bcl)).mono ?_ | with_reducible refine (Calls.giv (c1 _ bcl)).mono ?_); rintro _ _ ⟨y1, rfl, rfl⟩; have sy1 := Ext.size y1; (repeat (first | rw [World.size_alloc] at sy1 | rw [World.size_setCell] at sy1 | rw [World.size_drew] at sy1))))
    go_returns
    refine ⟨rfl, ?_⟩
    repeat' (first | (with_reducible exact Below.refl _ _) | (with_reducible assumption) | (with_reducible refine Ext.below _ ?_ ?_) | (with_reducible refine Below.on ?_ (by with_reducible assumption) ?_) | (with_reducible refine Below.alloc ?_ ?_ _) | (with_reducible refine Below.drew ?_) | (with_reducible refine Below.setCell ?_ ?_ _) | (with_reducible exact Nat.le_refl _) | omega | (simp; done) | (simp [go_sem]; done) | (simp at *; omega))
set_option maxHeartbeats 4000000 in
theorem rharms_any (n : Nat) (gp : Option Addr) (gc : Nat) (g : List V2) (x : LandR) (layer e a : Int) (w : World) (hn : n ≤ 32) (hg : VecsAt w gp g) (hgk : GradesOk g) (hx : x.At w) (hok : x.Ok) (h0 : 0 ≤ layer) (h1 : layer ≤ n) (h2 : 0 ≤ a) (h3 : a < x.pl.length) :
    Calls Tryd.prog 74 #[.int .i64 n, .slice gp g.length gc, x.val, .int .i64 layer, .int .i64 e, .int .i64 a] w (Gives (.int .i64 (harmsV n g x layer e a)) w) := by
  have cr := fun (W : World) (y : Below w.heap.size w W) => rreach_any gp gc g e W (hg.on y) (by have := hgk.le; omega)
  have hR := reachL_in (e := e) g 0 (fun u hu => (hgk.rng u hu).2) (by omega) (by omega)
  obtain ⟨b, rfl⟩ := Int.eq_ofNat_of_zero_le h2
  have hlen := hok.len
  have hbn : b < x.wl.length := by omega
  obtain ⟨B, o, hp, hB, c1⟩ := hx.bools b hbn
  have hget : x.wl.getD (b : Int).toNat false = x.wl[b] := getD_at b false hbn
  have hb4 : (b : Int) < x.wl.length := by omega
  unfold harmsV wavesB reachW
  rw [hget]
  obtain ⟨A, hA⟩ : ∃ A, (n : Int) - layer = A := ⟨_, rfl⟩
  rw [hA]
  have hA1 : 0 ≤ A ∧ A ≤ 32 := by omega
  by_cases hA0 : A = 0
  · have hln : layer = n := by omega
    have cw := fun (q : x.wl[b] = true) (W : World) (y : Below w.heap.size w W) => rwave_any x b (reachL e g 0) W (hx.on y) hok h2 h3 (hget.trans q) hR.1 hR.2
    have ch := fun (W : World) (y : Below w.heap.size w W) => rharm_any x b (reachL e g 0) W (hx.on y) hok h2 h3 hR.1 hR.2
    have eH : harmV x b (max (reachL e g 0 - A) 0) = harmV x b (reachL e g 0) := by rw [show max (reachL e g 0 - A) 0 = reachL e g 0 by omega]
    rw [eH]
    generalize reachL e g 0 = R at *
    generalize harmV x b R = V1 at *
    generalize waveV x b R = V2' at *
    subst hA0
    unfold LandR.val at *
    rw [hp] at ch cw ⊢
    generalize x.wl[b] = bw at *
    clear hg hgk hx hok h3 hlen hbn hp hget hA eH hR hA1
    subst hln
    generalize g.length = gn at *
    generalize x.pl.length = n1 at *
    generalize x.wl.length = n2 at *
    cases bw
    · rw [if_neg (by simp)]
      clear cw
      go_enter Tryd.func74, Tryd.ntmps74
      go_wp2_with (first | ((first | with_reducible refine wrx2 ?_ | with_reducible refine wrx ?_); (repeat (first | go_big_quiet_step ((first | (go_at_call 96; with_reducible exact Calls.ext (cr _ bcl)) | (go_at_call 97; with_reducible exact Calls.ext (ch _ bcl)))) | quiet_step ((first | (go_at_call 96; with_reducible exact Calls.ext (cr _ bcl)) | (go_at_call 97; with_reducible exact Calls.ext (ch _ bcl)))))); refine wpQuiet_nil ?_; rintro _ ⟨yr, rfl⟩; have syr := Ext.size yr; (repeat (first | rw [World.size_alloc] at syr | rw [World.size_setCell] at syr | rw [World.size_drew] at syr)); have : w.heap.size < yr.now.heap.size := (by omega); have : w.heap.size ≤ yr.now.heap.size := (by omega); have : w.heap.size < yr.now.heap.size + 1 + 1 := (by omega); have : B < yr.now.heap.size := (by omega); have : B ≤ yr.now.heap.size := (by omega); have : B < yr.now.heap.size + 1 + 1 := (by omega)) | (go_at_call 96; (first | with_reducible refine (Calls.giv2 (cr _ bcl)).mono ?_ | with_reducible refine (Calls.giv (cr _ bcl)).mono ?_); rintro _ _ ⟨y1, rfl, rfl⟩; have sy1 := Ext.size y1; (repeat (first | rw [World.size_alloc] at sy1 | rw [World.size_setCell] at sy1 | rw [World.size_drew] at sy1)); have : w.heap.size < y1.now.heap.size := (by omega); have : w.heap.size ≤ y1.now.heap.size := (by omega); have : w.heap.size < y1.now.heap.size + 1 + 1 := (by omega); have : B < y1.now.heap.size := (by omega); have : B ≤ y1.now.heap.size := (by omega); have : B < y1.now.heap.size + 1 + 1 := (by omega)) | (go_at_call 97; (first | with_reducible refine (Calls.giv2 (ch _ bcl)).mono ?_ | with_reducible refine (Calls.giv (ch _ bcl)).mono ?_); rintro _ _ ⟨y2, rfl, rfl⟩; have sy2 := Ext.size y2; (repeat (first | rw [World.size_alloc] at sy2 | rw [World.size_setCell] at sy2 | rw [World.size_drew] at sy2)); have : w.heap.size < y2.now.heap.size := (by omega); have : w.heap.size ≤ y2.now.heap.size := (by omega); have : w.heap.size < y2.now.heap.size + 1 + 1 := (by omega); have : B < y2.now.heap.size := (by omega); have : B ≤ y2.now.heap.size := (by omega); have : B < y2.now.heap.size + 1 + 1 := (by omega)))
      go_returns
      refine ⟨rfl, ?_⟩
      repeat' (first | (with_reducible exact Below.refl _ _) | (with_reducible assumption) | (with_reducible refine Ext.below _ ?_ ?_) | (with_reducible refine Below.on ?_ (by with_reducible assumption) ?_) | (with_reducible refine Below.alloc ?_ ?_ _) | (with_reducible refine Below.drew ?_) | (with_reducible refine Below.setCell ?_ ?_ _) | (with_reducible exact Nat.le_refl _) | omega | (simp; done) | (simp [go_sem]; done) | (simp at *; omega))
    · rw [if_pos (by simp)]
      replace cw := cw rfl
      go_enter Tryd.func74, Tryd.ntmps74
      go_wp2_with (first | ((first | with_reducible refine wrx2 ?_ | with_reducible refine wrx ?_); (repeat (first | go_big_quiet_step ((first | (go_at_call 96; with_reducible exact Calls.ext (cr _ bcl)) | (go_at_call 98; with_reducible exact Calls.ext (cw _ bcl)))) | quiet_step ((first | (go_at_call 96; with_reducible exact Calls.ext (cr _ bcl)) | (go_at_call 98; with_reducible exact Calls.ext (cw _ bcl)))))); refine wpQuiet_nil ?_; rintro _ ⟨yr, rfl⟩; have syr := Ext.size yr; (repeat (first | rw [World.size_alloc] at syr | rw [World.size_setCell] at syr | rw [World.size_drew] at syr)); have : w.heap.size < yr.now.heap.size := (by omega); have : w.heap.size ≤ yr.now.heap.size := (by omega); have : w.heap.size < yr.now.heap.size + 1 + 1 := (by omega); have : B < yr.now.heap.size := (by omega); have : B ≤ yr.now.heap.size := (by omega); have : B < yr.now.heap.size + 1 + 1 := (by omega)) | (go_at_call 96; (first | with_reducible refine (Calls.giv2 (cr _ bcl)).mono ?_ | with_reducible refine (Calls.giv (cr _ bcl)).mono ?_); rintro _ _ ⟨y1, rfl, rfl⟩; have sy1 := Ext.size y1; (repeat (first | rw [World.size_alloc] at sy1 | rw [World.size_setCell] at sy1 | rw [World.size_drew] at sy1)); have : w.heap.size < y1.now.heap.size := (by omega); have : w.heap.size ≤ y1.now.heap.size := (by omega); have : w.heap.size < y1.now.heap.size + 1 + 1 := (by omega); have : B < y1.now.heap.size := (by omega); have : B ≤ y1.now.heap.size := (by omega); have : B < y1.now.heap.size + 1 + 1 := (by omega)) | (go_at_call 98; (first | with_reducible refine (Calls.giv2 (cw _ bcl)).mono ?_ | with_reducible refine (Calls.giv (cw _ bcl)).mono ?_); rintro _ _ ⟨y2, rfl, rfl⟩; have sy2 := Ext.size y2; (repeat (first | rw [World.size_alloc] at sy2 | rw [World.size_setCell] at sy2 | rw [World.size_drew] at sy2)); have : w.heap.size < y2.now.heap.size := (by omega); have : w.heap.size ≤ y2.now.heap.size := (by omega); have : w.heap.size < y2.now.heap.size + 1 + 1 := (by omega); have : B < y2.now.heap.size := (by omega); have : B ≤ y2.now.heap.size := (by omega); have : B < y2.now.heap.size + 1 + 1 := (by omega)))
      go_returns
      refine ⟨rfl, ?_⟩
      repeat' (first | (with_reducible exact Below.refl _ _) | (with_reducible assumption) | (with_reducible refine Ext.below _ ?_ ?_) | (with_reducible refine Below.on ?_ (by with_reducible assumption) ?_) | (with_reducible refine Below.alloc ?_ ?_ _) | (with_reducible refine Below.drew ?_) | (with_reducible refine Below.setCell ?_ ?_ _) | (with_reducible exact Nat.le_refl _) | omega | (simp; done) | (simp [go_sem]; done) | (simp at *; omega))
  · rw [if_neg (by simp [hA0])]
    have hRA : 0 ≤ max (reachL e g 0 - A) 0 ∧ max (reachL e g 0 - A) 0 ≤ 400 := by omega
    have ch := fun (W : World) (y : Below w.heap.size w W) => rharm_any x b (max (reachL e g 0 - A) 0) W (hx.on y) hok h2 h3 hRA.1 hRA.2
    have hlt : layer < n := by omega
    generalize harmV x b (max (reachL e g 0 - A) 0) = V at *
    generalize reachL e g 0 = R at *
    have hmx : max (R - A) 0 = max 0 (R - A) := by omega
    rw [hmx] at ch
    unfold LandR.val at *
    clear hg hgk hx hok h3 hlen hbn hp hget c1 hRA hmx hb4
    obtain ⟨hR1, hR2⟩ := hR
    obtain ⟨hA2, hA3⟩ := hA1
    generalize g.length = gn at *
    generalize x.pl.length = n1 at *
    generalize x.wl.length = n2 at *
    go_enter Tryd.func74, Tryd.ntmps74
    go_wp2_with (first | ((first | with_reducible refine wrx2 ?_ | with_reducible refine wrx ?_); (repeat (first | go_big_quiet_step ((first | (go_at_call 96; with_reducible exact Calls.ext (cr _ bcl)) | (go_at_call 97; with_reducible exact Calls.ext (ch _ bcl)))) | quiet_step ((first | (go_at_call 96; with_reducible exact Calls.ext (cr _ bcl)) | (go_at_call 97; with_reducible exact Calls.ext (ch _ bcl)))))); refine wpQuiet_nil ?_; rintro _ ⟨yr, rfl⟩; have syr := Ext.size yr; (repeat (first | rw [World.size_alloc] at syr | rw [World.size_setCell] at syr | rw [World.size_drew] at syr)); have : w.heap.size < yr.now.heap.size := (by omega); have : w.heap.size ≤ yr.now.heap.size := (by omega); have : w.heap.size < yr.now.heap.size + 1 + 1 := (by omega)) | (go_at_call 96; (first | with_reducible refine (Calls.giv2 (cr _ bcl)).mono ?_ | with_reducible refine (Calls.giv (cr _ bcl)).mono ?_); rintro _ _ ⟨y1, rfl, rfl⟩; have sy1 := Ext.size y1; (repeat (first | rw [World.size_alloc] at sy1 | rw [World.size_setCell] at sy1 | rw [World.size_drew] at sy1)); have : w.heap.size < y1.now.heap.size := (by omega); have : w.heap.size ≤ y1.now.heap.size := (by omega); have : w.heap.size < y1.now.heap.size + 1 + 1 := (by omega)) | (go_at_call 97; (first | with_reducible refine (Calls.giv2 (ch _ bcl)).mono ?_ | with_reducible refine (Calls.giv (ch _ bcl)).mono ?_); rintro _ _ ⟨y2, rfl, rfl⟩; have sy2 := Ext.size y2; (repeat (first | rw [World.size_alloc] at sy2 | rw [World.size_setCell] at sy2 | rw [World.size_drew] at sy2)); have : w.heap.size < y2.now.heap.size := (by omega); have : w.heap.size ≤ y2.now.heap.size := (by omega); have : w.heap.size < y2.now.heap.size + 1 + 1 := (by omega)))
    all_goals go_returns
    all_goals refine ⟨rfl, ?_⟩
    repeat' (first | (with_reducible exact Below.refl _ _) | (with_reducible assumption) | (with_reducible refine Ext.below _ ?_ ?_) | (with_reducible refine Below.on ?_ (by with_reducible assumption) ?_) | (with_reducible refine Below.alloc ?_ ?_ _) | (with_reducible refine Below.drew ?_) | (with_reducible refine Below.setCell ?_ ?_ _) | (with_reducible exact Nat.le_refl _) | omega | (simp; done) | (simp [go_sem]; done) | (simp at *; omega))
end Go.Proofs.YtlmhbggigbmeaaaDoor
namespace Go.Proofs.YtlmhbggigbmeaaaDoor
open Go.RowKit Go.Shelf
attribute [local go_sem] Option.isSome_some Ext.cell Ext.frozen Ext.lt Ext.le Ext.lt_add Ext.le_add Ext.ne Ext.ne' lt2 lt3 lt4 lt5 le2 le3 le4
end Go.Proofs.YtlmhbggigbmeaaaDoor
namespace Go.Proofs.YtlmhbggigbmeaaaDoor
open Go.RowKit Go.Shelf
attribute [local go_sem] Ext.cell Ext.frozen Ext.lt Ext.le Ext.lt_add Ext.le_add Ext.ne Ext.ne' lt2 lt3 lt4 lt5 le2 le3 le4
/-- The corners of two spans, in their order; the least and the greatest of what comes of the first of them. -/
def corX (al ah : Int) (k : Nat) : Int := if k = 0 ∨ k = 3 then al else ah
def corY (bl bh : Int) (k : Nat) : Int := if k = 0 ∨ k = 1 then bl else bh
def dmin (d : Int → Int → Int) (al ah bl bh : Int) : Nat → Int
  | 0 => d al bl
  | k + 1 => if d (corX al ah k) (corY bl bh k) < dmin d al ah bl bh k then d (corX al ah k) (corY bl bh k) else dmin d al ah bl bh k
def dmax (d : Int → Int → Int) (al ah bl bh : Int) : Nat → Int
  | 0 => d al bl
  | k + 1 => if dmax d al ah bl bh k < d (corX al ah k) (corY bl bh k) then d (corX al ah k) (corY bl bh k) else dmax d al ah bl bh k
theorem dmin_lt {d : Int → Int → Int} {al ah bl bh : Int} {k : Nat} (h : d (corX al ah k) (corY bl bh k) < dmin d al ah bl bh k) : dmin d al ah bl bh (k + 1) = d (corX al ah k) (corY bl bh k) := by rw [dmin, if_pos h]
theorem dmin_ge {d : Int → Int → Int} {al ah bl bh : Int} {k : Nat} (h : ¬ d (corX al ah k) (corY bl bh k) < dmin d al ah bl bh k) : dmin d al ah bl bh (k + 1) = dmin d al ah bl bh k := by rw [dmin, if_neg h]
theorem dmax_lt {d : Int → Int → Int} {al ah bl bh : Int} {k : Nat} (h : dmax d al ah bl bh k < d (corX al ah k) (corY bl bh k)) : dmax d al ah bl bh (k + 1) = d (corX al ah k) (corY bl bh k) := by rw [dmax, if_pos h]
theorem dmax_ge {d : Int → Int → Int} {al ah bl bh : Int} {k : Nat} (h : ¬ dmax d al ah bl bh k < d (corX al ah k) (corY bl bh k)) : dmax d al ah bl bh (k + 1) = dmax d al ah bl bh k := by rw [dmax, if_neg h]
theorem corX_or (al ah : Int) (k : Nat) : corX al ah k = al ∨ corX al ah k = ah := by unfold corX; split <;> simp
theorem corY_or (bl bh : Int) (k : Nat) : corY bl bh k = bl ∨ corY bl bh k = bh := by unfold corY; split <;> simp
theorem cmp_neg (m n : Int) : cmpw (whi m) (wlo m) (whi n) (wlo n) < 0 ↔ m < n := by rw [cmpw_sgn]; unfold sgn; split <;> (try split) <;> omega
theorem cmp_pos (m n : Int) : 0 < cmpw (whi m) (wlo m) (whi n) (wlo n) ↔ n < m := by rw [cmpw_sgn]; unfold sgn; split <;> (try split) <;> omega
/-- The result of combine: its error; its ends. -/
def cmbE (d u : Int → Int → Int) (al ah bl bh : Int) : Int :=
  if chkB al ah bl bh = 0 then (if numB (dmin d al ah bl bh 4) && numB (dmax u al ah bl bh 4) then 0 else 14) else chkB al ah bl bh
def cmbL (d u : Int → Int → Int) (al ah bl bh : Int) : Int := if cmbE d u al ah bl bh = 0 then dmin d al ah bl bh 4 else 0
def cmbH (d u : Int → Int → Int) (al ah bl bh : Int) : Int := if cmbE d u al ah bl bh = 0 then dmax u al ah bl bh 4 else 0
end Go.Proofs.YtlmhbggigbmeaaaDoor
namespace Go.Proofs.YtlmhbggigbmeaaaDoor
open Go.RowKit Go.Shelf
attribute [local go_sem] Ext.cell Ext.frozen Ext.lt Ext.le Ext.lt_add Ext.le_add Ext.ne Ext.ne' lt2 lt3 lt4 lt5 le2 le3 le4
/-- The ends of a product, and its error. -/
def mulL (al ah bl bh : Int) : Int := cmbL (· * ·) (· * ·) al ah bl bh
def mulH (al ah bl bh : Int) : Int := cmbH (· * ·) (· * ·) al ah bl bh
def mulE (al ah bl bh : Int) : Int := cmbE (· * ·) (· * ·) al ah bl bh
end Go.Proofs.YtlmhbggigbmeaaaDoor
namespace Go.Proofs.YtlmhbggigbmeaaaDoor
open Go.RowKit Go.Shelf
attribute [local go_sem] Ext.cell Ext.frozen Ext.lt Ext.le Ext.lt_add Ext.le_add Ext.ne Ext.ne' lt2 lt3 lt4 lt5 le2 le3 le4
theorem ov_I64 {n c : Int} (h : c ≠ 0) : I64 (ovD n c) ∧ I64 (ovU n c) := by
  have c0 : 0 < ovC c := by unfold ovC; split <;> omega
  unfold ovD ovU I64
  split
  · rename_i hm
    have := upP_bounds hm c0
    omega
  · rename_i hm
    have := upP_bounds (n := -ovN n c) (by omega) c0
    omega
def quoE (a b c d : Int) : Int := if chkB a b c d = 0 then (if inB c d 0 = true then 2 else cmbE ovD ovU a b c d) else chkB a b c d
def quoL (a b c d : Int) : Int := if quoE a b c d = 0 then cmbL ovD ovU a b c d else 0
def quoH (a b c d : Int) : Int := if quoE a b c d = 0 then cmbH ovD ovU a b c d else 0
end Go.Proofs.YtlmhbggigbmeaaaDoor

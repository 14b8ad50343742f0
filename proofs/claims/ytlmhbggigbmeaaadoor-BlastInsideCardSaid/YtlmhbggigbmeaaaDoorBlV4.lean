/- The tolls of a rock with a fall at each cell of a stretch: contract of the program's tolls, where all is valid. Condition: air, grades and land in memory; the table of limits stands as it was laid. -/
import Derived.Test.YtlmhbggigbmeaaaDoorBlV3
import Derived.Test.YtlmhbggigbmeaaaDoorBlUpG
import Derived.Test.YtlmhbggigbmeaaaDoorBlLo
namespace Go.Proofs.YtlmhbggigbmeaaaDoor
open Go.RowKit Go.Shelf
attribute [local go_sem] Option.isSome_some Ext.cell Ext.frozen Ext.lt Ext.le Ext.lt_add Ext.le_add Ext.ne Ext.ne' lt2 lt3 lt4 lt5 le2 le3 le4
theorem span_info : (Tryd.prog.info? 29).map (fun i => (i.zero, i.size, i.bytes)) = some (some (.agg #[.int .i64 0, .int .i64 0]), 2, 16) := by kernel_rfl
/-- The tolls at some cells, one behind the other. -/
def SceneR.tollsL (s : SceneR) (L : List V3) (a : Int) : Nat → List V2
  | 0 => []
  | k + 1 => ⟨s.lows a L, s.highs a L⟩ :: s.tollsL L (a + 1) k
theorem blowsA_ok {l : List V2} {k : RockR} {f : FallR} (h : blowsE l k f = 0) : ∃ b r, v3s (blowsA l k f) = b :: r ∧ r.length ≤ 1000 ∧ ∀ u ∈ b :: r, V3Ok l.length u := by
  have ha : airE l = 0 := by
    unfold blowsE at h
    by_cases q : airE l = 0
    · exact q
    · rw [if_pos q] at h; exact absurd h q
  have hr : rockE k f = 0 := by
    unfold blowsE at h
    rwa [if_neg (by simpa using ha)] at h
  obtain ⟨hl, hair⟩ := air_ok ha
  have el := early_late hr
  have hsp := (rockE_ok hr).2.2.2.2.2.2.2.1
  have q1 := el.lt.speed
  have q2 := el.es.speed
  simp only [firstS, lastS] at q1 q2
  have w0 := Int.mul_nonneg (show 0 ≤ f.speed.x by omega) (show 0 ≤ f.speed.x by omega)
  have w1 := Int.mul_le_mul hsp hsp (show 0 ≤ f.speed.x by omega) (show 0 ≤ f.speed.y by omega)
  have hV : blowsA l k f = rblL (firstS k f) (lastS k f) l 0 (f.speed.y * f.speed.y) (f.speed.x * f.speed.x) := by
    unfold blowsA
    rw [if_pos h]
    exact thru_rbl el l 0 _ _ hair w0 w1
  have hne := rblL_ne (firstS k f) (lastS k f) l 0 (f.speed.y * f.speed.y) (f.speed.x * f.speed.x) (fun v hv => (hair v hv).2.1) w1 el hair w0
  have hok := rblL_ok hr l.length l 0 (f.speed.y * f.speed.y) (f.speed.x * f.speed.x) hair (by omega) w0 w1
  have hlen := blowsA_len k f (show l.length ≤ 40 by omega)
  rw [← hV] at hne hok
  generalize blowsA l k f = BL at *
  cases BL with
  | nil => simp at hne
  | cons b r =>
    refine ⟨_, _, rfl, by simp [v3s] at hlen ⊢; omega, fun u hu => ?_⟩
    have hu2 : u ∈ v3s (b :: r) := hu
    unfold v3s at hu2
    obtain ⟨c, hc, rfl⟩ := List.mem_map.1 hu2
    have := hok c hc
    exact ⟨by simp only; omega, by have := this.layer; simp only; omega, this.le⟩
/-- What is wrong with what a toll is asked of. -/
def tollE (l g : List V2) (x : LandR) (k : RockR) (f : FallR) (from' to' : Int) : Int := if blowsE l k f ≠ 0 then blowsE l k f else if sceneE g x ≠ 0 then sceneE g x else if ¬ ((0 ≤ from' ∧ from' < x.pl.length) ∧ (0 ≤ to' ∧ to' < x.pl.length)) then 7 else if to' < from' then 11 else 0
def TollsPost (w : World) (V : List V2) : Ending → World → Prop := fun e w' => ∃ v, e = .returned (.tuple #[v, .int .i64 0]) ∧ Below w.heap.size w w' ∧ w'.ownsRow w.heap.size 29 2 v V.length (vrows V)
set_option maxRecDepth 100000 in
set_option maxHeartbeats 8000000 in
theorem tolls_ok (lp : Option Addr) (lc : Nat) (l : List V2) (gp : Option Addr) (gc : Nat) (g : List V2) (x : LandR) (k : RockR) (f : FallR) (a m : Nat) (w : World) (hlim : LimAt w) (hl : VecsAt w lp l) (hg : VecsAt w gp g) (hx : x.At w) (hE : blowsE l k f = 0) (hS : sceneE g x = 0) (hm : a + m < x.pl.length) :
    Calls Tryd.prog 44 #[.slice lp l.length lc, .slice gp g.length gc, x.val, k.val, f.val, .int .i64 a, .int .i64 ((a : Int) + m)] w (TollsPost w (SceneR.tollsL ⟨lp, l.length, lc, gp, gc, g, x⟩ (v3s (blowsA l k f)) a (m + 1))) := by
  obtain ⟨b, r, hbr, hr1000, hbk⟩ := blowsA_ok hE
  obtain ⟨hgk, hxk⟩ := sceneE_ok hS
  have ha : airE l = 0 := by
    unfold blowsE at hE
    by_cases q : airE l = 0
    · exact q
    · rw [if_pos q] at hE; exact absurd hE q
  have h32 := (air_ok ha).1
  have hle := hxk.le
  have cbl := fun (W : World) (y : Below w.heap.size w W) => Blows_any lp lc l k f W (hlim.on y) (hl.on y)
  rw [hE] at cbl
  have c2 := fun (W : World) (y : Below w.heap.size w W) => checkScene_any gp gc g x W (hg.on y) (hx.on y)
  rw [hS] at c2
  have c3 := fun (W : World) => isCell_any x a W
  have c4 := fun (W : World) => isCell_any x ((a : Int) + m) W
  rw [decide_eq_true (show 0 ≤ (a : Int) ∧ (a : Int) < x.pl.length by omega)] at c3
  rw [decide_eq_true (show 0 ≤ (a : Int) + m ∧ (a : Int) + m < x.pl.length by omega)] at c4
  have hsok : SceneR.Ok ⟨lp, l.length, lc, gp, gc, g, x⟩ := ⟨h32, hgk, hxk⟩
  have hn400 : (a : Int) + m ≤ 400 := by omega
  unfold LandR.val RockR.val FallR.val at *
  clear ha
  go_enter Tryd.func44, Tryd.ntmps44
  go_upto_region 4 with (first | ((first | with_reducible refine wrx2 ?_ | with_reducible refine wrx ?_); (repeat (first | go_big_quiet_step ((first | fail)) | quiet_step ((first | fail)))); refine wpQuiet_nil ?_; rintro _ ⟨yr, rfl⟩; have syr := Ext.size yr; (repeat (first | rw [World.size_alloc] at syr | rw [World.size_setCell] at syr | rw [World.size_drew] at syr)); have : w.heap.size < yr.now.heap.size := (by omega); have : w.heap.size ≤ yr.now.heap.size := (by omega); have : w.heap.size < yr.now.heap.size + 1 + 1 := (by omega)) | (go_at_call 26; refine (cbl _ bcl).mono ?_; rintro _ W6 ⟨bv, rfl, hb6, hrows⟩; obtain ⟨q, cb, rfl, hv3⟩ := v3_of hrows; have hcap := owns_cap hrows))
  have hlb : (blowsA l k f).length = r.length + 1 := by
    have := congrArg List.length hbr
    simpa [v3s] using this
  rw [hlb] at hcap
  rw [hbr] at *
  obtain ⟨s, hsd⟩ : ∃ s : SceneR, (⟨lp, l.length, lc, gp, gc, g, x⟩ : SceneR) = s := ⟨_, rfl⟩
  have hn' : s.cells = #[.slice lp l.length lc, .slice gp g.length gc, .slice x.pp x.pl.length x.pc, .slice x.wp x.wl.length x.wc] := by rw [← hsd]; rfl
  rw [hsd] at hsok ⊢
  have hB6 : Below w.heap.size w W6 := by
    refine Below.trans ?_ (hb6.mono (by simp only [World.size_alloc]; omega))
    repeat' (first | (with_reducible exact Below.refl _ _) | (with_reducible assumption) | (with_reducible refine Ext.below _ ?_ ?_) | (with_reducible refine Below.on ?_ (by with_reducible assumption) ?_) | (with_reducible refine Below.alloc ?_ ?_ _) | (with_reducible refine Below.drew ?_) | (with_reducible refine Below.setCell ?_ ?_ _) | (with_reducible exact Nat.le_refl _) | omega | (simp; done) | (simp [go_sem]; done) | (simp at *; omega))
  have s6 := hb6.size
  simp only [World.size_alloc] at s6
  have a0 : W6.cell? ⟨w.heap.size, 0, none⟩ = some (.slice x.pp x.pl.length x.pc) := (hb6.cell (p := ⟨w.heap.size, 0, none⟩) (by simp only [World.size_alloc]; omega)).trans (by simp [go_sem])
  have a1 : W6.cell? ⟨w.heap.size, 1, none⟩ = some (.slice x.wp x.wl.length x.wc) := (hb6.cell (p := ⟨w.heap.size, 1, none⟩) (by simp only [World.size_alloc]; omega)).trans (by simp [go_sem])
  have l6 : w.heap.size < W6.heap.size := by omega
  have hsAt : s.At W6 := by rw [← hsd]; exact ⟨hg.on hB6, hx.on hB6⟩
  have hxl : s.x.pl.length = x.pl.length := by rw [← hsd]
  have hsn : s.n = l.length := by rw [← hsd]
  have c5 := fun (i : Nat) (hi : i ≤ m) (W : World) (y : Below W6.heap.size W6 W) => sceneToll_any s ((a : Int) + i) q cb b r W (hsAt.on y) hsok (hv3.on y) (by rw [hsn]; exact hbk) hr1000 hcap (by omega) (by rw [hxl]; omega)
  rw [hn'] at c5
  obtain ⟨V, hV⟩ : ∃ V, s.tollsL (b :: r) a (m + 1) = V := ⟨_, rfl⟩
  rw [hV]
  have hV0 := Go.Lib.hid (show (⟨lp, l.length, lc, gp, gc, g, x⟩ : SceneR).tollsL (b :: r) a (m + 1) = V by rw [hsd]; exact hV)
  replace hV := Go.Lib.hid hV
  replace c5 := Go.Lib.hid c5
  clear hb6 s6 hrows hv3 hsAt hsok hbk hsd hn' cbl hE hS hgk hxk hlim hbr
  go_upto_region 13 with (first | ((first | with_reducible refine wrx2 ?_ | with_reducible refine wrx ?_); (repeat (first | go_big_quiet_step ((first | (go_at_call 62; with_reducible exact Calls.ext (c2 _ bcl)) | (go_at_call 59; with_reducible exact Calls.ext (c3 _)) | (go_at_call 59; with_reducible exact Calls.ext (c4 _)))) | quiet_step ((first | (go_at_call 62; with_reducible exact Calls.ext (c2 _ bcl)) | (go_at_call 59; with_reducible exact Calls.ext (c3 _)) | (go_at_call 59; with_reducible exact Calls.ext (c4 _)))))); refine wpQuiet_nil ?_; rintro _ ⟨yr, rfl⟩; have syr := Ext.size yr; (repeat (first | rw [World.size_alloc] at syr | rw [World.size_setCell] at syr | rw [World.size_drew] at syr)); have : w.heap.size < yr.now.heap.size := (by omega); have : w.heap.size ≤ yr.now.heap.size := (by omega); have : w.heap.size < yr.now.heap.size + 1 + 1 := (by omega)) | (go_at_call 62; (first | with_reducible refine (Calls.giv2 (c2 _ bcl)).mono ?_ | with_reducible refine (Calls.giv (c2 _ bcl)).mono ?_); rintro _ _ ⟨y1, rfl, rfl⟩; have sy1 := Ext.size y1; (repeat (first | rw [World.size_alloc] at sy1 | rw [World.size_setCell] at sy1 | rw [World.size_drew] at sy1)); have : w.heap.size < y1.now.heap.size := (by omega); have : w.heap.size ≤ y1.now.heap.size := (by omega); have : w.heap.size < y1.now.heap.size + 1 + 1 := (by omega)) | (go_at_call 59; (first | with_reducible refine (Calls.giv2 (c3 _)).mono ?_ | with_reducible refine (Calls.giv (c3 _)).mono ?_); rintro _ _ ⟨y2, rfl, rfl⟩; have sy2 := Ext.size y2; (repeat (first | rw [World.size_alloc] at sy2 | rw [World.size_setCell] at sy2 | rw [World.size_drew] at sy2)); have : w.heap.size < y2.now.heap.size := (by omega); have : w.heap.size ≤ y2.now.heap.size := (by omega); have : w.heap.size < y2.now.heap.size + 1 + 1 := (by omega)) | (go_at_call 59; (first | with_reducible refine (Calls.giv2 (c4 _)).mono ?_ | with_reducible refine (Calls.giv (c4 _)).mono ?_); rintro _ _ ⟨y3, rfl, rfl⟩; have sy3 := Ext.size y3; (repeat (first | rw [World.size_alloc] at sy3 | rw [World.size_setCell] at sy3 | rw [World.size_drew] at sy3)); have : w.heap.size < y3.now.heap.size := (by omega); have : w.heap.size ≤ y3.now.heap.size := (by omega); have : w.heap.size < y3.now.heap.size + 1 + 1 := (by omega)))
  refine wp_named (fun W0 hW => ?_)
  have hB0 : Below W6.heap.size W6 W0 := by rw [← hW]; repeat' (first | (with_reducible exact Below.refl _ _) | (with_reducible assumption) | (with_reducible refine Ext.below _ ?_ ?_) | (with_reducible refine Below.on ?_ (by with_reducible assumption) ?_) | (with_reducible refine Below.alloc ?_ ?_ _) | (with_reducible refine Below.drew ?_) | (with_reducible refine Below.setCell ?_ ?_ _) | (with_reducible exact Nat.le_refl _) | omega | (simp; done) | (simp [go_sem]; done) | (simp at *; omega))
  clear hW
  have s0 := hB0.size
  replace a0 := (hB0.cell (p := ⟨w.heap.size, 0, none⟩) l6).trans a0
  replace a1 := (hB0.cell (p := ⟨w.heap.size, 1, none⟩) l6).trans a1
  have l0 : w.heap.size < W0.heap.size := by omega
  have hBw : Below w.heap.size w W0 := hB6.trans (hB0.mono (by omega))
  obtain ⟨i0, hi0, hz0, hz1, hz2⟩ := info_parts span_info
  go_loopw [19, 20] (fun v t W => ∃ (i : Nat) (vv : Value) (pre : List V2) (X : World), v = vv ∧ t = .int .i64 ((a : Int) + i) ∧ X = W ∧ Hid (Below W0.heap.size W0 X) ∧ Hid (X.ownsRow W0.heap.size 29 2 vv pre.length (vrows pre)) ∧ Hid (i ≤ m + 1 ∧ pre.length = i ∧ pre ++ s.tollsL (b :: r) ((a : Int) + i) (m + 1 - i) = V)) (fun _ t _ => a + m + 1 - (intOf t).toNat)
  case atStart => exact ⟨0, _, [], W0, rfl, by simp, rfl, Go.Lib.hid (Below.refl _ _), Go.Lib.hid (World.ownsRow_nil _ _ _ _), Go.Lib.hid ⟨Nat.zero_le _, rfl, by simpa using hV.out⟩⟩
  case round =>
    obtain ⟨i, vv, pre, X, rfl, rfl, rfl, hX, hown, hi⟩ := hrel
    obtain ⟨h1, h2, hE⟩ := hi.out
    have sX := hX.out.size
    obtain ⟨pv, cv, rfl⟩ := owns_form hown.out
    clear hi
    have x0 := (hX.out.cell (p := ⟨w.heap.size, 0, none⟩) l0).trans a0
    have x1 := (hX.out.cell (p := ⟨w.heap.size, 1, none⟩) l0).trans a1
    have lX : w.heap.size < X.heap.size := by omega
    by_cases hlt : i ≤ m
    · have hlt2 : (a : Int) + i ≤ (a : Int) + m := by omega
      have c6 := fun (W : World) (y : Below X.heap.size X W) => c5.out i hlt W (hB0.trans ((hX.out.trans (y.mono sX)).mono s0))
      rw [show m + 1 - i = (m - i) + 1 by omega, SceneR.tollsL] at hE
      have key : Hid (i + 1 ≤ m + 1 ∧ (pre ++ [(⟨s.lows ((a : Int) + i) (b :: r), s.highs ((a : Int) + i) (b :: r)⟩ : V2)]).length = i + 1 ∧ (pre ++ [(⟨s.lows ((a : Int) + i) (b :: r), s.highs ((a : Int) + i) (b :: r)⟩ : V2)]) ++ s.tollsL (b :: r) ((a : Int) + ((i + 1 : Nat) : Int)) (m + 1 - (i + 1)) = V) := Go.Lib.hid ⟨by omega, by simp; omega, by rw [show m + 1 - (i + 1) = m - i by omega, ← hE, show (a : Int) + ((i + 1 : Nat) : Int) = (a : Int) + i + 1 by omega]; simp⟩
      clear hE
      generalize s.lows ((a : Int) + i) (b :: r) = lo at *
      generalize s.highs ((a : Int) + i) (b :: r) = hh at *
      have hi4 : (a : Int) + i ≤ 400 := by omega
      have hpre : pre.length ≤ 1000 := by omega
      clear h2
      go_wp2_with (first | ((first | with_reducible refine wrx2 ?_ | with_reducible refine wrx ?_); (repeat (first | go_big_quiet_step ((first | (go_at_call 69; with_reducible exact Calls.ext (c6 _ bcl)))) | quiet_step ((first | (go_at_call 69; with_reducible exact Calls.ext (c6 _ bcl)))))); refine wpQuiet_nil ?_; rintro _ ⟨yr, rfl⟩; have syr := Ext.size yr; (repeat (first | rw [World.size_alloc] at syr | rw [World.size_setCell] at syr | rw [World.size_drew] at syr)); have : w.heap.size < yr.now.heap.size := (by omega); have : w.heap.size ≤ yr.now.heap.size := (by omega); have : w.heap.size < yr.now.heap.size + 1 + 1 := (by omega)) | (go_at_call 69; (first | with_reducible refine (Calls.giv2 (c6 _ bcl)).mono ?_ | with_reducible refine (Calls.giv (c6 _ bcl)).mono ?_); rintro _ _ ⟨y1, rfl, rfl⟩; have sy1 := Ext.size y1; (repeat (first | rw [World.size_alloc] at sy1 | rw [World.size_setCell] at sy1 | rw [World.size_drew] at sy1)); have : w.heap.size < y1.now.heap.size := (by omega); have : w.heap.size ≤ y1.now.heap.size := (by omega); have : w.heap.size < y1.now.heap.size + 1 + 1 := (by omega)) | (at_builtin; refine wpList_append_own _ rfl _ _ 94 rfl W0.heap.size 29 i0 _ 2 16 Tryd.underlying94 hi0 hz0 hz1 hz2 rfl (by decide) _ pre.length (vrows pre) rfl (by repeat (first | exact hown.out | (with_reducible refine World.ownsRow.alloc ?_ _) | (with_reducible refine World.ownsRow.drew ?_) | (with_reducible refine owns_ext ?_ _))) _ 1 1 _ rfl rfl (cells2_new _ _ _ _) (by intro u hu; simp only [List.mem_cons, List.not_mem_nil, or_false] at hu; rcases hu with rfl | rfl <;> rfl) (by unfold maxLen; omega) (by omega) (by (try simp only [World.size_alloc]); omega) ?_; intro v' W2 hown' hgrow _; obtain ⟨p6, c6', rfl⟩ := owns_form hown'; have hbel : Below W0.heap.size X W2 := (by refine below_grown (e := 29) (size := 2) (n := pre.length) (xs := vrows pre) ?_ (by repeat (first | exact hown.out | (with_reducible refine World.ownsRow.alloc ?_ _) | (with_reducible refine World.ownsRow.drew ?_) | (with_reducible refine owns_ext ?_ _))) (Nat.le_refl _) (by (try simp only [World.size_alloc]); omega) hgrow; repeat' (first | (with_reducible exact Below.refl _ _) | (with_reducible assumption) | (with_reducible refine Ext.below _ ?_ ?_) | (with_reducible refine Below.on ?_ (by with_reducible assumption) ?_) | (with_reducible refine Below.alloc ?_ ?_ _) | (with_reducible refine Below.drew ?_) | (with_reducible refine Below.setCell ?_ ?_ _) | (with_reducible exact Nat.le_refl _) | omega | (simp; done) | (simp [go_sem]; done) | (simp at *; omega)))))
      have ho2 : W2.ownsRow W0.heap.size 29 2 (.slice p6 (pre.length + 1) c6') (pre ++ [(⟨lo, hh⟩ : V2)]).length (vrows (pre ++ [(⟨lo, hh⟩ : V2)])) := by rw [vrows_add, List.length_append, List.length_singleton]; exact hown'
      exact ⟨⟨i + 1, _, pre ++ [⟨lo, hh⟩], W2, rfl, by simp; omega, rfl, Go.Lib.hid (hX.out.trans hbel), Go.Lib.hid ho2, key⟩, by simp [intOf]; omega⟩
    · have hge : ¬ (a : Int) + i ≤ (a : Int) + m := by omega
      rw [show m + 1 - i = 0 by omega, SceneR.tollsL, List.append_nil] at hE
      subst hE
      clear h2
      go_wp2_with (first | ((first | with_reducible refine wrx2 ?_ | with_reducible refine wrx ?_); (repeat (first | go_big_quiet_step ((first | fail)) | quiet_step ((first | fail)))); refine wpQuiet_nil ?_; rintro _ ⟨yr, rfl⟩; have syr := Ext.size yr; (repeat (first | rw [World.size_alloc] at syr | rw [World.size_setCell] at syr | rw [World.size_drew] at syr)); have : w.heap.size < yr.now.heap.size := (by omega); have : w.heap.size ≤ yr.now.heap.size := (by omega); have : w.heap.size < yr.now.heap.size + 1 + 1 := (by omega)))
      refine bodyPost_ret (v := .tuple #[.slice pv pre.length cv, .int .i64 0]) (by simp (maxDischargeDepth := 9) [results, Tryd.results44, go_sem, *]) rfl ?_
      exact ⟨_, rfl, hBw.trans (hX.out.mono hBw.size), by rw [hV0.out]; exact owns_base hown.out hBw.size⟩
end Go.Proofs.YtlmhbggigbmeaaaDoor

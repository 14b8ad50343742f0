/- Contract of Ends, for valid air and a valid stone. Condition: the table of limits stands as it was laid. For the reference's slowed: the way through a layer, rounded up, and what the factors of its loss are within. Condition: none; a valid stone and a valid layer. Contracts of first and last (the stones of a rock that bound all others), of sole and SoleRock. No condition. The first region of blowsOf's iterator: what holds between its operations, and what it leaves. Written by gen_sole.py. No condition. -/
import Derived.Test.YtlmhbggigbmeaaaDoorBlGrG
import Derived.Test.YtlmhbggigbmeaaaDoorBlMG
namespace Go.Proofs.YtlmhbggigbmeaaaDoor
open Go.RowKit Go.Shelf
attribute [local go_sem] Option.isSome_some Ext.cell Ext.frozen Ext.lt Ext.le Ext.lt_add Ext.le_add Ext.ne Ext.ne' lt2 lt3 lt4 lt5 le2 le3 le4
attribute [local go_sem] RExt.cell RExt.frozen RExt.lt RExt.le RExt.lt_add RExt.le_add RExt.ne RExt.ne'
theorem air_ok {l : List V2} (h : airE l = 0) : l.length ≤ 32 ∧ ∀ v ∈ l, (1 ≤ v.x ∧ v.x ≤ 1000) ∧ 0 ≤ v.y ∧ v.y ≤ 1000 := by
  unfold airE at h
  split at h
  · cases h
  · exact ⟨by omega, lysE_ok.1 h⟩
theorem airE_ok {l : List V2} (h1 : l.length ≤ 32) (h2 : ∀ v ∈ l, (1 ≤ v.x ∧ v.x ≤ 1000) ∧ 0 ≤ v.y ∧ v.y ≤ 1000) : airE l = 0 := by
  unfold airE
  rw [if_neg (by omega)]
  exact lysE_ok.2 h2
/-- One step of a fall, as the list has it. -/
theorem fall_step {l : List V2} {s : StoneR} {i : Nat} {wv : Int} (_hi : i ≤ l.length) : (goOn l s i wv).1 = true → (goOn l s i wv).2.1 = i + 1 ∧ i < l.length ∧ fallI (holdsV s) (kOf s) (dOf s) (l.drop i) i wv = fallI (holdsV s) (kOf s) (dOf s) (l.drop (i + 1)) ((i + 1 : Nat) : Int) (goOn l s i wv).2.2 := by
  unfold goOn
  by_cases h : i < l.length
  · rw [dif_pos h, drop_at h]
    cases hb : burstB s l[i].y wv
    · intro _
      refine ⟨rfl, h, ?_⟩
      unfold burstB at hb
      rw [decide_eq_false_iff_not] at hb
      simp only [Bool.false_eq_true, if_false]
      rw [fallI, if_neg hb]
      simp
    · intro e; simp at e
  · rw [dif_neg h]; intro e; cases e
theorem fall_stop {l : List V2} {s : StoneR} {i : Nat} {wv : Int} (_hi : i ≤ l.length) : (goOn l s i wv).1 = false → (goOn l s i wv).2 = (i, wv) ∧ fallI (holdsV s) (kOf s) (dOf s) (l.drop i) i wv = ((i : Int), wv) := by
  unfold goOn
  by_cases h : i < l.length
  · rw [dif_pos h, drop_at h]
    cases hb : burstB s l[i].y wv
    · intro e; simp at e
    · intro _
      refine ⟨by simp, ?_⟩
      unfold burstB at hb
      rw [decide_eq_true_eq] at hb
      rw [fallI, if_pos hb]
  · rw [dif_neg h, drop_end h]; intro _; exact ⟨rfl, rfl⟩
theorem goOn_w {l : List V2} {s : StoneR} {i : Nat} {wv : Int} (hs : s.Ok) (hair : ∀ v ∈ l, (1 ≤ v.x ∧ v.x ≤ 1000) ∧ 0 ≤ v.y ∧ v.y ≤ 1000) (hw : 0 ≤ wv ∧ wv ≤ 64000000) : 0 ≤ (goOn l s i wv).2.2 ∧ (goOn l s i wv).2.2 ≤ 64000000 := by
  unfold goOn
  by_cases h : i < l.length
  · rw [dif_pos h]
    split
    · exact hw
    · obtain ⟨hx, hy⟩ := hair l[i] (List.getElem_mem h)
      have := stp_le hw.1 (k_bounds hs hx hy).2.2 (show 0 < dOf s by have := (d_bounds hs).2; omega)
      exact ⟨stp_nonneg _ _ _, by simp only; omega⟩
  · rw [dif_neg h]; exact hw
set_option maxRecDepth 100000 in
set_option maxHeartbeats 16000000 in
theorem Ends_ok (p : Option Addr) (cap : Nat) (l : List V2) (s : StoneR) (w : World) (hlim : LimAt w) (hP : VecsAt w p l) (ha : airE l = 0) (hs : s.Ok) :
    Calls Tryd.prog 23 #[.slice p l.length cap, s.val] w (Gives (.tuple #[.int .i64 (endOf l s).1, .int .i64 (massV s * (endOf l s).2), .int .i64 0]) w) := by
  obtain ⟨hl, hair⟩ := air_ok ha
  have ca := fun (W : World) (y : Below w.heap.size w W) => CheckAir_any p cap l W (hP.on y)
  rw [ha] at ca
  have cs := fun (W : World) (y : LimAt W) => CheckStone_any s W y
  rw [show stoneE s = 0 by unfold stoneE; rw [if_pos (stoneB_ok.2 hs)]] at cs
  have cf := fun W => fallOf_any p cap l.length s W hs
  have hw0 : 0 ≤ s.speed * s.speed ∧ s.speed * s.speed ≤ 64000000 := by
    have a := hs.speed
    have b := Int.mul_nonneg (show 0 ≤ s.speed by omega) (show 0 ≤ s.speed by omega)
    have c := Int.mul_le_mul a.2 a.2 (by omega) (by omega)
    omega
  unfold endOf
  obtain ⟨V, hV⟩ : ∃ V, fallI (holdsV s) (kOf s) (dOf s) l 0 (s.speed * s.speed) = V := ⟨_, rfl⟩
  rw [hV]
  replace hV := Go.Lib.hid hV
  have hmf : ∀ (fn : Fn) (first cap : Array Value) (w : World), (Instr.makeFunc fn first cap).run Tryd.prog w = .ok (.func fn first cap) w := fun _ _ _ _ => rfl
  unfold StoneR.val StoneR.vals at cs cf ⊢
  generalize hw2 : s.speed * s.speed = w2 at *
  clear hw2
  replace hair := Go.Lib.hid hair
  replace hs := Go.Lib.hid hs
  replace hP := Go.Lib.hid hP
  replace hw0 := Go.Lib.hid hw0
  clear ha
  go_enter Tryd.func23, Tryd.ntmps23
  go_upto_region 9 with (first | ((first | with_reducible refine wrx2 ?_ | with_reducible refine wrx ?_); (repeat (first | go_big_quiet_step ((first | (go_at_call 48; with_reducible exact Calls.ext (ca _ bcl)) | (go_at_call 47; with_reducible exact Calls.ext (cs _ (by repeat (first | exact hlim | (with_reducible refine LimAt.ext ?_ _) | (with_reducible refine LimAt.alloc ?_ _) | (with_reducible refine LimAt.drew ?_) | (with_reducible refine LimAt.rext ?_ (by omega) _) | (with_reducible refine LimAt.set ?_ (by omega) _))))) | (go_at_call 49; with_reducible exact Calls.ext (cf _)))) | quiet_step ((first | (go_at_call 48; with_reducible exact Calls.ext (ca _ bcl)) | (go_at_call 47; with_reducible exact Calls.ext (cs _ (by repeat (first | exact hlim | (with_reducible refine LimAt.ext ?_ _) | (with_reducible refine LimAt.alloc ?_ _) | (with_reducible refine LimAt.drew ?_) | (with_reducible refine LimAt.rext ?_ (by omega) _) | (with_reducible refine LimAt.set ?_ (by omega) _))))) | (go_at_call 49; with_reducible exact Calls.ext (cf _)))))); refine wpQuiet_nil ?_; rintro _ ⟨yr, rfl⟩; have syr := Ext.size yr; (repeat (first | rw [World.size_alloc] at syr | rw [World.size_setCell] at syr | rw [World.size_drew] at syr))) | (go_at_call 48; (first | with_reducible refine (Calls.giv2 (ca _ bcl)).mono ?_ | with_reducible refine (Calls.giv (ca _ bcl)).mono ?_); rintro _ _ ⟨y1, rfl, rfl⟩; have sy1 := Ext.size y1; (repeat (first | rw [World.size_alloc] at sy1 | rw [World.size_setCell] at sy1 | rw [World.size_drew] at sy1))) | (go_at_call 47; (first | with_reducible refine (Calls.giv2 (cs _ (by repeat (first | exact hlim | (with_reducible refine LimAt.ext ?_ _) | (with_reducible refine LimAt.alloc ?_ _) | (with_reducible refine LimAt.drew ?_) | (with_reducible refine LimAt.rext ?_ (by omega) _) | (with_reducible refine LimAt.set ?_ (by omega) _))))).mono ?_ | with_reducible refine (Calls.giv (cs _ (by repeat (first | exact hlim | (with_reducible refine LimAt.ext ?_ _) | (with_reducible refine LimAt.alloc ?_ _) | (with_reducible refine LimAt.drew ?_) | (with_reducible refine LimAt.rext ?_ (by omega) _) | (with_reducible refine LimAt.set ?_ (by omega) _))))).mono ?_); rintro _ _ ⟨y2, rfl, rfl⟩; have sy2 := Ext.size y2; (repeat (first | rw [World.size_alloc] at sy2 | rw [World.size_setCell] at sy2 | rw [World.size_drew] at sy2))) | (go_at_call 49; (first | with_reducible refine (Calls.giv2 (cf _)).mono ?_ | with_reducible refine (Calls.giv (cf _)).mono ?_); rintro _ _ ⟨y3, rfl, rfl⟩; have sy3 := Ext.size y3; (repeat (first | rw [World.size_alloc] at sy3 | rw [World.size_setCell] at sy3 | rw [World.size_drew] at sy3))))
  refine wp_named (fun W0 hW => ?_)
  have hB0 : Below w.heap.size w W0 := by rw [← hW]; repeat' (first | (with_reducible exact Below.refl _ _) | (with_reducible assumption) | (with_reducible refine Ext.below _ ?_ ?_) | (with_reducible refine Below.on ?_ (by with_reducible assumption) ?_) | (with_reducible refine Below.alloc ?_ ?_ _) | (with_reducible refine Below.drew ?_) | (with_reducible refine Below.setCell ?_ ?_ _) | (with_reducible exact Nat.le_refl _) | omega | (simp; done) | (simp [go_sem]; done) | (simp at *; omega))
  have hF0 : FallAt W0 y3.now.heap.size p cap l s 0 w2 := ⟨by rw [← hW]; exact heap_alloc_new _ _, hP.out.on hB0⟩
  have hs0 : W0.heap.size = y3.now.heap.size + 1 := by rw [← hW]; simp
  have hfb : w.heap.size ≤ y3.now.heap.size := by omega
  clear hW
  generalize y3.now.heap.size = FB at *
  have hlF : 0 < FB := Nat.lt_of_lt_of_le hlim.lt hfb
  have hpB : ∀ A o, l.length ≠ 0 → p = some ⟨A, o, none⟩ → A ≠ FB := by
    intro A o h0 hp
    obtain ⟨B, q, e, hB, -⟩ := hP.out 0 (by omega)
    rw [hp] at e
    injection e with e
    injection e with e1
    omega
  replace hpB := Go.Lib.hid hpB
  have hlim0 := Go.Lib.hid (hlim.on hB0)
  clear hlim
  go_loopw [25] (fun _ W => ∃ (i : Nat) (wv : Int) (x : RExt W0 FB), W = x.now ∧ Hid (i ≤ l.length ∧ FallAt x.now FB p cap l s i wv ∧ (0 ≤ wv ∧ wv ≤ 64000000) ∧ fallI (holdsV s) (kOf s) (dOf s) (l.drop i) i wv = V)) (fun _ W => l.length - (intOf ((W.cell? ⟨FB, 9, none⟩).getD (.int .i64 0))).toNat)
  case atStart => exact ⟨0, w2, ⟨W0, BelowX.refl _ _ _⟩, rfl, Go.Lib.hid ⟨Nat.zero_le _, hF0, hw0.out, by simpa using hV.out⟩⟩
  case round =>
    obtain ⟨i, wv, x, rfl, hi⟩ := hrel
    have xs := x.size
    have hlx := hlim0.out.rext (show 0 ≠ FB by omega) x
    have cg := goesOn_any FB p cap l s i wv x.now hlx hlF hi.out.2.1 hi.out.1 hl hs.out hair.out hi.out.2.2.1 hpB.out
    have hk9 : (x.now.cell? ⟨FB, 9, none⟩) = some (.int .i64 i) := (cell_of_row _ _ 9 _ _ _ hi.out.2.1.1).trans rfl
    have hgw := Go.Lib.hid (goOn_w (l := l) (s := s) (i := i) (wv := wv) hs.out hair.out hi.out.2.2.1)
    cases hg : (goOn l s i wv).1
    · have h2 := fall_stop hi.out.1 hg
      have hr : goOn l s i wv = (false, i, wv) := Prod.ext hg h2.1
      rw [hr] at cg
      have eV : V = ((i : Int), wv) := by rw [← hi.out.2.2.2]; exact h2.2
      have ce := fun (W : World) (y1 : LimAt W) (y2 : FallAt W FB p cap l s i wv) => energy_any FB p cap l s i wv W y1 y2 hs.out hi.out.2.2.1
      clear h2 hg hgw hk9 hr
      subst eV
      go_wp2_with (first | ((first | with_reducible refine wrx2 ?_ | with_reducible refine wrx ?_); (repeat (first | go_big_quiet_step ((first | fail)) | quiet_step ((first | fail)))); refine wpQuiet_nil ?_; rintro _ ⟨yr, rfl⟩; have syr := Ext.size yr; (repeat (first | rw [World.size_alloc] at syr | rw [World.size_setCell] at syr | rw [World.size_drew] at syr))) | (go_at_call 50; refine cg.mono ?_; rintro _ _ ⟨y9, rfl, rfl, hf9⟩))
      have hfi := hi.out.2.2.1
      clear hi
      have l9 : LimAt y9.now := hlx.rext (show 0 ≠ FB by omega) y9
      have s9 := y9.size
      have j9 : y9.now.cell? ⟨FB, 9, none⟩ = some (.int .i64 i) := (cell_of_row _ _ 9 _ _ _ hf9.1).trans rfl
      have hFB9 : FB < y9.now.heap.size := by omega
      have hB9 : Below w.heap.size w y9.now := hB0.trans (((x.grew.trans (y9.grew.mono xs)).mono (by omega)).below (by omega))
      have ce2 := fun (W : World) (y : Below y9.now.heap.size y9.now W) => ce W (l9.on y) ⟨(y.block FB hFB9).trans hf9.1, hf9.2.on y⟩
      clear ce cg
      replace hf9 := Go.Lib.hid hf9
      generalize y9.now = W9 at *
      go_wp2_with (first | ((first | with_reducible refine wrx2 ?_ | with_reducible refine wrx ?_); (repeat (first | go_big_quiet_step ((first | (go_at_call 51; with_reducible exact Calls.ext (ce2 _ bcl)))) | quiet_step ((first | (go_at_call 51; with_reducible exact Calls.ext (ce2 _ bcl)))))); refine wpQuiet_nil ?_; rintro _ ⟨yr, rfl⟩; have syr := Ext.size yr; (repeat (first | rw [World.size_alloc] at syr | rw [World.size_setCell] at syr | rw [World.size_drew] at syr)); have : FB < yr.now.heap.size := (by omega); have : FB ≤ yr.now.heap.size := (by omega); have : FB < yr.now.heap.size + 1 + 1 := (by omega)) | (go_at_call 51; (first | with_reducible refine (Calls.giv2 (ce2 _ bcl)).mono ?_ | with_reducible refine (Calls.giv (ce2 _ bcl)).mono ?_); rintro _ _ ⟨y1, rfl, rfl⟩; have sy1 := Ext.size y1; (repeat (first | rw [World.size_alloc] at sy1 | rw [World.size_setCell] at sy1 | rw [World.size_drew] at sy1)); have : FB < y1.now.heap.size := (by omega); have : FB ≤ y1.now.heap.size := (by omega); have : FB < y1.now.heap.size + 1 + 1 := (by omega)))
      go_returns
      refine ⟨rfl, ?_⟩
      repeat' (first | (with_reducible exact Below.refl _ _) | (with_reducible assumption) | (with_reducible refine Ext.below _ ?_ ?_) | (with_reducible refine Below.on ?_ (by with_reducible assumption) ?_) | (with_reducible refine Below.alloc ?_ ?_ _) | (with_reducible refine Below.drew ?_) | (with_reducible refine Below.setCell ?_ ?_ _) | (with_reducible exact Nat.le_refl _) | omega | (simp; done) | (simp [go_sem]; done) | (simp at *; omega))
    · have h2 := fall_step hi.out.1 hg
      have key : Hid (i + 1 ≤ l.length ∧ (0 ≤ (goOn l s i wv).2.2 ∧ (goOn l s i wv).2.2 ≤ 64000000) ∧ fallI (holdsV s) (kOf s) (dOf s) (l.drop (i + 1)) ((i + 1 : Nat) : Int) (goOn l s i wv).2.2 = V) := Go.Lib.hid ⟨h2.2.1, hgw.out, by rw [← h2.2.2]; exact hi.out.2.2.2⟩
      obtain ⟨wn, hwn⟩ : ∃ wn, (goOn l s i wv).2.2 = wn := ⟨_, rfl⟩
      have hr : goOn l s i wv = (true, i + 1, wn) := Prod.ext hg (Prod.ext h2.1 hwn)
      rw [hr] at cg
      rw [hwn] at key
      have hlt : i < l.length := h2.2.1
      clear h2 hg hgw hi hr hwn
      go_wp2_with (first | ((first | with_reducible refine wrx2 ?_ | with_reducible refine wrx ?_); (repeat (first | go_big_quiet_step ((first | fail)) | quiet_step ((first | fail)))); refine wpQuiet_nil ?_; rintro _ ⟨yr, rfl⟩; have syr := Ext.size yr; (repeat (first | rw [World.size_alloc] at syr | rw [World.size_setCell] at syr | rw [World.size_drew] at syr))) | (go_at_call 50; refine cg.mono ?_; rintro _ _ ⟨y9, rfl, rfl, hf9⟩))
      have hk10 : (y9.now.cell? ⟨FB, 9, none⟩) = some (.int .i64 ((i + 1 : Nat) : Int)) := (cell_of_row _ _ 9 _ _ _ hf9.1).trans rfl
      refine ⟨⟨i + 1, _, ⟨y9.now, x.grew.trans (y9.grew.mono xs)⟩, rfl, Go.Lib.hid ⟨key.out.1, hf9, key.out.2.1, key.out.2.2⟩⟩, ?_⟩
      rw [hk10, hk9]
      simp only [Option.getD_some, intOf]
      omega
end Go.Proofs.YtlmhbggigbmeaaaDoor
namespace Go.Proofs.YtlmhbggigbmeaaaDoor
open Go.RowKit Go.Shelf
theorem cei_way {n c : Int} (hc : 0 < c) : (n + c - 1) / c = cei n c := by
  rw [cei_eq hc]
  have h1 := Int.emod_add_mul_ediv n c
  have h2 := Int.emod_nonneg n (b := c) (by omega)
  have h3 := Int.emod_lt_of_pos n hc
  generalize n / c = q at *
  generalize n % c = r at *
  have e1 : (q + 1) * c = c * q + c := by rw [Int.add_mul, Int.mul_comm q c, Int.one_mul]
  have e2 : (q + 1 + 1) * c = c * q + c + c := by rw [Int.add_mul, e1, Int.one_mul]
  have e3 : q * c = c * q := Int.mul_comm _ _
  generalize c * q = P at *
  split
  · exact Int.le_antisymm (Int.le_of_lt_add_one (Int.ediv_lt_of_lt_mul hc (by omega))) (Int.le_ediv_of_mul_le hc (by omega))
  · rw [Int.add_zero]
    exact Int.le_antisymm (Int.le_of_lt_add_one (Int.ediv_lt_of_lt_mul hc (by omega))) (Int.le_ediv_of_mul_le hc (by omega))
/-- What the reference multiplies and divides by in a layer. -/
theorem slow_parts {s : StoneR} {v : V2} {wv : Int} (hs : s.Ok) (hx : 1 ≤ v.x ∧ v.x ≤ 1000) (hy : 0 ≤ v.y ∧ v.y ≤ 1000) (hw : 0 ≤ wv ∧ wv ≤ 64000000) :
    (v.x * 1000 + s.slope - 1) / s.slope = cei (v.x * 1000) s.slope ∧ kOf s v = v.y * cei (v.x * 1000) s.slope * s.shape ∧ (0 ≤ v.y * cei (v.x * 1000) s.slope ∧ v.y * cei (v.x * 1000) s.slope ≤ 1000000000) ∧ (0 ≤ kOf s v ∧ kOf s v ≤ 2000000000000) ∧ cei (wv * kOf s v) (dOf s) ≤ 1152921504606846976 ∧ 0 ≤ wv * kOf s v / dOf s := by
  obtain ⟨-, e3, e4⟩ := lost_bounds hs hx hy hw
  obtain ⟨e5, e6⟩ := way_bounds hs hx
  obtain ⟨e7, e8, e9⟩ := k_bounds hs hx hy
  obtain ⟨-, d3, d4⟩ := d_bounds hs
  have sl := hs.slope
  rw [e3] at e4
  have kk : kOf s v ≤ 2000000000000 := by
    have h2 := Int.mul_le_mul hy.2 e8 e7 (by omega)
    have h3 : kOf s v = v.y * (cei (v.x * 1000) s.slope * s.shape) := rfl
    omega
  have b2 := Int.mul_le_mul hy.2 e6 e5 (by omega)
  exact ⟨cei_way (by omega), by unfold kOf; rw [Int.mul_assoc], ⟨Int.mul_nonneg hy.1 e5, by omega⟩, ⟨e9, kk⟩, e4, Int.ediv_nonneg (Int.mul_nonneg hw.1 e9) (by omega)⟩
end Go.Proofs.YtlmhbggigbmeaaaDoor
namespace Go.Proofs.YtlmhbggigbmeaaaDoor
open Go.RowKit Go.Shelf
attribute [local go_sem] Option.isSome_some Ext.cell Ext.frozen Ext.lt Ext.le Ext.lt_add Ext.le_add Ext.ne Ext.ne' lt2 lt3 lt4 lt5 le2 le3 le4
def firstS (k : RockR) (f : FallR) : StoneR := ⟨k.size.y, k.dens.y, k.strong.x, k.spin.y, k.shape.x, k.pile, f.speed.y, f.slope.y⟩
def lastS (k : RockR) (f : FallR) : StoneR := ⟨k.size.x, k.dens.x, k.strong.y, k.spin.x, k.shape.y, k.pile, f.speed.x, f.slope.x⟩
theorem first_any (k : RockR) (f : FallR) (w : World) : Calls Tryd.prog 80 #[k.val, f.val] w (Gives (firstS k f).val w) := by
  unfold RockR.val FallR.val StoneR.val StoneR.vals firstS
  go_enter Tryd.func80, Tryd.ntmps80
  go_wp2_with (first | ((first | with_reducible refine wrx2 ?_ | with_reducible refine wrx ?_); (repeat (first | go_big_quiet_step ((first | fail)) | quiet_step ((first | fail)))); refine wpQuiet_nil ?_; rintro _ ⟨yr, rfl⟩; have syr := Ext.size yr; (repeat (first | rw [World.size_alloc] at syr | rw [World.size_setCell] at syr | rw [World.size_drew] at syr))))
  refine bodyPost_ret (v := .agg #[.int .i64 k.size.y, .int .i64 k.dens.y, .int .i64 k.strong.x, .int .i64 k.spin.y, .int .i64 k.shape.x, .bool k.pile, .int .i64 f.speed.y, .int .i64 f.slope.y]) (by simp (maxDischargeDepth := 9) [results, Tryd.results80, go_sem]) rfl ?_
  refine ⟨rfl, ?_⟩
  repeat' (first | (with_reducible exact Below.refl _ _) | (with_reducible assumption) | (with_reducible refine Ext.below _ ?_ ?_) | (with_reducible refine Below.on ?_ (by with_reducible assumption) ?_) | (with_reducible refine Below.alloc ?_ ?_ _) | (with_reducible refine Below.drew ?_) | (with_reducible refine Below.setCell ?_ ?_ _) | (with_reducible exact Nat.le_refl _) | omega | (simp; done) | (simp [go_sem]; done) | (simp at *; omega))
theorem last_any (k : RockR) (f : FallR) (w : World) : Calls Tryd.prog 81 #[k.val, f.val] w (Gives (lastS k f).val w) := by
  unfold RockR.val FallR.val StoneR.val StoneR.vals lastS
  go_enter Tryd.func81, Tryd.ntmps81
  go_wp2_with (first | ((first | with_reducible refine wrx2 ?_ | with_reducible refine wrx ?_); (repeat (first | go_big_quiet_step ((first | fail)) | quiet_step ((first | fail)))); refine wpQuiet_nil ?_; rintro _ ⟨yr, rfl⟩; have syr := Ext.size yr; (repeat (first | rw [World.size_alloc] at syr | rw [World.size_setCell] at syr | rw [World.size_drew] at syr))))
  refine bodyPost_ret (v := .agg #[.int .i64 k.size.x, .int .i64 k.dens.x, .int .i64 k.strong.y, .int .i64 k.spin.x, .int .i64 k.shape.y, .bool k.pile, .int .i64 f.speed.x, .int .i64 f.slope.x]) (by simp (maxDischargeDepth := 9) [results, Tryd.results81, go_sem]) rfl ?_
  refine ⟨rfl, ?_⟩
  repeat' (first | (with_reducible exact Below.refl _ _) | (with_reducible assumption) | (with_reducible refine Ext.below _ ?_ ?_) | (with_reducible refine Below.on ?_ (by with_reducible assumption) ?_) | (with_reducible refine Below.alloc ?_ ?_ _) | (with_reducible refine Below.drew ?_) | (with_reducible refine Below.setCell ?_ ?_ _) | (with_reducible exact Nat.le_refl _) | omega | (simp; done) | (simp [go_sem]; done) | (simp at *; omega))
theorem sole_any (n : Int) (w : World) : Calls Tryd.prog 77 #[.int .i64 n] w (Gives (.agg #[.int .i64 n, .int .i64 n]) w) := by
  go_enter Tryd.func77, Tryd.ntmps77
  go_wp2_with (first | ((first | with_reducible refine wrx2 ?_ | with_reducible refine wrx ?_); (repeat (first | go_big_quiet_step ((first | fail)) | quiet_step ((first | fail)))); refine wpQuiet_nil ?_; rintro _ ⟨yr, rfl⟩; have syr := Ext.size yr; (repeat (first | rw [World.size_alloc] at syr | rw [World.size_setCell] at syr | rw [World.size_drew] at syr))))
  refine bodyPost_ret (v := .agg #[.int .i64 n, .int .i64 n]) (by simp (maxDischargeDepth := 9) [results, Tryd.results77, go_sem]) rfl ?_
  refine ⟨rfl, ?_⟩
  repeat' (first | (with_reducible exact Below.refl _ _) | (with_reducible assumption) | (with_reducible refine Ext.below _ ?_ ?_) | (with_reducible refine Below.on ?_ (by with_reducible assumption) ?_) | (with_reducible refine Below.alloc ?_ ?_ _) | (with_reducible refine Below.drew ?_) | (with_reducible refine Below.setCell ?_ ?_ _) | (with_reducible exact Nat.le_refl _) | omega | (simp; done) | (simp [go_sem]; done) | (simp at *; omega))
def soleK (s : StoneR) : RockR := ⟨⟨s.size, s.size⟩, ⟨s.dens, s.dens⟩, ⟨s.strong, s.strong⟩, ⟨s.spin, s.spin⟩, ⟨s.shape, s.shape⟩, s.pile⟩
def soleF (s : StoneR) : FallR := ⟨⟨s.speed, s.speed⟩, ⟨s.slope, s.slope⟩⟩
theorem first_sole (s : StoneR) : firstS (soleK s) (soleF s) = s ∧ lastS (soleK s) (soleF s) = s := ⟨rfl, rfl⟩
end Go.Proofs.YtlmhbggigbmeaaaDoor
namespace Go.Proofs.YtlmhbggigbmeaaaDoor
open Go.RowKit Go.Shelf
attribute [local go_sem] Option.isSome_some Ext.cell Ext.frozen Ext.lt Ext.le Ext.lt_add Ext.le_add Ext.ne Ext.ne' lt2 lt3 lt4 lt5 le2 le3 le4
theorem size_setRow2 (W : World) (g : Nat) (cs : Array Value) : (W.setRow g cs).heap.size = W.heap.size := by simp [World.setRow]
theorem below_row {n g : Nat} {w W : World} (h : Below n w W) (hg : n ≤ g) (cs : Array Value) : Below n w (W.setRow g cs) := below_setRow h hg cs
def blwDeps : List (List Nat) := [[], [], [], [1, 2], [0, 3], [], [], [], [6, 7, 4], [5, 8], [], [], [10, 4, 9], [11, 9, 12]]
def blwInv (k : RockR) (f : FallR) (s t : StoneR) (p : Option Addr) (cap n : Nat) (a0 : Act) (X : World) (l : List Bool) (fr : Act) (W : World) : Prop :=
  ∃ s5 s6 s8 s9 s10 s11 s12 s13 s14 s15 s16 s17 : Value, fr = sets a0 [(5, s5), (6, s6), (8, s8), (9, s9), (10, s10), (11, s11), (12, s12), (13, s13), (14, s14), (15, s15), (16, s16), (17, s17)] ∧ Below X.heap.size X W ∧
    (l.getD 10 false = true → l.getD 11 false = true → s5 ≠ s6) ∧
    (l.getD 12 false = true → l.getD 10 false = true) ∧
    (l.getD 13 false = true → l.getD 11 false = true) ∧
    (l.getD 0 false = true → s8 = .slice p n cap) ∧
    (l.getD 1 false = true → s9 = .agg #[.int .i64 k.size.x, .int .i64 k.size.y, .int .i64 k.dens.x, .int .i64 k.dens.y, .int .i64 k.strong.x, .int .i64 k.strong.y, .int .i64 k.spin.x, .int .i64 k.spin.y, .int .i64 k.shape.x, .int .i64 k.shape.y, .bool k.pile]) ∧
    (l.getD 2 false = true → s10 = .agg #[.int .i64 f.speed.x, .int .i64 f.speed.y, .int .i64 f.slope.x, .int .i64 f.slope.y]) ∧
    (l.getD 3 false = true → s11 = .agg #[.int .i64 s.size, .int .i64 s.dens, .int .i64 s.strong, .int .i64 s.spin, .int .i64 s.shape, .bool s.pile, .int .i64 s.speed, .int .i64 s.slope]) ∧
    (l.getD 4 false = true → s12 = .agg #[.slice p n cap, .int .i64 s.size, .int .i64 s.dens, .int .i64 s.strong, .int .i64 s.spin, .int .i64 s.shape, .bool s.pile, .int .i64 s.speed, .int .i64 s.slope, .int .i64 0, .int .i64 (s.speed * s.speed)]) ∧
    (l.getD 5 false = true → s13 = .slice p n cap) ∧
    (l.getD 6 false = true → s14 = .agg #[.int .i64 k.size.x, .int .i64 k.size.y, .int .i64 k.dens.x, .int .i64 k.dens.y, .int .i64 k.strong.x, .int .i64 k.strong.y, .int .i64 k.spin.x, .int .i64 k.spin.y, .int .i64 k.shape.x, .int .i64 k.shape.y, .bool k.pile]) ∧
    (l.getD 7 false = true → s15 = .agg #[.int .i64 f.speed.x, .int .i64 f.speed.y, .int .i64 f.slope.x, .int .i64 f.slope.y]) ∧
    (l.getD 8 false = true → s16 = .agg #[.int .i64 t.size, .int .i64 t.dens, .int .i64 t.strong, .int .i64 t.spin, .int .i64 t.shape, .bool t.pile, .int .i64 t.speed, .int .i64 t.slope]) ∧
    (l.getD 9 false = true → s17 = .agg #[.slice p n cap, .int .i64 t.size, .int .i64 t.dens, .int .i64 t.strong, .int .i64 t.spin, .int .i64 t.shape, .bool t.pile, .int .i64 t.speed, .int .i64 t.slope, .int .i64 0, .int .i64 (t.speed * t.speed)]) ∧
    (l.getD 10 false = true → ∃ g : Nat, s5 = .pointer (some ⟨g, 0, none⟩) ∧ X.heap.size ≤ g ∧ g < W.heap.size ∧ (l.getD 12 false = false → W.heap[g]? = some (.cells #[.slice none 0 0, .int .i64 0, .int .i64 0, .int .i64 0, .int .i64 0, .int .i64 0, .bool false, .int .i64 0, .int .i64 0, .int .i64 0, .int .i64 0] 103 (0, 0))) ∧ (l.getD 12 false = true → W.heap[g]? = some (.cells #[.slice p n cap, .int .i64 s.size, .int .i64 s.dens, .int .i64 s.strong, .int .i64 s.spin, .int .i64 s.shape, .bool s.pile, .int .i64 s.speed, .int .i64 s.slope, .int .i64 0, .int .i64 (s.speed * s.speed)] 103 (0, 0)))) ∧
    (l.getD 11 false = true → ∃ g : Nat, s6 = .pointer (some ⟨g, 0, none⟩) ∧ X.heap.size ≤ g ∧ g < W.heap.size ∧ (l.getD 13 false = false → W.heap[g]? = some (.cells #[.slice none 0 0, .int .i64 0, .int .i64 0, .int .i64 0, .int .i64 0, .int .i64 0, .bool false, .int .i64 0, .int .i64 0, .int .i64 0, .int .i64 0] 103 (0, 0))) ∧ (l.getD 13 false = true → W.heap[g]? = some (.cells #[.slice p n cap, .int .i64 t.size, .int .i64 t.dens, .int .i64 t.strong, .int .i64 t.spin, .int .i64 t.shape, .bool t.pile, .int .i64 t.speed, .int .i64 t.slope, .int .i64 0, .int .i64 (t.speed * t.speed)] 103 (0, 0))))
def blwTold (s t : StoneR) (p : Option Addr) (cap n : Nat) : Act → World → Act → World → Prop := fun a X a' W => ∃ (g h : Nat), a' = sets a [(5, .pointer (some ⟨g, 0, none⟩)), (6, .pointer (some ⟨h, 0, none⟩)), (8, a'.tmps.getD 8 undef), (9, a'.tmps.getD 9 undef), (10, a'.tmps.getD 10 undef), (11, a'.tmps.getD 11 undef), (12, a'.tmps.getD 12 undef), (13, a'.tmps.getD 13 undef), (14, a'.tmps.getD 14 undef), (15, a'.tmps.getD 15 undef), (16, a'.tmps.getD 16 undef), (17, a'.tmps.getD 17 undef)] ∧ Below X.heap.size X W ∧ X.heap.size ≤ g ∧ X.heap.size ≤ h ∧ g ≠ h ∧ g < W.heap.size ∧ h < W.heap.size ∧ W.heap[g]? = some (.cells #[.slice p n cap, .int .i64 s.size, .int .i64 s.dens, .int .i64 s.strong, .int .i64 s.spin, .int .i64 s.shape, .bool s.pile, .int .i64 s.speed, .int .i64 s.slope, .int .i64 0, .int .i64 (s.speed * s.speed)] 103 (0, 0)) ∧ W.heap[h]? = some (.cells #[.slice p n cap, .int .i64 t.size, .int .i64 t.dens, .int .i64 t.strong, .int .i64 t.spin, .int .i64 t.shape, .bool t.pile, .int .i64 t.speed, .int .i64 t.slope, .int .i64 0, .int .i64 (t.speed * t.speed)] 103 (0, 0))
end Go.Proofs.YtlmhbggigbmeaaaDoor

/- The toll of a rock with a fall on a stretch, for any arguments: contract of the program's Toll. Condition: air, grades and land in memory; the table of limits stands as it was laid. The reference's toll as mathematics: what it keeps while it goes through cells and blows, and that this is the least, the greatest and the first worst of the tolls. No condition. -/
import Derived.Test.YtlmhbggigbmeaaaDoorBlV6
namespace Go.Proofs.YtlmhbggigbmeaaaDoor
open Go.RowKit Go.Shelf
attribute [local go_sem] Option.isSome_some Ext.cell Ext.frozen Ext.lt Ext.le Ext.lt_add Ext.le_add Ext.ne Ext.ne' lt2 lt3 lt4 lt5 le2 le3 le4
/-- The least and the greatest of spans. -/
def minsF : Int → List V2 → Int
  | m, [] => m
  | m, v :: r => minsF (min m v.x) r
def maxsF : Int → List V2 → Int
  | m, [] => m
  | m, v :: r => maxsF (max m v.y) r
def minsV : List V2 → Int
  | [] => 0
  | v :: r => minsF v.x r
def maxsV : List V2 → Int
  | [] => 0
  | v :: r => maxsF v.y r
structure SpanOk (v : V2) : Prop where
  p : 0 ≤ v.x
  le : v.x ≤ v.y
  b : v.y ≤ 1717986918400
theorem foldF_ok (s : SceneR) {a : Int} (hok : s.Ok) (h0 : 0 ≤ a) (h1 : a < s.x.pl.length) : ∀ (r : List V3) (m h : Int), (∀ u ∈ r, V3Ok s.n u) → 0 ≤ m → m ≤ h → h ≤ 1717986918400 → 0 ≤ s.lowsF a m r ∧ s.lowsF a m r ≤ s.highsF a h r ∧ s.highsF a h r ≤ 1717986918400
  | [], m, h, _, q0, q1, q2 => ⟨q0, q1, q2⟩
  | b :: r, m, h, hb, q0, q1, q2 => by
    have hq := s.bounds hok h0 h1 (hb b (by simp))
    rw [SceneR.lowsF, SceneR.highsF]
    exact foldF_ok s hok h0 h1 r _ _ (fun u hu => hb u (by simp [hu])) (by omega) (by omega) (by omega)
theorem tollsL_ok (s : SceneR) (hok : s.Ok) (b : V3) (r : List V3) (hb : ∀ u ∈ b :: r, V3Ok s.n u) : ∀ (n : Nat) (a : Int), 0 ≤ a → a + n ≤ s.x.pl.length → ∀ v ∈ s.tollsL (b :: r) a n, SpanOk v
  | 0, _, _, _ => by intro v hv; cases hv
  | n + 1, a, h0, h1 => by
    intro v hv
    rw [SceneR.tollsL] at hv
    rcases List.mem_cons.1 hv with rfl | hv
    · have hq := s.bounds hok h0 (by omega) (hb b (by simp))
      obtain ⟨e1, e2, e3⟩ := foldF_ok s hok h0 (by omega) r _ _ (fun u hu => hb u (by simp [hu])) hq.1 hq.2.1 hq.2.2
      exact ⟨e1, e2, e3⟩
    · exact tollsL_ok s hok b r hb n (a + 1) (by omega) (by omega) v hv
theorem tollsV_ok {l g : List V2} {x : LandR} {k : RockR} {f : FallR} {a b : Int} (h : tollE l g x k f a b = 0) : ∃ v r, tollsV l g x k f a b = v :: r ∧ r.length ≤ 400 ∧ ∀ u ∈ v :: r, SpanOk u := by
  obtain ⟨hE, hS, h0, h1, h2⟩ := tollE_in h
  obtain ⟨hgk, hxk⟩ := sceneE_ok hS
  obtain ⟨c, q, hbr, -, hbk⟩ := blowsA_ok hE
  have ha : airE l = 0 := by
    unfold blowsE at hE
    by_cases q : airE l = 0
    · exact q
    · rw [if_pos q] at hE; exact absurd hE q
  have hle := hxk.le
  have hok := tollsL_ok ⟨none, l.length, 0, none, 0, g, x⟩ ⟨(air_ok ha).1, hgk, hxk⟩ c q hbk ((b - a).toNat + 1) a h0 (by simp only; omega)
  have hlen := tollsL_len ⟨none, l.length, 0, none, 0, g, x⟩ (c :: q) ((b - a).toNat + 1) a
  unfold tollsV
  rw [if_pos h, hbr]
  generalize SceneR.tollsL ⟨none, l.length, 0, none, 0, g, x⟩ (c :: q) a ((b - a).toNat + 1) = T at *
  cases T with
  | nil => simp at hlen
  | cons v r => exact ⟨v, r, rfl, by simp at hlen; omega, hok⟩
set_option maxRecDepth 100000 in
set_option maxHeartbeats 8000000 in
theorem Toll_any (lp : Option Addr) (lc : Nat) (l : List V2) (gp : Option Addr) (gc : Nat) (g : List V2) (x : LandR) (k : RockR) (f : FallR) (a b : Int) (w : World) (hlim : LimAt w) (hl : VecsAt w lp l) (hg : VecsAt w gp g) (hx : x.At w) :
    Calls Tryd.prog 16 #[.slice lp l.length lc, .slice gp g.length gc, x.val, k.val, f.val, .int .i64 a, .int .i64 b] w (Gives (.tuple #[.agg #[.int .i64 (minsV (tollsV l g x k f a b)), .int .i64 (maxsV (tollsV l g x k f a b))], .int .i64 (tollE l g x k f a b)]) w) := by
  have ct := fun (W : World) (y : Below w.heap.size w W) => tolls_any lp lc l gp gc g x k f a b W (hlim.on y) (hl.on y) (hg.on y) (hx.on y)
  by_cases hE : tollE l g x k f a b = 0
  · obtain ⟨v, r, hvr, hr, hok⟩ := tollsV_ok hE
    rw [hE, hvr] at ct
    rw [hE, hvr, minsV, maxsV]
    obtain ⟨V1, hV1⟩ : ∃ V, minsF v.x r = V := ⟨_, rfl⟩
    obtain ⟨V2', hV2⟩ : ∃ V, maxsF v.y r = V := ⟨_, rfl⟩
    rw [hV1, hV2]
    replace hV1 := Go.Lib.hid hV1
    replace hV2 := Go.Lib.hid hV2
    have hv0 := hok v (by simp)
    replace hok := Go.Lib.hid hok
    unfold LandR.val RockR.val FallR.val at *
    clear hl hg hx hE hlim hvr
    go_enter Tryd.func16, Tryd.ntmps16
    go_upto_region 2 with (first | ((first | with_reducible refine wrx2 ?_ | with_reducible refine wrx ?_); (repeat (first | go_big_quiet_step ((first | fail)) | quiet_step ((first | fail)))); refine wpQuiet_nil ?_; rintro _ ⟨yr, rfl⟩; have syr := Ext.size yr; (repeat (first | rw [World.size_alloc] at syr | rw [World.size_setCell] at syr | rw [World.size_drew] at syr)); have : w.heap.size < yr.now.heap.size := (by omega); have : w.heap.size ≤ yr.now.heap.size := (by omega); have : w.heap.size < yr.now.heap.size + 1 + 1 := (by omega)) | (go_at_call 44; refine (ct _ bcl).mono ?_; rintro _ W6 ⟨tv, rfl, hb6, hrows⟩; obtain ⟨q, cb, rfl, hv, -⟩ := vecs_of hrows; have hcap := owns_cap hrows))
    have hB6 : Below w.heap.size w W6 := by
      refine Below.trans ?_ (hb6.mono (by simp only [World.size_alloc]; omega))
      repeat' (first | (with_reducible exact Below.refl _ _) | (with_reducible assumption) | (with_reducible refine Ext.below _ ?_ ?_) | (with_reducible refine Below.on ?_ (by with_reducible assumption) ?_) | (with_reducible refine Below.alloc ?_ ?_ _) | (with_reducible refine Below.drew ?_) | (with_reducible refine Below.setCell ?_ ?_ _) | (with_reducible exact Nat.le_refl _) | omega | (simp; done) | (simp [go_sem]; done) | (simp at *; omega))
    have rR : W6.heap[w.heap.size + 1 + 1 + 1]? = some (.cells #[.int .i64 0, .int .i64 0] 29 (0, 0)) := (hb6.block _ (by simp only [World.size_alloc]; omega)).trans (by
      have := heap_alloc_new (((w.alloc (.cells #[.slice x.pp x.pl.length x.pc, .slice x.wp x.wl.length x.wc] 27)).alloc (.cells #[.int .i64 k.size.x, .int .i64 k.size.y, .int .i64 k.dens.x, .int .i64 k.dens.y, .int .i64 k.strong.x, .int .i64 k.strong.y, .int .i64 k.spin.x, .int .i64 k.spin.y, .int .i64 k.shape.x, .int .i64 k.shape.y, .bool k.pile] 31)).alloc (.cells #[.int .i64 f.speed.x, .int .i64 f.speed.y, .int .i64 f.slope.x, .int .i64 f.slope.y] 33)) (.cells #[.int .i64 0, .int .i64 0] 29)
      simpa only [World.size_alloc] using this)
    have sB6 := hB6.size
    have lR : w.heap.size + 1 + 1 + 1 < W6.heap.size := row_lt rR
    have hvB : ∀ j (h : j < (v :: r).length), ∃ B o, q = some ⟨B, o, none⟩ ∧ B < W6.heap.size ∧ B ≠ w.heap.size + 1 + 1 + 1 ∧ W6.cell? ⟨B, o + j * 2, none⟩ = some (.int .i64 (v :: r)[j].x) ∧ W6.cell? ⟨B, o + j * 2 + 1, none⟩ = some (.int .i64 (v :: r)[j].y) := fun j h => by
      obtain ⟨B, o, e, h1, h2, h3⟩ := hv j h
      refine ⟨B, o, e, h1, fun e2 => ?_, h2, h3⟩
      rcases owns_slice hrows with ⟨e3, -⟩ | ⟨G, cc, e3, hG, -⟩
      · rw [e] at e3; cases e3
      · rw [e] at e3
        have e4 := (Value.slice.inj e3).1
        simp only [Option.some.injEq, Addr.mk.injEq] at e4
        simp only [World.size_alloc] at hG
        omega
    obtain ⟨B, o, rfl, hB, hBR, d0, d1⟩ := hvB 0 (by simp)
    simp only [List.getElem_cons_zero, Nat.zero_mul, Nat.add_zero] at d0 d1
    simp only [List.length_cons] at hcap
    have hn1 : (r.length : Int) + 1 ≤ cb := by omega
    have hn2 : (r.length : Int) ≤ 400 := by omega
    replace rR := Go.Lib.hid rR
    replace hvB := Go.Lib.hid hvB
    clear hb6 hrows hv ct
    go_upto_region 6 with (first | ((first | with_reducible refine wrx2 ?_ | with_reducible refine wrx ?_); (repeat (first | go_big_quiet_step ((first | fail)) | quiet_step ((first | fail)))); refine wpQuiet_nil ?_; rintro _ ⟨yr, rfl⟩; have syr := Ext.size yr; (repeat (first | rw [World.size_alloc] at syr | rw [World.size_setCell] at syr | rw [World.size_drew] at syr)); have : B < yr.now.heap.size := (by omega); have : B ≤ yr.now.heap.size := (by omega); have : B < yr.now.heap.size + 1 + 1 := (by omega)))
    all_goals
      refine wp_named (fun W0 hW => ?_)
      obtain ⟨TB, hTB⟩ : ∃ n, W6.heap.size = n := ⟨_, rfl⟩
      have rT : W0.heap[TB]? = some (.cells #[.int .i64 v.x, .int .i64 v.y] 29 (0, 0)) := by rw [← hW, ← hTB]; exact heap_alloc_new _ _
      have hB2 : Below W6.heap.size W6 W0 := by rw [← hW]; exact (Below.refl _ _).alloc (Nat.le_refl _) _
      have lT : TB < W0.heap.size := row_lt rT
      have lR0 : w.heap.size + 1 + 1 + 1 < TB := by rw [← hTB]; exact lR
      have lBT : B < TB := by rw [← hTB]; exact hB
      have hBw : Below w.heap.size w W0 := hB6.trans (hB2.mono sB6)
      have hwT : w.heap.size ≤ TB := by omega
      replace rR := Go.Lib.hid ((hB2.block _ lR).trans rR.out)
      rw [hTB] at hB2
      replace hvB := Go.Lib.hid (fun j h => by
        obtain ⟨B', o', e, h1, h2, h3, h4⟩ := hvB.out j h
        exact (⟨B', o', e, (show B' < TB by rw [← hTB]; exact h1), h2, (hB2.cell (p := ⟨B', o' + j * 2, none⟩) (show B' < TB by rw [← hTB]; exact h1)).trans h3, (hB2.cell (p := ⟨B', o' + j * 2 + 1, none⟩) (show B' < TB by rw [← hTB]; exact h1)).trans h4⟩ : ∃ B2 o2, some (⟨B, o, none⟩ : Addr) = some ⟨B2, o2, none⟩ ∧ B2 < TB ∧ B2 ≠ w.heap.size + 1 + 1 + 1 ∧ W0.cell? ⟨B2, o2 + j * 2, none⟩ = some (.int .i64 (v :: r)[j].x) ∧ W0.cell? ⟨B2, o2 + j * 2 + 1, none⟩ = some (.int .i64 (v :: r)[j].y)))
      rw [hTB]
      clear hW hTB hB2 hB6 d0 d1
      replace rT := Go.Lib.hid rT
      go_loopw [42] (fun t W => ∃ (i : Nat) (m h : Int) (X : World), t = .int .i64 i ∧ X = W ∧ Hid (BelowX TB W0.heap.size W0 X) ∧ Hid (X.heap[TB]? = some (.cells #[.int .i64 m, .int .i64 h] 29 (0, 0))) ∧ Hid (i ≤ r.length ∧ (0 ≤ m ∧ m ≤ h ∧ h ≤ 1717986918400) ∧ minsF m (r.drop i) = V1 ∧ maxsF h (r.drop i) = V2')) (fun t _ => r.length - (intOf t).toNat)
      case atStart => exact ⟨0, v.x, v.y, W0, rfl, rfl, Go.Lib.hid (BelowX.refl _ _ _), rT, Go.Lib.hid ⟨Nat.zero_le _, ⟨hv0.p, hv0.le, hv0.b⟩, by simpa using hV1.out, by simpa using hV2.out⟩⟩
      case round =>
        obtain ⟨i, m, h, X, rfl, rfl, hX, hT, hi⟩ := hrel
        obtain ⟨hil, hmh, hE1, hE2⟩ := hi.out
        have sX := hX.out.size
        have t0 : X.cell? ⟨TB, 0, none⟩ = some (.int .i64 m) := (cell_of_row X _ 0 _ _ _ hT.out).trans rfl
        have t1 : X.cell? ⟨TB, 1, none⟩ = some (.int .i64 h) := (cell_of_row X _ 1 _ _ _ hT.out).trans rfl
        have xT : TB < X.heap.size := by omega
        clear hi
        by_cases hlt : i < r.length
        · have hlt2 : (i : Int) < r.length := by omega
          obtain ⟨B', o', e', hB', hBn, d0, d1⟩ := hvB.out (i + 1) (by simp; omega)
          injection e' with e'
          injection e' with e1 e2
          subst e1 e2
          simp only [List.getElem_cons_succ] at d0 d1
          replace d0 := (hX.out.cell (by omega) (by omega)).trans d0
          replace d1 := (hX.out.cell (by omega) (by omega)).trans d1
          rw [show o + (i + 1) * 2 = o + 2 + i * 2 by omega] at d0 d1
          have hbq := hok.out r[i] (by simp)
          rw [drop_at hlt, minsF] at hE1
          rw [drop_at hlt, maxsF] at hE2
          have ck := chkB_nums hmh.1 hmh.2.1 hmh.2.2 hbq.p hbq.le hbq.b
          have c2 := fun W => Hull_any m h r[i].x r[i].y W
          unfold hullL hullH at c2
          simp only [ck, if_true] at c2
          have key : Hid (i + 1 ≤ r.length ∧ (0 ≤ min m r[i].x ∧ min m r[i].x ≤ max h r[i].y ∧ max h r[i].y ≤ 1717986918400) ∧ minsF (min m r[i].x) (r.drop (i + 1)) = V1 ∧ maxsF (max h r[i].y) (r.drop (i + 1)) = V2') := by
            have q1 := hbq.p
            have q2 := hbq.le
            have q3 := hbq.b
            exact Go.Lib.hid ⟨hlt, by omega, hE1, hE2⟩
          obtain ⟨mn, hmn⟩ : ∃ z, min m r[i].x = z := ⟨_, rfl⟩
          obtain ⟨mx, hmx⟩ : ∃ z, max h r[i].y = z := ⟨_, rfl⟩
          rw [hmn, hmx] at key
          simp only [hmn, hmx] at c2
          have z0 : X.frozen? ⟨TB, 0, none⟩ = false := frozen_row hT.out
          have z1 : X.frozen? ⟨TB, 1, none⟩ = false := frozen_row hT.out
          clear hE1 hE2 hbq hmn hmx ck
          generalize r[i].x = lo at *
          generalize r[i].y = hh at *
          have xB : B < X.heap.size := by omega
          go_upto_region 8 with (first | ((first | with_reducible refine wrx2 ?_ | with_reducible refine wrx ?_); (repeat (first | go_big_quiet_step ((first | fail)) | quiet_step ((first | fail)))); refine wpQuiet_nil ?_; rintro _ ⟨yr, rfl⟩; have syr := Ext.size yr; (repeat (first | rw [World.size_alloc] at syr | rw [World.size_setCell] at syr | rw [World.size_drew] at syr)); have : TB < yr.now.heap.size := (by omega); have : TB ≤ yr.now.heap.size := (by omega); have : TB < yr.now.heap.size + 1 + 1 := (by omega); have : B < yr.now.heap.size := (by omega); have : B ≤ yr.now.heap.size := (by omega); have : B < yr.now.heap.size + 1 + 1 := (by omega)))
          all_goals
            refine wp_named (fun Y hY => ?_)
            have hXY : Below X.heap.size X Y := by rw [← hY]; repeat' (first | (with_reducible exact Below.refl _ _) | (with_reducible assumption) | (with_reducible refine Ext.below _ ?_ ?_) | (with_reducible refine Below.on ?_ (by with_reducible assumption) ?_) | (with_reducible refine Below.alloc ?_ ?_ _) | (with_reducible refine Below.drew ?_) | (with_reducible refine Below.setCell ?_ ?_ _) | (with_reducible exact Nat.le_refl _) | omega | (simp; done) | (simp [go_sem]; done) | (simp at *; omega))
            have e0 : Y.cell? ⟨X.heap.size, 0, none⟩ = some (.int .i64 lo) := by rw [← hY]; simp [go_sem]
            have e1 : Y.cell? ⟨X.heap.size, 1, none⟩ = some (.int .i64 hh) := by rw [← hY]; simp [go_sem]
            have lY : X.heap.size < Y.heap.size := by rw [← hY]; simp
            clear hY
            have lTY : TB < Y.heap.size := by omega
            replace t0 := (hXY.cell (p := ⟨TB, 0, none⟩) xT).trans t0
            replace t1 := (hXY.cell (p := ⟨TB, 1, none⟩) xT).trans t1
            replace z0 := (hXY.frozen (p := ⟨TB, 0, none⟩) xT).trans z0
            replace z1 := (hXY.frozen (p := ⟨TB, 1, none⟩) xT).trans z1
            go_upto_region 9 with (first | ((first | with_reducible refine wrx2 ?_ | with_reducible refine wrx ?_); (repeat (first | go_big_quiet_step ((first | (go_at_call 45; with_reducible exact Calls.ext (c2 _)))) | quiet_step ((first | (go_at_call 45; with_reducible exact Calls.ext (c2 _)))))); refine wpQuiet_nil ?_; rintro _ ⟨yr, rfl⟩; have syr := Ext.size yr; (repeat (first | rw [World.size_alloc] at syr | rw [World.size_setCell] at syr | rw [World.size_drew] at syr)); have : TB < yr.now.heap.size := (by omega); have : TB ≤ yr.now.heap.size := (by omega); have : TB < yr.now.heap.size + 1 + 1 := (by omega)) | (go_at_call 45; (first | with_reducible refine (Calls.giv2 (c2 _)).mono ?_ | with_reducible refine (Calls.giv (c2 _)).mono ?_); rintro _ _ ⟨y1, rfl, rfl⟩; have sy1 := Ext.size y1; (repeat (first | rw [World.size_alloc] at sy1 | rw [World.size_setCell] at sy1 | rw [World.size_drew] at sy1)); have : TB < y1.now.heap.size := (by omega); have : TB ≤ y1.now.heap.size := (by omega); have : TB < y1.now.heap.size + 1 + 1 := (by omega)))
            have hYX : Below X.heap.size X y1.now := hXY.trans (y1.grew.mono hXY.size)
            have hX2 : BelowX TB W0.heap.size W0 y1.now := hX.out.trans (.of (hYX.mono sX))
            have hX3 := belowX_put hX2 (.int .i64 mn) (.int .i64 mx)
            have hR3 := boxp_put ((hYX.block TB xT).trans hT.out) (.int .i64 mn) (.int .i64 mx)
            generalize (y1.now.setCell ⟨TB, 0, none⟩ (.int .i64 mn)).setCell ⟨TB, 1, none⟩ (.int .i64 mx) = W5 at *
            go_wp2_with (first | ((first | with_reducible refine wrx2 ?_ | with_reducible refine wrx ?_); (repeat (first | go_big_quiet_step ((first | fail)) | quiet_step ((first | fail)))); refine wpQuiet_nil ?_; rintro _ ⟨yr, rfl⟩; have syr := Ext.size yr; (repeat (first | rw [World.size_alloc] at syr | rw [World.size_setCell] at syr | rw [World.size_drew] at syr))))
            exact ⟨⟨i + 1, mn, mx, W5, by simp, rfl, Go.Lib.hid hX3, Go.Lib.hid hR3, key⟩, by simp [intOf]; omega⟩
        · have hge : ¬ (i : Int) < r.length := by omega
          rw [List.drop_of_length_le (by omega), minsF] at hE1
          rw [List.drop_of_length_le (by omega), maxsF] at hE2
          subst hE1 hE2
          have rX := (hX.out.block (w.heap.size + 1 + 1 + 1) (by omega) (by omega)).trans rR.out
          have q0 : X.cell? ⟨w.heap.size + 1 + 1 + 1, 0, none⟩ = some (.int .i64 0) := (cell_of_row X _ 0 _ _ _ rX).trans rfl
          have q1 : X.cell? ⟨w.heap.size + 1 + 1 + 1, 1, none⟩ = some (.int .i64 0) := (cell_of_row X _ 1 _ _ _ rX).trans rfl
          have q2 : X.frozen? ⟨w.heap.size + 1 + 1 + 1, 0, none⟩ = false := frozen_row rX
          have q3 : X.frozen? ⟨w.heap.size + 1 + 1 + 1, 1, none⟩ = false := frozen_row rX
          have lRX : w.heap.size + 1 + 1 + 1 < X.heap.size := by omega
          have hXB : Below w.heap.size w X := hBw.trans ((hX.out.mono hBw.size).below (by omega))
          go_wp2_with (first | ((first | with_reducible refine wrx2 ?_ | with_reducible refine wrx ?_); (repeat (first | go_big_quiet_step ((first | fail)) | quiet_step ((first | fail)))); refine wpQuiet_nil ?_; rintro _ ⟨yr, rfl⟩; have syr := Ext.size yr; (repeat (first | rw [World.size_alloc] at syr | rw [World.size_setCell] at syr | rw [World.size_drew] at syr)); have : TB < yr.now.heap.size := (by omega); have : TB ≤ yr.now.heap.size := (by omega); have : TB < yr.now.heap.size + 1 + 1 := (by omega)))
          refine bodyPost_ret (v := .tuple #[.agg #[.int .i64 m, .int .i64 h], .int .i64 0]) (by simp (maxDischargeDepth := 9) [results, Tryd.results16, go_sem, q0, q1]) rfl ?_
          refine ⟨rfl, ?_⟩
          repeat' (first | (with_reducible exact Below.refl _ _) | (with_reducible assumption) | (with_reducible refine Ext.below _ ?_ ?_) | (with_reducible refine Below.on ?_ (by with_reducible assumption) ?_) | (with_reducible refine Below.alloc ?_ ?_ _) | (with_reducible refine Below.drew ?_) | (with_reducible refine Below.setCell ?_ ?_ _) | (with_reducible exact Nat.le_refl _) | omega | (simp; done) | (simp [go_sem]; done) | (simp at *; omega))
  · have hV : tollsV l g x k f a b = [] := by unfold tollsV; rw [if_neg hE]
    rw [hV] at ct
    rw [hV, minsV, maxsV]
    unfold LandR.val RockR.val FallR.val at *
    generalize tollE l g x k f a b = E at *
    clear hl hg hx hV hlim
    go_enter Tryd.func16, Tryd.ntmps16
    go_upto_region 2 with (first | ((first | with_reducible refine wrx2 ?_ | with_reducible refine wrx ?_); (repeat (first | go_big_quiet_step ((first | fail)) | quiet_step ((first | fail)))); refine wpQuiet_nil ?_; rintro _ ⟨yr, rfl⟩; have syr := Ext.size yr; (repeat (first | rw [World.size_alloc] at syr | rw [World.size_setCell] at syr | rw [World.size_drew] at syr)); have : w.heap.size < yr.now.heap.size := (by omega); have : w.heap.size ≤ yr.now.heap.size := (by omega); have : w.heap.size < yr.now.heap.size + 1 + 1 := (by omega)) | (go_at_call 44; refine (ct _ bcl).mono ?_; rintro _ W6 ⟨tv, rfl, hb6, hrows⟩; obtain ⟨q, cb, rfl, hv, -⟩ := vecs_of hrows))
    have hB6 : Below w.heap.size w W6 := by
      refine Below.trans ?_ (hb6.mono (by simp only [World.size_alloc]; omega))
      repeat' (first | (with_reducible exact Below.refl _ _) | (with_reducible assumption) | (with_reducible refine Ext.below _ ?_ ?_) | (with_reducible refine Below.on ?_ (by with_reducible assumption) ?_) | (with_reducible refine Below.alloc ?_ ?_ _) | (with_reducible refine Below.drew ?_) | (with_reducible refine Below.setCell ?_ ?_ _) | (with_reducible exact Nat.le_refl _) | omega | (simp; done) | (simp [go_sem]; done) | (simp at *; omega))
    have rR : W6.heap[w.heap.size + 1 + 1 + 1]? = some (.cells #[.int .i64 0, .int .i64 0] 29 (0, 0)) := (hb6.block _ (by simp only [World.size_alloc]; omega)).trans (by
      have := heap_alloc_new (((w.alloc (.cells #[.slice x.pp x.pl.length x.pc, .slice x.wp x.wl.length x.wc] 27)).alloc (.cells #[.int .i64 k.size.x, .int .i64 k.size.y, .int .i64 k.dens.x, .int .i64 k.dens.y, .int .i64 k.strong.x, .int .i64 k.strong.y, .int .i64 k.spin.x, .int .i64 k.spin.y, .int .i64 k.shape.x, .int .i64 k.shape.y, .bool k.pile] 31)).alloc (.cells #[.int .i64 f.speed.x, .int .i64 f.speed.y, .int .i64 f.slope.x, .int .i64 f.slope.y] 33)) (.cells #[.int .i64 0, .int .i64 0] 29)
      simpa only [World.size_alloc] using this)
    have sB6 := hB6.size
    have lR : w.heap.size + 1 + 1 + 1 < W6.heap.size := row_lt rR
    have q0 : W6.cell? ⟨w.heap.size + 1 + 1 + 1, 0, none⟩ = some (.int .i64 0) := (cell_of_row W6 _ 0 _ _ _ rR).trans rfl
    have q1 : W6.cell? ⟨w.heap.size + 1 + 1 + 1, 1, none⟩ = some (.int .i64 0) := (cell_of_row W6 _ 1 _ _ _ rR).trans rfl
    have q2 : W6.frozen? ⟨w.heap.size + 1 + 1 + 1, 0, none⟩ = false := frozen_row rR
    have q3 : W6.frozen? ⟨w.heap.size + 1 + 1 + 1, 1, none⟩ = false := frozen_row rR
    clear hb6 hrows hv ct rR
    go_wp2_with (first | ((first | with_reducible refine wrx2 ?_ | with_reducible refine wrx ?_); (repeat (first | go_big_quiet_step ((first | fail)) | quiet_step ((first | fail)))); refine wpQuiet_nil ?_; rintro _ ⟨yr, rfl⟩; have syr := Ext.size yr; (repeat (first | rw [World.size_alloc] at syr | rw [World.size_setCell] at syr | rw [World.size_drew] at syr))))
    refine bodyPost_ret (v := .tuple #[.agg #[.int .i64 0, .int .i64 0], .int .i64 E]) (by simp (maxDischargeDepth := 9) [results, Tryd.results16, go_sem, q0, q1]) rfl ?_
    refine ⟨rfl, ?_⟩
    repeat' (first | (with_reducible exact Below.refl _ _) | (with_reducible assumption) | (with_reducible refine Ext.below _ ?_ ?_) | (with_reducible refine Below.on ?_ (by with_reducible assumption) ?_) | (with_reducible refine Below.alloc ?_ ?_ _) | (with_reducible refine Below.drew ?_) | (with_reducible refine Below.setCell ?_ ?_ _) | (with_reducible exact Nat.le_refl _) | omega | (simp; done) | (simp [go_sem]; done) | (simp at *; omega))
end Go.Proofs.YtlmhbggigbmeaaaDoor
namespace Go.Proofs.YtlmhbggigbmeaaaDoor
open Go.RowKit Go.Shelf
/-- What the reference's toll keeps. -/
structure TollSt where
  lo : Int
  hi : Int
  worst : Int
  first : Bool
def TollSt.next (st : TollSt) (s : SceneR) (a : Int) (b : V3) : TollSt := ⟨if st.first = true ∨ s.lo a b < st.lo then s.lo a b else st.lo, if st.first = true ∨ st.hi < s.hi a b then s.hi a b else st.hi, if st.first = true ∨ st.hi < s.hi a b then a else st.worst, false⟩
def TollSt.blows (s : SceneR) (a : Int) : TollSt → List V3 → TollSt
  | st, [] => st
  | st, b :: r => TollSt.blows s a (st.next s a b) r
/-- After so many cells. -/
def TollSt.cells (s : SceneR) (L : List V3) (a : Int) : Nat → TollSt
  | 0 => ⟨0, 0, a, true⟩
  | n + 1 => TollSt.blows s (a + n) (TollSt.cells s L a n) L
theorem blows_later (s : SceneR) (a : Int) : ∀ (r : List V3) (m h w : Int), TollSt.blows s a ⟨m, h, w, false⟩ r = ⟨s.lowsF a m r, s.highsF a h r, if h < s.highsF a h r then a else w, false⟩
  | [], m, h, w => by simp [TollSt.blows, SceneR.lowsF, SceneR.highsF]
  | b :: r, m, h, w => by
    have hge : ∀ (r : List V3) (k : Int), k ≤ s.highsF a k r := by
      intro r
      induction r with
      | nil => intro k; exact Int.le_refl _
      | cons c r ih => intro k; rw [SceneR.highsF]; have := ih (max k (s.hi a c)); omega
    rw [TollSt.blows, SceneR.lowsF, SceneR.highsF]
    have e1 : (TollSt.mk m h w false).next s a b = ⟨min m (s.lo a b), max h (s.hi a b), if h < s.hi a b then a else w, false⟩ := by
      unfold TollSt.next
      simp only [Bool.false_eq_true, false_or]
      congr 1
      · split <;> omega
      · split <;> omega
    rw [e1, blows_later s a r]
    have h1 := hge r (max h (s.hi a b))
    congr 1
    by_cases q : h < s.hi a b
    · rw [if_pos q, if_pos (show h < s.highsF a (max h (s.hi a b)) r by omega)]
      split <;> rfl
    · rw [if_neg q, show max h (s.hi a b) = h by omega]
theorem blows_first (s : SceneR) (a : Int) (b : V3) (r : List V3) (m h w : Int) : TollSt.blows s a ⟨m, h, w, true⟩ (b :: r) = ⟨s.lows a (b :: r), s.highs a (b :: r), a, false⟩ := by
  rw [TollSt.blows, SceneR.lows, SceneR.highs]
  have e1 : (TollSt.mk m h w true).next s a b = ⟨s.lo a b, s.hi a b, a, false⟩ := by
    unfold TollSt.next
    simp
  rw [e1, blows_later]
  congr 1
  split <;> rfl
theorem lowsF_min (s : SceneR) (a : Int) : ∀ (r : List V3) (m k : Int), s.lowsF a (min m k) r = min m (s.lowsF a k r)
  | [], m, k => rfl
  | b :: r, m, k => by
    rw [SceneR.lowsF, SceneR.lowsF, ← lowsF_min s a r m (min k (s.lo a b))]
    congr 1
    omega
theorem highsF_max (s : SceneR) (a : Int) : ∀ (r : List V3) (m k : Int), s.highsF a (max m k) r = max m (s.highsF a k r)
  | [], m, k => rfl
  | b :: r, m, k => by
    rw [SceneR.highsF, SceneR.highsF, ← highsF_max s a r m (max k (s.hi a b))]
    congr 1
    omega
theorem minsF_add : ∀ (l : List V2) (m : Int) (v : V2), minsF m (l ++ [v]) = min (minsF m l) v.x
  | [], _, _ => rfl
  | u :: l, m, v => by rw [List.cons_append, minsF, minsF, minsF_add l]
theorem maxsF_add : ∀ (l : List V2) (m : Int) (v : V2), maxsF m (l ++ [v]) = max (maxsF m l) v.y
  | [], _, _ => rfl
  | u :: l, m, v => by rw [List.cons_append, maxsF, maxsF, maxsF_add l]
theorem bestI_pre (l : List V2) (v : V2) : ∀ n, n ≤ l.length → bestI (l ++ [v]) n = bestI l n
  | 0, _ => rfl
  | n + 1, h => by
    have hb := bestI_le l n
    rw [bestI, bestI, bestI_pre l v n (by omega)]
    have g : ∀ k, k < l.length → (l ++ [v]).getD k ⟨0, 0⟩ = l.getD k ⟨0, 0⟩ := fun k hk => by simp [List.getD, List.getElem?_append_left hk]
    rw [g n (by omega), g _ (by omega)]
theorem tollsL_add (s : SceneR) (L : List V3) : ∀ (n : Nat) (a : Int), s.tollsL L a (n + 1) = s.tollsL L a n ++ [⟨s.lows (a + n) L, s.highs (a + n) L⟩]
  | 0, a => by simp [SceneR.tollsL]
  | n + 1, a => by
    rw [SceneR.tollsL, tollsL_add s L n (a + 1)]
    rw [show s.tollsL L a (n + 1) = ⟨s.lows a L, s.highs a L⟩ :: s.tollsL L (a + 1) n from rfl, List.cons_append, show a + 1 + (n : Int) = a + ((n + 1 : Nat) : Int) by omega]
theorem cells_toll (s : SceneR) (b : V3) (r : List V3) (a : Int) : ∀ n : Nat, TollSt.cells s (b :: r) a (n + 1) = ⟨minsV (s.tollsL (b :: r) a (n + 1)), maxsV (s.tollsL (b :: r) a (n + 1)), a + bestI (s.tollsL (b :: r) a (n + 1)) (n + 1), false⟩ ∧ ((s.tollsL (b :: r) a (n + 1)).getD (bestI (s.tollsL (b :: r) a (n + 1)) (n + 1)) ⟨0, 0⟩).y = maxsV (s.tollsL (b :: r) a (n + 1))
  | 0 => by
    rw [TollSt.cells, TollSt.cells, blows_first]
    simp [SceneR.tollsL, minsV, maxsV, minsF, maxsF, bestI]
  | n + 1 => by
    obtain ⟨i1, i2⟩ := cells_toll s b r a n
    have hlen := tollsL_len s (b :: r) (n + 1) a
    rw [TollSt.cells, i1, blows_later, tollsL_add s (b :: r) (n + 1) a]
    generalize s.tollsL (b :: r) a (n + 1) = T at *
    have hb := bestI_lt T (by omega) (n + 1) (by omega)
    have hl : s.lowsF (a + ((n + 1 : Nat) : Int)) (minsV T) (b :: r) = min (minsV T) (s.lows (a + ((n + 1 : Nat) : Int)) (b :: r)) := by
      rw [SceneR.lowsF, SceneR.lows, ← lowsF_min]
    have hh : s.highsF (a + ((n + 1 : Nat) : Int)) (maxsV T) (b :: r) = max (maxsV T) (s.highs (a + ((n + 1 : Nat) : Int)) (b :: r)) := by
      rw [SceneR.highsF, SceneR.highs, ← highsF_max]
    rw [hl, hh]
    generalize s.lows (a + ((n + 1 : Nat) : Int)) (b :: r) = lo at *
    generalize s.highs (a + ((n + 1 : Nat) : Int)) (b :: r) = hi at *
    have e1 : minsV (T ++ [⟨lo, hi⟩]) = min (minsV T) lo := by
      cases T with
      | nil => simp at hlen
      | cons v q => rw [List.cons_append, minsV, minsV, minsF_add]
    have e2 : maxsV (T ++ [⟨lo, hi⟩]) = max (maxsV T) hi := by
      cases T with
      | nil => simp at hlen
      | cons v q => rw [List.cons_append, maxsV, maxsV, maxsF_add]
    have e3 : (T ++ [(⟨lo, hi⟩ : V2)]).getD (n + 1) ⟨0, 0⟩ = ⟨lo, hi⟩ := by
      rw [show n + 1 = T.length by omega]
      simp [List.getD]
    have e4 : ∀ k, k < T.length → (T ++ [(⟨lo, hi⟩ : V2)]).getD k ⟨0, 0⟩ = T.getD k ⟨0, 0⟩ := fun k hk => by simp [List.getD, List.getElem?_append_left hk]
    have e5 : bestI (T ++ [⟨lo, hi⟩]) (n + 1 + 1) = if maxsV T < hi then n + 1 else bestI T (n + 1) := by
      rw [bestI, bestI_pre T _ (n + 1) (by omega), e3, e4 _ hb, i2]
    rw [e1, e2, e5]
    by_cases q : maxsV T < hi
    · rw [if_pos q, if_pos (show maxsV T < max (maxsV T) hi by omega), e3]
      exact ⟨rfl, by simp only; omega⟩
    · rw [if_neg q, if_neg (show ¬ maxsV T < max (maxsV T) hi by omega), e4 _ hb, i2]
      exact ⟨rfl, by omega⟩
end Go.Proofs.YtlmhbggigbmeaaaDoor

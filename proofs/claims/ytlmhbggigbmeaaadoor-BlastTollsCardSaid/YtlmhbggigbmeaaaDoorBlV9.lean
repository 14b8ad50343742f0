/- The reference's toll, where all is valid. Condition: air, grades and land in memory. -/
import Derived.Test.YtlmhbggigbmeaaaDoorBlC1G
import Derived.Test.YtlmhbggigbmeaaaDoorQuotG
import Derived.Test.YtlmhbggigbmeaaaDoorBlN9
namespace Go.Proofs.YtlmhbggigbmeaaaDoor
open Go.RowKit Go.Shelf
attribute [local go_sem] Option.isSome_some Ext.cell Ext.frozen Ext.lt Ext.le Ext.lt_add Ext.le_add Ext.ne Ext.ne' lt2 lt3 lt4 lt5 le2 le3 le4
theorem box_put0 {W : World} {B : Nat} {a b : Value} {T : TypeId} (h : W.heap[B]? = some (.cells #[a, b] T (0, 0))) (u : Value) : (W.setCell ⟨B, 0, none⟩ u).heap[B]? = some (.cells #[u, b] T (0, 0)) := (heap_setCell (o := 0) h u).trans (by simp)
theorem box_put1 {W : World} {B : Nat} {a b : Value} {T : TypeId} (h : W.heap[B]? = some (.cells #[a, b] T (0, 0))) (u : Value) : (W.setCell ⟨B, 1, none⟩ u).heap[B]? = some (.cells #[a, u] T (0, 0)) := (heap_setCell (o := 1) h u).trans (by simp)
set_option maxRecDepth 100000 in
set_option maxHeartbeats 16000000 in
theorem rtoll_ok (lp : Option Addr) (lc : Nat) (l : List V2) (gp : Option Addr) (gc : Nat) (g : List V2) (x : LandR) (k : RockR) (f : FallR) (a m : Nat) (w : World) (hl : VecsAt w lp l) (hg : VecsAt w gp g) (hx : x.At w) (hE : blowsE l k f = 0) (hS : sceneE g x = 0) (hm : a + m < x.pl.length) (st : TollSt) (hst : TollSt.cells ⟨none, l.length, 0, none, 0, g, x⟩ (v3s (blowsA l k f)) a (m + 1) = st) :
    Calls Tryd.prog 46 #[.slice lp l.length lc, .slice gp g.length gc, x.val, k.val, f.val, .int .i64 a, .int .i64 ((a : Int) + m)] w (Gives (.tuple #[.agg #[.int .i64 st.lo, .int .i64 st.hi], .int .i64 st.worst, .int .i64 0]) w) := by
  obtain ⟨b, r, hbr, hr1000, hbk⟩ := blowsA_ok hE
  rw [hbr] at hst
  obtain ⟨hgk, hxk⟩ := sceneE_ok hS
  have ha : airE l = 0 := by
    unfold blowsE at hE
    by_cases q : airE l = 0
    · exact q
    · rw [if_pos q] at hE; exact absurd hE q
  have h32 := (air_ok ha).1
  have hle := hxk.le
  have cbl := fun (W : World) (y : Below w.heap.size w W) => rBlows_any lp lc l k f W (hl.on y) (by omega)
  rw [hE] at cbl
  have c2 := fun (W : World) (y : Below w.heap.size w W) => rboth_any gp gc g x W (hg.on y) (hx.on y)
  rw [hS] at c2
  have c3 := fun (W : World) (y : Below w.heap.size w W) => rright_any x a W (hx.on y).nums
  have c4 := fun (W : World) (y : Below w.heap.size w W) => rright_any x ((a : Int) + m) W (hx.on y).nums
  rw [show rightB x a = true from decide_eq_true ⟨hxk.e, by omega, by omega⟩] at c3
  rw [show rightB x ((a : Int) + m) = true from decide_eq_true ⟨hxk.e, by omega, by omega⟩] at c4
  have hn400 : (a : Int) + m ≤ 400 := by omega
  have ch := fun (n : Nat) (hn : n ≤ m) (u : V3) (hu : u ∈ b :: r) (e : Int) (W : World) (y : Below w.heap.size w W) => rharms_any l.length gp gc g x u.a e ((a : Int) + n) W h32 (hg.on y) hgk (hx.on y) hxk (hbk u hu).l0 (hbk u hu).l1 (by omega) (by omega)
  unfold LandR.val RockR.val FallR.val at *
  clear ha
  go_enter Tryd.func46, Tryd.ntmps46
  go_upto_region 4 with (first | ((first | with_reducible refine wrx2 ?_ | with_reducible refine wrx ?_); (repeat (first | go_big_quiet_step ((first | fail)) | quiet_step ((first | fail)))); refine wpQuiet_nil ?_; rintro _ ⟨yr, rfl⟩; have syr := Ext.size yr; (repeat (first | rw [World.size_alloc] at syr | rw [World.size_setCell] at syr | rw [World.size_drew] at syr)); have : w.heap.size < yr.now.heap.size := (by omega); have : w.heap.size ≤ yr.now.heap.size := (by omega); have : w.heap.size < yr.now.heap.size + 1 + 1 := (by omega)) | (go_at_call 71; refine (cbl _ bcl).mono ?_; rintro _ W6 ⟨bv, rfl, hb6, hrows⟩; obtain ⟨q, cb, rfl, hv3⟩ := v3_of hrows))
  have hB6 : Below w.heap.size w W6 := by
    refine Below.trans ?_ (hb6.mono (by simp only [World.size_alloc]; omega))
    repeat' (first | (with_reducible exact Below.refl _ _) | (with_reducible assumption) | (with_reducible refine Ext.below _ ?_ ?_) | (with_reducible refine Below.on ?_ (by with_reducible assumption) ?_) | (with_reducible refine Below.alloc ?_ ?_ _) | (with_reducible refine Below.drew ?_) | (with_reducible refine Below.setCell ?_ ?_ _) | (with_reducible exact Nat.le_refl _) | omega | (simp; done) | (simp [go_sem]; done) | (simp at *; omega))
  have rR : W6.heap[w.heap.size + 1 + 1 + 1]? = some (.cells #[.int .i64 0, .int .i64 0] 29 (0, 0)) := (hb6.block _ (by simp only [World.size_alloc]; omega)).trans (by
    have := heap_alloc_new (((w.alloc (.cells #[.slice x.pp x.pl.length x.pc, .slice x.wp x.wl.length x.wc] 27)).alloc (.cells #[.int .i64 k.size.x, .int .i64 k.size.y, .int .i64 k.dens.x, .int .i64 k.dens.y, .int .i64 k.strong.x, .int .i64 k.strong.y, .int .i64 k.spin.x, .int .i64 k.spin.y, .int .i64 k.shape.x, .int .i64 k.shape.y, .bool k.pile] 31)).alloc (.cells #[.int .i64 f.speed.x, .int .i64 f.speed.y, .int .i64 f.slope.x, .int .i64 f.slope.y] 33)) (.cells #[.int .i64 0, .int .i64 0] 29)
    simpa only [World.size_alloc] using this)
  have sB6 := hB6.size
  have lR : w.heap.size + 1 + 1 + 1 < W6.heap.size := row_lt rR
  have l6 : w.heap.size < W6.heap.size := by omega
  have a0 : W6.cell? ⟨w.heap.size, 0, none⟩ = some (.slice x.pp x.pl.length x.pc) := (hb6.cell (p := ⟨w.heap.size, 0, none⟩) (by simp only [World.size_alloc]; omega)).trans (by simp [go_sem])
  have a1 : W6.cell? ⟨w.heap.size, 1, none⟩ = some (.slice x.wp x.wl.length x.wc) := (hb6.cell (p := ⟨w.heap.size, 1, none⟩) (by simp only [World.size_alloc]; omega)).trans (by simp [go_sem])
  rw [hbr] at *
  replace rR := Go.Lib.hid rR
  replace hv3 := Go.Lib.hid hv3
  replace ch := Go.Lib.hid ch
  replace hst := Go.Lib.hid hst
  clear hb6 hrows cbl hE hS hgk hxk hbk hbr
  go_upto_region 14 with (first | ((first | with_reducible refine wrx2 ?_ | with_reducible refine wrx ?_); (repeat (first | go_big_quiet_step ((first | (go_at_call 72; with_reducible exact Calls.ext (c2 _ bcl)) | (go_at_call 73; with_reducible exact Calls.ext (c3 _ bcl)) | (go_at_call 73; with_reducible exact Calls.ext (c4 _ bcl)))) | quiet_step ((first | (go_at_call 72; with_reducible exact Calls.ext (c2 _ bcl)) | (go_at_call 73; with_reducible exact Calls.ext (c3 _ bcl)) | (go_at_call 73; with_reducible exact Calls.ext (c4 _ bcl)))))); refine wpQuiet_nil ?_; rintro _ ⟨yr, rfl⟩; have syr := Ext.size yr; (repeat (first | rw [World.size_alloc] at syr | rw [World.size_setCell] at syr | rw [World.size_drew] at syr)); have : w.heap.size < yr.now.heap.size := (by omega); have : w.heap.size ≤ yr.now.heap.size := (by omega); have : w.heap.size < yr.now.heap.size + 1 + 1 := (by omega)) | (go_at_call 72; (first | with_reducible refine (Calls.giv2 (c2 _ bcl)).mono ?_ | with_reducible refine (Calls.giv (c2 _ bcl)).mono ?_); rintro _ _ ⟨y1, rfl, rfl⟩; have sy1 := Ext.size y1; (repeat (first | rw [World.size_alloc] at sy1 | rw [World.size_setCell] at sy1 | rw [World.size_drew] at sy1)); have : w.heap.size < y1.now.heap.size := (by omega); have : w.heap.size ≤ y1.now.heap.size := (by omega); have : w.heap.size < y1.now.heap.size + 1 + 1 := (by omega)) | (go_at_call 73; (first | with_reducible refine (Calls.giv2 (c3 _ bcl)).mono ?_ | with_reducible refine (Calls.giv (c3 _ bcl)).mono ?_); rintro _ _ ⟨y2, rfl, rfl⟩; have sy2 := Ext.size y2; (repeat (first | rw [World.size_alloc] at sy2 | rw [World.size_setCell] at sy2 | rw [World.size_drew] at sy2)); have : w.heap.size < y2.now.heap.size := (by omega); have : w.heap.size ≤ y2.now.heap.size := (by omega); have : w.heap.size < y2.now.heap.size + 1 + 1 := (by omega)) | (go_at_call 73; (first | with_reducible refine (Calls.giv2 (c4 _ bcl)).mono ?_ | with_reducible refine (Calls.giv (c4 _ bcl)).mono ?_); rintro _ _ ⟨y3, rfl, rfl⟩; have sy3 := Ext.size y3; (repeat (first | rw [World.size_alloc] at sy3 | rw [World.size_setCell] at sy3 | rw [World.size_drew] at sy3)); have : w.heap.size < y3.now.heap.size := (by omega); have : w.heap.size ≤ y3.now.heap.size := (by omega); have : w.heap.size < y3.now.heap.size + 1 + 1 := (by omega)))
  refine wp_named (fun W0 hW => ?_)
  obtain ⟨TB, hTB⟩ : ∃ n, y3.now.heap.size = n := ⟨_, rfl⟩
  have rT : W0.heap[TB]? = some (.cells #[.int .i64 0, .int .i64 0] 29 (0, 0)) := by rw [← hW, ← hTB]; exact heap_alloc_new _ _
  have hB0 : Below W6.heap.size W6 W0 := by rw [← hW]; exact y3.grew.alloc y3.size _
  have sT : W6.heap.size ≤ TB := by rw [← hTB]; exact y3.size
  have lT : TB < W0.heap.size := row_lt rT
  rw [hTB]
  clear hW hTB
  have hBw : Below w.heap.size w W0 := hB6.trans (hB0.mono sB6)
  have hwT : w.heap.size ≤ TB := by omega
  replace rR := Go.Lib.hid ((hB0.block _ lR).trans rR.out)
  replace a0 := (hB0.cell (p := ⟨w.heap.size, 0, none⟩) l6).trans a0
  replace a1 := (hB0.cell (p := ⟨w.heap.size, 1, none⟩) l6).trans a1
  have hv0 := Go.Lib.hid (fun j h => by
    obtain ⟨B, o, e, h1, h2, h3, h4⟩ := hv3.out j h
    exact (⟨B, o, e, by omega, (hB0.cell (p := ⟨B, o + j * 3, none⟩) h1).trans h2, (hB0.cell (p := ⟨B, o + j * 3 + 1, none⟩) h1).trans h3, (hB0.cell (p := ⟨B, o + j * 3 + 2, none⟩) h1).trans h4⟩ : ∃ B o, q = some ⟨B, o, none⟩ ∧ B < TB ∧ W0.cell? ⟨B, o + j * 3, none⟩ = some (.int .i64 (b :: r)[j].a) ∧ W0.cell? ⟨B, o + j * 3 + 1, none⟩ = some (.int .i64 (b :: r)[j].b) ∧ W0.cell? ⟨B, o + j * 3 + 2, none⟩ = some (.int .i64 (b :: r)[j].c)))
  have lw : w.heap.size < TB := by omega
  have lR2 : w.heap.size + 1 + 1 + 1 < TB := by omega
  clear hv3 hB0 hB6 c2 c3 c4 sB6 lR l6 sT
  obtain ⟨sc, hsc⟩ : ∃ sc : SceneR, (⟨none, l.length, 0, none, 0, g, x⟩ : SceneR) = sc := ⟨_, rfl⟩
  have hlo : ∀ (A : Int) (u : V3), harmsV l.length g x u.a u.b A = sc.lo A u := fun A u => by rw [← hsc]; rfl
  have hhi : ∀ (A : Int) (u : V3), harmsV l.length g x u.a u.c A = sc.hi A u := fun A u => by rw [← hsc]; rfl
  replace hst := Go.Lib.hid (show TollSt.cells sc (b :: r) a (m + 1) = st by rw [← hsc]; exact hst.out)
  clear hsc
  replace rT := Go.Lib.hid rT
  go_loopw [21, 22, 23] (fun ws fb t W => ∃ (n : Nat) (s1 : TollSt) (X : World), ws = .int .i64 s1.worst ∧ fb = .bool s1.first ∧ t = .int .i64 ((a : Int) + n) ∧ X = W ∧ Hid (BelowX TB W0.heap.size W0 X) ∧ Hid (X.heap[TB]? = some (.cells #[.int .i64 s1.lo, .int .i64 s1.hi] 29 (0, 0))) ∧ Hid (n ≤ m + 1 ∧ TollSt.cells sc (b :: r) a n = s1)) (fun _ _ t _ => a + m + 1 - (intOf t).toNat)
  case atStart => exact ⟨0, ⟨0, 0, a, true⟩, W0, rfl, rfl, by simp, rfl, Go.Lib.hid (BelowX.refl _ _ _), rT, Go.Lib.hid ⟨Nat.zero_le _, rfl⟩⟩
  case round =>
    obtain ⟨n, s1, X, rfl, rfl, rfl, rfl, hX, hT, hi⟩ := hrel
    obtain ⟨h1, h2⟩ := hi.out
    have sX := hX.out.size
    have xT : TB < X.heap.size := by omega
    clear hi
    by_cases hlt : n ≤ m
    · have hlt2 : (a : Int) + n ≤ (a : Int) + m := by omega
      have hn4 : (a : Int) + n ≤ 400 := by omega
      obtain ⟨ST, hST⟩ : ∃ ST, TollSt.blows sc ((a : Int) + n) s1 (b :: r) = ST := ⟨_, rfl⟩
      have hnx : TollSt.cells sc (b :: r) a (n + 1) = ST := by rw [TollSt.cells, h2]; exact hST
      replace hST := Go.Lib.hid hST
      replace hnx := Go.Lib.hid hnx
      clear h2
      go_upto_region 17 with (first | ((first | with_reducible refine wrx2 ?_ | with_reducible refine wrx ?_); (repeat (first | go_big_quiet_step ((first | fail)) | quiet_step ((first | fail)))); refine wpQuiet_nil ?_; rintro _ ⟨yr, rfl⟩; have syr := Ext.size yr; (repeat (first | rw [World.size_alloc] at syr | rw [World.size_setCell] at syr | rw [World.size_drew] at syr)); have : TB < yr.now.heap.size := (by omega); have : TB ≤ yr.now.heap.size := (by omega); have : TB < yr.now.heap.size + 1 + 1 := (by omega)))
      go_loopw [21, 22, 24] (fun ws fb t W => ∃ (j : Nat) (s2 : TollSt) (Y : World), ws = .int .i64 s2.worst ∧ fb = .bool s2.first ∧ t = .int .i64 j ∧ Y = W ∧ Hid (BelowX TB W0.heap.size W0 Y) ∧ Hid (Y.heap[TB]? = some (.cells #[.int .i64 s2.lo, .int .i64 s2.hi] 29 (0, 0))) ∧ Hid (j ≤ r.length + 1 ∧ TollSt.blows sc ((a : Int) + n) s2 ((b :: r).drop j) = ST)) (fun _ _ t _ => r.length + 1 - (intOf t).toNat)
      case atStart => exact ⟨0, s1, X, rfl, rfl, rfl, rfl, hX, hT, Go.Lib.hid ⟨Nat.zero_le _, hST.out⟩⟩
      case round =>
        obtain ⟨j, s2, Y, rfl, rfl, rfl, rfl, hY, hU, hi⟩ := hrel
        obtain ⟨g1, g2⟩ := hi.out
        have sY := hY.out.size
        have yT : TB < Y.heap.size := by omega
        clear hi
        by_cases hj : j < r.length + 1
        · have hj2 : (j : Int) < (r.length : Int) + 1 := by omega
          have hjl : j < (b :: r).length := by simpa using hj
          obtain ⟨B, o, rfl, hB, d0, d1, d2⟩ := hv0.out j hjl
          replace d0 := (hY.out.cell (by omega) (by omega)).trans d0
          replace d1 := (hY.out.cell (by omega) (by omega)).trans d1
          replace d2 := (hY.out.cell (by omega) (by omega)).trans d2
          have b0 := (hY.out.cell (c := w.heap.size) (o := 0) (by omega) (by omega)).trans a0
          have b1 := (hY.out.cell (c := w.heap.size) (o := 1) (by omega) (by omega)).trans a1
          have hmem := List.getElem_mem hjl
          have hwY : Below w.heap.size w Y := hBw.trans ((hY.out.mono hBw.size).below hwT)
          have c5 := fun (W : World) (y : Below Y.heap.size Y W) => ch.out n hlt (b :: r)[j] hmem (b :: r)[j].b W (hwY.trans (y.mono hwY.size))
          have c6 := fun (W : World) (y : Below Y.heap.size Y W) => ch.out n hlt (b :: r)[j] hmem (b :: r)[j].c W (hwY.trans (y.mono hwY.size))
          simp only [hlo] at c5
          simp only [hhi] at c6
          rw [List.drop_eq_getElem_cons hjl, TollSt.blows] at g2
          have key : j + 1 ≤ r.length + 1 ∧ TollSt.blows sc ((a : Int) + n) (s2.next sc ((a : Int) + n) (b :: r)[j]) ((b :: r).drop (j + 1)) = ST := ⟨by omega, g2⟩
          unfold TollSt.next at key
          clear g2 hmem
          generalize (b :: r)[j] = u at *
          generalize sc.lo ((a : Int) + n) u = lo at *
          generalize sc.hi ((a : Int) + n) u = hh at *
          have lwY : w.heap.size < Y.heap.size := by omega
          have lBY : B < Y.heap.size := by omega
          obtain ⟨slo, shi, swo, sfi⟩ := s2
          simp only at hU key ⊢
          have t0 : Y.cell? ⟨TB, 0, none⟩ = some (.int .i64 slo) := (cell_of_row Y _ 0 _ _ _ hU.out).trans rfl
          have t1 : Y.cell? ⟨TB, 1, none⟩ = some (.int .i64 shi) := (cell_of_row Y _ 1 _ _ _ hU.out).trans rfl
          have z0 : Y.frozen? ⟨TB, 0, none⟩ = false := frozen_row hU.out
          have z1 : Y.frozen? ⟨TB, 1, none⟩ = false := frozen_row hU.out
          go_upto_region 21 with (first | ((first | with_reducible refine wrx2 ?_ | with_reducible refine wrx ?_); (repeat (first | go_big_quiet_step ((first | (go_at_call 74; with_reducible exact Calls.ext (c5 _ bcl)) | (go_at_call 74; with_reducible exact Calls.ext (c6 _ bcl)))) | quiet_step ((first | (go_at_call 74; with_reducible exact Calls.ext (c5 _ bcl)) | (go_at_call 74; with_reducible exact Calls.ext (c6 _ bcl)))))); refine wpQuiet_nil ?_; rintro _ ⟨yr, rfl⟩; have syr := Ext.size yr; (repeat (first | rw [World.size_alloc] at syr | rw [World.size_setCell] at syr | rw [World.size_drew] at syr)); have : TB < yr.now.heap.size := (by omega); have : TB ≤ yr.now.heap.size := (by omega); have : TB < yr.now.heap.size + 1 + 1 := (by omega); have : w.heap.size < yr.now.heap.size := (by omega); have : w.heap.size ≤ yr.now.heap.size := (by omega); have : w.heap.size < yr.now.heap.size + 1 + 1 := (by omega); have : B < yr.now.heap.size := (by omega); have : B ≤ yr.now.heap.size := (by omega); have : B < yr.now.heap.size + 1 + 1 := (by omega)) | (go_at_call 74; (first | with_reducible refine (Calls.giv2 (c5 _ bcl)).mono ?_ | with_reducible refine (Calls.giv (c5 _ bcl)).mono ?_); rintro _ _ ⟨y1, rfl, rfl⟩; have sy1 := Ext.size y1; (repeat (first | rw [World.size_alloc] at sy1 | rw [World.size_setCell] at sy1 | rw [World.size_drew] at sy1)); have : TB < y1.now.heap.size := (by omega); have : TB ≤ y1.now.heap.size := (by omega); have : TB < y1.now.heap.size + 1 + 1 := (by omega); have : w.heap.size < y1.now.heap.size := (by omega); have : w.heap.size ≤ y1.now.heap.size := (by omega); have : w.heap.size < y1.now.heap.size + 1 + 1 := (by omega); have : B < y1.now.heap.size := (by omega); have : B ≤ y1.now.heap.size := (by omega); have : B < y1.now.heap.size + 1 + 1 := (by omega)) | (go_at_call 74; (first | with_reducible refine (Calls.giv2 (c6 _ bcl)).mono ?_ | with_reducible refine (Calls.giv (c6 _ bcl)).mono ?_); rintro _ _ ⟨y2, rfl, rfl⟩; have sy2 := Ext.size y2; (repeat (first | rw [World.size_alloc] at sy2 | rw [World.size_setCell] at sy2 | rw [World.size_drew] at sy2)); have : TB < y2.now.heap.size := (by omega); have : TB ≤ y2.now.heap.size := (by omega); have : TB < y2.now.heap.size + 1 + 1 := (by omega); have : w.heap.size < y2.now.heap.size := (by omega); have : w.heap.size ≤ y2.now.heap.size := (by omega); have : w.heap.size < y2.now.heap.size + 1 + 1 := (by omega); have : B < y2.now.heap.size := (by omega); have : B ≤ y2.now.heap.size := (by omega); have : B < y2.now.heap.size + 1 + 1 := (by omega)))
          refine wp_named (fun Z hZ => ?_)
          have hYZ : Below Y.heap.size Y Z := by rw [← hZ]; repeat' (first | (with_reducible exact Below.refl _ _) | (with_reducible assumption) | (with_reducible refine Ext.below _ ?_ ?_) | (with_reducible refine Below.on ?_ (by with_reducible assumption) ?_) | (with_reducible refine Below.alloc ?_ ?_ _) | (with_reducible refine Below.drew ?_) | (with_reducible refine Below.setCell ?_ ?_ _) | (with_reducible exact Nat.le_refl _) | omega | (simp; done) | (simp [go_sem]; done) | (simp at *; omega))
          clear hZ
          have lTZ : TB < Z.heap.size := by have := hYZ.size; omega
          replace t0 := (hYZ.cell (p := ⟨TB, 0, none⟩) yT).trans t0
          replace t1 := (hYZ.cell (p := ⟨TB, 1, none⟩) yT).trans t1
          replace z0 := (hYZ.frozen (p := ⟨TB, 0, none⟩) yT).trans z0
          replace z1 := (hYZ.frozen (p := ⟨TB, 1, none⟩) yT).trans z1
          have hZX : BelowX TB W0.heap.size W0 Z := hY.out.trans (.of (hYZ.mono sY))
          have hZR := (hYZ.block TB yT).trans hU.out
          replace hZR := Go.Lib.hid hZR
          replace hZX := Go.Lib.hid hZX
          clear c5 c6 d0 d1 d2 b0 b1 hYZ hwY
          cases sfi
          · by_cases p1 : lo < slo
            · by_cases p2 : shi < hh
              · simp only [Bool.false_eq_true, false_or, p1, p2, if_true] at key
                replace key := Go.Lib.hid key
                go_wp2_with (first | ((first | with_reducible refine wrx2 ?_ | with_reducible refine wrx ?_); (repeat (first | go_big_quiet_step ((first | fail)) | quiet_step ((first | fail)))); refine wpQuiet_nil ?_; rintro _ ⟨yr, rfl⟩; have syr := Ext.size yr; (repeat (first | rw [World.size_alloc] at syr | rw [World.size_setCell] at syr | rw [World.size_drew] at syr)); have : TB < yr.now.heap.size := (by omega); have : TB ≤ yr.now.heap.size := (by omega); have : TB < yr.now.heap.size + 1 + 1 := (by omega)))
                exact ⟨⟨j + 1, ⟨lo, hh, (a : Int) + n, false⟩, _, rfl, rfl, by simp, rfl, Go.Lib.hid ((hZX.out.ring 0 _).ring 1 _), Go.Lib.hid (box_put1 (box_put0 hZR.out _) _), key⟩, by simp [intOf]; omega⟩
              · simp only [Bool.false_eq_true, false_or, p1, p2, if_true, if_false] at key
                replace key := Go.Lib.hid key
                go_wp2_with (first | ((first | with_reducible refine wrx2 ?_ | with_reducible refine wrx ?_); (repeat (first | go_big_quiet_step ((first | fail)) | quiet_step ((first | fail)))); refine wpQuiet_nil ?_; rintro _ ⟨yr, rfl⟩; have syr := Ext.size yr; (repeat (first | rw [World.size_alloc] at syr | rw [World.size_setCell] at syr | rw [World.size_drew] at syr)); have : TB < yr.now.heap.size := (by omega); have : TB ≤ yr.now.heap.size := (by omega); have : TB < yr.now.heap.size + 1 + 1 := (by omega)))
                exact ⟨⟨j + 1, ⟨lo, shi, swo, false⟩, _, rfl, rfl, by simp, rfl, Go.Lib.hid (hZX.out.ring 0 _), Go.Lib.hid (box_put0 hZR.out _), key⟩, by simp [intOf]; omega⟩
            · by_cases p2 : shi < hh
              · simp only [Bool.false_eq_true, false_or, p1, p2, if_true, if_false] at key
                replace key := Go.Lib.hid key
                go_wp2_with (first | ((first | with_reducible refine wrx2 ?_ | with_reducible refine wrx ?_); (repeat (first | go_big_quiet_step ((first | fail)) | quiet_step ((first | fail)))); refine wpQuiet_nil ?_; rintro _ ⟨yr, rfl⟩; have syr := Ext.size yr; (repeat (first | rw [World.size_alloc] at syr | rw [World.size_setCell] at syr | rw [World.size_drew] at syr)); have : TB < yr.now.heap.size := (by omega); have : TB ≤ yr.now.heap.size := (by omega); have : TB < yr.now.heap.size + 1 + 1 := (by omega)))
                exact ⟨⟨j + 1, ⟨slo, hh, (a : Int) + n, false⟩, _, rfl, rfl, by simp, rfl, Go.Lib.hid (hZX.out.ring 1 _), Go.Lib.hid (box_put1 hZR.out _), key⟩, by simp [intOf]; omega⟩
              · simp only [Bool.false_eq_true, false_or, p1, p2, if_false] at key
                replace key := Go.Lib.hid key
                go_wp2_with (first | ((first | with_reducible refine wrx2 ?_ | with_reducible refine wrx ?_); (repeat (first | go_big_quiet_step ((first | fail)) | quiet_step ((first | fail)))); refine wpQuiet_nil ?_; rintro _ ⟨yr, rfl⟩; have syr := Ext.size yr; (repeat (first | rw [World.size_alloc] at syr | rw [World.size_setCell] at syr | rw [World.size_drew] at syr)); have : TB < yr.now.heap.size := (by omega); have : TB ≤ yr.now.heap.size := (by omega); have : TB < yr.now.heap.size + 1 + 1 := (by omega)))
                exact ⟨⟨j + 1, ⟨slo, shi, swo, false⟩, Z, rfl, rfl, by simp, rfl, hZX, hZR, key⟩, by simp [intOf]; omega⟩
          · simp only [true_or, if_true] at key
            replace key := Go.Lib.hid key
            go_wp2_with (first | ((first | with_reducible refine wrx2 ?_ | with_reducible refine wrx ?_); (repeat (first | go_big_quiet_step ((first | fail)) | quiet_step ((first | fail)))); refine wpQuiet_nil ?_; rintro _ ⟨yr, rfl⟩; have syr := Ext.size yr; (repeat (first | rw [World.size_alloc] at syr | rw [World.size_setCell] at syr | rw [World.size_drew] at syr)); have : TB < yr.now.heap.size := (by omega); have : TB ≤ yr.now.heap.size := (by omega); have : TB < yr.now.heap.size + 1 + 1 := (by omega)))
            exact ⟨⟨j + 1, ⟨lo, hh, (a : Int) + n, false⟩, _, rfl, rfl, by simp, rfl, Go.Lib.hid ((hZX.out.ring 0 _).ring 1 _), Go.Lib.hid (box_put1 (box_put0 hZR.out _) _), key⟩, by simp [intOf]; omega⟩
        · have hge : ¬ (j : Int) < (r.length : Int) + 1 := by omega
          rw [List.drop_of_length_le (by simp; omega), TollSt.blows] at g2
          subst g2
          go_wp2_with (first | ((first | with_reducible refine wrx2 ?_ | with_reducible refine wrx ?_); (repeat (first | go_big_quiet_step ((first | fail)) | quiet_step ((first | fail)))); refine wpQuiet_nil ?_; rintro _ ⟨yr, rfl⟩; have syr := Ext.size yr; (repeat (first | rw [World.size_alloc] at syr | rw [World.size_setCell] at syr | rw [World.size_drew] at syr)); have : TB < yr.now.heap.size := (by omega); have : TB ≤ yr.now.heap.size := (by omega); have : TB < yr.now.heap.size + 1 + 1 := (by omega)))
          exact ⟨⟨n + 1, s2, Y, rfl, rfl, by simp; omega, rfl, hY, hU, Go.Lib.hid ⟨by omega, hnx.out⟩⟩, by simp [intOf]; omega⟩
    · have hge : ¬ (a : Int) + n ≤ (a : Int) + m := by omega
      have eS : s1 = st := by rw [← h2, show n = m + 1 by omega]; exact hst.out
      subst eS
      have t0 : X.cell? ⟨TB, 0, none⟩ = some (.int .i64 s1.lo) := (cell_of_row X _ 0 _ _ _ hT.out).trans rfl
      have t1 : X.cell? ⟨TB, 1, none⟩ = some (.int .i64 s1.hi) := (cell_of_row X _ 1 _ _ _ hT.out).trans rfl
      have rX := (hX.out.block (w.heap.size + 1 + 1 + 1) (by omega) (by omega)).trans rR.out
      have q0 : X.cell? ⟨w.heap.size + 1 + 1 + 1, 0, none⟩ = some (.int .i64 0) := (cell_of_row X _ 0 _ _ _ rX).trans rfl
      have q1 : X.cell? ⟨w.heap.size + 1 + 1 + 1, 1, none⟩ = some (.int .i64 0) := (cell_of_row X _ 1 _ _ _ rX).trans rfl
      have q2 : X.frozen? ⟨w.heap.size + 1 + 1 + 1, 0, none⟩ = false := frozen_row rX
      have q3 : X.frozen? ⟨w.heap.size + 1 + 1 + 1, 1, none⟩ = false := frozen_row rX
      have lRX : w.heap.size + 1 + 1 + 1 < X.heap.size := by omega
      have hXB : Below w.heap.size w X := hBw.trans ((hX.out.mono hBw.size).below hwT)
      clear h2
      go_wp2_with (first | ((first | with_reducible refine wrx2 ?_ | with_reducible refine wrx ?_); (repeat (first | go_big_quiet_step ((first | fail)) | quiet_step ((first | fail)))); refine wpQuiet_nil ?_; rintro _ ⟨yr, rfl⟩; have syr := Ext.size yr; (repeat (first | rw [World.size_alloc] at syr | rw [World.size_setCell] at syr | rw [World.size_drew] at syr)); have : TB < yr.now.heap.size := (by omega); have : TB ≤ yr.now.heap.size := (by omega); have : TB < yr.now.heap.size + 1 + 1 := (by omega)))
      refine bodyPost_ret (v := .tuple #[.agg #[.int .i64 s1.lo, .int .i64 s1.hi], .int .i64 s1.worst, .int .i64 0]) (by simp (maxDischargeDepth := 9) [results, Tryd.results46, go_sem, q0, q1]) rfl ?_
      refine ⟨rfl, ?_⟩
      repeat' (first | (with_reducible exact Below.refl _ _) | (with_reducible assumption) | (with_reducible refine Ext.below _ ?_ ?_) | (with_reducible refine Below.on ?_ (by with_reducible assumption) ?_) | (with_reducible refine Below.alloc ?_ ?_ _) | (with_reducible refine Below.drew ?_) | (with_reducible refine Below.setCell ?_ ?_ _) | (with_reducible exact Nat.le_refl _) | omega | (simp; done) | (simp [go_sem]; done) | (simp at *; omega))
end Go.Proofs.YtlmhbggigbmeaaaDoor

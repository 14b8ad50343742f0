/- The reference's toll, for any arguments. Condition: air, grades and land in memory, air of at most 1000 layers. -/
import Derived.Test.YtlmhbggigbmeaaaDoorBlV9
namespace Go.Proofs.YtlmhbggigbmeaaaDoor
open Go.RowKit Go.Shelf
attribute [local go_sem] Option.isSome_some Ext.cell Ext.frozen Ext.lt Ext.le Ext.lt_add Ext.le_add Ext.ne Ext.ne' lt2 lt3 lt4 lt5 le2 le3 le4
set_option maxRecDepth 100000 in
set_option maxHeartbeats 16000000 in
theorem rtoll_any (lp : Option Addr) (lc : Nat) (l : List V2) (gp : Option Addr) (gc : Nat) (g : List V2) (x : LandR) (k : RockR) (f : FallR) (a b : Int) (w : World) (hl : VecsAt w lp l) (hg : VecsAt w gp g) (hx : x.At w) (hn : l.length ≤ 1000) :
    Calls Tryd.prog 46 #[.slice lp l.length lc, .slice gp g.length gc, x.val, k.val, f.val, .int .i64 a, .int .i64 b] w (Gives (.tuple #[.agg #[.int .i64 (minsV (tollsV l g x k f a b)), .int .i64 (maxsV (tollsV l g x k f a b))], .int .i64 (worstV l g x k f a b), .int .i64 (tollE l g x k f a b)]) w) := by
  have cbl := fun (W : World) (y : Below w.heap.size w W) => rBlows_any lp lc l k f W (hl.on y) hn
  have c2 := fun (W : World) (y : Below w.heap.size w W) => rboth_any gp gc g x W (hg.on y) (hx.on y)
  have c3 := fun (W : World) (y : Below w.heap.size w W) => rright_any x a W (hx.on y).nums
  have c4 := fun (W : World) (y : Below w.heap.size w W) => rright_any x b W (hx.on y).nums
  by_cases hT0 : tollE l g x k f a b = 0
  · obtain ⟨hE, hS, h0, h1, h2⟩ := tollE_in hT0
    obtain ⟨c, r, hbr, -, -⟩ := blowsA_ok hE
    obtain ⟨a, rfl⟩ := Int.eq_ofNat_of_zero_le h0
    obtain ⟨m, rfl⟩ : ∃ m : Nat, b = (a : Int) + m := ⟨(b - a).toNat, by omega⟩
    have hV : tollsV l g x k f a ((a : Int) + m) = SceneR.tollsL ⟨none, l.length, 0, none, 0, g, x⟩ (v3s (blowsA l k f)) a (m + 1) := by
      unfold tollsV
      rw [if_pos hT0, show ((a : Int) + m - a).toNat = m by omega]
    have hlen := tollsL_len ⟨none, l.length, 0, none, 0, g, x⟩ (v3s (blowsA l k f)) (m + 1) a
    have key := (cells_toll ⟨none, l.length, 0, none, 0, g, x⟩ c r a m).1
    rw [← hbr] at key
    have := rtoll_ok lp lc l gp gc g x k f a m w hl hg hx hE hS (by omega) _ key
    unfold worstV
    rw [if_pos hT0, hT0, hV, hlen]
    exact this
  have hV : tollsV l g x k f a b = [] := by unfold tollsV; rw [if_neg hT0]
  have hW : worstV l g x k f a b = 0 := by unfold worstV; rw [if_neg hT0]
  rw [hV, hW, minsV, maxsV]
  clear hV hW
  by_cases hE : blowsE l k f = 0
  · rw [hE] at cbl
    by_cases hS : sceneE g x = 0
    · rw [hS] at c2
      have hok := (sceneE_ok hS).2
      by_cases hc : (0 ≤ a ∧ a < x.pl.length) ∧ (0 ≤ b ∧ b < x.pl.length)
      · have hab : b < a := by
          refine Decidable.by_contra fun h => hT0 ?_
          unfold tollE
          rw [if_neg (by simpa using hE), if_neg (by simpa using hS), if_neg (fun h => h hc), if_neg h]
        have hT : tollE l g x k f a b = 11 := by unfold tollE; rw [if_neg (by simpa using hE), if_neg (by simpa using hS), if_neg (fun h => h hc), if_pos hab]
        rw [hT]
        rw [show rightB x a = true from decide_eq_true ⟨hok.e, hc.1⟩] at c3
        rw [show rightB x b = true from decide_eq_true ⟨hok.e, hc.2⟩] at c4
        unfold LandR.val RockR.val FallR.val at *
        clear hl hg hx hT hT0 hE hS hc hn hok
        go_enter Tryd.func46, Tryd.ntmps46
        go_upto_region 2 with (first | ((first | with_reducible refine wrx2 ?_ | with_reducible refine wrx ?_); (repeat (first | go_big_quiet_step ((first | fail)) | quiet_step ((first | fail)))); refine wpQuiet_nil ?_; rintro _ ⟨yr, rfl⟩; have syr := Ext.size yr; (repeat (first | rw [World.size_alloc] at syr | rw [World.size_setCell] at syr | rw [World.size_drew] at syr)); have : w.heap.size < yr.now.heap.size := (by omega); have : w.heap.size ≤ yr.now.heap.size := (by omega); have : w.heap.size < yr.now.heap.size + 1 + 1 := (by omega)) | (go_at_call 71; refine (cbl _ bcl).mono ?_; rintro _ W6 ⟨bv, rfl, hb6, hrows⟩; obtain ⟨q, cb, rfl, hv3⟩ := v3_of hrows))
        have hB6 : Below w.heap.size w W6 := by
          refine Below.trans ?_ (hb6.mono (by simp only [World.size_alloc]; omega))
          repeat' (first | (with_reducible exact Below.refl _ _) | (with_reducible assumption) | (with_reducible refine Ext.below _ ?_ ?_) | (with_reducible refine Below.on ?_ (by with_reducible assumption) ?_) | (with_reducible refine Below.alloc ?_ ?_ _) | (with_reducible refine Below.drew ?_) | (with_reducible refine Below.setCell ?_ ?_ _) | (with_reducible exact Nat.le_refl _) | omega | (simp; done) | (simp [go_sem]; done) | (simp at *; omega))
        have rR : W6.heap[w.heap.size + 1 + 1 + 1]? = some (.cells #[.int .i64 0, .int .i64 0] 29 (0, 0)) := (hb6.block _ (by simp only [World.size_alloc]; omega)).trans (by
          have := heap_alloc_new (((w.alloc (.cells #[.slice x.pp x.pl.length x.pc, .slice x.wp x.wl.length x.wc] 27)).alloc (.cells #[.int .i64 k.size.x, .int .i64 k.size.y, .int .i64 k.dens.x, .int .i64 k.dens.y, .int .i64 k.strong.x, .int .i64 k.strong.y, .int .i64 k.spin.x, .int .i64 k.spin.y, .int .i64 k.shape.x, .int .i64 k.shape.y, .bool k.pile] 31)).alloc (.cells #[.int .i64 f.speed.x, .int .i64 f.speed.y, .int .i64 f.slope.x, .int .i64 f.slope.y] 33)) (.cells #[.int .i64 0, .int .i64 0] 29)
          simpa only [World.size_alloc] using this)
        have sB6 := hB6.size
        have lR : w.heap.size + 1 + 1 + 1 < W6.heap.size := row_lt rR
        have l6 : w.heap.size < W6.heap.size := by omega
        have a0 : W6.cell? ⟨w.heap.size, 0, none⟩ = some (.slice x.pp x.pl.length x.pc) := (hb6.cell (p := ⟨w.heap.size, 0, none⟩) (by simp only [World.size_alloc]; omega)).trans (by simp [go_sem])
        have a1 : W6.cell? ⟨w.heap.size, 1, none⟩ = some (.slice x.wp x.wl.length x.wc) := (hb6.cell (p := ⟨w.heap.size, 1, none⟩) (by simp only [World.size_alloc]; omega)).trans (by simp [go_sem])
        have q0 : W6.cell? ⟨w.heap.size + 1 + 1 + 1, 0, none⟩ = some (.int .i64 0) := (cell_of_row W6 _ 0 _ _ _ rR).trans rfl
        have q1 : W6.cell? ⟨w.heap.size + 1 + 1 + 1, 1, none⟩ = some (.int .i64 0) := (cell_of_row W6 _ 1 _ _ _ rR).trans rfl
        have q2 : W6.frozen? ⟨w.heap.size + 1 + 1 + 1, 0, none⟩ = false := frozen_row rR
        have q3 : W6.frozen? ⟨w.heap.size + 1 + 1 + 1, 1, none⟩ = false := frozen_row rR
        clear hb6 hrows hv3 cbl rR
        go_wp2_with (first | ((first | with_reducible refine wrx2 ?_ | with_reducible refine wrx ?_); (repeat (first | go_big_quiet_step ((first | (go_at_call 72; with_reducible exact Calls.ext (c2 _ bcl)) | (go_at_call 73; with_reducible exact Calls.ext (c3 _ bcl)) | (go_at_call 73; with_reducible exact Calls.ext (c4 _ bcl)))) | quiet_step ((first | (go_at_call 72; with_reducible exact Calls.ext (c2 _ bcl)) | (go_at_call 73; with_reducible exact Calls.ext (c3 _ bcl)) | (go_at_call 73; with_reducible exact Calls.ext (c4 _ bcl)))))); refine wpQuiet_nil ?_; rintro _ ⟨yr, rfl⟩; have syr := Ext.size yr; (repeat (first | rw [World.size_alloc] at syr | rw [World.size_setCell] at syr | rw [World.size_drew] at syr)); have : w.heap.size < yr.now.heap.size := (by omega); have : w.heap.size ≤ yr.now.heap.size := (by omega); have : w.heap.size < yr.now.heap.size + 1 + 1 := (by omega); have : w.heap.size + 1 + 1 + 1 < yr.now.heap.size := (by omega); have : w.heap.size + 1 + 1 + 1 ≤ yr.now.heap.size := (by omega); have : w.heap.size + 1 + 1 + 1 < yr.now.heap.size + 1 + 1 := (by omega)) | (go_at_call 72; (first | with_reducible refine (Calls.giv2 (c2 _ bcl)).mono ?_ | with_reducible refine (Calls.giv (c2 _ bcl)).mono ?_); rintro _ _ ⟨y1, rfl, rfl⟩; have sy1 := Ext.size y1; (repeat (first | rw [World.size_alloc] at sy1 | rw [World.size_setCell] at sy1 | rw [World.size_drew] at sy1)); have : w.heap.size < y1.now.heap.size := (by omega); have : w.heap.size ≤ y1.now.heap.size := (by omega); have : w.heap.size < y1.now.heap.size + 1 + 1 := (by omega); have : w.heap.size + 1 + 1 + 1 < y1.now.heap.size := (by omega); have : w.heap.size + 1 + 1 + 1 ≤ y1.now.heap.size := (by omega); have : w.heap.size + 1 + 1 + 1 < y1.now.heap.size + 1 + 1 := (by omega)) | (go_at_call 73; (first | with_reducible refine (Calls.giv2 (c3 _ bcl)).mono ?_ | with_reducible refine (Calls.giv (c3 _ bcl)).mono ?_); rintro _ _ ⟨y2, rfl, rfl⟩; have sy2 := Ext.size y2; (repeat (first | rw [World.size_alloc] at sy2 | rw [World.size_setCell] at sy2 | rw [World.size_drew] at sy2)); have : w.heap.size < y2.now.heap.size := (by omega); have : w.heap.size ≤ y2.now.heap.size := (by omega); have : w.heap.size < y2.now.heap.size + 1 + 1 := (by omega); have : w.heap.size + 1 + 1 + 1 < y2.now.heap.size := (by omega); have : w.heap.size + 1 + 1 + 1 ≤ y2.now.heap.size := (by omega); have : w.heap.size + 1 + 1 + 1 < y2.now.heap.size + 1 + 1 := (by omega)) | (go_at_call 73; (first | with_reducible refine (Calls.giv2 (c4 _ bcl)).mono ?_ | with_reducible refine (Calls.giv (c4 _ bcl)).mono ?_); rintro _ _ ⟨y3, rfl, rfl⟩; have sy3 := Ext.size y3; (repeat (first | rw [World.size_alloc] at sy3 | rw [World.size_setCell] at sy3 | rw [World.size_drew] at sy3)); have : w.heap.size < y3.now.heap.size := (by omega); have : w.heap.size ≤ y3.now.heap.size := (by omega); have : w.heap.size < y3.now.heap.size + 1 + 1 := (by omega); have : w.heap.size + 1 + 1 + 1 < y3.now.heap.size := (by omega); have : w.heap.size + 1 + 1 + 1 ≤ y3.now.heap.size := (by omega); have : w.heap.size + 1 + 1 + 1 < y3.now.heap.size + 1 + 1 := (by omega)))
        refine bodyPost_ret (v := .tuple #[.agg #[.int .i64 0, .int .i64 0], .int .i64 0, .int .i64 11]) (by simp (maxDischargeDepth := 9) [results, Tryd.results46, go_sem, q0, q1, lR]) rfl ?_
        refine ⟨rfl, ?_⟩
        repeat' (first | (with_reducible exact Below.refl _ _) | (with_reducible assumption) | (with_reducible refine Ext.below _ ?_ ?_) | (with_reducible refine Below.on ?_ (by with_reducible assumption) ?_) | (with_reducible refine Below.alloc ?_ ?_ _) | (with_reducible refine Below.drew ?_) | (with_reducible refine Below.setCell ?_ ?_ _) | (with_reducible exact Nat.le_refl _) | omega | (simp; done) | (simp [go_sem]; done) | (simp at *; omega))
      · have hT : tollE l g x k f a b = 7 := by unfold tollE; rw [if_neg (by simpa using hE), if_neg (by simpa using hS), if_pos hc]
        rw [hT]
        unfold LandR.val RockR.val FallR.val at *
        by_cases h1 : 0 ≤ a ∧ a < x.pl.length
        · have h2 : ¬ (0 ≤ b ∧ b < x.pl.length) := fun q => hc ⟨h1, q⟩
          rw [show rightB x a = true from decide_eq_true ⟨hok.e, h1⟩] at c3
          rw [show rightB x b = false from decide_eq_false (fun q => h2 q.2)] at c4
          clear hl hg hx hT hT0 hE hS hc hn hok h1 h2
          go_enter Tryd.func46, Tryd.ntmps46
          go_upto_region 2 with (first | ((first | with_reducible refine wrx2 ?_ | with_reducible refine wrx ?_); (repeat (first | go_big_quiet_step ((first | fail)) | quiet_step ((first | fail)))); refine wpQuiet_nil ?_; rintro _ ⟨yr, rfl⟩; have syr := Ext.size yr; (repeat (first | rw [World.size_alloc] at syr | rw [World.size_setCell] at syr | rw [World.size_drew] at syr)); have : w.heap.size < yr.now.heap.size := (by omega); have : w.heap.size ≤ yr.now.heap.size := (by omega); have : w.heap.size < yr.now.heap.size + 1 + 1 := (by omega)) | (go_at_call 71; refine (cbl _ bcl).mono ?_; rintro _ W6 ⟨bv, rfl, hb6, hrows⟩; obtain ⟨q, cb, rfl, hv3⟩ := v3_of hrows))
          have hB6 : Below w.heap.size w W6 := by
            refine Below.trans ?_ (hb6.mono (by simp only [World.size_alloc]; omega))
            repeat' (first | (with_reducible exact Below.refl _ _) | (with_reducible assumption) | (with_reducible refine Ext.below _ ?_ ?_) | (with_reducible refine Below.on ?_ (by with_reducible assumption) ?_) | (with_reducible refine Below.alloc ?_ ?_ _) | (with_reducible refine Below.drew ?_) | (with_reducible refine Below.setCell ?_ ?_ _) | (with_reducible exact Nat.le_refl _) | omega | (simp; done) | (simp [go_sem]; done) | (simp at *; omega))
          have rR : W6.heap[w.heap.size + 1 + 1 + 1]? = some (.cells #[.int .i64 0, .int .i64 0] 29 (0, 0)) := (hb6.block _ (by simp only [World.size_alloc]; omega)).trans (by
            have := heap_alloc_new (((w.alloc (.cells #[.slice x.pp x.pl.length x.pc, .slice x.wp x.wl.length x.wc] 27)).alloc (.cells #[.int .i64 k.size.x, .int .i64 k.size.y, .int .i64 k.dens.x, .int .i64 k.dens.y, .int .i64 k.strong.x, .int .i64 k.strong.y, .int .i64 k.spin.x, .int .i64 k.spin.y, .int .i64 k.shape.x, .int .i64 k.shape.y, .bool k.pile] 31)).alloc (.cells #[.int .i64 f.speed.x, .int .i64 f.speed.y, .int .i64 f.slope.x, .int .i64 f.slope.y] 33)) (.cells #[.int .i64 0, .int .i64 0] 29)
            simpa only [World.size_alloc] using this)
          have sB6 := hB6.size
          have lR : w.heap.size + 1 + 1 + 1 < W6.heap.size := row_lt rR
          have l6 : w.heap.size < W6.heap.size := by omega
          have a0 : W6.cell? ⟨w.heap.size, 0, none⟩ = some (.slice x.pp x.pl.length x.pc) := (hb6.cell (p := ⟨w.heap.size, 0, none⟩) (by simp only [World.size_alloc]; omega)).trans (by simp [go_sem])
          have a1 : W6.cell? ⟨w.heap.size, 1, none⟩ = some (.slice x.wp x.wl.length x.wc) := (hb6.cell (p := ⟨w.heap.size, 1, none⟩) (by simp only [World.size_alloc]; omega)).trans (by simp [go_sem])
          have q0 : W6.cell? ⟨w.heap.size + 1 + 1 + 1, 0, none⟩ = some (.int .i64 0) := (cell_of_row W6 _ 0 _ _ _ rR).trans rfl
          have q1 : W6.cell? ⟨w.heap.size + 1 + 1 + 1, 1, none⟩ = some (.int .i64 0) := (cell_of_row W6 _ 1 _ _ _ rR).trans rfl
          have q2 : W6.frozen? ⟨w.heap.size + 1 + 1 + 1, 0, none⟩ = false := frozen_row rR
          have q3 : W6.frozen? ⟨w.heap.size + 1 + 1 + 1, 1, none⟩ = false := frozen_row rR
          clear hb6 hrows hv3 cbl rR
          go_wp2_with (first | ((first | with_reducible refine wrx2 ?_ | with_reducible refine wrx ?_); (repeat (first | go_big_quiet_step ((first | (go_at_call 72; with_reducible exact Calls.ext (c2 _ bcl)) | (go_at_call 73; with_reducible exact Calls.ext (c3 _ bcl)) | (go_at_call 73; with_reducible exact Calls.ext (c4 _ bcl)))) | quiet_step ((first | (go_at_call 72; with_reducible exact Calls.ext (c2 _ bcl)) | (go_at_call 73; with_reducible exact Calls.ext (c3 _ bcl)) | (go_at_call 73; with_reducible exact Calls.ext (c4 _ bcl)))))); refine wpQuiet_nil ?_; rintro _ ⟨yr, rfl⟩; have syr := Ext.size yr; (repeat (first | rw [World.size_alloc] at syr | rw [World.size_setCell] at syr | rw [World.size_drew] at syr)); have : w.heap.size < yr.now.heap.size := (by omega); have : w.heap.size ≤ yr.now.heap.size := (by omega); have : w.heap.size < yr.now.heap.size + 1 + 1 := (by omega); have : w.heap.size + 1 + 1 + 1 < yr.now.heap.size := (by omega); have : w.heap.size + 1 + 1 + 1 ≤ yr.now.heap.size := (by omega); have : w.heap.size + 1 + 1 + 1 < yr.now.heap.size + 1 + 1 := (by omega)) | (go_at_call 72; (first | with_reducible refine (Calls.giv2 (c2 _ bcl)).mono ?_ | with_reducible refine (Calls.giv (c2 _ bcl)).mono ?_); rintro _ _ ⟨y1, rfl, rfl⟩; have sy1 := Ext.size y1; (repeat (first | rw [World.size_alloc] at sy1 | rw [World.size_setCell] at sy1 | rw [World.size_drew] at sy1)); have : w.heap.size < y1.now.heap.size := (by omega); have : w.heap.size ≤ y1.now.heap.size := (by omega); have : w.heap.size < y1.now.heap.size + 1 + 1 := (by omega); have : w.heap.size + 1 + 1 + 1 < y1.now.heap.size := (by omega); have : w.heap.size + 1 + 1 + 1 ≤ y1.now.heap.size := (by omega); have : w.heap.size + 1 + 1 + 1 < y1.now.heap.size + 1 + 1 := (by omega)) | (go_at_call 73; (first | with_reducible refine (Calls.giv2 (c3 _ bcl)).mono ?_ | with_reducible refine (Calls.giv (c3 _ bcl)).mono ?_); rintro _ _ ⟨y2, rfl, rfl⟩; have sy2 := Ext.size y2; (repeat (first | rw [World.size_alloc] at sy2 | rw [World.size_setCell] at sy2 | rw [World.size_drew] at sy2)); have : w.heap.size < y2.now.heap.size := (by omega); have : w.heap.size ≤ y2.now.heap.size := (by omega); have : w.heap.size < y2.now.heap.size + 1 + 1 := (by omega); have : w.heap.size + 1 + 1 + 1 < y2.now.heap.size := (by omega); have : w.heap.size + 1 + 1 + 1 ≤ y2.now.heap.size := (by omega); have : w.heap.size + 1 + 1 + 1 < y2.now.heap.size + 1 + 1 := (by omega)) | (go_at_call 73; (first | with_reducible refine (Calls.giv2 (c4 _ bcl)).mono ?_ | with_reducible refine (Calls.giv (c4 _ bcl)).mono ?_); rintro _ _ ⟨y3, rfl, rfl⟩; have sy3 := Ext.size y3; (repeat (first | rw [World.size_alloc] at sy3 | rw [World.size_setCell] at sy3 | rw [World.size_drew] at sy3)); have : w.heap.size < y3.now.heap.size := (by omega); have : w.heap.size ≤ y3.now.heap.size := (by omega); have : w.heap.size < y3.now.heap.size + 1 + 1 := (by omega); have : w.heap.size + 1 + 1 + 1 < y3.now.heap.size := (by omega); have : w.heap.size + 1 + 1 + 1 ≤ y3.now.heap.size := (by omega); have : w.heap.size + 1 + 1 + 1 < y3.now.heap.size + 1 + 1 := (by omega)))
          refine bodyPost_ret (v := .tuple #[.agg #[.int .i64 0, .int .i64 0], .int .i64 0, .int .i64 7]) (by simp (maxDischargeDepth := 9) [results, Tryd.results46, go_sem, q0, q1, lR]) rfl ?_
          refine ⟨rfl, ?_⟩
          repeat' (first | (with_reducible exact Below.refl _ _) | (with_reducible assumption) | (with_reducible refine Ext.below _ ?_ ?_) | (with_reducible refine Below.on ?_ (by with_reducible assumption) ?_) | (with_reducible refine Below.alloc ?_ ?_ _) | (with_reducible refine Below.drew ?_) | (with_reducible refine Below.setCell ?_ ?_ _) | (with_reducible exact Nat.le_refl _) | omega | (simp; done) | (simp [go_sem]; done) | (simp at *; omega))
        · rw [show rightB x a = false from decide_eq_false (fun q => h1 q.2)] at c3
          clear hl hg hx hT hT0 hE hS hc hn hok h1 c4
          go_enter Tryd.func46, Tryd.ntmps46
          go_upto_region 2 with (first | ((first | with_reducible refine wrx2 ?_ | with_reducible refine wrx ?_); (repeat (first | go_big_quiet_step ((first | fail)) | quiet_step ((first | fail)))); refine wpQuiet_nil ?_; rintro _ ⟨yr, rfl⟩; have syr := Ext.size yr; (repeat (first | rw [World.size_alloc] at syr | rw [World.size_setCell] at syr | rw [World.size_drew] at syr)); have : w.heap.size < yr.now.heap.size := (by omega); have : w.heap.size ≤ yr.now.heap.size := (by omega); have : w.heap.size < yr.now.heap.size + 1 + 1 := (by omega)) | (go_at_call 71; refine (cbl _ bcl).mono ?_; rintro _ W6 ⟨bv, rfl, hb6, hrows⟩; obtain ⟨q, cb, rfl, hv3⟩ := v3_of hrows))
          have hB6 : Below w.heap.size w W6 := by
            refine Below.trans ?_ (hb6.mono (by simp only [World.size_alloc]; omega))
            repeat' (first | (with_reducible exact Below.refl _ _) | (with_reducible assumption) | (with_reducible refine Ext.below _ ?_ ?_) | (with_reducible refine Below.on ?_ (by with_reducible assumption) ?_) | (with_reducible refine Below.alloc ?_ ?_ _) | (with_reducible refine Below.drew ?_) | (with_reducible refine Below.setCell ?_ ?_ _) | (with_reducible exact Nat.le_refl _) | omega | (simp; done) | (simp [go_sem]; done) | (simp at *; omega))
          have rR : W6.heap[w.heap.size + 1 + 1 + 1]? = some (.cells #[.int .i64 0, .int .i64 0] 29 (0, 0)) := (hb6.block _ (by simp only [World.size_alloc]; omega)).trans (by
            have := heap_alloc_new (((w.alloc (.cells #[.slice x.pp x.pl.length x.pc, .slice x.wp x.wl.length x.wc] 27)).alloc (.cells #[.int .i64 k.size.x, .int .i64 k.size.y, .int .i64 k.dens.x, .int .i64 k.dens.y, .int .i64 k.strong.x, .int .i64 k.strong.y, .int .i64 k.spin.x, .int .i64 k.spin.y, .int .i64 k.shape.x, .int .i64 k.shape.y, .bool k.pile] 31)).alloc (.cells #[.int .i64 f.speed.x, .int .i64 f.speed.y, .int .i64 f.slope.x, .int .i64 f.slope.y] 33)) (.cells #[.int .i64 0, .int .i64 0] 29)
            simpa only [World.size_alloc] using this)
          have sB6 := hB6.size
          have lR : w.heap.size + 1 + 1 + 1 < W6.heap.size := row_lt rR
          have l6 : w.heap.size < W6.heap.size := by omega
          have a0 : W6.cell? ⟨w.heap.size, 0, none⟩ = some (.slice x.pp x.pl.length x.pc) := (hb6.cell (p := ⟨w.heap.size, 0, none⟩) (by simp only [World.size_alloc]; omega)).trans (by simp [go_sem])
          have a1 : W6.cell? ⟨w.heap.size, 1, none⟩ = some (.slice x.wp x.wl.length x.wc) := (hb6.cell (p := ⟨w.heap.size, 1, none⟩) (by simp only [World.size_alloc]; omega)).trans (by simp [go_sem])
          have q0 : W6.cell? ⟨w.heap.size + 1 + 1 + 1, 0, none⟩ = some (.int .i64 0) := (cell_of_row W6 _ 0 _ _ _ rR).trans rfl
          have q1 : W6.cell? ⟨w.heap.size + 1 + 1 + 1, 1, none⟩ = some (.int .i64 0) := (cell_of_row W6 _ 1 _ _ _ rR).trans rfl
          have q2 : W6.frozen? ⟨w.heap.size + 1 + 1 + 1, 0, none⟩ = false := frozen_row rR
          have q3 : W6.frozen? ⟨w.heap.size + 1 + 1 + 1, 1, none⟩ = false := frozen_row rR
          clear hb6 hrows hv3 cbl rR
          go_wp2_with (first | ((first | with_reducible refine wrx2 ?_ | with_reducible refine wrx ?_); (repeat (first | go_big_quiet_step ((first | (go_at_call 72; with_reducible exact Calls.ext (c2 _ bcl)) | (go_at_call 73; with_reducible exact Calls.ext (c3 _ bcl)))) | quiet_step ((first | (go_at_call 72; with_reducible exact Calls.ext (c2 _ bcl)) | (go_at_call 73; with_reducible exact Calls.ext (c3 _ bcl)))))); refine wpQuiet_nil ?_; rintro _ ⟨yr, rfl⟩; have syr := Ext.size yr; (repeat (first | rw [World.size_alloc] at syr | rw [World.size_setCell] at syr | rw [World.size_drew] at syr)); have : w.heap.size < yr.now.heap.size := (by omega); have : w.heap.size ≤ yr.now.heap.size := (by omega); have : w.heap.size < yr.now.heap.size + 1 + 1 := (by omega); have : w.heap.size + 1 + 1 + 1 < yr.now.heap.size := (by omega); have : w.heap.size + 1 + 1 + 1 ≤ yr.now.heap.size := (by omega); have : w.heap.size + 1 + 1 + 1 < yr.now.heap.size + 1 + 1 := (by omega)) | (go_at_call 72; (first | with_reducible refine (Calls.giv2 (c2 _ bcl)).mono ?_ | with_reducible refine (Calls.giv (c2 _ bcl)).mono ?_); rintro _ _ ⟨y1, rfl, rfl⟩; have sy1 := Ext.size y1; (repeat (first | rw [World.size_alloc] at sy1 | rw [World.size_setCell] at sy1 | rw [World.size_drew] at sy1)); have : w.heap.size < y1.now.heap.size := (by omega); have : w.heap.size ≤ y1.now.heap.size := (by omega); have : w.heap.size < y1.now.heap.size + 1 + 1 := (by omega); have : w.heap.size + 1 + 1 + 1 < y1.now.heap.size := (by omega); have : w.heap.size + 1 + 1 + 1 ≤ y1.now.heap.size := (by omega); have : w.heap.size + 1 + 1 + 1 < y1.now.heap.size + 1 + 1 := (by omega)) | (go_at_call 73; (first | with_reducible refine (Calls.giv2 (c3 _ bcl)).mono ?_ | with_reducible refine (Calls.giv (c3 _ bcl)).mono ?_); rintro _ _ ⟨y2, rfl, rfl⟩; have sy2 := Ext.size y2; (repeat (first | rw [World.size_alloc] at sy2 | rw [World.size_setCell] at sy2 | rw [World.size_drew] at sy2)); have : w.heap.size < y2.now.heap.size := (by omega); have : w.heap.size ≤ y2.now.heap.size := (by omega); have : w.heap.size < y2.now.heap.size + 1 + 1 := (by omega); have : w.heap.size + 1 + 1 + 1 < y2.now.heap.size := (by omega); have : w.heap.size + 1 + 1 + 1 ≤ y2.now.heap.size := (by omega); have : w.heap.size + 1 + 1 + 1 < y2.now.heap.size + 1 + 1 := (by omega)))
          refine bodyPost_ret (v := .tuple #[.agg #[.int .i64 0, .int .i64 0], .int .i64 0, .int .i64 7]) (by simp (maxDischargeDepth := 9) [results, Tryd.results46, go_sem, q0, q1, lR]) rfl ?_
          refine ⟨rfl, ?_⟩
          repeat' (first | (with_reducible exact Below.refl _ _) | (with_reducible assumption) | (with_reducible refine Ext.below _ ?_ ?_) | (with_reducible refine Below.on ?_ (by with_reducible assumption) ?_) | (with_reducible refine Below.alloc ?_ ?_ _) | (with_reducible refine Below.drew ?_) | (with_reducible refine Below.setCell ?_ ?_ _) | (with_reducible exact Nat.le_refl _) | omega | (simp; done) | (simp [go_sem]; done) | (simp at *; omega))
    · have hT : tollE l g x k f a b = sceneE g x := by unfold tollE; rw [if_neg (by simpa using hE), if_pos hS]
      rw [hT]
      unfold LandR.val RockR.val FallR.val at *
      generalize sceneE g x = E at *
      clear hl hg hx hT hT0 hE hn c3 c4
      go_enter Tryd.func46, Tryd.ntmps46
      go_upto_region 2 with (first | ((first | with_reducible refine wrx2 ?_ | with_reducible refine wrx ?_); (repeat (first | go_big_quiet_step ((first | fail)) | quiet_step ((first | fail)))); refine wpQuiet_nil ?_; rintro _ ⟨yr, rfl⟩; have syr := Ext.size yr; (repeat (first | rw [World.size_alloc] at syr | rw [World.size_setCell] at syr | rw [World.size_drew] at syr)); have : w.heap.size < yr.now.heap.size := (by omega); have : w.heap.size ≤ yr.now.heap.size := (by omega); have : w.heap.size < yr.now.heap.size + 1 + 1 := (by omega)) | (go_at_call 71; refine (cbl _ bcl).mono ?_; rintro _ W6 ⟨bv, rfl, hb6, hrows⟩; obtain ⟨q, cb, rfl, hv3⟩ := v3_of hrows))
      have hB6 : Below w.heap.size w W6 := by
        refine Below.trans ?_ (hb6.mono (by simp only [World.size_alloc]; omega))
        repeat' (first | (with_reducible exact Below.refl _ _) | (with_reducible assumption) | (with_reducible refine Ext.below _ ?_ ?_) | (with_reducible refine Below.on ?_ (by with_reducible assumption) ?_) | (with_reducible refine Below.alloc ?_ ?_ _) | (with_reducible refine Below.drew ?_) | (with_reducible refine Below.setCell ?_ ?_ _) | (with_reducible exact Nat.le_refl _) | omega | (simp; done) | (simp [go_sem]; done) | (simp at *; omega))
      have rR : W6.heap[w.heap.size + 1 + 1 + 1]? = some (.cells #[.int .i64 0, .int .i64 0] 29 (0, 0)) := (hb6.block _ (by simp only [World.size_alloc]; omega)).trans (by
        have := heap_alloc_new (((w.alloc (.cells #[.slice x.pp x.pl.length x.pc, .slice x.wp x.wl.length x.wc] 27)).alloc (.cells #[.int .i64 k.size.x, .int .i64 k.size.y, .int .i64 k.dens.x, .int .i64 k.dens.y, .int .i64 k.strong.x, .int .i64 k.strong.y, .int .i64 k.spin.x, .int .i64 k.spin.y, .int .i64 k.shape.x, .int .i64 k.shape.y, .bool k.pile] 31)).alloc (.cells #[.int .i64 f.speed.x, .int .i64 f.speed.y, .int .i64 f.slope.x, .int .i64 f.slope.y] 33)) (.cells #[.int .i64 0, .int .i64 0] 29)
        simpa only [World.size_alloc] using this)
      have sB6 := hB6.size
      have lR : w.heap.size + 1 + 1 + 1 < W6.heap.size := row_lt rR
      have l6 : w.heap.size < W6.heap.size := by omega
      have a0 : W6.cell? ⟨w.heap.size, 0, none⟩ = some (.slice x.pp x.pl.length x.pc) := (hb6.cell (p := ⟨w.heap.size, 0, none⟩) (by simp only [World.size_alloc]; omega)).trans (by simp [go_sem])
      have a1 : W6.cell? ⟨w.heap.size, 1, none⟩ = some (.slice x.wp x.wl.length x.wc) := (hb6.cell (p := ⟨w.heap.size, 1, none⟩) (by simp only [World.size_alloc]; omega)).trans (by simp [go_sem])
      have q0 : W6.cell? ⟨w.heap.size + 1 + 1 + 1, 0, none⟩ = some (.int .i64 0) := (cell_of_row W6 _ 0 _ _ _ rR).trans rfl
      have q1 : W6.cell? ⟨w.heap.size + 1 + 1 + 1, 1, none⟩ = some (.int .i64 0) := (cell_of_row W6 _ 1 _ _ _ rR).trans rfl
      have q2 : W6.frozen? ⟨w.heap.size + 1 + 1 + 1, 0, none⟩ = false := frozen_row rR
      have q3 : W6.frozen? ⟨w.heap.size + 1 + 1 + 1, 1, none⟩ = false := frozen_row rR
      clear hb6 hrows hv3 cbl rR
      go_wp2_with (first | ((first | with_reducible refine wrx2 ?_ | with_reducible refine wrx ?_); (repeat (first | go_big_quiet_step ((first | (go_at_call 72; with_reducible exact Calls.ext (c2 _ bcl)))) | quiet_step ((first | (go_at_call 72; with_reducible exact Calls.ext (c2 _ bcl)))))); refine wpQuiet_nil ?_; rintro _ ⟨yr, rfl⟩; have syr := Ext.size yr; (repeat (first | rw [World.size_alloc] at syr | rw [World.size_setCell] at syr | rw [World.size_drew] at syr)); have : w.heap.size < yr.now.heap.size := (by omega); have : w.heap.size ≤ yr.now.heap.size := (by omega); have : w.heap.size < yr.now.heap.size + 1 + 1 := (by omega); have : w.heap.size + 1 + 1 + 1 < yr.now.heap.size := (by omega); have : w.heap.size + 1 + 1 + 1 ≤ yr.now.heap.size := (by omega); have : w.heap.size + 1 + 1 + 1 < yr.now.heap.size + 1 + 1 := (by omega)) | (go_at_call 72; (first | with_reducible refine (Calls.giv2 (c2 _ bcl)).mono ?_ | with_reducible refine (Calls.giv (c2 _ bcl)).mono ?_); rintro _ _ ⟨y1, rfl, rfl⟩; have sy1 := Ext.size y1; (repeat (first | rw [World.size_alloc] at sy1 | rw [World.size_setCell] at sy1 | rw [World.size_drew] at sy1)); have : w.heap.size < y1.now.heap.size := (by omega); have : w.heap.size ≤ y1.now.heap.size := (by omega); have : w.heap.size < y1.now.heap.size + 1 + 1 := (by omega); have : w.heap.size + 1 + 1 + 1 < y1.now.heap.size := (by omega); have : w.heap.size + 1 + 1 + 1 ≤ y1.now.heap.size := (by omega); have : w.heap.size + 1 + 1 + 1 < y1.now.heap.size + 1 + 1 := (by omega)))
      refine bodyPost_ret (v := .tuple #[.agg #[.int .i64 0, .int .i64 0], .int .i64 0, .int .i64 E]) (by simp (maxDischargeDepth := 9) [results, Tryd.results46, go_sem, q0, q1, lR]) rfl ?_
      refine ⟨rfl, ?_⟩
      repeat' (first | (with_reducible exact Below.refl _ _) | (with_reducible assumption) | (with_reducible refine Ext.below _ ?_ ?_) | (with_reducible refine Below.on ?_ (by with_reducible assumption) ?_) | (with_reducible refine Below.alloc ?_ ?_ _) | (with_reducible refine Below.drew ?_) | (with_reducible refine Below.setCell ?_ ?_ _) | (with_reducible exact Nat.le_refl _) | omega | (simp; done) | (simp [go_sem]; done) | (simp at *; omega))
  · have hT : tollE l g x k f a b = blowsE l k f := by unfold tollE; rw [if_pos hE]
    rw [hT]
    unfold LandR.val RockR.val FallR.val at *
    generalize blowsE l k f = E at *
    clear hl hg hx hT hT0 hn c2 c3 c4
    go_enter Tryd.func46, Tryd.ntmps46
    go_upto_region 2 with (first | ((first | with_reducible refine wrx2 ?_ | with_reducible refine wrx ?_); (repeat (first | go_big_quiet_step ((first | fail)) | quiet_step ((first | fail)))); refine wpQuiet_nil ?_; rintro _ ⟨yr, rfl⟩; have syr := Ext.size yr; (repeat (first | rw [World.size_alloc] at syr | rw [World.size_setCell] at syr | rw [World.size_drew] at syr)); have : w.heap.size < yr.now.heap.size := (by omega); have : w.heap.size ≤ yr.now.heap.size := (by omega); have : w.heap.size < yr.now.heap.size + 1 + 1 := (by omega)) | (go_at_call 71; refine (cbl _ bcl).mono ?_; rintro _ W6 ⟨bv, rfl, hb6, hrows⟩; obtain ⟨q, cb, rfl, hv3⟩ := v3_of hrows))
    have hB6 : Below w.heap.size w W6 := by
      refine Below.trans ?_ (hb6.mono (by simp only [World.size_alloc]; omega))
      repeat' (first | (with_reducible exact Below.refl _ _) | (with_reducible assumption) | (with_reducible refine Ext.below _ ?_ ?_) | (with_reducible refine Below.on ?_ (by with_reducible assumption) ?_) | (with_reducible refine Below.alloc ?_ ?_ _) | (with_reducible refine Below.drew ?_) | (with_reducible refine Below.setCell ?_ ?_ _) | (with_reducible exact Nat.le_refl _) | omega | (simp; done) | (simp [go_sem]; done) | (simp at *; omega))
    have rR : W6.heap[w.heap.size + 1 + 1 + 1]? = some (.cells #[.int .i64 0, .int .i64 0] 29 (0, 0)) := (hb6.block _ (by simp only [World.size_alloc]; omega)).trans (by
      have := heap_alloc_new (((w.alloc (.cells #[.slice x.pp x.pl.length x.pc, .slice x.wp x.wl.length x.wc] 27)).alloc (.cells #[.int .i64 k.size.x, .int .i64 k.size.y, .int .i64 k.dens.x, .int .i64 k.dens.y, .int .i64 k.strong.x, .int .i64 k.strong.y, .int .i64 k.spin.x, .int .i64 k.spin.y, .int .i64 k.shape.x, .int .i64 k.shape.y, .bool k.pile] 31)).alloc (.cells #[.int .i64 f.speed.x, .int .i64 f.speed.y, .int .i64 f.slope.x, .int .i64 f.slope.y] 33)) (.cells #[.int .i64 0, .int .i64 0] 29)
      simpa only [World.size_alloc] using this)
    have sB6 := hB6.size
    have lR : w.heap.size + 1 + 1 + 1 < W6.heap.size := row_lt rR
    have l6 : w.heap.size < W6.heap.size := by omega
    have a0 : W6.cell? ⟨w.heap.size, 0, none⟩ = some (.slice x.pp x.pl.length x.pc) := (hb6.cell (p := ⟨w.heap.size, 0, none⟩) (by simp only [World.size_alloc]; omega)).trans (by simp [go_sem])
    have a1 : W6.cell? ⟨w.heap.size, 1, none⟩ = some (.slice x.wp x.wl.length x.wc) := (hb6.cell (p := ⟨w.heap.size, 1, none⟩) (by simp only [World.size_alloc]; omega)).trans (by simp [go_sem])
    have q0 : W6.cell? ⟨w.heap.size + 1 + 1 + 1, 0, none⟩ = some (.int .i64 0) := (cell_of_row W6 _ 0 _ _ _ rR).trans rfl
    have q1 : W6.cell? ⟨w.heap.size + 1 + 1 + 1, 1, none⟩ = some (.int .i64 0) := (cell_of_row W6 _ 1 _ _ _ rR).trans rfl
    have q2 : W6.frozen? ⟨w.heap.size + 1 + 1 + 1, 0, none⟩ = false := frozen_row rR
    have q3 : W6.frozen? ⟨w.heap.size + 1 + 1 + 1, 1, none⟩ = false := frozen_row rR
    clear hb6 hrows hv3 cbl rR
    go_wp2_with (first | ((first | with_reducible refine wrx2 ?_ | with_reducible refine wrx ?_); (repeat (first | go_big_quiet_step ((first | fail)) | quiet_step ((first | fail)))); refine wpQuiet_nil ?_; rintro _ ⟨yr, rfl⟩; have syr := Ext.size yr; (repeat (first | rw [World.size_alloc] at syr | rw [World.size_setCell] at syr | rw [World.size_drew] at syr)); have : w.heap.size < yr.now.heap.size := (by omega); have : w.heap.size ≤ yr.now.heap.size := (by omega); have : w.heap.size < yr.now.heap.size + 1 + 1 := (by omega); have : w.heap.size + 1 + 1 + 1 < yr.now.heap.size := (by omega); have : w.heap.size + 1 + 1 + 1 ≤ yr.now.heap.size := (by omega); have : w.heap.size + 1 + 1 + 1 < yr.now.heap.size + 1 + 1 := (by omega)))
    refine bodyPost_ret (v := .tuple #[.agg #[.int .i64 0, .int .i64 0], .int .i64 0, .int .i64 E]) (by simp (maxDischargeDepth := 9) [results, Tryd.results46, go_sem, q0, q1]) rfl ?_
    refine ⟨rfl, ?_⟩
    repeat' (first | (with_reducible exact Below.refl _ _) | (with_reducible assumption) | (with_reducible refine Ext.below _ ?_ ?_) | (with_reducible refine Below.on ?_ (by with_reducible assumption) ?_) | (with_reducible refine Below.alloc ?_ ?_ _) | (with_reducible refine Below.drew ?_) | (with_reducible refine Below.setCell ?_ ?_ _) | (with_reducible exact Nat.le_refl _) | omega | (simp; done) | (simp [go_sem]; done) | (simp at *; omega))
end Go.Proofs.YtlmhbggigbmeaaaDoor

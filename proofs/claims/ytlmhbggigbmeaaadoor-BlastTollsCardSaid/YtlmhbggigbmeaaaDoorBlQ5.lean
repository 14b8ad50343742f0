/- The reference's wave and Wave, for any arguments. Condition: the land stands in memory. -/
import Derived.Test.YtlmhbggigbmeaaaDoorBlQ4
namespace Go.Proofs.YtlmhbggigbmeaaaDoor
open Go.RowKit Go.Shelf
attribute [local go_sem] Option.isSome_some Ext.cell Ext.frozen Ext.lt Ext.le Ext.lt_add Ext.le_add Ext.ne Ext.ne' lt2 lt3 lt4 lt5 le2 le3 le4
/-- What a wave has summed when one side, and the other one is done. -/
def wsum (x : LandR) (a : Int) (k : Nat) : Nat → Int
  | 0 => x.pl.getD a.toNat 0
  | 1 => x.pl.getD a.toNat 0 + rsum x (-1) k a
  | _ => x.pl.getD a.toNat 0 + rsum x (-1) k a + rsum x 1 k a
/-- Where a wave is after some steps, and whether there is water. -/
def pos (a sd : Int) (n : Nat) : Int := a + sd * n
def wat (x : LandR) (c : Int) : Bool := x.wl.getD c.toNat false
def side (j : Nat) : Int := if j = 0 then -1 else 1
theorem wsum_succ (x : LandR) (a : Int) (k j : Nat) (h : j < 2) : wsum x a k (j + 1) = wsum x a k j + rsum x (side j) k a := by
  rcases (show j = 0 ∨ j = 1 by omega) with rfl | rfl <;> rfl
theorem rsum_bound {x : LandR} (hok : x.Ok) (dr : Int) : ∀ (k : Nat) (a : Int), 0 ≤ rsum x dr k a ∧ rsum x dr k a ≤ 4294967296 * k
  | 0, a => by simp [rsum]
  | k + 1, a => by
    unfold rsum
    split
    · rename_i h
      have ih := rsum_bound hok dr k (a + dr)
      have hn := hok.num (x.pl[(a + dr).toNat]'(by omega)) (List.getElem_mem _)
      rw [getD_at _ _ (by omega)]
      omega
    · omega
set_option maxRecDepth 100000 in
set_option maxHeartbeats 8000000 in
theorem rwave_any (x : LandR) (a r : Int) (w : World) (hx : x.At w) (hok : x.Ok) (h0 : 0 ≤ a) (h1 : a < x.pl.length) (hwt : x.wl.getD a.toNat false = true) (hr : 0 ≤ r) (hr4 : r ≤ 400) : Calls Tryd.prog 98 #[x.val, .int .i64 a, .int .i64 r] w (Gives (.int .i64 (waveV x a r)) w) := by
  have hE0 := wave_sum hok h0 h1 hr
  rw [show min r 400 = r by omega] at hE0
  obtain ⟨V, hV⟩ : ∃ V, waveV x a r = V := ⟨_, rfl⟩
  rw [hV] at hE0 ⊢
  clear hV
  have hle := hok.le
  have hlen := hok.len
  have hW2 : wsum x a r.toNat 2 = V := hE0
  clear hE0
  obtain ⟨a, rfl⟩ := Int.eq_ofNat_of_zero_le h0
  have h1n : a < x.pl.length := by omega
  have hlt2 : (a : Int) < x.pl.length := h1
  obtain ⟨B, o, hp, hB, c1⟩ := hx.nums a h1n
  have hn0 := hok.num x.pl[a] (List.getElem_mem h1n)
  have hS0 : wsum x a r.toNat 0 = x.pl[a] := getD_at _ _ h1n
  have hnums := Go.Lib.hid hx.nums
  have hbools := Go.Lib.hid hx.bools
  replace hok := Go.Lib.hid hok
  replace hW2 := Go.Lib.hid hW2
  replace hwt := Go.Lib.hid hwt
  rw [← hS0] at c1 hn0
  replace hS0 := Go.Lib.hid hS0
  unfold LandR.val
  rw [hlen]
  rw [hp]
  clear hx
  obtain ⟨S0, hS⟩ : ∃ S0, wsum x a r.toNat 0 = S0 := ⟨_, rfl⟩
  rw [hS] at c1 hn0
  replace hS := Go.Lib.hid hS
  have ha4 : (a : Int) ≤ 400 := by omega
  go_enter Tryd.func98, Tryd.ntmps98
  go_wp2_with (first | ((first | with_reducible refine wrx2 ?_ | with_reducible refine wrx ?_); (repeat (first | go_big_quiet_step ((first | fail)) | quiet_step ((first | fail)))); refine wpQuiet_nil ?_; rintro _ ⟨yr, rfl⟩; have syr := Ext.size yr; (repeat (first | rw [World.size_alloc] at syr | rw [World.size_setCell] at syr | rw [World.size_drew] at syr)); have : w.heap.size < yr.now.heap.size := (by omega); have : w.heap.size ≤ yr.now.heap.size := (by omega); have : w.heap.size < yr.now.heap.size + 1 + 1 := (by omega); have : B < yr.now.heap.size := (by omega); have : B ≤ yr.now.heap.size := (by omega); have : B < yr.now.heap.size + 1 + 1 := (by omega)))
  refine wp_named (fun W0 hW => ?_)
  obtain ⟨KB, hKB⟩ : ∃ n, w.heap.size = n := ⟨_, rfl⟩
  have a0 : W0.cell? ⟨KB, 0, none⟩ = some (.slice (some ⟨B, o, none⟩) x.pl.length x.pc) := by rw [← hW, ← hKB]; simp [go_sem]
  have a1 : W0.cell? ⟨KB, 1, none⟩ = some (.slice x.wp x.pl.length x.wc) := by rw [← hW, ← hKB]; simp [go_sem]
  have e0 : W0.cell? ⟨KB + 1, 0, none⟩ = some (.int .i64 (-1)) := by rw [← hW, ← hKB]; simp [go_sem]
  have e1 : W0.cell? ⟨KB + 1, 1, none⟩ = some (.int .i64 1) := by rw [← hW, ← hKB]; simp [go_sem]
  have hB0 : Below w.heap.size w W0 := by rw [← hW]; repeat' (first | (with_reducible exact Below.refl _ _) | (with_reducible assumption) | (with_reducible refine Ext.below _ ?_ ?_) | (with_reducible refine Below.on ?_ (by with_reducible assumption) ?_) | (with_reducible refine Below.alloc ?_ ?_ _) | (with_reducible refine Below.drew ?_) | (with_reducible refine Below.setCell ?_ ?_ _) | (with_reducible exact Nat.le_refl _) | omega | (simp; done) | (simp [go_sem]; done) | (simp at *; omega))
  have hs0 : KB + 1 < W0.heap.size := by rw [← hW, ← hKB]; simp
  have hs1 : KB < W0.heap.size := by omega
  have hs2 : w.heap.size ≤ W0.heap.size := hB0.size
  have hnums0 := Go.Lib.hid (hnums.out.on hB0)
  have hbools0 := Go.Lib.hid (hbools.out.on hB0)
  rw [hKB]
  clear hW c1
  replace hKB := Go.Lib.hid hKB
  obtain ⟨k, hk⟩ : ∃ k : Nat, r = k := ⟨r.toNat, by omega⟩
  subst hk
  simp only [Int.toNat_natCast] at hS0 hS hW2
  go_loopw [7, 20] (fun u t W => ∃ (j : Nat) (s : Int) (y : Ext W0), u = .int .i64 s ∧ t = .int .i64 j ∧ W = y.now ∧ Hid (j ≤ 2 ∧ wsum x a k j = s ∧ 0 ≤ s ∧ s ≤ 4294967296 * (1 + j * k))) (fun _ t _ => 2 - (intOf t).toNat)
  case atStart => exact ⟨0, S0, ⟨W0, Below.refl _ _⟩, rfl, rfl, rfl, Go.Lib.hid ⟨by omega, hS.out, hn0.1, by omega⟩⟩
  case round =>
    obtain ⟨j, s, y, rfl, rfl, rfl, hi⟩ := hrel
    have ys := y.size
    by_cases hj : j < 2
    · have hj2 : (j : Int) < 2 := by omega
      obtain ⟨-, g1, g2, g3⟩ := hi.out
      have hnext := wsum_succ x a k j hj
      have hrb := rsum_bound hok.out (side j) k a
      have hs4 : s ≤ 4294967296 * 401 := by
        rcases (show j = 0 ∨ j = 1 by omega) with rfl | rfl <;> simp at g3 <;> omega
      have hb4 : 0 ≤ wsum x a k (j + 1) ∧ wsum x a k (j + 1) ≤ 4294967296 * (1 + ((j + 1 : Nat) : Int) * k) := by
        rw [hnext, g1]
        rcases (show j = 0 ∨ j = 1 by omega) with rfl | rfl <;> simp at g3 ⊢ <;> omega
      rw [g1] at hnext
      obtain ⟨T, hT⟩ : ∃ T, wsum x a k (j + 1) = T := ⟨_, rfl⟩
      rw [hT] at hnext hb4
      have hT2 := Go.Lib.hid hT
      have hb5 := Go.Lib.hid hb4
      have hnext2 := Go.Lib.hid hnext
      have hsd : side j = -1 ∨ side j = 1 := by unfold side; split <;> simp
      have hsc : W0.cell? ⟨KB + 1, j, none⟩ = some (.int .i64 (side j)) := by
        rcases (show j = 0 ∨ j = 1 by omega) with rfl | rfl
        · exact e0
        · exact e1
      clear hi g1 g3 hrb hnext hb4 hT e0 e1
      generalize side j = sd at *
      go_wp2_with (first | ((first | with_reducible refine wrx2 ?_ | with_reducible refine wrx ?_); (repeat (first | go_big_quiet_step ((first | fail)) | quiet_step ((first | fail)))); refine wpQuiet_nil ?_; rintro _ ⟨yr, rfl⟩; have syr := Ext.size yr; (repeat (first | rw [World.size_alloc] at syr | rw [World.size_setCell] at syr | rw [World.size_drew] at syr)); have : KB < yr.now.heap.size := (by omega); have : KB ≤ yr.now.heap.size := (by omega); have : KB < yr.now.heap.size + 1 + 1 := (by omega); have : KB + 1 < yr.now.heap.size := (by omega); have : KB + 1 ≤ yr.now.heap.size := (by omega); have : KB + 1 < yr.now.heap.size + 1 + 1 := (by omega)))
      clear hsc hj
      rcases hsd with rfl | rfl
      · have hp0 : ∀ sd : Int, pos a sd 0 = a := fun sd => by simp [pos]
        go_loopw [7, 10, 11] (fun u b t W => ∃ (n : Nat) (acc : Int) (z : Ext W0), u = .int .i64 acc ∧ b = .bool (wat x (pos a ((-1)) n)) ∧ t = .int .i64 ((n : Int) + 1) ∧ W = z.now ∧ Hid (n ≤ k ∧ (0 ≤ pos a ((-1)) n ∧ pos a ((-1)) n < x.pl.length) ∧ acc + rsum x ((-1)) (k - n) (pos a ((-1)) n) = T ∧ 0 ≤ acc ∧ acc ≤ 4294967296 * (401 + n))) (fun _ _ t _ => k + 1 - (intOf t).toNat)
        case atStart => exact ⟨0, s, y, rfl, by rw [hp0]; exact congrArg Value.bool hwt.out.symm, rfl, rfl, Go.Lib.hid ⟨Nat.zero_le _, by rw [hp0]; omega, by rw [hp0]; simpa using hnext2.out.symm, g2, by omega⟩⟩
        case round =>
          obtain ⟨n, acc, z, rfl, rfl, rfl, rfl, hi⟩ := hrel
          have zs := z.size
          obtain ⟨n1, ⟨n2, n3⟩, n5, n6, n7⟩ := hi.out
          clear hi hp0
          have hn4 : (n : Int) ≤ 400 := by omega
          have n8 : acc ≤ 4294967296 * 801 := by omega
          obtain ⟨rb, n4⟩ : ∃ rb, wat x (pos a (-1) n) = rb := ⟨_, rfl⟩
          rw [n4]
          by_cases hn : n < k
          · have hn1 : (n : Int) + 1 ≤ k := by omega
            rw [show k - n = (k - (n + 1)) + 1 by omega, rsum, show x.wl.getD (pos a (-1) n).toNat false = rb from n4] at n5
            cases rb
            · have eT : acc = T := by simpa using n5
              clear n5 n4
              go_wp2_with (first | ((first | with_reducible refine wrx2 ?_ | with_reducible refine wrx ?_); (repeat (first | go_big_quiet_step ((first | fail)) | quiet_step ((first | fail)))); refine wpQuiet_nil ?_; rintro _ ⟨yr, rfl⟩; have syr := Ext.size yr; (repeat (first | rw [World.size_alloc] at syr | rw [World.size_setCell] at syr | rw [World.size_drew] at syr)); have : KB < yr.now.heap.size := (by omega); have : KB ≤ yr.now.heap.size := (by omega); have : KB < yr.now.heap.size + 1 + 1 := (by omega); have : KB + 1 < yr.now.heap.size := (by omega); have : KB + 1 ≤ yr.now.heap.size := (by omega); have : KB + 1 < yr.now.heap.size + 1 + 1 := (by omega)))
              exact ⟨⟨j + 1, T, z, by first | rfl | rw [eT], by simp, rfl, Go.Lib.hid ⟨by omega, hT2.out, hb5.out⟩⟩, by simp [intOf]; omega⟩
            · obtain ⟨I, hI⟩ : ∃ I, (a : Int) + -((n : Int) + 1) = I := ⟨_, rfl⟩
              rw [show pos a ((-1)) n + (-1) = I by unfold pos; omega] at n5
              go_upto_region 10 with (first | ((first | with_reducible refine wrx2 ?_ | with_reducible refine wrx ?_); (repeat (first | go_big_quiet_step ((first | fail)) | quiet_step ((first | fail)))); refine wpQuiet_nil ?_; rintro _ ⟨yr, rfl⟩; have syr := Ext.size yr; (repeat (first | rw [World.size_alloc] at syr | rw [World.size_setCell] at syr | rw [World.size_drew] at syr)); have : KB < yr.now.heap.size := (by omega); have : KB ≤ yr.now.heap.size := (by omega); have : KB < yr.now.heap.size + 1 + 1 := (by omega); have : KB + 1 < yr.now.heap.size := (by omega); have : KB + 1 ≤ yr.now.heap.size := (by omega); have : KB + 1 < yr.now.heap.size + 1 + 1 := (by omega)))
              (try rw [hI])
              by_cases hc : 0 ≤ I ∧ I < x.pl.length
              · rw [if_pos ⟨rfl, hc⟩] at n5
                obtain ⟨hc0, hc1⟩ := hc
                obtain ⟨c, rfl⟩ := Int.eq_ofNat_of_zero_le hc0
                have hcl : c < x.pl.length := by omega
                have hcw : c < x.wl.length := by omega
                obtain ⟨B', o', hp', hB', d1⟩ := hnums0.out c hcl
                rw [hp] at hp'
                injection hp' with hp'
                injection hp' with q1 q2
                subst q1 q2
                obtain ⟨B2, o2, hp2, hB2, d2⟩ := hbools0.out c hcw
                have hnc := hok.out.num x.pl[c] (List.getElem_mem hcl)
                rw [Int.toNat_natCast, getD_at c 0 hcl] at n5
                have hps : pos a ((-1)) (n + 1) = c := by unfold pos; omega
                have hwc : x.wl[c] = wat x (pos a ((-1)) (n + 1)) := by rw [hps]; exact (getD_at c false hcw).symm
                have key : Hid (n + 1 ≤ k ∧ (0 ≤ pos a ((-1)) (n + 1) ∧ pos a ((-1)) (n + 1) < x.pl.length) ∧ acc + x.pl[c] + rsum x ((-1)) (k - (n + 1)) (pos a ((-1)) (n + 1)) = T ∧ 0 ≤ acc + x.pl[c] ∧ acc + x.pl[c] ≤ 4294967296 * (401 + ((n + 1 : Nat) : Int))) := by
                  rw [hps]
                  exact Go.Lib.hid ⟨hn, ⟨hc0, hc1⟩, by omega, by omega, by omega⟩
                clear hps
                obtain ⟨m1, m2⟩ := hnc
                clear n5 n4 n7 hn
                generalize x.pl[c] = t1 at *
                generalize x.wl[c] = t2 at *
                rw [hp2] at a1
                go_wp2_with (first | ((first | with_reducible refine wrx2 ?_ | with_reducible refine wrx ?_); (repeat (first | go_big_quiet_step ((first | fail)) | quiet_step ((first | fail)))); refine wpQuiet_nil ?_; rintro _ ⟨yr, rfl⟩; have syr := Ext.size yr; (repeat (first | rw [World.size_alloc] at syr | rw [World.size_setCell] at syr | rw [World.size_drew] at syr)); have : KB < yr.now.heap.size := (by omega); have : KB ≤ yr.now.heap.size := (by omega); have : KB < yr.now.heap.size + 1 + 1 := (by omega); have : KB + 1 < yr.now.heap.size := (by omega); have : KB + 1 ≤ yr.now.heap.size := (by omega); have : KB + 1 < yr.now.heap.size + 1 + 1 := (by omega); have : B < yr.now.heap.size := (by omega); have : B ≤ yr.now.heap.size := (by omega); have : B < yr.now.heap.size + 1 + 1 := (by omega); have : B2 < yr.now.heap.size := (by omega); have : B2 ≤ yr.now.heap.size := (by omega); have : B2 < yr.now.heap.size + 1 + 1 := (by omega)))
                exact ⟨⟨.int .i64 (acc + t1), .bool (wat x (pos a (-1) (n + 1))), .int .i64 ((n : Int) + 1 + 1), ⟨n + 1, acc + t1, rfl, rfl, by simp, ⟨z, rfl⟩, key⟩, rfl, rfl, rfl⟩, by simp [intOf]; omega⟩
              · rw [if_neg (fun q => hc q.2)] at n5
                have eT : acc = T := by omega
                rcases (show I < 0 ∨ (0 ≤ I ∧ ¬ I < x.pl.length) by omega) with m1 | ⟨m1, m2⟩
                all_goals clear n5 n4 hc
                all_goals go_wp2_with (first | ((first | with_reducible refine wrx2 ?_ | with_reducible refine wrx ?_); (repeat (first | go_big_quiet_step ((first | fail)) | quiet_step ((first | fail)))); refine wpQuiet_nil ?_; rintro _ ⟨yr, rfl⟩; have syr := Ext.size yr; (repeat (first | rw [World.size_alloc] at syr | rw [World.size_setCell] at syr | rw [World.size_drew] at syr)); have : KB < yr.now.heap.size := (by omega); have : KB ≤ yr.now.heap.size := (by omega); have : KB < yr.now.heap.size + 1 + 1 := (by omega); have : KB + 1 < yr.now.heap.size := (by omega); have : KB + 1 ≤ yr.now.heap.size := (by omega); have : KB + 1 < yr.now.heap.size + 1 + 1 := (by omega)))
                all_goals exact ⟨⟨j + 1, T, _, by first | rfl | rw [eT], by simp, rfl, Go.Lib.hid ⟨by omega, hT2.out, hb5.out⟩⟩, by simp [intOf]; omega⟩
          · have hn2 : ¬ (n : Int) + 1 ≤ k := by omega
            rw [show k - n = 0 by omega, rsum] at n5
            have eT : acc = T := by omega
            clear n5 n4
            go_wp2_with (first | ((first | with_reducible refine wrx2 ?_ | with_reducible refine wrx ?_); (repeat (first | go_big_quiet_step ((first | fail)) | quiet_step ((first | fail)))); refine wpQuiet_nil ?_; rintro _ ⟨yr, rfl⟩; have syr := Ext.size yr; (repeat (first | rw [World.size_alloc] at syr | rw [World.size_setCell] at syr | rw [World.size_drew] at syr)); have : KB < yr.now.heap.size := (by omega); have : KB ≤ yr.now.heap.size := (by omega); have : KB < yr.now.heap.size + 1 + 1 := (by omega); have : KB + 1 < yr.now.heap.size := (by omega); have : KB + 1 ≤ yr.now.heap.size := (by omega); have : KB + 1 < yr.now.heap.size + 1 + 1 := (by omega)))
            exact ⟨⟨j + 1, T, z, by first | rfl | rw [eT], by simp, rfl, Go.Lib.hid ⟨by omega, hT2.out, hb5.out⟩⟩, by simp [intOf]; omega⟩
      · have hp0 : ∀ sd : Int, pos a sd 0 = a := fun sd => by simp [pos]
        go_loopw [7, 10, 11] (fun u b t W => ∃ (n : Nat) (acc : Int) (z : Ext W0), u = .int .i64 acc ∧ b = .bool (wat x (pos a (1) n)) ∧ t = .int .i64 ((n : Int) + 1) ∧ W = z.now ∧ Hid (n ≤ k ∧ (0 ≤ pos a (1) n ∧ pos a (1) n < x.pl.length) ∧ acc + rsum x (1) (k - n) (pos a (1) n) = T ∧ 0 ≤ acc ∧ acc ≤ 4294967296 * (401 + n))) (fun _ _ t _ => k + 1 - (intOf t).toNat)
        case atStart => exact ⟨0, s, y, rfl, by rw [hp0]; exact congrArg Value.bool hwt.out.symm, rfl, rfl, Go.Lib.hid ⟨Nat.zero_le _, by rw [hp0]; omega, by rw [hp0]; simpa using hnext2.out.symm, g2, by omega⟩⟩
        case round =>
          obtain ⟨n, acc, z, rfl, rfl, rfl, rfl, hi⟩ := hrel
          have zs := z.size
          obtain ⟨n1, ⟨n2, n3⟩, n5, n6, n7⟩ := hi.out
          clear hi hp0
          have hn4 : (n : Int) ≤ 400 := by omega
          have n8 : acc ≤ 4294967296 * 801 := by omega
          obtain ⟨rb, n4⟩ : ∃ rb, wat x (pos a 1 n) = rb := ⟨_, rfl⟩
          rw [n4]
          by_cases hn : n < k
          · have hn1 : (n : Int) + 1 ≤ k := by omega
            rw [show k - n = (k - (n + 1)) + 1 by omega, rsum, show x.wl.getD (pos a 1 n).toNat false = rb from n4] at n5
            cases rb
            · have eT : acc = T := by simpa using n5
              clear n5 n4
              go_wp2_with (first | ((first | with_reducible refine wrx2 ?_ | with_reducible refine wrx ?_); (repeat (first | go_big_quiet_step ((first | fail)) | quiet_step ((first | fail)))); refine wpQuiet_nil ?_; rintro _ ⟨yr, rfl⟩; have syr := Ext.size yr; (repeat (first | rw [World.size_alloc] at syr | rw [World.size_setCell] at syr | rw [World.size_drew] at syr)); have : KB < yr.now.heap.size := (by omega); have : KB ≤ yr.now.heap.size := (by omega); have : KB < yr.now.heap.size + 1 + 1 := (by omega); have : KB + 1 < yr.now.heap.size := (by omega); have : KB + 1 ≤ yr.now.heap.size := (by omega); have : KB + 1 < yr.now.heap.size + 1 + 1 := (by omega)))
              exact ⟨⟨j + 1, T, z, by first | rfl | rw [eT], by simp, rfl, Go.Lib.hid ⟨by omega, hT2.out, hb5.out⟩⟩, by simp [intOf]; omega⟩
            · obtain ⟨I, hI⟩ : ∃ I, (a : Int) + ((n : Int) + 1) = I := ⟨_, rfl⟩
              rw [show pos a (1) n + 1 = I by unfold pos; omega] at n5
              go_upto_region 10 with (first | ((first | with_reducible refine wrx2 ?_ | with_reducible refine wrx ?_); (repeat (first | go_big_quiet_step ((first | fail)) | quiet_step ((first | fail)))); refine wpQuiet_nil ?_; rintro _ ⟨yr, rfl⟩; have syr := Ext.size yr; (repeat (first | rw [World.size_alloc] at syr | rw [World.size_setCell] at syr | rw [World.size_drew] at syr)); have : KB < yr.now.heap.size := (by omega); have : KB ≤ yr.now.heap.size := (by omega); have : KB < yr.now.heap.size + 1 + 1 := (by omega); have : KB + 1 < yr.now.heap.size := (by omega); have : KB + 1 ≤ yr.now.heap.size := (by omega); have : KB + 1 < yr.now.heap.size + 1 + 1 := (by omega)))
              (try rw [hI])
              by_cases hc : 0 ≤ I ∧ I < x.pl.length
              · rw [if_pos ⟨rfl, hc⟩] at n5
                obtain ⟨hc0, hc1⟩ := hc
                obtain ⟨c, rfl⟩ := Int.eq_ofNat_of_zero_le hc0
                have hcl : c < x.pl.length := by omega
                have hcw : c < x.wl.length := by omega
                obtain ⟨B', o', hp', hB', d1⟩ := hnums0.out c hcl
                rw [hp] at hp'
                injection hp' with hp'
                injection hp' with q1 q2
                subst q1 q2
                obtain ⟨B2, o2, hp2, hB2, d2⟩ := hbools0.out c hcw
                have hnc := hok.out.num x.pl[c] (List.getElem_mem hcl)
                rw [Int.toNat_natCast, getD_at c 0 hcl] at n5
                have hps : pos a (1) (n + 1) = c := by unfold pos; omega
                have hwc : x.wl[c] = wat x (pos a (1) (n + 1)) := by rw [hps]; exact (getD_at c false hcw).symm
                have key : Hid (n + 1 ≤ k ∧ (0 ≤ pos a (1) (n + 1) ∧ pos a (1) (n + 1) < x.pl.length) ∧ acc + x.pl[c] + rsum x (1) (k - (n + 1)) (pos a (1) (n + 1)) = T ∧ 0 ≤ acc + x.pl[c] ∧ acc + x.pl[c] ≤ 4294967296 * (401 + ((n + 1 : Nat) : Int))) := by
                  rw [hps]
                  exact Go.Lib.hid ⟨hn, ⟨hc0, hc1⟩, by omega, by omega, by omega⟩
                clear hps
                obtain ⟨m1, m2⟩ := hnc
                clear n5 n4 n7 hn
                generalize x.pl[c] = t1 at *
                generalize x.wl[c] = t2 at *
                rw [hp2] at a1
                go_wp2_with (first | ((first | with_reducible refine wrx2 ?_ | with_reducible refine wrx ?_); (repeat (first | go_big_quiet_step ((first | fail)) | quiet_step ((first | fail)))); refine wpQuiet_nil ?_; rintro _ ⟨yr, rfl⟩; have syr := Ext.size yr; (repeat (first | rw [World.size_alloc] at syr | rw [World.size_setCell] at syr | rw [World.size_drew] at syr)); have : KB < yr.now.heap.size := (by omega); have : KB ≤ yr.now.heap.size := (by omega); have : KB < yr.now.heap.size + 1 + 1 := (by omega); have : KB + 1 < yr.now.heap.size := (by omega); have : KB + 1 ≤ yr.now.heap.size := (by omega); have : KB + 1 < yr.now.heap.size + 1 + 1 := (by omega); have : B < yr.now.heap.size := (by omega); have : B ≤ yr.now.heap.size := (by omega); have : B < yr.now.heap.size + 1 + 1 := (by omega); have : B2 < yr.now.heap.size := (by omega); have : B2 ≤ yr.now.heap.size := (by omega); have : B2 < yr.now.heap.size + 1 + 1 := (by omega)))
                exact ⟨⟨.int .i64 (acc + t1), .bool (wat x (pos a 1 (n + 1))), .int .i64 ((n : Int) + 1 + 1), ⟨n + 1, acc + t1, rfl, rfl, by simp, ⟨z, rfl⟩, key⟩, rfl, rfl, rfl⟩, by simp [intOf]; omega⟩
              · rw [if_neg (fun q => hc q.2)] at n5
                have eT : acc = T := by omega
                rcases (show I < 0 ∨ (0 ≤ I ∧ ¬ I < x.pl.length) by omega) with m1 | ⟨m1, m2⟩
                all_goals clear n5 n4 hc
                all_goals go_wp2_with (first | ((first | with_reducible refine wrx2 ?_ | with_reducible refine wrx ?_); (repeat (first | go_big_quiet_step ((first | fail)) | quiet_step ((first | fail)))); refine wpQuiet_nil ?_; rintro _ ⟨yr, rfl⟩; have syr := Ext.size yr; (repeat (first | rw [World.size_alloc] at syr | rw [World.size_setCell] at syr | rw [World.size_drew] at syr)); have : KB < yr.now.heap.size := (by omega); have : KB ≤ yr.now.heap.size := (by omega); have : KB < yr.now.heap.size + 1 + 1 := (by omega); have : KB + 1 < yr.now.heap.size := (by omega); have : KB + 1 ≤ yr.now.heap.size := (by omega); have : KB + 1 < yr.now.heap.size + 1 + 1 := (by omega)))
                all_goals exact ⟨⟨j + 1, T, _, by first | rfl | rw [eT], by simp, rfl, Go.Lib.hid ⟨by omega, hT2.out, hb5.out⟩⟩, by simp [intOf]; omega⟩
          · have hn2 : ¬ (n : Int) + 1 ≤ k := by omega
            rw [show k - n = 0 by omega, rsum] at n5
            have eT : acc = T := by omega
            clear n5 n4
            go_wp2_with (first | ((first | with_reducible refine wrx2 ?_ | with_reducible refine wrx ?_); (repeat (first | go_big_quiet_step ((first | fail)) | quiet_step ((first | fail)))); refine wpQuiet_nil ?_; rintro _ ⟨yr, rfl⟩; have syr := Ext.size yr; (repeat (first | rw [World.size_alloc] at syr | rw [World.size_setCell] at syr | rw [World.size_drew] at syr)); have : KB < yr.now.heap.size := (by omega); have : KB ≤ yr.now.heap.size := (by omega); have : KB < yr.now.heap.size + 1 + 1 := (by omega); have : KB + 1 < yr.now.heap.size := (by omega); have : KB + 1 ≤ yr.now.heap.size := (by omega); have : KB + 1 < yr.now.heap.size + 1 + 1 := (by omega)))
            exact ⟨⟨j + 1, T, z, by first | rfl | rw [eT], by simp, rfl, Go.Lib.hid ⟨by omega, hT2.out, hb5.out⟩⟩, by simp [intOf]; omega⟩
    · have hj3 : j = 2 := by have := hi.out.1; omega
      have hge : ¬ (j : Int) < 2 := by omega
      have eV : s = V := by rw [← hi.out.2.1, hj3]; exact hW2.out
      subst eV
      clear hi
      go_wp2_with (first | ((first | with_reducible refine wrx2 ?_ | with_reducible refine wrx ?_); (repeat (first | go_big_quiet_step ((first | fail)) | quiet_step ((first | fail)))); refine wpQuiet_nil ?_; rintro _ ⟨yr, rfl⟩; have syr := Ext.size yr; (repeat (first | rw [World.size_alloc] at syr | rw [World.size_setCell] at syr | rw [World.size_drew] at syr)); have : KB < yr.now.heap.size := (by omega); have : KB ≤ yr.now.heap.size := (by omega); have : KB < yr.now.heap.size + 1 + 1 := (by omega); have : KB + 1 < yr.now.heap.size := (by omega); have : KB + 1 ≤ yr.now.heap.size := (by omega); have : KB + 1 < yr.now.heap.size + 1 + 1 := (by omega)))
      go_returns
      refine ⟨rfl, ?_⟩
      repeat' (first | (with_reducible exact Below.refl _ _) | (with_reducible assumption) | (with_reducible refine Ext.below _ ?_ ?_) | (with_reducible refine Below.on ?_ (by with_reducible assumption) ?_) | (with_reducible refine Below.alloc ?_ ?_ _) | (with_reducible refine Below.drew ?_) | (with_reducible refine Below.setCell ?_ ?_ _) | (with_reducible exact Nat.le_refl _) | omega | (simp; done) | (simp [go_sem]; done) | (simp at *; omega))
theorem waveV_min {x : LandR} (hok : x.Ok) {a r : Int} (h0 : 0 ≤ a) (h1 : a < x.pl.length) (hr : 0 ≤ r) : waveV x a (min r 400) = waveV x a r := by
  rw [← wave_sum hok h0 h1 hr, ← wave_sum hok h0 h1 (show 0 ≤ min r 400 by omega), show min (min r 400) 400 = min r 400 by omega]
end Go.Proofs.YtlmhbggigbmeaaaDoor

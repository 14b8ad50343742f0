/- SkyRight: the guess that is believed agrees with all sights but those that are named, and no guess agrees with more. Condition: none beyond the statement's own. -/
import Derived.Test.YtgoilmiiegpnoaaSkyRz
import Derived.Test.YtgoilmiiegpnoaaSkyU
import Derived.Test.YtgoilmiiegpnoaaLaw
import Derived.Test.YtgoilmiiegpnoaaLawList
namespace Go.Proofs.Ytgoilmiiegpnoaa
open Go.RowKit Go.Shelf Go.ChangeShapes Go.WideShapes Go.ChangeAt Go.Joins
attribute [local go_sem] Option.isSome_some Ext.cell Ext.frozen Ext.lt Ext.le Ext.lt_add Ext.le_add Ext.ne Ext.ne' lt2 lt3 lt4 lt5 le2 le3 le4
theorem owns_cap {w : World} {base : Nat} {e : TypeId} {size : Nat} {p : Option Addr} {n m c : Nat} {xs : List Value} (h : w.ownsRow base e size (.slice p m c) n xs) : n ≤ c := by
  rcases h.2 with ⟨h1, h2⟩ | ⟨g, cap, cur, h1, _, _, hn, _⟩
  · omega
  · injection h1 with e1 e2 e3
    omega
theorem sight_one {W : World} {B o : Nat} {l : List SightR} (h : SightsAt W (some ⟨B, o, none⟩) l) {n : Nat} (hn : n < l.length) : SightsAt W (some ⟨B, o + n * 9, none⟩) [l[n]] := by
  intro j hj
  obtain rfl : j = 0 := by simpa using hj
  obtain ⟨B', o', e, hB, h0⟩ := h n hn
  injection e with e
  injection e with e1 e2
  subst e1 e2
  exact ⟨B, o + n * 9, rfl, hB, by simpa using h0⟩
theorem cntM_le (g : StateR) (ks : List LookR) (n : Nat) : cntM g ks n ≤ n := by
  unfold cntM
  have := List.length_filter_le (fun j => mbl g ks j) (List.range' 0 n)
  rw [List.length_range'] at this
  exact this
theorem rowsX_add (l : List SightR) (x : SightR) : rowsX (l ++ [x]) = rowsX l ++ cellsX x := by rw [rowsX_append, rowsX_cons]; simp [rowsX]
set_option maxRecDepth 100000 in
set_option maxHeartbeats 16000000 in
theorem SkyRight_any (sp : Option Addr) (sl sc : Nat) (sz : Nat → Int) (i k : Int) (w : World) (hw : ListIn w sp sl sz) (h1 : I64 i) (h2 : I64 k) : Calls Try.prog 4 #[.slice sp sl sc, .int .i64 i, .int .i64 k] w (Gives (.bool true) w) := by
  have ca := fun W => skyAwake_any W
  go_enter Try.func4, Try.ntmps4
  go_wp2_with (first | ((first | with_reducible refine wp_region_ext2 (by kernel_rfl) (by kernel_rfl) ?_ | with_reducible refine wp_region_ext (by kernel_rfl) (by kernel_rfl) ?_); (repeat (first | go_big_quiet_step ((first | fail)) | quiet_step ((first | fail)))); refine wpQuiet_nil ?_; rintro _ ⟨yr, rfl⟩; have syr := Ext.size yr; (repeat (first | rw [World.size_alloc] at syr | rw [World.size_setCell] at syr | rw [World.size_drew] at syr))) | (go_at_call 8; refine (many_any sp sl sc sz _ hw).mono ?_; rintro _ W1 ⟨s, ts, gs, v, u, rfl, hb1, hsm, hAt, hM, hok, ⟨ht1, ht6⟩, hg1, hg6⟩; obtain ⟨⟨tp, tc, rfl⟩, gp, gc, rfl⟩ := hM.form; unfold SkyR.val; have hs1 := hb1.size))
  refine wp_named (fun W2 hW => ?_)
  have hY2 : Below W1.heap.size W1 W2 := by rw [← hW]; repeat' (first | (with_reducible exact Below.refl _ _) | (with_reducible assumption) | (with_reducible refine Ext.below _ ?_ ?_) | (with_reducible refine Below.on ?_ (by with_reducible assumption) ?_) | (with_reducible refine Below.alloc ?_ ?_ _) | (with_reducible refine Below.drew ?_) | (with_reducible refine Below.setCell ?_ ?_ _) | (with_reducible exact Nat.le_refl _) | omega | (simp; done) | (simp [go_sem]; done) | (simp at *; omega))
  have k0 : W2.cell? ⟨W1.heap.size, 0, none⟩ = some (.slice s.bp s.bodies.length s.bc) := by rw [← hW]; simp [go_sem]
  have k1 : W2.cell? ⟨W1.heap.size, 1, none⟩ = some (.int .i64 s.home) := by rw [← hW]; simp [go_sem]
  have k2 : W2.cell? ⟨W1.heap.size, 2, none⟩ = some (.slice s.sp s.sts.length s.sc) := by rw [← hW]; simp [go_sem]
  have k3 : W2.cell? ⟨W1.heap.size, 3, none⟩ = some (.slice s.cp s.cats.length s.cc) := by rw [← hW]; simp [go_sem]
  have hs2 : W1.heap.size < W2.heap.size := by rw [← hW]; simp
  have hBw : Below w.heap.size w W2 := hb1.trans (hY2.mono hs1)
  have hwl : w.heap.size ≤ W2.heap.size := by omega
  have hA2 := hAt.on hY2
  have hT := hM.tracks.on hY2
  have hG := Go.Lib.hid (hM.states.on hY2)
  clear hW hAt hM hY2 hb1 hw
  generalize W1.heap.size = SB at *
  clear hs1 W1
  obtain ⟨ia, hia⟩ : ∃ ia : Nat, i % (ts.length : Int) = ia := ⟨(i % ts.length).toNat, by rw [Int.toNat_of_nonneg (Int.emod_nonneg _ (by omega))]⟩
  obtain ⟨ib, hib⟩ : ∃ ib : Nat, k % (ts.length : Int) = ib := ⟨(k % ts.length).toNat, by rw [Int.toNat_of_nonneg (Int.emod_nonneg _ (by omega))]⟩
  have hia2 : ia < ts.length := by have := Int.emod_lt_of_pos i (show 0 < (ts.length : Int) by omega); omega
  have hib2 : ib < ts.length := by have := Int.emod_lt_of_pos k (show 0 < (ts.length : Int) by omega); omega
  have cm1 := fun W => Mod_any i ts.length W h1 (by omega) (by omega)
  have cm2 := fun W => Mod_any k ts.length W h2 (by omega) (by omega)
  rw [hia] at cm1
  rw [hib] at cm2
  clear hia hib h1 h2
  obtain ⟨hsa, B, o, rfl, hB, ra⟩ := hT ia hia2
  obtain ⟨hsb, B', o', e, hB', rb⟩ := hT ib hib2
  injection e with e
  injection e with e1 e2
  subst e1 e2
  have ta := hok.t _ (List.getElem_mem hia2)
  have tb := hok.t _ (List.getElem_mem hib2)
  have hlab := mrg_len ts[ia].l ts[ib].l
  have la1 := ta.2.1
  have la4 := ta.2.2
  have lb1 := tb.2.1
  have lb4 := tb.2.2
  obtain ⟨ks, rr, hkl, ⟨hrl, eB, hmin⟩, hms⟩ := right_says hsm ta.1 tb.1 la1 la4 lb4 hok.g hg1 hg6
  have hit : (ia : Int) < (ts.length : Int) := by omega
  have hit' : (ib : Int) < (ts.length : Int) := by omega
  clear hT ta tb hsm hok ht1 ht6
  generalize ts[ia].l = a at *
  generalize ts[ia].p = pa at *
  generalize ts[ia].c = cca at *
  generalize ts[ib].l = b at *
  generalize ts[ib].p = pb at *
  generalize ts[ib].c = ccb at *
  clear hia2 hib2
  generalize ts.length = lt' at *
  clear ts
  obtain ⟨M, hM⟩ : ∃ M, mrg a b = M := ⟨_, rfl⟩
  rw [hM] at hkl eB hms hlab
  have hM := Go.Lib.hid hM
  have hms := Go.Lib.hid hms
  have hmin := Go.Lib.hid hmin
  have hkl := Go.Lib.hid hkl
  have cB := Go.Lib.hid (fun (W : World) (y : Below W2.heap.size W2 W) (p : Option Addr) (c : Nat) (h : SightsAt W p M) => Believe_any s p gp c gc M gs 0 W (hA2.on y) h (hG.out.on y))
  have cS := Go.Lib.hid (fun (W : World) (y : Below W2.heap.size W2 W) (p : Option Addr) (c : Nat) n (hn : n < M.length) j (hj : j < gs.length) (h : SightsAt W p [M[n]]) => (by have := Miss_any s p c [M[n]] gs[j] 0 W (hA2.on y) h; rw [hms.out j hj n hn] at this; exact this : Calls Try.prog 11 #[s.val, .slice p 1 c, .agg #[.int .i64 gs[j].x, .int .i64 gs[j].y, .int .i64 gs[j].u, .int .i64 gs[j].v], .int .i64 0] W (Gives (.int .i64 (if mbl gs[j] ks n = true then 0 else -1)) W)))
  rw [eB] at cB
  unfold LinkPost at cB
  unfold SkyR.val at cB cS
  clear hA2 hms eB
  have hsa := Go.Lib.hid hsa
  have hsb := Go.Lib.hid hsb
  generalize hlA : a.length = lA at *
  generalize hlB : b.length = lB at *
  have hlA := Go.Lib.hid hlA
  have hlB := Go.Lib.hid hlB
  generalize s.bp = n5 at *
  generalize s.bodies.length = n4 at *
  generalize s.bc = n6 at *
  generalize s.home = n0 at *
  generalize s.sp = n8 at *
  generalize s.sts.length = n7 at *
  generalize s.sc = n9 at *
  generalize s.cp = n2 at *
  generalize s.cats.length = n1 at *
  generalize s.cc = n3 at *
  replace hlab := Go.Lib.hid hlab
  obtain ⟨ii, hii, hq0, hq1, hq2⟩ := info_parts sight_info
  go_wp2_with (first | ((first | with_reducible refine wp_region_ext2 (by kernel_rfl) (by kernel_rfl) ?_ | with_reducible refine wp_region_ext (by kernel_rfl) (by kernel_rfl) ?_); (repeat (first | go_big_quiet_step ((first | (go_at_call 9; with_reducible exact Calls.ext (cm1 _)) | (go_at_call 9; with_reducible exact Calls.ext (cm2 _)))) | quiet_step ((first | (go_at_call 9; with_reducible exact Calls.ext (cm1 _)) | (go_at_call 9; with_reducible exact Calls.ext (cm2 _)))))); refine wpQuiet_nil ?_; rintro _ ⟨yr, rfl⟩; have syr := Ext.size yr; (repeat (first | rw [World.size_alloc] at syr | rw [World.size_setCell] at syr | rw [World.size_drew] at syr)); have : SB < yr.now.heap.size := (by omega); have : SB ≤ yr.now.heap.size := (by omega); have : SB < yr.now.heap.size + 1 + 1 := (by omega)) | (go_at_call 9; (first | with_reducible refine (Calls.giv2 (cm1 _)).mono ?_ | with_reducible refine (Calls.giv (cm1 _)).mono ?_); rintro _ _ ⟨y1, rfl, rfl⟩; have sy1 := Ext.size y1; (repeat (first | rw [World.size_alloc] at sy1 | rw [World.size_setCell] at sy1 | rw [World.size_drew] at sy1)); have : SB < y1.now.heap.size := (by omega); have : SB ≤ y1.now.heap.size := (by omega); have : SB < y1.now.heap.size + 1 + 1 := (by omega)) | (go_at_call 9; (first | with_reducible refine (Calls.giv2 (cm2 _)).mono ?_ | with_reducible refine (Calls.giv (cm2 _)).mono ?_); rintro _ _ ⟨y2, rfl, rfl⟩; have sy2 := Ext.size y2; (repeat (first | rw [World.size_alloc] at sy2 | rw [World.size_setCell] at sy2 | rw [World.size_drew] at sy2)); have : SB < y2.now.heap.size := (by omega); have : SB ≤ y2.now.heap.size := (by omega); have : SB < y2.now.heap.size + 1 + 1 := (by omega)))
  go_loopw [12, 13, 14] (fun v u t W => ∃ (n m : Nat) (x : Ext W2) (acc : List SightR), u = .int .i64 n ∧ t = .int .i64 m ∧ W = x.now ∧ x.now.ownsRow W2.heap.size 47 9 v acc.length (rowsX acc) ∧ Hid (n ≤ lA ∧ m ≤ lB ∧ acc ++ mrg (a.drop n) (b.drop m) = M ∧ acc.length = n + m)) (fun _ u t _ => (lA + lB) - ((intOf u).toNat + (intOf t).toNat))
  case atStart => exact ⟨0, 0, yr, [], rfl, rfl, rfl, World.ownsRow_nil _ _ _ _, Go.Lib.hid ⟨Nat.zero_le _, Nat.zero_le _, by simpa using hM.out, rfl⟩⟩
  case round =>
    obtain ⟨n, m, x, acc, rfl, rfl, rfl, hown, hi⟩ := hrel
    have xs := x.size
    obtain ⟨vp, vc, rfl⟩ := owns_form hown
    have key := hi.out.2.2.1
    have hacc := Go.Lib.hid hi.out.2.2.2
    have hnl := hi.out.1
    have hml := hi.out.2.1
    have : SB < (x.now).heap.size := (by omega); have : SB < (x.now).heap.size + 1 := (by omega); have : SB < (x.now).heap.size + 1 + 1 := (by omega); have : SB ≠ (x.now).heap.size := (by omega); have : SB ≠ (x.now).heap.size + 1 := (by omega)
    have hacc8 : acc.length ≤ 8 := by have := hacc.out; omega
    clear hi
    by_cases hn : n < a.length
    · have hnA : n < lA := by rw [← hlA.out]; exact hn
      have hn2 : (n : Int) < (lA : Int) := by omega
      rw [drop_at hn] at key
      obtain ⟨BA, oBA, rfl, hBA, z0, z1, z2, z3, z4, z5, z6, z7, z8⟩ := hsa.out n hn
      have : BA < (x.now).heap.size := (by omega); have : BA < (x.now).heap.size + 1 := (by omega); have : BA < (x.now).heap.size + 1 + 1 := (by omega); have : BA ≠ (x.now).heap.size := (by omega); have : BA ≠ (x.now).heap.size + 1 := (by omega)
      obtain ⟨xk, hxk⟩ : ∃ q, a[n] = q := ⟨_, rfl⟩
      rw [hxk] at z0 z1 z2 z3 z4 z5 z6 z7 z8 key
      have exk : Hid (a.drop n = xk :: a.drop (n + 1)) := Go.Lib.hid (by rw [drop_at hn, hxk])
      clear hxk
      by_cases hm : m < b.length
      · have hmB : m < lB := by rw [← hlB.out]; exact hm
        have hm2 : (m : Int) < (lB : Int) := by omega
        have hm3 : ¬ ((lB : Int) ≤ (m : Int)) := by omega
        rw [drop_at hm] at key
        obtain ⟨BB, oBB, rfl, hBB, y0, y1, y2, y3, y4, y5, y6, y7, y8⟩ := hsb.out m hm
        have : BB < (x.now).heap.size := (by omega); have : BB < (x.now).heap.size + 1 := (by omega); have : BB < (x.now).heap.size + 1 + 1 := (by omega); have : BB ≠ (x.now).heap.size := (by omega); have : BB ≠ (x.now).heap.size + 1 := (by omega)
        obtain ⟨yk, hyk⟩ : ∃ q, b[m] = q := ⟨_, rfl⟩
        rw [hyk] at y0 y1 y2 y3 y4 y5 y6 y7 y8 key
        have eyk : Hid (b.drop m = yk :: b.drop (m + 1)) := Go.Lib.hid (by rw [drop_at hm, hyk])
        clear hyk
        rw [mrg] at key
        by_cases ht : xk.tick ≤ yk.tick
        · rw [if_pos ht, ← List.singleton_append, ← List.append_assoc, ← eyk.out] at key
          have hrow := rowsX_add acc xk
          have key2 : Hid (n + 1 ≤ lA ∧ m ≤ lB ∧ (acc ++ [xk]) ++ mrg (a.drop (n + 1)) (b.drop (m)) = M ∧ (acc ++ [xk]).length = n + 1 + (m)) := Go.Lib.hid ⟨by omega, by omega, key, by rw [List.length_append, List.length_cons, List.length_nil]; have := hacc.out; omega⟩
          clear key
          go_wp2_with (first | ((with_reducible refine wp_region_ext (by kernel_rfl) (by kernel_rfl) ?_); (repeat (first | go_big_quiet_step ((first | fail)) | quiet_step ((first | fail)))); refine wpQuiet_nil ?_; rintro _ ⟨yr, rfl⟩; have syr := Ext.size yr; (repeat (first | rw [World.size_alloc] at syr | rw [World.size_setCell] at syr | rw [World.size_drew] at syr)); have : BA < yr.now.heap.size := (by omega); have : BA ≤ yr.now.heap.size := (by omega); have : BA < yr.now.heap.size + 1 + 1 := (by omega); have : BB < yr.now.heap.size := (by omega); have : BB ≤ yr.now.heap.size := (by omega); have : BB < yr.now.heap.size + 1 + 1 := (by omega)) | (at_builtin; go_loud (refine wpListW_named (fun W3 hW3 => ?_); have s3 : W3.heap.size = yr.now.heap.size + 1 := (by rw [← hW3]; simp); have how3 : W3.ownsRow W2.heap.size 47 9 (.slice vp acc.length vc) acc.length (rowsX acc) := (by rw [← hW3]; exact (owns_ext hown yr).alloc _); have hB3 : Below W2.heap.size W2 W3 := (by rw [← hW3]; exact (x.grew.trans (yr.grew.mono xs)).alloc (by omega) _); have hc3 : ∀ j u, (cellsX xk)[j]? = some u → W3.cell? ((⟨yr.now.heap.size, 0, none⟩ : Addr).add j) = some u := (by rw [← hW3]; exact cells9_new _ _ rfl _ _); clear hW3; refine wpList_append_own _ rfl _ _ 34 rfl W2.heap.size 47 ii _ 9 72 Try.underlying34 hii hq0 hq1 hq2 rfl (by decide) _ acc.length (rowsX acc) rfl how3 ⟨yr.now.heap.size, 0, none⟩ 1 1 (cellsX xk) rfl rfl hc3 (cellsX_one _) (by unfold maxLen; omega) (by omega) (by omega) ?_; intro v' W4 ho4 hg4 _; have hB4 : Below W2.heap.size W2 W4 := below_grown hB3 how3 (Nat.le_refl _) (by omega) hg4; clear how3 hB3 hc3 hg4)))
          exact ⟨⟨n + 1, m, ⟨W4, hB4⟩, acc ++ [xk], by simp, by simp, rfl, by rw [hrow, List.length_append]; exact ho4, key2⟩, by simp [intOf]; omega⟩
        · rw [if_neg ht, ← List.singleton_append, ← List.append_assoc, ← exk.out] at key
          have hrow := rowsX_add acc yk
          have key2 : Hid (n ≤ lA ∧ m + 1 ≤ lB ∧ (acc ++ [yk]) ++ mrg (a.drop (n)) (b.drop (m + 1)) = M ∧ (acc ++ [yk]).length = n + (m + 1)) := Go.Lib.hid ⟨by omega, by omega, key, by rw [List.length_append, List.length_cons, List.length_nil]; have := hacc.out; omega⟩
          clear key
          go_wp2_with (first | ((with_reducible refine wp_region_ext (by kernel_rfl) (by kernel_rfl) ?_); (repeat (first | go_big_quiet_step ((first | fail)) | quiet_step ((first | fail)))); refine wpQuiet_nil ?_; rintro _ ⟨yr, rfl⟩; have syr := Ext.size yr; (repeat (first | rw [World.size_alloc] at syr | rw [World.size_setCell] at syr | rw [World.size_drew] at syr)); have : BA < yr.now.heap.size := (by omega); have : BA ≤ yr.now.heap.size := (by omega); have : BA < yr.now.heap.size + 1 + 1 := (by omega); have : BB < yr.now.heap.size := (by omega); have : BB ≤ yr.now.heap.size := (by omega); have : BB < yr.now.heap.size + 1 + 1 := (by omega)) | (at_builtin; go_loud (refine wpListW_named (fun W3 hW3 => ?_); have s3 : W3.heap.size = yr.now.heap.size + 1 := (by rw [← hW3]; simp); have how3 : W3.ownsRow W2.heap.size 47 9 (.slice vp acc.length vc) acc.length (rowsX acc) := (by rw [← hW3]; exact (owns_ext hown yr).alloc _); have hB3 : Below W2.heap.size W2 W3 := (by rw [← hW3]; exact (x.grew.trans (yr.grew.mono xs)).alloc (by omega) _); have hc3 : ∀ j u, (cellsX yk)[j]? = some u → W3.cell? ((⟨yr.now.heap.size, 0, none⟩ : Addr).add j) = some u := (by rw [← hW3]; exact cells9_new _ _ rfl _ _); clear hW3; refine wpList_append_own _ rfl _ _ 34 rfl W2.heap.size 47 ii _ 9 72 Try.underlying34 hii hq0 hq1 hq2 rfl (by decide) _ acc.length (rowsX acc) rfl how3 ⟨yr.now.heap.size, 0, none⟩ 1 1 (cellsX yk) rfl rfl hc3 (cellsX_one _) (by unfold maxLen; omega) (by omega) (by omega) ?_; intro v' W4 ho4 hg4 _; have hB4 : Below W2.heap.size W2 W4 := below_grown hB3 how3 (Nat.le_refl _) (by omega) hg4; clear how3 hB3 hc3 hg4)))
          exact ⟨⟨n, m + 1, ⟨W4, hB4⟩, acc ++ [yk], by simp, by simp, rfl, by rw [hrow, List.length_append]; exact ho4, key2⟩, by simp [intOf]; omega⟩
      · have hmB : ¬ m < lB := by rw [← hlB.out]; exact hm
        have hm2 : ¬ ((m : Int) < (lB : Int)) := by omega
        have hm3 : (lB : Int) ≤ (m : Int) := by omega
        rw [drop_end hm, mrg_nil, ← List.singleton_append, ← List.append_assoc] at key
        have key : (acc ++ [xk]) ++ mrg (a.drop (n + 1)) (b.drop m) = M := by rw [drop_end hm, mrg_nil]; exact key
        have hrow := rowsX_add acc xk
        have key2 : Hid (n + 1 ≤ lA ∧ m ≤ lB ∧ (acc ++ [xk]) ++ mrg (a.drop (n + 1)) (b.drop (m)) = M ∧ (acc ++ [xk]).length = n + 1 + (m)) := Go.Lib.hid ⟨by omega, by omega, key, by rw [List.length_append, List.length_cons, List.length_nil]; have := hacc.out; omega⟩
        clear key
        go_wp2_with (first | ((with_reducible refine wp_region_ext (by kernel_rfl) (by kernel_rfl) ?_); (repeat (first | go_big_quiet_step ((first | fail)) | quiet_step ((first | fail)))); refine wpQuiet_nil ?_; rintro _ ⟨yr, rfl⟩; have syr := Ext.size yr; (repeat (first | rw [World.size_alloc] at syr | rw [World.size_setCell] at syr | rw [World.size_drew] at syr)); have : BA < yr.now.heap.size := (by omega); have : BA ≤ yr.now.heap.size := (by omega); have : BA < yr.now.heap.size + 1 + 1 := (by omega)) | (at_builtin; go_loud (refine wpListW_named (fun W3 hW3 => ?_); have s3 : W3.heap.size = yr.now.heap.size + 1 := (by rw [← hW3]; simp); have how3 : W3.ownsRow W2.heap.size 47 9 (.slice vp acc.length vc) acc.length (rowsX acc) := (by rw [← hW3]; exact (owns_ext hown yr).alloc _); have hB3 : Below W2.heap.size W2 W3 := (by rw [← hW3]; exact (x.grew.trans (yr.grew.mono xs)).alloc (by omega) _); have hc3 : ∀ j u, (cellsX xk)[j]? = some u → W3.cell? ((⟨yr.now.heap.size, 0, none⟩ : Addr).add j) = some u := (by rw [← hW3]; exact cells9_new _ _ rfl _ _); clear hW3; refine wpList_append_own _ rfl _ _ 34 rfl W2.heap.size 47 ii _ 9 72 Try.underlying34 hii hq0 hq1 hq2 rfl (by decide) _ acc.length (rowsX acc) rfl how3 ⟨yr.now.heap.size, 0, none⟩ 1 1 (cellsX xk) rfl rfl hc3 (cellsX_one _) (by unfold maxLen; omega) (by omega) (by omega) ?_; intro v' W4 ho4 hg4 _; have hB4 : Below W2.heap.size W2 W4 := below_grown hB3 how3 (Nat.le_refl _) (by omega) hg4; clear how3 hB3 hc3 hg4)))
        exact ⟨⟨n + 1, m, ⟨W4, hB4⟩, acc ++ [xk], by simp, by simp, rfl, by rw [hrow, List.length_append]; exact ho4, key2⟩, by simp [intOf]; omega⟩
    · have hnA : ¬ n < lA := by rw [← hlA.out]; exact hn
      have hn2 : ¬ ((n : Int) < (lA : Int)) := by omega
      rw [drop_end hn, mrg] at key
      by_cases hm : m < b.length
      · have hmB : m < lB := by rw [← hlB.out]; exact hm
        have hm2 : (m : Int) < (lB : Int) := by omega
        have hm3 : ¬ ((lB : Int) ≤ (m : Int)) := by omega
        rw [drop_at hm, ← List.singleton_append, ← List.append_assoc] at key
        obtain ⟨BB, oBB, rfl, hBB, y0, y1, y2, y3, y4, y5, y6, y7, y8⟩ := hsb.out m hm
        have : BB < (x.now).heap.size := (by omega); have : BB < (x.now).heap.size + 1 := (by omega); have : BB < (x.now).heap.size + 1 + 1 := (by omega); have : BB ≠ (x.now).heap.size := (by omega); have : BB ≠ (x.now).heap.size + 1 := (by omega)
        obtain ⟨yk, hyk⟩ : ∃ q, b[m] = q := ⟨_, rfl⟩
        rw [hyk] at y0 y1 y2 y3 y4 y5 y6 y7 y8 key
        have eyk : Hid (b.drop m = yk :: b.drop (m + 1)) := Go.Lib.hid (by rw [drop_at hm, hyk])
        clear hyk
        have key : (acc ++ [yk]) ++ mrg (a.drop n) (b.drop (m + 1)) = M := by rw [drop_end hn, mrg]; exact key
        have hrow := rowsX_add acc yk
        have key2 : Hid (n ≤ lA ∧ m + 1 ≤ lB ∧ (acc ++ [yk]) ++ mrg (a.drop (n)) (b.drop (m + 1)) = M ∧ (acc ++ [yk]).length = n + (m + 1)) := Go.Lib.hid ⟨by omega, by omega, key, by rw [List.length_append, List.length_cons, List.length_nil]; have := hacc.out; omega⟩
        clear key
        go_wp2_with (first | ((with_reducible refine wp_region_ext (by kernel_rfl) (by kernel_rfl) ?_); (repeat (first | go_big_quiet_step ((first | fail)) | quiet_step ((first | fail)))); refine wpQuiet_nil ?_; rintro _ ⟨yr, rfl⟩; have syr := Ext.size yr; (repeat (first | rw [World.size_alloc] at syr | rw [World.size_setCell] at syr | rw [World.size_drew] at syr)); have : BB < yr.now.heap.size := (by omega); have : BB ≤ yr.now.heap.size := (by omega); have : BB < yr.now.heap.size + 1 + 1 := (by omega)) | (at_builtin; go_loud (refine wpListW_named (fun W3 hW3 => ?_); have s3 : W3.heap.size = yr.now.heap.size + 1 := (by rw [← hW3]; simp); have how3 : W3.ownsRow W2.heap.size 47 9 (.slice vp acc.length vc) acc.length (rowsX acc) := (by rw [← hW3]; exact (owns_ext hown yr).alloc _); have hB3 : Below W2.heap.size W2 W3 := (by rw [← hW3]; exact (x.grew.trans (yr.grew.mono xs)).alloc (by omega) _); have hc3 : ∀ j u, (cellsX yk)[j]? = some u → W3.cell? ((⟨yr.now.heap.size, 0, none⟩ : Addr).add j) = some u := (by rw [← hW3]; exact cells9_new _ _ rfl _ _); clear hW3; refine wpList_append_own _ rfl _ _ 34 rfl W2.heap.size 47 ii _ 9 72 Try.underlying34 hii hq0 hq1 hq2 rfl (by decide) _ acc.length (rowsX acc) rfl how3 ⟨yr.now.heap.size, 0, none⟩ 1 1 (cellsX yk) rfl rfl hc3 (cellsX_one _) (by unfold maxLen; omega) (by omega) (by omega) ?_; intro v' W4 ho4 hg4 _; have hB4 : Below W2.heap.size W2 W4 := below_grown hB3 how3 (Nat.le_refl _) (by omega) hg4; clear how3 hB3 hc3 hg4)))
        exact ⟨⟨n, m + 1, ⟨W4, hB4⟩, acc ++ [yk], by simp, by simp, rfl, by rw [hrow, List.length_append]; exact ho4, key2⟩, by simp [intOf]; omega⟩
      · have hmB : ¬ m < lB := by rw [← hlB.out]; exact hm
        have hm2 : ¬ ((m : Int) < (lB : Int)) := by omega
        rw [drop_end hm, List.append_nil] at key
        subst key
        obtain ⟨vp', vc', e5, hSM⟩ := owns_sights hown
        injection e5 with e5 e6 e7
        rw [← e5] at hSM
        have hcap : acc.length ≤ vc := owns_cap hown
        have hBx := x.grew
        have hGx := hG.out.on x.grew
        have r0 := (x.cell hs2).trans k0
        have r1 := (x.cell hs2).trans k1
        have r2 := (x.cell hs2).trans k2
        have r3 := (x.cell hs2).trans k3
        have hs5 := x.lt hs2
        have cBx := cB.out x.now x.grew vp vc hSM
        have hr0 : ¬ ((rr : Int) < 0) := by omega
        have hr1 : ¬ ((gs.length : Int) ≤ (rr : Int)) := by omega
        have hr2 : (rr : Int) < (gs.length : Int) := by omega
        have hrg : ((gs.length : Int) ≤ (rr : Int)) = False := by simp; omega
        clear hown e5 e6 e7 k0 k1 k2 k3 hsa hsb hM hlab ra rb hB hB' cm1 cm2 cB
        generalize x.now = W5 at *
        clear x
        have hGx := Go.Lib.hid hGx
        have hSM := Go.Lib.hid hSM
        go_wp2_with (first | ((first | with_reducible refine wp_region_ext2 (by kernel_rfl) (by kernel_rfl) ?_ | with_reducible refine wp_region_ext (by kernel_rfl) (by kernel_rfl) ?_); (repeat (first | go_big_quiet_step ((first | fail)) | quiet_step ((first | fail)))); refine wpQuiet_nil ?_; rintro _ ⟨yr, rfl⟩; have syr := Ext.size yr; (repeat (first | rw [World.size_alloc] at syr | rw [World.size_setCell] at syr | rw [World.size_drew] at syr)); have : SB < yr.now.heap.size := (by omega); have : SB ≤ yr.now.heap.size := (by omega); have : SB < yr.now.heap.size + 1 + 1 := (by omega)) | (go_at_call 13; go_loud (refine cBx.mono ?_; rintro _ W6 ⟨hb6, v6, rfl, how6⟩; obtain ⟨p6, c6, rfl, hI6⟩ := owns_ints how6; have q0 := (hb6.cell (p := ⟨SB, 0, none⟩) hs5).trans r0; have q1 := (hb6.cell (p := ⟨SB, 1, none⟩) hs5).trans r1; have q2 := (hb6.cell (p := ⟨SB, 2, none⟩) hs5).trans r2; have q3 := (hb6.cell (p := ⟨SB, 3, none⟩) hs5).trans r3; have hG6 := Go.Lib.hid (hGx.out.on hb6); have hS6 := Go.Lib.hid (hSM.out.on hb6); have hI6 := Go.Lib.hid hI6; have hs6 : SB < W6.heap.size := (Nat.lt_of_lt_of_le hs5 hb6.size); have hb26 : Below W2.heap.size W2 W6 := (hBx.trans (hb6.mono hBx.size)); clear how6 r0 r1 r2 r3 cBx hGx hSM)))
        have hbw6 : Below w.heap.size w W6 := hBw.trans (hb26.mono hwl)
        have hww6 := hbw6.size
        have hx26 := hb26.size
        clear hb6 hBx
        go_loopw [18] (fun u W => ∃ (g : Nat) (x : Ext W6), u = .int .i64 g ∧ W = x.now ∧ Hid (g ≤ gs.length)) (fun u _ => gs.length - (intOf u).toNat)
        case atStart => exact ⟨0, ⟨W6, Below.refl _ _⟩, rfl, rfl, Go.Lib.hid (Nat.zero_le _)⟩
        case round =>
          obtain ⟨g, x, rfl, rfl, hg⟩ := hrel
          have xs := x.size
          by_cases hgl : g < gs.length
          · have hgl2 : (g : Int) < gs.length := by omega
            have hmg := hmin.out g hgl
            clear hg
            go_wp2_with (first | ((first | with_reducible refine wp_region_ext2 (by kernel_rfl) (by kernel_rfl) ?_ | with_reducible refine wp_region_ext (by kernel_rfl) (by kernel_rfl) ?_); (repeat (first | go_big_quiet_step ((first | fail)) | quiet_step ((first | fail)))); refine wpQuiet_nil ?_; rintro _ ⟨yr, rfl⟩; have syr := Ext.size yr; (repeat (first | rw [World.size_alloc] at syr | rw [World.size_setCell] at syr | rw [World.size_drew] at syr)); have : SB < yr.now.heap.size := (by omega); have : SB ≤ yr.now.heap.size := (by omega); have : SB < yr.now.heap.size + 1 + 1 := (by omega)))
            go_loopw [19, 20] (fun c u W => ∃ (n2 : Nat) (y : Ext W6), c = .int .i64 (cntM gs[g] ks n2 : Nat) ∧ u = .int .i64 n2 ∧ W = y.now ∧ Hid (n2 ≤ acc.length)) (fun _ u _ => acc.length - (intOf u).toNat)
            case atStart => exact ⟨0, x, by simp [cntM], rfl, rfl, Go.Lib.hid (Nat.zero_le _)⟩
            case round =>
              obtain ⟨n2, y, rfl, rfl, rfl, hn2'⟩ := hrel
              have ys := y.size
              by_cases hnl2 : n2 < acc.length
              · have hnl3 : (n2 : Int) < acc.length := by omega
                obtain ⟨BM, oM, rfl, hBM, z0, z1, z2, z3, z4, z5, z6, z7, z8⟩ := hS6.out n2 hnl2
                have hone := sight_one hS6.out hnl2
                clear z0 z1 z2 z3 z4 z5 z6 z7 z8
                obtain ⟨BG, oG, rfl, hBG, u0, u1, u2, u3⟩ := hG6.out g hgl
                have cSn := fun (W : World) (y : Below W6.heap.size W6 W) (c : Nat) => cS.out W (hb26.trans (y.mono hx26)) (some ⟨BM, oM + n2 * 9, none⟩) c n2 hnl2 g hgl (hone.on y)
                have hcs := cntM_succ gs[g] ks n2
                have hle := cntM_le gs[g] ks n2
                have hvc : ¬ (vc = n2) := by omega
                have hvc2 : (n2 : Int) + 1 ≤ (vc : Int) := by omega
                have hvc3 : n2 + 1 ≤ vc := by omega
                have hn0 : (0 : Int) ≤ (n2 : Int) := by omega
                have hwn : IntKind.i64.wrap ((n2 : Int) + 1) = (n2 : Int) + 1 := IntWalk.i64_in _ (by omega)
                have : BM < (y.now).heap.size := (by omega); have : BM < (y.now).heap.size + 1 := (by omega); have : BM < (y.now).heap.size + 1 + 1 := (by omega); have : BM ≠ (y.now).heap.size := (by omega); have : BM ≠ (y.now).heap.size + 1 := (by omega)
                have : BG < (y.now).heap.size := (by omega); have : BG < (y.now).heap.size + 1 := (by omega); have : BG < (y.now).heap.size + 1 + 1 := (by omega); have : BG ≠ (y.now).heap.size := (by omega); have : BG ≠ (y.now).heap.size + 1 := (by omega)
                have : SB < (y.now).heap.size := (by omega); have : SB < (y.now).heap.size + 1 := (by omega); have : SB < (y.now).heap.size + 1 + 1 := (by omega); have : SB ≠ (y.now).heap.size := (by omega); have : SB ≠ (y.now).heap.size + 1 := (by omega)
                have hks : n2 < ks.length := by rw [hkl.out]; exact hnl2
                have hml8 : (missL gs[rr] 0 ks).length ≤ 1048576 := by have := cntM_le gs[rr] ks ks.length; rw [cntM_all] at this; have := hkl.out; omega
                have cH := fun (W : World) (y : Below W6.heap.size W6 W) => HasInt_any p6 c6 (missL gs[rr] 0 ks) n2 W hml8 (hI6.out.on y)
                have hhas : g = rr → hasI (missL gs[rr] 0 ks) n2 = mbl gs[g] ks n2 := fun e => by
                  subst e
                  unfold hasI
                  rw [Bool.eq_iff_iff, decide_eq_true_iff]
                  exact missL_mem hks
                clear hn2' hml8
                generalize missL gs[rr] 0 ks = WR at *
                generalize cntM gs[g] ks n2 = cn at *
                generalize gs[g].x = g1 at *
                generalize gs[g].y = g2 at *
                generalize gs[g].u = g3 at *
                generalize gs[g].v = g4 at *
                by_cases hgr : g = rr
                · have hh := hhas hgr
                  simp only [hh] at cH
                  clear hhas hh
                  subst hgr
                  cases hmb : mbl gs[g] ks n2
                  all_goals
                    simp only [hmb, Bool.false_eq_true, if_false, if_true] at cSn cH hcs
                    go_wp2_with (first | ((first | with_reducible refine wp_region_ext2 (by kernel_rfl) (by kernel_rfl) ?_ | with_reducible refine wp_region_ext (by kernel_rfl) (by kernel_rfl) ?_); (repeat (first | go_big_quiet_step ((first | (go_at_call 11; with_reducible exact Calls.ext (cSn _ (by repeat' (first | (with_reducible exact Below.refl _ _) | (with_reducible assumption) | (with_reducible refine Ext.below _ ?_ ?_) | (with_reducible refine Below.on ?_ (by with_reducible assumption) ?_) | (with_reducible refine Below.alloc ?_ ?_ _) | (with_reducible refine Below.drew ?_) | (with_reducible refine Below.setCell ?_ ?_ _) | (with_reducible exact Nat.le_refl _) | omega | (simp; done) | (simp [go_sem]; done) | (simp at *; omega))) _)) | (go_at_call 14; with_reducible exact Calls.ext (cH _ (by repeat' (first | (with_reducible exact Below.refl _ _) | (with_reducible assumption) | (with_reducible refine Ext.below _ ?_ ?_) | (with_reducible refine Below.on ?_ (by with_reducible assumption) ?_) | (with_reducible refine Below.alloc ?_ ?_ _) | (with_reducible refine Below.drew ?_) | (with_reducible refine Below.setCell ?_ ?_ _) | (with_reducible exact Nat.le_refl _) | omega | (simp; done) | (simp [go_sem]; done) | (simp at *; omega))))))) | quiet_step ((first | (go_at_call 11; with_reducible exact Calls.ext (cSn _ (by repeat' (first | (with_reducible exact Below.refl _ _) | (with_reducible assumption) | (with_reducible refine Ext.below _ ?_ ?_) | (with_reducible refine Below.on ?_ (by with_reducible assumption) ?_) | (with_reducible refine Below.alloc ?_ ?_ _) | (with_reducible refine Below.drew ?_) | (with_reducible refine Below.setCell ?_ ?_ _) | (with_reducible exact Nat.le_refl _) | omega | (simp; done) | (simp [go_sem]; done) | (simp at *; omega))) _)) | (go_at_call 14; with_reducible exact Calls.ext (cH _ (by repeat' (first | (with_reducible exact Below.refl _ _) | (with_reducible assumption) | (with_reducible refine Ext.below _ ?_ ?_) | (with_reducible refine Below.on ?_ (by with_reducible assumption) ?_) | (with_reducible refine Below.alloc ?_ ?_ _) | (with_reducible refine Below.drew ?_) | (with_reducible refine Below.setCell ?_ ?_ _) | (with_reducible exact Nat.le_refl _) | omega | (simp; done) | (simp [go_sem]; done) | (simp at *; omega))))))))); refine wpQuiet_nil ?_; rintro _ ⟨yr, rfl⟩; have syr := Ext.size yr; (repeat (first | rw [World.size_alloc] at syr | rw [World.size_setCell] at syr | rw [World.size_drew] at syr)); have : SB < yr.now.heap.size := (by omega); have : SB ≤ yr.now.heap.size := (by omega); have : SB < yr.now.heap.size + 1 + 1 := (by omega); have : BM < yr.now.heap.size := (by omega); have : BM ≤ yr.now.heap.size := (by omega); have : BM < yr.now.heap.size + 1 + 1 := (by omega); have : BG < yr.now.heap.size := (by omega); have : BG ≤ yr.now.heap.size := (by omega); have : BG < yr.now.heap.size + 1 + 1 := (by omega)) | (go_at_call 11; (first | with_reducible refine (Calls.giv2 (cSn _ (by repeat' (first | (with_reducible exact Below.refl _ _) | (with_reducible assumption) | (with_reducible refine Ext.below _ ?_ ?_) | (with_reducible refine Below.on ?_ (by with_reducible assumption) ?_) | (with_reducible refine Below.alloc ?_ ?_ _) | (with_reducible refine Below.drew ?_) | (with_reducible refine Below.setCell ?_ ?_ _) | (with_reducible exact Nat.le_refl _) | omega | (simp; done) | (simp [go_sem]; done) | (simp at *; omega))) _)).mono ?_ | with_reducible refine (Calls.giv (cSn _ (by repeat' (first | (with_reducible exact Below.refl _ _) | (with_reducible assumption) | (with_reducible refine Ext.below _ ?_ ?_) | (with_reducible refine Below.on ?_ (by with_reducible assumption) ?_) | (with_reducible refine Below.alloc ?_ ?_ _) | (with_reducible refine Below.drew ?_) | (with_reducible refine Below.setCell ?_ ?_ _) | (with_reducible exact Nat.le_refl _) | omega | (simp; done) | (simp [go_sem]; done) | (simp at *; omega))) _)).mono ?_); rintro _ _ ⟨y1, rfl, rfl⟩; have sy1 := Ext.size y1; (repeat (first | rw [World.size_alloc] at sy1 | rw [World.size_setCell] at sy1 | rw [World.size_drew] at sy1)); have : SB < y1.now.heap.size := (by omega); have : SB ≤ y1.now.heap.size := (by omega); have : SB < y1.now.heap.size + 1 + 1 := (by omega); have : BM < y1.now.heap.size := (by omega); have : BM ≤ y1.now.heap.size := (by omega); have : BM < y1.now.heap.size + 1 + 1 := (by omega); have : BG < y1.now.heap.size := (by omega); have : BG ≤ y1.now.heap.size := (by omega); have : BG < y1.now.heap.size + 1 + 1 := (by omega)) | (go_at_call 14; (first | with_reducible refine (Calls.giv2 (cH _ (by repeat' (first | (with_reducible exact Below.refl _ _) | (with_reducible assumption) | (with_reducible refine Ext.below _ ?_ ?_) | (with_reducible refine Below.on ?_ (by with_reducible assumption) ?_) | (with_reducible refine Below.alloc ?_ ?_ _) | (with_reducible refine Below.drew ?_) | (with_reducible refine Below.setCell ?_ ?_ _) | (with_reducible exact Nat.le_refl _) | omega | (simp; done) | (simp [go_sem]; done) | (simp at *; omega))))).mono ?_ | with_reducible refine (Calls.giv (cH _ (by repeat' (first | (with_reducible exact Below.refl _ _) | (with_reducible assumption) | (with_reducible refine Ext.below _ ?_ ?_) | (with_reducible refine Below.on ?_ (by with_reducible assumption) ?_) | (with_reducible refine Below.alloc ?_ ?_ _) | (with_reducible refine Below.drew ?_) | (with_reducible refine Below.setCell ?_ ?_ _) | (with_reducible exact Nat.le_refl _) | omega | (simp; done) | (simp [go_sem]; done) | (simp at *; omega))))).mono ?_); rintro _ _ ⟨y2, rfl, rfl⟩; have sy2 := Ext.size y2; (repeat (first | rw [World.size_alloc] at sy2 | rw [World.size_setCell] at sy2 | rw [World.size_drew] at sy2)); have : SB < y2.now.heap.size := (by omega); have : SB ≤ y2.now.heap.size := (by omega); have : SB < y2.now.heap.size + 1 + 1 := (by omega); have : BM < y2.now.heap.size := (by omega); have : BM ≤ y2.now.heap.size := (by omega); have : BM < y2.now.heap.size + 1 + 1 := (by omega); have : BG < y2.now.heap.size := (by omega); have : BG ≤ y2.now.heap.size := (by omega); have : BG < y2.now.heap.size + 1 + 1 := (by omega)))
                    refine ⟨⟨n2 + 1, ⟨_, ?_⟩, by rw [hcs]; simp, by simp, rfl, Go.Lib.hid hnl2⟩, by simp [intOf]; omega⟩
                    repeat' (first | (with_reducible exact Below.refl _ _) | (with_reducible assumption) | (with_reducible refine Ext.below _ ?_ ?_) | (with_reducible refine Below.on ?_ (by with_reducible assumption) ?_) | (with_reducible refine Below.alloc ?_ ?_ _) | (with_reducible refine Below.drew ?_) | (with_reducible refine Below.setCell ?_ ?_ _) | (with_reducible exact Nat.le_refl _) | omega | (simp; done) | (simp [go_sem]; done) | (simp at *; omega))
                · have hgr2 : ¬ ((g : Int) = (rr : Int)) := by omega
                  clear hhas cH
                  cases hmb : mbl gs[g] ks n2
                  all_goals
                    simp only [hmb, Bool.false_eq_true, if_false, if_true] at cSn hcs
                    go_wp2_with (first | ((first | with_reducible refine wp_region_ext2 (by kernel_rfl) (by kernel_rfl) ?_ | with_reducible refine wp_region_ext (by kernel_rfl) (by kernel_rfl) ?_); (repeat (first | go_big_quiet_step ((first | (go_at_call 11; with_reducible exact Calls.ext (cSn _ (by repeat' (first | (with_reducible exact Below.refl _ _) | (with_reducible assumption) | (with_reducible refine Ext.below _ ?_ ?_) | (with_reducible refine Below.on ?_ (by with_reducible assumption) ?_) | (with_reducible refine Below.alloc ?_ ?_ _) | (with_reducible refine Below.drew ?_) | (with_reducible refine Below.setCell ?_ ?_ _) | (with_reducible exact Nat.le_refl _) | omega | (simp; done) | (simp [go_sem]; done) | (simp at *; omega))) _)))) | quiet_step ((first | (go_at_call 11; with_reducible exact Calls.ext (cSn _ (by repeat' (first | (with_reducible exact Below.refl _ _) | (with_reducible assumption) | (with_reducible refine Ext.below _ ?_ ?_) | (with_reducible refine Below.on ?_ (by with_reducible assumption) ?_) | (with_reducible refine Below.alloc ?_ ?_ _) | (with_reducible refine Below.drew ?_) | (with_reducible refine Below.setCell ?_ ?_ _) | (with_reducible exact Nat.le_refl _) | omega | (simp; done) | (simp [go_sem]; done) | (simp at *; omega))) _)))))); refine wpQuiet_nil ?_; rintro _ ⟨yr, rfl⟩; have syr := Ext.size yr; (repeat (first | rw [World.size_alloc] at syr | rw [World.size_setCell] at syr | rw [World.size_drew] at syr)); have : SB < yr.now.heap.size := (by omega); have : SB ≤ yr.now.heap.size := (by omega); have : SB < yr.now.heap.size + 1 + 1 := (by omega); have : BM < yr.now.heap.size := (by omega); have : BM ≤ yr.now.heap.size := (by omega); have : BM < yr.now.heap.size + 1 + 1 := (by omega); have : BG < yr.now.heap.size := (by omega); have : BG ≤ yr.now.heap.size := (by omega); have : BG < yr.now.heap.size + 1 + 1 := (by omega)) | (go_at_call 11; (first | with_reducible refine (Calls.giv2 (cSn _ (by repeat' (first | (with_reducible exact Below.refl _ _) | (with_reducible assumption) | (with_reducible refine Ext.below _ ?_ ?_) | (with_reducible refine Below.on ?_ (by with_reducible assumption) ?_) | (with_reducible refine Below.alloc ?_ ?_ _) | (with_reducible refine Below.drew ?_) | (with_reducible refine Below.setCell ?_ ?_ _) | (with_reducible exact Nat.le_refl _) | omega | (simp; done) | (simp [go_sem]; done) | (simp at *; omega))) _)).mono ?_ | with_reducible refine (Calls.giv (cSn _ (by repeat' (first | (with_reducible exact Below.refl _ _) | (with_reducible assumption) | (with_reducible refine Ext.below _ ?_ ?_) | (with_reducible refine Below.on ?_ (by with_reducible assumption) ?_) | (with_reducible refine Below.alloc ?_ ?_ _) | (with_reducible refine Below.drew ?_) | (with_reducible refine Below.setCell ?_ ?_ _) | (with_reducible exact Nat.le_refl _) | omega | (simp; done) | (simp [go_sem]; done) | (simp at *; omega))) _)).mono ?_); rintro _ _ ⟨y1, rfl, rfl⟩; have sy1 := Ext.size y1; (repeat (first | rw [World.size_alloc] at sy1 | rw [World.size_setCell] at sy1 | rw [World.size_drew] at sy1)); have : SB < y1.now.heap.size := (by omega); have : SB ≤ y1.now.heap.size := (by omega); have : SB < y1.now.heap.size + 1 + 1 := (by omega); have : BM < y1.now.heap.size := (by omega); have : BM ≤ y1.now.heap.size := (by omega); have : BM < y1.now.heap.size + 1 + 1 := (by omega); have : BG < y1.now.heap.size := (by omega); have : BG ≤ y1.now.heap.size := (by omega); have : BG < y1.now.heap.size + 1 + 1 := (by omega)))
                    refine ⟨⟨n2 + 1, ⟨_, ?_⟩, by rw [hcs]; simp, by simp, rfl, Go.Lib.hid hnl2⟩, by simp [intOf]; omega⟩
                    repeat' (first | (with_reducible exact Below.refl _ _) | (with_reducible assumption) | (with_reducible refine Ext.below _ ?_ ?_) | (with_reducible refine Below.on ?_ (by with_reducible assumption) ?_) | (with_reducible refine Below.alloc ?_ ?_ _) | (with_reducible refine Below.drew ?_) | (with_reducible refine Below.setCell ?_ ?_ _) | (with_reducible exact Nat.le_refl _) | omega | (simp; done) | (simp [go_sem]; done) | (simp at *; omega))
              · have hnl3 : ¬ (n2 : Int) < acc.length := by omega
                obtain rfl : n2 = acc.length := by have := hn2'.out; omega
                have hc := cntM_all gs[g] ks
                rw [hkl.out] at hc
                rw [hc]
                clear hn2' hc
                obtain ⟨hm1, hm2⟩ := hmg
                have h1 : ¬ (((missL gs[g] 0 ks).length : Int) < ((missL gs[rr] 0 ks).length : Int)) := by omega
                by_cases hgr : g < rr
                · have hgr2 : (g : Int) < (rr : Int) := by omega
                  have h2 := hm2 hgr
                  have h3 : ¬ (((missL gs[g] 0 ks).length : Int) = ((missL gs[rr] 0 ks).length : Int)) := by omega
                  have h4 : ¬ ((missL gs[g] 0 ks).length = (missL gs[rr] 0 ks).length) := by omega
                  clear hm2
                  go_wp2_with (first | ((first | with_reducible refine wp_region_ext2 (by kernel_rfl) (by kernel_rfl) ?_ | with_reducible refine wp_region_ext (by kernel_rfl) (by kernel_rfl) ?_); (repeat (first | go_big_quiet_step ((first | fail)) | quiet_step ((first | fail)))); refine wpQuiet_nil ?_; rintro _ ⟨yr, rfl⟩; have syr := Ext.size yr; (repeat (first | rw [World.size_alloc] at syr | rw [World.size_setCell] at syr | rw [World.size_drew] at syr)); have : SB < yr.now.heap.size := (by omega); have : SB ≤ yr.now.heap.size := (by omega); have : SB < yr.now.heap.size + 1 + 1 := (by omega)))
                  refine ⟨⟨g + 1, ⟨_, ?_⟩, by simp, rfl, Go.Lib.hid hgl⟩, by simp [intOf]; omega⟩
                  repeat' (first | (with_reducible exact Below.refl _ _) | (with_reducible assumption) | (with_reducible refine Ext.below _ ?_ ?_) | (with_reducible refine Below.on ?_ (by with_reducible assumption) ?_) | (with_reducible refine Below.alloc ?_ ?_ _) | (with_reducible refine Below.drew ?_) | (with_reducible refine Below.setCell ?_ ?_ _) | (with_reducible exact Nat.le_refl _) | omega | (simp; done) | (simp [go_sem]; done) | (simp at *; omega))
                · have hgr2 : ¬ ((g : Int) < (rr : Int)) := by omega
                  clear hm2
                  go_wp2_with (first | ((first | with_reducible refine wp_region_ext2 (by kernel_rfl) (by kernel_rfl) ?_ | with_reducible refine wp_region_ext (by kernel_rfl) (by kernel_rfl) ?_); (repeat (first | go_big_quiet_step ((first | fail)) | quiet_step ((first | fail)))); refine wpQuiet_nil ?_; rintro _ ⟨yr, rfl⟩; have syr := Ext.size yr; (repeat (first | rw [World.size_alloc] at syr | rw [World.size_setCell] at syr | rw [World.size_drew] at syr)); have : SB < yr.now.heap.size := (by omega); have : SB ≤ yr.now.heap.size := (by omega); have : SB < yr.now.heap.size + 1 + 1 := (by omega)))
                  refine ⟨⟨g + 1, ⟨_, ?_⟩, by simp, rfl, Go.Lib.hid hgl⟩, by simp [intOf]; omega⟩
                  repeat' (first | (with_reducible exact Below.refl _ _) | (with_reducible assumption) | (with_reducible refine Ext.below _ ?_ ?_) | (with_reducible refine Below.on ?_ (by with_reducible assumption) ?_) | (with_reducible refine Below.alloc ?_ ?_ _) | (with_reducible refine Below.drew ?_) | (with_reducible refine Below.setCell ?_ ?_ _) | (with_reducible exact Nat.le_refl _) | omega | (simp; done) | (simp [go_sem]; done) | (simp at *; omega))
          · have hgl2 : ¬ (g : Int) < gs.length := by omega
            clear hg
            go_wp2_with (first | ((first | with_reducible refine wp_region_ext2 (by kernel_rfl) (by kernel_rfl) ?_ | with_reducible refine wp_region_ext (by kernel_rfl) (by kernel_rfl) ?_); (repeat (first | go_big_quiet_step ((first | (go_at_call 12; with_reducible exact Calls.ext (ca _)))) | quiet_step ((first | (go_at_call 12; with_reducible exact Calls.ext (ca _)))))); refine wpQuiet_nil ?_; rintro _ ⟨yr, rfl⟩; have syr := Ext.size yr; (repeat (first | rw [World.size_alloc] at syr | rw [World.size_setCell] at syr | rw [World.size_drew] at syr))) | (go_at_call 12; (first | with_reducible refine (Calls.giv2 (ca _)).mono ?_ | with_reducible refine (Calls.giv (ca _)).mono ?_); rintro _ _ ⟨y1, rfl, rfl⟩; have sy1 := Ext.size y1; (repeat (first | rw [World.size_alloc] at sy1 | rw [World.size_setCell] at sy1 | rw [World.size_drew] at sy1))))
            go_returns
            refine ⟨rfl, ?_⟩
            repeat' (first | (with_reducible exact Below.refl _ _) | (with_reducible assumption) | (with_reducible refine Ext.below _ ?_ ?_) | (with_reducible refine Below.on ?_ (by with_reducible assumption) ?_) | (with_reducible refine Below.alloc ?_ ?_ _) | (with_reducible refine Below.drew ?_) | (with_reducible refine Below.setCell ?_ ?_ _) | (with_reducible exact Nat.le_refl _) | omega | (simp; done) | (simp [go_sem]; done) | (simp at *; omega))
set_option maxRecDepth 100000 in
theorem SkyRight_lifted (os : Os) (started : os.Started) (H : Type) (enc : TypeId × Value → H) :
    ReturnsInHanded {} Try.checked os 4 .any (Rows.skyRightSpec.pre6 enc Try.prog Try.f4 Rows.skyRightRow.domain false) (Rows.skyRightSpec.post enc Try.prog Try.f4 false true false false) := by
  refine returnsInHanded_of_change (C := Try.checked) own started (by kernel_rfl) Try.func4
    (ChangeSpec.witness6 (enc := enc) (C := Try.checked) false ⟨#[], #[.slice none 0 0, .int .i64 0, .int .i64 0], []⟩ 8 (by kernel_rfl) (by kernel_rfl) (by kernel_rfl) (by kernel_rfl)) ?_
  intro W base args ds gs before hval0 hW _ _
  have hval : ∀ (j : Nat) t v, Try.f4.params[j]? = some t → args[j]? = some v → Value.okWide Try.prog W .any base t v := hval0
  have hW' := hW
  obtain ⟨p, q, hA0, hV, _, _, _⟩ := hW
  have hA : DataW.TrodAll enc Try.prog W 0 (fun _ => true) true Try.f4.params.toList args.toList ds p := hA0
  rw [Try.params4] at hA hval
  obtain ⟨v0, vs0, d0, ds0, p0, q0, hargs0, rfl, _, h0, r0⟩ := trodAll_cons hA
  obtain ⟨v1, vs1, d1, ds1, p1, q1, hargs1, rfl, _, h1, r1⟩ := trodAll_cons r0
  obtain ⟨v2, vs2, d2, ds2, p2, q2, hargs2, rfl, _, h2, r2⟩ := trodAll_cons r1
  obtain ⟨hlast, rfl, _⟩ := trodAll_nil r2
  subst hlast
  subst hargs2
  subst hargs1
  obtain rfl : args = #[v0, v1, v2] := by cases args; simp_all
  obtain ⟨rfl, rfl⟩ := trodVars_none hV
  obtain ⟨sp0, sl0, sc0, sz0, rfl, hi0⟩ := open_list (P := Try.prog) Try.underlying22 Try.underlying3 (by kernel_rfl) (hval 0 22 v0 rfl rfl) h0
  obtain ⟨x1, rfl, hi1⟩ := open_num (P := Try.prog) Try.underlying3 (hval 1 3 v1 rfl rfl)
  obtain ⟨x2, rfl, hi2⟩ := open_num (P := Try.prog) Try.underlying3 (hval 2 3 v2 rfl rfl)
  exact (SkyRight_any sp0 sl0 sc0 sz0 x1 x2 W hi0 hi1 hi2).mono fun e W' h => law_post laid_out (by rw [Try.params4]; intro t ht; simp only [List.mem_cons, List.not_mem_nil, or_false] at ht; rcases ht with rfl | rfl | rfl | rfl | rfl | rfl | rfl | rfl; all_goals exact ⟨by kernel_rfl, by decide +kernel⟩) rfl rfl Try.underlying4 hW' rfl h
/-- The statement. -/
theorem SkyRight_holds : Rows.SkyRightSaid :=
  OpenClaim.holds_of_wide 4 Try.f4 rfl rfl rfl rfl rfl rfl rfl ⟨rfl, rfl, rfl, rfl, rfl⟩ rfl rfl rfl rfl rfl (by kernel_rfl) Try.func4 (by kernel_rfl)
    (of_decide_eq_true (by kernel_rfl)) (by unfold Func.isWrapper; first | (rw [if_pos (by decide +kernel)]; kernel_rfl) | (rw [if_neg (by decide +kernel)]; exact ⟨rfl, rfl⟩))
    (fun os started H enc _ => SkyRight_lifted os started H enc)
end Go.Proofs.Ytgoilmiiegpnoaa

/- SkyJoins: linking does not depend on the order of both tracklets, the guess that links them misses nothing in either and is the first such one, and with more guesses they stay linked by the same one. Condition: none beyond the statement's own. -/
import Derived.Test.YtgoilmiiegpnoaaSkyJz
import Derived.Test.YtgoilmiiegpnoaaSkyU
import Derived.Test.YtgoilmiiegpnoaaLaw
import Derived.Test.YtgoilmiiegpnoaaLawList
namespace Go.Proofs.Ytgoilmiiegpnoaa
open Go.RowKit Go.Shelf Go.ChangeShapes Go.WideShapes Go.ChangeAt Go.Joins
attribute [local go_sem] Option.isSome_some Ext.cell Ext.frozen Ext.lt Ext.le Ext.lt_add Ext.le_add Ext.ne Ext.ne' lt2 lt3 lt4 lt5 le2 le3 le4
set_option maxRecDepth 100000 in
set_option maxHeartbeats 16000000 in
theorem SkyJoins_any (sp : Option Addr) (sl sc : Nat) (sz : Nat → Int) (i k : Int) (w : World) (hw : ListIn w sp sl sz) (h1 : I64 i) (h2 : I64 k) : Calls Try.prog 3 #[.slice sp sl sc, .int .i64 i, .int .i64 k] w (Gives (.bool true) w) := by
  have ca := fun W => skyAwake_any W
  go_enter Try.func3, Try.ntmps3
  go_wp2_with (first | ((first | with_reducible refine wp_region_ext2 (by kernel_rfl) (by kernel_rfl) ?_ | with_reducible refine wp_region_ext (by kernel_rfl) (by kernel_rfl) ?_); (repeat (first | go_big_quiet_step ((first | fail)) | quiet_step ((first | fail)))); refine wpQuiet_nil ?_; rintro _ ⟨yr, rfl⟩; have syr := Ext.size yr; (repeat (first | rw [World.size_alloc] at syr | rw [World.size_setCell] at syr | rw [World.size_drew] at syr))) | (go_at_call 8; refine (many_any sp sl sc sz _ hw).mono ?_; rintro _ W1 ⟨s, ts, gs, v, u, rfl, hb1, hsm, hAt, hM, hok, ⟨ht1, ht6⟩, hg1, hg6⟩; obtain ⟨⟨tp, tc, rfl⟩, gp, gc, rfl⟩ := hM.form; unfold SkyR.val; have hs1 := hb1.size))
  refine wp_named (fun W2 hW => ?_)
  have hY2 : Below W1.heap.size W1 W2 := by rw [← hW]; repeat' (first | (with_reducible exact Below.refl _ _) | (with_reducible assumption) | (with_reducible refine Ext.below _ ?_ ?_) | (with_reducible refine Below.on ?_ (by with_reducible assumption) ?_) | (with_reducible refine Below.alloc ?_ ?_ _) | (with_reducible refine Below.drew ?_) | (with_reducible refine Below.setCell ?_ ?_ _) | (with_reducible exact Nat.le_refl _) | omega | (simp; done) | (simp [go_sem]; done) | (simp at *; omega))
  have k0 : W2.cell? ⟨W1.heap.size, 0, none⟩ = some (.slice s.bp s.bodies.length s.bc) := by rw [← hW]; simp [go_sem]
  have k1 : W2.cell? ⟨W1.heap.size, 1, none⟩ = some (.int .i64 s.home) := by rw [← hW]; simp [go_sem]
  have k2 : W2.cell? ⟨W1.heap.size, 2, none⟩ = some (.slice s.sp s.sts.length s.sc) := by rw [← hW]; simp [go_sem]
  have k3 : W2.cell? ⟨W1.heap.size, 3, none⟩ = some (.slice s.cp s.cats.length s.cc) := by rw [← hW]; simp [go_sem]
  have hs2 : W1.heap.size < W2.heap.size := by rw [← hW]; simp
  have hBw : Below w.heap.size w W2 := hb1.trans (hY2.mono hs1)
  have hwl : w.heap.size ≤ W2.heap.size := by omega
  have hA2 := hAt.on hY2
  have hT := hM.tracks.on hY2
  have hG := Go.Lib.hid (hM.states.on hY2)
  clear hW hAt hM hY2 hb1 hw
  generalize W1.heap.size = SB at *
  clear hs1 W1
  obtain ⟨ia, hia⟩ : ∃ ia : Nat, i % (ts.length : Int) = ia := ⟨(i % ts.length).toNat, by rw [Int.toNat_of_nonneg (Int.emod_nonneg _ (by omega))]⟩
  obtain ⟨ib, hib⟩ : ∃ ib : Nat, k % (ts.length : Int) = ib := ⟨(k % ts.length).toNat, by rw [Int.toNat_of_nonneg (Int.emod_nonneg _ (by omega))]⟩
  have hia2 : ia < ts.length := by have := Int.emod_lt_of_pos i (show 0 < (ts.length : Int) by omega); omega
  have hib2 : ib < ts.length := by have := Int.emod_lt_of_pos k (show 0 < (ts.length : Int) by omega); omega
  have cm1 := fun W => Mod_any i ts.length W h1 (by omega) (by omega)
  have cm2 := fun W => Mod_any k ts.length W h2 (by omega) (by omega)
  rw [hia] at cm1
  rw [hib] at cm2
  clear hia hib h1 h2
  obtain ⟨hsa, B, o, rfl, hB, ra⟩ := hT ia hia2
  obtain ⟨hsb, B', o', e, hB', rb⟩ := hT ib hib2
  injection e with e
  injection e with e1 e2
  subst e1 e2
  have ta := hok.t _ (List.getElem_mem hia2)
  have tb := hok.t _ (List.getElem_mem hib2)
  have hea := TrackOk.err hsm ta.1 ta.2.1 ta.2.2
  have heb := TrackOk.err hsm tb.1 tb.2.1 tb.2.2
  have hge := guessesE_ok hok.g (by omega)
  have hge2 : guessesE (gs ++ [gs[0]]) 0 = 0 := guessesE_ok (fun g hg => by
    rcases List.mem_append.1 hg with q | q
    · exact hok.g g q
    · rw [List.mem_singleton.1 q]; exact hok.g _ (List.getElem_mem _)) (by rw [List.length_append, List.length_cons, List.length_nil]; omega)
  have hj := joins_says (g0 := gs[0]) hea heb hge hge2
  have la4 : ts[ia].l.length ≤ 4 := ta.2.2
  have lb4 : ts[ib].l.length ≤ 4 := tb.2.2
  have hit : (ia : Int) < (ts.length : Int) := by omega
  have hit' : (ib : Int) < (ts.length : Int) := by omega
  have hva := fun n hn => missV_ok (s := s) (gs := gs) hea hok.g n hn
  have hvb := fun n hn => missV_ok (s := s) (gs := gs) heb hok.g n hn
  clear hT ta tb hea heb hge hge2 hsm hok ht1 ht6
  generalize ts[ia].l = a at *
  generalize ts[ia].p = pa at *
  generalize ts[ia].c = cca at *
  generalize ts[ib].l = b at *
  generalize ts[ib].p = pb at *
  generalize ts[ib].c = ccb at *
  clear hia2 hib2
  generalize ts.length = lt' at *
  clear ts
  have hp := Go.Lib.hid (fun n (hn : n < gs.length) => And.intro (fmS_in (s := s) gs[n] 0 a 0) (fmS_in (s := s) gs[n] 0 b 0))
  have c1 := fun (W : World) (y : Below W2.heap.size W2 W) => Link_any s pa pb gp cca ccb gc a b gs 0 W (hA2.on y) (hsa.on y) (hsb.on y) (hG.out.on y)
  have c2 := fun (W : World) (y : Below W2.heap.size W2 W) => Link_any s pb pa gp ccb cca gc b a gs 0 W (hA2.on y) (hsb.on y) (hsa.on y) (hG.out.on y)
  have c3 := Go.Lib.hid (fun (W : World) (y : Below W2.heap.size W2 W) (p : Option Addr) (c : Nat) (h : StatesAt W p (gs ++ [gs[0]])) => Link_any s pa pb p cca ccb c a b (gs ++ [gs[0]]) 0 W (hA2.on y) (hsa.on y) (hsb.on y) h)
  have cpa := Go.Lib.hid (fun n (hn : n < gs.length) (W : World) (y : Below W2.heap.size W2 W) => (by have := Miss_any s pa cca a gs[n] 0 W (hA2.on y) (hsa.on y); rw [hva n hn] at this; exact this : Calls Try.prog 11 #[s.val, .slice pa a.length cca, .agg #[.int .i64 gs[n].x, .int .i64 gs[n].y, .int .i64 gs[n].u, .int .i64 gs[n].v], .int .i64 0] W (Gives (.int .i64 (fmS s gs[n] 0 0 a)) W)))
  have cpb := Go.Lib.hid (fun n (hn : n < gs.length) (W : World) (y : Below W2.heap.size W2 W) => (by have := Miss_any s pb ccb b gs[n] 0 W (hA2.on y) (hsb.on y); rw [hvb n hn] at this; exact this : Calls Try.prog 11 #[s.val, .slice pb b.length ccb, .agg #[.int .i64 gs[n].x, .int .i64 gs[n].y, .int .i64 gs[n].u, .int .i64 gs[n].v], .int .i64 0] W (Gives (.int .i64 (fmS s gs[n] 0 0 b)) W)))
  clear hva hvb hA2 hsa hsb
  unfold SkyR.val at c1 c2 c3 cpa cpb
  generalize hlA : a.length = lA at *
  generalize hlB : b.length = lB at *
  have hlA := Go.Lib.hid hlA
  have hlB := Go.Lib.hid hlB
  generalize s.bp = n5 at *
  generalize s.bodies.length = n4 at *
  generalize s.bc = n6 at *
  generalize s.home = n0 at *
  generalize s.sp = n8 at *
  generalize s.sts.length = n7 at *
  generalize s.sc = n9 at *
  generalize s.cp = n2 at *
  generalize s.cats.length = n1 at *
  generalize s.cc = n3 at *
  rcases hj with ⟨j, hjl, e1, e2, e3, ea, eb, hno⟩ | ⟨x, y, e1, e2, hxl, hyl, hxs⟩
  case inl =>
    rw [e1] at c1
    rw [e2] at c2
    rw [e3] at c3
    clear e1 e2 e3
    unfold LinkPost at c1 c2 c3
    simp only at c1 c2 c3
    have c3 := Go.Lib.hid c3
    have hno := Go.Lib.hid hno
    have hj0 : (0 : Int) ≤ (j : Int) := by omega
    have hj1 : ¬ ((j : Int) < 0) := by omega
    have hj2 : 0 < gs.length := by omega
    have hmx : ∀ n : Nat, ¬ ((n : Int) = -1) := fun n => by omega
    have hm1 : ((-1 : Int) == -1) = true := by decide
    go_wp2_with (first | ((first | with_reducible refine wp_region_ext2 (by kernel_rfl) (by kernel_rfl) ?_ | with_reducible refine wp_region_ext (by kernel_rfl) (by kernel_rfl) ?_); (repeat (first | go_big_quiet_step ((first | (go_at_call 9; with_reducible exact Calls.ext (cm1 _)) | (go_at_call 9; with_reducible exact Calls.ext (cm2 _)))) | quiet_step ((first | (go_at_call 9; with_reducible exact Calls.ext (cm1 _)) | (go_at_call 9; with_reducible exact Calls.ext (cm2 _)))))); refine wpQuiet_nil ?_; rintro _ ⟨yr, rfl⟩; have syr := Ext.size yr; (repeat (first | rw [World.size_alloc] at syr | rw [World.size_setCell] at syr | rw [World.size_drew] at syr)); have : SB < yr.now.heap.size := (by omega); have : SB ≤ yr.now.heap.size := (by omega); have : SB < yr.now.heap.size + 1 + 1 := (by omega)) | (go_at_call 9; (first | with_reducible refine (Calls.giv2 (cm1 _)).mono ?_ | with_reducible refine (Calls.giv (cm1 _)).mono ?_); rintro _ _ ⟨y1, rfl, rfl⟩; have sy1 := Ext.size y1; (repeat (first | rw [World.size_alloc] at sy1 | rw [World.size_setCell] at sy1 | rw [World.size_drew] at sy1)); have : SB < y1.now.heap.size := (by omega); have : SB ≤ y1.now.heap.size := (by omega); have : SB < y1.now.heap.size + 1 + 1 := (by omega)) | (go_at_call 9; (first | with_reducible refine (Calls.giv2 (cm2 _)).mono ?_ | with_reducible refine (Calls.giv (cm2 _)).mono ?_); rintro _ _ ⟨y2, rfl, rfl⟩; have sy2 := Ext.size y2; (repeat (first | rw [World.size_alloc] at sy2 | rw [World.size_setCell] at sy2 | rw [World.size_drew] at sy2)); have : SB < y2.now.heap.size := (by omega); have : SB ≤ y2.now.heap.size := (by omega); have : SB < y2.now.heap.size + 1 + 1 := (by omega)) | (go_at_call 10; refine (c1 _ (by repeat' (first | (with_reducible exact Below.refl _ _) | (with_reducible assumption) | (with_reducible refine Ext.below _ ?_ ?_) | (with_reducible refine Below.on ?_ (by with_reducible assumption) ?_) | (with_reducible refine Below.alloc ?_ ?_ _) | (with_reducible refine Below.drew ?_) | (with_reducible refine Below.setCell ?_ ?_ _) | (with_reducible exact Nat.le_refl _) | omega | (simp; done) | (simp [go_sem]; done) | (simp at *; omega)))).mono ?_; rintro _ W3 ⟨hb3, v3, rfl, how3⟩; have hbw3 : Below W2.heap.size W2 W3 := (by refine Below.on ?_ hb3 (by first | omega | (simp only [World.size_alloc]; omega)); repeat' (first | (with_reducible exact Below.refl _ _) | (with_reducible assumption) | (with_reducible refine Ext.below _ ?_ ?_) | (with_reducible refine Below.on ?_ (by with_reducible assumption) ?_) | (with_reducible refine Below.alloc ?_ ?_ _) | (with_reducible refine Below.drew ?_) | (with_reducible refine Below.setCell ?_ ?_ _) | (with_reducible exact Nat.le_refl _) | omega | (simp; done) | (simp [go_sem]; done) | (simp at *; omega))); obtain ⟨p3, d3, rfl, hI3⟩ := owns_ints how3; simp only [List.length_nil]; have hs3 : SB < W3.heap.size := (Nat.lt_of_lt_of_le hs2 hbw3.size); have q0 := (hbw3.cell (p := ⟨SB, 0, none⟩) hs2).trans k0; have q1 := (hbw3.cell (p := ⟨SB, 1, none⟩) hs2).trans k1; have q2 := (hbw3.cell (p := ⟨SB, 2, none⟩) hs2).trans k2; have q3 := (hbw3.cell (p := ⟨SB, 3, none⟩) hs2).trans k3; clear c1 how3) | (go_at_call 10; refine (c2 _ (by repeat' (first | (with_reducible exact Below.refl _ _) | (with_reducible assumption) | (with_reducible refine Ext.below _ ?_ ?_) | (with_reducible refine Below.on ?_ (by with_reducible assumption) ?_) | (with_reducible refine Below.alloc ?_ ?_ _) | (with_reducible refine Below.drew ?_) | (with_reducible refine Below.setCell ?_ ?_ _) | (with_reducible exact Nat.le_refl _) | omega | (simp; done) | (simp [go_sem]; done) | (simp at *; omega)))).mono ?_; rintro _ W4 ⟨hb4, v4, rfl, how4⟩; have hbw4 : Below W2.heap.size W2 W4 := (by refine Below.on ?_ hb4 (by first | (have := hbw3.size; omega) | (simp only [World.size_alloc]; omega)); repeat' (first | (with_reducible exact Below.refl _ _) | (with_reducible assumption) | (with_reducible refine Ext.below _ ?_ ?_) | (with_reducible refine Below.on ?_ (by with_reducible assumption) ?_) | (with_reducible refine Below.alloc ?_ ?_ _) | (with_reducible refine Below.drew ?_) | (with_reducible refine Below.setCell ?_ ?_ _) | (with_reducible exact Nat.le_refl _) | omega | (simp; done) | (simp [go_sem]; done) | (simp at *; omega))); obtain ⟨p4, d4, rfl, hI4⟩ := owns_ints how4; simp only [List.length_nil]; have hI34 := Go.Lib.hid (hI3.on hb4); clear hI3 hI4 q0 q1 q2 q3; have hs4 : SB < W4.heap.size := (Nat.lt_of_lt_of_le hs2 hbw4.size); have r0 := (hbw4.cell (p := ⟨SB, 0, none⟩) hs2).trans k0; have r1 := (hbw4.cell (p := ⟨SB, 1, none⟩) hs2).trans k1; have r2 := (hbw4.cell (p := ⟨SB, 2, none⟩) hs2).trans k2; have r3 := (hbw4.cell (p := ⟨SB, 3, none⟩) hs2).trans k3; clear c2 how4))
    have hG4 := Go.Lib.hid (hG.out.on hbw4)
    have hwb : Below w.heap.size w W4 := hBw.trans (hbw4.mono hwl)
    have hww : w.heap.size ≤ W4.heap.size := hwb.size
    have hx4 : W2.heap.size ≤ W4.heap.size := hbw4.size
    clear k0 k1 k2 k3 hB ra rb hB' hb3 hb4 hbw3 hs3 cm1 cm2
    go_loopw [18] (fun u W => ∃ (n : Nat) (x : Ext W4), u = .int .i64 n ∧ W = x.now ∧ Hid (n ≤ gs.length)) (fun u _ => gs.length - (intOf u).toNat)
    case atStart => exact ⟨0, ⟨W4, Below.refl _ _⟩, rfl, rfl, Go.Lib.hid (Nat.zero_le _)⟩
    case round =>
      obtain ⟨n, xw, rfl, rfl, hi⟩ := hrel
      have xs := xw.size
      have hbx : Below W2.heap.size W2 xw.now := xw.below hbw4 (by have := hbw4.size; omega)
      have hx2 : W2.heap.size ≤ xw.now.heap.size := hbx.size
      have : SB < (xw.now).heap.size := (by omega); have : SB < (xw.now).heap.size + 1 := (by omega); have : SB < (xw.now).heap.size + 1 + 1 := (by omega); have : SB ≠ (xw.now).heap.size := (by omega); have : SB ≠ (xw.now).heap.size + 1 := (by omega)
      by_cases hlt : n < gs.length
      · have hlt2 : (n : Int) < gs.length := by omega
        have hn0 : (0 : Int) ≤ (n : Int) := by omega
        have hnm := hmx n
        obtain ⟨B1, o1, rfl, hB1, z1, z2, z3, z4⟩ := hG4.out n hlt
        have hB1s : B1 < xw.now.heap.size := xw.lt hB1
        have : B1 < (xw.now).heap.size := (by omega); have : B1 < (xw.now).heap.size + 1 := (by omega); have : B1 < (xw.now).heap.size + 1 + 1 := (by omega); have : B1 ≠ (xw.now).heap.size := (by omega); have : B1 ≠ (xw.now).heap.size + 1 := (by omega)
        have cA := fun (W : World) (y : Below W2.heap.size W2 W) => cpa.out n hlt W y
        have cB := fun (W : World) (y : Below W2.heap.size W2 W) => cpb.out n hlt W y
        have hnn : n < j → ¬ (fmS s gs[n] 0 0 a < 0 ∧ fmS s gs[n] 0 0 b < 0) := fun h => hno.out n h
        have hja : n = j → fmS s gs[n] 0 0 a = -1 := fun h => by subst h; exact ea
        have hjb : n = j → fmS s gs[n] 0 0 b = -1 := fun h => by subst h; exact eb
        generalize fmS s gs[n] 0 0 a = P at *
        generalize fmS s gs[n] 0 0 b = Q at *
        generalize gs[n].x = g1 at *
        generalize gs[n].y = g2 at *
        generalize gs[n].u = g3 at *
        generalize gs[n].v = g4 at *
        rcases Nat.lt_trichotomy n j with h | h | h
        · have hn' := hnn h
          clear hnn hja hjb
          have h1 : (n : Int) < (j : Int) := by omega
          have h2 : ¬ ((n : Int) = (j : Int)) := by omega
          have h3 : ¬ (n = j) := by omega
          by_cases hP : P < 0
          · have hQ : ¬ (Q < 0) := fun hq => hn' ⟨hP, hq⟩
            clear hn'
            go_wp2_with (first | ((first | with_reducible refine wp_region_ext2 (by kernel_rfl) (by kernel_rfl) ?_ | with_reducible refine wp_region_ext (by kernel_rfl) (by kernel_rfl) ?_); (repeat (first | go_big_quiet_step ((first | (go_at_call 11; with_reducible exact Calls.ext (cA _ (by repeat' (first | (with_reducible exact Below.refl _ _) | (with_reducible assumption) | (with_reducible refine Ext.below _ ?_ ?_) | (with_reducible refine Below.on ?_ (by with_reducible assumption) ?_) | (with_reducible refine Below.alloc ?_ ?_ _) | (with_reducible refine Below.drew ?_) | (with_reducible refine Below.setCell ?_ ?_ _) | (with_reducible exact Nat.le_refl _) | omega | (simp; done) | (simp [go_sem]; done) | (simp at *; omega))))) | (go_at_call 11; with_reducible exact Calls.ext (cB _ (by repeat' (first | (with_reducible exact Below.refl _ _) | (with_reducible assumption) | (with_reducible refine Ext.below _ ?_ ?_) | (with_reducible refine Below.on ?_ (by with_reducible assumption) ?_) | (with_reducible refine Below.alloc ?_ ?_ _) | (with_reducible refine Below.drew ?_) | (with_reducible refine Below.setCell ?_ ?_ _) | (with_reducible exact Nat.le_refl _) | omega | (simp; done) | (simp [go_sem]; done) | (simp at *; omega))))))) | quiet_step ((first | (go_at_call 11; with_reducible exact Calls.ext (cA _ (by repeat' (first | (with_reducible exact Below.refl _ _) | (with_reducible assumption) | (with_reducible refine Ext.below _ ?_ ?_) | (with_reducible refine Below.on ?_ (by with_reducible assumption) ?_) | (with_reducible refine Below.alloc ?_ ?_ _) | (with_reducible refine Below.drew ?_) | (with_reducible refine Below.setCell ?_ ?_ _) | (with_reducible exact Nat.le_refl _) | omega | (simp; done) | (simp [go_sem]; done) | (simp at *; omega))))) | (go_at_call 11; with_reducible exact Calls.ext (cB _ (by repeat' (first | (with_reducible exact Below.refl _ _) | (with_reducible assumption) | (with_reducible refine Ext.below _ ?_ ?_) | (with_reducible refine Below.on ?_ (by with_reducible assumption) ?_) | (with_reducible refine Below.alloc ?_ ?_ _) | (with_reducible refine Below.drew ?_) | (with_reducible refine Below.setCell ?_ ?_ _) | (with_reducible exact Nat.le_refl _) | omega | (simp; done) | (simp [go_sem]; done) | (simp at *; omega))))))))); refine wpQuiet_nil ?_; rintro _ ⟨yr, rfl⟩; have syr := Ext.size yr; (repeat (first | rw [World.size_alloc] at syr | rw [World.size_setCell] at syr | rw [World.size_drew] at syr)); have : SB < yr.now.heap.size := (by omega); have : SB ≤ yr.now.heap.size := (by omega); have : SB < yr.now.heap.size + 1 + 1 := (by omega); have : B1 < yr.now.heap.size := (by omega); have : B1 ≤ yr.now.heap.size := (by omega); have : B1 < yr.now.heap.size + 1 + 1 := (by omega)) | (go_at_call 11; (first | with_reducible refine (Calls.giv2 (cA _ (by repeat' (first | (with_reducible exact Below.refl _ _) | (with_reducible assumption) | (with_reducible refine Ext.below _ ?_ ?_) | (with_reducible refine Below.on ?_ (by with_reducible assumption) ?_) | (with_reducible refine Below.alloc ?_ ?_ _) | (with_reducible refine Below.drew ?_) | (with_reducible refine Below.setCell ?_ ?_ _) | (with_reducible exact Nat.le_refl _) | omega | (simp; done) | (simp [go_sem]; done) | (simp at *; omega))))).mono ?_ | with_reducible refine (Calls.giv (cA _ (by repeat' (first | (with_reducible exact Below.refl _ _) | (with_reducible assumption) | (with_reducible refine Ext.below _ ?_ ?_) | (with_reducible refine Below.on ?_ (by with_reducible assumption) ?_) | (with_reducible refine Below.alloc ?_ ?_ _) | (with_reducible refine Below.drew ?_) | (with_reducible refine Below.setCell ?_ ?_ _) | (with_reducible exact Nat.le_refl _) | omega | (simp; done) | (simp [go_sem]; done) | (simp at *; omega))))).mono ?_); rintro _ _ ⟨y1, rfl, rfl⟩; have sy1 := Ext.size y1; (repeat (first | rw [World.size_alloc] at sy1 | rw [World.size_setCell] at sy1 | rw [World.size_drew] at sy1)); have : SB < y1.now.heap.size := (by omega); have : SB ≤ y1.now.heap.size := (by omega); have : SB < y1.now.heap.size + 1 + 1 := (by omega); have : B1 < y1.now.heap.size := (by omega); have : B1 ≤ y1.now.heap.size := (by omega); have : B1 < y1.now.heap.size + 1 + 1 := (by omega)) | (go_at_call 11; (first | with_reducible refine (Calls.giv2 (cB _ (by repeat' (first | (with_reducible exact Below.refl _ _) | (with_reducible assumption) | (with_reducible refine Ext.below _ ?_ ?_) | (with_reducible refine Below.on ?_ (by with_reducible assumption) ?_) | (with_reducible refine Below.alloc ?_ ?_ _) | (with_reducible refine Below.drew ?_) | (with_reducible refine Below.setCell ?_ ?_ _) | (with_reducible exact Nat.le_refl _) | omega | (simp; done) | (simp [go_sem]; done) | (simp at *; omega))))).mono ?_ | with_reducible refine (Calls.giv (cB _ (by repeat' (first | (with_reducible exact Below.refl _ _) | (with_reducible assumption) | (with_reducible refine Ext.below _ ?_ ?_) | (with_reducible refine Below.on ?_ (by with_reducible assumption) ?_) | (with_reducible refine Below.alloc ?_ ?_ _) | (with_reducible refine Below.drew ?_) | (with_reducible refine Below.setCell ?_ ?_ _) | (with_reducible exact Nat.le_refl _) | omega | (simp; done) | (simp [go_sem]; done) | (simp at *; omega))))).mono ?_); rintro _ _ ⟨y2, rfl, rfl⟩; have sy2 := Ext.size y2; (repeat (first | rw [World.size_alloc] at sy2 | rw [World.size_setCell] at sy2 | rw [World.size_drew] at sy2)); have : SB < y2.now.heap.size := (by omega); have : SB ≤ y2.now.heap.size := (by omega); have : SB < y2.now.heap.size + 1 + 1 := (by omega); have : B1 < y2.now.heap.size := (by omega); have : B1 ≤ y2.now.heap.size := (by omega); have : B1 < y2.now.heap.size + 1 + 1 := (by omega)))
            refine ⟨⟨n + 1, ⟨_, ?_⟩, by simp, rfl, Go.Lib.hid hlt⟩, by simp [intOf]; omega⟩
            repeat' (first | (with_reducible exact Below.refl _ _) | (with_reducible assumption) | (with_reducible refine Ext.below _ ?_ ?_) | (with_reducible refine Below.on ?_ (by with_reducible assumption) ?_) | (with_reducible refine Below.alloc ?_ ?_ _) | (with_reducible refine Below.drew ?_) | (with_reducible refine Below.setCell ?_ ?_ _) | (with_reducible exact Nat.le_refl _) | omega | (simp; done) | (simp [go_sem]; done) | (simp at *; omega))
          · clear hn'
            go_wp2_with (first | ((first | with_reducible refine wp_region_ext2 (by kernel_rfl) (by kernel_rfl) ?_ | with_reducible refine wp_region_ext (by kernel_rfl) (by kernel_rfl) ?_); (repeat (first | go_big_quiet_step ((first | (go_at_call 11; with_reducible exact Calls.ext (cA _ (by repeat' (first | (with_reducible exact Below.refl _ _) | (with_reducible assumption) | (with_reducible refine Ext.below _ ?_ ?_) | (with_reducible refine Below.on ?_ (by with_reducible assumption) ?_) | (with_reducible refine Below.alloc ?_ ?_ _) | (with_reducible refine Below.drew ?_) | (with_reducible refine Below.setCell ?_ ?_ _) | (with_reducible exact Nat.le_refl _) | omega | (simp; done) | (simp [go_sem]; done) | (simp at *; omega))))) | (go_at_call 11; with_reducible exact Calls.ext (cB _ (by repeat' (first | (with_reducible exact Below.refl _ _) | (with_reducible assumption) | (with_reducible refine Ext.below _ ?_ ?_) | (with_reducible refine Below.on ?_ (by with_reducible assumption) ?_) | (with_reducible refine Below.alloc ?_ ?_ _) | (with_reducible refine Below.drew ?_) | (with_reducible refine Below.setCell ?_ ?_ _) | (with_reducible exact Nat.le_refl _) | omega | (simp; done) | (simp [go_sem]; done) | (simp at *; omega))))))) | quiet_step ((first | (go_at_call 11; with_reducible exact Calls.ext (cA _ (by repeat' (first | (with_reducible exact Below.refl _ _) | (with_reducible assumption) | (with_reducible refine Ext.below _ ?_ ?_) | (with_reducible refine Below.on ?_ (by with_reducible assumption) ?_) | (with_reducible refine Below.alloc ?_ ?_ _) | (with_reducible refine Below.drew ?_) | (with_reducible refine Below.setCell ?_ ?_ _) | (with_reducible exact Nat.le_refl _) | omega | (simp; done) | (simp [go_sem]; done) | (simp at *; omega))))) | (go_at_call 11; with_reducible exact Calls.ext (cB _ (by repeat' (first | (with_reducible exact Below.refl _ _) | (with_reducible assumption) | (with_reducible refine Ext.below _ ?_ ?_) | (with_reducible refine Below.on ?_ (by with_reducible assumption) ?_) | (with_reducible refine Below.alloc ?_ ?_ _) | (with_reducible refine Below.drew ?_) | (with_reducible refine Below.setCell ?_ ?_ _) | (with_reducible exact Nat.le_refl _) | omega | (simp; done) | (simp [go_sem]; done) | (simp at *; omega))))))))); refine wpQuiet_nil ?_; rintro _ ⟨yr, rfl⟩; have syr := Ext.size yr; (repeat (first | rw [World.size_alloc] at syr | rw [World.size_setCell] at syr | rw [World.size_drew] at syr)); have : SB < yr.now.heap.size := (by omega); have : SB ≤ yr.now.heap.size := (by omega); have : SB < yr.now.heap.size + 1 + 1 := (by omega); have : B1 < yr.now.heap.size := (by omega); have : B1 ≤ yr.now.heap.size := (by omega); have : B1 < yr.now.heap.size + 1 + 1 := (by omega)) | (go_at_call 11; (first | with_reducible refine (Calls.giv2 (cA _ (by repeat' (first | (with_reducible exact Below.refl _ _) | (with_reducible assumption) | (with_reducible refine Ext.below _ ?_ ?_) | (with_reducible refine Below.on ?_ (by with_reducible assumption) ?_) | (with_reducible refine Below.alloc ?_ ?_ _) | (with_reducible refine Below.drew ?_) | (with_reducible refine Below.setCell ?_ ?_ _) | (with_reducible exact Nat.le_refl _) | omega | (simp; done) | (simp [go_sem]; done) | (simp at *; omega))))).mono ?_ | with_reducible refine (Calls.giv (cA _ (by repeat' (first | (with_reducible exact Below.refl _ _) | (with_reducible assumption) | (with_reducible refine Ext.below _ ?_ ?_) | (with_reducible refine Below.on ?_ (by with_reducible assumption) ?_) | (with_reducible refine Below.alloc ?_ ?_ _) | (with_reducible refine Below.drew ?_) | (with_reducible refine Below.setCell ?_ ?_ _) | (with_reducible exact Nat.le_refl _) | omega | (simp; done) | (simp [go_sem]; done) | (simp at *; omega))))).mono ?_); rintro _ _ ⟨y1, rfl, rfl⟩; have sy1 := Ext.size y1; (repeat (first | rw [World.size_alloc] at sy1 | rw [World.size_setCell] at sy1 | rw [World.size_drew] at sy1)); have : SB < y1.now.heap.size := (by omega); have : SB ≤ y1.now.heap.size := (by omega); have : SB < y1.now.heap.size + 1 + 1 := (by omega); have : B1 < y1.now.heap.size := (by omega); have : B1 ≤ y1.now.heap.size := (by omega); have : B1 < y1.now.heap.size + 1 + 1 := (by omega)) | (go_at_call 11; (first | with_reducible refine (Calls.giv2 (cB _ (by repeat' (first | (with_reducible exact Below.refl _ _) | (with_reducible assumption) | (with_reducible refine Ext.below _ ?_ ?_) | (with_reducible refine Below.on ?_ (by with_reducible assumption) ?_) | (with_reducible refine Below.alloc ?_ ?_ _) | (with_reducible refine Below.drew ?_) | (with_reducible refine Below.setCell ?_ ?_ _) | (with_reducible exact Nat.le_refl _) | omega | (simp; done) | (simp [go_sem]; done) | (simp at *; omega))))).mono ?_ | with_reducible refine (Calls.giv (cB _ (by repeat' (first | (with_reducible exact Below.refl _ _) | (with_reducible assumption) | (with_reducible refine Ext.below _ ?_ ?_) | (with_reducible refine Below.on ?_ (by with_reducible assumption) ?_) | (with_reducible refine Below.alloc ?_ ?_ _) | (with_reducible refine Below.drew ?_) | (with_reducible refine Below.setCell ?_ ?_ _) | (with_reducible exact Nat.le_refl _) | omega | (simp; done) | (simp [go_sem]; done) | (simp at *; omega))))).mono ?_); rintro _ _ ⟨y2, rfl, rfl⟩; have sy2 := Ext.size y2; (repeat (first | rw [World.size_alloc] at sy2 | rw [World.size_setCell] at sy2 | rw [World.size_drew] at sy2)); have : SB < y2.now.heap.size := (by omega); have : SB ≤ y2.now.heap.size := (by omega); have : SB < y2.now.heap.size + 1 + 1 := (by omega); have : B1 < y2.now.heap.size := (by omega); have : B1 ≤ y2.now.heap.size := (by omega); have : B1 < y2.now.heap.size + 1 + 1 := (by omega)))
            refine ⟨⟨n + 1, ⟨_, ?_⟩, by simp, rfl, Go.Lib.hid hlt⟩, by simp [intOf]; omega⟩
            repeat' (first | (with_reducible exact Below.refl _ _) | (with_reducible assumption) | (with_reducible refine Ext.below _ ?_ ?_) | (with_reducible refine Below.on ?_ (by with_reducible assumption) ?_) | (with_reducible refine Below.alloc ?_ ?_ _) | (with_reducible refine Below.drew ?_) | (with_reducible refine Below.setCell ?_ ?_ _) | (with_reducible exact Nat.le_refl _) | omega | (simp; done) | (simp [go_sem]; done) | (simp at *; omega))
        · obtain rfl := hja h
          obtain rfl := hjb h
          clear hnn hja hjb
          subst h
          go_wp2_with (first | ((first | with_reducible refine wp_region_ext2 (by kernel_rfl) (by kernel_rfl) ?_ | with_reducible refine wp_region_ext (by kernel_rfl) (by kernel_rfl) ?_); (repeat (first | go_big_quiet_step ((first | (go_at_call 11; with_reducible exact Calls.ext (cA _ (by repeat' (first | (with_reducible exact Below.refl _ _) | (with_reducible assumption) | (with_reducible refine Ext.below _ ?_ ?_) | (with_reducible refine Below.on ?_ (by with_reducible assumption) ?_) | (with_reducible refine Below.alloc ?_ ?_ _) | (with_reducible refine Below.drew ?_) | (with_reducible refine Below.setCell ?_ ?_ _) | (with_reducible exact Nat.le_refl _) | omega | (simp; done) | (simp [go_sem]; done) | (simp at *; omega))))) | (go_at_call 11; with_reducible exact Calls.ext (cB _ (by repeat' (first | (with_reducible exact Below.refl _ _) | (with_reducible assumption) | (with_reducible refine Ext.below _ ?_ ?_) | (with_reducible refine Below.on ?_ (by with_reducible assumption) ?_) | (with_reducible refine Below.alloc ?_ ?_ _) | (with_reducible refine Below.drew ?_) | (with_reducible refine Below.setCell ?_ ?_ _) | (with_reducible exact Nat.le_refl _) | omega | (simp; done) | (simp [go_sem]; done) | (simp at *; omega))))))) | quiet_step ((first | (go_at_call 11; with_reducible exact Calls.ext (cA _ (by repeat' (first | (with_reducible exact Below.refl _ _) | (with_reducible assumption) | (with_reducible refine Ext.below _ ?_ ?_) | (with_reducible refine Below.on ?_ (by with_reducible assumption) ?_) | (with_reducible refine Below.alloc ?_ ?_ _) | (with_reducible refine Below.drew ?_) | (with_reducible refine Below.setCell ?_ ?_ _) | (with_reducible exact Nat.le_refl _) | omega | (simp; done) | (simp [go_sem]; done) | (simp at *; omega))))) | (go_at_call 11; with_reducible exact Calls.ext (cB _ (by repeat' (first | (with_reducible exact Below.refl _ _) | (with_reducible assumption) | (with_reducible refine Ext.below _ ?_ ?_) | (with_reducible refine Below.on ?_ (by with_reducible assumption) ?_) | (with_reducible refine Below.alloc ?_ ?_ _) | (with_reducible refine Below.drew ?_) | (with_reducible refine Below.setCell ?_ ?_ _) | (with_reducible exact Nat.le_refl _) | omega | (simp; done) | (simp [go_sem]; done) | (simp at *; omega))))))))); refine wpQuiet_nil ?_; rintro _ ⟨yr, rfl⟩; have syr := Ext.size yr; (repeat (first | rw [World.size_alloc] at syr | rw [World.size_setCell] at syr | rw [World.size_drew] at syr)); have : SB < yr.now.heap.size := (by omega); have : SB ≤ yr.now.heap.size := (by omega); have : SB < yr.now.heap.size + 1 + 1 := (by omega); have : B1 < yr.now.heap.size := (by omega); have : B1 ≤ yr.now.heap.size := (by omega); have : B1 < yr.now.heap.size + 1 + 1 := (by omega)) | (go_at_call 11; (first | with_reducible refine (Calls.giv2 (cA _ (by repeat' (first | (with_reducible exact Below.refl _ _) | (with_reducible assumption) | (with_reducible refine Ext.below _ ?_ ?_) | (with_reducible refine Below.on ?_ (by with_reducible assumption) ?_) | (with_reducible refine Below.alloc ?_ ?_ _) | (with_reducible refine Below.drew ?_) | (with_reducible refine Below.setCell ?_ ?_ _) | (with_reducible exact Nat.le_refl _) | omega | (simp; done) | (simp [go_sem]; done) | (simp at *; omega))))).mono ?_ | with_reducible refine (Calls.giv (cA _ (by repeat' (first | (with_reducible exact Below.refl _ _) | (with_reducible assumption) | (with_reducible refine Ext.below _ ?_ ?_) | (with_reducible refine Below.on ?_ (by with_reducible assumption) ?_) | (with_reducible refine Below.alloc ?_ ?_ _) | (with_reducible refine Below.drew ?_) | (with_reducible refine Below.setCell ?_ ?_ _) | (with_reducible exact Nat.le_refl _) | omega | (simp; done) | (simp [go_sem]; done) | (simp at *; omega))))).mono ?_); rintro _ _ ⟨y1, rfl, rfl⟩; have sy1 := Ext.size y1; (repeat (first | rw [World.size_alloc] at sy1 | rw [World.size_setCell] at sy1 | rw [World.size_drew] at sy1)); have : SB < y1.now.heap.size := (by omega); have : SB ≤ y1.now.heap.size := (by omega); have : SB < y1.now.heap.size + 1 + 1 := (by omega); have : B1 < y1.now.heap.size := (by omega); have : B1 ≤ y1.now.heap.size := (by omega); have : B1 < y1.now.heap.size + 1 + 1 := (by omega)) | (go_at_call 11; (first | with_reducible refine (Calls.giv2 (cB _ (by repeat' (first | (with_reducible exact Below.refl _ _) | (with_reducible assumption) | (with_reducible refine Ext.below _ ?_ ?_) | (with_reducible refine Below.on ?_ (by with_reducible assumption) ?_) | (with_reducible refine Below.alloc ?_ ?_ _) | (with_reducible refine Below.drew ?_) | (with_reducible refine Below.setCell ?_ ?_ _) | (with_reducible exact Nat.le_refl _) | omega | (simp; done) | (simp [go_sem]; done) | (simp at *; omega))))).mono ?_ | with_reducible refine (Calls.giv (cB _ (by repeat' (first | (with_reducible exact Below.refl _ _) | (with_reducible assumption) | (with_reducible refine Ext.below _ ?_ ?_) | (with_reducible refine Below.on ?_ (by with_reducible assumption) ?_) | (with_reducible refine Below.alloc ?_ ?_ _) | (with_reducible refine Below.drew ?_) | (with_reducible refine Below.setCell ?_ ?_ _) | (with_reducible exact Nat.le_refl _) | omega | (simp; done) | (simp [go_sem]; done) | (simp at *; omega))))).mono ?_); rintro _ _ ⟨y2, rfl, rfl⟩; have sy2 := Ext.size y2; (repeat (first | rw [World.size_alloc] at sy2 | rw [World.size_setCell] at sy2 | rw [World.size_drew] at sy2)); have : SB < y2.now.heap.size := (by omega); have : SB ≤ y2.now.heap.size := (by omega); have : SB < y2.now.heap.size + 1 + 1 := (by omega); have : B1 < y2.now.heap.size := (by omega); have : B1 ≤ y2.now.heap.size := (by omega); have : B1 < y2.now.heap.size + 1 + 1 := (by omega)))
          refine ⟨⟨n + 1, ⟨_, ?_⟩, by simp, rfl, Go.Lib.hid hlt⟩, by simp [intOf]; omega⟩
          repeat' (first | (with_reducible exact Below.refl _ _) | (with_reducible assumption) | (with_reducible refine Ext.below _ ?_ ?_) | (with_reducible refine Below.on ?_ (by with_reducible assumption) ?_) | (with_reducible refine Below.alloc ?_ ?_ _) | (with_reducible refine Below.drew ?_) | (with_reducible refine Below.setCell ?_ ?_ _) | (with_reducible exact Nat.le_refl _) | omega | (simp; done) | (simp [go_sem]; done) | (simp at *; omega))
        · clear hnn hja hjb
          have h1 : ¬ ((n : Int) < (j : Int)) := by omega
          have h2 : ¬ ((n : Int) = (j : Int)) := by omega
          have h3 : ¬ (n = j) := by omega
          go_wp2_with (first | ((first | with_reducible refine wp_region_ext2 (by kernel_rfl) (by kernel_rfl) ?_ | with_reducible refine wp_region_ext (by kernel_rfl) (by kernel_rfl) ?_); (repeat (first | go_big_quiet_step ((first | (go_at_call 11; with_reducible exact Calls.ext (cA _ (by repeat' (first | (with_reducible exact Below.refl _ _) | (with_reducible assumption) | (with_reducible refine Ext.below _ ?_ ?_) | (with_reducible refine Below.on ?_ (by with_reducible assumption) ?_) | (with_reducible refine Below.alloc ?_ ?_ _) | (with_reducible refine Below.drew ?_) | (with_reducible refine Below.setCell ?_ ?_ _) | (with_reducible exact Nat.le_refl _) | omega | (simp; done) | (simp [go_sem]; done) | (simp at *; omega))))) | (go_at_call 11; with_reducible exact Calls.ext (cB _ (by repeat' (first | (with_reducible exact Below.refl _ _) | (with_reducible assumption) | (with_reducible refine Ext.below _ ?_ ?_) | (with_reducible refine Below.on ?_ (by with_reducible assumption) ?_) | (with_reducible refine Below.alloc ?_ ?_ _) | (with_reducible refine Below.drew ?_) | (with_reducible refine Below.setCell ?_ ?_ _) | (with_reducible exact Nat.le_refl _) | omega | (simp; done) | (simp [go_sem]; done) | (simp at *; omega))))))) | quiet_step ((first | (go_at_call 11; with_reducible exact Calls.ext (cA _ (by repeat' (first | (with_reducible exact Below.refl _ _) | (with_reducible assumption) | (with_reducible refine Ext.below _ ?_ ?_) | (with_reducible refine Below.on ?_ (by with_reducible assumption) ?_) | (with_reducible refine Below.alloc ?_ ?_ _) | (with_reducible refine Below.drew ?_) | (with_reducible refine Below.setCell ?_ ?_ _) | (with_reducible exact Nat.le_refl _) | omega | (simp; done) | (simp [go_sem]; done) | (simp at *; omega))))) | (go_at_call 11; with_reducible exact Calls.ext (cB _ (by repeat' (first | (with_reducible exact Below.refl _ _) | (with_reducible assumption) | (with_reducible refine Ext.below _ ?_ ?_) | (with_reducible refine Below.on ?_ (by with_reducible assumption) ?_) | (with_reducible refine Below.alloc ?_ ?_ _) | (with_reducible refine Below.drew ?_) | (with_reducible refine Below.setCell ?_ ?_ _) | (with_reducible exact Nat.le_refl _) | omega | (simp; done) | (simp [go_sem]; done) | (simp at *; omega))))))))); refine wpQuiet_nil ?_; rintro _ ⟨yr, rfl⟩; have syr := Ext.size yr; (repeat (first | rw [World.size_alloc] at syr | rw [World.size_setCell] at syr | rw [World.size_drew] at syr)); have : SB < yr.now.heap.size := (by omega); have : SB ≤ yr.now.heap.size := (by omega); have : SB < yr.now.heap.size + 1 + 1 := (by omega); have : B1 < yr.now.heap.size := (by omega); have : B1 ≤ yr.now.heap.size := (by omega); have : B1 < yr.now.heap.size + 1 + 1 := (by omega)) | (go_at_call 11; (first | with_reducible refine (Calls.giv2 (cA _ (by repeat' (first | (with_reducible exact Below.refl _ _) | (with_reducible assumption) | (with_reducible refine Ext.below _ ?_ ?_) | (with_reducible refine Below.on ?_ (by with_reducible assumption) ?_) | (with_reducible refine Below.alloc ?_ ?_ _) | (with_reducible refine Below.drew ?_) | (with_reducible refine Below.setCell ?_ ?_ _) | (with_reducible exact Nat.le_refl _) | omega | (simp; done) | (simp [go_sem]; done) | (simp at *; omega))))).mono ?_ | with_reducible refine (Calls.giv (cA _ (by repeat' (first | (with_reducible exact Below.refl _ _) | (with_reducible assumption) | (with_reducible refine Ext.below _ ?_ ?_) | (with_reducible refine Below.on ?_ (by with_reducible assumption) ?_) | (with_reducible refine Below.alloc ?_ ?_ _) | (with_reducible refine Below.drew ?_) | (with_reducible refine Below.setCell ?_ ?_ _) | (with_reducible exact Nat.le_refl _) | omega | (simp; done) | (simp [go_sem]; done) | (simp at *; omega))))).mono ?_); rintro _ _ ⟨y1, rfl, rfl⟩; have sy1 := Ext.size y1; (repeat (first | rw [World.size_alloc] at sy1 | rw [World.size_setCell] at sy1 | rw [World.size_drew] at sy1)); have : SB < y1.now.heap.size := (by omega); have : SB ≤ y1.now.heap.size := (by omega); have : SB < y1.now.heap.size + 1 + 1 := (by omega); have : B1 < y1.now.heap.size := (by omega); have : B1 ≤ y1.now.heap.size := (by omega); have : B1 < y1.now.heap.size + 1 + 1 := (by omega)) | (go_at_call 11; (first | with_reducible refine (Calls.giv2 (cB _ (by repeat' (first | (with_reducible exact Below.refl _ _) | (with_reducible assumption) | (with_reducible refine Ext.below _ ?_ ?_) | (with_reducible refine Below.on ?_ (by with_reducible assumption) ?_) | (with_reducible refine Below.alloc ?_ ?_ _) | (with_reducible refine Below.drew ?_) | (with_reducible refine Below.setCell ?_ ?_ _) | (with_reducible exact Nat.le_refl _) | omega | (simp; done) | (simp [go_sem]; done) | (simp at *; omega))))).mono ?_ | with_reducible refine (Calls.giv (cB _ (by repeat' (first | (with_reducible exact Below.refl _ _) | (with_reducible assumption) | (with_reducible refine Ext.below _ ?_ ?_) | (with_reducible refine Below.on ?_ (by with_reducible assumption) ?_) | (with_reducible refine Below.alloc ?_ ?_ _) | (with_reducible refine Below.drew ?_) | (with_reducible refine Below.setCell ?_ ?_ _) | (with_reducible exact Nat.le_refl _) | omega | (simp; done) | (simp [go_sem]; done) | (simp at *; omega))))).mono ?_); rintro _ _ ⟨y2, rfl, rfl⟩; have sy2 := Ext.size y2; (repeat (first | rw [World.size_alloc] at sy2 | rw [World.size_setCell] at sy2 | rw [World.size_drew] at sy2)); have : SB < y2.now.heap.size := (by omega); have : SB ≤ y2.now.heap.size := (by omega); have : SB < y2.now.heap.size + 1 + 1 := (by omega); have : B1 < y2.now.heap.size := (by omega); have : B1 ≤ y2.now.heap.size := (by omega); have : B1 < y2.now.heap.size + 1 + 1 := (by omega)))
          refine ⟨⟨n + 1, ⟨_, ?_⟩, by simp, rfl, Go.Lib.hid hlt⟩, by simp [intOf]; omega⟩
          repeat' (first | (with_reducible exact Below.refl _ _) | (with_reducible assumption) | (with_reducible refine Ext.below _ ?_ ?_) | (with_reducible refine Below.on ?_ (by with_reducible assumption) ?_) | (with_reducible refine Below.alloc ?_ ?_ _) | (with_reducible refine Below.drew ?_) | (with_reducible refine Below.setCell ?_ ?_ _) | (with_reducible exact Nat.le_refl _) | omega | (simp; done) | (simp [go_sem]; done) | (simp at *; omega))
      · have hge : ¬ (n : Int) < gs.length := by omega
        clear hi
        go_wp2_with (first | ((first | with_reducible refine wp_region_ext2 (by kernel_rfl) (by kernel_rfl) ?_ | with_reducible refine wp_region_ext (by kernel_rfl) (by kernel_rfl) ?_); (repeat (first | go_big_quiet_step ((first | fail)) | quiet_step ((first | fail)))); refine wpQuiet_nil ?_; rintro _ ⟨yr, rfl⟩; have syr := Ext.size yr; (repeat (first | rw [World.size_alloc] at syr | rw [World.size_setCell] at syr | rw [World.size_drew] at syr))))
        have hX2 := hbx
        have hx22 := hx2
        have hwX : Below w.heap.size w xw.now := hBw.trans (hbx.mono hwl)
        have k0 := (xw.cell hs4).trans r0
        have k1 := (xw.cell hs4).trans r1
        have k2 := (xw.cell hs4).trans r2
        have k3 := (xw.cell hs4).trans r3
        have hsX := xw.lt hs4
        have hGX := Go.Lib.hid (hG4.out.on xw.grew)
        obtain ⟨Bg, og, rfl, hBg, z1, z2, z3, z4⟩ := hGX.out 0 hj2
        simp only [Nat.zero_mul, Nat.add_zero] at z1 z2 z3 z4
        obtain ⟨i8, hi8, hy0, hy1, hy2⟩ := info_parts state_info
        obtain ⟨gq, hg0⟩ : ∃ q, gs[0] = q := ⟨_, rfl⟩
        rw [hg0] at z1 z2 z3 z4
        replace c3 := c3.out
        simp only [hg0, List.length_append, List.length_cons, List.length_nil, Nat.zero_add] at c3
        replace c3 := Go.Lib.hid c3
        clear hg0
        have hfin := Go.Lib.hid (fun (W : World) (y : Below xw.now.heap.size xw.now W) => hwX.trans (y.mono hwX.size))
        have hww := hwX.size
        clear hG4 hG hbx hx2 r0 r1 r2 r3 xs hlt hge hwX hI34
        generalize xw.now = X at *
        clear xw
--REGION18
        refine wp_tell (joinTold (j : Int)) ?_ ?_
        focus
          clear hp hno hfin cpa cpb ca
          repeat (rename_i zz; clear zz)
          refine region_dep (by kernel_rfl) joinDeps (by kernel_rfl) (joinInv n5 n8 n2 n4 n6 n7 n9 n1 n3 n0 (j : Int) pa pb lA cca lB ccb Bg og gc gs gq) ?h0 ?hstep ?hend
          case h0 =>
            refine ⟨?z14, ?z21, ?z22, ?z164, ?z165, ?z166, ?z167, ?z168, ?z169, ?z170, ?z171, ?z172, ?z173, ?z174, ?z175, ?z176, ?z177, ?z178, ?z179, ?fr, (Below.refl _ _).drew, by simp, by simp, by simp, by simp, by simp, by simp, by simp, by simp, by simp, by simp, by simp, by simp, by simp, by simp, by simp, by simp, by simp, by simp, by simp⟩
            case fr =>
              simp only [sets, List.foldl_cons, List.foldl_nil, List.set_cons_succ, List.set_cons_zero]
              rfl
          case hend =>
            rintro l' fr W hl hall ⟨s14, s21, s22, s164, s165, s166, s167, s168, s169, s170, s171, s172, s173, s174, s175, s176, s177, s178, s179, rfl, hB, g0, g1, f0, f1, f2, f3, f4, f5, f6, f7, f8, f9, f10, f11, f12, f13, f15, f16, f18⟩
            obtain ⟨b0, b1, b2, b3, b4, b5, b6, b7, b8, b9, b10, b11, b12, b13, b14, b15, b16, b17, b18, rfl⟩ := list19 hl
            simp only [List.all_cons, id, Bool.and_eq_true] at hall
            obtain ⟨rfl, rfl, rfl, rfl, rfl, rfl, rfl, rfl, rfl, rfl, rfl, rfl, rfl, rfl, rfl, rfl, rfl, rfl, rfl, -⟩ := hall
            simp only [List.getD_cons_zero, List.getD_cons_succ] at g0 g1 f0 f1 f2 f3 f4 f5 f6 f7 f8 f9 f10 f11 f12 f13 f15 f16 f18
            obtain rfl := f16 trivial
            obtain rfl := f18 trivial
            exact ⟨rfl, ⟨W, hB⟩, by kernel_rfl, rfl⟩
          case hstep =>
            rintro l' fr W ii hl ⟨s14, s21, s22, s164, s165, s166, s167, s168, s169, s170, s171, s172, s173, s174, s175, s176, s177, s178, s179, rfl, hB, g0, g1, f0, f1, f2, f3, f4, f5, f6, f7, f8, f9, f10, f11, f12, f13, f15, f16, f18⟩ hr hi
            obtain ⟨b0, b1, b2, b3, b4, b5, b6, b7, b8, b9, b10, b11, b12, b13, b14, b15, b16, b17, b18, rfl⟩ := list19 hl
            have sW := hB.size
            replace k0 := (hB.cell (p := ⟨SB, 0, none⟩) hsX).trans k0
            replace k1 := (hB.cell (p := ⟨SB, 1, none⟩) hsX).trans k1
            replace k2 := (hB.cell (p := ⟨SB, 2, none⟩) hsX).trans k2
            replace k3 := (hB.cell (p := ⟨SB, 3, none⟩) hsX).trans k3
            replace z1 := (hB.cell (p := ⟨Bg, og, none⟩) hBg).trans z1
            replace z2 := (hB.cell (p := ⟨Bg, og + 1, none⟩) hBg).trans z2
            replace z3 := (hB.cell (p := ⟨Bg, og + 2, none⟩) hBg).trans z3
            replace z4 := (hB.cell (p := ⟨Bg, og + 3, none⟩) hBg).trans z4
            simp only [List.getD_cons_zero, List.getD_cons_succ] at g0 g1 f0 f1 f2 f3 f4 f5 f6 f7 f8 f9 f10 f11 f12 f13 f15 f16 f18
            replace hB := Go.Lib.hid hB
            replace hi := Go.Lib.hid hi
            replace g0 := Go.Lib.hid g0
            replace g1 := Go.Lib.hid g1
            replace f0 := Go.Lib.hid f0
            replace f1 := Go.Lib.hid f1
            replace f2 := Go.Lib.hid f2
            replace f3 := Go.Lib.hid f3
            replace f4 := Go.Lib.hid f4
            replace f5 := Go.Lib.hid f5
            replace f6 := Go.Lib.hid f6
            replace f7 := Go.Lib.hid f7
            replace f8 := Go.Lib.hid f8
            replace f9 := Go.Lib.hid f9
            replace f10 := Go.Lib.hid f10
            replace f11 := Go.Lib.hid f11
            replace f12 := Go.Lib.hid f12
            replace f13 := Go.Lib.hid f13
            replace f15 := Go.Lib.hid f15
            replace f16 := Go.Lib.hid f16
            replace f18 := Go.Lib.hid f18
            rcases ii with _ | _ | _ | _ | _ | _ | _ | _ | _ | _ | _ | _ | _ | _ | _ | _ | _ | _ | _ | ii
            · refine wpOp_step rfl (fun K hK => ?_)
              simp only [sets, List.foldl_cons, List.foldl_nil, List.set_cons_succ, List.set_cons_zero]
              go_simp
              exact hK _ _ ⟨s14, s21, s22, s164, (.agg #[.slice n5 n4 n6, .int .i64 n0, .slice n8 n7 n9, .slice n2 n1 n3]), s166, s167, s168, s169, s170, s171, s172, s173, s174, s175, s176, s177, s178, s179, by kernel_rfl, hB.out, g0.out, g1.out, fun _ => rfl, f1.out, f2.out, f3.out, f4.out, f5.out, f6.out, f7.out, f8.out, f9.out, f10.out, f11.out, f12.out, f13.out, f15.out, f16.out, f18.out⟩
            · refine wpOp_step rfl (fun K hK => ?_)
              simp only [sets, List.foldl_cons, List.foldl_nil, List.set_cons_succ, List.set_cons_zero]
              go_simp
              exact hK _ _ ⟨s14, s21, s22, s164, s165, (.slice pa lA cca), s167, s168, s169, s170, s171, s172, s173, s174, s175, s176, s177, s178, s179, by kernel_rfl, hB.out, g0.out, g1.out, f0.out, fun _ => rfl, f2.out, f3.out, f4.out, f5.out, f6.out, f7.out, f8.out, f9.out, f10.out, f11.out, f12.out, f13.out, f15.out, f16.out, f18.out⟩
            · refine wpOp_step rfl (fun K hK => ?_)
              simp only [sets, List.foldl_cons, List.foldl_nil, List.set_cons_succ, List.set_cons_zero]
              go_simp
              exact hK _ _ ⟨s14, s21, s22, s164, s165, s166, (.slice pb lB ccb), s168, s169, s170, s171, s172, s173, s174, s175, s176, s177, s178, s179, by kernel_rfl, hB.out, g0.out, g1.out, f0.out, f1.out, fun _ => rfl, f3.out, f4.out, f5.out, f6.out, f7.out, f8.out, f9.out, f10.out, f11.out, f12.out, f13.out, f15.out, f16.out, f18.out⟩
            · have hi := hi.out
              simp only [List.getElem?_cons_zero, List.getElem?_cons_succ, Option.some.injEq] at hi
              subst hi
              refine wpOp_step rfl (fun K hK => ?_)
              simp only [sets, List.foldl_cons, List.foldl_nil, List.set_cons_succ, List.set_cons_zero]
              go_simp
              exact hK _ _ ⟨s14, s21, s22, s164, s165, s166, s167, (.slice (some ⟨W.heap.size, 0, none⟩) 0 0), s169, s170, s171, s172, s173, s174, s175, s176, s177, s178, s179, by kernel_rfl, hB.out.alloc sW _, (fun _ => rfl), g1.out, f0.out, f1.out, f2.out, (fun _ => ⟨W.heap.size, rfl, fun _ => empty_row W _ sW⟩), f4.out, (fun h => by obtain ⟨q, c, e, e2⟩ := f5.out h; exact ⟨q, c, e, fun h => (e2 h).alloc _⟩), f6.out, f7.out, f8.out, (fun h => by obtain ⟨q, e, e2⟩ := f9.out h; refine ⟨q, e, fun h2 => ?_⟩; obtain ⟨e3, e4, e5, e6⟩ := e2 h2; exact ⟨e3, by simp only [World.size_alloc]; omega, (heap_alloc_old _ _ e4).trans e5, fun _ _ e => by simp only [Value.ownBlock, Option.some.injEq] at e; omega⟩), (fun h => by obtain ⟨q, c, e, e2⟩ := f10.out h; exact ⟨q, c, e, fun h => (e2 h).on ((Below.refl _ W).alloc (Nat.le_refl _) _)⟩), f11.out, f12.out, f13.out, f15.out, f16.out, f18.out⟩
            · refine wpOp_step rfl (fun K hK => ?_)
              simp only [sets, List.foldl_cons, List.foldl_nil, List.set_cons_succ, List.set_cons_zero]
              go_simp
              exact hK _ _ ⟨s14, s21, s22, s164, s165, s166, s167, s168, (.slice (some ⟨Bg, og, none⟩) gs.length gc), s170, s171, s172, s173, s174, s175, s176, s177, s178, s179, by kernel_rfl, hB.out, g0.out, g1.out, f0.out, f1.out, f2.out, f3.out, fun _ => rfl, f5.out, f6.out, f7.out, f8.out, f9.out, f10.out, f11.out, f12.out, f13.out, f15.out, f16.out, f18.out⟩
            · simp only [joinDeps, List.getD_cons_zero, List.getD_cons_succ, List.all_cons, List.all_nil, Bool.and_true, Bool.and_eq_true] at hr
              obtain ⟨hd3, hd4⟩ := hr
              obtain rfl := f4.out hd4
              have hi := hi.out
              simp only [List.getElem?_cons_zero, List.getElem?_cons_succ, Option.some.injEq] at hi
              subst hi
              obtain ⟨q3, rfl, ho3⟩ := f3.out hd3
              replace ho3 := ho3 rfl
              have hB5 := hB.out
              refine wpOp_open rfl rfl (fun K hK => ?_)
              refine wp_append_own _ _ _ 31 rfl X.heap.size 41 i8 _ 4 32 Try.underlying31 hi8 hy0 hy1 hy2 rfl (by decide) (.slice (some ⟨q3, 0, none⟩) 0 0) 0 [] (by kernel_rfl) ho3 ⟨Bg, og, none⟩ gs.length gc (growsG gs) (by kernel_rfl) (growsG_length _) (states_cells (hGX.out.on hB5)) (growsG_one _) (by unfold maxLen; omega) (by omega) sW ?_
              intro v5 W6 ho6 hg6 _
              rw [Nat.zero_add, List.nil_append] at ho6
              obtain ⟨q5, c5, rfl⟩ := owns_form ho6
              have s56 := hg6.size
              exact hK _ _ ⟨s14, s21, s22, s164, s165, s166, s167, (.slice (some ⟨q3, 0, none⟩) 0 0), (.slice (some ⟨Bg, og, none⟩) gs.length gc), (.slice q5 gs.length c5), s171, s172, s173, s174, s175, s176, s177, s178, s179, by kernel_rfl, below_grown hB5 ho3 (Nat.le_refl _) sW hg6, (fun _ => hd3), (fun h => ⟨rfl, (g1.out h).2⟩), f0.out, f1.out, f2.out, (fun _ => ⟨q3, rfl, fun h => by cases h⟩), f4.out, (fun _ => ⟨q5, c5, rfl, fun _ => ho6⟩), f6.out, f7.out, f8.out, (fun h => by obtain ⟨q, e, e2⟩ := f9.out h; refine ⟨q, e, fun h2 => ?_⟩; obtain ⟨e3, e4, e5, e6⟩ := e2 h2; exact ⟨e3, by omega, (hg6.block q e4 (fun e => e6 hd3 rfl e.symm)).trans e5, fun _ h => by cases h⟩), (fun h => by have h1 := (g1.out h).1; cases h1), f11.out, f12.out, f13.out, f15.out, f16.out, f18.out⟩
            · refine wpOp_step rfl (fun K hK => ?_)
              simp only [sets, List.foldl_cons, List.foldl_nil, List.set_cons_succ, List.set_cons_zero]
              go_simp
              exact hK _ _ ⟨s14, s21, s22, s164, s165, s166, s167, s168, s169, s170, (.slice (some ⟨Bg, og, none⟩) gs.length gc), s172, s173, s174, s175, s176, s177, s178, s179, by kernel_rfl, hB.out, g0.out, g1.out, f0.out, f1.out, f2.out, f3.out, f4.out, f5.out, fun _ => rfl, f7.out, f8.out, f9.out, f10.out, f11.out, f12.out, f13.out, f15.out, f16.out, f18.out⟩
            · simp only [joinDeps, List.getD_cons_zero, List.getD_cons_succ, List.all_cons, List.all_nil, Bool.and_true] at hr
              have hd6 := hr
              obtain rfl := f6.out hd6
              refine wpOp_step rfl (fun K hK => ?_)
              simp only [sets, List.foldl_cons, List.foldl_nil, List.set_cons_succ, List.set_cons_zero]
              go_simp
              exact hK _ _ ⟨s14, s21, s22, s164, s165, s166, s167, s168, s169, s170, (.slice (some ⟨Bg, og, none⟩) gs.length gc), (.pointer (some ⟨Bg, og, none⟩)), s173, s174, s175, s176, s177, s178, s179, by kernel_rfl, hB.out, g0.out, g1.out, f0.out, f1.out, f2.out, f3.out, f4.out, f5.out, f6.out, fun _ => rfl, f8.out, f9.out, f10.out, f11.out, f12.out, f13.out, f15.out, f16.out, f18.out⟩
            · simp only [joinDeps, List.getD_cons_zero, List.getD_cons_succ, List.all_cons, List.all_nil, Bool.and_true] at hr
              have hd7 := hr
              obtain rfl := f7.out hd7
              refine wpOp_step rfl (fun K hK => ?_)
              simp only [sets, List.foldl_cons, List.foldl_nil, List.set_cons_succ, List.set_cons_zero]
              go_simp
              exact hK _ _ ⟨s14, s21, s22, s164, s165, s166, s167, s168, s169, s170, s171, (.pointer (some ⟨Bg, og, none⟩)), (.agg #[.int .i64 gq.x, .int .i64 gq.y, .int .i64 gq.u, .int .i64 gq.v]), s174, s175, s176, s177, s178, s179, by kernel_rfl, hB.out, g0.out, g1.out, f0.out, f1.out, f2.out, f3.out, f4.out, f5.out, f6.out, f7.out, fun _ => rfl, f9.out, f10.out, f11.out, f12.out, f13.out, f15.out, f16.out, f18.out⟩
            · simp only [joinDeps, List.getD_cons_zero, List.getD_cons_succ, List.all_cons, List.all_nil, Bool.and_true] at hr
              have hd8 := hr
              obtain rfl := f8.out hd8
              have hi := hi.out
              simp only [List.getElem?_cons_zero, List.getElem?_cons_succ, Option.some.injEq] at hi
              subst hi
              refine wpOp_step rfl (fun K hK => ?_)
              simp only [sets, List.foldl_cons, List.foldl_nil, List.set_cons_succ, List.set_cons_zero]
              go_simp
              exact hK _ _ ⟨s14, s21, s22, s164, s165, s166, s167, s168, s169, s170, s171, s172, (.agg #[.int .i64 gq.x, .int .i64 gq.y, .int .i64 gq.u, .int .i64 gq.v]), (.slice (some ⟨W.heap.size, 0, none⟩) 1 1), s175, s176, s177, s178, s179, by kernel_rfl, hB.out.alloc sW _, g0.out, (fun h => ⟨(g1.out h).1, rfl⟩), f0.out, f1.out, f2.out, (fun h => by obtain ⟨q, e, e2⟩ := f3.out h; exact ⟨q, e, fun h => (e2 h).alloc _⟩), f4.out, (fun h => by obtain ⟨q, c, e, e2⟩ := f5.out h; exact ⟨q, c, e, fun h => (e2 h).alloc _⟩), f6.out, f7.out, f8.out, (fun _ => ⟨W.heap.size, rfl, fun _ => ⟨sW, by simp, heap_alloc_new _ _, fun h3 h5 e => by obtain ⟨q, e1, e2⟩ := f3.out h3; have := (e2 h5).lt q rfl; rw [e1] at e; simp only [Value.ownBlock, Option.some.injEq] at e; omega⟩⟩), (fun h => by obtain ⟨q, c, e, e2⟩ := f10.out h; exact ⟨q, c, e, fun h => (e2 h).on ((Below.refl _ W).alloc (Nat.le_refl _) _)⟩), f11.out, f12.out, f13.out, f15.out, f16.out, f18.out⟩
            · simp only [joinDeps, List.getD_cons_zero, List.getD_cons_succ, List.all_cons, List.all_nil, Bool.and_true, Bool.and_eq_true] at hr
              obtain ⟨hd5, hd9⟩ := hr
              have hi := hi.out
              simp only [List.getElem?_cons_zero, List.getElem?_cons_succ, Option.some.injEq] at hi
              subst hi
              obtain ⟨q5, c5, rfl, ho5⟩ := f5.out hd5
              obtain ⟨q9, rfl, ho9⟩ := f9.out hd9
              replace ho5 := ho5 rfl
              obtain ⟨h91, h92, h93, -⟩ := ho9 rfl
              have hB5 := hB.out
              refine wpOp_open rfl rfl (fun K hK => ?_)
              refine wp_append_own _ _ _ 31 rfl X.heap.size 41 i8 _ 4 32 Try.underlying31 hi8 hy0 hy1 hy2 rfl (by decide) (.slice q5 gs.length c5) gs.length (growsG gs) (by kernel_rfl) ho5 ⟨q9, 0, none⟩ 1 1 (gcells gq) (by kernel_rfl) rfl (gcells_at h93) (gcells_one _) (by unfold maxLen; omega) (by omega) sW ?_
              intro v5 W6 ho6 hg6 _
              obtain ⟨q6, c6, rfl⟩ := owns_form ho6
              have hS6 : StatesAt W6 q6 (gs ++ [gq]) := states_of (by rw [growsG_add, List.length_append]; exact ho6)
              exact hK _ _ ⟨s14, s21, s22, s164, s165, s166, s167, s168, s169, (.slice q5 gs.length c5), s171, s172, s173, (.slice (some ⟨q9, 0, none⟩) 1 1), (.slice q6 (gs.length + 1) c6), s176, s177, s178, s179, by kernel_rfl, below_grown hB5 ho5 (Nat.le_refl _) sW hg6, g0.out, (fun _ => ⟨hd5, hd9⟩), f0.out, f1.out, f2.out, (fun h => by obtain ⟨q, e, e2⟩ := f3.out h; exact ⟨q, e, fun h => by rw [hd5] at h; cases h⟩), f4.out, (fun _ => ⟨q5, c5, rfl, fun h => by cases h⟩), f6.out, f7.out, f8.out, (fun _ => ⟨q9, rfl, fun h => by cases h⟩), (fun _ => ⟨q6, c6, rfl, fun _ => hS6⟩), f11.out, f12.out, f13.out, f15.out, f16.out, f18.out⟩
            · simp only [joinDeps, List.getD_cons_zero, List.getD_cons_succ, List.all_cons, List.all_nil, Bool.and_true, Bool.and_eq_true] at hr
              obtain ⟨hd0, hd1, hd2, hd10⟩ := hr
              obtain rfl := f0.out hd0
              obtain rfl := f1.out hd1
              obtain rfl := f2.out hd2
              have hi := hi.out
              simp only [List.getElem?_cons_zero, List.getElem?_cons_succ, Option.some.injEq] at hi
              subst hi
              obtain ⟨q, c, rfl, hS⟩ := f10.out hd10
              replace hS := hS rfl
              have hB5 := hB.out
              refine wpOp_step rfl (fun K hK => ?_)
              simp only [sets, List.foldl_cons, List.foldl_nil, List.set_cons_succ, List.set_cons_zero]
              go_simp
              refine (c3.out W (hX2.trans (hB5.mono hx22)) q c hS).mono ?_
              rintro _ W6 ⟨hb6, v6, rfl, -⟩
              exact hK _ _ ⟨s14, s21, s22, s164, (.agg #[.slice n5 n4 n6, .int .i64 n0, .slice n8 n7 n9, .slice n2 n1 n3]), (.slice pa lA cca), (.slice pb lB ccb), s168, s169, s170, s171, s172, s173, s174, (.slice q (gs.length + 1) c), (.tuple #[.int .i64 j, v6, .int .i64 0]), s177, s178, s179, by kernel_rfl, hB5.trans (hb6.mono sW), g0.out, g1.out, f0.out, f1.out, f2.out, (fun h => by obtain ⟨q, e, e2⟩ := f3.out h; exact ⟨q, e, fun h => owns_below (e2 h) hb6⟩), f4.out, (fun h => by obtain ⟨q, c, e, e2⟩ := f5.out h; exact ⟨q, c, e, fun h => by rw [hd10] at h; cases h⟩), f6.out, f7.out, f8.out, (fun h => by obtain ⟨q, e, e2⟩ := f9.out h; exact ⟨q, e, fun h => by rw [hd10] at h; cases h⟩), (fun h => ⟨q, c, rfl, fun h => by cases h⟩), (fun _ => ⟨v6, rfl⟩), f12.out, f13.out, f15.out, f16.out, f18.out⟩
            · simp only [joinDeps, List.getD_cons_zero, List.getD_cons_succ, List.all_cons, List.all_nil, Bool.and_true] at hr
              have hd11 := hr
              obtain ⟨v6, rfl⟩ := f11.out hd11
              refine wpOp_step rfl (fun K hK => ?_)
              simp only [sets, List.foldl_cons, List.foldl_nil, List.set_cons_succ, List.set_cons_zero]
              go_simp
              exact hK _ _ ⟨s14, s21, s22, (.tuple #[.int .i64 j, v6, .int .i64 0]), s165, s166, s167, s168, s169, s170, s171, s172, s173, s174, s175, (.tuple #[.int .i64 j, v6, .int .i64 0]), s177, s178, s179, by kernel_rfl, hB.out, g0.out, g1.out, f0.out, f1.out, f2.out, f3.out, f4.out, f5.out, f6.out, f7.out, f8.out, f9.out, f10.out, (fun _ => ⟨v6, rfl⟩), (fun _ => ⟨v6, rfl⟩), f13.out, f15.out, f16.out, f18.out⟩
            · simp only [joinDeps, List.getD_cons_zero, List.getD_cons_succ, List.all_cons, List.all_nil, Bool.and_true] at hr
              have hd12 := hr
              obtain ⟨v6, rfl⟩ := f12.out hd12
              refine wpOp_step rfl (fun K hK => ?_)
              simp only [sets, List.foldl_cons, List.foldl_nil, List.set_cons_succ, List.set_cons_zero]
              go_simp
              exact hK _ _ ⟨s14, s21, s22, (.tuple #[.int .i64 j, v6, .int .i64 0]), s165, s166, s167, s168, s169, s170, s171, s172, s173, s174, s175, s176, (.int .i64 j), s178, s179, by kernel_rfl, hB.out, g0.out, g1.out, f0.out, f1.out, f2.out, f3.out, f4.out, f5.out, f6.out, f7.out, f8.out, f9.out, f10.out, f11.out, (fun _ => ⟨v6, rfl⟩), fun _ => rfl, f15.out, f16.out, f18.out⟩
            · simp only [joinDeps, List.getD_cons_zero, List.getD_cons_succ, List.all_cons, List.all_nil, Bool.and_true] at hr
              have hd12 := hr
              obtain ⟨v6, rfl⟩ := f12.out hd12
              refine wpOp_step rfl (fun K hK => ?_)
              simp only [sets, List.foldl_cons, List.foldl_nil, List.set_cons_succ, List.set_cons_zero]
              go_simp
              exact hK _ _ ⟨s14, s21, s22, (.tuple #[.int .i64 j, v6, .int .i64 0]), s165, s166, s167, s168, s169, s170, s171, s172, s173, s174, s175, s176, s177, (v6), s179, by kernel_rfl, hB.out, g0.out, g1.out, f0.out, f1.out, f2.out, f3.out, f4.out, f5.out, f6.out, f7.out, f8.out, f9.out, f10.out, f11.out, (fun _ => ⟨v6, rfl⟩), f13.out, f15.out, f16.out, f18.out⟩
            · simp only [joinDeps, List.getD_cons_zero, List.getD_cons_succ, List.all_cons, List.all_nil, Bool.and_true] at hr
              have hd12 := hr
              obtain ⟨v6, rfl⟩ := f12.out hd12
              refine wpOp_step rfl (fun K hK => ?_)
              simp only [sets, List.foldl_cons, List.foldl_nil, List.set_cons_succ, List.set_cons_zero]
              go_simp
              exact hK _ _ ⟨s14, s21, s22, (.tuple #[.int .i64 j, v6, .int .i64 0]), s165, s166, s167, s168, s169, s170, s171, s172, s173, s174, s175, s176, s177, s178, (.int .i64 0), by kernel_rfl, hB.out, g0.out, g1.out, f0.out, f1.out, f2.out, f3.out, f4.out, f5.out, f6.out, f7.out, f8.out, f9.out, f10.out, f11.out, (fun _ => ⟨v6, rfl⟩), f13.out, fun _ => rfl, f16.out, f18.out⟩
            · simp only [joinDeps, List.getD_cons_zero, List.getD_cons_succ, List.all_cons, List.all_nil, Bool.and_true] at hr
              have hd13 := hr
              obtain rfl := f13.out hd13
              refine wpOp_step rfl (fun K hK => ?_)
              simp only [sets, List.foldl_cons, List.foldl_nil, List.set_cons_succ, List.set_cons_zero]
              go_simp
              exact hK _ _ ⟨s14, (.int .i64 j), s22, s164, s165, s166, s167, s168, s169, s170, s171, s172, s173, s174, s175, s176, (.int .i64 j), s178, s179, by kernel_rfl, hB.out, g0.out, g1.out, f0.out, f1.out, f2.out, f3.out, f4.out, f5.out, f6.out, f7.out, f8.out, f9.out, f10.out, f11.out, f12.out, f13.out, f15.out, fun _ => rfl, f18.out⟩
            · simp only [joinDeps, List.getD_cons_zero, List.getD_cons_succ, List.all_cons, List.all_nil, Bool.and_true] at hr
              have hd14 := hr
              refine wpOp_step rfl (fun K hK => ?_)
              simp only [sets, List.foldl_cons, List.foldl_nil, List.set_cons_succ, List.set_cons_zero]
              go_simp
              exact hK _ _ ⟨s14, s21, (s178), s164, s165, s166, s167, s168, s169, s170, s171, s172, s173, s174, s175, s176, s177, s178, s179, by kernel_rfl, hB.out, g0.out, g1.out, f0.out, f1.out, f2.out, f3.out, f4.out, f5.out, f6.out, f7.out, f8.out, f9.out, f10.out, f11.out, f12.out, f13.out, f15.out, f16.out, f18.out⟩
            · simp only [joinDeps, List.getD_cons_zero, List.getD_cons_succ, List.all_cons, List.all_nil, Bool.and_true] at hr
              have hd15 := hr
              obtain rfl := f15.out hd15
              refine wpOp_step rfl (fun K hK => ?_)
              simp only [sets, List.foldl_cons, List.foldl_nil, List.set_cons_succ, List.set_cons_zero]
              go_simp
              exact hK _ _ ⟨(.int .i64 0), s21, s22, s164, s165, s166, s167, s168, s169, s170, s171, s172, s173, s174, s175, s176, s177, s178, (.int .i64 0), by kernel_rfl, hB.out, g0.out, g1.out, f0.out, f1.out, f2.out, f3.out, f4.out, f5.out, f6.out, f7.out, f8.out, f9.out, f10.out, f11.out, f12.out, f13.out, f15.out, f16.out, fun _ => rfl⟩
            · have hi := hi.out; simp at hi
--END18
        rintro a' W7 ⟨y, ha', rfl⟩
        generalize a'.tmps.getD 22 undef = s22 at ha'
        generalize a'.tmps.getD 164 undef = s164 at ha'
        generalize a'.tmps.getD 165 undef = s165 at ha'
        generalize a'.tmps.getD 166 undef = s166 at ha'
        generalize a'.tmps.getD 167 undef = s167 at ha'
        generalize a'.tmps.getD 168 undef = s168 at ha'
        generalize a'.tmps.getD 169 undef = s169 at ha'
        generalize a'.tmps.getD 170 undef = s170 at ha'
        generalize a'.tmps.getD 171 undef = s171 at ha'
        generalize a'.tmps.getD 172 undef = s172 at ha'
        generalize a'.tmps.getD 173 undef = s173 at ha'
        generalize a'.tmps.getD 174 undef = s174 at ha'
        generalize a'.tmps.getD 175 undef = s175 at ha'
        generalize a'.tmps.getD 176 undef = s176 at ha'
        generalize a'.tmps.getD 177 undef = s177 at ha'
        generalize a'.tmps.getD 178 undef = s178 at ha'
        generalize a'.tmps.getD 179 undef = s179 at ha'
        subst ha'
        simp only [sets, List.foldl_cons, List.foldl_nil, List.set_cons_succ, List.set_cons_zero]
        have hBf := hfin.out y.now y.grew
        have sBf := hBf.size
        generalize y.now = W8 at *
        clear y
        have hjj : ((j : Int) == (j : Int)) = true := by simp
        go_wp2_with (first | ((first | with_reducible refine wp_region_ext2 (by kernel_rfl) (by kernel_rfl) ?_ | with_reducible refine wp_region_ext (by kernel_rfl) (by kernel_rfl) ?_); (repeat (first | go_big_quiet_step ((first | (go_at_call 12; with_reducible exact Calls.ext (ca _)))) | quiet_step ((first | (go_at_call 12; with_reducible exact Calls.ext (ca _)))))); refine wpQuiet_nil ?_; rintro _ ⟨yr, rfl⟩; have syr := Ext.size yr; (repeat (first | rw [World.size_alloc] at syr | rw [World.size_setCell] at syr | rw [World.size_drew] at syr))) | (go_at_call 12; (first | with_reducible refine (Calls.giv2 (ca _)).mono ?_ | with_reducible refine (Calls.giv (ca _)).mono ?_); rintro _ _ ⟨y1, rfl, rfl⟩; have sy1 := Ext.size y1; (repeat (first | rw [World.size_alloc] at sy1 | rw [World.size_setCell] at sy1 | rw [World.size_drew] at sy1))))
        go_returns
        refine ⟨rfl, ?_⟩
        repeat' (first | (with_reducible exact Below.refl _ _) | (with_reducible assumption) | (with_reducible refine Ext.below _ ?_ ?_) | (with_reducible refine Below.on ?_ (by with_reducible assumption) ?_) | (with_reducible refine Below.alloc ?_ ?_ _) | (with_reducible refine Below.drew ?_) | (with_reducible refine Below.setCell ?_ ?_ _) | (with_reducible exact Nat.le_refl _) | omega | (simp; done) | (simp [go_sem]; done) | (simp at *; omega))
  case inr =>
    rw [e1] at c1
    rw [e2] at c2
    clear e1 e2 c3
    unfold LinkPost at c1 c2
    simp only at c1 c2
    have hxs := Go.Lib.hid hxs
    have hmx : ∀ n : Nat, ¬ ((n : Int) = -1) := fun n => by omega
    have hm1 : ((-1 : Int) == -1) = true := by decide
    go_wp2_with (first | ((first | with_reducible refine wp_region_ext2 (by kernel_rfl) (by kernel_rfl) ?_ | with_reducible refine wp_region_ext (by kernel_rfl) (by kernel_rfl) ?_); (repeat (first | go_big_quiet_step ((first | (go_at_call 9; with_reducible exact Calls.ext (cm1 _)) | (go_at_call 9; with_reducible exact Calls.ext (cm2 _)))) | quiet_step ((first | (go_at_call 9; with_reducible exact Calls.ext (cm1 _)) | (go_at_call 9; with_reducible exact Calls.ext (cm2 _)))))); refine wpQuiet_nil ?_; rintro _ ⟨yr, rfl⟩; have syr := Ext.size yr; (repeat (first | rw [World.size_alloc] at syr | rw [World.size_setCell] at syr | rw [World.size_drew] at syr)); have : SB < yr.now.heap.size := (by omega); have : SB ≤ yr.now.heap.size := (by omega); have : SB < yr.now.heap.size + 1 + 1 := (by omega)) | (go_at_call 9; (first | with_reducible refine (Calls.giv2 (cm1 _)).mono ?_ | with_reducible refine (Calls.giv (cm1 _)).mono ?_); rintro _ _ ⟨y1, rfl, rfl⟩; have sy1 := Ext.size y1; (repeat (first | rw [World.size_alloc] at sy1 | rw [World.size_setCell] at sy1 | rw [World.size_drew] at sy1)); have : SB < y1.now.heap.size := (by omega); have : SB ≤ y1.now.heap.size := (by omega); have : SB < y1.now.heap.size + 1 + 1 := (by omega)) | (go_at_call 9; (first | with_reducible refine (Calls.giv2 (cm2 _)).mono ?_ | with_reducible refine (Calls.giv (cm2 _)).mono ?_); rintro _ _ ⟨y2, rfl, rfl⟩; have sy2 := Ext.size y2; (repeat (first | rw [World.size_alloc] at sy2 | rw [World.size_setCell] at sy2 | rw [World.size_drew] at sy2)); have : SB < y2.now.heap.size := (by omega); have : SB ≤ y2.now.heap.size := (by omega); have : SB < y2.now.heap.size + 1 + 1 := (by omega)) | (go_at_call 10; refine (c1 _ (by repeat' (first | (with_reducible exact Below.refl _ _) | (with_reducible assumption) | (with_reducible refine Ext.below _ ?_ ?_) | (with_reducible refine Below.on ?_ (by with_reducible assumption) ?_) | (with_reducible refine Below.alloc ?_ ?_ _) | (with_reducible refine Below.drew ?_) | (with_reducible refine Below.setCell ?_ ?_ _) | (with_reducible exact Nat.le_refl _) | omega | (simp; done) | (simp [go_sem]; done) | (simp at *; omega)))).mono ?_; rintro _ W3 ⟨hb3, v3, rfl, how3⟩; have hbw3 : Below W2.heap.size W2 W3 := (by refine Below.on ?_ hb3 (by first | omega | (simp only [World.size_alloc]; omega)); repeat' (first | (with_reducible exact Below.refl _ _) | (with_reducible assumption) | (with_reducible refine Ext.below _ ?_ ?_) | (with_reducible refine Below.on ?_ (by with_reducible assumption) ?_) | (with_reducible refine Below.alloc ?_ ?_ _) | (with_reducible refine Below.drew ?_) | (with_reducible refine Below.setCell ?_ ?_ _) | (with_reducible exact Nat.le_refl _) | omega | (simp; done) | (simp [go_sem]; done) | (simp at *; omega))); obtain ⟨p3, d3, rfl, hI3⟩ := owns_ints how3; have hs3 : SB < W3.heap.size := (Nat.lt_of_lt_of_le hs2 hbw3.size); have q0 := (hbw3.cell (p := ⟨SB, 0, none⟩) hs2).trans k0; have q1 := (hbw3.cell (p := ⟨SB, 1, none⟩) hs2).trans k1; have q2 := (hbw3.cell (p := ⟨SB, 2, none⟩) hs2).trans k2; have q3 := (hbw3.cell (p := ⟨SB, 3, none⟩) hs2).trans k3; clear c1 how3) | (go_at_call 10; refine (c2 _ (by repeat' (first | (with_reducible exact Below.refl _ _) | (with_reducible assumption) | (with_reducible refine Ext.below _ ?_ ?_) | (with_reducible refine Below.on ?_ (by with_reducible assumption) ?_) | (with_reducible refine Below.alloc ?_ ?_ _) | (with_reducible refine Below.drew ?_) | (with_reducible refine Below.setCell ?_ ?_ _) | (with_reducible exact Nat.le_refl _) | omega | (simp; done) | (simp [go_sem]; done) | (simp at *; omega)))).mono ?_; rintro _ W4 ⟨hb4, v4, rfl, how4⟩; have hbw4 : Below W2.heap.size W2 W4 := (by refine Below.on ?_ hb4 (by first | (have := hbw3.size; omega) | (simp only [World.size_alloc]; omega)); repeat' (first | (with_reducible exact Below.refl _ _) | (with_reducible assumption) | (with_reducible refine Ext.below _ ?_ ?_) | (with_reducible refine Below.on ?_ (by with_reducible assumption) ?_) | (with_reducible refine Below.alloc ?_ ?_ _) | (with_reducible refine Below.drew ?_) | (with_reducible refine Below.setCell ?_ ?_ _) | (with_reducible exact Nat.le_refl _) | omega | (simp; done) | (simp [go_sem]; done) | (simp at *; omega))); obtain ⟨p4, d4, rfl, hI4⟩ := owns_ints how4; have hI34 := Go.Lib.hid (hI3.on hb4); clear hI3 hI4 q0 q1 q2 q3; have hs4 : SB < W4.heap.size := (Nat.lt_of_lt_of_le hs2 hbw4.size); have r0 := (hbw4.cell (p := ⟨SB, 0, none⟩) hs2).trans k0; have r1 := (hbw4.cell (p := ⟨SB, 1, none⟩) hs2).trans k1; have r2 := (hbw4.cell (p := ⟨SB, 2, none⟩) hs2).trans k2; have r3 := (hbw4.cell (p := ⟨SB, 3, none⟩) hs2).trans k3; clear c2 how4))
    have hG4 := Go.Lib.hid (hG.out.on hbw4)
    have hwb : Below w.heap.size w W4 := hBw.trans (hbw4.mono hwl)
    have hww : w.heap.size ≤ W4.heap.size := hwb.size
    have hx4 : W2.heap.size ≤ W4.heap.size := hbw4.size
    clear k0 k1 k2 k3 hB ra rb hB' hb3 hb4 hbw3 hs3 cm1 cm2
    go_loopw [18] (fun u W => ∃ (n : Nat) (x : Ext W4), u = .int .i64 n ∧ W = x.now ∧ Hid (n ≤ gs.length)) (fun u _ => gs.length - (intOf u).toNat)
    case atStart => exact ⟨0, ⟨W4, Below.refl _ _⟩, rfl, rfl, Go.Lib.hid (Nat.zero_le _)⟩
    case round =>
      obtain ⟨n, xw, rfl, rfl, hi⟩ := hrel
      have xs := xw.size
      have hbx : Below W2.heap.size W2 xw.now := xw.below hbw4 (by have := hbw4.size; omega)
      have hx2 : W2.heap.size ≤ xw.now.heap.size := hbx.size
      have : SB < (xw.now).heap.size := (by omega); have : SB < (xw.now).heap.size + 1 := (by omega); have : SB < (xw.now).heap.size + 1 + 1 := (by omega); have : SB ≠ (xw.now).heap.size := (by omega); have : SB ≠ (xw.now).heap.size + 1 := (by omega)
      by_cases hlt : n < gs.length
      · have hlt2 : (n : Int) < gs.length := by omega
        have hn0 : (0 : Int) ≤ (n : Int) := by omega
        have hnm := hmx n
        obtain ⟨B1, o1, rfl, hB1, z1, z2, z3, z4⟩ := hG4.out n hlt
        have hB1s : B1 < xw.now.heap.size := xw.lt hB1
        have : B1 < (xw.now).heap.size := (by omega); have : B1 < (xw.now).heap.size + 1 := (by omega); have : B1 < (xw.now).heap.size + 1 + 1 := (by omega); have : B1 ≠ (xw.now).heap.size := (by omega); have : B1 ≠ (xw.now).heap.size + 1 := (by omega)
        obtain ⟨B3, o3, rfl, hB3, y1⟩ := hI34.out n (by rw [hxl]; exact hlt)
        have hB3s : B3 < xw.now.heap.size := xw.lt hB3
        have : B3 < (xw.now).heap.size := (by omega); have : B3 < (xw.now).heap.size + 1 := (by omega); have : B3 < (xw.now).heap.size + 1 + 1 := (by omega); have : B3 ≠ (xw.now).heap.size := (by omega); have : B3 ≠ (xw.now).heap.size + 1 := (by omega)
        have cA := fun (W : World) (y : Below W2.heap.size W2 W) => cpa.out n hlt W y
        have cB := fun (W : World) (y : Below W2.heap.size W2 W) => cpb.out n hlt W y
        have hpn := hp.out n hlt
        have hxn := hxs.out n hlt (by rw [hxl]; exact hlt)
        rw [hxn] at y1
        clear hxn
        generalize fmS s gs[n] 0 0 a = P at *
        generalize fmS s gs[n] 0 0 b = Q at *
        generalize gs[n].x = g1 at *
        generalize gs[n].y = g2 at *
        generalize gs[n].u = g3 at *
        generalize gs[n].v = g4 at *
        obtain ⟨hpn1, hpn2⟩ := hpn
        replace hpn1 := Go.Lib.hid hpn1
        replace hpn2 := Go.Lib.hid hpn2
        by_cases hP : P < 0
        · rw [if_pos hP] at y1
          have hP2 : ¬ (0 ≤ P) := by omega
          have hw : IntKind.i64.wrap ((lA : Int) + Q) = (lA : Int) + Q := IntWalk.i64_in _ (by have := hpn2.out; omega)
          go_wp2_with (first | ((first | with_reducible refine wp_region_ext2 (by kernel_rfl) (by kernel_rfl) ?_ | with_reducible refine wp_region_ext (by kernel_rfl) (by kernel_rfl) ?_); (repeat (first | go_big_quiet_step ((first | (go_at_call 11; with_reducible exact Calls.ext (cA _ (by repeat' (first | (with_reducible exact Below.refl _ _) | (with_reducible assumption) | (with_reducible refine Ext.below _ ?_ ?_) | (with_reducible refine Below.on ?_ (by with_reducible assumption) ?_) | (with_reducible refine Below.alloc ?_ ?_ _) | (with_reducible refine Below.drew ?_) | (with_reducible refine Below.setCell ?_ ?_ _) | (with_reducible exact Nat.le_refl _) | omega | (simp; done) | (simp [go_sem]; done) | (simp at *; omega))))) | (go_at_call 11; with_reducible exact Calls.ext (cB _ (by repeat' (first | (with_reducible exact Below.refl _ _) | (with_reducible assumption) | (with_reducible refine Ext.below _ ?_ ?_) | (with_reducible refine Below.on ?_ (by with_reducible assumption) ?_) | (with_reducible refine Below.alloc ?_ ?_ _) | (with_reducible refine Below.drew ?_) | (with_reducible refine Below.setCell ?_ ?_ _) | (with_reducible exact Nat.le_refl _) | omega | (simp; done) | (simp [go_sem]; done) | (simp at *; omega))))))) | quiet_step ((first | (go_at_call 11; with_reducible exact Calls.ext (cA _ (by repeat' (first | (with_reducible exact Below.refl _ _) | (with_reducible assumption) | (with_reducible refine Ext.below _ ?_ ?_) | (with_reducible refine Below.on ?_ (by with_reducible assumption) ?_) | (with_reducible refine Below.alloc ?_ ?_ _) | (with_reducible refine Below.drew ?_) | (with_reducible refine Below.setCell ?_ ?_ _) | (with_reducible exact Nat.le_refl _) | omega | (simp; done) | (simp [go_sem]; done) | (simp at *; omega))))) | (go_at_call 11; with_reducible exact Calls.ext (cB _ (by repeat' (first | (with_reducible exact Below.refl _ _) | (with_reducible assumption) | (with_reducible refine Ext.below _ ?_ ?_) | (with_reducible refine Below.on ?_ (by with_reducible assumption) ?_) | (with_reducible refine Below.alloc ?_ ?_ _) | (with_reducible refine Below.drew ?_) | (with_reducible refine Below.setCell ?_ ?_ _) | (with_reducible exact Nat.le_refl _) | omega | (simp; done) | (simp [go_sem]; done) | (simp at *; omega))))))))); refine wpQuiet_nil ?_; rintro _ ⟨yr, rfl⟩; have syr := Ext.size yr; (repeat (first | rw [World.size_alloc] at syr | rw [World.size_setCell] at syr | rw [World.size_drew] at syr)); have : SB < yr.now.heap.size := (by omega); have : SB ≤ yr.now.heap.size := (by omega); have : SB < yr.now.heap.size + 1 + 1 := (by omega); have : B1 < yr.now.heap.size := (by omega); have : B1 ≤ yr.now.heap.size := (by omega); have : B1 < yr.now.heap.size + 1 + 1 := (by omega); have : B3 < yr.now.heap.size := (by omega); have : B3 ≤ yr.now.heap.size := (by omega); have : B3 < yr.now.heap.size + 1 + 1 := (by omega)) | (go_at_call 11; (first | with_reducible refine (Calls.giv2 (cA _ (by repeat' (first | (with_reducible exact Below.refl _ _) | (with_reducible assumption) | (with_reducible refine Ext.below _ ?_ ?_) | (with_reducible refine Below.on ?_ (by with_reducible assumption) ?_) | (with_reducible refine Below.alloc ?_ ?_ _) | (with_reducible refine Below.drew ?_) | (with_reducible refine Below.setCell ?_ ?_ _) | (with_reducible exact Nat.le_refl _) | omega | (simp; done) | (simp [go_sem]; done) | (simp at *; omega))))).mono ?_ | with_reducible refine (Calls.giv (cA _ (by repeat' (first | (with_reducible exact Below.refl _ _) | (with_reducible assumption) | (with_reducible refine Ext.below _ ?_ ?_) | (with_reducible refine Below.on ?_ (by with_reducible assumption) ?_) | (with_reducible refine Below.alloc ?_ ?_ _) | (with_reducible refine Below.drew ?_) | (with_reducible refine Below.setCell ?_ ?_ _) | (with_reducible exact Nat.le_refl _) | omega | (simp; done) | (simp [go_sem]; done) | (simp at *; omega))))).mono ?_); rintro _ _ ⟨y1, rfl, rfl⟩; have sy1 := Ext.size y1; (repeat (first | rw [World.size_alloc] at sy1 | rw [World.size_setCell] at sy1 | rw [World.size_drew] at sy1)); have : SB < y1.now.heap.size := (by omega); have : SB ≤ y1.now.heap.size := (by omega); have : SB < y1.now.heap.size + 1 + 1 := (by omega); have : B1 < y1.now.heap.size := (by omega); have : B1 ≤ y1.now.heap.size := (by omega); have : B1 < y1.now.heap.size + 1 + 1 := (by omega); have : B3 < y1.now.heap.size := (by omega); have : B3 ≤ y1.now.heap.size := (by omega); have : B3 < y1.now.heap.size + 1 + 1 := (by omega)) | (go_at_call 11; (first | with_reducible refine (Calls.giv2 (cB _ (by repeat' (first | (with_reducible exact Below.refl _ _) | (with_reducible assumption) | (with_reducible refine Ext.below _ ?_ ?_) | (with_reducible refine Below.on ?_ (by with_reducible assumption) ?_) | (with_reducible refine Below.alloc ?_ ?_ _) | (with_reducible refine Below.drew ?_) | (with_reducible refine Below.setCell ?_ ?_ _) | (with_reducible exact Nat.le_refl _) | omega | (simp; done) | (simp [go_sem]; done) | (simp at *; omega))))).mono ?_ | with_reducible refine (Calls.giv (cB _ (by repeat' (first | (with_reducible exact Below.refl _ _) | (with_reducible assumption) | (with_reducible refine Ext.below _ ?_ ?_) | (with_reducible refine Below.on ?_ (by with_reducible assumption) ?_) | (with_reducible refine Below.alloc ?_ ?_ _) | (with_reducible refine Below.drew ?_) | (with_reducible refine Below.setCell ?_ ?_ _) | (with_reducible exact Nat.le_refl _) | omega | (simp; done) | (simp [go_sem]; done) | (simp at *; omega))))).mono ?_); rintro _ _ ⟨y2, rfl, rfl⟩; have sy2 := Ext.size y2; (repeat (first | rw [World.size_alloc] at sy2 | rw [World.size_setCell] at sy2 | rw [World.size_drew] at sy2)); have : SB < y2.now.heap.size := (by omega); have : SB ≤ y2.now.heap.size := (by omega); have : SB < y2.now.heap.size + 1 + 1 := (by omega); have : B1 < y2.now.heap.size := (by omega); have : B1 ≤ y2.now.heap.size := (by omega); have : B1 < y2.now.heap.size + 1 + 1 := (by omega); have : B3 < y2.now.heap.size := (by omega); have : B3 ≤ y2.now.heap.size := (by omega); have : B3 < y2.now.heap.size + 1 + 1 := (by omega)))
          refine ⟨⟨n + 1, ⟨_, ?_⟩, by simp, rfl, Go.Lib.hid hlt⟩, by simp [intOf]; omega⟩
          repeat' (first | (with_reducible exact Below.refl _ _) | (with_reducible assumption) | (with_reducible refine Ext.below _ ?_ ?_) | (with_reducible refine Below.on ?_ (by with_reducible assumption) ?_) | (with_reducible refine Below.alloc ?_ ?_ _) | (with_reducible refine Below.drew ?_) | (with_reducible refine Below.setCell ?_ ?_ _) | (with_reducible exact Nat.le_refl _) | omega | (simp; done) | (simp [go_sem]; done) | (simp at *; omega))
        · rw [if_neg hP] at y1
          have hP2 : 0 ≤ P := by omega
          go_wp2_with (first | ((first | with_reducible refine wp_region_ext2 (by kernel_rfl) (by kernel_rfl) ?_ | with_reducible refine wp_region_ext (by kernel_rfl) (by kernel_rfl) ?_); (repeat (first | go_big_quiet_step ((first | (go_at_call 11; with_reducible exact Calls.ext (cA _ (by repeat' (first | (with_reducible exact Below.refl _ _) | (with_reducible assumption) | (with_reducible refine Ext.below _ ?_ ?_) | (with_reducible refine Below.on ?_ (by with_reducible assumption) ?_) | (with_reducible refine Below.alloc ?_ ?_ _) | (with_reducible refine Below.drew ?_) | (with_reducible refine Below.setCell ?_ ?_ _) | (with_reducible exact Nat.le_refl _) | omega | (simp; done) | (simp [go_sem]; done) | (simp at *; omega))))) | (go_at_call 11; with_reducible exact Calls.ext (cB _ (by repeat' (first | (with_reducible exact Below.refl _ _) | (with_reducible assumption) | (with_reducible refine Ext.below _ ?_ ?_) | (with_reducible refine Below.on ?_ (by with_reducible assumption) ?_) | (with_reducible refine Below.alloc ?_ ?_ _) | (with_reducible refine Below.drew ?_) | (with_reducible refine Below.setCell ?_ ?_ _) | (with_reducible exact Nat.le_refl _) | omega | (simp; done) | (simp [go_sem]; done) | (simp at *; omega))))))) | quiet_step ((first | (go_at_call 11; with_reducible exact Calls.ext (cA _ (by repeat' (first | (with_reducible exact Below.refl _ _) | (with_reducible assumption) | (with_reducible refine Ext.below _ ?_ ?_) | (with_reducible refine Below.on ?_ (by with_reducible assumption) ?_) | (with_reducible refine Below.alloc ?_ ?_ _) | (with_reducible refine Below.drew ?_) | (with_reducible refine Below.setCell ?_ ?_ _) | (with_reducible exact Nat.le_refl _) | omega | (simp; done) | (simp [go_sem]; done) | (simp at *; omega))))) | (go_at_call 11; with_reducible exact Calls.ext (cB _ (by repeat' (first | (with_reducible exact Below.refl _ _) | (with_reducible assumption) | (with_reducible refine Ext.below _ ?_ ?_) | (with_reducible refine Below.on ?_ (by with_reducible assumption) ?_) | (with_reducible refine Below.alloc ?_ ?_ _) | (with_reducible refine Below.drew ?_) | (with_reducible refine Below.setCell ?_ ?_ _) | (with_reducible exact Nat.le_refl _) | omega | (simp; done) | (simp [go_sem]; done) | (simp at *; omega))))))))); refine wpQuiet_nil ?_; rintro _ ⟨yr, rfl⟩; have syr := Ext.size yr; (repeat (first | rw [World.size_alloc] at syr | rw [World.size_setCell] at syr | rw [World.size_drew] at syr)); have : SB < yr.now.heap.size := (by omega); have : SB ≤ yr.now.heap.size := (by omega); have : SB < yr.now.heap.size + 1 + 1 := (by omega); have : B1 < yr.now.heap.size := (by omega); have : B1 ≤ yr.now.heap.size := (by omega); have : B1 < yr.now.heap.size + 1 + 1 := (by omega); have : B3 < yr.now.heap.size := (by omega); have : B3 ≤ yr.now.heap.size := (by omega); have : B3 < yr.now.heap.size + 1 + 1 := (by omega)) | (go_at_call 11; (first | with_reducible refine (Calls.giv2 (cA _ (by repeat' (first | (with_reducible exact Below.refl _ _) | (with_reducible assumption) | (with_reducible refine Ext.below _ ?_ ?_) | (with_reducible refine Below.on ?_ (by with_reducible assumption) ?_) | (with_reducible refine Below.alloc ?_ ?_ _) | (with_reducible refine Below.drew ?_) | (with_reducible refine Below.setCell ?_ ?_ _) | (with_reducible exact Nat.le_refl _) | omega | (simp; done) | (simp [go_sem]; done) | (simp at *; omega))))).mono ?_ | with_reducible refine (Calls.giv (cA _ (by repeat' (first | (with_reducible exact Below.refl _ _) | (with_reducible assumption) | (with_reducible refine Ext.below _ ?_ ?_) | (with_reducible refine Below.on ?_ (by with_reducible assumption) ?_) | (with_reducible refine Below.alloc ?_ ?_ _) | (with_reducible refine Below.drew ?_) | (with_reducible refine Below.setCell ?_ ?_ _) | (with_reducible exact Nat.le_refl _) | omega | (simp; done) | (simp [go_sem]; done) | (simp at *; omega))))).mono ?_); rintro _ _ ⟨y1, rfl, rfl⟩; have sy1 := Ext.size y1; (repeat (first | rw [World.size_alloc] at sy1 | rw [World.size_setCell] at sy1 | rw [World.size_drew] at sy1)); have : SB < y1.now.heap.size := (by omega); have : SB ≤ y1.now.heap.size := (by omega); have : SB < y1.now.heap.size + 1 + 1 := (by omega); have : B1 < y1.now.heap.size := (by omega); have : B1 ≤ y1.now.heap.size := (by omega); have : B1 < y1.now.heap.size + 1 + 1 := (by omega); have : B3 < y1.now.heap.size := (by omega); have : B3 ≤ y1.now.heap.size := (by omega); have : B3 < y1.now.heap.size + 1 + 1 := (by omega)) | (go_at_call 11; (first | with_reducible refine (Calls.giv2 (cB _ (by repeat' (first | (with_reducible exact Below.refl _ _) | (with_reducible assumption) | (with_reducible refine Ext.below _ ?_ ?_) | (with_reducible refine Below.on ?_ (by with_reducible assumption) ?_) | (with_reducible refine Below.alloc ?_ ?_ _) | (with_reducible refine Below.drew ?_) | (with_reducible refine Below.setCell ?_ ?_ _) | (with_reducible exact Nat.le_refl _) | omega | (simp; done) | (simp [go_sem]; done) | (simp at *; omega))))).mono ?_ | with_reducible refine (Calls.giv (cB _ (by repeat' (first | (with_reducible exact Below.refl _ _) | (with_reducible assumption) | (with_reducible refine Ext.below _ ?_ ?_) | (with_reducible refine Below.on ?_ (by with_reducible assumption) ?_) | (with_reducible refine Below.alloc ?_ ?_ _) | (with_reducible refine Below.drew ?_) | (with_reducible refine Below.setCell ?_ ?_ _) | (with_reducible exact Nat.le_refl _) | omega | (simp; done) | (simp [go_sem]; done) | (simp at *; omega))))).mono ?_); rintro _ _ ⟨y2, rfl, rfl⟩; have sy2 := Ext.size y2; (repeat (first | rw [World.size_alloc] at sy2 | rw [World.size_setCell] at sy2 | rw [World.size_drew] at sy2)); have : SB < y2.now.heap.size := (by omega); have : SB ≤ y2.now.heap.size := (by omega); have : SB < y2.now.heap.size + 1 + 1 := (by omega); have : B1 < y2.now.heap.size := (by omega); have : B1 ≤ y2.now.heap.size := (by omega); have : B1 < y2.now.heap.size + 1 + 1 := (by omega); have : B3 < y2.now.heap.size := (by omega); have : B3 ≤ y2.now.heap.size := (by omega); have : B3 < y2.now.heap.size + 1 + 1 := (by omega)))
          refine ⟨⟨n + 1, ⟨_, ?_⟩, by simp, rfl, Go.Lib.hid hlt⟩, by simp [intOf]; omega⟩
          repeat' (first | (with_reducible exact Below.refl _ _) | (with_reducible assumption) | (with_reducible refine Ext.below _ ?_ ?_) | (with_reducible refine Below.on ?_ (by with_reducible assumption) ?_) | (with_reducible refine Below.alloc ?_ ?_ _) | (with_reducible refine Below.drew ?_) | (with_reducible refine Below.setCell ?_ ?_ _) | (with_reducible exact Nat.le_refl _) | omega | (simp; done) | (simp [go_sem]; done) | (simp at *; omega))
      · have hge : ¬ (n : Int) < gs.length := by omega
        clear hi
        go_wp2_with (first | ((first | with_reducible refine wp_region_ext2 (by kernel_rfl) (by kernel_rfl) ?_ | with_reducible refine wp_region_ext (by kernel_rfl) (by kernel_rfl) ?_); (repeat (first | go_big_quiet_step ((first | (go_at_call 12; with_reducible exact Calls.ext (ca _)))) | quiet_step ((first | (go_at_call 12; with_reducible exact Calls.ext (ca _)))))); refine wpQuiet_nil ?_; rintro _ ⟨yr, rfl⟩; have syr := Ext.size yr; (repeat (first | rw [World.size_alloc] at syr | rw [World.size_setCell] at syr | rw [World.size_drew] at syr))) | (go_at_call 12; (first | with_reducible refine (Calls.giv2 (ca _)).mono ?_ | with_reducible refine (Calls.giv (ca _)).mono ?_); rintro _ _ ⟨y1, rfl, rfl⟩; have sy1 := Ext.size y1; (repeat (first | rw [World.size_alloc] at sy1 | rw [World.size_setCell] at sy1 | rw [World.size_drew] at sy1))))
        go_returns
        refine ⟨rfl, ?_⟩
        repeat' (first | (with_reducible exact Below.refl _ _) | (with_reducible assumption) | (with_reducible refine Ext.below _ ?_ ?_) | (with_reducible refine Below.on ?_ (by with_reducible assumption) ?_) | (with_reducible refine Below.alloc ?_ ?_ _) | (with_reducible refine Below.drew ?_) | (with_reducible refine Below.setCell ?_ ?_ _) | (with_reducible exact Nat.le_refl _) | omega | (simp; done) | (simp [go_sem]; done) | (simp at *; omega))
set_option maxRecDepth 100000 in
theorem SkyJoins_lifted (os : Os) (started : os.Started) (H : Type) (enc : TypeId × Value → H) :
    ReturnsInHanded {} Try.checked os 3 .any (Rows.skyJoinsSpec.pre6 enc Try.prog Try.f3 Rows.skyJoinsRow.domain false) (Rows.skyJoinsSpec.post enc Try.prog Try.f3 false true false false) := by
  refine returnsInHanded_of_change (C := Try.checked) own started (by kernel_rfl) Try.func3
    (ChangeSpec.witness6 (enc := enc) (C := Try.checked) false ⟨#[], #[.slice none 0 0, .int .i64 0, .int .i64 0], []⟩ 8 (by kernel_rfl) (by kernel_rfl) (by kernel_rfl) (by kernel_rfl)) ?_
  intro W base args ds gs before hval0 hW _ _
  have hval : ∀ (j : Nat) t v, Try.f3.params[j]? = some t → args[j]? = some v → Value.okWide Try.prog W .any base t v := hval0
  have hW' := hW
  obtain ⟨p, q, hA0, hV, _, _, _⟩ := hW
  have hA : DataW.TrodAll enc Try.prog W 0 (fun _ => true) true Try.f3.params.toList args.toList ds p := hA0
  rw [Try.params3] at hA hval
  obtain ⟨v0, vs0, d0, ds0, p0, q0, hargs0, rfl, _, h0, r0⟩ := trodAll_cons hA
  obtain ⟨v1, vs1, d1, ds1, p1, q1, hargs1, rfl, _, h1, r1⟩ := trodAll_cons r0
  obtain ⟨v2, vs2, d2, ds2, p2, q2, hargs2, rfl, _, h2, r2⟩ := trodAll_cons r1
  obtain ⟨hlast, rfl, _⟩ := trodAll_nil r2
  subst hlast
  subst hargs2
  subst hargs1
  obtain rfl : args = #[v0, v1, v2] := by cases args; simp_all
  obtain ⟨rfl, rfl⟩ := trodVars_none hV
  obtain ⟨sp0, sl0, sc0, sz0, rfl, hi0⟩ := open_list (P := Try.prog) Try.underlying22 Try.underlying3 (by kernel_rfl) (hval 0 22 v0 rfl rfl) h0
  obtain ⟨x1, rfl, hi1⟩ := open_num (P := Try.prog) Try.underlying3 (hval 1 3 v1 rfl rfl)
  obtain ⟨x2, rfl, hi2⟩ := open_num (P := Try.prog) Try.underlying3 (hval 2 3 v2 rfl rfl)
  exact (SkyJoins_any sp0 sl0 sc0 sz0 x1 x2 W hi0 hi1 hi2).mono fun e W' h => law_post laid_out (by rw [Try.params3]; intro t ht; simp only [List.mem_cons, List.not_mem_nil, or_false] at ht; rcases ht with rfl | rfl | rfl | rfl | rfl | rfl | rfl | rfl; all_goals exact ⟨by kernel_rfl, by decide +kernel⟩) rfl rfl Try.underlying4 hW' rfl h
/-- The statement. -/
theorem SkyJoins_holds : Rows.SkyJoinsSaid :=
  OpenClaim.holds_of_wide 3 Try.f3 rfl rfl rfl rfl rfl rfl rfl ⟨rfl, rfl, rfl, rfl, rfl⟩ rfl rfl rfl rfl rfl (by kernel_rfl) Try.func3 (by kernel_rfl)
    (of_decide_eq_true (by kernel_rfl)) (by unfold Func.isWrapper; first | (rw [if_pos (by decide +kernel)]; kernel_rfl) | (rw [if_neg (by decide +kernel)]; exact ⟨rfl, rfl⟩))
    (fun os started H enc _ => SkyJoins_lifted os started H enc)
end Go.Proofs.Ytgoilmiiegpnoaa

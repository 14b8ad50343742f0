/- For BlastSole: for one stone there is one blow, of one energy: its own. Condition: none beyond the statement's own. -/
import Derived.Test.YtpiacndnjehbiaaDoorBlSz
namespace Go.Proofs.YtpiacndnjehbiaaDoor
open Go.RowKit Go.Shelf
attribute [local go_sem] Option.isSome_some Ext.cell Ext.frozen Ext.lt Ext.le Ext.lt_add Ext.le_add Ext.ne Ext.ne' lt2 lt3 lt4 lt5 le2 le3 le4
attribute [local go_sem] RExt.cell RExt.frozen RExt.lt RExt.le RExt.lt_add RExt.le_add RExt.ne RExt.ne'
set_option maxRecDepth 100000 in
set_option maxHeartbeats 16000000 in
theorem BlastSole_any (sp : Option Addr) (sl sc : Nat) (sz : Nat → Int) (w : World) (hlim : LimAt w) (hw : ListIn w sp sl sz) : Calls Tryd.prog 4 #[.slice sp sl sc] w (Gives (.bool true) w) := by
  have hl0 := hlim.lt
  go_enter Tryd.func4, Tryd.ntmps4
  go_upto_region 2 with (first | ((first | with_reducible refine wp_region_ext2 (by kernel_rfl) (by kernel_rfl) ?_ | with_reducible refine wp_region_ext (by kernel_rfl) (by kernel_rfl) ?_); (repeat (first | go_big_quiet_step ((first | fail)) | quiet_step ((first | fail)))); refine wpQuiet_nil ?_; rintro _ ⟨yr, rfl⟩; have syr := Ext.size yr; (repeat (first | rw [World.size_alloc] at syr | rw [World.size_setCell] at syr | rw [World.size_drew] at syr))) | (go_at_call 8; refine (NewRing_r sp sl sc sz _ hw).mono ?_; rintro _ _ ⟨y0, rfl, rfl, hs0, hr0⟩))
  have hR0 : RingM y0.now w.heap.size 0 := ⟨_, _, _, _, _, hr0, Nat.le_refl _⟩
  have hlim1 : LimAt y0.now := hlim.ext y0
  have hb0 : Below w.heap.size w y0.now := y0.grew
  generalize y0.now = W1 at *
  clear hr0 hw hlim
  have hlW1 := hR0.lt
  go_upto_region 3 with (first | ((first | with_reducible refine wp_region_ext2 (by kernel_rfl) (by kernel_rfl) ?_ | with_reducible refine wp_region_ext (by kernel_rfl) (by kernel_rfl) ?_); (repeat (first | go_big_quiet_step ((first | fail)) | quiet_step ((first | fail)))); refine wpQuiet_nil ?_; rintro _ ⟨yr, rfl⟩; have syr := Ext.size yr; (repeat (first | rw [World.size_alloc] at syr | rw [World.size_setCell] at syr | rw [World.size_drew] at syr))) | (go_at_call 9; refine (RockOf_y w.heap.size 0 _ (by omega) hR0).mono ?_; rintro _ _ ⟨y1, k, f, rfl, hok, rfl, hr1⟩; unfold RockR.val FallR.val; have sy1 := y1.size))
  obtain ⟨m0, hm0⟩ : ∃ m0, 0 + 16 = m0 := ⟨_, rfl⟩
  refine wp_named (fun Wr hW => ?_)
  have hRr : RingM Wr w.heap.size m0 := by rw [← hW, ← hm0]; exact (hr1.alloc _).alloc _
  have hBr : BelowX w.heap.size w.heap.size w Wr := by
    rw [← hW]
    have h6 := (BelowX.of hb0).trans (y1.grew.mono (by omega))
    repeat' (first | (with_reducible exact BelowX.refl _ _ _) | (with_reducible assumption) | (with_reducible refine RExt.belowX _ ?_ ?_) | (with_reducible refine Ext.belowX _ ?_ ?_) | (with_reducible refine BelowX.alloc ?_ ?_ _) | (with_reducible refine BelowX.drew ?_) | (with_reducible refine BelowX.setCell ?_ ?_ _) | (with_reducible exact Nat.le_refl _) | omega | (simp; done) | (simp [go_sem]; done) | (simp at *; omega))
  have hlr : LimAt Wr := by
    rw [← hW]
    have hlim : LimAt y1.now := hlim1.rext (by omega) y1
    exact (by repeat (first | exact hlim | (with_reducible refine LimAt.ext ?_ _) | (with_reducible refine LimAt.alloc ?_ _) | (with_reducible refine LimAt.drew ?_) | (with_reducible refine LimAt.rext ?_ (by omega) _) | (with_reducible refine LimAt.set ?_ (by omega) _)))
  have hKB : y1.now.heap.size < Wr.heap.size := by rw [← hW]; simp; omega
  have hKB1 : y1.now.heap.size + 1 < Wr.heap.size := by rw [← hW]; simp
  have hKb : y1.now.heap.size ≠ w.heap.size := by omega
  have hKw : w.heap.size < y1.now.heap.size := by omega
  have hKb1 : y1.now.heap.size + 1 ≠ w.heap.size := by omega
  have hrk : ∃ cs : Array Value, cs.size = 11 ∧ Wr.heap[y1.now.heap.size]? = some (.cells cs 26 (0, 0)) := ⟨#[.int .i64 k.size.x, .int .i64 k.size.y, .int .i64 k.dens.x, .int .i64 k.dens.y, .int .i64 k.strong.x, .int .i64 k.strong.y, .int .i64 k.spin.x, .int .i64 k.spin.y, .int .i64 k.shape.x, .int .i64 k.shape.y, .bool k.pile], rfl, by rw [← hW]; exact (heap_alloc_old _ _ (by simp)).trans (heap_alloc_new _ _)⟩
  have hrf : ∃ cs : Array Value, cs.size = 4 ∧ Wr.heap[y1.now.heap.size + 1]? = some (.cells cs 28 (0, 0)) := ⟨#[.int .i64 f.speed.x, .int .i64 f.speed.y, .int .i64 f.slope.x, .int .i64 f.slope.y], rfl, by
    rw [← hW]
    have := heap_alloc_new (y1.now.alloc (.cells #[.int .i64 k.size.x, .int .i64 k.size.y, .int .i64 k.dens.x, .int .i64 k.dens.y, .int .i64 k.strong.x, .int .i64 k.strong.y, .int .i64 k.spin.x, .int .i64 k.spin.y, .int .i64 k.shape.x, .int .i64 k.shape.y, .bool k.pile] 26)) (.cells #[.int .i64 f.speed.x, .int .i64 f.speed.y, .int .i64 f.slope.x, .int .i64 f.slope.y] 28)
    simpa using this⟩
  have c0 : Wr.cell? ⟨y1.now.heap.size, 0, none⟩ = some (.int .i64 k.size.x) := by rw [← hW]; simp [go_sem]
  have c1 : Wr.cell? ⟨y1.now.heap.size, 1, none⟩ = some (.int .i64 k.size.y) := by rw [← hW]; simp [go_sem]
  have c2 : Wr.cell? ⟨y1.now.heap.size, 2, none⟩ = some (.int .i64 k.dens.x) := by rw [← hW]; simp [go_sem]
  have c3 : Wr.cell? ⟨y1.now.heap.size, 3, none⟩ = some (.int .i64 k.dens.y) := by rw [← hW]; simp [go_sem]
  have c4 : Wr.cell? ⟨y1.now.heap.size, 4, none⟩ = some (.int .i64 k.strong.x) := by rw [← hW]; simp [go_sem]
  have c5 : Wr.cell? ⟨y1.now.heap.size, 5, none⟩ = some (.int .i64 k.strong.y) := by rw [← hW]; simp [go_sem]
  have c6 : Wr.cell? ⟨y1.now.heap.size, 6, none⟩ = some (.int .i64 k.spin.x) := by rw [← hW]; simp [go_sem]
  have c7 : Wr.cell? ⟨y1.now.heap.size, 7, none⟩ = some (.int .i64 k.spin.y) := by rw [← hW]; simp [go_sem]
  have c8 : Wr.cell? ⟨y1.now.heap.size, 8, none⟩ = some (.int .i64 k.shape.x) := by rw [← hW]; simp [go_sem]
  have c9 : Wr.cell? ⟨y1.now.heap.size, 9, none⟩ = some (.int .i64 k.shape.y) := by rw [← hW]; simp [go_sem]
  have c10 : Wr.cell? ⟨y1.now.heap.size, 10, none⟩ = some (.bool k.pile) := by rw [← hW]; simp [go_sem]
  have d0 : Wr.cell? ⟨y1.now.heap.size + 1, 0, none⟩ = some (.int .i64 f.speed.x) := by rw [← hW]; simp [go_sem]
  have d1 : Wr.cell? ⟨y1.now.heap.size + 1, 1, none⟩ = some (.int .i64 f.speed.y) := by rw [← hW]; simp [go_sem]
  have d2 : Wr.cell? ⟨y1.now.heap.size + 1, 2, none⟩ = some (.int .i64 f.slope.x) := by rw [← hW]; simp [go_sem]
  have d3 : Wr.cell? ⟨y1.now.heap.size + 1, 3, none⟩ = some (.int .i64 f.slope.y) := by rw [← hW]; simp [go_sem]
  clear hW hr1 hR0 hlim1 hb0
  generalize y1.now.heap.size = KB at *
  clear sy1 hs0 hlW1
  clear y1
  have hmm : m0 ≤ 16 := by omega
  clear hm0
--REGION3
  refine wp_tell (solTold w.heap.size m0 k f) ?_ ?_
  focus
    have hbX := hRr.lt
    repeat (rename_i zz; clear zz)
    generalize m0 = m at *
    generalize w.heap.size = b at *
    refine region_dep (by kernel_rfl) solDeps (by kernel_rfl) (solInv b m k f) ?h0 ?hstep ?hend
    case h0 =>
      refine ⟨?z6, ?z7, ?z20, ?z21, ?z22, ?z23, ?z24, ?z25, ?fr, (BelowX.refl _ _ _).drew, (by simpa using hRr.drew), by simp, by simp, by simp, by simp, by simp, by simp, by simp, by simp, by simp, by simp⟩
      case fr =>
        simp only [sets, List.foldl_cons, List.foldl_nil, List.set_cons_succ, List.set_cons_zero]
        rfl
    case hend =>
      intro l' fr W hl hall hInv
      unfold solInv at hInv
      obtain ⟨s6, s7, s20, s21, s22, s23, s24, s25, hInv⟩ := hInv
      obtain ⟨hfr, hB, g0, g1, g2, f0, f1, f2, f3, f4, f5, f6, f7⟩ := hInv
      subst hfr
      obtain ⟨b0, b1, b2, b3, b4, b5, b6, b7, b8, rfl⟩ := list9 hl
      simp only [List.getD_cons_zero, List.getD_cons_succ] at g0 g1 g2 f0 f1 f2 f3 f4 f5 f6 f7
      simp only [List.all_cons, id, Bool.and_eq_true] at hall
      obtain ⟨e0, e1, e2, e3, e4, e5, e6, e7, e8, -⟩ := hall
      obtain ⟨lv, ls, rfl, hlo, ho⟩ := f1 e1
      obtain ⟨g, rfl, h1, h2, -, h4⟩ := f6 e6
      obtain ⟨s, hs, e⟩ := h4 e8
      obtain rfl := f7 e7
      have hg : RingM W b (m + 34) := by simpa only [e1, e5, Bool.toNat_true] using g0
      exact ⟨rfl, g, s6, ls, s, hlo, hs, by kernel_rfl, h1, hB, hg, ho, e⟩
    case hstep =>
      intro l' fr W ii hl hInv hr hi
      unfold solInv at hInv
      obtain ⟨s6, s7, s20, s21, s22, s23, s24, s25, hInv⟩ := hInv
      obtain ⟨hfr, hB, g0, g1, g2, f0, f1, f2, f3, f4, f5, f6, f7⟩ := hInv
      subst hfr
      obtain ⟨b0, b1, b2, b3, b4, b5, b6, b7, b8, rfl⟩ := list9 hl
      have sW := hB.size
      replace c0 := (World.cell?_of_block (a := ⟨KB, 0, none⟩) (hB.block KB hKB hKb)).trans c0
      replace c1 := (World.cell?_of_block (a := ⟨KB, 1, none⟩) (hB.block KB hKB hKb)).trans c1
      replace c2 := (World.cell?_of_block (a := ⟨KB, 2, none⟩) (hB.block KB hKB hKb)).trans c2
      replace c3 := (World.cell?_of_block (a := ⟨KB, 3, none⟩) (hB.block KB hKB hKb)).trans c3
      replace c4 := (World.cell?_of_block (a := ⟨KB, 4, none⟩) (hB.block KB hKB hKb)).trans c4
      replace c5 := (World.cell?_of_block (a := ⟨KB, 5, none⟩) (hB.block KB hKB hKb)).trans c5
      replace c6 := (World.cell?_of_block (a := ⟨KB, 6, none⟩) (hB.block KB hKB hKb)).trans c6
      replace c7 := (World.cell?_of_block (a := ⟨KB, 7, none⟩) (hB.block KB hKB hKb)).trans c7
      replace c8 := (World.cell?_of_block (a := ⟨KB, 8, none⟩) (hB.block KB hKB hKb)).trans c8
      replace c9 := (World.cell?_of_block (a := ⟨KB, 9, none⟩) (hB.block KB hKB hKb)).trans c9
      replace c10 := (World.cell?_of_block (a := ⟨KB, 10, none⟩) (hB.block KB hKB hKb)).trans c10
      replace d0 := (World.cell?_of_block (a := ⟨KB + 1, 0, none⟩) (hB.block (KB + 1) hKB1 hKb1)).trans d0
      replace d1 := (World.cell?_of_block (a := ⟨KB + 1, 1, none⟩) (hB.block (KB + 1) hKB1 hKb1)).trans d1
      replace d2 := (World.cell?_of_block (a := ⟨KB + 1, 2, none⟩) (hB.block (KB + 1) hKB1 hKb1)).trans d2
      replace d3 := (World.cell?_of_block (a := ⟨KB + 1, 3, none⟩) (hB.block (KB + 1) hKB1 hKb1)).trans d3
      have hflags : b1.toNat ≤ 1 ∧ b5.toNat ≤ 1 := ⟨Bool.toNat_le _, Bool.toNat_le _⟩
      simp only [List.getD_cons_zero, List.getD_cons_succ] at g0 g1 g2 f0 f1 f2 f3 f4 f5 f6 f7
      replace hB := Go.Lib.hid hB
      replace hi := Go.Lib.hid hi
      replace g0 := Go.Lib.hid g0
      replace g1 := Go.Lib.hid g1
      replace g2 := Go.Lib.hid g2
      replace f0 := Go.Lib.hid f0
      replace f1 := Go.Lib.hid f1
      replace f2 := Go.Lib.hid f2
      replace f3 := Go.Lib.hid f3
      replace f4 := Go.Lib.hid f4
      replace f5 := Go.Lib.hid f5
      replace f6 := Go.Lib.hid f6
      replace f7 := Go.Lib.hid f7
      rcases ii with _ | _ | _ | _ | _ | _ | _ | _ | _ | ii
      · refine wpOp_step rfl (fun K hK => ?_)
        simp only [sets, List.foldl_cons, List.foldl_nil, List.set_cons_succ, List.set_cons_zero]
        go_simp
        exact hK _ _ ⟨s6, s7, (.pointer (some ⟨b, 0, none⟩)), s21, s22, s23, s24, s25, by kernel_rfl, hB.out, g0.out, g1.out, g2.out, fun _ => rfl, f1.out, f2.out, f3.out, f4.out, f5.out, f6.out, f7.out⟩
      · simp only [solDeps, List.getD_cons_zero, List.getD_cons_succ, List.all_cons, List.all_nil, Bool.and_true] at hr
        have hd0 := hr
        obtain rfl := f0.out hd0
        have hi := hi.out
        simp only [List.getElem?_cons_zero, List.getElem?_cons_succ, Option.some.injEq] at hi
        subst hi
        refine wpOp_step rfl (fun K hK => ?_)
        simp only [sets, List.foldl_cons, List.foldl_nil, List.set_cons_succ, List.set_cons_zero]
        go_simp
        refine (LayersOf_y b (m + (20 * false.toNat + 14 * b5.toNat)) W (by have := hflags; simp only [Bool.toNat_false] at *; omega) g0.out).mono ?_
        rintro _ W6 ⟨y, lv, ls, rfl, ho, hn, hall, rfl, hr⟩
        exact hK _ _ ⟨s6, s7, (.pointer (some ⟨b, 0, none⟩)), (lv), s22, s23, s24, s25, by kernel_rfl, hB.out.trans (y.grew.mono (by omega)), (hr.mono (by simp only [List.set_cons_succ, List.set_cons_zero, List.getD_cons_zero, List.getD_cons_succ, Bool.toNat_true, Bool.toNat_false]; omega)), (fun h => absurd (g1.out h).1 (by decide)), g2.out, f0.out, (fun _ => ⟨lv, ls, rfl, ⟨hn, hall⟩, owns_base ho (by omega)⟩), f2.out, f3.out, f4.out, f5.out, (fun h => by obtain ⟨g, e, h1, h2, h3, h4⟩ := f6.out h; exact ⟨g, e, h1, Nat.lt_of_lt_of_le h2 y.size, fun q => y.row (h3 q) h2 (by omega), fun q => by obtain ⟨s', hs', e'⟩ := h4 q; exact ⟨s', hs', y.row e' h2 (by omega)⟩⟩), (fun h => absurd (g1.out h).1 (by decide))⟩
      · refine wpOp_step rfl (fun K hK => ?_)
        simp only [sets, List.foldl_cons, List.foldl_nil, List.set_cons_succ, List.set_cons_zero]
        go_simp
        exact hK _ _ ⟨s6, s7, s20, s21, (.pointer (some ⟨b, 0, none⟩)), s23, s24, s25, by kernel_rfl, hB.out, g0.out, g1.out, g2.out, f0.out, f1.out, fun _ => rfl, f3.out, f4.out, f5.out, f6.out, f7.out⟩
      · refine wpOp_step rfl (fun K hK => ?_)
        simp only [sets, List.foldl_cons, List.foldl_nil, List.set_cons_succ, List.set_cons_zero]
        go_simp
        exact hK _ _ ⟨s6, s7, s20, s21, s22, (.agg #[.int .i64 k.size.x, .int .i64 k.size.y, .int .i64 k.dens.x, .int .i64 k.dens.y, .int .i64 k.strong.x, .int .i64 k.strong.y, .int .i64 k.spin.x, .int .i64 k.spin.y, .int .i64 k.shape.x, .int .i64 k.shape.y, .bool k.pile]), s24, s25, by kernel_rfl, hB.out, g0.out, g1.out, g2.out, f0.out, f1.out, f2.out, fun _ => rfl, f4.out, f5.out, f6.out, f7.out⟩
      · refine wpOp_step rfl (fun K hK => ?_)
        simp only [sets, List.foldl_cons, List.foldl_nil, List.set_cons_succ, List.set_cons_zero]
        go_simp
        exact hK _ _ ⟨s6, s7, s20, s21, s22, s23, (.agg #[.int .i64 f.speed.x, .int .i64 f.speed.y, .int .i64 f.slope.x, .int .i64 f.slope.y]), s25, by kernel_rfl, hB.out, g0.out, g1.out, g2.out, f0.out, f1.out, f2.out, f3.out, fun _ => rfl, f5.out, f6.out, f7.out⟩
      · simp only [solDeps, List.getD_cons_zero, List.getD_cons_succ, List.all_cons, List.all_nil, Bool.and_true, Bool.and_eq_true] at hr
        obtain ⟨hd2, hd3, hd4, hd1⟩ := hr
        obtain rfl := f2.out hd2
        obtain rfl := f3.out hd3
        obtain rfl := f4.out hd4
        have hi := hi.out
        simp only [List.getElem?_cons_zero, List.getElem?_cons_succ, Option.some.injEq] at hi
        subst hi
        refine wpOp_step rfl (fun K hK => ?_)
        simp only [sets, List.foldl_cons, List.foldl_nil, List.set_cons_succ, List.set_cons_zero]
        go_simp
        refine (StoneOf_y b (m + (20 * b1.toNat + 14 * false.toNat)) k f W (by have := hflags; simp only [Bool.toNat_false] at *; omega) hok g0.out).mono ?_
        rintro _ W6 ⟨y, s, rfl, hin, rfl, hr⟩
        exact hK _ _ ⟨s6, s7, s20, s21, (.pointer (some ⟨b, 0, none⟩)), (.agg #[.int .i64 k.size.x, .int .i64 k.size.y, .int .i64 k.dens.x, .int .i64 k.dens.y, .int .i64 k.strong.x, .int .i64 k.strong.y, .int .i64 k.spin.x, .int .i64 k.spin.y, .int .i64 k.shape.x, .int .i64 k.shape.y, .bool k.pile]), (.agg #[.int .i64 f.speed.x, .int .i64 f.speed.y, .int .i64 f.slope.x, .int .i64 f.slope.y]), (.agg s.vals), by kernel_rfl, hB.out.trans (y.grew.mono (by omega)), (hr.mono (by simp only [List.set_cons_succ, List.set_cons_zero, List.getD_cons_zero, List.getD_cons_succ, Bool.toNat_true, Bool.toNat_false]; omega)), (fun h => absurd (g1.out h).2 (by decide)), g2.out, f0.out, (fun h => by obtain ⟨lv, ls, e, h1, ho⟩ := f1.out h; exact ⟨lv, ls, e, h1, owns_belowX ho (by omega) y.grew⟩), f2.out, f3.out, f4.out, (fun _ => ⟨s, hin, rfl⟩), (fun h => by obtain ⟨g, e, h1, h2, h3, h4⟩ := f6.out h; exact ⟨g, e, h1, Nat.lt_of_lt_of_le h2 y.size, fun q => y.row (h3 q) h2 (by omega), fun q => by obtain ⟨s', hs', e'⟩ := h4 q; exact ⟨s', hs', y.row e' h2 (by omega)⟩⟩), f7.out⟩
      · have hi := hi.out
        simp only [List.getElem?_cons_zero, List.getElem?_cons_succ, Option.some.injEq] at hi
        subst hi
        refine wpOp_step rfl (fun K hK => ?_)
        simp only [sets, List.foldl_cons, List.foldl_nil, List.set_cons_succ, List.set_cons_zero]
        go_simp
        exact hK _ _ ⟨s6, (.pointer (some ⟨W.heap.size, 0, none⟩)), s20, s21, s22, s23, s24, s25, by kernel_rfl, hB.out.alloc (by omega) _, (g0.out.alloc _), g1.out, (fun h => absurd (g2.out h) (by decide)), f0.out, (fun h => by obtain ⟨lv, ls, e, h1, ho⟩ := f1.out h; exact ⟨lv, ls, e, h1, ho.alloc _⟩), f2.out, f3.out, f4.out, f5.out, (fun _ => ⟨W.heap.size, rfl, by omega, by simp only [World.size_alloc]; omega, fun _ => heap_alloc_new _ _, fun q => by have h9 := g2.out q; cases h9⟩), f7.out⟩
      · simp only [solDeps, List.getD_cons_zero, List.getD_cons_succ, List.all_cons, List.all_nil, Bool.and_true, Bool.and_eq_true] at hr
        obtain ⟨hd1, hd5⟩ := hr
        refine wpOp_step rfl (fun K hK => ?_)
        simp only [sets, List.foldl_cons, List.foldl_nil, List.set_cons_succ, List.set_cons_zero]
        go_simp
        exact hK _ _ ⟨(s21), s7, s20, s21, s22, s23, s24, s25, by kernel_rfl, hB.out, g0.out, (fun _ => ⟨hd1, hd5⟩), g2.out, f0.out, f1.out, f2.out, f3.out, f4.out, f5.out, f6.out, (fun _ => rfl)⟩
      · simp only [solDeps, List.getD_cons_zero, List.getD_cons_succ, List.all_cons, List.all_nil, Bool.and_true, Bool.and_eq_true] at hr
        obtain ⟨hd6, hd5, hd7⟩ := hr
        obtain ⟨s, hs, rfl⟩ := f5.out hd5
        obtain ⟨g, rfl, h1, h2, h3, h4⟩ := f6.out hd6
        have hi := hi.out
        simp only [List.getElem?_cons_zero, List.getElem?_cons_succ, Option.some.injEq] at hi
        subst hi
        have e := h3 rfl
        refine wpOp_step rfl (fun K hK => ?_)
        simp only [sets, List.foldl_cons, List.foldl_nil, List.set_cons_succ, List.set_cons_zero]
        simp only [Region.wanted]
        refine store_op 30 (.tmp 7) (.tmp 25) rfl g s.vals (by kernel_rfl) (by kernel_rfl) 30 _ e (by kernel_rfl) rfl (by simp [StoneR.vals, Value.oneCell']) ?_
        exact hK _ _ ⟨s6, (.pointer (some ⟨g, 0, none⟩)), s20, s21, s22, s23, s24, (.agg s.vals), by kernel_rfl, belowX_row hB.out (by omega) _, (RingM.row g0.out (by omega) _), g1.out, (fun _ => hd6), f0.out, (fun h => by obtain ⟨lv, ls, e', h1', ho⟩ := f1.out h; exact ⟨lv, ls, e', h1', ho.kept (grown_setRow W g _) (.inr fun q => row_ne ho e (by decide) q.symm)⟩), f2.out, f3.out, f4.out, (fun _ => ⟨s, hs, rfl⟩), (fun _ => ⟨g, rfl, h1, by rw [size_setRow']; exact h2, (fun h => by cases h), fun _ => ⟨s, hs, setRow_heap _ _ _ _ _ _ e⟩⟩), f7.out⟩
      · have hi := hi.out; simp at hi
  rintro a4 W4 ⟨g, lv, ls, s, hlo, hin, ha4, hg1, hB4, hr4, hown, hrow⟩
  generalize a4.tmps.getD 6 undef = s6 at ha4
  generalize a4.tmps.getD 7 undef = s7 at ha4
  generalize a4.tmps.getD 20 undef = s20 at ha4
  generalize a4.tmps.getD 21 undef = s21 at ha4
  generalize a4.tmps.getD 22 undef = s22 at ha4
  generalize a4.tmps.getD 23 undef = s23 at ha4
  generalize a4.tmps.getD 24 undef = s24 at ha4
  generalize a4.tmps.getD 25 undef = s25 at ha4
  subst ha4
  simp only [sets, List.foldl_cons, List.foldl_nil, List.set_cons_succ, List.set_cons_zero]
--END3
  have sB4 := hB4.size
  have hBW : Below w.heap.size w W4 := (hBr.trans (hB4.mono hBr.size)).below (Nat.le_refl _)
  have hlim4 : LimAt W4 := hlr.rext (by omega) ⟨W4, hB4⟩
  obtain ⟨p, cc, rfl, hv, hvb⟩ := vecs_of hown
  have hgl : g < W4.heap.size := row_lt hrow
  obtain ⟨hs, -, -⟩ := stoneIn_ok hin hok
  have ha1 : airE ls = 0 := airE_ok (by have := hlo.len; omega) (fun v hv => by have := hlo.all v hv; omega)
  obtain ⟨hrk0, n, hn, hbl⟩ := sole_spec ls hs
  obtain ⟨csk, hsk, hrk⟩ := hrk
  obtain ⟨csf, hsf, hrf⟩ := hrf
  replace hrk := (hB4.block KB hKB hKb).trans hrk
  replace hrf := (hB4.block (KB + 1) hKB1 hKb1).trans hrf
  replace c0 := (World.cell?_of_block (a := ⟨KB, 0, none⟩) (hB4.block KB hKB hKb)).trans c0
  replace c1 := (World.cell?_of_block (a := ⟨KB, 1, none⟩) (hB4.block KB hKB hKb)).trans c1
  replace c2 := (World.cell?_of_block (a := ⟨KB, 2, none⟩) (hB4.block KB hKB hKb)).trans c2
  replace c3 := (World.cell?_of_block (a := ⟨KB, 3, none⟩) (hB4.block KB hKB hKb)).trans c3
  replace c4 := (World.cell?_of_block (a := ⟨KB, 4, none⟩) (hB4.block KB hKB hKb)).trans c4
  replace c5 := (World.cell?_of_block (a := ⟨KB, 5, none⟩) (hB4.block KB hKB hKb)).trans c5
  replace c6 := (World.cell?_of_block (a := ⟨KB, 6, none⟩) (hB4.block KB hKB hKb)).trans c6
  replace c7 := (World.cell?_of_block (a := ⟨KB, 7, none⟩) (hB4.block KB hKB hKb)).trans c7
  replace c8 := (World.cell?_of_block (a := ⟨KB, 8, none⟩) (hB4.block KB hKB hKb)).trans c8
  replace c9 := (World.cell?_of_block (a := ⟨KB, 9, none⟩) (hB4.block KB hKB hKb)).trans c9
  replace c10 := (World.cell?_of_block (a := ⟨KB, 10, none⟩) (hB4.block KB hKB hKb)).trans c10
  replace d0 := (World.cell?_of_block (a := ⟨KB + 1, 0, none⟩) (hB4.block (KB + 1) hKB1 hKb1)).trans d0
  replace d1 := (World.cell?_of_block (a := ⟨KB + 1, 1, none⟩) (hB4.block (KB + 1) hKB1 hKb1)).trans d1
  replace d2 := (World.cell?_of_block (a := ⟨KB + 1, 2, none⟩) (hB4.block (KB + 1) hKB1 hKb1)).trans d2
  replace d3 := (World.cell?_of_block (a := ⟨KB + 1, 3, none⟩) (hB4.block (KB + 1) hKB1 hKb1)).trans d3
  have fk0 : W4.frozen? ⟨KB, 0, none⟩ = false := frozen_row hrk
  have fk1 : W4.frozen? ⟨KB, 1, none⟩ = false := frozen_row hrk
  have fk2 : W4.frozen? ⟨KB, 2, none⟩ = false := frozen_row hrk
  have fk3 : W4.frozen? ⟨KB, 3, none⟩ = false := frozen_row hrk
  have fk4 : W4.frozen? ⟨KB, 4, none⟩ = false := frozen_row hrk
  have fk5 : W4.frozen? ⟨KB, 5, none⟩ = false := frozen_row hrk
  have fk6 : W4.frozen? ⟨KB, 6, none⟩ = false := frozen_row hrk
  have fk7 : W4.frozen? ⟨KB, 7, none⟩ = false := frozen_row hrk
  have fk8 : W4.frozen? ⟨KB, 8, none⟩ = false := frozen_row hrk
  have fk9 : W4.frozen? ⟨KB, 9, none⟩ = false := frozen_row hrk
  have fk10 : W4.frozen? ⟨KB, 10, none⟩ = false := frozen_row hrk
  have ff0 : W4.frozen? ⟨KB + 1, 0, none⟩ = false := frozen_row hrf
  have ff1 : W4.frozen? ⟨KB + 1, 1, none⟩ = false := frozen_row hrf
  have ff2 : W4.frozen? ⟨KB + 1, 2, none⟩ = false := frozen_row hrf
  have ff3 : W4.frozen? ⟨KB + 1, 3, none⟩ = false := frozen_row hrf
  have g0 : W4.cell? ⟨g, 0, none⟩ = some (.int .i64 s.size) := (cell_of_row W4 _ 0 _ _ _ hrow).trans rfl
  have g1 : W4.cell? ⟨g, 1, none⟩ = some (.int .i64 s.dens) := (cell_of_row W4 _ 1 _ _ _ hrow).trans rfl
  have g2 : W4.cell? ⟨g, 2, none⟩ = some (.int .i64 s.strong) := (cell_of_row W4 _ 2 _ _ _ hrow).trans rfl
  have g3 : W4.cell? ⟨g, 3, none⟩ = some (.int .i64 s.spin) := (cell_of_row W4 _ 3 _ _ _ hrow).trans rfl
  have g4 : W4.cell? ⟨g, 4, none⟩ = some (.int .i64 s.shape) := (cell_of_row W4 _ 4 _ _ _ hrow).trans rfl
  have g5 : W4.cell? ⟨g, 5, none⟩ = some (.bool s.pile) := (cell_of_row W4 _ 5 _ _ _ hrow).trans rfl
  have g6 : W4.cell? ⟨g, 6, none⟩ = some (.int .i64 s.speed) := (cell_of_row W4 _ 6 _ _ _ hrow).trans rfl
  have g7 : W4.cell? ⟨g, 7, none⟩ = some (.int .i64 s.slope) := (cell_of_row W4 _ 7 _ _ _ hrow).trans rfl
  have cso := fun W => SoleRock_any s W
  unfold StoneR.val StoneR.vals soleK soleF RockR.val FallR.val at cso
  have lK4 : KB < W4.heap.size := by omega
  have lK41 : KB + 1 < W4.heap.size := by omega
  go_upto_region 5 with (first | ((first | with_reducible refine wp_region_ext2 (by kernel_rfl) (by kernel_rfl) ?_ | with_reducible refine wp_region_ext (by kernel_rfl) (by kernel_rfl) ?_); (repeat (first | go_big_quiet_step ((first | (go_at_call 24; with_reducible exact Calls.ext (cso _)))) | quiet_step ((first | (go_at_call 24; with_reducible exact Calls.ext (cso _)))))); refine wpQuiet_nil ?_; rintro _ ⟨yr, rfl⟩; have syr := Ext.size yr; (repeat (first | rw [World.size_alloc] at syr | rw [World.size_setCell] at syr | rw [World.size_drew] at syr)); have : g < yr.now.heap.size := (by omega); have : g ≤ yr.now.heap.size := (by omega); have : g < yr.now.heap.size + 1 + 1 := (by omega); have : KB < yr.now.heap.size := (by omega); have : KB ≤ yr.now.heap.size := (by omega); have : KB < yr.now.heap.size + 1 + 1 := (by omega); have : KB + 1 < yr.now.heap.size := (by omega); have : KB + 1 ≤ yr.now.heap.size := (by omega); have : KB + 1 < yr.now.heap.size + 1 + 1 := (by omega)) | (go_at_call 24; (first | with_reducible refine (Calls.giv2 (cso _)).mono ?_ | with_reducible refine (Calls.giv (cso _)).mono ?_); rintro _ _ ⟨y1, rfl, rfl⟩; have sy1 := Ext.size y1; (repeat (first | rw [World.size_alloc] at sy1 | rw [World.size_setCell] at sy1 | rw [World.size_drew] at sy1)); have : g < y1.now.heap.size := (by omega); have : g ≤ y1.now.heap.size := (by omega); have : g < y1.now.heap.size + 1 + 1 := (by omega); have : KB < y1.now.heap.size := (by omega); have : KB ≤ y1.now.heap.size := (by omega); have : KB < y1.now.heap.size + 1 + 1 := (by omega); have : KB + 1 < y1.now.heap.size := (by omega); have : KB + 1 ≤ y1.now.heap.size := (by omega); have : KB + 1 < y1.now.heap.size + 1 + 1 := (by omega)))
  refine wp_named (fun W5 hW => ?_)
  have e5 : setL (setL y1.now KB 0 [.int .i64 s.size, .int .i64 s.size, .int .i64 s.dens, .int .i64 s.dens, .int .i64 s.strong, .int .i64 s.strong, .int .i64 s.spin, .int .i64 s.spin, .int .i64 s.shape, .int .i64 s.shape, .bool s.pile]) (KB + 1) 0 [.int .i64 s.speed, .int .i64 s.speed, .int .i64 s.slope, .int .i64 s.slope] = W5 := hW
  have sy4 := y1.size
  have hgK : g ≠ KB := by omega
  have hgK1 : g ≠ KB + 1 := by omega
  have hr5k : W5.heap[KB]? = some (.cells #[.int .i64 s.size, .int .i64 s.size, .int .i64 s.dens, .int .i64 s.dens, .int .i64 s.strong, .int .i64 s.strong, .int .i64 s.spin, .int .i64 s.spin, .int .i64 s.shape, .int .i64 s.shape, .bool s.pile] 26 (0, 0)) := by rw [← e5]; exact (setL_other (by omega) _ _ _).trans (setL_all ((y1.grew.block KB lK4).trans hrk) hsk)
  have hr5f : W5.heap[KB + 1]? = some (.cells #[.int .i64 s.speed, .int .i64 s.speed, .int .i64 s.slope, .int .i64 s.slope] 28 (0, 0)) := by rw [← e5]; exact setL_all ((setL_other (by omega) _ _ _).trans ((y1.grew.block (KB + 1) lK41).trans hrf)) hsf
  have hk5 : ∀ B, B < W4.heap.size → B ≠ KB → B ≠ KB + 1 → W5.heap[B]? = W4.heap[B]? := fun B h1 h2 h3 => by rw [← e5]; exact (setL_other h3 _ _ _).trans ((setL_other h2 _ _ _).trans (y1.grew.block B h1))
  have hB5 : Below KB y1.now W5 := by rw [← e5]; exact setL_below (by omega) _ _ _ (setL_below (Nat.le_refl _) _ _ _ (Below.refl _ _))
  have hlim5 : LimAt W5 := by rw [← e5]; exact setL_lim (by omega) _ _ _ (setL_lim (by omega) _ _ _ (hlim4.ext y1))
  clear hW e5
  have s5 := hB5.size
  have hBW5 : Below w.heap.size w W5 := (hBW.trans (y1.grew.mono hBW.size)).trans (hB5.mono (by omega))
  have hv5 : VecsAt W5 p ls := fun j hj => by
    obtain ⟨A, o, e, hA, h1, h2⟩ := hv j hj
    have := hvb A o (by omega) e
    have hb := hk5 A hA (by omega) (by omega)
    exact ⟨A, o, e, by omega, (World.cell?_of_block (a := ⟨A, o + j * 2, none⟩) hb).trans h1, (World.cell?_of_block (a := ⟨A, o + j * 2 + 1, none⟩) hb).trans h2⟩
  have hr5 := (hk5 g hgl hgK hgK1).trans hrow
  replace c0 : W5.cell? ⟨KB, 0, none⟩ = some (.int .i64 s.size) := (cell_of_row W5 _ 0 _ _ _ hr5k).trans rfl
  replace c1 : W5.cell? ⟨KB, 1, none⟩ = some (.int .i64 s.size) := (cell_of_row W5 _ 1 _ _ _ hr5k).trans rfl
  replace c2 : W5.cell? ⟨KB, 2, none⟩ = some (.int .i64 s.dens) := (cell_of_row W5 _ 2 _ _ _ hr5k).trans rfl
  replace c3 : W5.cell? ⟨KB, 3, none⟩ = some (.int .i64 s.dens) := (cell_of_row W5 _ 3 _ _ _ hr5k).trans rfl
  replace c4 : W5.cell? ⟨KB, 4, none⟩ = some (.int .i64 s.strong) := (cell_of_row W5 _ 4 _ _ _ hr5k).trans rfl
  replace c5 : W5.cell? ⟨KB, 5, none⟩ = some (.int .i64 s.strong) := (cell_of_row W5 _ 5 _ _ _ hr5k).trans rfl
  replace c6 : W5.cell? ⟨KB, 6, none⟩ = some (.int .i64 s.spin) := (cell_of_row W5 _ 6 _ _ _ hr5k).trans rfl
  replace c7 : W5.cell? ⟨KB, 7, none⟩ = some (.int .i64 s.spin) := (cell_of_row W5 _ 7 _ _ _ hr5k).trans rfl
  replace c8 : W5.cell? ⟨KB, 8, none⟩ = some (.int .i64 s.shape) := (cell_of_row W5 _ 8 _ _ _ hr5k).trans rfl
  replace c9 : W5.cell? ⟨KB, 9, none⟩ = some (.int .i64 s.shape) := (cell_of_row W5 _ 9 _ _ _ hr5k).trans rfl
  replace c10 : W5.cell? ⟨KB, 10, none⟩ = some (.bool s.pile) := (cell_of_row W5 _ 10 _ _ _ hr5k).trans rfl
  replace d0 : W5.cell? ⟨KB + 1, 0, none⟩ = some (.int .i64 s.speed) := (cell_of_row W5 _ 0 _ _ _ hr5f).trans rfl
  replace d1 : W5.cell? ⟨KB + 1, 1, none⟩ = some (.int .i64 s.speed) := (cell_of_row W5 _ 1 _ _ _ hr5f).trans rfl
  replace d2 : W5.cell? ⟨KB + 1, 2, none⟩ = some (.int .i64 s.slope) := (cell_of_row W5 _ 2 _ _ _ hr5f).trans rfl
  replace d3 : W5.cell? ⟨KB + 1, 3, none⟩ = some (.int .i64 s.slope) := (cell_of_row W5 _ 3 _ _ _ hr5f).trans rfl
  replace g0 : W5.cell? ⟨g, 0, none⟩ = some (.int .i64 s.size) := (cell_of_row W5 _ 0 _ _ _ hr5).trans rfl
  replace g1 : W5.cell? ⟨g, 1, none⟩ = some (.int .i64 s.dens) := (cell_of_row W5 _ 1 _ _ _ hr5).trans rfl
  replace g2 : W5.cell? ⟨g, 2, none⟩ = some (.int .i64 s.strong) := (cell_of_row W5 _ 2 _ _ _ hr5).trans rfl
  replace g3 : W5.cell? ⟨g, 3, none⟩ = some (.int .i64 s.spin) := (cell_of_row W5 _ 3 _ _ _ hr5).trans rfl
  replace g4 : W5.cell? ⟨g, 4, none⟩ = some (.int .i64 s.shape) := (cell_of_row W5 _ 4 _ _ _ hr5).trans rfl
  replace g5 : W5.cell? ⟨g, 5, none⟩ = some (.bool s.pile) := (cell_of_row W5 _ 5 _ _ _ hr5).trans rfl
  replace g6 : W5.cell? ⟨g, 6, none⟩ = some (.int .i64 s.speed) := (cell_of_row W5 _ 6 _ _ _ hr5).trans rfl
  replace g7 : W5.cell? ⟨g, 7, none⟩ = some (.int .i64 s.slope) := (cell_of_row W5 _ 7 _ _ _ hr5).trans rfl
  clear fk0 fk1 fk2 fk3 fk4 fk5 fk6 fk7 fk8 fk9 fk10 ff0 ff1 ff2 ff3 hk5 hB5 hrk hrf hsk hsf hr5k hr5f hv hvb hrow hown cso
  have cbl := fun (W : World) (y : Below W5.heap.size W5 W) => Blows_ok p cc ls (soleK s) (soleF s) W (hlim5.on y) (hv5.on y) ha1 hrk0
  have cen := fun (W : World) (y : Below W5.heap.size W5 W) => Ends_ok p cc ls s W (hlim5.on y) (hv5.on y) ha1 hs
  have ca := fun (W : World) (y : LimAt W) => blastAwake_any W y
  have lK5 : KB < W5.heap.size := by omega
  have lK51 : KB + 1 < W5.heap.size := by omega
  have lg5 : g < W5.heap.size := by omega
  rw [hn] at cen
  generalize massV s * (endOf ls s).2 = E at *
  have hlen : (blowsV ls (soleK s) (soleF s)).length = 1 := by
    have := congrArg List.length hbl
    simpa [v3s] using this
  generalize blowsV ls (soleK s) (soleF s) = BV at *
  unfold StoneR.val StoneR.vals at cen
  unfold RockR.val FallR.val soleK soleF at cbl
  go_upto_region 6 with (first | ((first | with_reducible refine wp_region_ext2 (by kernel_rfl) (by kernel_rfl) ?_ | with_reducible refine wp_region_ext (by kernel_rfl) (by kernel_rfl) ?_); (repeat (first | go_big_quiet_step ((first | fail)) | quiet_step ((first | fail)))); refine wpQuiet_nil ?_; rintro _ ⟨yr, rfl⟩; have syr := Ext.size yr; (repeat (first | rw [World.size_alloc] at syr | rw [World.size_setCell] at syr | rw [World.size_drew] at syr)); have : g < yr.now.heap.size := (by omega); have : g ≤ yr.now.heap.size := (by omega); have : g < yr.now.heap.size + 1 + 1 := (by omega); have : KB < yr.now.heap.size := (by omega); have : KB ≤ yr.now.heap.size := (by omega); have : KB < yr.now.heap.size + 1 + 1 := (by omega); have : KB + 1 < yr.now.heap.size := (by omega); have : KB + 1 ≤ yr.now.heap.size := (by omega); have : KB + 1 < yr.now.heap.size + 1 + 1 := (by omega)) | (go_at_call 25; refine (cbl _ (by repeat' (first | (with_reducible exact Below.refl _ _) | (with_reducible assumption) | (with_reducible refine Ext.below _ ?_ ?_) | (with_reducible refine Below.on ?_ (by with_reducible assumption) ?_) | (with_reducible refine Below.alloc ?_ ?_ _) | (with_reducible refine Below.drew ?_) | (with_reducible refine Below.setCell ?_ ?_ _) | (with_reducible exact Nat.le_refl _) | omega | (simp; done) | (simp [go_sem]; done) | (simp at *; omega)))).mono ?_; rintro _ W6 ⟨bv, rfl, hb6, hrows⟩))
  have s6 := hb6.size
  have hBW6 : Below w.heap.size w W6 := hBW5.trans (hb6.mono hBW5.size)
  have hlim6 : LimAt W6 := hlim5.on hb6
  replace g0 := (hb6.cell (p := ⟨g, 0, none⟩) lg5).trans g0
  replace g1 := (hb6.cell (p := ⟨g, 1, none⟩) lg5).trans g1
  replace g2 := (hb6.cell (p := ⟨g, 2, none⟩) lg5).trans g2
  replace g3 := (hb6.cell (p := ⟨g, 3, none⟩) lg5).trans g3
  replace g4 := (hb6.cell (p := ⟨g, 4, none⟩) lg5).trans g4
  replace g5 := (hb6.cell (p := ⟨g, 5, none⟩) lg5).trans g5
  replace g6 := (hb6.cell (p := ⟨g, 6, none⟩) lg5).trans g6
  replace g7 := (hb6.cell (p := ⟨g, 7, none⟩) lg5).trans g7
  have cen6 := fun (W : World) (y : Below W6.heap.size W6 W) => cen W (hb6.trans (y.mono s6))
  obtain ⟨q, cb, rfl, hv3⟩ := v3_of hrows
  rw [hbl] at hv3 ⊢
  have lg6 : g < W6.heap.size := by omega
  have hBWs := hBW6.size
  simp only [List.length_cons, List.length_nil, Nat.zero_add]
  clear cen cbl c0 c1 c2 c3 c4 c5 c6 c7 c8 c9 c10 d0 d1 d2 d3 hrows hbl hlen
  have hlim := hlim6
  go_upto_region 7 with (first | ((first | with_reducible refine wp_region_ext2 (by kernel_rfl) (by kernel_rfl) ?_ | with_reducible refine wp_region_ext (by kernel_rfl) (by kernel_rfl) ?_); (repeat (first | go_big_quiet_step ((first | (go_at_call 26; with_reducible exact Calls.ext (cen6 _ (by repeat' (first | (with_reducible exact Below.refl _ _) | (with_reducible assumption) | (with_reducible refine Ext.below _ ?_ ?_) | (with_reducible refine Below.on ?_ (by with_reducible assumption) ?_) | (with_reducible refine Below.alloc ?_ ?_ _) | (with_reducible refine Below.drew ?_) | (with_reducible refine Below.setCell ?_ ?_ _) | (with_reducible exact Nat.le_refl _) | omega | (simp; done) | (simp [go_sem]; done) | (simp at *; omega))))))) | quiet_step ((first | (go_at_call 26; with_reducible exact Calls.ext (cen6 _ (by repeat' (first | (with_reducible exact Below.refl _ _) | (with_reducible assumption) | (with_reducible refine Ext.below _ ?_ ?_) | (with_reducible refine Below.on ?_ (by with_reducible assumption) ?_) | (with_reducible refine Below.alloc ?_ ?_ _) | (with_reducible refine Below.drew ?_) | (with_reducible refine Below.setCell ?_ ?_ _) | (with_reducible exact Nat.le_refl _) | omega | (simp; done) | (simp [go_sem]; done) | (simp at *; omega))))))))); refine wpQuiet_nil ?_; rintro _ ⟨yr, rfl⟩; have syr := Ext.size yr; (repeat (first | rw [World.size_alloc] at syr | rw [World.size_setCell] at syr | rw [World.size_drew] at syr)); have : g < yr.now.heap.size := (by omega); have : g ≤ yr.now.heap.size := (by omega); have : g < yr.now.heap.size + 1 + 1 := (by omega)) | (go_at_call 26; (first | with_reducible refine (Calls.giv2 (cen6 _ (by repeat' (first | (with_reducible exact Below.refl _ _) | (with_reducible assumption) | (with_reducible refine Ext.below _ ?_ ?_) | (with_reducible refine Below.on ?_ (by with_reducible assumption) ?_) | (with_reducible refine Below.alloc ?_ ?_ _) | (with_reducible refine Below.drew ?_) | (with_reducible refine Below.setCell ?_ ?_ _) | (with_reducible exact Nat.le_refl _) | omega | (simp; done) | (simp [go_sem]; done) | (simp at *; omega))))).mono ?_ | with_reducible refine (Calls.giv (cen6 _ (by repeat' (first | (with_reducible exact Below.refl _ _) | (with_reducible assumption) | (with_reducible refine Ext.below _ ?_ ?_) | (with_reducible refine Below.on ?_ (by with_reducible assumption) ?_) | (with_reducible refine Below.alloc ?_ ?_ _) | (with_reducible refine Below.drew ?_) | (with_reducible refine Below.setCell ?_ ?_ _) | (with_reducible exact Nat.le_refl _) | omega | (simp; done) | (simp [go_sem]; done) | (simp at *; omega))))).mono ?_); rintro _ _ ⟨y1, rfl, rfl⟩; have sy1 := Ext.size y1; (repeat (first | rw [World.size_alloc] at sy1 | rw [World.size_setCell] at sy1 | rw [World.size_drew] at sy1)); have : g < y1.now.heap.size := (by omega); have : g ≤ y1.now.heap.size := (by omega); have : g < y1.now.heap.size + 1 + 1 := (by omega)))
  have csb := fun (NB : Nat) (W : World) (h1 : V3At W q [⟨n, E, E⟩]) (h2 : V3At W (some ⟨NB, 0, none⟩) [⟨n, E, E⟩]) => SameBlows_eq q (some ⟨NB, 0, none⟩) cb 1 [⟨n, E, E⟩] W h1 h2 (by simp)
  simp only [List.length_cons, List.length_nil, Nat.zero_add] at csb
  replace hv3 := Go.Lib.hid hv3
  have cof := fun W => of_any E E W
  clear g0 g1 g2 g3 g4 g5 g6 g7 cen6
  go_wp2_with (first | ((first | with_reducible refine wp_region_ext2 (by kernel_rfl) (by kernel_rfl) ?_ | with_reducible refine wp_region_ext (by kernel_rfl) (by kernel_rfl) ?_); (repeat (first | go_big_quiet_step ((first | (go_at_call 28; with_reducible exact Calls.ext (cof _)) | (go_at_call 7; with_reducible exact Calls.ext (ca _ (by repeat (first | exact hlim | (with_reducible refine LimAt.ext ?_ _) | (with_reducible refine LimAt.alloc ?_ _) | (with_reducible refine LimAt.drew ?_) | (with_reducible refine LimAt.rext ?_ (by omega) _) | (with_reducible refine LimAt.set ?_ (by omega) _))))))) | quiet_step ((first | (go_at_call 28; with_reducible exact Calls.ext (cof _)) | (go_at_call 7; with_reducible exact Calls.ext (ca _ (by repeat (first | exact hlim | (with_reducible refine LimAt.ext ?_ _) | (with_reducible refine LimAt.alloc ?_ _) | (with_reducible refine LimAt.drew ?_) | (with_reducible refine LimAt.rext ?_ (by omega) _) | (with_reducible refine LimAt.set ?_ (by omega) _))))))))); refine wpQuiet_nil ?_; rintro _ ⟨yr, rfl⟩; have syr := Ext.size yr; (repeat (first | rw [World.size_alloc] at syr | rw [World.size_setCell] at syr | rw [World.size_drew] at syr))) | (go_at_call 28; (first | with_reducible refine (Calls.giv2 (cof _)).mono ?_ | with_reducible refine (Calls.giv (cof _)).mono ?_); rintro _ _ ⟨y1, rfl, rfl⟩; have sy1 := Ext.size y1; (repeat (first | rw [World.size_alloc] at sy1 | rw [World.size_setCell] at sy1 | rw [World.size_drew] at sy1))) | (go_at_call 7; (first | with_reducible refine (Calls.giv2 (ca _ (by repeat (first | exact hlim | (with_reducible refine LimAt.ext ?_ _) | (with_reducible refine LimAt.alloc ?_ _) | (with_reducible refine LimAt.drew ?_) | (with_reducible refine LimAt.rext ?_ (by omega) _) | (with_reducible refine LimAt.set ?_ (by omega) _))))).mono ?_ | with_reducible refine (Calls.giv (ca _ (by repeat (first | exact hlim | (with_reducible refine LimAt.ext ?_ _) | (with_reducible refine LimAt.alloc ?_ _) | (with_reducible refine LimAt.drew ?_) | (with_reducible refine LimAt.rext ?_ (by omega) _) | (with_reducible refine LimAt.set ?_ (by omega) _))))).mono ?_); rintro _ _ ⟨y2, rfl, rfl⟩; have sy2 := Ext.size y2; (repeat (first | rw [World.size_alloc] at sy2 | rw [World.size_setCell] at sy2 | rw [World.size_drew] at sy2))) | (go_at_call 27; refine callsW_named (fun W8 hW8 => ?_); have h8 : Below W6.heap.size W6 W8 := (by rw [← hW8]; repeat' (first | (with_reducible exact Below.refl _ _) | (with_reducible assumption) | (with_reducible refine Ext.below _ ?_ ?_) | (with_reducible refine Below.on ?_ (by with_reducible assumption) ?_) | (with_reducible refine Below.alloc ?_ ?_ _) | (with_reducible refine Below.drew ?_) | (with_reducible refine Below.setCell ?_ ?_ _) | (with_reducible exact Nat.le_refl _) | omega | (simp; done) | (simp [go_sem]; done) | (simp at *; omega))); have l8 : y1.now.heap.size < W8.heap.size := (by rw [← hW8]; simp); have u0 : W8.cell? ⟨y1.now.heap.size, 0, none⟩ = some (.int .i64 n) := (by rw [← hW8]; simp [go_sem]); have u1 : W8.cell? ⟨y1.now.heap.size, 1, none⟩ = some (.int .i64 E) := (by rw [← hW8]; simp [go_sem]); have u2 : W8.cell? ⟨y1.now.heap.size, 2, none⟩ = some (.int .i64 E) := (by rw [← hW8]; simp [go_sem]); clear hW8; refine (csb y1.now.heap.size W8 (hv3.out.on h8) (fun j hj => by simp only [List.length_cons, List.length_nil, Nat.zero_add] at hj; obtain rfl : j = 0 := (by omega); exact ⟨_, 0, rfl, l8, u0, u1, u2⟩)).mono ?_; rintro _ W9 ⟨rfl, hb9⟩; have hlim := hlim6.on (h8.trans (hb9.mono h8.size)); have hBW9 := hBW6.trans ((h8.trans (hb9.mono h8.size)).mono hBWs)))
  go_returns
  refine ⟨rfl, ?_⟩
  have hBWs9 := hBW9.size
  repeat' (first | (with_reducible exact Below.refl _ _) | (with_reducible assumption) | (with_reducible refine Ext.below _ ?_ ?_) | (with_reducible refine Below.on ?_ (by with_reducible assumption) ?_) | (with_reducible refine Below.alloc ?_ ?_ _) | (with_reducible refine Below.drew ?_) | (with_reducible refine Below.setCell ?_ ?_ _) | (with_reducible exact Nat.le_refl _) | omega | (simp; done) | (simp [go_sem]; done) | (simp at *; omega))
end Go.Proofs.YtpiacndnjehbiaaDoor

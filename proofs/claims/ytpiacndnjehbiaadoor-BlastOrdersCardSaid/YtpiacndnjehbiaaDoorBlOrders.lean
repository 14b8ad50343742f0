/- For BlastOrders: a stronger stone ends no higher, a faster one no lower; in thicker layers, if it ends in the same one, it has no more energy. Condition: none beyond the statement's own. -/
import Derived.Test.YtpiacndnjehbiaaDoorBlOr
import Derived.Test.YtpiacndnjehbiaaDoorBlThick
import Derived.Laws.OwnMore
namespace Go.Proofs.YtpiacndnjehbiaaDoor
open Go.RowKit Go.Shelf
attribute [local go_sem] Option.isSome_some Ext.cell Ext.frozen Ext.lt Ext.le Ext.lt_add Ext.le_add Ext.ne Ext.ne' lt2 lt3 lt4 lt5 le2 le3 le4
attribute [local go_sem] RExt.cell RExt.frozen RExt.lt RExt.le RExt.lt_add RExt.le_add RExt.ne RExt.ne'
set_option maxRecDepth 100000 in
set_option maxHeartbeats 16000000 in
theorem BlastOrders_any (sp : Option Addr) (sl sc : Nat) (sz : Nat → Int) (st0 fa0 th0 : Int) (w : World) (hlim : LimAt w) (hw : ListIn w sp sl sz) (h1 : I64 st0) (h2 : I64 fa0) (h3 : I64 th0) : Calls Tryd.prog 5 #[.slice sp sl sc, .int .i64 st0, .int .i64 fa0, .int .i64 th0] w (Gives (.bool true) w) := by
  have cm1 := fun W => Mod64_any st0 68719476736 W h1 (by omega) (by omega)
  have cm2 := fun W => Mod64_any fa0 1000 W h2 (by omega) (by omega)
  have cm3 := fun W => Mod64_any th0 100 W h3 (by omega) (by omega)
  have e10 := Int.emod_nonneg st0 (b := 68719476736) (by decide)
  have e11 := Int.emod_lt_of_pos st0 (b := 68719476736) (by decide)
  have e20 := Int.emod_nonneg fa0 (b := 1000) (by decide)
  have e21 := Int.emod_lt_of_pos fa0 (b := 1000) (by decide)
  have e30 := Int.emod_nonneg th0 (b := 100) (by decide)
  have e31 := Int.emod_lt_of_pos th0 (b := 100) (by decide)
  generalize st0 % 68719476736 = st at *
  generalize fa0 % 1000 = fa at *
  generalize th0 % 100 = th at *
  have hl0 := hlim.lt
  go_enter Tryd.func5, Tryd.ntmps5
  go_upto_region 2 with (first | ((first | with_reducible refine wp_region_ext2 (by kernel_rfl) (by kernel_rfl) ?_ | with_reducible refine wp_region_ext (by kernel_rfl) (by kernel_rfl) ?_); (repeat (first | go_big_quiet_step ((first | fail)) | quiet_step ((first | fail)))); refine wpQuiet_nil ?_; rintro _ ⟨yr, rfl⟩; have syr := Ext.size yr; (repeat (first | rw [World.size_alloc] at syr | rw [World.size_setCell] at syr | rw [World.size_drew] at syr))) | (go_at_call 8; refine (NewRing_r sp sl sc sz _ hw).mono ?_; rintro _ _ ⟨y0, rfl, rfl, hs0, hr0⟩))
  have hR0 : RingM y0.now w.heap.size 0 := ⟨_, _, _, _, _, hr0, Nat.le_refl _⟩
  have hlim1 : LimAt y0.now := hlim.ext y0
  have hb0 : Below w.heap.size w y0.now := y0.grew
  generalize y0.now = W1 at *
  clear hr0 hw hlim
  have hlW1 := hR0.lt
  go_upto_region 3 with (first | ((first | with_reducible refine wp_region_ext2 (by kernel_rfl) (by kernel_rfl) ?_ | with_reducible refine wp_region_ext (by kernel_rfl) (by kernel_rfl) ?_); (repeat (first | go_big_quiet_step ((first | fail)) | quiet_step ((first | fail)))); refine wpQuiet_nil ?_; rintro _ ⟨yr, rfl⟩; have syr := Ext.size yr; (repeat (first | rw [World.size_alloc] at syr | rw [World.size_setCell] at syr | rw [World.size_drew] at syr))) | (go_at_call 9; refine (RockOf_y w.heap.size 0 _ (by omega) hR0).mono ?_; rintro _ _ ⟨y1, k, f, rfl, hok, rfl, hr1⟩; unfold RockR.val FallR.val; have sy1 := y1.size))
  obtain ⟨m0, hm0⟩ : ∃ m0, 0 + 16 = m0 := ⟨_, rfl⟩
  refine wp_named (fun Wr hW => ?_)
  have hRr : RingM Wr w.heap.size m0 := by rw [← hW, ← hm0]; exact (hr1.alloc _).alloc _
  have hBr : BelowX w.heap.size w.heap.size w Wr := by
    rw [← hW]
    have h6 := (BelowX.of hb0).trans (y1.grew.mono (by omega))
    repeat' (first | (with_reducible exact BelowX.refl _ _ _) | (with_reducible assumption) | (with_reducible refine RExt.belowX _ ?_ ?_) | (with_reducible refine Ext.belowX _ ?_ ?_) | (with_reducible refine BelowX.alloc ?_ ?_ _) | (with_reducible refine BelowX.drew ?_) | (with_reducible refine BelowX.setCell ?_ ?_ _) | (with_reducible exact Nat.le_refl _) | omega | (simp; done) | (simp [go_sem]; done) | (simp at *; omega))
  have hlr : LimAt Wr := by
    rw [← hW]
    have hlim : LimAt y1.now := hlim1.rext (by omega) y1
    exact (by repeat (first | exact hlim | (with_reducible refine LimAt.ext ?_ _) | (with_reducible refine LimAt.alloc ?_ _) | (with_reducible refine LimAt.drew ?_) | (with_reducible refine LimAt.rext ?_ (by omega) _) | (with_reducible refine LimAt.set ?_ (by omega) _)))
  have hKB : y1.now.heap.size < Wr.heap.size := by rw [← hW]; simp; omega
  have hKB1 : y1.now.heap.size + 1 < Wr.heap.size := by rw [← hW]; simp
  have hKb : y1.now.heap.size ≠ w.heap.size := by omega
  have hKb1 : y1.now.heap.size + 1 ≠ w.heap.size := by omega
  have c0 : Wr.cell? ⟨y1.now.heap.size, 0, none⟩ = some (.int .i64 k.size.x) := by rw [← hW]; simp [go_sem]
  have c1 : Wr.cell? ⟨y1.now.heap.size, 1, none⟩ = some (.int .i64 k.size.y) := by rw [← hW]; simp [go_sem]
  have c2 : Wr.cell? ⟨y1.now.heap.size, 2, none⟩ = some (.int .i64 k.dens.x) := by rw [← hW]; simp [go_sem]
  have c3 : Wr.cell? ⟨y1.now.heap.size, 3, none⟩ = some (.int .i64 k.dens.y) := by rw [← hW]; simp [go_sem]
  have c4 : Wr.cell? ⟨y1.now.heap.size, 4, none⟩ = some (.int .i64 k.strong.x) := by rw [← hW]; simp [go_sem]
  have c5 : Wr.cell? ⟨y1.now.heap.size, 5, none⟩ = some (.int .i64 k.strong.y) := by rw [← hW]; simp [go_sem]
  have c6 : Wr.cell? ⟨y1.now.heap.size, 6, none⟩ = some (.int .i64 k.spin.x) := by rw [← hW]; simp [go_sem]
  have c7 : Wr.cell? ⟨y1.now.heap.size, 7, none⟩ = some (.int .i64 k.spin.y) := by rw [← hW]; simp [go_sem]
  have c8 : Wr.cell? ⟨y1.now.heap.size, 8, none⟩ = some (.int .i64 k.shape.x) := by rw [← hW]; simp [go_sem]
  have c9 : Wr.cell? ⟨y1.now.heap.size, 9, none⟩ = some (.int .i64 k.shape.y) := by rw [← hW]; simp [go_sem]
  have c10 : Wr.cell? ⟨y1.now.heap.size, 10, none⟩ = some (.bool k.pile) := by rw [← hW]; simp [go_sem]
  have d0 : Wr.cell? ⟨y1.now.heap.size + 1, 0, none⟩ = some (.int .i64 f.speed.x) := by rw [← hW]; simp [go_sem]
  have d1 : Wr.cell? ⟨y1.now.heap.size + 1, 1, none⟩ = some (.int .i64 f.speed.y) := by rw [← hW]; simp [go_sem]
  have d2 : Wr.cell? ⟨y1.now.heap.size + 1, 2, none⟩ = some (.int .i64 f.slope.x) := by rw [← hW]; simp [go_sem]
  have d3 : Wr.cell? ⟨y1.now.heap.size + 1, 3, none⟩ = some (.int .i64 f.slope.y) := by rw [← hW]; simp [go_sem]
  clear hW hr1 hR0 hlim1 hb0
  generalize y1.now.heap.size = KB at *
  clear sy1 hs0 hlW1
  clear y1
  have hmm : m0 ≤ 16 := by omega
  clear hm0
--REGION3
  refine wp_tell (ordTold w.heap.size m0 k f) ?_ ?_
  focus
    have hbX := hRr.lt
    repeat (rename_i zz; clear zz)
    generalize m0 = m at *
    generalize w.heap.size = b at *
    refine region_dep (by kernel_rfl) ordDeps (by kernel_rfl) (ordInv b m k f) ?h0 ?hstep ?hend
    case h0 =>
      refine ⟨?z12, ?z13, ?z36, ?z37, ?z38, ?z39, ?z40, ?z41, ?fr, (BelowX.refl _ _ _).drew, (by simpa using hRr.drew), by simp, by simp, by simp, by simp, by simp, by simp, by simp, by simp, by simp, by simp⟩
      case fr =>
        simp only [sets, List.foldl_cons, List.foldl_nil, List.set_cons_succ, List.set_cons_zero]
        rfl
    case hend =>
      intro l' fr W hl hall hInv
      unfold ordInv at hInv
      obtain ⟨s12, s13, s36, s37, s38, s39, s40, s41, hInv⟩ := hInv
      obtain ⟨hfr, hB, g0, g1, g2, f0, f1, f2, f3, f4, f5, f6, f7⟩ := hInv
      subst hfr
      obtain ⟨b0, b1, b2, b3, b4, b5, b6, b7, b8, rfl⟩ := list9 hl
      simp only [List.getD_cons_zero, List.getD_cons_succ] at g0 g1 g2 f0 f1 f2 f3 f4 f5 f6 f7
      simp only [List.all_cons, id, Bool.and_eq_true] at hall
      obtain ⟨e0, e1, e2, e3, e4, e5, e6, e7, e8, -⟩ := hall
      obtain ⟨lv, ls, rfl, hlo, ho⟩ := f1 e1
      obtain ⟨g, rfl, h1, h2, -, h4⟩ := f6 e6
      obtain ⟨s, hs, e⟩ := h4 e8
      obtain rfl := f7 e7
      have hg : RingM W b (m + 34) := by simpa only [e1, e5, Bool.toNat_true] using g0
      exact ⟨rfl, g, s12, ls, s, hlo, hs, by kernel_rfl, h1, hB, hg, ho, e⟩
    case hstep =>
      intro l' fr W ii hl hInv hr hi
      unfold ordInv at hInv
      obtain ⟨s12, s13, s36, s37, s38, s39, s40, s41, hInv⟩ := hInv
      obtain ⟨hfr, hB, g0, g1, g2, f0, f1, f2, f3, f4, f5, f6, f7⟩ := hInv
      subst hfr
      obtain ⟨b0, b1, b2, b3, b4, b5, b6, b7, b8, rfl⟩ := list9 hl
      have sW := hB.size
      replace c0 := (World.cell?_of_block (a := ⟨KB, 0, none⟩) (hB.block KB hKB hKb)).trans c0
      replace c1 := (World.cell?_of_block (a := ⟨KB, 1, none⟩) (hB.block KB hKB hKb)).trans c1
      replace c2 := (World.cell?_of_block (a := ⟨KB, 2, none⟩) (hB.block KB hKB hKb)).trans c2
      replace c3 := (World.cell?_of_block (a := ⟨KB, 3, none⟩) (hB.block KB hKB hKb)).trans c3
      replace c4 := (World.cell?_of_block (a := ⟨KB, 4, none⟩) (hB.block KB hKB hKb)).trans c4
      replace c5 := (World.cell?_of_block (a := ⟨KB, 5, none⟩) (hB.block KB hKB hKb)).trans c5
      replace c6 := (World.cell?_of_block (a := ⟨KB, 6, none⟩) (hB.block KB hKB hKb)).trans c6
      replace c7 := (World.cell?_of_block (a := ⟨KB, 7, none⟩) (hB.block KB hKB hKb)).trans c7
      replace c8 := (World.cell?_of_block (a := ⟨KB, 8, none⟩) (hB.block KB hKB hKb)).trans c8
      replace c9 := (World.cell?_of_block (a := ⟨KB, 9, none⟩) (hB.block KB hKB hKb)).trans c9
      replace c10 := (World.cell?_of_block (a := ⟨KB, 10, none⟩) (hB.block KB hKB hKb)).trans c10
      replace d0 := (World.cell?_of_block (a := ⟨KB + 1, 0, none⟩) (hB.block (KB + 1) hKB1 hKb1)).trans d0
      replace d1 := (World.cell?_of_block (a := ⟨KB + 1, 1, none⟩) (hB.block (KB + 1) hKB1 hKb1)).trans d1
      replace d2 := (World.cell?_of_block (a := ⟨KB + 1, 2, none⟩) (hB.block (KB + 1) hKB1 hKb1)).trans d2
      replace d3 := (World.cell?_of_block (a := ⟨KB + 1, 3, none⟩) (hB.block (KB + 1) hKB1 hKb1)).trans d3
      have hflags : b1.toNat ≤ 1 ∧ b5.toNat ≤ 1 := ⟨Bool.toNat_le _, Bool.toNat_le _⟩
      simp only [List.getD_cons_zero, List.getD_cons_succ] at g0 g1 g2 f0 f1 f2 f3 f4 f5 f6 f7
      replace hB := Go.Lib.hid hB
      replace hi := Go.Lib.hid hi
      replace g0 := Go.Lib.hid g0
      replace g1 := Go.Lib.hid g1
      replace g2 := Go.Lib.hid g2
      replace f0 := Go.Lib.hid f0
      replace f1 := Go.Lib.hid f1
      replace f2 := Go.Lib.hid f2
      replace f3 := Go.Lib.hid f3
      replace f4 := Go.Lib.hid f4
      replace f5 := Go.Lib.hid f5
      replace f6 := Go.Lib.hid f6
      replace f7 := Go.Lib.hid f7
      rcases ii with _ | _ | _ | _ | _ | _ | _ | _ | _ | ii
      · refine wpOp_step rfl (fun K hK => ?_)
        simp only [sets, List.foldl_cons, List.foldl_nil, List.set_cons_succ, List.set_cons_zero]
        go_simp
        exact hK _ _ ⟨s12, s13, (.pointer (some ⟨b, 0, none⟩)), s37, s38, s39, s40, s41, by kernel_rfl, hB.out, g0.out, g1.out, g2.out, fun _ => rfl, f1.out, f2.out, f3.out, f4.out, f5.out, f6.out, f7.out⟩
      · simp only [ordDeps, List.getD_cons_zero, List.getD_cons_succ, List.all_cons, List.all_nil, Bool.and_true] at hr
        have hd0 := hr
        obtain rfl := f0.out hd0
        have hi := hi.out
        simp only [List.getElem?_cons_zero, List.getElem?_cons_succ, Option.some.injEq] at hi
        subst hi
        refine wpOp_step rfl (fun K hK => ?_)
        simp only [sets, List.foldl_cons, List.foldl_nil, List.set_cons_succ, List.set_cons_zero]
        go_simp
        refine (LayersOf_y b (m + (20 * false.toNat + 14 * b5.toNat)) W (by have := hflags; simp only [Bool.toNat_false] at *; omega) g0.out).mono ?_
        rintro _ W6 ⟨y, lv, ls, rfl, ho, hn, hall, rfl, hr⟩
        exact hK _ _ ⟨s12, s13, (.pointer (some ⟨b, 0, none⟩)), (lv), s38, s39, s40, s41, by kernel_rfl, hB.out.trans (y.grew.mono (by omega)), (hr.mono (by simp only [List.set_cons_succ, List.set_cons_zero, List.getD_cons_zero, List.getD_cons_succ, Bool.toNat_true, Bool.toNat_false]; omega)), (fun h => absurd (g1.out h).1 (by decide)), g2.out, f0.out, (fun _ => ⟨lv, ls, rfl, ⟨hn, hall⟩, owns_base ho (by omega)⟩), f2.out, f3.out, f4.out, f5.out, (fun h => by obtain ⟨g, e, h1, h2, h3, h4⟩ := f6.out h; exact ⟨g, e, h1, Nat.lt_of_lt_of_le h2 y.size, fun q => y.row (h3 q) h2 (by omega), fun q => by obtain ⟨s', hs', e'⟩ := h4 q; exact ⟨s', hs', y.row e' h2 (by omega)⟩⟩), (fun h => absurd (g1.out h).1 (by decide))⟩
      · refine wpOp_step rfl (fun K hK => ?_)
        simp only [sets, List.foldl_cons, List.foldl_nil, List.set_cons_succ, List.set_cons_zero]
        go_simp
        exact hK _ _ ⟨s12, s13, s36, s37, (.pointer (some ⟨b, 0, none⟩)), s39, s40, s41, by kernel_rfl, hB.out, g0.out, g1.out, g2.out, f0.out, f1.out, fun _ => rfl, f3.out, f4.out, f5.out, f6.out, f7.out⟩
      · refine wpOp_step rfl (fun K hK => ?_)
        simp only [sets, List.foldl_cons, List.foldl_nil, List.set_cons_succ, List.set_cons_zero]
        go_simp
        exact hK _ _ ⟨s12, s13, s36, s37, s38, (.agg #[.int .i64 k.size.x, .int .i64 k.size.y, .int .i64 k.dens.x, .int .i64 k.dens.y, .int .i64 k.strong.x, .int .i64 k.strong.y, .int .i64 k.spin.x, .int .i64 k.spin.y, .int .i64 k.shape.x, .int .i64 k.shape.y, .bool k.pile]), s40, s41, by kernel_rfl, hB.out, g0.out, g1.out, g2.out, f0.out, f1.out, f2.out, fun _ => rfl, f4.out, f5.out, f6.out, f7.out⟩
      · refine wpOp_step rfl (fun K hK => ?_)
        simp only [sets, List.foldl_cons, List.foldl_nil, List.set_cons_succ, List.set_cons_zero]
        go_simp
        exact hK _ _ ⟨s12, s13, s36, s37, s38, s39, (.agg #[.int .i64 f.speed.x, .int .i64 f.speed.y, .int .i64 f.slope.x, .int .i64 f.slope.y]), s41, by kernel_rfl, hB.out, g0.out, g1.out, g2.out, f0.out, f1.out, f2.out, f3.out, fun _ => rfl, f5.out, f6.out, f7.out⟩
      · simp only [ordDeps, List.getD_cons_zero, List.getD_cons_succ, List.all_cons, List.all_nil, Bool.and_true, Bool.and_eq_true] at hr
        obtain ⟨hd2, hd3, hd4, hd1⟩ := hr
        obtain rfl := f2.out hd2
        obtain rfl := f3.out hd3
        obtain rfl := f4.out hd4
        have hi := hi.out
        simp only [List.getElem?_cons_zero, List.getElem?_cons_succ, Option.some.injEq] at hi
        subst hi
        refine wpOp_step rfl (fun K hK => ?_)
        simp only [sets, List.foldl_cons, List.foldl_nil, List.set_cons_succ, List.set_cons_zero]
        go_simp
        refine (StoneOf_y b (m + (20 * b1.toNat + 14 * false.toNat)) k f W (by have := hflags; simp only [Bool.toNat_false] at *; omega) hok g0.out).mono ?_
        rintro _ W6 ⟨y, s, rfl, hin, rfl, hr⟩
        exact hK _ _ ⟨s12, s13, s36, s37, (.pointer (some ⟨b, 0, none⟩)), (.agg #[.int .i64 k.size.x, .int .i64 k.size.y, .int .i64 k.dens.x, .int .i64 k.dens.y, .int .i64 k.strong.x, .int .i64 k.strong.y, .int .i64 k.spin.x, .int .i64 k.spin.y, .int .i64 k.shape.x, .int .i64 k.shape.y, .bool k.pile]), (.agg #[.int .i64 f.speed.x, .int .i64 f.speed.y, .int .i64 f.slope.x, .int .i64 f.slope.y]), (.agg s.vals), by kernel_rfl, hB.out.trans (y.grew.mono (by omega)), (hr.mono (by simp only [List.set_cons_succ, List.set_cons_zero, List.getD_cons_zero, List.getD_cons_succ, Bool.toNat_true, Bool.toNat_false]; omega)), (fun h => absurd (g1.out h).2 (by decide)), g2.out, f0.out, (fun h => by obtain ⟨lv, ls, e, h1, ho⟩ := f1.out h; exact ⟨lv, ls, e, h1, owns_belowX ho (by omega) y.grew⟩), f2.out, f3.out, f4.out, (fun _ => ⟨s, hin, rfl⟩), (fun h => by obtain ⟨g, e, h1, h2, h3, h4⟩ := f6.out h; exact ⟨g, e, h1, Nat.lt_of_lt_of_le h2 y.size, fun q => y.row (h3 q) h2 (by omega), fun q => by obtain ⟨s', hs', e'⟩ := h4 q; exact ⟨s', hs', y.row e' h2 (by omega)⟩⟩), f7.out⟩
      · have hi := hi.out
        simp only [List.getElem?_cons_zero, List.getElem?_cons_succ, Option.some.injEq] at hi
        subst hi
        refine wpOp_step rfl (fun K hK => ?_)
        simp only [sets, List.foldl_cons, List.foldl_nil, List.set_cons_succ, List.set_cons_zero]
        go_simp
        exact hK _ _ ⟨s12, (.pointer (some ⟨W.heap.size, 0, none⟩)), s36, s37, s38, s39, s40, s41, by kernel_rfl, hB.out.alloc (by omega) _, (g0.out.alloc _), g1.out, (fun h => absurd (g2.out h) (by decide)), f0.out, (fun h => by obtain ⟨lv, ls, e, h1, ho⟩ := f1.out h; exact ⟨lv, ls, e, h1, ho.alloc _⟩), f2.out, f3.out, f4.out, f5.out, (fun _ => ⟨W.heap.size, rfl, by omega, by simp only [World.size_alloc]; omega, fun _ => heap_alloc_new _ _, fun q => by have h9 := g2.out q; cases h9⟩), f7.out⟩
      · simp only [ordDeps, List.getD_cons_zero, List.getD_cons_succ, List.all_cons, List.all_nil, Bool.and_true, Bool.and_eq_true] at hr
        obtain ⟨hd1, hd5⟩ := hr
        refine wpOp_step rfl (fun K hK => ?_)
        simp only [sets, List.foldl_cons, List.foldl_nil, List.set_cons_succ, List.set_cons_zero]
        go_simp
        exact hK _ _ ⟨(s37), s13, s36, s37, s38, s39, s40, s41, by kernel_rfl, hB.out, g0.out, (fun _ => ⟨hd1, hd5⟩), g2.out, f0.out, f1.out, f2.out, f3.out, f4.out, f5.out, f6.out, (fun _ => rfl)⟩
      · simp only [ordDeps, List.getD_cons_zero, List.getD_cons_succ, List.all_cons, List.all_nil, Bool.and_true, Bool.and_eq_true] at hr
        obtain ⟨hd6, hd5, hd7⟩ := hr
        obtain ⟨s, hs, rfl⟩ := f5.out hd5
        obtain ⟨g, rfl, h1, h2, h3, h4⟩ := f6.out hd6
        have hi := hi.out
        simp only [List.getElem?_cons_zero, List.getElem?_cons_succ, Option.some.injEq] at hi
        subst hi
        have e := h3 rfl
        refine wpOp_step rfl (fun K hK => ?_)
        simp only [sets, List.foldl_cons, List.foldl_nil, List.set_cons_succ, List.set_cons_zero]
        simp only [Region.wanted]
        refine store_op 30 (.tmp 13) (.tmp 41) rfl g s.vals (by kernel_rfl) (by kernel_rfl) 30 _ e (by kernel_rfl) rfl (by simp [StoneR.vals, Value.oneCell']) ?_
        exact hK _ _ ⟨s12, (.pointer (some ⟨g, 0, none⟩)), s36, s37, s38, s39, s40, (.agg s.vals), by kernel_rfl, belowX_row hB.out (by omega) _, (RingM.row g0.out (by omega) _), g1.out, (fun _ => hd6), f0.out, (fun h => by obtain ⟨lv, ls, e', h1', ho⟩ := f1.out h; exact ⟨lv, ls, e', h1', ho.kept (grown_setRow W g _) (.inr fun q => row_ne ho e (by decide) q.symm)⟩), f2.out, f3.out, f4.out, (fun _ => ⟨s, hs, rfl⟩), (fun _ => ⟨g, rfl, h1, by rw [size_setRow']; exact h2, (fun h => by cases h), fun _ => ⟨s, hs, setRow_heap _ _ _ _ _ _ e⟩⟩), f7.out⟩
      · have hi := hi.out; simp at hi
  rintro a4 W4 ⟨g, lv, ls, s, hlo, hin, ha4, hg1, hB4, hr4, hown, hrow⟩
  generalize a4.tmps.getD 12 undef = s12 at ha4
  generalize a4.tmps.getD 13 undef = s13 at ha4
  generalize a4.tmps.getD 36 undef = s36 at ha4
  generalize a4.tmps.getD 37 undef = s37 at ha4
  generalize a4.tmps.getD 38 undef = s38 at ha4
  generalize a4.tmps.getD 39 undef = s39 at ha4
  generalize a4.tmps.getD 40 undef = s40 at ha4
  generalize a4.tmps.getD 41 undef = s41 at ha4
  subst ha4
  simp only [sets, List.foldl_cons, List.foldl_nil, List.set_cons_succ, List.set_cons_zero]
--END3
  have sB4 := hB4.size
  have hBW : Below w.heap.size w W4 := (hBr.trans (hB4.mono hBr.size)).below (Nat.le_refl _)
  have hlim4 : LimAt W4 := hlr.rext (by omega) ⟨W4, hB4⟩
  obtain ⟨p, cc, rfl, hv, -⟩ := vecs_of hown
  have hgl : g < W4.heap.size := row_lt hrow
  obtain ⟨hs, hst, hsp⟩ := stoneIn_ok hin hok
  obtain ⟨t1ok, t2ok, ha1, ha2, o1, o2, o3, o4⟩ := orders_spec hs hst hsp hlo e10 e11 e20 e21 e30 e31
  have g0 : W4.cell? ⟨g, 0, none⟩ = some (.int .i64 s.size) := (cell_of_row W4 _ 0 _ _ _ hrow).trans rfl
  have g1 : W4.cell? ⟨g, 1, none⟩ = some (.int .i64 s.dens) := (cell_of_row W4 _ 1 _ _ _ hrow).trans rfl
  have g2 : W4.cell? ⟨g, 2, none⟩ = some (.int .i64 s.strong) := (cell_of_row W4 _ 2 _ _ _ hrow).trans rfl
  have g3 : W4.cell? ⟨g, 3, none⟩ = some (.int .i64 s.spin) := (cell_of_row W4 _ 3 _ _ _ hrow).trans rfl
  have g4 : W4.cell? ⟨g, 4, none⟩ = some (.int .i64 s.shape) := (cell_of_row W4 _ 4 _ _ _ hrow).trans rfl
  have g5 : W4.cell? ⟨g, 5, none⟩ = some (.bool s.pile) := (cell_of_row W4 _ 5 _ _ _ hrow).trans rfl
  have g6 : W4.cell? ⟨g, 6, none⟩ = some (.int .i64 s.speed) := (cell_of_row W4 _ 6 _ _ _ hrow).trans rfl
  have g7 : W4.cell? ⟨g, 7, none⟩ = some (.int .i64 s.slope) := (cell_of_row W4 _ 7 _ _ _ hrow).trans rfl
  have cE1 := fun (W : World) (h : Below W4.heap.size W4 W) (y : LimAt W) => Ends_ok p cc ls s W y (hv.on h) ha1 hs
  have cE2 := fun (W : World) (h : Below W4.heap.size W4 W) (y : LimAt W) => Ends_ok p cc ls (strongS s st) W y (hv.on h) ha1 t1ok
  have cE3 := fun (W : World) (h : Below W4.heap.size W4 W) (y : LimAt W) => Ends_ok p cc ls (fastS s fa) W y (hv.on h) ha1 t2ok
  have cE4 := fun (q : Option Addr) (c2 : Nat) (W : World) (h : VecsAt W q (ls.map (thickL th))) (y : LimAt W) => Ends_ok q c2 (ls.map (thickL th)) s W y h ha2 hs
  have ca := fun (W : World) (y : LimAt W) => blastAwake_any W y
  generalize massV s * (endOf ls s).2 = v1 at *
  generalize massV (strongS s st) * (endOf ls (strongS s st)).2 = v2 at *
  generalize massV (fastS s fa) * (endOf ls (fastS s fa)).2 = v3 at *
  generalize massV s * (endOf (ls.map (thickL th)) s).2 = v4 at *
  generalize (endOf ls s).1 = n1 at *
  generalize (endOf ls (strongS s st)).1 = n2 at *
  generalize (endOf ls (fastS s fa)).1 = n3 at *
  generalize (endOf (ls.map (thickL th)) s).1 = n4 at *
  unfold StoneR.val StoneR.vals at cE1 cE2 cE3 cE4
  unfold strongS at cE2
  unfold fastS at cE3
  rw [List.length_map] at cE4
  clear c0 c1 c2 c3 c4 c5 c6 c7 c8 c9 c10 d0 d1 d2 d3 hok hin hr4 hRr
  have hsW : w.heap.size ≤ W4.heap.size := by have := hBW.size; omega
  have hlim := hlim4
  go_upto_region 6 with (first | ((first | with_reducible refine wp_region_ext2 (by kernel_rfl) (by kernel_rfl) ?_ | with_reducible refine wp_region_ext (by kernel_rfl) (by kernel_rfl) ?_); (repeat (first | go_big_quiet_step ((first | (go_at_call 26; with_reducible exact Calls.ext (cE1 _ (by repeat' (first | (with_reducible exact Below.refl _ _) | (with_reducible assumption) | (with_reducible refine Ext.below _ ?_ ?_) | (with_reducible refine Below.on ?_ (by with_reducible assumption) ?_) | (with_reducible refine Below.alloc ?_ ?_ _) | (with_reducible refine Below.drew ?_) | (with_reducible refine Below.setCell ?_ ?_ _) | (with_reducible exact Nat.le_refl _) | omega | (simp; done) | (simp [go_sem]; done) | (simp at *; omega))) (by repeat (first | exact hlim | (with_reducible refine LimAt.ext ?_ _) | (with_reducible refine LimAt.alloc ?_ _) | (with_reducible refine LimAt.drew ?_) | (with_reducible refine LimAt.rext ?_ (by omega) _) | (with_reducible refine LimAt.set ?_ (by omega) _))))))) | quiet_step ((first | (go_at_call 26; with_reducible exact Calls.ext (cE1 _ (by repeat' (first | (with_reducible exact Below.refl _ _) | (with_reducible assumption) | (with_reducible refine Ext.below _ ?_ ?_) | (with_reducible refine Below.on ?_ (by with_reducible assumption) ?_) | (with_reducible refine Below.alloc ?_ ?_ _) | (with_reducible refine Below.drew ?_) | (with_reducible refine Below.setCell ?_ ?_ _) | (with_reducible exact Nat.le_refl _) | omega | (simp; done) | (simp [go_sem]; done) | (simp at *; omega))) (by repeat (first | exact hlim | (with_reducible refine LimAt.ext ?_ _) | (with_reducible refine LimAt.alloc ?_ _) | (with_reducible refine LimAt.drew ?_) | (with_reducible refine LimAt.rext ?_ (by omega) _) | (with_reducible refine LimAt.set ?_ (by omega) _))))))))); refine wpQuiet_nil ?_; rintro _ ⟨yr, rfl⟩; have syr := Ext.size yr; (repeat (first | rw [World.size_alloc] at syr | rw [World.size_setCell] at syr | rw [World.size_drew] at syr)); have : g < yr.now.heap.size := (by omega); have : g ≤ yr.now.heap.size := (by omega); have : g < yr.now.heap.size + 1 + 1 := (by omega)) | (go_at_call 26; (first | with_reducible refine (Calls.giv2 (cE1 _ (by repeat' (first | (with_reducible exact Below.refl _ _) | (with_reducible assumption) | (with_reducible refine Ext.below _ ?_ ?_) | (with_reducible refine Below.on ?_ (by with_reducible assumption) ?_) | (with_reducible refine Below.alloc ?_ ?_ _) | (with_reducible refine Below.drew ?_) | (with_reducible refine Below.setCell ?_ ?_ _) | (with_reducible exact Nat.le_refl _) | omega | (simp; done) | (simp [go_sem]; done) | (simp at *; omega))) (by repeat (first | exact hlim | (with_reducible refine LimAt.ext ?_ _) | (with_reducible refine LimAt.alloc ?_ _) | (with_reducible refine LimAt.drew ?_) | (with_reducible refine LimAt.rext ?_ (by omega) _) | (with_reducible refine LimAt.set ?_ (by omega) _))))).mono ?_ | with_reducible refine (Calls.giv (cE1 _ (by repeat' (first | (with_reducible exact Below.refl _ _) | (with_reducible assumption) | (with_reducible refine Ext.below _ ?_ ?_) | (with_reducible refine Below.on ?_ (by with_reducible assumption) ?_) | (with_reducible refine Below.alloc ?_ ?_ _) | (with_reducible refine Below.drew ?_) | (with_reducible refine Below.setCell ?_ ?_ _) | (with_reducible exact Nat.le_refl _) | omega | (simp; done) | (simp [go_sem]; done) | (simp at *; omega))) (by repeat (first | exact hlim | (with_reducible refine LimAt.ext ?_ _) | (with_reducible refine LimAt.alloc ?_ _) | (with_reducible refine LimAt.drew ?_) | (with_reducible refine LimAt.rext ?_ (by omega) _) | (with_reducible refine LimAt.set ?_ (by omega) _))))).mono ?_); rintro _ _ ⟨y1, rfl, rfl⟩; have sy1 := Ext.size y1; (repeat (first | rw [World.size_alloc] at sy1 | rw [World.size_setCell] at sy1 | rw [World.size_drew] at sy1)); have : g < y1.now.heap.size := (by omega); have : g ≤ y1.now.heap.size := (by omega); have : g < y1.now.heap.size + 1 + 1 := (by omega)))
  refine wp_named (fun W5 hW => ?_)
  have hB5 : Below W4.heap.size W4 W5 := by rw [← hW]; repeat' (first | (with_reducible exact Below.refl _ _) | (with_reducible assumption) | (with_reducible refine Ext.below _ ?_ ?_) | (with_reducible refine Below.on ?_ (by with_reducible assumption) ?_) | (with_reducible refine Below.alloc ?_ ?_ _) | (with_reducible refine Below.drew ?_) | (with_reducible refine Below.setCell ?_ ?_ _) | (with_reducible exact Nat.le_refl _) | omega | (simp; done) | (simp [go_sem]; done) | (simp at *; omega))
  have hlim5 : LimAt W5 := by rw [← hW]; exact (by repeat (first | exact hlim | (with_reducible refine LimAt.ext ?_ _) | (with_reducible refine LimAt.alloc ?_ _) | (with_reducible refine LimAt.drew ?_) | (with_reducible refine LimAt.rext ?_ (by omega) _) | (with_reducible refine LimAt.set ?_ (by omega) _)))
  have q0 : W5.cell? ⟨y1.now.heap.size, 0, none⟩ = some (.int .i64 s.size) := by rw [← hW]; simp [go_sem]
  have q1 : W5.cell? ⟨y1.now.heap.size, 1, none⟩ = some (.int .i64 s.dens) := by rw [← hW]; simp [go_sem]
  have q2 : W5.cell? ⟨y1.now.heap.size, 2, none⟩ = some (.int .i64 s.strong) := by rw [← hW]; simp [go_sem]
  have q3 : W5.cell? ⟨y1.now.heap.size, 3, none⟩ = some (.int .i64 s.spin) := by rw [← hW]; simp [go_sem]
  have q4 : W5.cell? ⟨y1.now.heap.size, 4, none⟩ = some (.int .i64 s.shape) := by rw [← hW]; simp [go_sem]
  have q5 : W5.cell? ⟨y1.now.heap.size, 5, none⟩ = some (.bool s.pile) := by rw [← hW]; simp [go_sem]
  have q6 : W5.cell? ⟨y1.now.heap.size, 6, none⟩ = some (.int .i64 s.speed) := by rw [← hW]; simp [go_sem]
  have q7 : W5.cell? ⟨y1.now.heap.size, 7, none⟩ = some (.int .i64 s.slope) := by rw [← hW]; simp [go_sem]
  have f0 : W5.frozen? ⟨y1.now.heap.size, 0, none⟩ = false := by rw [← hW]; simp [go_sem]
  have f1 : W5.frozen? ⟨y1.now.heap.size, 1, none⟩ = false := by rw [← hW]; simp [go_sem]
  have f2 : W5.frozen? ⟨y1.now.heap.size, 2, none⟩ = false := by rw [← hW]; simp [go_sem]
  have f3 : W5.frozen? ⟨y1.now.heap.size, 3, none⟩ = false := by rw [← hW]; simp [go_sem]
  have f4 : W5.frozen? ⟨y1.now.heap.size, 4, none⟩ = false := by rw [← hW]; simp [go_sem]
  have f5 : W5.frozen? ⟨y1.now.heap.size, 5, none⟩ = false := by rw [← hW]; simp [go_sem]
  have f6 : W5.frozen? ⟨y1.now.heap.size, 6, none⟩ = false := by rw [← hW]; simp [go_sem]
  have f7 : W5.frozen? ⟨y1.now.heap.size, 7, none⟩ = false := by rw [← hW]; simp [go_sem]
  have hr5 : W5.heap[y1.now.heap.size]? = some (.cells #[.int .i64 s.size, .int .i64 s.dens, .int .i64 s.strong, .int .i64 s.spin, .int .i64 s.shape, .bool s.pile, .int .i64 s.speed, .int .i64 s.slope] 30 (0, 0)) := by rw [← hW]; exact heap_alloc_new _ _
  have lSB : y1.now.heap.size < W5.heap.size := by rw [← hW]; simp
  have gSB : W4.heap.size ≤ y1.now.heap.size := by omega
  clear hW
  generalize y1.now.heap.size = SB at *
  replace hlim := hlim5
  have w1 : wrap64 (s.strong + st) = s.strong + st := IntWalk.wrap64_in _ (by have := hs.strong; omega)
  have w2 : wrap64 (s.speed + fa) = s.speed + fa := IntWalk.wrap64_in _ (by have := hs.speed; omega)
  have s5 := hB5.size
  have gW5 : g < W5.heap.size := by omega
  replace g0 := (hB5.cell (p := ⟨g, 0, none⟩) hgl).trans g0
  replace g1 := (hB5.cell (p := ⟨g, 1, none⟩) hgl).trans g1
  replace g2 := (hB5.cell (p := ⟨g, 2, none⟩) hgl).trans g2
  replace g3 := (hB5.cell (p := ⟨g, 3, none⟩) hgl).trans g3
  replace g4 := (hB5.cell (p := ⟨g, 4, none⟩) hgl).trans g4
  replace g5 := (hB5.cell (p := ⟨g, 5, none⟩) hgl).trans g5
  replace g6 := (hB5.cell (p := ⟨g, 6, none⟩) hgl).trans g6
  replace g7 := (hB5.cell (p := ⟨g, 7, none⟩) hgl).trans g7
  have nSB : g ≠ SB := by omega
  have nSB' : SB ≠ g := by omega
  (first | with_reducible refine wp_region_ext2_heads 6 (by kernel_rfl) (by kernel_rfl) ?_ | with_reducible refine wp_region_ext_heads 6 (by kernel_rfl) (by kernel_rfl) ?_); simp only [List.take_succ_cons, List.take_zero, List.length_cons, List.length_nil, Nat.reduceAdd, Nat.reduceSub]; (repeat (first | go_big_quiet_step ((first | (go_at_call 29; with_reducible exact Calls.ext (cm1 _)))) | quiet_step ((first | (go_at_call 29; with_reducible exact Calls.ext (cm1 _)))))); refine wpQuiet_nil ?_; rintro _ ⟨yr, rfl⟩; have syr := Ext.size yr; (repeat (first | rw [World.size_alloc] at syr | rw [World.size_setCell] at syr | rw [World.size_drew] at syr)); (refine wpAny_ready (rs := [6]) (by kernel_rfl) (by simp) ?_; refine AllReady.cons rfl (fun K hK => ?_) AllReady.nil; go_simp; refine hK _ _ ?_; clear hK K); refine wpAny_done (by kernel_rfl) ?_ _
  have gW6 : g < yr.now.heap.size := by omega
  go_upto_region 8 with (first | ((first | with_reducible refine wp_region_ext2 (by kernel_rfl) (by kernel_rfl) ?_ | with_reducible refine wp_region_ext (by kernel_rfl) (by kernel_rfl) ?_); (repeat (first | go_big_quiet_step ((first | (go_at_call 26; with_reducible exact Calls.ext (cE2 _ (by repeat' (first | (with_reducible exact Below.refl _ _) | (with_reducible assumption) | (with_reducible refine Ext.below _ ?_ ?_) | (with_reducible refine Below.on ?_ (by with_reducible assumption) ?_) | (with_reducible refine Below.alloc ?_ ?_ _) | (with_reducible refine Below.drew ?_) | (with_reducible refine Below.setCell ?_ ?_ _) | (with_reducible exact Nat.le_refl _) | omega | (simp; done) | (simp [go_sem]; done) | (simp at *; omega))) (by repeat (first | exact hlim | (with_reducible refine LimAt.ext ?_ _) | (with_reducible refine LimAt.alloc ?_ _) | (with_reducible refine LimAt.drew ?_) | (with_reducible refine LimAt.rext ?_ (by omega) _) | (with_reducible refine LimAt.set ?_ (by omega) _))))))) | quiet_step ((first | (go_at_call 26; with_reducible exact Calls.ext (cE2 _ (by repeat' (first | (with_reducible exact Below.refl _ _) | (with_reducible assumption) | (with_reducible refine Ext.below _ ?_ ?_) | (with_reducible refine Below.on ?_ (by with_reducible assumption) ?_) | (with_reducible refine Below.alloc ?_ ?_ _) | (with_reducible refine Below.drew ?_) | (with_reducible refine Below.setCell ?_ ?_ _) | (with_reducible exact Nat.le_refl _) | omega | (simp; done) | (simp [go_sem]; done) | (simp at *; omega))) (by repeat (first | exact hlim | (with_reducible refine LimAt.ext ?_ _) | (with_reducible refine LimAt.alloc ?_ _) | (with_reducible refine LimAt.drew ?_) | (with_reducible refine LimAt.rext ?_ (by omega) _) | (with_reducible refine LimAt.set ?_ (by omega) _))))))))); refine wpQuiet_nil ?_; rintro _ ⟨yr, rfl⟩; have syr := Ext.size yr; (repeat (first | rw [World.size_alloc] at syr | rw [World.size_setCell] at syr | rw [World.size_drew] at syr)); have : g < yr.now.heap.size := (by omega); have : g ≤ yr.now.heap.size := (by omega); have : g < yr.now.heap.size + 1 + 1 := (by omega); have : SB < yr.now.heap.size := (by omega); have : SB ≤ yr.now.heap.size := (by omega); have : SB < yr.now.heap.size + 1 + 1 := (by omega)) | (go_at_call 26; (first | with_reducible refine (Calls.giv2 (cE2 _ (by repeat' (first | (with_reducible exact Below.refl _ _) | (with_reducible assumption) | (with_reducible refine Ext.below _ ?_ ?_) | (with_reducible refine Below.on ?_ (by with_reducible assumption) ?_) | (with_reducible refine Below.alloc ?_ ?_ _) | (with_reducible refine Below.drew ?_) | (with_reducible refine Below.setCell ?_ ?_ _) | (with_reducible exact Nat.le_refl _) | omega | (simp; done) | (simp [go_sem]; done) | (simp at *; omega))) (by repeat (first | exact hlim | (with_reducible refine LimAt.ext ?_ _) | (with_reducible refine LimAt.alloc ?_ _) | (with_reducible refine LimAt.drew ?_) | (with_reducible refine LimAt.rext ?_ (by omega) _) | (with_reducible refine LimAt.set ?_ (by omega) _))))).mono ?_ | with_reducible refine (Calls.giv (cE2 _ (by repeat' (first | (with_reducible exact Below.refl _ _) | (with_reducible assumption) | (with_reducible refine Ext.below _ ?_ ?_) | (with_reducible refine Below.on ?_ (by with_reducible assumption) ?_) | (with_reducible refine Below.alloc ?_ ?_ _) | (with_reducible refine Below.drew ?_) | (with_reducible refine Below.setCell ?_ ?_ _) | (with_reducible exact Nat.le_refl _) | omega | (simp; done) | (simp [go_sem]; done) | (simp at *; omega))) (by repeat (first | exact hlim | (with_reducible refine LimAt.ext ?_ _) | (with_reducible refine LimAt.alloc ?_ _) | (with_reducible refine LimAt.drew ?_) | (with_reducible refine LimAt.rext ?_ (by omega) _) | (with_reducible refine LimAt.set ?_ (by omega) _))))).mono ?_); rintro _ _ ⟨y1, rfl, rfl⟩; have sy1 := Ext.size y1; (repeat (first | rw [World.size_alloc] at sy1 | rw [World.size_setCell] at sy1 | rw [World.size_drew] at sy1)); have : g < y1.now.heap.size := (by omega); have : g ≤ y1.now.heap.size := (by omega); have : g < y1.now.heap.size + 1 + 1 := (by omega); have : SB < y1.now.heap.size := (by omega); have : SB ≤ y1.now.heap.size := (by omega); have : SB < y1.now.heap.size + 1 + 1 := (by omega)))
  have l6 : SB < y1.now.heap.size := by omega
  refine wp_named (fun W7 hW => ?_)
  have hB7 : Below W4.heap.size W4 W7 := by rw [← hW]; repeat' (first | (with_reducible exact Below.refl _ _) | (with_reducible assumption) | (with_reducible refine Ext.below _ ?_ ?_) | (with_reducible refine Below.on ?_ (by with_reducible assumption) ?_) | (with_reducible refine Below.alloc ?_ ?_ _) | (with_reducible refine Below.drew ?_) | (with_reducible refine Below.setCell ?_ ?_ _) | (with_reducible exact Nat.le_refl _) | omega | (simp; done) | (simp [go_sem]; done) | (simp at *; omega))
  have hlim7 : LimAt W7 := by rw [← hW]; exact (by repeat (first | exact hlim | (with_reducible refine LimAt.ext ?_ _) | (with_reducible refine LimAt.alloc ?_ _) | (with_reducible refine LimAt.drew ?_) | (with_reducible refine LimAt.rext ?_ (by omega) _) | (with_reducible refine LimAt.set ?_ (by omega) _)))
  obtain ⟨cs7, hz7, hr7⟩ : ∃ cs7 : Array Value, cs7.size = 8 ∧ W7.heap[SB]? = some (.cells cs7 30 (0, 0)) := ⟨(#[.int .i64 s.size, .int .i64 s.dens, .int .i64 s.strong, .int .i64 s.spin, .int .i64 s.shape, .bool s.pile, .int .i64 s.speed, .int .i64 s.slope] : Array Value).setIfInBounds 2 (.int .i64 (s.strong + st)), by rw [Array.size_setIfInBounds]; rfl, by rw [← hW]; exact (y1.grew.block SB (by simp; omega)).trans (heap_setCell ((yr.grew.block SB lSB).trans hr5) _)⟩
  have hx : ∀ o, W7.cell? ⟨SB, o, none⟩ = if o = 2 then some (.int .i64 (s.strong + st)) else W5.cell? ⟨SB, o, none⟩ := fun o => by
    rw [← hW, y1.cell (by simp; omega)]
    by_cases ho : o = 2
    · subst ho; simp [go_sem, yr.cell lSB, q2]
    · simp [go_sem, ho, yr.cell lSB]
  have hxf : ∀ o, W7.frozen? ⟨SB, o, none⟩ = W5.frozen? ⟨SB, o, none⟩ := fun o => by
    rw [← hW, y1.frozen (by simp; omega)]; simp [go_sem, yr.frozen lSB]
  have hxg : ∀ o, W7.cell? ⟨g, o, none⟩ = W5.cell? ⟨g, o, none⟩ := fun o => by
    rw [← hW, y1.cell (by simp; omega)]; simp [go_sem, yr.cell gW5]
  have l7 : SB < W7.heap.size := by rw [← hW]; omega
  clear hW
  replace q0 := (hx 0).trans ((if_neg (by decide)).trans q0)
  replace q1 := (hx 1).trans ((if_neg (by decide)).trans q1)
  replace q2 := (hx 2).trans (if_pos rfl)
  replace q3 := (hx 3).trans ((if_neg (by decide)).trans q3)
  replace q4 := (hx 4).trans ((if_neg (by decide)).trans q4)
  replace q5 := (hx 5).trans ((if_neg (by decide)).trans q5)
  replace q6 := (hx 6).trans ((if_neg (by decide)).trans q6)
  replace q7 := (hx 7).trans ((if_neg (by decide)).trans q7)
  replace f0 := (hxf 0).trans f0
  replace f1 := (hxf 1).trans f1
  replace f2 := (hxf 2).trans f2
  replace f3 := (hxf 3).trans f3
  replace f4 := (hxf 4).trans f4
  replace f5 := (hxf 5).trans f5
  replace f6 := (hxf 6).trans f6
  replace f7 := (hxf 7).trans f7
  replace g0 := (hxg 0).trans g0
  replace g1 := (hxg 1).trans g1
  replace g2 := (hxg 2).trans g2
  replace g3 := (hxg 3).trans g3
  replace g4 := (hxg 4).trans g4
  replace g5 := (hxg 5).trans g5
  replace g6 := (hxg 6).trans g6
  replace g7 := (hxg 7).trans g7
  clear hx hxf hxg
  replace hlim := hlim7
  have gW7 : g < W7.heap.size := by omega
  go_upto_region 9 with (first | ((first | with_reducible refine wp_region_ext2 (by kernel_rfl) (by kernel_rfl) ?_ | with_reducible refine wp_region_ext (by kernel_rfl) (by kernel_rfl) ?_); (repeat (first | go_big_quiet_step ((first | fail)) | quiet_step ((first | fail)))); refine wpQuiet_nil ?_; rintro _ ⟨yr, rfl⟩; have syr := Ext.size yr; (repeat (first | rw [World.size_alloc] at syr | rw [World.size_setCell] at syr | rw [World.size_drew] at syr)); have : g < yr.now.heap.size := (by omega); have : g ≤ yr.now.heap.size := (by omega); have : g < yr.now.heap.size + 1 + 1 := (by omega); have : SB < yr.now.heap.size := (by omega); have : SB ≤ yr.now.heap.size := (by omega); have : SB < yr.now.heap.size + 1 + 1 := (by omega)))
  refine wp_named (fun W9 hW => ?_)
  have e9 : set8 W7 SB (.int .i64 s.size) (.int .i64 s.dens) (.int .i64 s.strong) (.int .i64 s.spin) (.int .i64 s.shape) (.bool s.pile) (.int .i64 s.speed) (.int .i64 s.slope) = W9 := hW
  have hB9 : Below W4.heap.size W4 W9 := by rw [← e9]; exact set8_below hB7 gSB
  have hlim9 : LimAt W9 := by rw [← e9]; exact set8_lim hlim7 (by omega)
  have hr9 : W9.heap[SB]? = some (.cells #[.int .i64 s.size, .int .i64 s.dens, .int .i64 s.strong, .int .i64 s.spin, .int .i64 s.shape, .bool s.pile, .int .i64 s.speed, .int .i64 s.slope] 30 (0, 0)) := by rw [← e9]; exact set8_heap hr7 hz7
  have hxg : ∀ o, W9.cell? ⟨g, o, none⟩ = W7.cell? ⟨g, o, none⟩ := fun o => by rw [← e9]; exact World.cell?_of_block (a := ⟨g, o, none⟩) (set8_other nSB)
  have l9 : SB < W9.heap.size := row_lt hr9
  clear hW e9
  replace g0 := (hxg 0).trans g0
  replace g1 := (hxg 1).trans g1
  replace g2 := (hxg 2).trans g2
  replace g3 := (hxg 3).trans g3
  replace g4 := (hxg 4).trans g4
  replace g5 := (hxg 5).trans g5
  replace g6 := (hxg 6).trans g6
  replace g7 := (hxg 7).trans g7
  clear hxg q0 q1 q2 q3 q4 q5 q6 q7 f0 f1 f2 f3 f4 f5 f6 f7
  have q0 : W9.cell? ⟨SB, 0, none⟩ = some (.int .i64 s.size) := (cell_of_row W9 _ 0 _ _ _ hr9).trans rfl
  have q1 : W9.cell? ⟨SB, 1, none⟩ = some (.int .i64 s.dens) := (cell_of_row W9 _ 1 _ _ _ hr9).trans rfl
  have q2 : W9.cell? ⟨SB, 2, none⟩ = some (.int .i64 s.strong) := (cell_of_row W9 _ 2 _ _ _ hr9).trans rfl
  have q3 : W9.cell? ⟨SB, 3, none⟩ = some (.int .i64 s.spin) := (cell_of_row W9 _ 3 _ _ _ hr9).trans rfl
  have q4 : W9.cell? ⟨SB, 4, none⟩ = some (.int .i64 s.shape) := (cell_of_row W9 _ 4 _ _ _ hr9).trans rfl
  have q5 : W9.cell? ⟨SB, 5, none⟩ = some (.bool s.pile) := (cell_of_row W9 _ 5 _ _ _ hr9).trans rfl
  have q6 : W9.cell? ⟨SB, 6, none⟩ = some (.int .i64 s.speed) := (cell_of_row W9 _ 6 _ _ _ hr9).trans rfl
  have q7 : W9.cell? ⟨SB, 7, none⟩ = some (.int .i64 s.slope) := (cell_of_row W9 _ 7 _ _ _ hr9).trans rfl
  have f6 : W9.frozen? ⟨SB, 6, none⟩ = false := frozen_row hr9
  replace hlim := hlim9
  have s9 := hB9.size
  have gW9 : g < W9.heap.size := by omega
  (first | with_reducible refine wp_region_ext2_heads 6 (by kernel_rfl) (by kernel_rfl) ?_ | with_reducible refine wp_region_ext_heads 6 (by kernel_rfl) (by kernel_rfl) ?_); simp only [List.take_succ_cons, List.take_zero, List.length_cons, List.length_nil, Nat.reduceAdd, Nat.reduceSub]; (repeat (first | go_big_quiet_step ((first | (go_at_call 29; with_reducible exact Calls.ext (cm2 _)))) | quiet_step ((first | (go_at_call 29; with_reducible exact Calls.ext (cm2 _)))))); refine wpQuiet_nil ?_; rintro _ ⟨yr, rfl⟩; have syr := Ext.size yr; (repeat (first | rw [World.size_alloc] at syr | rw [World.size_setCell] at syr | rw [World.size_drew] at syr)); (refine wpAny_ready (rs := [6]) (by kernel_rfl) (by simp) ?_; refine AllReady.cons rfl (fun K hK => ?_) AllReady.nil; go_simp; refine hK _ _ ?_; clear hK K); refine wpAny_done (by kernel_rfl) ?_ _
  have gW10 : g < yr.now.heap.size := by omega
  have l10 : SB < yr.now.heap.size := by omega
  go_upto_region 11 with (first | ((first | with_reducible refine wp_region_ext2 (by kernel_rfl) (by kernel_rfl) ?_ | with_reducible refine wp_region_ext (by kernel_rfl) (by kernel_rfl) ?_); (repeat (first | go_big_quiet_step ((first | (go_at_call 26; with_reducible exact Calls.ext (cE3 _ (by repeat' (first | (with_reducible exact Below.refl _ _) | (with_reducible assumption) | (with_reducible refine Ext.below _ ?_ ?_) | (with_reducible refine Below.on ?_ (by with_reducible assumption) ?_) | (with_reducible refine Below.alloc ?_ ?_ _) | (with_reducible refine Below.drew ?_) | (with_reducible refine Below.setCell ?_ ?_ _) | (with_reducible exact Nat.le_refl _) | omega | (simp; done) | (simp [go_sem]; done) | (simp at *; omega))) (by repeat (first | exact hlim | (with_reducible refine LimAt.ext ?_ _) | (with_reducible refine LimAt.alloc ?_ _) | (with_reducible refine LimAt.drew ?_) | (with_reducible refine LimAt.rext ?_ (by omega) _) | (with_reducible refine LimAt.set ?_ (by omega) _))))))) | quiet_step ((first | (go_at_call 26; with_reducible exact Calls.ext (cE3 _ (by repeat' (first | (with_reducible exact Below.refl _ _) | (with_reducible assumption) | (with_reducible refine Ext.below _ ?_ ?_) | (with_reducible refine Below.on ?_ (by with_reducible assumption) ?_) | (with_reducible refine Below.alloc ?_ ?_ _) | (with_reducible refine Below.drew ?_) | (with_reducible refine Below.setCell ?_ ?_ _) | (with_reducible exact Nat.le_refl _) | omega | (simp; done) | (simp [go_sem]; done) | (simp at *; omega))) (by repeat (first | exact hlim | (with_reducible refine LimAt.ext ?_ _) | (with_reducible refine LimAt.alloc ?_ _) | (with_reducible refine LimAt.drew ?_) | (with_reducible refine LimAt.rext ?_ (by omega) _) | (with_reducible refine LimAt.set ?_ (by omega) _))))))))); refine wpQuiet_nil ?_; rintro _ ⟨yr, rfl⟩; have syr := Ext.size yr; (repeat (first | rw [World.size_alloc] at syr | rw [World.size_setCell] at syr | rw [World.size_drew] at syr)); have : g < yr.now.heap.size := (by omega); have : g ≤ yr.now.heap.size := (by omega); have : g < yr.now.heap.size + 1 + 1 := (by omega); have : SB < yr.now.heap.size := (by omega); have : SB ≤ yr.now.heap.size := (by omega); have : SB < yr.now.heap.size + 1 + 1 := (by omega)) | (go_at_call 26; (first | with_reducible refine (Calls.giv2 (cE3 _ (by repeat' (first | (with_reducible exact Below.refl _ _) | (with_reducible assumption) | (with_reducible refine Ext.below _ ?_ ?_) | (with_reducible refine Below.on ?_ (by with_reducible assumption) ?_) | (with_reducible refine Below.alloc ?_ ?_ _) | (with_reducible refine Below.drew ?_) | (with_reducible refine Below.setCell ?_ ?_ _) | (with_reducible exact Nat.le_refl _) | omega | (simp; done) | (simp [go_sem]; done) | (simp at *; omega))) (by repeat (first | exact hlim | (with_reducible refine LimAt.ext ?_ _) | (with_reducible refine LimAt.alloc ?_ _) | (with_reducible refine LimAt.drew ?_) | (with_reducible refine LimAt.rext ?_ (by omega) _) | (with_reducible refine LimAt.set ?_ (by omega) _))))).mono ?_ | with_reducible refine (Calls.giv (cE3 _ (by repeat' (first | (with_reducible exact Below.refl _ _) | (with_reducible assumption) | (with_reducible refine Ext.below _ ?_ ?_) | (with_reducible refine Below.on ?_ (by with_reducible assumption) ?_) | (with_reducible refine Below.alloc ?_ ?_ _) | (with_reducible refine Below.drew ?_) | (with_reducible refine Below.setCell ?_ ?_ _) | (with_reducible exact Nat.le_refl _) | omega | (simp; done) | (simp [go_sem]; done) | (simp at *; omega))) (by repeat (first | exact hlim | (with_reducible refine LimAt.ext ?_ _) | (with_reducible refine LimAt.alloc ?_ _) | (with_reducible refine LimAt.drew ?_) | (with_reducible refine LimAt.rext ?_ (by omega) _) | (with_reducible refine LimAt.set ?_ (by omega) _))))).mono ?_); rintro _ _ ⟨y1, rfl, rfl⟩; have sy1 := Ext.size y1; (repeat (first | rw [World.size_alloc] at sy1 | rw [World.size_setCell] at sy1 | rw [World.size_drew] at sy1)); have : g < y1.now.heap.size := (by omega); have : g ≤ y1.now.heap.size := (by omega); have : g < y1.now.heap.size + 1 + 1 := (by omega); have : SB < y1.now.heap.size := (by omega); have : SB ≤ y1.now.heap.size := (by omega); have : SB < y1.now.heap.size + 1 + 1 := (by omega)))
  refine wp_named (fun W11 hW => ?_)
  have hB11 : Below W4.heap.size W4 W11 := by rw [← hW]; repeat' (first | (with_reducible exact Below.refl _ _) | (with_reducible assumption) | (with_reducible refine Ext.below _ ?_ ?_) | (with_reducible refine Below.on ?_ (by with_reducible assumption) ?_) | (with_reducible refine Below.alloc ?_ ?_ _) | (with_reducible refine Below.drew ?_) | (with_reducible refine Below.setCell ?_ ?_ _) | (with_reducible exact Nat.le_refl _) | omega | (simp; done) | (simp [go_sem]; done) | (simp at *; omega))
  clear hW
  clear g0 g1 g2 g3 g4 g5 g6 g7 q0 q1 q2 q3 q4 q5 q6 q7 f6 hlim hlim5 hlim7 hlim9
  have s11 := hB11.size
  obtain ⟨i0, hi0, hz0, hz1, hz2⟩ := info_parts layer_info
  have hn6 := hlo.len
  have hp0 : 0 < ls.length → ∃ B o, p = some ⟨B, o, none⟩ := fun h => by obtain ⟨B, o, e, -⟩ := hv 0 h; exact ⟨B, o, e⟩
  have hE := World.ownsRow_lit (base := W11.heap.size) (e := 62) (size := 2) W11 #[] 0 (Nat.le_refl _) (by decide) rfl
  have hBE : Below W4.heap.size W4 (W11.alloc (.cells #[] 62)) := by repeat' (first | (with_reducible exact Below.refl _ _) | (with_reducible assumption) | (with_reducible refine Ext.below _ ?_ ?_) | (with_reducible refine Below.on ?_ (by with_reducible assumption) ?_) | (with_reducible refine Below.alloc ?_ ?_ _) | (with_reducible refine Below.drew ?_) | (with_reducible refine Below.setCell ?_ ?_ _) | (with_reducible exact Nat.le_refl _) | omega | (simp; done) | (simp [go_sem]; done) | (simp at *; omega))
  have hnews : ∀ B o, p = some ⟨B, o, none⟩ → ∀ j u, (vrows ls)[j]? = some u → (W11.alloc (.cells #[] 62)).cell? ((⟨B, o, none⟩ : Addr).add j) = some u := fun B o e => vecs_cells (e ▸ hv.on hBE)
  go_upto_region 13 with (first | ((first | with_reducible refine wp_region_ext2 (by kernel_rfl) (by kernel_rfl) ?_ | with_reducible refine wp_region_ext (by kernel_rfl) (by kernel_rfl) ?_); (repeat (first | go_big_quiet_step ((first | fail)) | quiet_step ((first | fail)))); refine wpQuiet_nil ?_; rintro _ ⟨yr, rfl⟩; have syr := Ext.size yr; (repeat (first | rw [World.size_alloc] at syr | rw [World.size_setCell] at syr | rw [World.size_drew] at syr))) | (at_builtin; go_loud (refine wpList_append_copy rfl _ _ 22 rfl W11.heap.size 62 i0 _ 2 16 Tryd.underlying22 hi0 hz0 hz1 hz2 rfl (by decide) W11.heap.size rfl hE p ls.length cc (vrows ls) rfl (vrows_length ls) hp0 hnews (vrows_one ls) (by unfold maxLen; omega) (by omega) (by simp only [World.size_alloc]; omega) ?_; intro G c' W12 hown' hge hgrow; have hB12 := below_grown hBE hE s11 (by simp only [World.size_alloc]; omega) hgrow)))
  have gG : W4.heap.size ≤ G := by omega
  clear hE hBE hnews hp0 hgrow
  have hownS : W12.ownsRow W11.heap.size 62 2 (.slice (some ⟨G, 0, none⟩) ls.length c') ls.length (vrows ls) := hown'
  clear hown'
  replace hv := Go.Lib.hid hv
  replace hown := Go.Lib.hid hown
  go_loopw [25] (fun s' W => ∃ (i : Nat) (x : Ext W4) (l : List V2), s' = .int .i64 i ∧ W = x.now ∧ x.now.ownsRow W11.heap.size 62 2 (.slice (some ⟨G, 0, none⟩) ls.length c') ls.length (vrows l) ∧ Hid (Thicker th ls l i)) (fun s' _ => ls.length - (intOf s').toNat)
  case atStart => exact ⟨0, ⟨W12, hB12⟩, ls, rfl, rfl, hownS, Go.Lib.hid (Thicker.start th ls)⟩
  case round =>
    clear hownS
    obtain ⟨i, x, l, rfl, rfl, hownT, hi⟩ := hrel
    have xs := x.size
    obtain ⟨-, -⟩ := hownT.lt G rfl
    have hGx := (hownT.lt G rfl).2
    by_cases hlt : i < ls.length
    · have hlt2 : (i : Int) < ls.length := by omega
      have hll := hi.out.len
      have k0 := (hownT.cellAt (i * 2) (by omega)).trans (vrows_at (by omega))
      have kf := hownT.frozenAt (i * 2)
      rw [hi.out.old i hlt (Nat.le_refl _)] at k0
      have hlx := hlo.all ls[i] (List.getElem_mem hlt)
      have key := Go.Lib.hid (hi.out.next hlt)
      have hset := vrows_set l i (by omega) (ls[i].x + th)
      obtain ⟨⟨t1, t2⟩, -⟩ := hlx
      replace hset := Go.Lib.hid hset
      replace hownT := Go.Lib.hid hownT
      generalize ls[i].x = tv at *
      obtain ⟨l2, hl2⟩ : ∃ l2, l.set i ⟨tv + th, (l[i]'(by omega)).y⟩ = l2 := ⟨_, rfl⟩
      rw [hl2] at hset key
      clear hl2 hi
      generalize hWx : x.now = Wx at *
      replace hWx := Go.Lib.hid hWx
      clear hrow
      go_upto_region 15 with (first | ((first | with_reducible refine wp_region_ext2 (by kernel_rfl) (by kernel_rfl) ?_ | with_reducible refine wp_region_ext (by kernel_rfl) (by kernel_rfl) ?_); (repeat (first | go_big_quiet_step ((first | fail)) | quiet_step ((first | fail)))); refine wpQuiet_nil ?_; rintro _ ⟨yr, rfl⟩; have syr := Ext.size yr; (repeat (first | rw [World.size_alloc] at syr | rw [World.size_setCell] at syr | rw [World.size_drew] at syr)); have : G < yr.now.heap.size := (by omega); have : G ≤ yr.now.heap.size := (by omega); have : G < yr.now.heap.size + 1 + 1 := (by omega)))
      (first | with_reducible refine wp_region_ext2_heads 10 (by kernel_rfl) (by kernel_rfl) ?_ | with_reducible refine wp_region_ext_heads 10 (by kernel_rfl) (by kernel_rfl) ?_); simp only [List.take_succ_cons, List.take_zero, List.length_cons, List.length_nil, Nat.reduceAdd, Nat.reduceSub]; (repeat (first | go_big_quiet_step ((first | (go_at_call 29; with_reducible exact Calls.ext (cm3 _)))) | quiet_step ((first | (go_at_call 29; with_reducible exact Calls.ext (cm3 _)))))); refine wpQuiet_nil ?_; rintro _ ⟨yr, rfl⟩; have syr := Ext.size yr; (repeat (first | rw [World.size_alloc] at syr | rw [World.size_setCell] at syr | rw [World.size_drew] at syr)); (refine wpAny_ready (rs := [10]) (by kernel_rfl) (by simp) ?_; refine AllReady.cons rfl (fun K hK => ?_) AllReady.nil; go_simp; refine hK _ _ ?_; clear hK K); refine wpAny_done (by kernel_rfl) ?_ _
      have hBx := x.grew
      rw [hWx.out] at hBx
      have hown2 := ((owns_below hownT.out yr.grew).stored (i * 2) (.int .i64 (tv + th))).1
      rw [hset.out] at hown2
      have hB20 : Below W4.heap.size W4 (yr.now.setCell ⟨G, i * 2, none⟩ (.int .i64 (tv + th))) := (hBx.trans (yr.grew.mono xs)).setCell gG _
      generalize yr.now.setCell ⟨G, i * 2, none⟩ (.int .i64 (tv + th)) = W20 at *
      go_wp2_with (first | ((first | with_reducible refine wp_region_ext2 (by kernel_rfl) (by kernel_rfl) ?_ | with_reducible refine wp_region_ext (by kernel_rfl) (by kernel_rfl) ?_); (repeat (first | go_big_quiet_step ((first | fail)) | quiet_step ((first | fail)))); refine wpQuiet_nil ?_; rintro _ ⟨yr, rfl⟩; have syr := Ext.size yr; (repeat (first | rw [World.size_alloc] at syr | rw [World.size_setCell] at syr | rw [World.size_drew] at syr))))
      exact ⟨⟨i + 1, ⟨W20, hB20⟩, l2, by simp, rfl, hown2, key⟩, by simp [intOf]; omega⟩
    · have hge : ¬ (i : Int) < ls.length := by omega
      have el := hi.out.all hlt
      have hll : ls.length = (ls.map (thickL th)).length := (List.length_map _).symm
      rw [el, hll] at hownT
      obtain ⟨p2, c2, ep, hv2, -⟩ := vecs_of hownT
      injection ep with ep1 ep2 ep3
      have hlimx : LimAt x.now := hlim4.ext x
      have hrx := (x.grew.block g hgl).trans hrow
      have hBx := x.grew
      clear hi el hll hownT hrow
      rw [← ep1] at hv2
      clear ep1 ep2 ep3
      generalize x.now = W20 at *
      have g0 : W20.cell? ⟨g, 0, none⟩ = some (.int .i64 s.size) := (cell_of_row W20 _ 0 _ _ _ hrx).trans rfl
      have g1 : W20.cell? ⟨g, 1, none⟩ = some (.int .i64 s.dens) := (cell_of_row W20 _ 1 _ _ _ hrx).trans rfl
      have g2 : W20.cell? ⟨g, 2, none⟩ = some (.int .i64 s.strong) := (cell_of_row W20 _ 2 _ _ _ hrx).trans rfl
      have g3 : W20.cell? ⟨g, 3, none⟩ = some (.int .i64 s.spin) := (cell_of_row W20 _ 3 _ _ _ hrx).trans rfl
      have g4 : W20.cell? ⟨g, 4, none⟩ = some (.int .i64 s.shape) := (cell_of_row W20 _ 4 _ _ _ hrx).trans rfl
      have g5 : W20.cell? ⟨g, 5, none⟩ = some (.bool s.pile) := (cell_of_row W20 _ 5 _ _ _ hrx).trans rfl
      have g6 : W20.cell? ⟨g, 6, none⟩ = some (.int .i64 s.speed) := (cell_of_row W20 _ 6 _ _ _ hrx).trans rfl
      have g7 : W20.cell? ⟨g, 7, none⟩ = some (.int .i64 s.slope) := (cell_of_row W20 _ 7 _ _ _ hrx).trans rfl
      have gl20 : g < W20.heap.size := row_lt hrx
      have cE5 := fun (W : World) (h : Below W20.heap.size W20 W) (y : LimAt W) => cE4 _ c' W (hv2.on h) y
      have hlim := hlimx
      have hBF : Below w.heap.size w W20 := hBW.trans (hBx.mono hsW)
      have hBFs := hBF.size
      clear hrx
      by_cases hc : n4 = n1
      · have d4 := o4 hc
        subst hc
        go_wp2_with (first | ((first | with_reducible refine wp_region_ext2 (by kernel_rfl) (by kernel_rfl) ?_ | with_reducible refine wp_region_ext (by kernel_rfl) (by kernel_rfl) ?_); (repeat (first | go_big_quiet_step ((first | (go_at_call 26; with_reducible exact Calls.ext (cE5 _ (by repeat' (first | (with_reducible exact Below.refl _ _) | (with_reducible assumption) | (with_reducible refine Ext.below _ ?_ ?_) | (with_reducible refine Below.on ?_ (by with_reducible assumption) ?_) | (with_reducible refine Below.alloc ?_ ?_ _) | (with_reducible refine Below.drew ?_) | (with_reducible refine Below.setCell ?_ ?_ _) | (with_reducible exact Nat.le_refl _) | omega | (simp; done) | (simp [go_sem]; done) | (simp at *; omega))) (by repeat (first | exact hlim | (with_reducible refine LimAt.ext ?_ _) | (with_reducible refine LimAt.alloc ?_ _) | (with_reducible refine LimAt.drew ?_) | (with_reducible refine LimAt.rext ?_ (by omega) _) | (with_reducible refine LimAt.set ?_ (by omega) _))))) | (go_at_call 7; with_reducible exact Calls.ext (ca _ (by repeat (first | exact hlim | (with_reducible refine LimAt.ext ?_ _) | (with_reducible refine LimAt.alloc ?_ _) | (with_reducible refine LimAt.drew ?_) | (with_reducible refine LimAt.rext ?_ (by omega) _) | (with_reducible refine LimAt.set ?_ (by omega) _))))))) | quiet_step ((first | (go_at_call 26; with_reducible exact Calls.ext (cE5 _ (by repeat' (first | (with_reducible exact Below.refl _ _) | (with_reducible assumption) | (with_reducible refine Ext.below _ ?_ ?_) | (with_reducible refine Below.on ?_ (by with_reducible assumption) ?_) | (with_reducible refine Below.alloc ?_ ?_ _) | (with_reducible refine Below.drew ?_) | (with_reducible refine Below.setCell ?_ ?_ _) | (with_reducible exact Nat.le_refl _) | omega | (simp; done) | (simp [go_sem]; done) | (simp at *; omega))) (by repeat (first | exact hlim | (with_reducible refine LimAt.ext ?_ _) | (with_reducible refine LimAt.alloc ?_ _) | (with_reducible refine LimAt.drew ?_) | (with_reducible refine LimAt.rext ?_ (by omega) _) | (with_reducible refine LimAt.set ?_ (by omega) _))))) | (go_at_call 7; with_reducible exact Calls.ext (ca _ (by repeat (first | exact hlim | (with_reducible refine LimAt.ext ?_ _) | (with_reducible refine LimAt.alloc ?_ _) | (with_reducible refine LimAt.drew ?_) | (with_reducible refine LimAt.rext ?_ (by omega) _) | (with_reducible refine LimAt.set ?_ (by omega) _))))))))); refine wpQuiet_nil ?_; rintro _ ⟨yr, rfl⟩; have syr := Ext.size yr; (repeat (first | rw [World.size_alloc] at syr | rw [World.size_setCell] at syr | rw [World.size_drew] at syr)); have : g < yr.now.heap.size := (by omega); have : g ≤ yr.now.heap.size := (by omega); have : g < yr.now.heap.size + 1 + 1 := (by omega)) | (go_at_call 26; (first | with_reducible refine (Calls.giv2 (cE5 _ (by repeat' (first | (with_reducible exact Below.refl _ _) | (with_reducible assumption) | (with_reducible refine Ext.below _ ?_ ?_) | (with_reducible refine Below.on ?_ (by with_reducible assumption) ?_) | (with_reducible refine Below.alloc ?_ ?_ _) | (with_reducible refine Below.drew ?_) | (with_reducible refine Below.setCell ?_ ?_ _) | (with_reducible exact Nat.le_refl _) | omega | (simp; done) | (simp [go_sem]; done) | (simp at *; omega))) (by repeat (first | exact hlim | (with_reducible refine LimAt.ext ?_ _) | (with_reducible refine LimAt.alloc ?_ _) | (with_reducible refine LimAt.drew ?_) | (with_reducible refine LimAt.rext ?_ (by omega) _) | (with_reducible refine LimAt.set ?_ (by omega) _))))).mono ?_ | with_reducible refine (Calls.giv (cE5 _ (by repeat' (first | (with_reducible exact Below.refl _ _) | (with_reducible assumption) | (with_reducible refine Ext.below _ ?_ ?_) | (with_reducible refine Below.on ?_ (by with_reducible assumption) ?_) | (with_reducible refine Below.alloc ?_ ?_ _) | (with_reducible refine Below.drew ?_) | (with_reducible refine Below.setCell ?_ ?_ _) | (with_reducible exact Nat.le_refl _) | omega | (simp; done) | (simp [go_sem]; done) | (simp at *; omega))) (by repeat (first | exact hlim | (with_reducible refine LimAt.ext ?_ _) | (with_reducible refine LimAt.alloc ?_ _) | (with_reducible refine LimAt.drew ?_) | (with_reducible refine LimAt.rext ?_ (by omega) _) | (with_reducible refine LimAt.set ?_ (by omega) _))))).mono ?_); rintro _ _ ⟨y1, rfl, rfl⟩; have sy1 := Ext.size y1; (repeat (first | rw [World.size_alloc] at sy1 | rw [World.size_setCell] at sy1 | rw [World.size_drew] at sy1)); have : g < y1.now.heap.size := (by omega); have : g ≤ y1.now.heap.size := (by omega); have : g < y1.now.heap.size + 1 + 1 := (by omega)) | (go_at_call 7; (first | with_reducible refine (Calls.giv2 (ca _ (by repeat (first | exact hlim | (with_reducible refine LimAt.ext ?_ _) | (with_reducible refine LimAt.alloc ?_ _) | (with_reducible refine LimAt.drew ?_) | (with_reducible refine LimAt.rext ?_ (by omega) _) | (with_reducible refine LimAt.set ?_ (by omega) _))))).mono ?_ | with_reducible refine (Calls.giv (ca _ (by repeat (first | exact hlim | (with_reducible refine LimAt.ext ?_ _) | (with_reducible refine LimAt.alloc ?_ _) | (with_reducible refine LimAt.drew ?_) | (with_reducible refine LimAt.rext ?_ (by omega) _) | (with_reducible refine LimAt.set ?_ (by omega) _))))).mono ?_); rintro _ _ ⟨y2, rfl, rfl⟩; have sy2 := Ext.size y2; (repeat (first | rw [World.size_alloc] at sy2 | rw [World.size_setCell] at sy2 | rw [World.size_drew] at sy2)); have : g < y2.now.heap.size := (by omega); have : g ≤ y2.now.heap.size := (by omega); have : g < y2.now.heap.size + 1 + 1 := (by omega)))
        go_returns
        refine ⟨rfl, ?_⟩
        repeat' (first | (with_reducible exact Below.refl _ _) | (with_reducible assumption) | (with_reducible refine Ext.below _ ?_ ?_) | (with_reducible refine Below.on ?_ (by with_reducible assumption) ?_) | (with_reducible refine Below.alloc ?_ ?_ _) | (with_reducible refine Below.drew ?_) | (with_reducible refine Below.setCell ?_ ?_ _) | (with_reducible exact Nat.le_refl _) | omega | (simp; done) | (simp [go_sem]; done) | (simp at *; omega))
      · have hc2 : (n4 == n1) = false := by rw [beq_eq_false_iff_ne]; exact hc
        go_wp2_with (first | ((first | with_reducible refine wp_region_ext2 (by kernel_rfl) (by kernel_rfl) ?_ | with_reducible refine wp_region_ext (by kernel_rfl) (by kernel_rfl) ?_); (repeat (first | go_big_quiet_step ((first | (go_at_call 26; with_reducible exact Calls.ext (cE5 _ (by repeat' (first | (with_reducible exact Below.refl _ _) | (with_reducible assumption) | (with_reducible refine Ext.below _ ?_ ?_) | (with_reducible refine Below.on ?_ (by with_reducible assumption) ?_) | (with_reducible refine Below.alloc ?_ ?_ _) | (with_reducible refine Below.drew ?_) | (with_reducible refine Below.setCell ?_ ?_ _) | (with_reducible exact Nat.le_refl _) | omega | (simp; done) | (simp [go_sem]; done) | (simp at *; omega))) (by repeat (first | exact hlim | (with_reducible refine LimAt.ext ?_ _) | (with_reducible refine LimAt.alloc ?_ _) | (with_reducible refine LimAt.drew ?_) | (with_reducible refine LimAt.rext ?_ (by omega) _) | (with_reducible refine LimAt.set ?_ (by omega) _))))) | (go_at_call 7; with_reducible exact Calls.ext (ca _ (by repeat (first | exact hlim | (with_reducible refine LimAt.ext ?_ _) | (with_reducible refine LimAt.alloc ?_ _) | (with_reducible refine LimAt.drew ?_) | (with_reducible refine LimAt.rext ?_ (by omega) _) | (with_reducible refine LimAt.set ?_ (by omega) _))))))) | quiet_step ((first | (go_at_call 26; with_reducible exact Calls.ext (cE5 _ (by repeat' (first | (with_reducible exact Below.refl _ _) | (with_reducible assumption) | (with_reducible refine Ext.below _ ?_ ?_) | (with_reducible refine Below.on ?_ (by with_reducible assumption) ?_) | (with_reducible refine Below.alloc ?_ ?_ _) | (with_reducible refine Below.drew ?_) | (with_reducible refine Below.setCell ?_ ?_ _) | (with_reducible exact Nat.le_refl _) | omega | (simp; done) | (simp [go_sem]; done) | (simp at *; omega))) (by repeat (first | exact hlim | (with_reducible refine LimAt.ext ?_ _) | (with_reducible refine LimAt.alloc ?_ _) | (with_reducible refine LimAt.drew ?_) | (with_reducible refine LimAt.rext ?_ (by omega) _) | (with_reducible refine LimAt.set ?_ (by omega) _))))) | (go_at_call 7; with_reducible exact Calls.ext (ca _ (by repeat (first | exact hlim | (with_reducible refine LimAt.ext ?_ _) | (with_reducible refine LimAt.alloc ?_ _) | (with_reducible refine LimAt.drew ?_) | (with_reducible refine LimAt.rext ?_ (by omega) _) | (with_reducible refine LimAt.set ?_ (by omega) _))))))))); refine wpQuiet_nil ?_; rintro _ ⟨yr, rfl⟩; have syr := Ext.size yr; (repeat (first | rw [World.size_alloc] at syr | rw [World.size_setCell] at syr | rw [World.size_drew] at syr)); have : g < yr.now.heap.size := (by omega); have : g ≤ yr.now.heap.size := (by omega); have : g < yr.now.heap.size + 1 + 1 := (by omega)) | (go_at_call 26; (first | with_reducible refine (Calls.giv2 (cE5 _ (by repeat' (first | (with_reducible exact Below.refl _ _) | (with_reducible assumption) | (with_reducible refine Ext.below _ ?_ ?_) | (with_reducible refine Below.on ?_ (by with_reducible assumption) ?_) | (with_reducible refine Below.alloc ?_ ?_ _) | (with_reducible refine Below.drew ?_) | (with_reducible refine Below.setCell ?_ ?_ _) | (with_reducible exact Nat.le_refl _) | omega | (simp; done) | (simp [go_sem]; done) | (simp at *; omega))) (by repeat (first | exact hlim | (with_reducible refine LimAt.ext ?_ _) | (with_reducible refine LimAt.alloc ?_ _) | (with_reducible refine LimAt.drew ?_) | (with_reducible refine LimAt.rext ?_ (by omega) _) | (with_reducible refine LimAt.set ?_ (by omega) _))))).mono ?_ | with_reducible refine (Calls.giv (cE5 _ (by repeat' (first | (with_reducible exact Below.refl _ _) | (with_reducible assumption) | (with_reducible refine Ext.below _ ?_ ?_) | (with_reducible refine Below.on ?_ (by with_reducible assumption) ?_) | (with_reducible refine Below.alloc ?_ ?_ _) | (with_reducible refine Below.drew ?_) | (with_reducible refine Below.setCell ?_ ?_ _) | (with_reducible exact Nat.le_refl _) | omega | (simp; done) | (simp [go_sem]; done) | (simp at *; omega))) (by repeat (first | exact hlim | (with_reducible refine LimAt.ext ?_ _) | (with_reducible refine LimAt.alloc ?_ _) | (with_reducible refine LimAt.drew ?_) | (with_reducible refine LimAt.rext ?_ (by omega) _) | (with_reducible refine LimAt.set ?_ (by omega) _))))).mono ?_); rintro _ _ ⟨y1, rfl, rfl⟩; have sy1 := Ext.size y1; (repeat (first | rw [World.size_alloc] at sy1 | rw [World.size_setCell] at sy1 | rw [World.size_drew] at sy1)); have : g < y1.now.heap.size := (by omega); have : g ≤ y1.now.heap.size := (by omega); have : g < y1.now.heap.size + 1 + 1 := (by omega)) | (go_at_call 7; (first | with_reducible refine (Calls.giv2 (ca _ (by repeat (first | exact hlim | (with_reducible refine LimAt.ext ?_ _) | (with_reducible refine LimAt.alloc ?_ _) | (with_reducible refine LimAt.drew ?_) | (with_reducible refine LimAt.rext ?_ (by omega) _) | (with_reducible refine LimAt.set ?_ (by omega) _))))).mono ?_ | with_reducible refine (Calls.giv (ca _ (by repeat (first | exact hlim | (with_reducible refine LimAt.ext ?_ _) | (with_reducible refine LimAt.alloc ?_ _) | (with_reducible refine LimAt.drew ?_) | (with_reducible refine LimAt.rext ?_ (by omega) _) | (with_reducible refine LimAt.set ?_ (by omega) _))))).mono ?_); rintro _ _ ⟨y2, rfl, rfl⟩; have sy2 := Ext.size y2; (repeat (first | rw [World.size_alloc] at sy2 | rw [World.size_setCell] at sy2 | rw [World.size_drew] at sy2)); have : g < y2.now.heap.size := (by omega); have : g ≤ y2.now.heap.size := (by omega); have : g < y2.now.heap.size + 1 + 1 := (by omega)))
        go_returns
        refine ⟨rfl, ?_⟩
        repeat' (first | (with_reducible exact Below.refl _ _) | (with_reducible assumption) | (with_reducible refine Ext.below _ ?_ ?_) | (with_reducible refine Below.on ?_ (by with_reducible assumption) ?_) | (with_reducible refine Below.alloc ?_ ?_ _) | (with_reducible refine Below.drew ?_) | (with_reducible refine Below.setCell ?_ ?_ _) | (with_reducible exact Nat.le_refl _) | omega | (simp; done) | (simp [go_sem]; done) | (simp at *; omega))
end Go.Proofs.YtpiacndnjehbiaaDoor

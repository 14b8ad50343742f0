/- Contract of blowsOf's iterator: the blows of a rock with a fall, by their layers. Condition: valid air, two valid stones, the table of limits as it was laid. -/
import Derived.Test.YtlmhbggigbmeaaaDoorBlBwG
namespace Go.Proofs.YtlmhbggigbmeaaaDoor
open Go.RowKit Go.Shelf
attribute [local go_sem] Oper.semAt_some
attribute [local go_sem] Option.isSome_some Ext.cell Ext.frozen Ext.lt Ext.le Ext.lt_add Ext.le_add Ext.ne Ext.ne' lt2 lt3 lt4 lt5 le2 le3 le4
theorem keptI_rext {lo hi b : Nat} {A : World} (y : RExt A b) (h1 : lo ≤ b) (h2 : b < hi) : KeptI lo hi A y.now :=
  ⟨y.grew.os, y.grew.tape, y.grew.output, y.grew.size, fun k hk hn => y.grew.block k hk (by omega)⟩
theorem VecsAt.keepB {n₀ lo hi : Nat} {A C : World} {p : Option Addr} {l : List V2} (h : VecsAt A p l) (hk : KeepB n₀ lo hi A C) (hp : ∀ B o, l.length ≠ 0 → p = some ⟨B, o, none⟩ → B < n₀) : VecsAt C p l := fun j hj => by
  obtain ⟨B, o, e, hB, h1, h2⟩ := h j hj
  have hb := hk.block B hB (.inl (hp B o (by omega) e))
  exact ⟨B, o, e, Nat.lt_of_lt_of_le hB hk.size, (World.cell?_of_block (a := ⟨B, o + j * 2, none⟩) hb).trans h1, (World.cell?_of_block (a := ⟨B, o + j * 2 + 1, none⟩) hb).trans h2⟩
theorem LimAt.keepB {n₀ lo hi : Nat} {A C : World} (h : LimAt A) (hk : KeepB n₀ lo hi A C) (hl : 0 < n₀) : LimAt C := by
  have hb := hk.block 0 h.lt (.inl hl)
  exact ⟨Nat.lt_of_lt_of_le h.lt hk.size, fun i hi => (World.cell?_of_block (a := ⟨0, i, none⟩) hb).trans (h.cell i hi)⟩
theorem LimAt.rexts {b : Nat} {A : World} (h : LimAt A) (hb : 0 < b) (y : RExt A b) : LimAt y.now := h.rext (by omega) y
theorem goOn_w2 {l : List V2} {s : StoneR} {i : Nat} {wv : Int} (hs : s.Ok) (hair : ∀ v ∈ l, (1 ≤ v.x ∧ v.x ≤ 1000) ∧ 0 ≤ v.y ∧ v.y ≤ 1000) (hi : i < l.length) (hw : 0 ≤ wv ∧ wv ≤ 64000000) : 0 ≤ stp wv (kOf s l[i]) (dOf s) ∧ stp wv (kOf s l[i]) (dOf s) ≤ 64000000 := by
  obtain ⟨hx, hy⟩ := hair l[i] (List.getElem_mem hi)
  have := stp_le hw.1 (k_bounds hs hx hy).2.2 (show 0 < dOf s by have := (d_bounds hs).2; omega)
  exact ⟨stp_nonneg _ _ _, by omega⟩
theorem speed_w {s : StoneR} (hs : s.Ok) : 0 ≤ s.speed * s.speed ∧ s.speed * s.speed ≤ 64000000 := by
  have a := hs.speed
  have b := Int.mul_nonneg (show 0 ≤ s.speed by omega) (show 0 ≤ s.speed by omega)
  have c := Int.mul_le_mul a.2 a.2 (by omega) (by omega)
  omega
set_option maxRecDepth 100000 in
set_option maxHeartbeats 16000000 in
theorem blows_seq (nn : Nat) (hn : 1 ≤ nn) (LB KB FB n₀ : Nat) (p : Option Addr) (cap : Nat) (l : List V2) (k : RockR) (f : FallR) (w : World) (hlim : LimAt w) (hln : 0 < n₀) (hv : VecsAt w p l) (hpn : ∀ A o, l.length ≠ 0 → p = some ⟨A, o, none⟩ → A < n₀) (hl : l.length ≤ 32) (hair : ∀ v ∈ l, (1 ≤ v.x ∧ v.x ≤ 1000) ∧ 0 ≤ v.y ∧ v.y ≤ 1000) (hs : (firstS k f).Ok) (ht : (lastS k f).Ok) (hnw : n₀ ≤ w.heap.size)
    (a0 : w.cell? ⟨LB, 0, none⟩ = some (.slice p l.length cap)) (c0 : w.cell? ⟨KB, 0, none⟩ = some (.int .i64 k.size.x)) (c1 : w.cell? ⟨KB, 1, none⟩ = some (.int .i64 k.size.y)) (c2 : w.cell? ⟨KB, 2, none⟩ = some (.int .i64 k.dens.x)) (c3 : w.cell? ⟨KB, 3, none⟩ = some (.int .i64 k.dens.y)) (c4 : w.cell? ⟨KB, 4, none⟩ = some (.int .i64 k.strong.x)) (c5 : w.cell? ⟨KB, 5, none⟩ = some (.int .i64 k.strong.y)) (c6 : w.cell? ⟨KB, 6, none⟩ = some (.int .i64 k.spin.x)) (c7 : w.cell? ⟨KB, 7, none⟩ = some (.int .i64 k.spin.y)) (c8 : w.cell? ⟨KB, 8, none⟩ = some (.int .i64 k.shape.x)) (c9 : w.cell? ⟨KB, 9, none⟩ = some (.int .i64 k.shape.y)) (c10 : w.cell? ⟨KB, 10, none⟩ = some (.bool k.pile)) (d0 : w.cell? ⟨FB, 0, none⟩ = some (.int .i64 f.speed.x)) (d1 : w.cell? ⟨FB, 1, none⟩ = some (.int .i64 f.speed.y)) (d2 : w.cell? ⟨FB, 2, none⟩ = some (.int .i64 f.slope.x)) (d3 : w.cell? ⟨FB, 3, none⟩ = some (.int .i64 f.slope.y)) (hLB : LB < w.heap.size) (hKB : KB < w.heap.size) (hFB : FB < w.heap.size) :
    SeqC Fence.wide nn Tryd.prog 79 #[.pointer (some ⟨LB, 0, none⟩), .pointer (some ⟨KB, 0, none⟩), .pointer (some ⟨FB, 0, none⟩)] BlowR.enc n₀ (fun xs => xs = blowsL (firstS k f) (lastS k f) l 0 ((firstS k f).speed * (firstS k f).speed) ((lastS k f).speed * (lastS k f).speed)) (fun pre => pre <+: blowsL (firstS k f) (lastS k f) l 0 ((firstS k f).speed * (firstS k f).speed) ((lastS k f).speed * (lastS k f).speed)) (l.length + 1) w := by
  intro lr J Jx W hW hJ hJx hY h0
  have cf := fun W => first_any k f W
  have cl := fun W => last_any k f W
  generalize firstS k f = s at *
  generalize lastS k f = t at *
  obtain ⟨L, hL⟩ : ∃ L, blowsL s t l 0 (s.speed * s.speed) (t.speed * t.speed) = L := ⟨_, rfl⟩
  rw [hL]
  replace hL := Go.Lib.hid hL
  have cg1 := fun W => fallOf_any p cap l.length s W hs
  have cg2 := fun W => fallOf_any p cap l.length t W ht
  unfold StoneR.val StoneR.vals at cf cl cg1 cg2
  unfold RockR.val FallR.val at cf cl
  replace a0 := (hW.cell (p := ⟨LB, 0, none⟩) hLB).trans a0
  replace c0 := (hW.cell (p := ⟨KB, 0, none⟩) hKB).trans c0
  replace c1 := (hW.cell (p := ⟨KB, 1, none⟩) hKB).trans c1
  replace c2 := (hW.cell (p := ⟨KB, 2, none⟩) hKB).trans c2
  replace c3 := (hW.cell (p := ⟨KB, 3, none⟩) hKB).trans c3
  replace c4 := (hW.cell (p := ⟨KB, 4, none⟩) hKB).trans c4
  replace c5 := (hW.cell (p := ⟨KB, 5, none⟩) hKB).trans c5
  replace c6 := (hW.cell (p := ⟨KB, 6, none⟩) hKB).trans c6
  replace c7 := (hW.cell (p := ⟨KB, 7, none⟩) hKB).trans c7
  replace c8 := (hW.cell (p := ⟨KB, 8, none⟩) hKB).trans c8
  replace c9 := (hW.cell (p := ⟨KB, 9, none⟩) hKB).trans c9
  replace c10 := (hW.cell (p := ⟨KB, 10, none⟩) hKB).trans c10
  replace d0 := (hW.cell (p := ⟨FB, 0, none⟩) hFB).trans d0
  replace d1 := (hW.cell (p := ⟨FB, 1, none⟩) hFB).trans d1
  replace d2 := (hW.cell (p := ⟨FB, 2, none⟩) hFB).trans d2
  replace d3 := (hW.cell (p := ⟨FB, 3, none⟩) hFB).trans d3
  have sWW := hW.size
  replace hLB : LB < W.heap.size := by omega
  replace hKB : KB < W.heap.size := by omega
  replace hFB : FB < W.heap.size := by omega
  replace hlim := hlim.on hW
  replace hv := hv.on hW
  replace hnw : n₀ ≤ W.heap.size := by omega
  clear hW sWW
  obtain ⟨n, hn0⟩ : ∃ n, l.length = n := ⟨_, rfl⟩
  rw [hn0] at a0 cg1 cg2
  refine callsIn_of_wp Tryd.func79 rfl trivial ?_ rfl
  simp only [Tryd.ntmps79, List.size_toArray, List.length_cons, List.length_nil, Nat.reduceAdd, Nat.reduceSub, Array.replicate_succ, Array.replicate_zero, List.push_toArray, List.append_toArray, List.nil_append, List.cons_append]
  gi_wp2
  refine wpIn_wide.2 ?_
--REGION0
  refine wp_tell (blwTold s t p cap n) ?_ ?_
  focus
    repeat (rename_i zz; clear zz)
    refine region_dep (by kernel_rfl) blwDeps (by kernel_rfl) (blwInv k f s t p cap n) ?h0 ?hstep ?hend
    case h0 =>
      refine ⟨?z5, ?z6, ?z8, ?z9, ?z10, ?z11, ?z12, ?z13, ?z14, ?z15, ?z16, ?z17, ?fr, (Below.refl _ _).drew, by simp, by simp, by simp, by simp, by simp, by simp, by simp, by simp, by simp, by simp, by simp, by simp, by simp, by simp, by simp⟩
      case fr =>
        simp only [sets, List.foldl_cons, List.foldl_nil, List.set_cons_succ, List.set_cons_zero]
        rfl
    case hend =>
      intro l' fr W hl hall hInv
      unfold blwInv at hInv
      obtain ⟨s5, s6, s8, s9, s10, s11, s12, s13, s14, s15, s16, s17, hInv⟩ := hInv
      obtain ⟨hfr, hB, g0, g1, g2, f0, f1, f2, f3, f4, f5, f6, f7, f8, f9, f10, f11⟩ := hInv
      subst hfr
      obtain ⟨b0, b1, b2, b3, b4, b5, b6, b7, b8, b9, b10, b11, b12, b13, rfl⟩ := list14 hl
      simp only [List.getD_cons_zero, List.getD_cons_succ] at g0 g1 g2 f0 f1 f2 f3 f4 f5 f6 f7 f8 f9 f10 f11
      simp only [List.all_cons, id, Bool.and_eq_true] at hall
      obtain ⟨e0, e1, e2, e3, e4, e5, e6, e7, e8, e9, e10, e11, e12, e13, -⟩ := hall
      have hne := g0 e10 e11
      obtain ⟨g, rfl, h1, h2, -, h4⟩ := f10 e10
      obtain ⟨g', rfl, h1', h2', -, h4'⟩ := f11 e11
      exact ⟨rfl, g, g', by kernel_rfl, hB, h1, h1', fun q => hne (by rw [q]), h2, h2', h4 e12, h4' e13⟩
    case hstep =>
      intro l' fr W ii hl hInv hr hi
      unfold blwInv at hInv
      obtain ⟨s5, s6, s8, s9, s10, s11, s12, s13, s14, s15, s16, s17, hInv⟩ := hInv
      obtain ⟨hfr, hB, g0, g1, g2, f0, f1, f2, f3, f4, f5, f6, f7, f8, f9, f10, f11⟩ := hInv
      subst hfr
      obtain ⟨b0, b1, b2, b3, b4, b5, b6, b7, b8, b9, b10, b11, b12, b13, rfl⟩ := list14 hl
      have sW := hB.size
      replace a0 := (hB.cell (p := ⟨LB, 0, none⟩) hLB).trans a0
      replace c0 := (hB.cell (p := ⟨KB, 0, none⟩) hKB).trans c0
      replace c1 := (hB.cell (p := ⟨KB, 1, none⟩) hKB).trans c1
      replace c2 := (hB.cell (p := ⟨KB, 2, none⟩) hKB).trans c2
      replace c3 := (hB.cell (p := ⟨KB, 3, none⟩) hKB).trans c3
      replace c4 := (hB.cell (p := ⟨KB, 4, none⟩) hKB).trans c4
      replace c5 := (hB.cell (p := ⟨KB, 5, none⟩) hKB).trans c5
      replace c6 := (hB.cell (p := ⟨KB, 6, none⟩) hKB).trans c6
      replace c7 := (hB.cell (p := ⟨KB, 7, none⟩) hKB).trans c7
      replace c8 := (hB.cell (p := ⟨KB, 8, none⟩) hKB).trans c8
      replace c9 := (hB.cell (p := ⟨KB, 9, none⟩) hKB).trans c9
      replace c10 := (hB.cell (p := ⟨KB, 10, none⟩) hKB).trans c10
      replace d0 := (hB.cell (p := ⟨FB, 0, none⟩) hFB).trans d0
      replace d1 := (hB.cell (p := ⟨FB, 1, none⟩) hFB).trans d1
      replace d2 := (hB.cell (p := ⟨FB, 2, none⟩) hFB).trans d2
      replace d3 := (hB.cell (p := ⟨FB, 3, none⟩) hFB).trans d3
      simp only [List.getD_cons_zero, List.getD_cons_succ] at g0 g1 g2 f0 f1 f2 f3 f4 f5 f6 f7 f8 f9 f10 f11
      replace hB := Go.Lib.hid hB
      replace hi := Go.Lib.hid hi
      replace g0 := Go.Lib.hid g0
      replace g1 := Go.Lib.hid g1
      replace g2 := Go.Lib.hid g2
      replace f0 := Go.Lib.hid f0
      replace f1 := Go.Lib.hid f1
      replace f2 := Go.Lib.hid f2
      replace f3 := Go.Lib.hid f3
      replace f4 := Go.Lib.hid f4
      replace f5 := Go.Lib.hid f5
      replace f6 := Go.Lib.hid f6
      replace f7 := Go.Lib.hid f7
      replace f8 := Go.Lib.hid f8
      replace f9 := Go.Lib.hid f9
      replace f10 := Go.Lib.hid f10
      replace f11 := Go.Lib.hid f11
      rcases ii with _ | _ | _ | _ | _ | _ | _ | _ | _ | _ | _ | _ | _ | _ | ii
      · refine wpOp_step rfl (fun K hK => ?_)
        simp only [sets, List.foldl_cons, List.foldl_nil, List.set_cons_succ, List.set_cons_zero]
        go_simp
        exact hK _ _ ⟨s5, s6, (.slice p n cap), s9, s10, s11, s12, s13, s14, s15, s16, s17, by kernel_rfl, hB.out, g0.out, g1.out, g2.out, fun _ => rfl, f1.out, f2.out, f3.out, f4.out, f5.out, f6.out, f7.out, f8.out, f9.out, f10.out, f11.out⟩
      · refine wpOp_step rfl (fun K hK => ?_)
        simp only [sets, List.foldl_cons, List.foldl_nil, List.set_cons_succ, List.set_cons_zero]
        go_simp
        exact hK _ _ ⟨s5, s6, s8, (.agg #[.int .i64 k.size.x, .int .i64 k.size.y, .int .i64 k.dens.x, .int .i64 k.dens.y, .int .i64 k.strong.x, .int .i64 k.strong.y, .int .i64 k.spin.x, .int .i64 k.spin.y, .int .i64 k.shape.x, .int .i64 k.shape.y, .bool k.pile]), s10, s11, s12, s13, s14, s15, s16, s17, by kernel_rfl, hB.out, g0.out, g1.out, g2.out, f0.out, fun _ => rfl, f2.out, f3.out, f4.out, f5.out, f6.out, f7.out, f8.out, f9.out, f10.out, f11.out⟩
      · refine wpOp_step rfl (fun K hK => ?_)
        simp only [sets, List.foldl_cons, List.foldl_nil, List.set_cons_succ, List.set_cons_zero]
        go_simp
        exact hK _ _ ⟨s5, s6, s8, s9, (.agg #[.int .i64 f.speed.x, .int .i64 f.speed.y, .int .i64 f.slope.x, .int .i64 f.slope.y]), s11, s12, s13, s14, s15, s16, s17, by kernel_rfl, hB.out, g0.out, g1.out, g2.out, f0.out, f1.out, fun _ => rfl, f3.out, f4.out, f5.out, f6.out, f7.out, f8.out, f9.out, f10.out, f11.out⟩
      · simp only [blwDeps, List.getD_cons_zero, List.getD_cons_succ, List.all_cons, List.all_nil, Bool.and_true, Bool.and_eq_true] at hr
        obtain ⟨hd1, hd2⟩ := hr
        obtain rfl := f1.out hd1
        obtain rfl := f2.out hd2
        refine wpOp_step rfl (fun K hK => ?_)
        simp only [sets, List.foldl_cons, List.foldl_nil, List.set_cons_succ, List.set_cons_zero]
        go_simp
        refine (cf W).mono ?_
        rintro _ W6 ⟨rfl, hb6⟩
        exact hK _ _ ⟨s5, s6, s8, (.agg #[.int .i64 k.size.x, .int .i64 k.size.y, .int .i64 k.dens.x, .int .i64 k.dens.y, .int .i64 k.strong.x, .int .i64 k.strong.y, .int .i64 k.spin.x, .int .i64 k.spin.y, .int .i64 k.shape.x, .int .i64 k.shape.y, .bool k.pile]), (.agg #[.int .i64 f.speed.x, .int .i64 f.speed.y, .int .i64 f.slope.x, .int .i64 f.slope.y]), (.agg #[.int .i64 s.size, .int .i64 s.dens, .int .i64 s.strong, .int .i64 s.spin, .int .i64 s.shape, .bool s.pile, .int .i64 s.speed, .int .i64 s.slope]), s12, s13, s14, s15, s16, s17, by kernel_rfl, hB.out.trans (hb6.mono sW), g0.out, g1.out, g2.out, f0.out, f1.out, f2.out, fun _ => rfl, f4.out, f5.out, f6.out, f7.out, f8.out, f9.out, (fun h => by obtain ⟨g, e, h1, h2, h3, h4⟩ := f10.out h; exact ⟨g, e, h1, Nat.lt_of_lt_of_le h2 hb6.size, fun q => (hb6.block g h2).trans (h3 q), fun q => (hb6.block g h2).trans (h4 q)⟩), (fun h => by obtain ⟨g, e, h1, h2, h3, h4⟩ := f11.out h; exact ⟨g, e, h1, Nat.lt_of_lt_of_le h2 hb6.size, fun q => (hb6.block g h2).trans (h3 q), fun q => (hb6.block g h2).trans (h4 q)⟩)⟩
      · simp only [blwDeps, List.getD_cons_zero, List.getD_cons_succ, List.all_cons, List.all_nil, Bool.and_true, Bool.and_eq_true] at hr
        obtain ⟨hd0, hd3⟩ := hr
        obtain rfl := f0.out hd0
        obtain rfl := f3.out hd3
        refine wpOp_step rfl (fun K hK => ?_)
        simp only [sets, List.foldl_cons, List.foldl_nil, List.set_cons_succ, List.set_cons_zero]
        go_simp
        refine (cg1 W).mono ?_
        rintro _ W6 ⟨rfl, hb6⟩
        exact hK _ _ ⟨s5, s6, (.slice p n cap), s9, s10, (.agg #[.int .i64 s.size, .int .i64 s.dens, .int .i64 s.strong, .int .i64 s.spin, .int .i64 s.shape, .bool s.pile, .int .i64 s.speed, .int .i64 s.slope]), (.agg #[.slice p n cap, .int .i64 s.size, .int .i64 s.dens, .int .i64 s.strong, .int .i64 s.spin, .int .i64 s.shape, .bool s.pile, .int .i64 s.speed, .int .i64 s.slope, .int .i64 0, .int .i64 (s.speed * s.speed)]), s13, s14, s15, s16, s17, by kernel_rfl, hB.out.trans (hb6.mono sW), g0.out, g1.out, g2.out, f0.out, f1.out, f2.out, f3.out, fun _ => rfl, f5.out, f6.out, f7.out, f8.out, f9.out, (fun h => by obtain ⟨g, e, h1, h2, h3, h4⟩ := f10.out h; exact ⟨g, e, h1, Nat.lt_of_lt_of_le h2 hb6.size, fun q => (hb6.block g h2).trans (h3 q), fun q => (hb6.block g h2).trans (h4 q)⟩), (fun h => by obtain ⟨g, e, h1, h2, h3, h4⟩ := f11.out h; exact ⟨g, e, h1, Nat.lt_of_lt_of_le h2 hb6.size, fun q => (hb6.block g h2).trans (h3 q), fun q => (hb6.block g h2).trans (h4 q)⟩)⟩
      · refine wpOp_step rfl (fun K hK => ?_)
        simp only [sets, List.foldl_cons, List.foldl_nil, List.set_cons_succ, List.set_cons_zero]
        go_simp
        exact hK _ _ ⟨s5, s6, s8, s9, s10, s11, s12, (.slice p n cap), s14, s15, s16, s17, by kernel_rfl, hB.out, g0.out, g1.out, g2.out, f0.out, f1.out, f2.out, f3.out, f4.out, fun _ => rfl, f6.out, f7.out, f8.out, f9.out, f10.out, f11.out⟩
      · refine wpOp_step rfl (fun K hK => ?_)
        simp only [sets, List.foldl_cons, List.foldl_nil, List.set_cons_succ, List.set_cons_zero]
        go_simp
        exact hK _ _ ⟨s5, s6, s8, s9, s10, s11, s12, s13, (.agg #[.int .i64 k.size.x, .int .i64 k.size.y, .int .i64 k.dens.x, .int .i64 k.dens.y, .int .i64 k.strong.x, .int .i64 k.strong.y, .int .i64 k.spin.x, .int .i64 k.spin.y, .int .i64 k.shape.x, .int .i64 k.shape.y, .bool k.pile]), s15, s16, s17, by kernel_rfl, hB.out, g0.out, g1.out, g2.out, f0.out, f1.out, f2.out, f3.out, f4.out, f5.out, fun _ => rfl, f7.out, f8.out, f9.out, f10.out, f11.out⟩
      · refine wpOp_step rfl (fun K hK => ?_)
        simp only [sets, List.foldl_cons, List.foldl_nil, List.set_cons_succ, List.set_cons_zero]
        go_simp
        exact hK _ _ ⟨s5, s6, s8, s9, s10, s11, s12, s13, s14, (.agg #[.int .i64 f.speed.x, .int .i64 f.speed.y, .int .i64 f.slope.x, .int .i64 f.slope.y]), s16, s17, by kernel_rfl, hB.out, g0.out, g1.out, g2.out, f0.out, f1.out, f2.out, f3.out, f4.out, f5.out, f6.out, fun _ => rfl, f8.out, f9.out, f10.out, f11.out⟩
      · simp only [blwDeps, List.getD_cons_zero, List.getD_cons_succ, List.all_cons, List.all_nil, Bool.and_true, Bool.and_eq_true] at hr
        obtain ⟨hd6, hd7, hd4⟩ := hr
        obtain rfl := f6.out hd6
        obtain rfl := f7.out hd7
        obtain rfl := f4.out hd4
        refine wpOp_step rfl (fun K hK => ?_)
        simp only [sets, List.foldl_cons, List.foldl_nil, List.set_cons_succ, List.set_cons_zero]
        go_simp
        refine (cl W).mono ?_
        rintro _ W6 ⟨rfl, hb6⟩
        exact hK _ _ ⟨s5, s6, s8, s9, s10, s11, (.agg #[.slice p n cap, .int .i64 s.size, .int .i64 s.dens, .int .i64 s.strong, .int .i64 s.spin, .int .i64 s.shape, .bool s.pile, .int .i64 s.speed, .int .i64 s.slope, .int .i64 0, .int .i64 (s.speed * s.speed)]), s13, (.agg #[.int .i64 k.size.x, .int .i64 k.size.y, .int .i64 k.dens.x, .int .i64 k.dens.y, .int .i64 k.strong.x, .int .i64 k.strong.y, .int .i64 k.spin.x, .int .i64 k.spin.y, .int .i64 k.shape.x, .int .i64 k.shape.y, .bool k.pile]), (.agg #[.int .i64 f.speed.x, .int .i64 f.speed.y, .int .i64 f.slope.x, .int .i64 f.slope.y]), (.agg #[.int .i64 t.size, .int .i64 t.dens, .int .i64 t.strong, .int .i64 t.spin, .int .i64 t.shape, .bool t.pile, .int .i64 t.speed, .int .i64 t.slope]), s17, by kernel_rfl, hB.out.trans (hb6.mono sW), g0.out, g1.out, g2.out, f0.out, f1.out, f2.out, f3.out, f4.out, f5.out, f6.out, f7.out, fun _ => rfl, f9.out, (fun h => by obtain ⟨g, e, h1, h2, h3, h4⟩ := f10.out h; exact ⟨g, e, h1, Nat.lt_of_lt_of_le h2 hb6.size, fun q => (hb6.block g h2).trans (h3 q), fun q => (hb6.block g h2).trans (h4 q)⟩), (fun h => by obtain ⟨g, e, h1, h2, h3, h4⟩ := f11.out h; exact ⟨g, e, h1, Nat.lt_of_lt_of_le h2 hb6.size, fun q => (hb6.block g h2).trans (h3 q), fun q => (hb6.block g h2).trans (h4 q)⟩)⟩
      · simp only [blwDeps, List.getD_cons_zero, List.getD_cons_succ, List.all_cons, List.all_nil, Bool.and_true, Bool.and_eq_true] at hr
        obtain ⟨hd5, hd8⟩ := hr
        obtain rfl := f5.out hd5
        obtain rfl := f8.out hd8
        refine wpOp_step rfl (fun K hK => ?_)
        simp only [sets, List.foldl_cons, List.foldl_nil, List.set_cons_succ, List.set_cons_zero]
        go_simp
        refine (cg2 W).mono ?_
        rintro _ W6 ⟨rfl, hb6⟩
        exact hK _ _ ⟨s5, s6, s8, s9, s10, s11, s12, (.slice p n cap), s14, s15, (.agg #[.int .i64 t.size, .int .i64 t.dens, .int .i64 t.strong, .int .i64 t.spin, .int .i64 t.shape, .bool t.pile, .int .i64 t.speed, .int .i64 t.slope]), (.agg #[.slice p n cap, .int .i64 t.size, .int .i64 t.dens, .int .i64 t.strong, .int .i64 t.spin, .int .i64 t.shape, .bool t.pile, .int .i64 t.speed, .int .i64 t.slope, .int .i64 0, .int .i64 (t.speed * t.speed)]), by kernel_rfl, hB.out.trans (hb6.mono sW), g0.out, g1.out, g2.out, f0.out, f1.out, f2.out, f3.out, f4.out, f5.out, f6.out, f7.out, f8.out, fun _ => rfl, (fun h => by obtain ⟨g, e, h1, h2, h3, h4⟩ := f10.out h; exact ⟨g, e, h1, Nat.lt_of_lt_of_le h2 hb6.size, fun q => (hb6.block g h2).trans (h3 q), fun q => (hb6.block g h2).trans (h4 q)⟩), (fun h => by obtain ⟨g, e, h1, h2, h3, h4⟩ := f11.out h; exact ⟨g, e, h1, Nat.lt_of_lt_of_le h2 hb6.size, fun q => (hb6.block g h2).trans (h3 q), fun q => (hb6.block g h2).trans (h4 q)⟩)⟩
      · have hi := hi.out
        simp only [List.getElem?_cons_zero, List.getElem?_cons_succ, Option.some.injEq] at hi
        subst hi
        refine wpOp_step rfl (fun K hK => ?_)
        simp only [sets, List.foldl_cons, List.foldl_nil, List.set_cons_succ, List.set_cons_zero]
        go_simp
        exact hK _ _ ⟨(.pointer (some ⟨W.heap.size, 0, none⟩)), s6, s8, s9, s10, s11, s12, s13, s14, s15, s16, s17, by kernel_rfl, hB.out.alloc sW _, (fun h10 h11 e => by obtain ⟨g, e1, h1, h2, -⟩ := f11.out h11; rw [e1] at e; injection e with e; injection e with e; injection e with e; omega), (fun h => absurd (g1.out h) (by decide)), g2.out, f0.out, f1.out, f2.out, f3.out, f4.out, f5.out, f6.out, f7.out, f8.out, f9.out, (fun _ => ⟨W.heap.size, rfl, sW, by simp only [World.size_alloc]; omega, fun _ => heap_alloc_new _ _, fun q => by have h9 := g1.out q; cases h9⟩), (fun h => by obtain ⟨g, e, h1, h2, h3, h4⟩ := f11.out h; exact ⟨g, e, h1, by simp only [World.size_alloc]; omega, fun q => (heap_alloc_old _ _ h2).trans (h3 q), fun q => (heap_alloc_old _ _ h2).trans (h4 q)⟩)⟩
      · have hi := hi.out
        simp only [List.getElem?_cons_zero, List.getElem?_cons_succ, Option.some.injEq] at hi
        subst hi
        refine wpOp_step rfl (fun K hK => ?_)
        simp only [sets, List.foldl_cons, List.foldl_nil, List.set_cons_succ, List.set_cons_zero]
        go_simp
        exact hK _ _ ⟨s5, (.pointer (some ⟨W.heap.size, 0, none⟩)), s8, s9, s10, s11, s12, s13, s14, s15, s16, s17, by kernel_rfl, hB.out.alloc sW _, (fun h10 h11 e => by obtain ⟨g, e1, h1, h2, -⟩ := f10.out h10; rw [e1] at e; injection e with e; injection e with e; injection e with e; omega), g1.out, (fun h => absurd (g2.out h) (by decide)), f0.out, f1.out, f2.out, f3.out, f4.out, f5.out, f6.out, f7.out, f8.out, f9.out, (fun h => by obtain ⟨g, e, h1, h2, h3, h4⟩ := f10.out h; exact ⟨g, e, h1, by simp only [World.size_alloc]; omega, fun q => (heap_alloc_old _ _ h2).trans (h3 q), fun q => (heap_alloc_old _ _ h2).trans (h4 q)⟩), (fun _ => ⟨W.heap.size, rfl, sW, by simp only [World.size_alloc]; omega, fun _ => heap_alloc_new _ _, fun q => by have h9 := g2.out q; cases h9⟩)⟩
      · simp only [blwDeps, List.getD_cons_zero, List.getD_cons_succ, List.all_cons, List.all_nil, Bool.and_true, Bool.and_eq_true] at hr
        obtain ⟨hd10, hd4, hd9⟩ := hr
        obtain rfl := f4.out hd4
        obtain rfl := f9.out hd9
        obtain ⟨g, rfl, h1, h2, h3, h4⟩ := f10.out hd10
        have hi := hi.out
        simp only [List.getElem?_cons_zero, List.getElem?_cons_succ, Option.some.injEq] at hi
        subst hi
        have e := h3 rfl
        refine wpOp_step rfl (fun K hK => ?_)
        simp only [sets, List.foldl_cons, List.foldl_nil, List.set_cons_succ, List.set_cons_zero]
        simp only [Region.wanted]
        refine store_op 103 (.tmp 5) (.tmp 12) rfl g #[.slice p n cap, .int .i64 s.size, .int .i64 s.dens, .int .i64 s.strong, .int .i64 s.spin, .int .i64 s.shape, .bool s.pile, .int .i64 s.speed, .int .i64 s.slope, .int .i64 0, .int .i64 (s.speed * s.speed)] (by kernel_rfl) (by kernel_rfl) 103 _ e (by kernel_rfl) rfl (by simp [Value.oneCell']) ?_
        exact hK _ _ ⟨(.pointer (some ⟨g, 0, none⟩)), s6, s8, s9, s10, s11, (.agg #[.slice p n cap, .int .i64 s.size, .int .i64 s.dens, .int .i64 s.strong, .int .i64 s.spin, .int .i64 s.shape, .bool s.pile, .int .i64 s.speed, .int .i64 s.slope, .int .i64 0, .int .i64 (s.speed * s.speed)]), s13, s14, s15, s16, (.agg #[.slice p n cap, .int .i64 t.size, .int .i64 t.dens, .int .i64 t.strong, .int .i64 t.spin, .int .i64 t.shape, .bool t.pile, .int .i64 t.speed, .int .i64 t.slope, .int .i64 0, .int .i64 (t.speed * t.speed)]), by kernel_rfl, below_row hB.out h1 _, g0.out, (fun _ => hd10), g2.out, f0.out, f1.out, f2.out, f3.out, f4.out, f5.out, f6.out, f7.out, f8.out, f9.out, (fun _ => ⟨g, rfl, h1, by rw [size_setRow2]; exact h2, (fun h => by cases h), fun _ => setRow_heap _ _ _ _ _ _ e⟩), (fun h => by obtain ⟨g', e', h1', h2', h3', h4'⟩ := f11.out h; have hne : g' ≠ g := fun q => (g0.out hd10 h) (by rw [e', q]); exact ⟨g', e', h1', by rw [size_setRow2]; exact h2', fun q => (setRow_other _ _ _ _ hne).trans (h3' q), fun q => (setRow_other _ _ _ _ hne).trans (h4' q)⟩)⟩
      · simp only [blwDeps, List.getD_cons_zero, List.getD_cons_succ, List.all_cons, List.all_nil, Bool.and_true, Bool.and_eq_true] at hr
        obtain ⟨hd11, hd9, hd12⟩ := hr
        obtain rfl := f9.out hd9
        obtain ⟨g, rfl, h1, h2, h3, h4⟩ := f11.out hd11
        have hi := hi.out
        simp only [List.getElem?_cons_zero, List.getElem?_cons_succ, Option.some.injEq] at hi
        subst hi
        have e := h3 rfl
        refine wpOp_step rfl (fun K hK => ?_)
        simp only [sets, List.foldl_cons, List.foldl_nil, List.set_cons_succ, List.set_cons_zero]
        simp only [Region.wanted]
        refine store_op 103 (.tmp 6) (.tmp 17) rfl g #[.slice p n cap, .int .i64 t.size, .int .i64 t.dens, .int .i64 t.strong, .int .i64 t.spin, .int .i64 t.shape, .bool t.pile, .int .i64 t.speed, .int .i64 t.slope, .int .i64 0, .int .i64 (t.speed * t.speed)] (by kernel_rfl) (by kernel_rfl) 103 _ e (by kernel_rfl) rfl (by simp [Value.oneCell']) ?_
        exact hK _ _ ⟨s5, (.pointer (some ⟨g, 0, none⟩)), s8, s9, s10, s11, s12, s13, s14, s15, s16, (.agg #[.slice p n cap, .int .i64 t.size, .int .i64 t.dens, .int .i64 t.strong, .int .i64 t.spin, .int .i64 t.shape, .bool t.pile, .int .i64 t.speed, .int .i64 t.slope, .int .i64 0, .int .i64 (t.speed * t.speed)]), by kernel_rfl, below_row hB.out h1 _, g0.out, g1.out, (fun _ => hd11), f0.out, f1.out, f2.out, f3.out, f4.out, f5.out, f6.out, f7.out, f8.out, f9.out, (fun h => by obtain ⟨g', e', h1', h2', h3', h4'⟩ := f10.out h; have hne : g' ≠ g := fun q => (g0.out h hd11) (by rw [e', q]); exact ⟨g', e', h1', by rw [size_setRow2]; exact h2', fun q => (setRow_other _ _ _ _ hne).trans (h3' q), fun q => (setRow_other _ _ _ _ hne).trans (h4' q)⟩), (fun _ => ⟨g, rfl, h1, by rw [size_setRow2]; exact h2, (fun h => by cases h), fun _ => setRow_heap _ _ _ _ _ _ e⟩)⟩
      · have hi := hi.out; simp at hi
  rintro a4 W4 ⟨g, h, ha4, hB4, hg1, hh1, hgh, hg2, hh2, hrg, hrh⟩
  generalize a4.tmps.getD 5 undef = s5 at ha4
  generalize a4.tmps.getD 6 undef = s6 at ha4
  generalize a4.tmps.getD 8 undef = s8 at ha4
  generalize a4.tmps.getD 9 undef = s9 at ha4
  generalize a4.tmps.getD 10 undef = s10 at ha4
  generalize a4.tmps.getD 11 undef = s11 at ha4
  generalize a4.tmps.getD 12 undef = s12 at ha4
  generalize a4.tmps.getD 13 undef = s13 at ha4
  generalize a4.tmps.getD 14 undef = s14 at ha4
  generalize a4.tmps.getD 15 undef = s15 at ha4
  generalize a4.tmps.getD 16 undef = s16 at ha4
  generalize a4.tmps.getD 17 undef = s17 at ha4
  subst ha4
  simp only [sets, List.foldl_cons, List.foldl_nil, List.set_cons_succ, List.set_cons_zero]
--END0
  have a4 := (hB4.cell (p := ⟨LB, 0, none⟩) hLB).trans a0
  have sW4 := hB4.size
  have hL4 : LB < W4.heap.size := by omega
  have hlim4 := hlim.on hB4
  have hv4 := hv.on hB4
  have hJ0 := h0 W4 hB4
  have hfs : FallAt W4 g p cap l s 0 (s.speed * s.speed) := ⟨by rw [hn0]; exact hrg, hv4⟩
  have hft : FallAt W4 h p cap l t 0 (t.speed * t.speed) := ⟨by rw [hn0]; exact hrh, hv4⟩
  have hw1 := speed_w hs
  have hw2 := speed_w ht
  clear a0 c0 c1 c2 c3 c4 c5 c6 c7 c8 c9 c10 d0 d1 d2 d3 hrg hrh cf cl cg1 cg2 hlim hv h0
  obtain ⟨B, hB⟩ : ∃ B, W4.heap.size = B := ⟨_, rfl⟩
  rw [hB] at hJ0
  gi_wp2
  gi_loopw [21] (fun s' wr => ∃ (i : Nat) (we wl : Int) (pre : List BlowR), s' = .int .i64 i ∧ J B pre wr ∧ FallAt wr g p cap l s i we ∧ FallAt wr h p cap l t i wl ∧ LimAt wr ∧ B ≤ wr.heap.size ∧ Hid ((i ≤ l.length ∧ pre.length ≤ i) ∧ (0 ≤ we ∧ we ≤ 64000000) ∧ (0 ≤ wl ∧ wl ≤ 64000000) ∧ pre ++ blowsL s t (l.drop i) i we wl = L)) (fun s' _ => l.length - (intOf s').toNat)
  case atStart => exact ⟨0, _, _, [], rfl, hJ0, hfs, hft, hlim4, by omega, Go.Lib.hid ⟨⟨Nat.zero_le _, Nat.le_refl _⟩, hw1, hw2, by simpa using hL.out⟩⟩
  case round =>
    clear hJ0 hfs hft hlim4 hv4 a4
    obtain ⟨i, we, wl, pre, rfl, hJs, hfs, hft, hlim, hBw, hi⟩ := hrel
    have cbE := fun (W : World) (y : Below wr.heap.size wr W) (hi : i < l.length) (hw : 0 ≤ we ∧ we ≤ 64000000) => bursts_any g p cap l s i we W (hlim.on y) ⟨(y.block g (row_lt hfs.1)).trans hfs.1, hfs.2.on y⟩ hi hl hs hair hw
    have cbL := fun (W : World) (y : Below wr.heap.size wr W) (hi : i < l.length) (hw : 0 ≤ wl ∧ wl ≤ 64000000) => bursts_any h p cap l t i wl W (hlim.on y) ⟨(y.block h (row_lt hft.1)).trans hft.1, hft.2.on y⟩ hi hl ht hair hw
    have cbw := fun (W : World) (y : Below wr.heap.size wr W) (hw : 0 ≤ we ∧ we ≤ 64000000) (hw2 : 0 ≤ wl ∧ wl ≤ 64000000) => blow_any g h p cap l s t i i we wl W (hlim.on y) ⟨(y.block g (row_lt hfs.1)).trans hfs.1, hfs.2.on y⟩ ⟨(y.block h (row_lt hft.1)).trans hft.1, hft.2.on y⟩ hs ht hw hw2
    have cpE := fun (W : World) (hf : FallAt W g p cap l s i we) (hi : i < l.length) (hw : 0 ≤ we ∧ we ≤ 64000000) => pass_any g p cap l s i we W hf hi hl hs hair hw (fun A o h0 e => by have := hpn A o h0 e; omega)
    have cpL := fun (W : World) (hf : FallAt W h p cap l t i wl) (hi : i < l.length) (hw : 0 ≤ wl ∧ wl ≤ 64000000) => pass_any h p cap l t i wl W hf hi hl ht hair hw (fun A o h0 e => by have := hpn A o h0 e; omega)
    obtain ⟨⟨hi1, hi2⟩, hwe, hwl, hE⟩ := hi.out
    have hJw := fun W (k : KeptI W4.heap.size W4.heap.size wr W) => hJs
    clear hJw
    by_cases hlt : i < l.length
    · have hd : decide ((i : Int) < n) = true := by simp; omega
      rw [drop_at hlt, blowsL] at hE
      have ce1 := fun W y => cbE W y hlt hwe
      have cl1 := fun W y => cbL W y hlt hwl
      have cw1 := fun W y => cbw W y hwe hwl
      have p1 := fun W hf => cpE W hf hlt hwe
      have p2 := fun W hf => cpL W hf hlt hwl
      have hn1 := goOn_w2 hs hair hlt hwe
      have hn2 := goOn_w2 ht hair hlt hwl
      clear cbE cbL cbw cpE cpL hi hair hs ht
      generalize stp we (kOf s l[i]) (dOf s) = we' at *
      generalize stp wl (kOf t l[i]) (dOf t) = wl' at *
      generalize burstB s l[i].y we = be at *
      generalize burstB t l[i].y wl = bl at *
      cases be
      · have key : Hid ((i + 1 ≤ l.length ∧ pre.length ≤ i + 1) ∧ (0 ≤ we' ∧ we' ≤ 64000000) ∧ (0 ≤ wl' ∧ wl' ≤ 64000000) ∧ pre ++ blowsL s t (l.drop (i + 1)) (i + 1) we' wl' = L) := Go.Lib.hid ⟨⟨hlt, by omega⟩, hn1, hn2, by simpa using hE⟩
        clear hE
        gi_wp2_with (refine ⟨trivial, ?_⟩; gi_at_call 75; refine (callsIn_wide.2 (ce1 _ (Below.refl _ _))).mono ?_; rintro _ W5 ⟨rfl, hb5⟩; have hf5 : FallAt W5 g p cap l s i we := ⟨(hb5.block g (row_lt hfs.1)).trans hfs.1, hfs.2.on hb5⟩)
        refine ⟨fun _ h => (by cases h), ?_⟩
        gi_wp2
        refine ⟨trivial, ?_⟩
        gi_wp2
        refine ⟨fun _ h => (by cases h), ?_⟩
        gi_wp2_with (first
          | (refine ⟨trivial, ?_⟩; gi_at_call 76; refine (callsIn_wide.2 (p1 _ hf5)).mono ?_; rintro _ _ ⟨y6, rfl, rfl, hf6⟩; have hf7 : FallAt y6.now h p cap l t i wl := ⟨(y6.grew.block h (Nat.lt_of_lt_of_le (row_lt hft.1) hb5.size) (fun q => hgh q.symm)).trans ((hb5.block h (row_lt hft.1)).trans hft.1), hf6.2⟩; clear p1)
          | (refine ⟨trivial, ?_⟩; gi_at_call 76; refine (callsIn_wide.2 (p2 _ hf7)).mono ?_; rintro _ _ ⟨y7, rfl, rfl, hf8⟩))
        have hf9 : FallAt y7.now g p cap l s (i + 1) we' := ⟨(y7.grew.block g (row_lt hf6.1) hgh).trans hf6.1, hf8.2⟩
        have hJn := hJ B pre _ _ (hJ B pre _ _ (hJ B pre _ _ hJs (KeptI.of hb5)) (keptI_rext y6 hg1 (by omega))) (keptI_rext y7 hh1 (by omega))
        have hln := ((hlim.on hb5).rext (by omega) y6).rext (by omega) y7
        have hbn : B ≤ y7.now.heap.size := by have := hb5.size; have := y6.size; have := y7.size; omega
        go_roundw
        case rel => exact ⟨i + 1, we', wl', pre, by simp, hJn, hf9, hf8, hln, hbn, key⟩
        case measure => simp [intOf]; omega
      · obtain ⟨x, hx⟩ : ∃ x : BlowR, x = ⟨i, massV t * wl, massV s * we, bl⟩ := ⟨_, rfl⟩
        have key : Hid ((i + 1 ≤ l.length ∧ (pre ++ [x]).length ≤ i + 1) ∧ (0 ≤ we' ∧ we' ≤ 64000000) ∧ (0 ≤ wl' ∧ wl' ≤ 64000000) ∧ (pre ++ [x]) ++ blowsL s t (l.drop (i + 1)) (i + 1) we' wl' = L) := Go.Lib.hid ⟨⟨hlt, by simp; omega⟩, hn1, hn2, by rw [hx]; simpa using hE⟩
        clear hE
        gi_wp2_with (refine ⟨trivial, ?_⟩; gi_at_call 75; refine (callsIn_wide.2 (ce1 _ (Below.refl _ _))).mono ?_; rintro _ W5 ⟨rfl, hb5⟩; clear ce1)
        refine ⟨trivial, (callsIn_wide.2 (cw1 _ hb5)).mono ?_⟩
        rintro _ W6 ⟨rfl, hb6⟩
        have hb56 := hb5.trans (hb6.mono hb5.size)
        gi_wp2_with (refine ⟨trivial, ?_⟩; gi_at_call 75; refine (callsIn_wide.2 (cl1 _ hb56)).mono ?_; rintro _ W7 ⟨rfl, hb7⟩; have hb8 := hb56.trans (hb7.mono hb56.size); clear cl1; obtain ⟨fn, tmps, assign, body, hy, hR⟩ := hY B pre x W7 (by omega) (by have := hb8.size; omega) (hJ B pre _ _ hJs (KeptI.of hb8)) (by omega); rw [hx] at hy; dsimp only [BlowR.enc] at hy)
        refine hR.mono ?_
        clear hR hy
        rintro e W8 (⟨rfl, hJ8, hk8⟩ | ⟨rfl, hJx8⟩)
        · have hgW := Nat.lt_of_lt_of_le (row_lt hfs.1) hb8.size
          have hhW := Nat.lt_of_lt_of_le (row_lt hft.1) hb8.size
          have hv8 := (hfs.2.on hb8).keepB hk8 hpn
          have hf5 : FallAt W8 g p cap l s i we := ⟨(hk8.block g hgW (.inr ⟨hg1, by omega⟩)).trans ((hb8.block g (row_lt hfs.1)).trans hfs.1), hv8⟩
          have hf5h : FallAt W8 h p cap l t i wl := ⟨(hk8.block h hhW (.inr ⟨hh1, by omega⟩)).trans ((hb8.block h (row_lt hft.1)).trans hft.1), hv8⟩
          have hl8 := (hlim.on hb8).keepB hk8 hln
          have hs8 := hk8.size
          have hs7 := hb8.size
          gi_wp2_with (first
            | (refine ⟨trivial, ?_⟩; gi_at_call 76; refine (callsIn_wide.2 (p1 _ hf5)).mono ?_; rintro _ _ ⟨y6, rfl, rfl, hf6⟩; have hf7 : FallAt y6.now h p cap l t i wl := ⟨(y6.grew.block h (row_lt hf5h.1) (fun q => hgh q.symm)).trans hf5h.1, hf6.2⟩; clear p1)
            | (refine ⟨trivial, ?_⟩; gi_at_call 76; refine (callsIn_wide.2 (p2 _ hf7)).mono ?_; rintro _ _ ⟨y7, rfl, rfl, hf8⟩))
          have hf9 : FallAt y7.now g p cap l s (i + 1) we' := ⟨(y7.grew.block g (row_lt hf6.1) hgh).trans hf6.1, hf8.2⟩
          have hJn := hJ B _ _ _ (hJ B _ _ _ hJ8 (keptI_rext y6 hg1 (by omega))) (keptI_rext y7 hh1 (by omega))
          have hln8 := (hl8.rext (by omega) y6).rext (by omega) y7
          have hbn : B ≤ y7.now.heap.size := by have := y6.size; have := y7.size; omega
          go_roundw
          case rel => exact ⟨i + 1, we', wl', pre ++ [x], by simp, hJn, hf9, hf8, hln8, hbn, key⟩
          case measure => simp [intOf]; omega
        · gi_wp2
          refine bodyPost_ret (results_none rfl _ _ _) rfl ?_
          exact ⟨⟨_, rfl⟩, .inr ⟨B, pre ++ [x], ⟨_, key.out.2.2.2⟩, hJx8⟩⟩
    · have hd : decide ((i : Int) < n) = false := by simp; omega
      rw [drop_end hlt, blowsL] at hE
      have cw1 := fun W y => cbw W y hwe hwl
      clear cbE cbL cbw cpE cpL hi hair hs ht
      obtain ⟨x, hx⟩ : ∃ x : BlowR, x = ⟨i, massV t * wl, massV s * we, true⟩ := ⟨_, rfl⟩
      rw [← hx] at hE
      have key := Go.Lib.hid hE
      clear hE
      gi_wp2
      refine ⟨trivial, (callsIn_wide.2 (cw1 _ (Below.refl _ _))).mono ?_⟩
      rintro _ W6 ⟨rfl, hb6⟩
      obtain ⟨fn, tmps, assign, body, hy, hR⟩ := hY B pre x W6 (by omega) (by have := hb6.size; omega) (hJ B pre _ _ hJs (KeptI.of hb6)) (by omega)
      rw [hx] at hy
      dsimp only [BlowR.enc] at hy
      gi_wp2
      refine hR.mono ?_
      clear hR hy
      rintro e W8 (⟨rfl, hJ8, hk8⟩ | ⟨rfl, hJx8⟩)
      · gi_wp2
        go_end0
        exact ⟨⟨_, rfl⟩, .inl ⟨B, pre ++ [x], key.out, hJ8⟩⟩
      · gi_wp2
        go_end0
        exact ⟨⟨_, rfl⟩, .inr ⟨B, pre ++ [x], ⟨[], by rw [List.append_nil]; exact key.out⟩, hJx8⟩⟩
end Go.Proofs.YtlmhbggigbmeaaaDoor

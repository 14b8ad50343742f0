/- Contracts of SameWorld and SameSky, for worlds and skies of the same contents. Condition: both in memory. -/
import Derived.Test.YtfflbiojcoehmabOwnS
import Derived.Test.YtfflbiojcoehmabFreeA
import Derived.Test.YtfflbiojcoehmabCutB
import Derived.Test.YtfflbiojcoehmabPair
import Derived.RegionTactic
namespace Go.Proofs.Ytfflbiojcoehmab
open Go.RowKit Go.Shelf
attribute [local go_sem] Option.isSome_some Ext.cell Ext.frozen Ext.lt Ext.le Ext.lt_add Ext.le_add Ext.ne Ext.ne' lt2 lt3 lt4 lt5 le2 le3 le4
theorem bare_get {l m : List BodyR} (h : l.map BodyR.bare = m.map BodyR.bare) {i : Nat} (hi : i < l.length) (hj : i < m.length) : l[i].mu = m[i].mu ∧ l[i].rad = m[i].rad ∧ l[i].track = m[i].track := by
  have h1 : (l.map BodyR.bare)[i]? = (m.map BodyR.bare)[i]? := by rw [h]
  rw [List.getElem?_map, List.getElem?_map, List.getElem?_eq_getElem hi, List.getElem?_eq_getElem hj] at h1
  simp only [Option.map_some, Option.some.injEq] at h1
  exact bare_eq h1
def pairDeps : List (List Nat) := [[], [0], [], [1, 2], [3], [], [5], [], [6, 7], [8], [], [], [10, 4], [11, 9, 12]]
/-- What holds between the operations of the region 'x, y := a.Bodies[i], b.Bodies[i]'. -/
def PairInv (R B o B' o' i n c d : Nat) (mu rad : Int) (u u' : Value) (a0 : Act) (X : World) (l : List Bool) (fr : Act) (W : World) : Prop :=
  ∃ s6 s7 s30 s31 s32 s33 s34 s35 s36 s37 s38 s39 : Value, fr = sets a0 [(6, s6), (7, s7), (30, s30), (31, s31), (32, s32), (33, s33), (34, s34), (35, s35), (36, s36), (37, s37), (38, s38), (39, s39)] ∧ Below X.heap.size X W ∧ (l.getD 10 false = true → l.getD 11 false = true → s6 ≠ s7) ∧ (l.getD 12 false = true → l.getD 10 false = true) ∧ (l.getD 13 false = true → l.getD 11 false = true) ∧
    (l.getD 0 false = true → s30 = .pointer (some ⟨R, 0, none⟩)) ∧
    (l.getD 1 false = true → s31 = .slice (some ⟨B, o, none⟩) n c) ∧
    (l.getD 2 false = true → s32 = .int .i64 i) ∧
    (l.getD 3 false = true → s33 = .pointer (some ⟨B, o + i * 3, none⟩)) ∧
    (l.getD 4 false = true → s34 = .agg #[.int .i64 mu, .int .i64 rad, u]) ∧
    (l.getD 5 false = true → s35 = .pointer (some ⟨R + 1, 0, none⟩)) ∧
    (l.getD 6 false = true → s36 = .slice (some ⟨B', o', none⟩) n d) ∧
    (l.getD 7 false = true → s37 = .int .i64 i) ∧
    (l.getD 8 false = true → s38 = .pointer (some ⟨B', o' + i * 3, none⟩)) ∧
    (l.getD 9 false = true → s39 = .agg #[.int .i64 mu, .int .i64 rad, u']) ∧
    (l.getD 10 false = true → ∃ b : Nat, s6 = .pointer (some ⟨b, 0, none⟩) ∧ X.heap.size ≤ b ∧ b < W.heap.size ∧ ∃ cs, cs.size = 3 ∧ W.heap[b]? = some (.cells cs 52 (0, 0)) ∧ (l.getD 12 false = true → cs = #[.int .i64 mu, .int .i64 rad, u])) ∧
    (l.getD 11 false = true → ∃ b : Nat, s7 = .pointer (some ⟨b, 0, none⟩) ∧ X.heap.size ≤ b ∧ b < W.heap.size ∧ ∃ cs, cs.size = 3 ∧ W.heap[b]? = some (.cells cs 52 (0, 0)) ∧ (l.getD 13 false = true → cs = #[.int .i64 mu, .int .i64 rad, u']))
def PairTold (mu rad : Int) (s s' : Value) : Act → World → Act → World → Prop := fun a W a' W' => ∃ (BA BB : Nat) (y : Ext W), a' = sets a [(6, .pointer (some ⟨BA, 0, none⟩)), (7, .pointer (some ⟨BB, 0, none⟩)), (30, a'.tmps.getD 30 undef), (31, a'.tmps.getD 31 undef), (32, a'.tmps.getD 32 undef), (33, a'.tmps.getD 33 undef), (34, a'.tmps.getD 34 undef), (35, a'.tmps.getD 35 undef), (36, a'.tmps.getD 36 undef), (37, a'.tmps.getD 37 undef), (38, a'.tmps.getD 38 undef), (39, a'.tmps.getD 39 undef)] ∧ W' = y.now ∧ BA < y.now.heap.size ∧ BB < y.now.heap.size ∧
  y.now.cell? ⟨BA, 0, none⟩ = some (.int .i64 mu) ∧ y.now.cell? ⟨BA, 1, none⟩ = some (.int .i64 rad) ∧ y.now.cell? ⟨BA, 2, none⟩ = some s ∧ y.now.cell? ⟨BB, 0, none⟩ = some (.int .i64 mu) ∧ y.now.cell? ⟨BB, 1, none⟩ = some (.int .i64 rad) ∧ y.now.cell? ⟨BB, 2, none⟩ = some s'
theorem PairTold.intro {mu rad : Int} {s s' : Value} {a a' : Act} {W W' : World} (BA BB : Nat) (u2 : W'.cell? ⟨BA, 2, none⟩ = some s) (v2 : W'.cell? ⟨BB, 2, none⟩ = some s') (hB : Below W.heap.size W W') (ha : a' = sets a [(6, .pointer (some ⟨BA, 0, none⟩)), (7, .pointer (some ⟨BB, 0, none⟩)), (30, a'.tmps.getD 30 undef), (31, a'.tmps.getD 31 undef), (32, a'.tmps.getD 32 undef), (33, a'.tmps.getD 33 undef), (34, a'.tmps.getD 34 undef), (35, a'.tmps.getD 35 undef), (36, a'.tmps.getD 36 undef), (37, a'.tmps.getD 37 undef), (38, a'.tmps.getD 38 undef), (39, a'.tmps.getD 39 undef)]) (g3 : BA < W'.heap.size) (g4 : BB < W'.heap.size) (u0 : W'.cell? ⟨BA, 0, none⟩ = some (.int .i64 mu)) (u1 : W'.cell? ⟨BA, 1, none⟩ = some (.int .i64 rad)) (v0 : W'.cell? ⟨BB, 0, none⟩ = some (.int .i64 mu)) (v1 : W'.cell? ⟨BB, 1, none⟩ = some (.int .i64 rad)) : PairTold mu rad s s' a W a' W' :=
  ⟨BA, BB, ⟨W', hB⟩, ha, rfl, g3, g4, u0, u1, u2, v0, v1, v2⟩
set_option maxRecDepth 100000 in
set_option maxHeartbeats 8000000 in
theorem SameWorld_eq (p q : Option Addr) (c d : Nat) (l m : List BodyR) (h : Int) (w : World) (hP : BodiesAt w p l) (hQ : BodiesAt w q m) (he : l.map BodyR.bare = m.map BodyR.bare) (hn : l.length ≤ 1000) (ht : ∀ b ∈ l, b.track.length ≤ 5000) :
    Calls Try.prog 41 #[wval p l.length c h, wval q m.length d h] w (Gives (.bool true) w) := by
  have hlm : m.length = l.length := (bare_len he).symm
  rw [hlm]
  unfold wval
  replace hP := Go.Lib.hid (fun (W : World) (y : Below w.heap.size w W) => hP.on y)
  replace hQ := Go.Lib.hid (fun (W : World) (y : Below w.heap.size w W) => hQ.on y)
  have hg := Go.Lib.hid (fun (i : Nat) (hi : i < l.length) (hj : i < m.length) => bare_get he hi hj)
  clear he
  replace ht := Go.Lib.hid ht
  replace hlm := Go.Lib.hid hlm
  go_enter Try.func41, Try.ntmps41
  go_wp2_with fail
  refine wp_named (fun W0 hW => ?_)
  have a0 : W0.cell? ⟨w.heap.size, 0, none⟩ = some (.slice p l.length c) := by rw [← hW]; simp [go_sem]
  have a1 : W0.cell? ⟨w.heap.size, 1, none⟩ = some (.int .i64 h) := by rw [← hW]; simp [go_sem]
  have b0 : W0.cell? ⟨w.heap.size + 1, 0, none⟩ = some (.slice q l.length d) := by rw [← hW]; simp [go_sem]
  have b1 : W0.cell? ⟨w.heap.size + 1, 1, none⟩ = some (.int .i64 h) := by rw [← hW]; simp [go_sem]
  have hbw : Below w.heap.size w W0 := by rw [← hW]; repeat' (first | (with_reducible exact Below.refl _ _) | (with_reducible assumption) | (with_reducible refine Ext.below _ ?_ ?_) | (with_reducible refine Below.on ?_ (by with_reducible assumption) ?_) | (with_reducible refine Below.alloc ?_ ?_ _) | (with_reducible refine Below.drew ?_) | (with_reducible refine Below.setCell ?_ ?_ _) | (with_reducible exact Nat.le_refl _) | omega | (simp; done) | (simp [go_sem]; done) | (simp at *; omega))
  have hs0 : w.heap.size + 1 < W0.heap.size := by rw [← hW]; simp
  have hs00 : w.heap.size < W0.heap.size := by omega
  clear hW
  have hP0 := Go.Lib.hid (hP.out W0 hbw)
  have hQ0 := Go.Lib.hid (hQ.out W0 hbw)
  clear hP hQ
  go_loopw [5] (fun u W => ∃ (i : Nat) (x : Ext W0), u = .int .i64 i ∧ W = x.now ∧ Hid (i ≤ l.length)) (fun u _ => l.length - (intOf u).toNat)
  case atStart => exact ⟨0, ⟨W0, Below.refl _ _⟩, rfl, rfl, Go.Lib.hid (Nat.zero_le _)⟩
  case round =>
    obtain ⟨i, x, rfl, rfl, hi⟩ := hrel
    have xs := x.size
    have hbx := x.below hbw (by omega)
    have : w.heap.size < (x.now).heap.size := (by omega); have : w.heap.size < (x.now).heap.size + 1 := (by omega); have : w.heap.size < (x.now).heap.size + 1 + 1 := (by omega); have : w.heap.size ≠ (x.now).heap.size := (by omega); have : w.heap.size ≠ (x.now).heap.size + 1 := (by omega)
    have : w.heap.size + 1 < (x.now).heap.size := (by omega); have : w.heap.size + 1 < (x.now).heap.size + 1 := (by omega); have : w.heap.size + 1 < (x.now).heap.size + 1 + 1 := (by omega); have : w.heap.size + 1 ≠ (x.now).heap.size := (by omega); have : w.heap.size + 1 ≠ (x.now).heap.size + 1 := (by omega)
    by_cases hlt : i < l.length
    · have hlt2 : (i : Int) < l.length := by omega
      have hltm : i < m.length := by have := hlm.out; omega
      obtain ⟨hv, B, o, rfl, hB, r1, r2, r3⟩ := hP0.out i hlt
      obtain ⟨hv', B', o', rfl, hB', r1', r2', r3'⟩ := hQ0.out i hltm
      obtain ⟨e1, e2, e3⟩ := hg.out i hlt hltm
      rw [← e1] at r1'
      rw [← e2] at r2'
      rw [← e3] at r3' hv'
      clear e1 e2 e3
      have : B < (x.now).heap.size := (by omega); have : B < (x.now).heap.size + 1 := (by omega); have : B < (x.now).heap.size + 1 + 1 := (by omega); have : B ≠ (x.now).heap.size := (by omega); have : B ≠ (x.now).heap.size + 1 := (by omega)
      have : B' < (x.now).heap.size := (by omega); have : B' < (x.now).heap.size + 1 := (by omega); have : B' < (x.now).heap.size + 1 + 1 := (by omega); have : B' ≠ (x.now).heap.size := (by omega); have : B' ≠ (x.now).heap.size + 1 := (by omega)
      have hv := Go.Lib.hid (hv.ext x)
      have hv' := Go.Lib.hid (hv'.ext x)
      have htl := ht.out l[i] (List.getElem_mem hlt)
      clear hi
      generalize l[i].mu = mu at *
      generalize l[i].rad = rad at *
      generalize l[i].tp = tp at *
      generalize l[i].tc = tc at *
      generalize m[i].tp = tp' at *
      generalize m[i].tc = tc' at *
      generalize l[i].track = tr at *
      go_wp2_with fail
      refine wp_tell (PairTold mu rad (.slice tp tr.length tc) (.slice tp' tr.length tc')) ?_ ?_
      focus
        have z0 := (x.cell (o := 0) hs00).trans a0
        have z1 := (x.cell (o := 0) hs0).trans b0
        have q1 := (x.cell (o := o + i * 3) hB).trans r1
        have q2 := (x.cell (o := o + i * 3 + 1) hB).trans r2
        have q3 := (x.cell (o := o + i * 3 + 2) hB).trans r3
        have q1' := (x.cell (o := o' + i * 3) hB').trans r1'
        have q2' := (x.cell (o := o' + i * 3 + 1) hB').trans r2'
        have q3' := (x.cell (o := o' + i * 3 + 2) hB').trans r3'
        have t0 : w.heap.size < x.now.heap.size := by omega
        have t1 : w.heap.size + 1 < x.now.heap.size := by omega
        have t2 : B < x.now.heap.size := by omega
        have t3 : B' < x.now.heap.size := by omega
        clear hv hv' hP0 hQ0 hg hlm a0 a1 b0 b1 hbw hbx hs0 hs00 htl r1 r2 r3 r1' r2' r3' hltm hB hB' xs ht
        generalize x.now = X at *
        clear x
        repeat (rename_i zz; clear zz)
        refine region_dep (by kernel_rfl) pairDeps (by kernel_rfl) (PairInv w.heap.size B o B' o' i l.length c d mu rad (.slice tp tr.length tc) (.slice tp' tr.length tc')) ?h0 ?hstep ?hend
        case h0 =>
          refine ⟨?z0, ?z1, ?z2, ?z3, ?z4, ?z5, ?z6, ?z7, ?z8, ?z9, ?z10, ?z11, ?fr, (Below.refl _ _).drew, by simp, by simp, by simp, by simp, by simp, by simp, by simp, by simp, by simp, by simp, by simp, by simp, by simp, by simp, by simp⟩
          case fr =>
            simp only [sets, List.foldl_cons, List.foldl_nil, List.set_cons_succ, List.set_cons_zero]
            rfl
        case hend =>
          rintro l' fr W hl hall ⟨s6, s7, s30, s31, s32, s33, s34, s35, s36, s37, s38, s39, rfl, hB, g, g12, g13, f0, f1, f2, f3, f4, f5, f6, f7, f8, f9, f10, f11⟩
          obtain ⟨b0, b1, b2, b3, b4, b5, b6, b7, b8, b9, b10, b11, b12, b13, rfl⟩ := list14 hl
          simp only [List.all_cons, id, Bool.and_eq_true] at hall
          obtain ⟨rfl, rfl, rfl, rfl, rfl, rfl, rfl, rfl, rfl, rfl, rfl, rfl, rfl, rfl, -⟩ := hall
          obtain ⟨BA, rfl, hA1, hA2, cs, hcs, hA3, hA4⟩ := f10 rfl
          obtain ⟨BB, rfl, hB1, hB2, cs', hcs', hB3, hB4⟩ := f11 rfl
          obtain rfl := hA4 rfl
          obtain rfl := hB4 rfl
          exact ⟨rfl, PairTold.intro BA BB (cell_of_row W BA 2 _ _ _ hA3) (cell_of_row W BB 2 _ _ _ hB3) hB (by kernel_rfl) hA2 hB2 (cell_of_row W BA 0 _ _ _ hA3) (cell_of_row W BA 1 _ _ _ hA3) (cell_of_row W BB 0 _ _ _ hB3) (cell_of_row W BB 1 _ _ _ hB3)⟩
        case hstep =>
          rintro l' fr W ii hl ⟨s6, s7, s30, s31, s32, s33, s34, s35, s36, s37, s38, s39, rfl, hB, g, g12, g13, f0, f1, f2, f3, f4, f5, f6, f7, f8, f9, f10, f11⟩ hr hi
          obtain ⟨b0, b1, b2, b3, b4, b5, b6, b7, b8, b9, b10, b11, b12, b13, rfl⟩ := list14 hl
          have sW := hB.size
          replace z0 := (hB.cell (p := ⟨w.heap.size, 0, none⟩) t0).trans z0
          replace z1 := (hB.cell (p := ⟨w.heap.size + 1, 0, none⟩) t1).trans z1
          replace q1 := (hB.cell (p := ⟨B, o + i * 3, none⟩) t2).trans q1
          replace q2 := (hB.cell (p := ⟨B, o + i * 3 + 1, none⟩) t2).trans q2
          replace q3 := (hB.cell (p := ⟨B, o + i * 3 + 2, none⟩) t2).trans q3
          replace q1' := (hB.cell (p := ⟨B', o' + i * 3, none⟩) t3).trans q1'
          replace q2' := (hB.cell (p := ⟨B', o' + i * 3 + 1, none⟩) t3).trans q2'
          replace q3' := (hB.cell (p := ⟨B', o' + i * 3 + 2, none⟩) t3).trans q3'
          simp only [List.getD_cons_zero, List.getD_cons_succ] at g g12 g13 f0 f1 f2 f3 f4 f5 f6 f7 f8 f9 f10 f11
          replace g := Go.Lib.hid g
          replace g12 := Go.Lib.hid g12
          replace g13 := Go.Lib.hid g13
          replace hB := Go.Lib.hid hB
          replace f0 := Go.Lib.hid f0
          replace f1 := Go.Lib.hid f1
          replace f2 := Go.Lib.hid f2
          replace f3 := Go.Lib.hid f3
          replace f4 := Go.Lib.hid f4
          replace f5 := Go.Lib.hid f5
          replace f6 := Go.Lib.hid f6
          replace f7 := Go.Lib.hid f7
          replace f8 := Go.Lib.hid f8
          replace f9 := Go.Lib.hid f9
          replace f10 := Go.Lib.hid f10
          replace f11 := Go.Lib.hid f11
          rcases ii with _ | _ | _ | _ | _ | _ | _ | _ | _ | _ | _ | _ | _ | _ | ii
          · refine wpOp_step rfl (fun K hK => ?_)
            simp only [sets, List.foldl_cons, List.foldl_nil, List.set_cons_succ, List.set_cons_zero]
            clear hi
            go_simp
            exact hK _ _ ⟨s6, s7, (.pointer (some ⟨w.heap.size, 0, none⟩)), s31, s32, s33, s34, s35, s36, s37, s38, s39, by kernel_rfl, hB.out, g.out, g12.out, g13.out, fun _ => rfl, f1.out, f2.out, f3.out, f4.out, f5.out, f6.out, f7.out, f8.out, f9.out, f10.out, f11.out⟩
          · simp only [pairDeps, List.getD_cons_zero, List.getD_cons_succ, List.all_cons, List.all_nil, Bool.and_true] at hr
            have hd0 := hr
            refine wpOp_step rfl (fun K hK => ?_)
            obtain rfl := f0.out hd0
            simp only [sets, List.foldl_cons, List.foldl_nil, List.set_cons_succ, List.set_cons_zero]
            clear hi
            go_simp
            exact hK _ _ ⟨s6, s7, (.pointer (some ⟨w.heap.size, 0, none⟩)), (.slice (some ⟨B, o, none⟩) l.length c), s32, s33, s34, s35, s36, s37, s38, s39, by kernel_rfl, hB.out, g.out, g12.out, g13.out, f0.out, fun _ => rfl, f2.out, f3.out, f4.out, f5.out, f6.out, f7.out, f8.out, f9.out, f10.out, f11.out⟩
          · refine wpOp_step rfl (fun K hK => ?_)
            simp only [sets, List.foldl_cons, List.foldl_nil, List.set_cons_succ, List.set_cons_zero]
            clear hi
            go_simp
            exact hK _ _ ⟨s6, s7, s30, s31, (.int .i64 i), s33, s34, s35, s36, s37, s38, s39, by kernel_rfl, hB.out, g.out, g12.out, g13.out, f0.out, f1.out, fun _ => rfl, f3.out, f4.out, f5.out, f6.out, f7.out, f8.out, f9.out, f10.out, f11.out⟩
          · simp only [pairDeps, List.getD_cons_zero, List.getD_cons_succ, List.all_cons, List.all_nil, Bool.and_true, Bool.and_eq_true] at hr
            obtain ⟨hd1, hd2⟩ := hr
            refine wpOp_step rfl (fun K hK => ?_)
            obtain rfl := f1.out hd1
            obtain rfl := f2.out hd2
            simp only [sets, List.foldl_cons, List.foldl_nil, List.set_cons_succ, List.set_cons_zero]
            clear hi
            go_simp
            exact hK _ _ ⟨s6, s7, s30, (.slice (some ⟨B, o, none⟩) l.length c), (.int .i64 i), (.pointer (some ⟨B, o + i * 3, none⟩)), s34, s35, s36, s37, s38, s39, by kernel_rfl, hB.out, g.out, g12.out, g13.out, f0.out, f1.out, f2.out, fun _ => rfl, f4.out, f5.out, f6.out, f7.out, f8.out, f9.out, f10.out, f11.out⟩
          · simp only [pairDeps, List.getD_cons_zero, List.getD_cons_succ, List.all_cons, List.all_nil, Bool.and_true] at hr
            have hd3 := hr
            refine wpOp_step rfl (fun K hK => ?_)
            obtain rfl := f3.out hd3
            simp only [sets, List.foldl_cons, List.foldl_nil, List.set_cons_succ, List.set_cons_zero]
            clear hi
            go_simp
            exact hK _ _ ⟨s6, s7, s30, s31, s32, (.pointer (some ⟨B, o + i * 3, none⟩)), (.agg #[.int .i64 mu, .int .i64 rad, .slice tp tr.length tc]), s35, s36, s37, s38, s39, by kernel_rfl, hB.out, g.out, g12.out, g13.out, f0.out, f1.out, f2.out, f3.out, fun _ => rfl, f5.out, f6.out, f7.out, f8.out, f9.out, f10.out, f11.out⟩
          · refine wpOp_step rfl (fun K hK => ?_)
            simp only [sets, List.foldl_cons, List.foldl_nil, List.set_cons_succ, List.set_cons_zero]
            clear hi
            go_simp
            exact hK _ _ ⟨s6, s7, s30, s31, s32, s33, s34, (.pointer (some ⟨w.heap.size + 1, 0, none⟩)), s36, s37, s38, s39, by kernel_rfl, hB.out, g.out, g12.out, g13.out, f0.out, f1.out, f2.out, f3.out, f4.out, fun _ => rfl, f6.out, f7.out, f8.out, f9.out, f10.out, f11.out⟩
          · simp only [pairDeps, List.getD_cons_zero, List.getD_cons_succ, List.all_cons, List.all_nil, Bool.and_true] at hr
            have hd5 := hr
            refine wpOp_step rfl (fun K hK => ?_)
            obtain rfl := f5.out hd5
            simp only [sets, List.foldl_cons, List.foldl_nil, List.set_cons_succ, List.set_cons_zero]
            clear hi
            go_simp
            exact hK _ _ ⟨s6, s7, s30, s31, s32, s33, s34, (.pointer (some ⟨w.heap.size + 1, 0, none⟩)), (.slice (some ⟨B', o', none⟩) l.length d), s37, s38, s39, by kernel_rfl, hB.out, g.out, g12.out, g13.out, f0.out, f1.out, f2.out, f3.out, f4.out, f5.out, fun _ => rfl, f7.out, f8.out, f9.out, f10.out, f11.out⟩
          · refine wpOp_step rfl (fun K hK => ?_)
            simp only [sets, List.foldl_cons, List.foldl_nil, List.set_cons_succ, List.set_cons_zero]
            clear hi
            go_simp
            exact hK _ _ ⟨s6, s7, s30, s31, s32, s33, s34, s35, s36, (.int .i64 i), s38, s39, by kernel_rfl, hB.out, g.out, g12.out, g13.out, f0.out, f1.out, f2.out, f3.out, f4.out, f5.out, f6.out, fun _ => rfl, f8.out, f9.out, f10.out, f11.out⟩
          · simp only [pairDeps, List.getD_cons_zero, List.getD_cons_succ, List.all_cons, List.all_nil, Bool.and_true, Bool.and_eq_true] at hr
            obtain ⟨hd6, hd7⟩ := hr
            refine wpOp_step rfl (fun K hK => ?_)
            obtain rfl := f6.out hd6
            obtain rfl := f7.out hd7
            simp only [sets, List.foldl_cons, List.foldl_nil, List.set_cons_succ, List.set_cons_zero]
            clear hi
            go_simp
            exact hK _ _ ⟨s6, s7, s30, s31, s32, s33, s34, s35, (.slice (some ⟨B', o', none⟩) l.length d), (.int .i64 i), (.pointer (some ⟨B', o' + i * 3, none⟩)), s39, by kernel_rfl, hB.out, g.out, g12.out, g13.out, f0.out, f1.out, f2.out, f3.out, f4.out, f5.out, f6.out, f7.out, fun _ => rfl, f9.out, f10.out, f11.out⟩
          · simp only [pairDeps, List.getD_cons_zero, List.getD_cons_succ, List.all_cons, List.all_nil, Bool.and_true] at hr
            have hd8 := hr
            refine wpOp_step rfl (fun K hK => ?_)
            obtain rfl := f8.out hd8
            simp only [sets, List.foldl_cons, List.foldl_nil, List.set_cons_succ, List.set_cons_zero]
            clear hi
            go_simp
            exact hK _ _ ⟨s6, s7, s30, s31, s32, s33, s34, s35, s36, s37, (.pointer (some ⟨B', o' + i * 3, none⟩)), (.agg #[.int .i64 mu, .int .i64 rad, .slice tp' tr.length tc']), by kernel_rfl, hB.out, g.out, g12.out, g13.out, f0.out, f1.out, f2.out, f3.out, f4.out, f5.out, f6.out, f7.out, f8.out, fun _ => rfl, f10.out, f11.out⟩
          · refine wpOp_step rfl (fun K hK => ?_)
            simp only [sets, List.foldl_cons, List.foldl_nil, List.set_cons_succ, List.set_cons_zero]
            replace hi := Go.Lib.hid hi
            go_simp
            exact hK _ _ ⟨(.pointer (some ⟨W.heap.size, 0, none⟩)), s7, s30, s31, s32, s33, s34, s35, s36, s37, s38, s39, by kernel_rfl, hB.out.alloc sW _, fun _ h => by
                obtain ⟨b, e1, e2, e3, -⟩ := f11.out h
                rw [e1]; intro e; injection e with e; injection e with e; injection e with e; omega, fun _ => rfl, g13.out, f0.out, f1.out, f2.out, f3.out, f4.out, f5.out, f6.out, f7.out, f8.out, f9.out, fun _ => ⟨W.heap.size, rfl, sW, by simp, _, by rfl, heap_alloc_new _ _, fun h => by
                have h2 := g12.out h
                have hi := hi.out
                simp only [List.getElem?_cons_zero, List.getElem?_cons_succ, Option.some.injEq] at hi
                rw [hi] at h2; cases h2⟩, fun h => by
                obtain ⟨b, e1, e2, e3, cs, e4, e5, e6⟩ := f11.out h
                exact ⟨b, e1, e2, by simp only [World.size_alloc]; omega, cs, e4, (heap_alloc_old _ _ e3).trans e5, e6⟩⟩
          · refine wpOp_step rfl (fun K hK => ?_)
            simp only [sets, List.foldl_cons, List.foldl_nil, List.set_cons_succ, List.set_cons_zero]
            replace hi := Go.Lib.hid hi
            go_simp
            exact hK _ _ ⟨s6, (.pointer (some ⟨W.heap.size, 0, none⟩)), s30, s31, s32, s33, s34, s35, s36, s37, s38, s39, by kernel_rfl, hB.out.alloc sW _, fun h _ => by
                obtain ⟨b, e1, e2, e3, -⟩ := f10.out h
                rw [e1]; intro e; injection e with e; injection e with e; injection e with e; omega, g12.out, fun _ => rfl, f0.out, f1.out, f2.out, f3.out, f4.out, f5.out, f6.out, f7.out, f8.out, f9.out, fun h => by
                obtain ⟨b, e1, e2, e3, cs, e4, e5, e6⟩ := f10.out h
                exact ⟨b, e1, e2, by simp only [World.size_alloc]; omega, cs, e4, (heap_alloc_old _ _ e3).trans e5, e6⟩, fun _ => ⟨W.heap.size, rfl, sW, by simp, _, by rfl, heap_alloc_new _ _, fun h => by
                have h2 := g13.out h
                have hi := hi.out
                simp only [List.getElem?_cons_zero, List.getElem?_cons_succ, Option.some.injEq] at hi
                rw [hi] at h2; cases h2⟩⟩
          · simp only [pairDeps, List.getD_cons_zero, List.getD_cons_succ, List.all_cons, List.all_nil, Bool.and_true, Bool.and_eq_true] at hr
            obtain ⟨hd10, hd4⟩ := hr
            obtain rfl := f4.out hd4
            obtain ⟨b, rfl, e2, e3, cs, e4, e5, e6⟩ := f10.out hd10
            refine wpOp_step rfl (fun K hK => ?_)
            simp only [sets, List.foldl_cons, List.foldl_nil, List.set_cons_succ, List.set_cons_zero]
            refine (if_pos (by rfl)).mpr ?_
            refine store_op 52 (.tmp 6) (.tmp 34) rfl b #[.int .i64 mu, .int .i64 rad, .slice tp tr.length tc] rfl rfl 52 cs e5 (by kernel_rfl) (by rw [e4]; rfl) (by simp [Value.oneCell']) ?_
            exact hK _ _ ⟨(.pointer (some ⟨b, 0, none⟩)), s7, s30, s31, s32, s33, (.agg #[.int .i64 mu, .int .i64 rad, .slice tp tr.length tc]), s35, s36, s37, s38, s39, by kernel_rfl, below_setRow hB.out e2 _, g.out, fun _ => hd10, g13.out, f0.out, f1.out, f2.out, f3.out, f4.out, f5.out, f6.out, f7.out, f8.out, f9.out, fun _ => ⟨b, rfl, e2, by simpa using e3, #[.int .i64 mu, .int .i64 rad, .slice tp tr.length tc], rfl, setRow_heap W b cs #[.int .i64 mu, .int .i64 rad, .slice tp tr.length tc] 52 (0, 0) e5, fun _ => rfl⟩, fun h => by
                obtain ⟨b', e1', e2', e3', cs', e4', e5', e6'⟩ := f11.out h
                have hne : b' ≠ b := fun e => g.out hd10 h (by rw [e1', e])
                exact ⟨b', e1', e2', by simpa using e3', cs', e4', (setRow_other W b b' _ hne).trans e5', e6'⟩⟩
          · simp only [pairDeps, List.getD_cons_zero, List.getD_cons_succ, List.all_cons, List.all_nil, Bool.and_true, Bool.and_eq_true] at hr
            obtain ⟨hd11, hd9, hd12⟩ := hr
            obtain rfl := f9.out hd9
            obtain ⟨b, rfl, e2, e3, cs, e4, e5, e6⟩ := f11.out hd11
            refine wpOp_step rfl (fun K hK => ?_)
            simp only [sets, List.foldl_cons, List.foldl_nil, List.set_cons_succ, List.set_cons_zero]
            refine (if_pos (by rfl)).mpr ?_
            refine store_op 52 (.tmp 7) (.tmp 39) rfl b #[.int .i64 mu, .int .i64 rad, .slice tp' tr.length tc'] rfl rfl 52 cs e5 (by kernel_rfl) (by rw [e4]; rfl) (by simp [Value.oneCell']) ?_
            exact hK _ _ ⟨s6, (.pointer (some ⟨b, 0, none⟩)), s30, s31, s32, s33, s34, s35, s36, s37, s38, (.agg #[.int .i64 mu, .int .i64 rad, .slice tp' tr.length tc']), by kernel_rfl, below_setRow hB.out e2 _, g.out, g12.out, fun _ => hd11, f0.out, f1.out, f2.out, f3.out, f4.out, f5.out, f6.out, f7.out, f8.out, f9.out, fun h => by
                obtain ⟨b', e1', e2', e3', cs', e4', e5', e6'⟩ := f10.out h
                have hne : b' ≠ b := fun e => g.out h hd11 (by rw [e1', e])
                exact ⟨b', e1', e2', by simpa using e3', cs', e4', (setRow_other W b b' _ hne).trans e5', e6'⟩, fun _ => ⟨b, rfl, e2, by simpa using e3, #[.int .i64 mu, .int .i64 rad, .slice tp' tr.length tc'], rfl, setRow_heap W b cs #[.int .i64 mu, .int .i64 rad, .slice tp' tr.length tc'] 52 (0, 0) e5, fun _ => rfl⟩⟩
          · simp at hi
      rintro a' W4 ⟨BA, BB, y, ha4, rfl, g3, g4, u0, u1, u2, v0, v1, v2⟩
      generalize a'.tmps.getD 30 undef = s30 at ha4
      generalize a'.tmps.getD 31 undef = s31 at ha4
      generalize a'.tmps.getD 32 undef = s32 at ha4
      generalize a'.tmps.getD 33 undef = s33 at ha4
      generalize a'.tmps.getD 34 undef = s34 at ha4
      generalize a'.tmps.getD 35 undef = s35 at ha4
      generalize a'.tmps.getD 36 undef = s36 at ha4
      generalize a'.tmps.getD 37 undef = s37 at ha4
      generalize a'.tmps.getD 38 undef = s38 at ha4
      generalize a'.tmps.getD 39 undef = s39 at ha4
      subst ha4
      simp only [sets, List.foldl_cons, List.foldl_nil, List.set_cons_succ, List.set_cons_zero]
      have hv4 := Go.Lib.hid (hv.out.ext y)
      have hv4' := Go.Lib.hid (hv'.out.ext y)
      have hB4 : Below W0.heap.size W0 y.now := Below.on x.grew y.grew (by omega)
      have s4 := y.size
      clear hv hv' r1 r2 r3 r1' r2' r3' hbx
      generalize y.now = W4 at *
      clear y
      go_wp2_with fail
      go_loopw [8] (fun u W => ∃ (k : Nat) (z : Ext W4), u = .int .i64 k ∧ W = z.now ∧ Hid (k ≤ tr.length)) (fun u _ => tr.length - (intOf u).toNat)
      case atStart => exact ⟨0, ⟨W4, Below.refl _ _⟩, rfl, rfl, Go.Lib.hid (Nat.zero_le _)⟩
      case round =>
        obtain ⟨k, z, rfl, rfl, hk⟩ := hrel
        have zs := z.size
        have : BA < (z.now).heap.size := (by omega); have : BA < (z.now).heap.size + 1 := (by omega); have : BA < (z.now).heap.size + 1 + 1 := (by omega); have : BA ≠ (z.now).heap.size := (by omega); have : BA ≠ (z.now).heap.size + 1 := (by omega)
        have : BB < (z.now).heap.size := (by omega); have : BB < (z.now).heap.size + 1 := (by omega); have : BB < (z.now).heap.size + 1 + 1 := (by omega); have : BB ≠ (z.now).heap.size := (by omega); have : BB ≠ (z.now).heap.size + 1 := (by omega)
        by_cases hkt : k < tr.length
        · have hkt2 : (k : Int) < tr.length := by omega
          obtain ⟨C, oc, rfl, hC, t1, t2⟩ := hv4.out k hkt
          obtain ⟨C', oc', rfl, hC', t1', t2'⟩ := hv4'.out k hkt
          have : C < (z.now).heap.size := (by omega); have : C < (z.now).heap.size + 1 := (by omega); have : C < (z.now).heap.size + 1 + 1 := (by omega); have : C ≠ (z.now).heap.size := (by omega); have : C ≠ (z.now).heap.size + 1 := (by omega)
          have : C' < (z.now).heap.size := (by omega); have : C' < (z.now).heap.size + 1 := (by omega); have : C' < (z.now).heap.size + 1 + 1 := (by omega); have : C' ≠ (z.now).heap.size := (by omega); have : C' ≠ (z.now).heap.size + 1 := (by omega)
          clear hk
          generalize tr[k].x = vx at *
          generalize tr[k].y = vy at *
          go_wp2_with (first | ((first | with_reducible refine wp_region_ext2 (by kernel_rfl) (by kernel_rfl) ?_ | with_reducible refine wp_region_ext (by kernel_rfl) (by kernel_rfl) ?_); (repeat (first | go_big_quiet_step ((first | fail)) | quiet_step ((first | fail)))); refine wpQuiet_nil ?_; rintro _ ⟨yr, rfl⟩; have syr := Ext.size yr; (repeat (first | rw [World.size_alloc] at syr | rw [World.size_setCell] at syr | rw [World.size_drew] at syr)); have : BA < yr.now.heap.size := (by omega); have : BA ≤ yr.now.heap.size := (by omega); have : BA < yr.now.heap.size + 1 + 1 := (by omega); have : BB < yr.now.heap.size := (by omega); have : BB ≤ yr.now.heap.size := (by omega); have : BB < yr.now.heap.size + 1 + 1 := (by omega)))
          refine ⟨⟨k + 1, ⟨_, ?_⟩, by simp, rfl, Go.Lib.hid hkt⟩, by simp [intOf]; omega⟩
          repeat' (first | (with_reducible exact Below.refl _ _) | (with_reducible assumption) | (with_reducible refine Ext.below _ ?_ ?_) | (with_reducible refine Below.on ?_ (by with_reducible assumption) ?_) | (with_reducible refine Below.alloc ?_ ?_ _) | (with_reducible refine Below.drew ?_) | (with_reducible refine Below.setCell ?_ ?_ _) | (with_reducible exact Nat.le_refl _) | omega | (simp; done) | (simp [go_sem]; done) | (simp at *; omega))
        · have hge : ¬ (k : Int) < tr.length := by omega
          go_wp2_with (first | ((first | with_reducible refine wp_region_ext2 (by kernel_rfl) (by kernel_rfl) ?_ | with_reducible refine wp_region_ext (by kernel_rfl) (by kernel_rfl) ?_); (repeat (first | go_big_quiet_step ((first | fail)) | quiet_step ((first | fail)))); refine wpQuiet_nil ?_; rintro _ ⟨yr, rfl⟩; have syr := Ext.size yr; (repeat (first | rw [World.size_alloc] at syr | rw [World.size_setCell] at syr | rw [World.size_drew] at syr))))
          refine ⟨⟨i + 1, ⟨_, ?_⟩, by simp, rfl, Go.Lib.hid hlt⟩, by simp [intOf]; omega⟩
          exact Below.on hB4 z.grew (by omega)
    · have hge : ¬ (i : Int) < l.length := by omega
      go_wp2_with (first | ((first | with_reducible refine wp_region_ext2 (by kernel_rfl) (by kernel_rfl) ?_ | with_reducible refine wp_region_ext (by kernel_rfl) (by kernel_rfl) ?_); (repeat (first | go_big_quiet_step ((first | fail)) | quiet_step ((first | fail)))); refine wpQuiet_nil ?_; rintro _ ⟨yr, rfl⟩; have syr := Ext.size yr; (repeat (first | rw [World.size_alloc] at syr | rw [World.size_setCell] at syr | rw [World.size_drew] at syr))))
      go_returns
      refine ⟨rfl, ?_⟩
      repeat' (first | (with_reducible exact Below.refl _ _) | (with_reducible assumption) | (with_reducible refine Ext.below _ ?_ ?_) | (with_reducible refine Below.on ?_ (by with_reducible assumption) ?_) | (with_reducible refine Below.alloc ?_ ?_ _) | (with_reducible refine Below.drew ?_) | (with_reducible refine Below.setCell ?_ ?_ _) | (with_reducible exact Nat.le_refl _) | omega | (simp; done) | (simp [go_sem]; done) | (simp at *; omega))
end Go.Proofs.Ytfflbiojcoehmab

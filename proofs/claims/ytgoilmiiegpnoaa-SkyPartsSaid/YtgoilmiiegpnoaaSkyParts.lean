/- SkyParts: each tracklet is in just one group, a group of at least two is linked by one guess, and single ones come last, in their order. Condition: none beyond the statement's own. -/
import Derived.Test.YtgoilmiiegpnoaaSkyPz
import Derived.Test.YtgoilmiiegpnoaaSkyU
import Derived.Test.YtgoilmiiegpnoaaLaw
import Derived.Test.YtgoilmiiegpnoaaLawList
namespace Go.Proofs.Ytgoilmiiegpnoaa
open Go.RowKit Go.Shelf Go.ChangeShapes Go.WideShapes Go.ChangeAt Go.Joins
attribute [local go_sem] Option.isSome_some Ext.cell Ext.frozen Ext.lt Ext.le Ext.lt_add Ext.le_add Ext.ne Ext.ne' lt2 lt3 lt4 lt5 le2 le3 le4
attribute [local go_sem] RExt.cell RExt.frozen RExt.lt RExt.le RExt.lt_add RExt.le_add RExt.ne RExt.ne'
theorem ints_at {w : World} {base g n : Nat} {l : List Int} (h : w.ownsRow base 3 1 (.slice (some ⟨g, 0, none⟩) n n) n (intsOf l)) {j : Nat} {v : Int} (hj : j < n) (hv : l[j]? = some v) : w.cell? ⟨g, j, none⟩ = some (.int .i64 v) := by
  rw [h.cellAt j (by omega)]
  unfold intsOf
  rw [List.getElem?_map, hv]
  rfl
theorem ints_set (l : List Int) (j : Nat) (v : Int) : (intsOf l).set j (.int .i64 v) = intsOf (l.set j v) := by unfold intsOf; rw [List.map_set]
theorem intsOf_zero (n : Nat) : List.replicate n (Value.int .i64 0) = intsOf (seenL n []) := by
  unfold intsOf seenL
  apply List.ext_getElem?
  intro k
  by_cases hk : k < n
  · simp [hk]
  · simp [hk]
theorem take_snoc {l : List Int} {k : Nat} (h : k < l.length) : l.take (k + 1) = l.take k ++ [l[k]] := by rw [List.take_add_one, List.getElem?_eq_getElem h]; rfl
theorem flatten_take_succ {L : List (List Int)} {i : Nat} (h : i < L.length) : (L.take (i + 1)).flatten = (L.take i).flatten ++ L[i] := by rw [List.take_add_one, List.getElem?_eq_getElem h, List.flatten_append]; simp
theorem count_take_le (L : List (List Int)) (i : Nat) (h : i < L.length) (k : Nat) (v : Int) : ((L.take i).flatten ++ L[i].take k).count v ≤ L.flatten.count v := by
  have h1 : L.flatten = (L.take i).flatten ++ (L[i] ++ (L.drop (i + 1)).flatten) := by
    conv => lhs; rw [← List.take_append_drop i L]
    rw [List.flatten_append, List.drop_eq_getElem_cons h, List.flatten_cons]
  have h2 : L[i] = L[i].take k ++ L[i].drop k := (List.take_append_drop k L[i]).symm
  rw [h1, List.count_append, List.count_append, List.count_append]
  have h3 : L[i].count v = (L[i].take k).count v + (L[i].drop k).count v := by conv => lhs; rw [h2, List.count_append]
  omega
theorem pw_bound {n : Nat} : ∀ {l : List Int}, l.Pairwise (· < ·) → (∀ v ∈ l, 0 ≤ v ∧ v < (n : Int)) → l.length ≤ n := by
  have key : ∀ (l : List Int) (a : Int), l.Pairwise (· < ·) → (∀ v ∈ l, a ≤ v ∧ v < (n : Int)) → l ≠ [] → a + l.length ≤ n := by
    intro l
    induction l with
    | nil => intro a _ _ h; exact absurd rfl h
    | cons x l ih =>
      intro a hp hb _
      rw [List.pairwise_cons] at hp
      have hx := hb x (by simp)
      cases l with
      | nil => simp only [List.length_cons, List.length_nil]; omega
      | cons y l =>
        have := ih (x + 1) hp.2 (fun v hv => by have h1 := hp.1 v hv; have h2 := hb v (by simp [hv]); omega) (by simp)
        simp only [List.length_cons] at this ⊢
        omega
  intro l hp hb
  cases l with
  | nil => simp
  | cons x l =>
    have := key (x :: l) 0 hp hb (by simp)
    omega
set_option maxRecDepth 100000 in
set_option maxHeartbeats 16000000 in
theorem SkyParts_any (sp : Option Addr) (sl sc : Nat) (sz : Nat → Int) (w : World) (hw : ListIn w sp sl sz) : Calls Try.prog 5 #[.slice sp sl sc] w (Gives (.bool true) w) := by
  have ca := fun W => skyAwake_any W
  obtain ⟨ii, hii, hq0, hq1, hq2⟩ := info_parts int_info
  go_enter Try.func5, Try.ntmps5
  go_wp2_with (first | ((first | with_reducible refine wp_region_ext2 (by kernel_rfl) (by kernel_rfl) ?_ | with_reducible refine wp_region_ext (by kernel_rfl) (by kernel_rfl) ?_); (repeat (first | go_big_quiet_step ((first | fail)) | quiet_step ((first | fail)))); refine wpQuiet_nil ?_; rintro _ ⟨yr, rfl⟩; have syr := Ext.size yr; (repeat (first | rw [World.size_alloc] at syr | rw [World.size_setCell] at syr | rw [World.size_drew] at syr))) | (go_at_call 8; refine (many_any sp sl sc sz _ hw).mono ?_; rintro _ W1 ⟨s, ts, gs, v, u, rfl, hb1, hsm, hAt, hM, hok, ⟨ht1, ht6⟩, hg1, hg6⟩; obtain ⟨⟨tp, tc, rfl⟩, gp, gc, rfl⟩ := hM.form; obtain ⟨F, L, eL, hgood, hcount, hLm, hF⟩ := parts_says hsm hok ht6 hg6; have hs1 := hb1.size; unfold SkyR.val) | (go_at_call 15; go_loud (refine callsW_named (fun W2 hW => ?_); have hY2 : Below W1.heap.size W1 W2 := (by rw [← hW]; repeat' (first | (with_reducible exact Below.refl _ _) | (with_reducible assumption) | (with_reducible refine Ext.below _ ?_ ?_) | (with_reducible refine Below.on ?_ (by with_reducible assumption) ?_) | (with_reducible refine Below.alloc ?_ ?_ _) | (with_reducible refine Below.drew ?_) | (with_reducible refine Below.setCell ?_ ?_ _) | (with_reducible exact Nat.le_refl _) | omega | (simp; done) | (simp [go_sem]; done) | (simp at *; omega))); have k0 : W2.cell? ⟨W1.heap.size, 0, none⟩ = some (.slice s.bp s.bodies.length s.bc) := (by rw [← hW]; simp [go_sem]); have k1 : W2.cell? ⟨W1.heap.size, 1, none⟩ = some (.int .i64 s.home) := (by rw [← hW]; simp [go_sem]); have k2 : W2.cell? ⟨W1.heap.size, 2, none⟩ = some (.slice s.sp s.sts.length s.sc) := (by rw [← hW]; simp [go_sem]); have k3 : W2.cell? ⟨W1.heap.size, 3, none⟩ = some (.slice s.cp s.cats.length s.cc) := (by rw [← hW]; simp [go_sem]); have hs2 : W1.heap.size < W2.heap.size := (by rw [← hW]; simp); clear hW; have cG := Groups_any s tp gp tc gc ts gs 0 W2 (hAt.on hY2) (hM.tracks.on hY2) (hM.states.on hY2); rw [eL] at cG; refine cG.mono ?_; rintro _ W3 ⟨hb3, v3, fd, rfl, hR3, hfd⟩; obtain ⟨p3, c3, rfl⟩ := hR3.form; have hI3 := Go.Lib.hid (hR3.at); have hs3 := hb3.size; have hBw : Below w.heap.size w W3 := (hb1.trans (hY2.mono hs1)).trans (hb3.mono (by omega)); have hA3 := (hAt.on hY2).on hb3; have hT3 := (hM.tracks.on hY2).on hb3; have hG3 := (hM.states.on hY2).on hb3; replace k0 := (hb3.cell (p := ⟨W1.heap.size, 0, none⟩) hs2).trans k0; replace k1 := (hb3.cell (p := ⟨W1.heap.size, 1, none⟩) hs2).trans k1; replace k2 := (hb3.cell (p := ⟨W1.heap.size, 2, none⟩) hs2).trans k2; replace k3 := (hb3.cell (p := ⟨W1.heap.size, 3, none⟩) hs2).trans k3; clear cG)) | (at_make; go_loud (refine wpList_make_full _ rfl _ _ 22 rfl W3.heap.size 3 ii (.int .i64 0) 1 Try.underlying22 hii hq0 hq1 .i64 .i64 ts.length ts.length ts.length rfl rfl rfl rfl (by rw [hq2]; omega) (by unfold maxLen; omega) (Nat.le_refl _) ?_; intro W5 ho5 hg5)))
  have hB35 : Below W3.heap.size W3 W5 := ⟨hg5.os, hg5.tape, hg5.output, hg5.size, fun k hk => hg5.block k hk (by simp)⟩
  have hrow : W5.ownsRow W3.heap.size 3 1 (.slice (some ⟨W3.heap.size, 0, none⟩) ts.length ts.length) ts.length (intsOf (seenL ts.length [])) := by
    have h := ho5
    rw [Nat.mul_one, show (Value.int .i64 0).cells = #[.int .i64 0] from rfl, toList_madeCells_one] at h
    rw [← intsOf_zero]
    exact h
  have hSN5 : W3.heap.size < W5.heap.size := (ho5.lt _ rfl).2
  have hbel : Hid (∀ y : RExt W5 W3.heap.size, Below W3.heap.size W3 y.now) := Go.Lib.hid fun y => hB35.trans ((y.grew.mono (Nat.le_of_lt hSN5)).below (Nat.le_refl _))
  have hcell : Hid (∀ (y : RExt W5 W3.heap.size) (B o : Nat), B < W3.heap.size → y.now.cell? ⟨B, o, none⟩ = W3.cell? ⟨B, o, none⟩ ∧ B < y.now.heap.size) := Go.Lib.hid fun y B o h => ⟨(hbel.out y).cell (p := ⟨B, o, none⟩) h, Nat.lt_of_lt_of_le h (hbel.out y).size⟩
  have hSB : W1.heap.size < W3.heap.size := by omega
  have cM := Go.Lib.hid (fun vn (hv : vn < ts.length) g (hg : g < gs.length) (W : World) (y : Below W3.heap.size W3 W) => (by have tt := hok.t _ (List.getElem_mem hv); have := Miss_any s ts[vn].p ts[vn].c ts[vn].l gs[g] 0 W (hA3.on y) ((hT3 vn hv).1.on y); rw [missV_ok (TrackOk.err hsm tt.1 tt.2.1 tt.2.2) hok.g g hg] at this; exact this : Calls Try.prog 11 #[s.val, .slice ts[vn].p ts[vn].l.length ts[vn].c, .agg #[.int .i64 gs[g].x, .int .i64 gs[g].y, .int .i64 gs[g].u, .int .i64 gs[g].v], .int .i64 0] W (Gives (.int .i64 (fmS s gs[g] 0 0 ts[vn].l)) W)))
  unfold SkyR.val at cM
  replace hT3 := Go.Lib.hid hT3
  replace hG3 := Go.Lib.hid hG3
  replace hF := Go.Lib.hid hF
  have k2' := k2
  have hww : w.heap.size ≤ W3.heap.size := hBw.size
  clear k2 ho5 hg5 hAt hM hb1 hb3 hR3 hA3 hsm hok hs1 hs2 hs3 hY2 hw eL hB35
  generalize W1.heap.size = SB at *
  have hSN : Hid (W3.heap.size = W3.heap.size) := Go.Lib.hid rfl
  obtain ⟨SN, hSNe⟩ : ∃ n, W3.heap.size = n := ⟨_, rfl⟩
  rw [hSNe] at hrow hSN5 hbel hcell ⊢
  have hww2 : w.heap.size ≤ SN := by omega
  have hlow := Go.Lib.hid (fun (B : Nat) (h : B < W3.heap.size) => (by omega : B < SN))
  replace hbel : Hid (∀ y : RExt W5 SN, Below SN W3 y.now) := hbel
  have hSNe := Go.Lib.hid hSNe
  clear hSN
  replace hww := Go.Lib.hid hww
  replace hSB := hlow.out _ hSB
  generalize s.bp = n5 at *
  generalize s.bodies.length = n4 at *
  generalize s.bc = n6 at *
  generalize s.home = n0 at *
  generalize s.sp = n8 at *
  generalize s.sts.length = n7 at *
  generalize s.sc = n9 at *
  generalize s.cp = n2 at *
  generalize s.cats.length = n1 at *
  generalize s.cc = n3 at *
  have hfd := Go.Lib.hid hfd
  have hcount := Go.Lib.hid hcount
  have hgood := Go.Lib.hid hgood
  go_loopw [9, 10] (fun b u W => ∃ (i : Nat) (y : RExt W5 SN) (last : Int), u = .int .i64 i ∧ b = .int .i64 last ∧ W = y.now ∧ y.now.ownsRow SN 3 1 (.slice (some ⟨SN, 0, none⟩) ts.length ts.length) ts.length (intsOf (seenL ts.length ((L.take i).flatten))) ∧ Hid (i ≤ fd.length ∧ goodL F gs ts.length last (L.drop i) ∧ -1 ≤ last ∧ last < 10)) (fun _ u _ => fd.length - (intOf u).toNat)
  case atStart => exact ⟨0, ⟨W5, BelowX.refl _ _ _⟩, -1, rfl, rfl, rfl, by simpa using hrow, Go.Lib.hid ⟨Nat.zero_le _, by simpa using hgood.out, by omega, by omega⟩⟩
  case round =>
    clear hrow
    obtain ⟨i, y, last, rfl, rfl, rfl, hrow, hi⟩ := hrel
    have ys := y.size
    have hSy : SN < y.now.heap.size := by omega
    have hLl : L.length = fd.length := by rw [← hfd.out]; simp
    have hi12 : i ≤ 12 := by have := hi.out.1; omega
    by_cases hlt : i < fd.length
    · have hlt2 : (i : Int) < fd.length := by omega
      have hLlt : i < L.length := by omega
      obtain ⟨hxI, B, o, rfl, hB, r⟩ := hI3.out i hlt
      replace hB := hlow.out B hB
      have hr := (hcell.out y B (o + i) hB).1.trans r
      have hBy := (hcell.out y B 0 hB).2
      have hLi : L[i] = fd[i].l := by
        have h := hfd.out
        subst h
        simp
      have hg := hi.out.2.1
      rw [List.drop_eq_getElem_cons hLlt, hLi, goodL] at hg
      obtain ⟨⟨q1, q2, q3, q4, q5, q6⟩, hg'⟩ := hg
      have htake : (L.take (i + 1)).flatten = (L.take i).flatten ++ fd[i].l := by rw [flatten_take_succ hLlt, hLi]
      have hcnt : ∀ k (v : Nat), v < ts.length → ((L.take i).flatten ++ fd[i].l.take k).count (v : Int) ≤ 1 := fun k v hv => by
        have := count_take_le L i hLlt k v
        rw [hLi, hcount.out v hv] at this
        exact this
      clear r hLi hLlt hLl
      generalize fd[i].p = xp at *
      generalize fd[i].c = xc at *
      generalize fd[i].l = xl at *
      have hml : Hid (xl.length ≤ 8) := Go.Lib.hid (by
        have h := pw_bound q4 q3
        omega)
      generalize (L.take i).flatten = AC at *
      have hxI := Go.Lib.hid hxI
      have q3 := Go.Lib.hid q3
      have q4 := Go.Lib.hid q4
      have q5 := Go.Lib.hid q5
      have q6 := Go.Lib.hid q6
      have htake := Go.Lib.hid htake
      have hcnt := Go.Lib.hid hcnt
      have hrow := Go.Lib.hid hrow
      have hl0 : ¬ ((xl.length : Int) = 0) := by omega
      have hne : ¬ (xl = []) := fun e => by rw [e] at q1; simp at q1
      by_cases h1 : 1 < xl.length
      · have hla := q2 h1
        have h1i : (1 : Int) < xl.length := by omega
        have hla2 : ¬ (0 ≤ last) := by omega
        clear q1 q2
        go_wp2_with (first | ((first | with_reducible refine wp_region_ext2 (by kernel_rfl) (by kernel_rfl) ?_ | with_reducible refine wp_region_ext (by kernel_rfl) (by kernel_rfl) ?_); (repeat (first | go_big_quiet_step ((first | fail)) | quiet_step ((first | fail)))); refine wpQuiet_nil ?_; rintro _ ⟨yr, rfl⟩; have syr := Ext.size yr; (repeat (first | rw [World.size_alloc] at syr | rw [World.size_setCell] at syr | rw [World.size_drew] at syr)); have : B < yr.now.heap.size := (by omega); have : B ≤ yr.now.heap.size := (by omega); have : B < yr.now.heap.size + 1 + 1 := (by omega); have : SN < yr.now.heap.size := (by omega); have : SN ≤ yr.now.heap.size := (by omega); have : SN < yr.now.heap.size + 1 + 1 := (by omega)))
        go_loopw [12] (fun u W => ∃ (k : Nat) (z : RExt W5 SN), u = .int .i64 k ∧ W = z.now ∧ z.now.ownsRow SN 3 1 (.slice (some ⟨SN, 0, none⟩) ts.length ts.length) ts.length (intsOf (seenL ts.length (AC ++ xl.take k))) ∧ Hid (k ≤ xl.length)) (fun u _ => xl.length - (intOf u).toNat)
        case atStart => exact ⟨0, y, rfl, rfl, by simpa using hrow.out, Go.Lib.hid (Nat.zero_le _)⟩
        case round =>
          obtain ⟨k, z, rfl, rfl, hrz, hk⟩ := hrel
          have zs := z.size
          have hSz : SN < z.now.heap.size := by omega
          by_cases hkl : k < xl.length
          · have hkl2 : (k : Int) < xl.length := by omega
            obtain ⟨B4, o4, rfl, hB4, s0⟩ := hxI.out k hkl
            replace hB4 := hlow.out B4 hB4
            have hs0 := (hcell.out z B4 (o4 + k) hB4).1.trans s0
            have hB4z := (hcell.out z B4 0 hB4).2
            have hv := q3.out xl[k] (List.getElem_mem hkl)
            have htk := take_snoc hkl
            have hkm : k < 10 := by have := hml.out; omega
            rcases k with _ | k'
            · simp only [Nat.add_zero] at hs0
              clear s0
              generalize xl[0] = xv at *
              obtain ⟨hv0, hv1⟩ := hv
              obtain ⟨vn, rfl⟩ := Int.eq_ofNat_of_zero_le hv0
              have hvn : vn < ts.length := by omega
              have hvn2 : (vn : Int) < (ts.length : Int) := by omega
              have hvn3 : ¬ ((vn : Int) < 0) := by omega
              have hvn4 : ¬ ((ts.length : Int) ≤ (vn : Int)) := by omega
              have hcn := hcnt.out (0) vn hvn
              have hc := ints_at hrz hvn (seenL_at hvn)
              have hf := hrz.frozenAt vn
              have hadd := Go.Lib.hid (seenL_add (n := ts.length) (acc := AC ++ xl.take (0)) hvn)
              rw [List.append_assoc, ← htk] at hadd
              generalize (AC ++ xl.take (0)).count (vn : Int) = cn at *
              have hwr : IntKind.i64.wrap ((cn : Int) + 1) = (cn : Int) + 1 := IntWalk.i64_in _ (by omega)
              replace hcn := Go.Lib.hid hcn
              replace hrz := Go.Lib.hid hrz
              clear hk hv0 hv1
              go_wp2_with (first | ((first | with_reducible refine wp_region_ext2 (by kernel_rfl) (by kernel_rfl) ?_ | with_reducible refine wp_region_ext (by kernel_rfl) (by kernel_rfl) ?_); (repeat (first | go_big_quiet_step ((first | fail)) | quiet_step ((first | fail)))); refine wpQuiet_nil ?_; rintro _ ⟨yr, rfl⟩; have syr := Ext.size yr; (repeat (first | rw [World.size_alloc] at syr | rw [World.size_setCell] at syr | rw [World.size_drew] at syr)); have : B4 < yr.now.heap.size := (by omega); have : B4 ≤ yr.now.heap.size := (by omega); have : B4 < yr.now.heap.size + 1 + 1 := (by omega); have : SN < yr.now.heap.size := (by omega); have : SN ≤ yr.now.heap.size := (by omega); have : SN < yr.now.heap.size + 1 + 1 := (by omega)))
              have hrr := ((owns_ext hrz.out yr).stored vn (.int .i64 ((cn : Int) + 1))).1
              rw [ints_set, ← hadd.out] at hrr
              exact ⟨⟨0 + 1, ⟨_, (z.grew.trans ((BelowX.of yr.grew).mono zs)).ring vn _⟩, by simp, rfl, hrr, Go.Lib.hid hkl⟩, by simp [intOf]; omega⟩
            · have hp1 := List.pairwise_iff_getElem.1 q4.out k' (k' + 1) (by omega) hkl (by omega)
              obtain ⟨B6, o6, e6, hB6, s1⟩ := hxI.out k' (by omega)
              injection e6 with e6
              injection e6 with e6 e7
              subst e6 e7
              replace hB6 := hlow.out _ hB6
              have hs1 := (hcell.out z B4 (o4 + k') hB6).1.trans s1
              generalize xl[k'] = xq at *
              clear s0 s1
              have hwk : IntKind.i64.wrap (((k' + 1 : Nat) : Int) - 1) = (k' : Int) := by rw [IntWalk.i64_in _ (by omega)]; omega
              have hkpos : (0 : Int) < ((k' + 1 : Nat) : Int) := by omega
              have hk'l : (k' : Int) < xl.length := by omega
              generalize xl[k' + 1] = xv at *
              obtain ⟨hv0, hv1⟩ := hv
              obtain ⟨vn, rfl⟩ := Int.eq_ofNat_of_zero_le hv0
              have hvn : vn < ts.length := by omega
              have hvn2 : (vn : Int) < (ts.length : Int) := by omega
              have hvn3 : ¬ ((vn : Int) < 0) := by omega
              have hvn4 : ¬ ((ts.length : Int) ≤ (vn : Int)) := by omega
              have hle : ¬ ((vn : Int) ≤ xq) := by omega
              have hcn := hcnt.out (k' + 1) vn hvn
              have hc := ints_at hrz hvn (seenL_at hvn)
              have hf := hrz.frozenAt vn
              have hadd := Go.Lib.hid (seenL_add (n := ts.length) (acc := AC ++ xl.take (k' + 1)) hvn)
              rw [List.append_assoc, ← htk] at hadd
              generalize (AC ++ xl.take (k' + 1)).count (vn : Int) = cn at *
              have hwr : IntKind.i64.wrap ((cn : Int) + 1) = (cn : Int) + 1 := IntWalk.i64_in _ (by omega)
              replace hcn := Go.Lib.hid hcn
              replace hrz := Go.Lib.hid hrz
              clear hk hv0 hv1
              go_wp2_with (first | ((first | with_reducible refine wp_region_ext2 (by kernel_rfl) (by kernel_rfl) ?_ | with_reducible refine wp_region_ext (by kernel_rfl) (by kernel_rfl) ?_); (repeat (first | go_big_quiet_step ((first | fail)) | quiet_step ((first | fail)))); refine wpQuiet_nil ?_; rintro _ ⟨yr, rfl⟩; have syr := Ext.size yr; (repeat (first | rw [World.size_alloc] at syr | rw [World.size_setCell] at syr | rw [World.size_drew] at syr)); have : B4 < yr.now.heap.size := (by omega); have : B4 ≤ yr.now.heap.size := (by omega); have : B4 < yr.now.heap.size + 1 + 1 := (by omega); have : SN < yr.now.heap.size := (by omega); have : SN ≤ yr.now.heap.size := (by omega); have : SN < yr.now.heap.size + 1 + 1 := (by omega)))
              have hrr := ((owns_ext hrz.out yr).stored vn (.int .i64 ((cn : Int) + 1))).1
              rw [ints_set, ← hadd.out] at hrr
              exact ⟨⟨k' + 1 + 1, ⟨_, (z.grew.trans ((BelowX.of yr.grew).mono zs)).ring vn _⟩, by simp, rfl, hrr, Go.Lib.hid hkl⟩, by simp [intOf]; omega⟩
          · have hkl2 : ¬ (k : Int) < xl.length := by omega
            obtain rfl : k = xl.length := by have := hk.out; omega
            rw [List.take_length] at hrz
            clear hk
            have hn1 : ¬ ((xl.length : Int) = 1) := by omega
            rw [if_neg (by omega)] at hg'
            have key : Hid (i + 1 ≤ fd.length ∧ goodL F gs ts.length last (L.drop (i + 1)) ∧ -1 ≤ last ∧ last < 10) := Go.Lib.hid ⟨hlt, hg', hi.out.2.2⟩
            have htk2 := htake
            clear hg' hi
            go_wp2_with (first | ((first | with_reducible refine wp_region_ext2 (by kernel_rfl) (by kernel_rfl) ?_ | with_reducible refine wp_region_ext (by kernel_rfl) (by kernel_rfl) ?_); (repeat (first | go_big_quiet_step ((first | fail)) | quiet_step ((first | fail)))); refine wpQuiet_nil ?_; rintro _ ⟨yr, rfl⟩; have syr := Ext.size yr; (repeat (first | rw [World.size_alloc] at syr | rw [World.size_setCell] at syr | rw [World.size_drew] at syr)); have : SN < yr.now.heap.size := (by omega); have : SN ≤ yr.now.heap.size := (by omega); have : SN < yr.now.heap.size + 1 + 1 := (by omega)))
            go_loopw [13, 14] (fun b u W => ∃ (g : Nat) (z2 : RExt W5 SN) (bb : Bool), u = .int .i64 g ∧ b = .bool bb ∧ W = z2.now ∧ z2.now.ownsRow SN 3 1 (.slice (some ⟨SN, 0, none⟩) ts.length ts.length) ts.length (intsOf (seenL ts.length (AC ++ xl))) ∧ Hid (g ≤ gs.length ∧ (bb = true ∨ ∃ q ∈ gs.drop g, ∀ v ∈ xl, F q v.toNat = true))) (fun _ u _ => gs.length - (intOf u).toNat)
            case atStart => exact ⟨0, z, false, rfl, rfl, rfl, hrz, Go.Lib.hid ⟨Nat.zero_le _, .inr (by simpa using q6.out h1)⟩⟩
            case round =>
              clear hrz
              obtain ⟨g, z2, bb, rfl, rfl, rfl, hrz, hg⟩ := hrel
              have zs2 := z2.size
              by_cases hgl : g < gs.length
              · have hgl2 : (g : Int) < gs.length := by omega
                have hg' := hg.out.2
                rw [drop_at hgl] at hg'
                replace hg' := Go.Lib.hid hg'
                clear hg
                go_wp2_with (first | ((first | with_reducible refine wp_region_ext2 (by kernel_rfl) (by kernel_rfl) ?_ | with_reducible refine wp_region_ext (by kernel_rfl) (by kernel_rfl) ?_); (repeat (first | go_big_quiet_step ((first | fail)) | quiet_step ((first | fail)))); refine wpQuiet_nil ?_; rintro _ ⟨yr, rfl⟩; have syr := Ext.size yr; (repeat (first | rw [World.size_alloc] at syr | rw [World.size_setCell] at syr | rw [World.size_drew] at syr)); have : SN < yr.now.heap.size := (by omega); have : SN ≤ yr.now.heap.size := (by omega); have : SN < yr.now.heap.size + 1 + 1 := (by omega)))
                go_loopw [15, 16] (fun c u W => ∃ (k2 : Nat) (z3 : RExt W5 SN) (cc : Bool), u = .int .i64 k2 ∧ c = .bool cc ∧ W = z3.now ∧ z3.now.ownsRow SN 3 1 (.slice (some ⟨SN, 0, none⟩) ts.length ts.length) ts.length (intsOf (seenL ts.length (AC ++ xl))) ∧ Hid (k2 ≤ xl.length ∧ ((∀ v ∈ xl, F gs[g] v.toNat = true) → cc = true))) (fun _ u _ => xl.length - (intOf u).toNat)
                case atStart => exact ⟨0, z2, true, rfl, rfl, rfl, hrz, Go.Lib.hid ⟨Nat.zero_le _, fun _ => rfl⟩⟩
                case round =>
                  clear hrz
                  obtain ⟨k2, z3, cc, rfl, rfl, rfl, hrz, hc⟩ := hrel
                  have zs3 := z3.size
                  have hSz3 : SN < z3.now.heap.size := by omega
                  replace hrz := Go.Lib.hid hrz
                  by_cases hkl : k2 < xl.length
                  · have hkl2 : (k2 : Int) < xl.length := by omega
                    have hk2m : k2 < 10 := by have := hml.out; omega
                    have hc' := hc.out.2
                    cases cc with
                    | false =>
                      have key2 : Hid (k2 + 1 ≤ xl.length ∧ ((∀ v ∈ xl, F gs[g] v.toNat = true) → false = true)) := Go.Lib.hid ⟨hkl, hc'⟩
                      clear hc hc'
                      go_wp2_with (first | ((first | with_reducible refine wp_region_ext2 (by kernel_rfl) (by kernel_rfl) ?_ | with_reducible refine wp_region_ext (by kernel_rfl) (by kernel_rfl) ?_); (repeat (first | go_big_quiet_step ((first | fail)) | quiet_step ((first | fail)))); refine wpQuiet_nil ?_; rintro _ ⟨yr, rfl⟩; have syr := Ext.size yr; (repeat (first | rw [World.size_alloc] at syr | rw [World.size_setCell] at syr | rw [World.size_drew] at syr)); have : SN < yr.now.heap.size := (by omega); have : SN ≤ yr.now.heap.size := (by omega); have : SN < yr.now.heap.size + 1 + 1 := (by omega)))
                      exact ⟨⟨k2 + 1, ⟨_, z3.grew.trans ((BelowX.of yr.grew).mono zs3)⟩, false, by simp, rfl, rfl, owns_ext hrz.out yr, key2⟩, by simp [intOf]; omega⟩
                    | true =>
                      obtain ⟨B4, o4, rfl, hB4, s0⟩ := hxI.out k2 hkl
                      replace hB4 := hlow.out B4 hB4
                      have hs0 := (hcell.out z3 B4 (o4 + k2) hB4).1.trans s0
                      have hB4z := (hcell.out z3 B4 0 hB4).2
                      have hv := q3.out xl[k2] (List.getElem_mem hkl)
                      have hFv : (∀ v ∈ xl, F gs[g] v.toNat = true) → F gs[g] (xl[k2]).toNat = true := fun h => h _ (List.getElem_mem hkl)
                      clear s0
                      generalize xl[k2] = xv at *
                      obtain ⟨hv0, hv1⟩ := hv
                      obtain ⟨vn, rfl⟩ := Int.eq_ofNat_of_zero_le hv0
                      have hvn : vn < ts.length := by omega
                      have hvn2 : (vn : Int) < (ts.length : Int) := by omega
                      obtain ⟨-, B5, o5, rfl, hB5, t0⟩ := hT3.out vn hvn
                      replace hB5 := hlow.out B5 hB5
                      have ht0 := (hcell.out z3 B5 (o5 + vn) hB5).1.trans t0
                      have hB5z := (hcell.out z3 B5 0 hB5).2
                      obtain ⟨B7, o7, rfl, hB7, u0, u1, u2, u3⟩ := hG3.out g hgl
                      replace hB7 := hlow.out B7 hB7
                      have hu0 := (hcell.out z3 B7 _ hB7).1.trans u0
                      have hu1 := (hcell.out z3 B7 _ hB7).1.trans u1
                      have hu2 := (hcell.out z3 B7 _ hB7).1.trans u2
                      have hu3 := (hcell.out z3 B7 _ hB7).1.trans u3
                      have hB7z := (hcell.out z3 B7 0 hB7).2
                      have hk0 := (hcell.out z3 SB 0 hSB).1.trans k0
                      have hk1 := (hcell.out z3 SB 1 hSB).1.trans k1
                      have hk2 := (hcell.out z3 SB 2 hSB).1.trans k2'
                      have hk3 := (hcell.out z3 SB 3 hSB).1.trans k3
                      have hSBz := (hcell.out z3 SB 0 hSB).2
                      have hB3 : Below W3.heap.size W3 z3.now := (hbel.out z3).mono (by have := hSNe.out; omega)
                      have cmi := fun (W : World) (y : Below W3.heap.size W3 W) => cM.out vn hvn g hgl W y
                      have hFm := hF.out gs[g] vn hvn
                      clear t0 u0 u1 u2 u3
                      generalize ts[vn].l.length = tl at *
                      generalize ts[vn].p = tpp at *
                      generalize ts[vn].c = tcc at *
                      generalize fmS s gs[g] 0 0 ts[vn].l = P at *
                      generalize gs[g].x = g1 at *
                      generalize gs[g].y = g2 at *
                      generalize gs[g].u = g3 at *
                      generalize gs[g].v = g4 at *
                      by_cases hP : P = -1
                      · subst hP
                        have hm1 : ((-1 : Int) == -1) = true := by decide
                        have key2 : Hid (k2 + 1 ≤ xl.length ∧ ((∀ v ∈ xl, F gs[g] v.toNat = true) → true = true)) := Go.Lib.hid ⟨hkl, fun _ => rfl⟩
                        clear hc hc' hFm hFv
                        go_wp2_with (first | ((first | with_reducible refine wp_region_ext2 (by kernel_rfl) (by kernel_rfl) ?_ | with_reducible refine wp_region_ext (by kernel_rfl) (by kernel_rfl) ?_); (repeat (first | go_big_quiet_step ((first | (go_at_call 11; with_reducible exact Calls.ext (cmi _ (by repeat' (first | (with_reducible exact Below.refl _ _) | (with_reducible assumption) | (with_reducible refine Ext.below _ ?_ ?_) | (with_reducible refine Below.on ?_ (by with_reducible assumption) ?_) | (with_reducible refine Below.alloc ?_ ?_ _) | (with_reducible refine Below.drew ?_) | (with_reducible refine Below.setCell ?_ ?_ _) | (with_reducible exact Nat.le_refl _) | omega | (simp; done) | (simp [go_sem]; done) | (simp at *; omega))))))) | quiet_step ((first | (go_at_call 11; with_reducible exact Calls.ext (cmi _ (by repeat' (first | (with_reducible exact Below.refl _ _) | (with_reducible assumption) | (with_reducible refine Ext.below _ ?_ ?_) | (with_reducible refine Below.on ?_ (by with_reducible assumption) ?_) | (with_reducible refine Below.alloc ?_ ?_ _) | (with_reducible refine Below.drew ?_) | (with_reducible refine Below.setCell ?_ ?_ _) | (with_reducible exact Nat.le_refl _) | omega | (simp; done) | (simp [go_sem]; done) | (simp at *; omega))))))))); refine wpQuiet_nil ?_; rintro _ ⟨yr, rfl⟩; have syr := Ext.size yr; (repeat (first | rw [World.size_alloc] at syr | rw [World.size_setCell] at syr | rw [World.size_drew] at syr)); have : SN < yr.now.heap.size := (by omega); have : SN ≤ yr.now.heap.size := (by omega); have : SN < yr.now.heap.size + 1 + 1 := (by omega); have : B4 < yr.now.heap.size := (by omega); have : B4 ≤ yr.now.heap.size := (by omega); have : B4 < yr.now.heap.size + 1 + 1 := (by omega); have : B5 < yr.now.heap.size := (by omega); have : B5 ≤ yr.now.heap.size := (by omega); have : B5 < yr.now.heap.size + 1 + 1 := (by omega); have : B7 < yr.now.heap.size := (by omega); have : B7 ≤ yr.now.heap.size := (by omega); have : B7 < yr.now.heap.size + 1 + 1 := (by omega); have : SB < yr.now.heap.size := (by omega); have : SB ≤ yr.now.heap.size := (by omega); have : SB < yr.now.heap.size + 1 + 1 := (by omega)) | (go_at_call 11; (first | with_reducible refine (Calls.giv2 (cmi _ (by repeat' (first | (with_reducible exact Below.refl _ _) | (with_reducible assumption) | (with_reducible refine Ext.below _ ?_ ?_) | (with_reducible refine Below.on ?_ (by with_reducible assumption) ?_) | (with_reducible refine Below.alloc ?_ ?_ _) | (with_reducible refine Below.drew ?_) | (with_reducible refine Below.setCell ?_ ?_ _) | (with_reducible exact Nat.le_refl _) | omega | (simp; done) | (simp [go_sem]; done) | (simp at *; omega))))).mono ?_ | with_reducible refine (Calls.giv (cmi _ (by repeat' (first | (with_reducible exact Below.refl _ _) | (with_reducible assumption) | (with_reducible refine Ext.below _ ?_ ?_) | (with_reducible refine Below.on ?_ (by with_reducible assumption) ?_) | (with_reducible refine Below.alloc ?_ ?_ _) | (with_reducible refine Below.drew ?_) | (with_reducible refine Below.setCell ?_ ?_ _) | (with_reducible exact Nat.le_refl _) | omega | (simp; done) | (simp [go_sem]; done) | (simp at *; omega))))).mono ?_); rintro _ _ ⟨y1, rfl, rfl⟩; have sy1 := Ext.size y1; (repeat (first | rw [World.size_alloc] at sy1 | rw [World.size_setCell] at sy1 | rw [World.size_drew] at sy1)); have : SN < y1.now.heap.size := (by omega); have : SN ≤ y1.now.heap.size := (by omega); have : SN < y1.now.heap.size + 1 + 1 := (by omega); have : B4 < y1.now.heap.size := (by omega); have : B4 ≤ y1.now.heap.size := (by omega); have : B4 < y1.now.heap.size + 1 + 1 := (by omega); have : B5 < y1.now.heap.size := (by omega); have : B5 ≤ y1.now.heap.size := (by omega); have : B5 < y1.now.heap.size + 1 + 1 := (by omega); have : B7 < y1.now.heap.size := (by omega); have : B7 ≤ y1.now.heap.size := (by omega); have : B7 < y1.now.heap.size + 1 + 1 := (by omega); have : SB < y1.now.heap.size := (by omega); have : SB ≤ y1.now.heap.size := (by omega); have : SB < y1.now.heap.size + 1 + 1 := (by omega)))
                        exact ⟨⟨k2 + 1, ⟨_, z3.grew.trans ((BelowX.of yr.grew).mono zs3)⟩, true, by simp, rfl, rfl, owns_ext hrz.out yr, key2⟩, by simp [intOf]; omega⟩
                      · have key2 : Hid (k2 + 1 ≤ xl.length ∧ ((∀ v ∈ xl, F gs[g] v.toNat = true) → false = true)) := Go.Lib.hid ⟨hkl, fun h => absurd (hFm (by simpa using hFv h)) hP⟩
                        have hm1 : (P == -1) = false := by simpa using hP
                        clear hc hc' hFm hFv
                        go_wp2_with (first | ((first | with_reducible refine wp_region_ext2 (by kernel_rfl) (by kernel_rfl) ?_ | with_reducible refine wp_region_ext (by kernel_rfl) (by kernel_rfl) ?_); (repeat (first | go_big_quiet_step ((first | (go_at_call 11; with_reducible exact Calls.ext (cmi _ (by repeat' (first | (with_reducible exact Below.refl _ _) | (with_reducible assumption) | (with_reducible refine Ext.below _ ?_ ?_) | (with_reducible refine Below.on ?_ (by with_reducible assumption) ?_) | (with_reducible refine Below.alloc ?_ ?_ _) | (with_reducible refine Below.drew ?_) | (with_reducible refine Below.setCell ?_ ?_ _) | (with_reducible exact Nat.le_refl _) | omega | (simp; done) | (simp [go_sem]; done) | (simp at *; omega))))))) | quiet_step ((first | (go_at_call 11; with_reducible exact Calls.ext (cmi _ (by repeat' (first | (with_reducible exact Below.refl _ _) | (with_reducible assumption) | (with_reducible refine Ext.below _ ?_ ?_) | (with_reducible refine Below.on ?_ (by with_reducible assumption) ?_) | (with_reducible refine Below.alloc ?_ ?_ _) | (with_reducible refine Below.drew ?_) | (with_reducible refine Below.setCell ?_ ?_ _) | (with_reducible exact Nat.le_refl _) | omega | (simp; done) | (simp [go_sem]; done) | (simp at *; omega))))))))); refine wpQuiet_nil ?_; rintro _ ⟨yr, rfl⟩; have syr := Ext.size yr; (repeat (first | rw [World.size_alloc] at syr | rw [World.size_setCell] at syr | rw [World.size_drew] at syr)); have : SN < yr.now.heap.size := (by omega); have : SN ≤ yr.now.heap.size := (by omega); have : SN < yr.now.heap.size + 1 + 1 := (by omega); have : B4 < yr.now.heap.size := (by omega); have : B4 ≤ yr.now.heap.size := (by omega); have : B4 < yr.now.heap.size + 1 + 1 := (by omega); have : B5 < yr.now.heap.size := (by omega); have : B5 ≤ yr.now.heap.size := (by omega); have : B5 < yr.now.heap.size + 1 + 1 := (by omega); have : B7 < yr.now.heap.size := (by omega); have : B7 ≤ yr.now.heap.size := (by omega); have : B7 < yr.now.heap.size + 1 + 1 := (by omega); have : SB < yr.now.heap.size := (by omega); have : SB ≤ yr.now.heap.size := (by omega); have : SB < yr.now.heap.size + 1 + 1 := (by omega)) | (go_at_call 11; (first | with_reducible refine (Calls.giv2 (cmi _ (by repeat' (first | (with_reducible exact Below.refl _ _) | (with_reducible assumption) | (with_reducible refine Ext.below _ ?_ ?_) | (with_reducible refine Below.on ?_ (by with_reducible assumption) ?_) | (with_reducible refine Below.alloc ?_ ?_ _) | (with_reducible refine Below.drew ?_) | (with_reducible refine Below.setCell ?_ ?_ _) | (with_reducible exact Nat.le_refl _) | omega | (simp; done) | (simp [go_sem]; done) | (simp at *; omega))))).mono ?_ | with_reducible refine (Calls.giv (cmi _ (by repeat' (first | (with_reducible exact Below.refl _ _) | (with_reducible assumption) | (with_reducible refine Ext.below _ ?_ ?_) | (with_reducible refine Below.on ?_ (by with_reducible assumption) ?_) | (with_reducible refine Below.alloc ?_ ?_ _) | (with_reducible refine Below.drew ?_) | (with_reducible refine Below.setCell ?_ ?_ _) | (with_reducible exact Nat.le_refl _) | omega | (simp; done) | (simp [go_sem]; done) | (simp at *; omega))))).mono ?_); rintro _ _ ⟨y1, rfl, rfl⟩; have sy1 := Ext.size y1; (repeat (first | rw [World.size_alloc] at sy1 | rw [World.size_setCell] at sy1 | rw [World.size_drew] at sy1)); have : SN < y1.now.heap.size := (by omega); have : SN ≤ y1.now.heap.size := (by omega); have : SN < y1.now.heap.size + 1 + 1 := (by omega); have : B4 < y1.now.heap.size := (by omega); have : B4 ≤ y1.now.heap.size := (by omega); have : B4 < y1.now.heap.size + 1 + 1 := (by omega); have : B5 < y1.now.heap.size := (by omega); have : B5 ≤ y1.now.heap.size := (by omega); have : B5 < y1.now.heap.size + 1 + 1 := (by omega); have : B7 < y1.now.heap.size := (by omega); have : B7 ≤ y1.now.heap.size := (by omega); have : B7 < y1.now.heap.size + 1 + 1 := (by omega); have : SB < y1.now.heap.size := (by omega); have : SB ≤ y1.now.heap.size := (by omega); have : SB < y1.now.heap.size + 1 + 1 := (by omega)))
                        exact ⟨⟨k2 + 1, ⟨_, z3.grew.trans ((BelowX.of yr.grew).mono zs3)⟩, false, by simp, rfl, rfl, owns_ext hrz.out yr, key2⟩, by simp [intOf]; omega⟩
                  · have hkl2 : ¬ (k2 : Int) < xl.length := by omega
                    have hcc := hc.out.2
                    clear hc
                    have key2 : Hid (g + 1 ≤ gs.length ∧ ((bb || cc) = true ∨ ∃ q ∈ gs.drop (g + 1), ∀ v ∈ xl, F q v.toNat = true)) := Go.Lib.hid ⟨hgl, by
                      rcases hg'.out with e | ⟨q, hq, hq2⟩
                      · left; rw [e]; rfl
                      · rcases List.mem_cons.1 hq with rfl | hq
                        · left; rw [hcc hq2]; simp
                        · exact .inr ⟨q, hq, hq2⟩⟩
                    clear hcc hg'
                    cases bb <;> cases cc
                    all_goals
                      go_wp2_with (first | ((first | with_reducible refine wp_region_ext2 (by kernel_rfl) (by kernel_rfl) ?_ | with_reducible refine wp_region_ext (by kernel_rfl) (by kernel_rfl) ?_); (repeat (first | go_big_quiet_step ((first | fail)) | quiet_step ((first | fail)))); refine wpQuiet_nil ?_; rintro _ ⟨yr, rfl⟩; have syr := Ext.size yr; (repeat (first | rw [World.size_alloc] at syr | rw [World.size_setCell] at syr | rw [World.size_drew] at syr)); have : SN < yr.now.heap.size := (by omega); have : SN ≤ yr.now.heap.size := (by omega); have : SN < yr.now.heap.size + 1 + 1 := (by omega)))
                      exact ⟨⟨g + 1, z3, _, by simp, rfl, rfl, hrz.out, key2⟩, by simp [intOf]; omega⟩
              · have hgl2 : ¬ (g : Int) < gs.length := by omega
                have hbb : bb = true := by
                  rcases hg.out.2 with e | ⟨q, hq, _⟩
                  · exact e
                  · rw [drop_end hgl] at hq; cases hq
                subst hbb
                clear hg
                have hrr : z2.now.ownsRow SN 3 1 (.slice (some ⟨SN, 0, none⟩) ts.length ts.length) ts.length (intsOf (seenL ts.length ((L.take (i + 1)).flatten))) := by rw [htk2.out]; exact hrz
                replace hrr := Go.Lib.hid hrr
                clear hrz
                go_wp2_with (first | ((first | with_reducible refine wp_region_ext2 (by kernel_rfl) (by kernel_rfl) ?_ | with_reducible refine wp_region_ext (by kernel_rfl) (by kernel_rfl) ?_); (repeat (first | go_big_quiet_step ((first | fail)) | quiet_step ((first | fail)))); refine wpQuiet_nil ?_; rintro _ ⟨yr, rfl⟩; have syr := Ext.size yr; (repeat (first | rw [World.size_alloc] at syr | rw [World.size_setCell] at syr | rw [World.size_drew] at syr)); have : SN < yr.now.heap.size := (by omega); have : SN ≤ yr.now.heap.size := (by omega); have : SN < yr.now.heap.size + 1 + 1 := (by omega)))
                exact ⟨⟨i + 1, z2, last, by simp, rfl, rfl, hrr.out, key⟩, by simp [intOf]; omega⟩
      · have hl1 : xl.length = 1 := by omega
        have h1i : ¬ ((1 : Int) < xl.length) := by omega
        replace hl1 := Go.Lib.hid hl1
        clear q1 q2 q6
        go_wp2_with (first | ((first | with_reducible refine wp_region_ext2 (by kernel_rfl) (by kernel_rfl) ?_ | with_reducible refine wp_region_ext (by kernel_rfl) (by kernel_rfl) ?_); (repeat (first | go_big_quiet_step ((first | fail)) | quiet_step ((first | fail)))); refine wpQuiet_nil ?_; rintro _ ⟨yr, rfl⟩; have syr := Ext.size yr; (repeat (first | rw [World.size_alloc] at syr | rw [World.size_setCell] at syr | rw [World.size_drew] at syr)); have : B < yr.now.heap.size := (by omega); have : B ≤ yr.now.heap.size := (by omega); have : B < yr.now.heap.size + 1 + 1 := (by omega); have : SN < yr.now.heap.size := (by omega); have : SN ≤ yr.now.heap.size := (by omega); have : SN < yr.now.heap.size + 1 + 1 := (by omega)))
        go_loopw [12] (fun u W => ∃ (k : Nat) (z : RExt W5 SN), u = .int .i64 k ∧ W = z.now ∧ z.now.ownsRow SN 3 1 (.slice (some ⟨SN, 0, none⟩) ts.length ts.length) ts.length (intsOf (seenL ts.length (AC ++ xl.take k))) ∧ Hid (k ≤ xl.length)) (fun u _ => xl.length - (intOf u).toNat)
        case atStart => exact ⟨0, y, rfl, rfl, by simpa using hrow.out, Go.Lib.hid (Nat.zero_le _)⟩
        case round =>
          obtain ⟨k, z, rfl, rfl, hrz, hk⟩ := hrel
          have zs := z.size
          have hSz : SN < z.now.heap.size := by omega
          by_cases hkl : k < xl.length
          · have hkl2 : (k : Int) < xl.length := by omega
            obtain ⟨B4, o4, rfl, hB4, s0⟩ := hxI.out k hkl
            replace hB4 := hlow.out B4 hB4
            have hs0 := (hcell.out z B4 (o4 + k) hB4).1.trans s0
            have hB4z := (hcell.out z B4 0 hB4).2
            have hv := q3.out xl[k] (List.getElem_mem hkl)
            have htk := take_snoc hkl
            have hkm : k < 10 := by have := hml.out; omega
            rcases k with _ | k'
            · simp only [Nat.add_zero] at hs0
              clear s0
              generalize xl[0] = xv at *
              obtain ⟨hv0, hv1⟩ := hv
              obtain ⟨vn, rfl⟩ := Int.eq_ofNat_of_zero_le hv0
              have hvn : vn < ts.length := by omega
              have hvn2 : (vn : Int) < (ts.length : Int) := by omega
              have hvn3 : ¬ ((vn : Int) < 0) := by omega
              have hvn4 : ¬ ((ts.length : Int) ≤ (vn : Int)) := by omega
              have hcn := hcnt.out (0) vn hvn
              have hc := ints_at hrz hvn (seenL_at hvn)
              have hf := hrz.frozenAt vn
              have hadd := Go.Lib.hid (seenL_add (n := ts.length) (acc := AC ++ xl.take (0)) hvn)
              rw [List.append_assoc, ← htk] at hadd
              generalize (AC ++ xl.take (0)).count (vn : Int) = cn at *
              have hwr : IntKind.i64.wrap ((cn : Int) + 1) = (cn : Int) + 1 := IntWalk.i64_in _ (by omega)
              replace hcn := Go.Lib.hid hcn
              replace hrz := Go.Lib.hid hrz
              clear hk hv0 hv1
              go_wp2_with (first | ((first | with_reducible refine wp_region_ext2 (by kernel_rfl) (by kernel_rfl) ?_ | with_reducible refine wp_region_ext (by kernel_rfl) (by kernel_rfl) ?_); (repeat (first | go_big_quiet_step ((first | fail)) | quiet_step ((first | fail)))); refine wpQuiet_nil ?_; rintro _ ⟨yr, rfl⟩; have syr := Ext.size yr; (repeat (first | rw [World.size_alloc] at syr | rw [World.size_setCell] at syr | rw [World.size_drew] at syr)); have : B4 < yr.now.heap.size := (by omega); have : B4 ≤ yr.now.heap.size := (by omega); have : B4 < yr.now.heap.size + 1 + 1 := (by omega); have : SN < yr.now.heap.size := (by omega); have : SN ≤ yr.now.heap.size := (by omega); have : SN < yr.now.heap.size + 1 + 1 := (by omega)))
              have hrr := ((owns_ext hrz.out yr).stored vn (.int .i64 ((cn : Int) + 1))).1
              rw [ints_set, ← hadd.out] at hrr
              exact ⟨⟨0 + 1, ⟨_, (z.grew.trans ((BelowX.of yr.grew).mono zs)).ring vn _⟩, by simp, rfl, hrr, Go.Lib.hid hkl⟩, by simp [intOf]; omega⟩
            · exact absurd hkl (by omega)
          · have hkl2 : ¬ (k : Int) < xl.length := by omega
            obtain rfl : k = xl.length := by have := hk.out; omega
            rw [List.take_length] at hrz
            clear hk
            have hx0 : 0 < xl.length := by omega
            obtain ⟨B4, o4, rfl, hB4, s0⟩ := hxI.out 0 hx0
            replace hB4 := hlow.out B4 hB4
            have hs0 := (hcell.out z B4 (o4 + 0) hB4).1.trans s0
            have hB4z := (hcell.out z B4 0 hB4).2
            simp only [Nat.add_zero] at hs0
            have hq5 := q5.out hl1.out xl[0] (List.getElem_mem hx0)
            have hv := q3.out xl[0] (List.getElem_mem hx0)
            have hhd : xl.headD 0 = xl[0] := by cases xl with | nil => simp at hx0 | cons a l => rfl
            rw [if_pos hl1.out, hhd] at hg'
            clear s0 hhd
            generalize xl[0] = xv at *
            have hnl : ¬ (xv ≤ last) := by omega
            have key : Hid (i + 1 ≤ fd.length ∧ goodL F gs ts.length xv (L.drop (i + 1)) ∧ -1 ≤ xv ∧ xv < 10) := Go.Lib.hid ⟨hlt, hg', by omega, by omega⟩
            have hrr : z.now.ownsRow SN 3 1 (.slice (some ⟨SN, 0, none⟩) ts.length ts.length) ts.length (intsOf (seenL ts.length ((L.take (i + 1)).flatten))) := by rw [htake.out]; exact hrz
            have hli : (xl.length : Int) = 1 := by omega
            have hx0i : (0 : Int) < xl.length := by omega
            replace hrr := Go.Lib.hid hrr
            clear hg' hq5 hv hrz
            go_wp2_with (first | ((first | with_reducible refine wp_region_ext2 (by kernel_rfl) (by kernel_rfl) ?_ | with_reducible refine wp_region_ext (by kernel_rfl) (by kernel_rfl) ?_); (repeat (first | go_big_quiet_step ((first | fail)) | quiet_step ((first | fail)))); refine wpQuiet_nil ?_; rintro _ ⟨yr, rfl⟩; have syr := Ext.size yr; (repeat (first | rw [World.size_alloc] at syr | rw [World.size_setCell] at syr | rw [World.size_drew] at syr)); have : B4 < yr.now.heap.size := (by omega); have : B4 ≤ yr.now.heap.size := (by omega); have : B4 < yr.now.heap.size + 1 + 1 := (by omega); have : SN < yr.now.heap.size := (by omega); have : SN ≤ yr.now.heap.size := (by omega); have : SN < yr.now.heap.size + 1 + 1 := (by omega)))
            exact ⟨⟨i + 1, z, xv, by simp, rfl, rfl, hrr.out, key⟩, by simp [intOf]; omega⟩
    · have hge : ¬ (i : Int) < fd.length := by omega
      have hall : (L.take i).flatten = L.flatten := by rw [List.take_of_length_le (by omega)]
      rw [hall] at hrow
      clear hi hall hLl
      go_wp2_with (first | ((first | with_reducible refine wp_region_ext2 (by kernel_rfl) (by kernel_rfl) ?_ | with_reducible refine wp_region_ext (by kernel_rfl) (by kernel_rfl) ?_); (repeat (first | go_big_quiet_step ((first | fail)) | quiet_step ((first | fail)))); refine wpQuiet_nil ?_; rintro _ ⟨yr, rfl⟩; have syr := Ext.size yr; (repeat (first | rw [World.size_alloc] at syr | rw [World.size_setCell] at syr | rw [World.size_drew] at syr)); have : SN < yr.now.heap.size := (by omega); have : SN ≤ yr.now.heap.size := (by omega); have : SN < yr.now.heap.size + 1 + 1 := (by omega)))
      go_loopw [17] (fun u W => ∃ (j : Nat) (z : RExt W5 SN), u = .int .i64 j ∧ W = z.now ∧ z.now.ownsRow SN 3 1 (.slice (some ⟨SN, 0, none⟩) ts.length ts.length) ts.length (intsOf (seenL ts.length (L.flatten))) ∧ Hid (j ≤ ts.length)) (fun u _ => ts.length - (intOf u).toNat)
      case atStart => exact ⟨0, y, rfl, rfl, hrow, Go.Lib.hid (Nat.zero_le _)⟩
      case round =>
        clear hrow
        obtain ⟨j, z, rfl, rfl, hrz, hj⟩ := hrel
        have zs := z.size
        have hSz : SN < z.now.heap.size := by omega
        by_cases hjl : j < ts.length
        · have hjl2 : (j : Int) < ts.length := by omega
          have hc := ints_at hrz hjl (seenL_at hjl)
          rw [hcount.out j hjl] at hc
          replace hrz := Go.Lib.hid hrz
          clear hj
          go_wp2_with (first | ((first | with_reducible refine wp_region_ext2 (by kernel_rfl) (by kernel_rfl) ?_ | with_reducible refine wp_region_ext (by kernel_rfl) (by kernel_rfl) ?_); (repeat (first | go_big_quiet_step ((first | fail)) | quiet_step ((first | fail)))); refine wpQuiet_nil ?_; rintro _ ⟨yr, rfl⟩; have syr := Ext.size yr; (repeat (first | rw [World.size_alloc] at syr | rw [World.size_setCell] at syr | rw [World.size_drew] at syr)); have : SN < yr.now.heap.size := (by omega); have : SN ≤ yr.now.heap.size := (by omega); have : SN < yr.now.heap.size + 1 + 1 := (by omega)))
          exact ⟨⟨j + 1, z, by simp, rfl, hrz.out, Go.Lib.hid hjl⟩, by simp [intOf]; omega⟩
        · have hjl2 : ¬ (j : Int) < ts.length := by omega
          have hBz : Below w.heap.size w z.now := hBw.trans ((hbel.out z).mono (by omega))
          have hzs := hBz.size
          clear hj hrz
          go_wp2_with (first | ((first | with_reducible refine wp_region_ext2 (by kernel_rfl) (by kernel_rfl) ?_ | with_reducible refine wp_region_ext (by kernel_rfl) (by kernel_rfl) ?_); (repeat (first | go_big_quiet_step ((first | (go_at_call 12; with_reducible exact Calls.ext (ca _)))) | quiet_step ((first | (go_at_call 12; with_reducible exact Calls.ext (ca _)))))); refine wpQuiet_nil ?_; rintro _ ⟨yr, rfl⟩; have syr := Ext.size yr; (repeat (first | rw [World.size_alloc] at syr | rw [World.size_setCell] at syr | rw [World.size_drew] at syr))) | (go_at_call 12; (first | with_reducible refine (Calls.giv2 (ca _)).mono ?_ | with_reducible refine (Calls.giv (ca _)).mono ?_); rintro _ _ ⟨y1, rfl, rfl⟩; have sy1 := Ext.size y1; (repeat (first | rw [World.size_alloc] at sy1 | rw [World.size_setCell] at sy1 | rw [World.size_drew] at sy1))))
          go_returns
          refine ⟨rfl, ?_⟩
          repeat' (first | (with_reducible exact Below.refl _ _) | (with_reducible assumption) | (with_reducible refine Ext.below _ ?_ ?_) | (with_reducible refine Below.on ?_ (by with_reducible assumption) ?_) | (with_reducible refine Below.alloc ?_ ?_ _) | (with_reducible refine Below.drew ?_) | (with_reducible refine Below.setCell ?_ ?_ _) | (with_reducible exact Nat.le_refl _) | omega | (simp; done) | (simp [go_sem]; done) | (simp at *; omega))
set_option maxRecDepth 100000 in
theorem SkyParts_lifted (os : Os) (started : os.Started) (H : Type) (enc : TypeId × Value → H) :
    ReturnsInHanded {} Try.checked os 5 .any (Rows.skyPartsSpec.pre6 enc Try.prog Try.f5 Rows.skyPartsRow.domain false) (Rows.skyPartsSpec.post enc Try.prog Try.f5 false true false false) := by
  refine returnsInHanded_of_change (C := Try.checked) own started (by kernel_rfl) Try.func5
    (ChangeSpec.witness6 (enc := enc) (C := Try.checked) false ⟨#[], #[.slice none 0 0], []⟩ 8 (by kernel_rfl) (by kernel_rfl) (by kernel_rfl) (by kernel_rfl)) ?_
  intro W base args ds gs before hval0 hW _ _
  have hval : ∀ (j : Nat) t v, Try.f5.params[j]? = some t → args[j]? = some v → Value.okWide Try.prog W .any base t v := hval0
  have hW' := hW
  obtain ⟨p, q, hA0, hV, _, _, _⟩ := hW
  have hA : DataW.TrodAll enc Try.prog W 0 (fun _ => true) true Try.f5.params.toList args.toList ds p := hA0
  rw [Try.params5] at hA hval
  obtain ⟨v0, vs0, d0, ds0, p0, q0, hargs0, rfl, _, h0, r0⟩ := trodAll_cons hA
  obtain ⟨hlast, rfl, _⟩ := trodAll_nil r0
  subst hlast
  obtain rfl : args = #[v0] := by cases args; simp_all
  obtain ⟨rfl, rfl⟩ := trodVars_none hV
  obtain ⟨sp0, sl0, sc0, sz0, rfl, hi0⟩ := open_list (P := Try.prog) Try.underlying22 Try.underlying3 (by kernel_rfl) (hval 0 22 v0 rfl rfl) h0
  exact (SkyParts_any sp0 sl0 sc0 sz0 W hi0).mono fun e W' h => law_post laid_out (by rw [Try.params5]; intro t ht; simp only [List.mem_cons, List.not_mem_nil, or_false] at ht; rcases ht with rfl | rfl | rfl | rfl | rfl | rfl | rfl | rfl; all_goals exact ⟨by kernel_rfl, by decide +kernel⟩) rfl rfl Try.underlying4 hW' rfl h
/-- The statement. -/
theorem SkyParts_holds : Rows.SkyPartsSaid :=
  OpenClaim.holds_of_wide 5 Try.f5 rfl rfl rfl rfl rfl rfl rfl ⟨rfl, rfl, rfl, rfl, rfl⟩ rfl rfl rfl rfl rfl (by kernel_rfl) Try.func5 (by kernel_rfl)
    (of_decide_eq_true (by kernel_rfl)) (by unfold Func.isWrapper; first | (rw [if_pos (by decide +kernel)]; kernel_rfl) | (rw [if_neg (by decide +kernel)]; exact ⟨rfl, rfl⟩))
    (fun os started H enc _ => SkyParts_lifted os started H enc)
end Go.Proofs.Ytgoilmiiegpnoaa

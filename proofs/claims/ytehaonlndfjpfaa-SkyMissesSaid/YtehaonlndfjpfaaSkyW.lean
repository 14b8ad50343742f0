/- Contract of looksOf: the looks of a tracklet, or its first error. Condition: a valid sky and the tracklet in memory. -/
import Derived.Test.YtehaonlndfjpfaaSkyV
namespace Go.Proofs.Ytehaonlndfjpfaa
open Go.RowKit Go.Shelf
attribute [local go_sem] Option.isSome_some Ext.cell Ext.frozen Ext.lt Ext.le Ext.lt_add Ext.le_add Ext.ne Ext.ne' lt2 lt3 lt4 lt5 le2 le3 le4
def SightsAt (W : World) (p : Option Addr) (l : List SightR) : Prop := ∀ j (h : j < l.length), ∃ B o, p = some ⟨B, o, none⟩ ∧ B < W.heap.size ∧ W.cell? ⟨B, o + j * 9, none⟩ = some (.int .i64 l[j].kind) ∧ W.cell? ⟨B, o + j * 9 + 1, none⟩ = some (.int .i64 l[j].st) ∧ W.cell? ⟨B, o + j * 9 + 2, none⟩ = some (.int .i64 l[j].cat) ∧ W.cell? ⟨B, o + j * 9 + 3, none⟩ = some (.int .i64 l[j].tick) ∧ W.cell? ⟨B, o + j * 9 + 4, none⟩ = some (.int .i64 l[j].dir.x) ∧ W.cell? ⟨B, o + j * 9 + 5, none⟩ = some (.int .i64 l[j].dir.y) ∧ W.cell? ⟨B, o + j * 9 + 6, none⟩ = some (.int .i64 l[j].err) ∧ W.cell? ⟨B, o + j * 9 + 7, none⟩ = some (.int .i64 l[j].lo) ∧ W.cell? ⟨B, o + j * 9 + 8, none⟩ = some (.int .i64 l[j].hi)
theorem SightsAt.ext {W : World} {p : Option Addr} {l : List SightR} (h : SightsAt W p l) (x : Ext W) : SightsAt x.now p l := fun j hj => by
  obtain ⟨B, o, rfl, hB, h1, h2, h3, h4, h5, h6, h7, h8, h9⟩ := h j hj
  exact ⟨B, o, rfl, x.lt hB, (x.cell hB).trans h1, (x.cell hB).trans h2, (x.cell hB).trans h3, (x.cell hB).trans h4, (x.cell hB).trans h5, (x.cell hB).trans h6, (x.cell hB).trans h7, (x.cell hB).trans h8, (x.cell hB).trans h9⟩
theorem SightsAt.on {W W' : World} {p : Option Addr} {l : List SightR} (h : SightsAt W p l) (b : Below W.heap.size W W') : SightsAt W' p l := h.ext ⟨W', b⟩
def LookR.cells (k : LookR) : List Value := [.int .i64 k.tick, .int .i64 k.frm.x, .int .i64 k.frm.y, k.says.val]
def lateB (prev : Option Int) (t : Int) : Bool := match prev with
  | some u => decide (t < u)
  | none => false
def looksA (s : SkyR) : List LookR → Option Int → List SightR → Except Int (List LookR)
  | acc, _, [] => .ok acc
  | acc, prev, x :: l => match lookR s x with
    | .error e => .error e
    | .ok k => if lateB prev x.tick then .error 11 else looksA s (acc ++ [k]) (some x.tick) l
def looksR (s : SkyR) (l : List SightR) : Except Int (List LookR) := if cntE l.length 1 64 = 0 then looksA s [] none l else .error (cntE l.length 1 64)
def prevT (l : List SightR) (i : Nat) : Option Int := if i = 0 then none else (l[i - 1]?).map (·.tick)
theorem prevT_succ {l : List SightR} {i : Nat} (h : i < l.length) : prevT l (i + 1) = some l[i].tick := by
  unfold prevT
  rw [if_neg (by omega), Nat.add_sub_cancel, List.getElem?_eq_getElem h]; rfl
def rowsOf (l : List LookR) : List Value := l.flatMap LookR.cells
theorem rowsOf_add (l : List LookR) (k : LookR) : rowsOf (l ++ [k]) = rowsOf l ++ [.int .i64 k.tick, .int .i64 k.frm.x, .int .i64 k.frm.y, k.says.val] := by
  unfold rowsOf; rw [List.flatMap_append]; simp [LookR.cells]
/-- What a list of looks, or an error, is handed back as. -/
def LooksPost (w : World) (r : Except Int (List LookR)) : Ending → World → Prop := fun e w' => Below w.heap.size w w' ∧ match r with
  | .error n => e = .returned (.tuple #[.slice none 0 0, .int .i64 n])
  | .ok ks => ∃ v, e = .returned (.tuple #[v, .int .i64 0]) ∧ w'.ownsRow w.heap.size 104 4 v ks.length (rowsOf ks)
theorem cells4_new (w : World) (v0 v1 v2 v3 : Value) (T : TypeId) : ∀ j u, [v0, v1, v2, v3][j]? = some u → (w.alloc (.cells #[v0, v1, v2, v3] T)).cell? ((⟨w.heap.size, 0, none⟩ : Addr).add j) = some u := by
  intro j u hj
  have hl : j < 4 := by simpa using (List.getElem?_eq_some_iff.1 hj).1
  have hadd : (⟨w.heap.size, 0, none⟩ : Addr).add j = ⟨w.heap.size, j, none⟩ := by unfold Addr.add; split <;> simp_all
  rw [hadd]
  rcases (show j = 0 ∨ j = 1 ∨ j = 2 ∨ j = 3 by omega) with rfl | rfl | rfl | rfl <;> (simp at hj; subst hj; simp [go_sem])
theorem look_info : (Try.prog.info? 104).map (fun i => (i.zero, i.size, i.bytes)) = some (some (.agg #[.int .i64 0, .int .i64 0, .int .i64 0, .nilIface]), 4, 40) := by kernel_rfl
set_option maxRecDepth 100000 in
set_option maxHeartbeats 16000000 in
theorem looksOf_any (s : SkyR) (p : Option Addr) (c : Nat) (l : List SightR) (w : World) (hA : s.At w) (hE : skyE s = 0) (hP : SightsAt w p l) :
    Calls Try.prog 32 #[s.val, .slice p l.length c] w (LooksPost w (looksR s l)) := by
  have cc := fun W => checkCount_any l.length 1 64 W
  unfold looksR
  by_cases hc : cntE l.length 1 64 = 0
  · rw [if_pos hc]
    rw [hc] at cc
    have hn : l.length ≤ 64 := (cntE_zero hc).2
    clear hc
    have cl := fun (W : World) (y : Below w.heap.size w W) (x : SightR) => lookOf_any s x W (hA.on y) hE
    have ce := Go.Lib.hid (fun (x : SightR) e (h : lookR s x = .error e) => lookR_err h)
    obtain ⟨V, hV⟩ : ∃ V, looksA s [] none l = V := ⟨_, rfl⟩
    rw [hV]
    have hV := Go.Lib.hid hV
    have hP := Go.Lib.hid hP
    obtain ⟨i0, hi0, hz0, hz1, hz2⟩ := info_parts look_info
    unfold SkyR.val SightR.val at *
    clear hA hE
    generalize s.cats.length = n1 at *
    generalize s.cp = n2 at *
    generalize s.cc = n3 at *
    generalize s.bodies.length = n4 at *
    generalize s.bp = n5 at *
    generalize s.bc = n6 at *
    generalize s.sts.length = n7 at *
    generalize s.sp = n8 at *
    generalize s.sc = n9 at *
    generalize s.home = n0 at *
    go_enter Try.func32, Try.ntmps32
    go_wp2_with (first | ((first | with_reducible refine wp_region_ext2 (by kernel_rfl) (by kernel_rfl) ?_ | with_reducible refine wp_region_ext (by kernel_rfl) (by kernel_rfl) ?_); (repeat (first | go_big_quiet_step ((first | (go_at_call 59; with_reducible exact Calls.ext (cc _)))) | quiet_step ((first | (go_at_call 59; with_reducible exact Calls.ext (cc _)))))); refine wpQuiet_nil ?_; rintro _ ⟨yr, rfl⟩; have syr := Ext.size yr; (repeat (first | rw [World.size_alloc] at syr | rw [World.size_setCell] at syr | rw [World.size_drew] at syr))) | (go_at_call 59; (first | with_reducible refine (Calls.giv2 (cc _)).mono ?_ | with_reducible refine (Calls.giv (cc _)).mono ?_); rintro _ _ ⟨y1, rfl, rfl⟩; have sy1 := Ext.size y1; (repeat (first | rw [World.size_alloc] at sy1 | rw [World.size_setCell] at sy1 | rw [World.size_drew] at sy1))))
    refine wp_named (fun W0 hW => ?_)
    have hBw : Below w.heap.size w W0 := by rw [← hW]; repeat' (first | (with_reducible exact Below.refl _ _) | (with_reducible assumption) | (with_reducible refine Ext.below _ ?_ ?_) | (with_reducible refine Below.on ?_ (by with_reducible assumption) ?_) | (with_reducible refine Below.alloc ?_ ?_ _) | (with_reducible refine Below.drew ?_) | (with_reducible refine Below.setCell ?_ ?_ _) | (with_reducible exact Nat.le_refl _) | omega | (simp; done) | (simp [go_sem]; done) | (simp at *; omega))
    have hs0 : w.heap.size < W0.heap.size := by rw [← hW]; omega
    have c0 : W0.cell? ⟨w.heap.size, 0, none⟩ = some (.slice n5 n4 n6) := by rw [← hW]; simp [go_sem]
    have c1 : W0.cell? ⟨w.heap.size, 1, none⟩ = some (.int .i64 n0) := by rw [← hW]; simp [go_sem]
    have c2 : W0.cell? ⟨w.heap.size, 2, none⟩ = some (.slice n8 n7 n9) := by rw [← hW]; simp [go_sem]
    have c3 : W0.cell? ⟨w.heap.size, 3, none⟩ = some (.slice n2 n1 n3) := by rw [← hW]; simp [go_sem]
    have hP := Go.Lib.hid (hP.out.on hBw)
    clear hW sy1
    clear y1
    go_loopw [7, 20] (fun v t W => ∃ (i : Nat) (x : Ext W0) (acc : List LookR), t = .int .i64 i ∧ W = x.now ∧ x.now.ownsRow W0.heap.size 104 4 v i (rowsOf acc) ∧ Hid (i ≤ l.length ∧ acc.length = i ∧ looksA s acc (prevT l i) (l.drop i) = V)) (fun _ t _ => l.length - (intOf t).toNat)
    case atStart => exact ⟨0, ⟨W0, Below.refl _ _⟩, [], rfl, rfl, World.ownsRow_nil _ _ _ _, Go.Lib.hid ⟨Nat.zero_le _, rfl, by simpa [prevT] using hV.out⟩⟩
    case round =>
      obtain ⟨i, x, acc, rfl, rfl, hown, hi⟩ := hrel
      have xs := x.size
      have hbx := x.below hBw (by omega)
      have hsw : w.heap.size < x.now.heap.size := by omega
      by_cases hlt : i < l.length
      · have hlt2 : (i : Int) < l.length := by omega
        obtain ⟨B, o, rfl, hB, q1, q2, q3, q4, q5, q6, q7, q8, q9⟩ := hP.out i hlt
        have hE := hi.out.2.2
        rw [drop_at hlt, looksA] at hE
        have cl := fun W y => cl W y l[i]
        have : B < (x.now).heap.size := (by omega); have : B < (x.now).heap.size + 1 := (by omega); have : B < (x.now).heap.size + 1 + 1 := (by omega); have : B ≠ (x.now).heap.size := (by omega); have : B ≠ (x.now).heap.size + 1 := (by omega)
        have : w.heap.size < (x.now).heap.size := (by omega); have : w.heap.size < (x.now).heap.size + 1 := (by omega); have : w.heap.size < (x.now).heap.size + 1 + 1 := (by omega); have : w.heap.size ≠ (x.now).heap.size := (by omega); have : w.heap.size ≠ (x.now).heap.size + 1 := (by omega)
        have hil : acc.length = i := hi.out.2.1
        cases hr : lookR s l[i] with
        | error e =>
          rw [hr] at hE cl
          have e0 := ce.out _ _ hr
          clear hr hi hV
          simp only at hE
          subst hE
          simp only [lookRes] at cl
          generalize l[i].kind = g1 at *
          generalize l[i].st = g2 at *
          generalize l[i].cat = g3 at *
          generalize l[i].tick = g4 at *
          generalize l[i].dir.x = g5 at *
          generalize l[i].dir.y = g6 at *
          generalize l[i].err = g7 at *
          generalize l[i].lo = g8 at *
          generalize l[i].hi = g9 at *
          go_wp2_with (first | ((first | with_reducible refine wp_region_ext2 (by kernel_rfl) (by kernel_rfl) ?_ | with_reducible refine wp_region_ext (by kernel_rfl) (by kernel_rfl) ?_); (repeat (first | go_big_quiet_step ((first | (go_at_call 60; with_reducible exact Calls.ext (cl _ (by repeat' (first | (with_reducible exact Below.refl _ _) | (with_reducible assumption) | (with_reducible refine Ext.below _ ?_ ?_) | (with_reducible refine Below.on ?_ (by with_reducible assumption) ?_) | (with_reducible refine Below.alloc ?_ ?_ _) | (with_reducible refine Below.drew ?_) | (with_reducible refine Below.setCell ?_ ?_ _) | (with_reducible exact Nat.le_refl _) | omega | (simp; done) | (simp [go_sem]; done) | (simp at *; omega))))))) | quiet_step ((first | (go_at_call 60; with_reducible exact Calls.ext (cl _ (by repeat' (first | (with_reducible exact Below.refl _ _) | (with_reducible assumption) | (with_reducible refine Ext.below _ ?_ ?_) | (with_reducible refine Below.on ?_ (by with_reducible assumption) ?_) | (with_reducible refine Below.alloc ?_ ?_ _) | (with_reducible refine Below.drew ?_) | (with_reducible refine Below.setCell ?_ ?_ _) | (with_reducible exact Nat.le_refl _) | omega | (simp; done) | (simp [go_sem]; done) | (simp at *; omega))))))))); refine wpQuiet_nil ?_; rintro _ ⟨yr, rfl⟩; have syr := Ext.size yr; (repeat (first | rw [World.size_alloc] at syr | rw [World.size_setCell] at syr | rw [World.size_drew] at syr)); have : B < yr.now.heap.size := (by omega); have : B ≤ yr.now.heap.size := (by omega); have : B < yr.now.heap.size + 1 + 1 := (by omega); have : w.heap.size < yr.now.heap.size := (by omega); have : w.heap.size ≤ yr.now.heap.size := (by omega); have : w.heap.size < yr.now.heap.size + 1 + 1 := (by omega)) | (go_at_call 60; (first | with_reducible refine (Calls.giv2 (cl _ (by repeat' (first | (with_reducible exact Below.refl _ _) | (with_reducible assumption) | (with_reducible refine Ext.below _ ?_ ?_) | (with_reducible refine Below.on ?_ (by with_reducible assumption) ?_) | (with_reducible refine Below.alloc ?_ ?_ _) | (with_reducible refine Below.drew ?_) | (with_reducible refine Below.setCell ?_ ?_ _) | (with_reducible exact Nat.le_refl _) | omega | (simp; done) | (simp [go_sem]; done) | (simp at *; omega))))).mono ?_ | with_reducible refine (Calls.giv (cl _ (by repeat' (first | (with_reducible exact Below.refl _ _) | (with_reducible assumption) | (with_reducible refine Ext.below _ ?_ ?_) | (with_reducible refine Below.on ?_ (by with_reducible assumption) ?_) | (with_reducible refine Below.alloc ?_ ?_ _) | (with_reducible refine Below.drew ?_) | (with_reducible refine Below.setCell ?_ ?_ _) | (with_reducible exact Nat.le_refl _) | omega | (simp; done) | (simp [go_sem]; done) | (simp at *; omega))))).mono ?_); rintro _ _ ⟨y1, rfl, rfl⟩; have sy1 := Ext.size y1; (repeat (first | rw [World.size_alloc] at sy1 | rw [World.size_setCell] at sy1 | rw [World.size_drew] at sy1)); have : B < y1.now.heap.size := (by omega); have : B ≤ y1.now.heap.size := (by omega); have : B < y1.now.heap.size + 1 + 1 := (by omega); have : w.heap.size < y1.now.heap.size := (by omega); have : w.heap.size ≤ y1.now.heap.size := (by omega); have : w.heap.size < y1.now.heap.size + 1 + 1 := (by omega)))
          go_returns
          refine ⟨?_, rfl⟩
          repeat' (first | (with_reducible exact Below.refl _ _) | (with_reducible assumption) | (with_reducible refine Ext.below _ ?_ ?_) | (with_reducible refine Below.on ?_ (by with_reducible assumption) ?_) | (with_reducible refine Below.alloc ?_ ?_ _) | (with_reducible refine Below.drew ?_) | (with_reducible refine Below.setCell ?_ ?_ _) | (with_reducible exact Nat.le_refl _) | omega | (simp; done) | (simp [go_sem]; done) | (simp at *; omega))
        | ok k =>
          rw [hr] at hE cl
          simp only at hE
          obtain ⟨k1, ⟨k2, k3⟩, k4⟩ := k
          have hadd := Go.Lib.hid (rowsOf_add acc ⟨k1, ⟨k2, k3⟩, k4⟩)
          simp only [lookRes] at cl
          obtain ⟨gt, gv, hg⟩ := val_iface k4
          rw [hg] at hadd
          simp only [hg] at cl
          clear hr hg
          rcases Nat.eq_zero_or_pos i with h0 | h0
          · have key : Hid (i + 1 ≤ l.length ∧ (acc ++ [(⟨k1, ⟨k2, k3⟩, k4⟩ : LookR)]).length = i + 1 ∧ looksA s (acc ++ [⟨k1, ⟨k2, k3⟩, k4⟩]) (prevT l (i + 1)) (l.drop (i + 1)) = V) := Go.Lib.hid ⟨hlt, by simp [hil], by
              rw [prevT_succ hlt]
              rw [show prevT l i = none by unfold prevT; rw [if_pos h0]] at hE
              simpa [lateB] using hE⟩
            have hp0 : ¬ (0 : Int) < i := by omega
            have hp1 : ¬ 0 < i := by omega
            clear hE hi hV hil h0
            generalize l[i].kind = g1 at *
            generalize l[i].st = g2 at *
            generalize l[i].cat = g3 at *
            generalize l[i].tick = g4 at *
            generalize l[i].dir.x = g5 at *
            generalize l[i].dir.y = g6 at *
            generalize l[i].err = g7 at *
            generalize l[i].lo = g8 at *
            generalize l[i].hi = g9 at *
            go_wp2_with (first | ((first | with_reducible refine wp_region_ext2 (by kernel_rfl) (by kernel_rfl) ?_ | with_reducible refine wp_region_ext (by kernel_rfl) (by kernel_rfl) ?_); (repeat (first | go_big_quiet_step ((first | (go_at_call 60; with_reducible exact Calls.ext (cl _ (by repeat' (first | (with_reducible exact Below.refl _ _) | (with_reducible assumption) | (with_reducible refine Ext.below _ ?_ ?_) | (with_reducible refine Below.on ?_ (by with_reducible assumption) ?_) | (with_reducible refine Below.alloc ?_ ?_ _) | (with_reducible refine Below.drew ?_) | (with_reducible refine Below.setCell ?_ ?_ _) | (with_reducible exact Nat.le_refl _) | omega | (simp; done) | (simp [go_sem]; done) | (simp at *; omega))))))) | quiet_step ((first | (go_at_call 60; with_reducible exact Calls.ext (cl _ (by repeat' (first | (with_reducible exact Below.refl _ _) | (with_reducible assumption) | (with_reducible refine Ext.below _ ?_ ?_) | (with_reducible refine Below.on ?_ (by with_reducible assumption) ?_) | (with_reducible refine Below.alloc ?_ ?_ _) | (with_reducible refine Below.drew ?_) | (with_reducible refine Below.setCell ?_ ?_ _) | (with_reducible exact Nat.le_refl _) | omega | (simp; done) | (simp [go_sem]; done) | (simp at *; omega))))))))); refine wpQuiet_nil ?_; rintro _ ⟨yr, rfl⟩; have syr := Ext.size yr; (repeat (first | rw [World.size_alloc] at syr | rw [World.size_setCell] at syr | rw [World.size_drew] at syr)); have : B < yr.now.heap.size := (by omega); have : B ≤ yr.now.heap.size := (by omega); have : B < yr.now.heap.size + 1 + 1 := (by omega); have : w.heap.size < yr.now.heap.size := (by omega); have : w.heap.size ≤ yr.now.heap.size := (by omega); have : w.heap.size < yr.now.heap.size + 1 + 1 := (by omega)) | (go_at_call 60; (first | with_reducible refine (Calls.giv2 (cl _ (by repeat' (first | (with_reducible exact Below.refl _ _) | (with_reducible assumption) | (with_reducible refine Ext.below _ ?_ ?_) | (with_reducible refine Below.on ?_ (by with_reducible assumption) ?_) | (with_reducible refine Below.alloc ?_ ?_ _) | (with_reducible refine Below.drew ?_) | (with_reducible refine Below.setCell ?_ ?_ _) | (with_reducible exact Nat.le_refl _) | omega | (simp; done) | (simp [go_sem]; done) | (simp at *; omega))))).mono ?_ | with_reducible refine (Calls.giv (cl _ (by repeat' (first | (with_reducible exact Below.refl _ _) | (with_reducible assumption) | (with_reducible refine Ext.below _ ?_ ?_) | (with_reducible refine Below.on ?_ (by with_reducible assumption) ?_) | (with_reducible refine Below.alloc ?_ ?_ _) | (with_reducible refine Below.drew ?_) | (with_reducible refine Below.setCell ?_ ?_ _) | (with_reducible exact Nat.le_refl _) | omega | (simp; done) | (simp [go_sem]; done) | (simp at *; omega))))).mono ?_); rintro _ _ ⟨y1, rfl, rfl⟩; have sy1 := Ext.size y1; (repeat (first | rw [World.size_alloc] at sy1 | rw [World.size_setCell] at sy1 | rw [World.size_drew] at sy1)); have : B < y1.now.heap.size := (by omega); have : B ≤ y1.now.heap.size := (by omega); have : B < y1.now.heap.size + 1 + 1 := (by omega); have : w.heap.size < y1.now.heap.size := (by omega); have : w.heap.size ≤ y1.now.heap.size := (by omega); have : w.heap.size < y1.now.heap.size + 1 + 1 := (by omega)) | (at_builtin; refine wpList_append_own _ rfl _ _ 68 rfl W0.heap.size 104 i0 _ 4 40 Try.underlying68 hi0 hz0 hz1 hz2 rfl (by decide) _ i (rowsOf acc) rfl (by repeat (first | exact hown | (with_reducible refine World.ownsRow.alloc ?_ _) | (with_reducible refine World.ownsRow.drew ?_) | (with_reducible refine owns_ext ?_ _))) _ 1 1 _ rfl rfl (cells4_new _ _ _ _ _ _) (by intro u hu; simp only [List.mem_cons, List.not_mem_nil, or_false] at hu; rcases hu with rfl | rfl | rfl | rfl <;> rfl) (by unfold maxLen; omega) (by omega) (by (try simp only [World.size_alloc]); omega) ?_; intro v' W2 hown' hgrow _; have hbel : Below W0.heap.size W0 W2 := (by refine below_grown (e := 104) (size := 4) (n := i) (xs := rowsOf acc) ?_ (by repeat (first | exact hown | (with_reducible refine World.ownsRow.alloc ?_ _) | (with_reducible refine World.ownsRow.drew ?_) | (with_reducible refine owns_ext ?_ _))) (Nat.le_refl _) (by (try simp only [World.size_alloc]); omega) hgrow; repeat' (first | (with_reducible exact Below.refl _ _) | (with_reducible assumption) | (with_reducible refine Ext.below _ ?_ ?_) | (with_reducible refine Below.on ?_ (by with_reducible assumption) ?_) | (with_reducible refine Below.alloc ?_ ?_ _) | (with_reducible refine Below.drew ?_) | (with_reducible refine Below.setCell ?_ ?_ _) | (with_reducible exact Nat.le_refl _) | omega | (simp; done) | (simp [go_sem]; done) | (simp at *; omega)))))
            refine ⟨⟨i + 1, ⟨_, hbel⟩, acc ++ [⟨k1, ⟨k2, k3⟩, k4⟩], by simp, rfl, by rw [hadd.out]; exact hown', key⟩, by simp [intOf]; omega⟩
          · have hp0 : (0 : Int) < i := by omega
            obtain ⟨j, hj⟩ : ∃ j, i = j + 1 := ⟨i - 1, by omega⟩
            have hjl : j < l.length := by omega
            obtain ⟨B', o', e', -, -, -, -, r4, -, -, -, -, -⟩ := hP.out j hjl
            cases e'
            have hpt : prevT l i = some l[j].tick := by subst hj; exact prevT_succ hjl
            rw [hpt] at hE
            clear hpt
            have hji : (i : Int) - 1 = j := by omega
            have hjl2 : (j : Int) < l.length := by omega
            by_cases ht : l[i].tick < l[j].tick
            · rw [if_pos (by simpa [lateB] using ht)] at hE
              clear hi hV hj hil
              subst hE
              generalize l[j].tick = g0 at *
              generalize l[i].kind = g1 at *
              generalize l[i].st = g2 at *
              generalize l[i].cat = g3 at *
              generalize l[i].tick = g4 at *
              generalize l[i].dir.x = g5 at *
              generalize l[i].dir.y = g6 at *
              generalize l[i].err = g7 at *
              generalize l[i].lo = g8 at *
              generalize l[i].hi = g9 at *
              go_wp2_with (first | ((first | with_reducible refine wp_region_ext2 (by kernel_rfl) (by kernel_rfl) ?_ | with_reducible refine wp_region_ext (by kernel_rfl) (by kernel_rfl) ?_); (repeat (first | go_big_quiet_step ((first | (go_at_call 60; with_reducible exact Calls.ext (cl _ (by repeat' (first | (with_reducible exact Below.refl _ _) | (with_reducible assumption) | (with_reducible refine Ext.below _ ?_ ?_) | (with_reducible refine Below.on ?_ (by with_reducible assumption) ?_) | (with_reducible refine Below.alloc ?_ ?_ _) | (with_reducible refine Below.drew ?_) | (with_reducible refine Below.setCell ?_ ?_ _) | (with_reducible exact Nat.le_refl _) | omega | (simp; done) | (simp [go_sem]; done) | (simp at *; omega))))))) | quiet_step ((first | (go_at_call 60; with_reducible exact Calls.ext (cl _ (by repeat' (first | (with_reducible exact Below.refl _ _) | (with_reducible assumption) | (with_reducible refine Ext.below _ ?_ ?_) | (with_reducible refine Below.on ?_ (by with_reducible assumption) ?_) | (with_reducible refine Below.alloc ?_ ?_ _) | (with_reducible refine Below.drew ?_) | (with_reducible refine Below.setCell ?_ ?_ _) | (with_reducible exact Nat.le_refl _) | omega | (simp; done) | (simp [go_sem]; done) | (simp at *; omega))))))))); refine wpQuiet_nil ?_; rintro _ ⟨yr, rfl⟩; have syr := Ext.size yr; (repeat (first | rw [World.size_alloc] at syr | rw [World.size_setCell] at syr | rw [World.size_drew] at syr)); have : B < yr.now.heap.size := (by omega); have : B ≤ yr.now.heap.size := (by omega); have : B < yr.now.heap.size + 1 + 1 := (by omega); have : w.heap.size < yr.now.heap.size := (by omega); have : w.heap.size ≤ yr.now.heap.size := (by omega); have : w.heap.size < yr.now.heap.size + 1 + 1 := (by omega)) | (go_at_call 60; (first | with_reducible refine (Calls.giv2 (cl _ (by repeat' (first | (with_reducible exact Below.refl _ _) | (with_reducible assumption) | (with_reducible refine Ext.below _ ?_ ?_) | (with_reducible refine Below.on ?_ (by with_reducible assumption) ?_) | (with_reducible refine Below.alloc ?_ ?_ _) | (with_reducible refine Below.drew ?_) | (with_reducible refine Below.setCell ?_ ?_ _) | (with_reducible exact Nat.le_refl _) | omega | (simp; done) | (simp [go_sem]; done) | (simp at *; omega))))).mono ?_ | with_reducible refine (Calls.giv (cl _ (by repeat' (first | (with_reducible exact Below.refl _ _) | (with_reducible assumption) | (with_reducible refine Ext.below _ ?_ ?_) | (with_reducible refine Below.on ?_ (by with_reducible assumption) ?_) | (with_reducible refine Below.alloc ?_ ?_ _) | (with_reducible refine Below.drew ?_) | (with_reducible refine Below.setCell ?_ ?_ _) | (with_reducible exact Nat.le_refl _) | omega | (simp; done) | (simp [go_sem]; done) | (simp at *; omega))))).mono ?_); rintro _ _ ⟨y1, rfl, rfl⟩; have sy1 := Ext.size y1; (repeat (first | rw [World.size_alloc] at sy1 | rw [World.size_setCell] at sy1 | rw [World.size_drew] at sy1)); have : B < y1.now.heap.size := (by omega); have : B ≤ y1.now.heap.size := (by omega); have : B < y1.now.heap.size + 1 + 1 := (by omega); have : w.heap.size < y1.now.heap.size := (by omega); have : w.heap.size ≤ y1.now.heap.size := (by omega); have : w.heap.size < y1.now.heap.size + 1 + 1 := (by omega)))
              go_returns
              refine ⟨?_, rfl⟩
              repeat' (first | (with_reducible exact Below.refl _ _) | (with_reducible assumption) | (with_reducible refine Ext.below _ ?_ ?_) | (with_reducible refine Below.on ?_ (by with_reducible assumption) ?_) | (with_reducible refine Below.alloc ?_ ?_ _) | (with_reducible refine Below.drew ?_) | (with_reducible refine Below.setCell ?_ ?_ _) | (with_reducible exact Nat.le_refl _) | omega | (simp; done) | (simp [go_sem]; done) | (simp at *; omega))
            · have key : Hid (i + 1 ≤ l.length ∧ (acc ++ [(⟨k1, ⟨k2, k3⟩, k4⟩ : LookR)]).length = i + 1 ∧ looksA s (acc ++ [⟨k1, ⟨k2, k3⟩, k4⟩]) (prevT l (i + 1)) (l.drop (i + 1)) = V) := Go.Lib.hid ⟨hlt, by simp [hil], by
              rw [prevT_succ hlt]
              rw [if_neg (by simpa [lateB] using ht)] at hE
              exact hE⟩
              clear hE hi hV hil hj
              generalize l[j].tick = g0 at *
              generalize l[i].kind = g1 at *
              generalize l[i].st = g2 at *
              generalize l[i].cat = g3 at *
              generalize l[i].tick = g4 at *
              generalize l[i].dir.x = g5 at *
              generalize l[i].dir.y = g6 at *
              generalize l[i].err = g7 at *
              generalize l[i].lo = g8 at *
              generalize l[i].hi = g9 at *
              go_wp2_with (first | ((first | with_reducible refine wp_region_ext2 (by kernel_rfl) (by kernel_rfl) ?_ | with_reducible refine wp_region_ext (by kernel_rfl) (by kernel_rfl) ?_); (repeat (first | go_big_quiet_step ((first | (go_at_call 60; with_reducible exact Calls.ext (cl _ (by repeat' (first | (with_reducible exact Below.refl _ _) | (with_reducible assumption) | (with_reducible refine Ext.below _ ?_ ?_) | (with_reducible refine Below.on ?_ (by with_reducible assumption) ?_) | (with_reducible refine Below.alloc ?_ ?_ _) | (with_reducible refine Below.drew ?_) | (with_reducible refine Below.setCell ?_ ?_ _) | (with_reducible exact Nat.le_refl _) | omega | (simp; done) | (simp [go_sem]; done) | (simp at *; omega))))))) | quiet_step ((first | (go_at_call 60; with_reducible exact Calls.ext (cl _ (by repeat' (first | (with_reducible exact Below.refl _ _) | (with_reducible assumption) | (with_reducible refine Ext.below _ ?_ ?_) | (with_reducible refine Below.on ?_ (by with_reducible assumption) ?_) | (with_reducible refine Below.alloc ?_ ?_ _) | (with_reducible refine Below.drew ?_) | (with_reducible refine Below.setCell ?_ ?_ _) | (with_reducible exact Nat.le_refl _) | omega | (simp; done) | (simp [go_sem]; done) | (simp at *; omega))))))))); refine wpQuiet_nil ?_; rintro _ ⟨yr, rfl⟩; have syr := Ext.size yr; (repeat (first | rw [World.size_alloc] at syr | rw [World.size_setCell] at syr | rw [World.size_drew] at syr)); have : B < yr.now.heap.size := (by omega); have : B ≤ yr.now.heap.size := (by omega); have : B < yr.now.heap.size + 1 + 1 := (by omega); have : w.heap.size < yr.now.heap.size := (by omega); have : w.heap.size ≤ yr.now.heap.size := (by omega); have : w.heap.size < yr.now.heap.size + 1 + 1 := (by omega)) | (go_at_call 60; (first | with_reducible refine (Calls.giv2 (cl _ (by repeat' (first | (with_reducible exact Below.refl _ _) | (with_reducible assumption) | (with_reducible refine Ext.below _ ?_ ?_) | (with_reducible refine Below.on ?_ (by with_reducible assumption) ?_) | (with_reducible refine Below.alloc ?_ ?_ _) | (with_reducible refine Below.drew ?_) | (with_reducible refine Below.setCell ?_ ?_ _) | (with_reducible exact Nat.le_refl _) | omega | (simp; done) | (simp [go_sem]; done) | (simp at *; omega))))).mono ?_ | with_reducible refine (Calls.giv (cl _ (by repeat' (first | (with_reducible exact Below.refl _ _) | (with_reducible assumption) | (with_reducible refine Ext.below _ ?_ ?_) | (with_reducible refine Below.on ?_ (by with_reducible assumption) ?_) | (with_reducible refine Below.alloc ?_ ?_ _) | (with_reducible refine Below.drew ?_) | (with_reducible refine Below.setCell ?_ ?_ _) | (with_reducible exact Nat.le_refl _) | omega | (simp; done) | (simp [go_sem]; done) | (simp at *; omega))))).mono ?_); rintro _ _ ⟨y1, rfl, rfl⟩; have sy1 := Ext.size y1; (repeat (first | rw [World.size_alloc] at sy1 | rw [World.size_setCell] at sy1 | rw [World.size_drew] at sy1)); have : B < y1.now.heap.size := (by omega); have : B ≤ y1.now.heap.size := (by omega); have : B < y1.now.heap.size + 1 + 1 := (by omega); have : w.heap.size < y1.now.heap.size := (by omega); have : w.heap.size ≤ y1.now.heap.size := (by omega); have : w.heap.size < y1.now.heap.size + 1 + 1 := (by omega)) | (at_builtin; refine wpList_append_own _ rfl _ _ 68 rfl W0.heap.size 104 i0 _ 4 40 Try.underlying68 hi0 hz0 hz1 hz2 rfl (by decide) _ i (rowsOf acc) rfl (by repeat (first | exact hown | (with_reducible refine World.ownsRow.alloc ?_ _) | (with_reducible refine World.ownsRow.drew ?_) | (with_reducible refine owns_ext ?_ _))) _ 1 1 _ rfl rfl (cells4_new _ _ _ _ _ _) (by intro u hu; simp only [List.mem_cons, List.not_mem_nil, or_false] at hu; rcases hu with rfl | rfl | rfl | rfl <;> rfl) (by unfold maxLen; omega) (by omega) (by (try simp only [World.size_alloc]); omega) ?_; intro v' W2 hown' hgrow _; have hbel : Below W0.heap.size W0 W2 := (by refine below_grown (e := 104) (size := 4) (n := i) (xs := rowsOf acc) ?_ (by repeat (first | exact hown | (with_reducible refine World.ownsRow.alloc ?_ _) | (with_reducible refine World.ownsRow.drew ?_) | (with_reducible refine owns_ext ?_ _))) (Nat.le_refl _) (by (try simp only [World.size_alloc]); omega) hgrow; repeat' (first | (with_reducible exact Below.refl _ _) | (with_reducible assumption) | (with_reducible refine Ext.below _ ?_ ?_) | (with_reducible refine Below.on ?_ (by with_reducible assumption) ?_) | (with_reducible refine Below.alloc ?_ ?_ _) | (with_reducible refine Below.drew ?_) | (with_reducible refine Below.setCell ?_ ?_ _) | (with_reducible exact Nat.le_refl _) | omega | (simp; done) | (simp [go_sem]; done) | (simp at *; omega)))))
              refine ⟨⟨i + 1, ⟨_, hbel⟩, acc ++ [⟨k1, ⟨k2, k3⟩, k4⟩], by simp, rfl, by rw [hadd.out]; exact hown', key⟩, by simp [intOf]; omega⟩
      · have hge : ¬ (i : Int) < l.length := by omega
        have hE := hi.out.2.2
        rw [drop_end hlt, looksA] at hE
        have hil : acc.length = i := hi.out.2.1
        clear hi hV
        subst hE
        go_wp2_with (first | ((first | with_reducible refine wp_region_ext2 (by kernel_rfl) (by kernel_rfl) ?_ | with_reducible refine wp_region_ext (by kernel_rfl) (by kernel_rfl) ?_); (repeat (first | go_big_quiet_step ((first | fail)) | quiet_step ((first | fail)))); refine wpQuiet_nil ?_; rintro _ ⟨yr, rfl⟩; have syr := Ext.size yr; (repeat (first | rw [World.size_alloc] at syr | rw [World.size_setCell] at syr | rw [World.size_drew] at syr))))
        go_returns
        refine ⟨?_, _, rfl, ?_⟩
        · repeat' (first | (with_reducible exact Below.refl _ _) | (with_reducible assumption) | (with_reducible refine Ext.below _ ?_ ?_) | (with_reducible refine Below.on ?_ (by with_reducible assumption) ?_) | (with_reducible refine Below.alloc ?_ ?_ _) | (with_reducible refine Below.drew ?_) | (with_reducible refine Below.setCell ?_ ?_ _) | (with_reducible exact Nat.le_refl _) | omega | (simp; done) | (simp [go_sem]; done) | (simp at *; omega))
        · rw [hil]; exact owns_base hown (by omega)
  · rw [if_neg hc]
    clear hA hE hP
    unfold SkyR.val
    generalize cntE l.length 1 64 = e at *
    go_enter Try.func32, Try.ntmps32
    go_wp2_with (first | ((first | with_reducible refine wp_region_ext2 (by kernel_rfl) (by kernel_rfl) ?_ | with_reducible refine wp_region_ext (by kernel_rfl) (by kernel_rfl) ?_); (repeat (first | go_big_quiet_step ((first | (go_at_call 59; with_reducible exact Calls.ext (cc _)))) | quiet_step ((first | (go_at_call 59; with_reducible exact Calls.ext (cc _)))))); refine wpQuiet_nil ?_; rintro _ ⟨yr, rfl⟩; have syr := Ext.size yr; (repeat (first | rw [World.size_alloc] at syr | rw [World.size_setCell] at syr | rw [World.size_drew] at syr))) | (go_at_call 59; (first | with_reducible refine (Calls.giv2 (cc _)).mono ?_ | with_reducible refine (Calls.giv (cc _)).mono ?_); rintro _ _ ⟨y1, rfl, rfl⟩; have sy1 := Ext.size y1; (repeat (first | rw [World.size_alloc] at sy1 | rw [World.size_setCell] at sy1 | rw [World.size_drew] at sy1))))
    go_returns
    refine ⟨?_, rfl⟩
    repeat' (first | (with_reducible exact Below.refl _ _) | (with_reducible assumption) | (with_reducible refine Ext.below _ ?_ ?_) | (with_reducible refine Below.on ?_ (by with_reducible assumption) ?_) | (with_reducible refine Below.alloc ?_ ?_ _) | (with_reducible refine Below.drew ?_) | (with_reducible refine Below.setCell ?_ ?_ _) | (with_reducible exact Nat.le_refl _) | omega | (simp; done) | (simp [go_sem]; done) | (simp at *; omega))
end Go.Proofs.Ytehaonlndfjpfaa

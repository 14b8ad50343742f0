/- Contracts of At, where, Where. Condition: the cells that are read. -/
import Derived.Test.YtgoilmiiegpnoaaSkyE
namespace Go.Proofs.Ytgoilmiiegpnoaa
open Go.RowKit Go.Shelf
attribute [local go_sem] Option.isSome_some Ext.cell Ext.frozen Ext.lt Ext.le Ext.lt_add Ext.le_add Ext.ne Ext.ne' lt2 lt3 lt4 lt5 le2 le3 le4
theorem wp_named {c : Code} {P : Program} {Q : Exit → Act → World → Prop} {a : Act} {w : World} (h : ∀ W0, w = W0 → c.wp P Q a W0) : c.wp P Q a w := h w rfl
def atV (l : List BodyR) (h b t : Int) : V2 := if worldE l h = 0 ∧ (0 ≤ b ∧ b < l.length) ∧ tickB t = true then trackAt (bodyAt l b) t else ⟨0, 0⟩
theorem bodyAt_get {l : List BodyR} {k : Nat} (h : k < l.length) : bodyAt l k = l[k].track := by
  unfold bodyAt; simp [List.getElem?_eq_getElem h]
theorem trackAt_in {l : List V2} {t : Int} (h1 : 1 ≤ l.length) (h : placesE l = 0) : vwinB (trackAt l t) 33554432 = true := by
  have hm0 := Int.emod_nonneg t (b := (l.length : Int)) (by omega)
  have hm1 := Int.emod_lt_of_pos t (b := (l.length : Int)) (by omega)
  obtain ⟨k, hk⟩ := Int.eq_ofNat_of_zero_le hm0
  have hkl : k < l.length := by omega
  rw [trackAt_get hkl (by rw [hk]; exact Int.toNat_natCast k)]
  exact placesE_zero h k hkl
/-- The place of the station with this number, Home being at h. -/
def whereL (h : V2) (id : Int) : List StR → V2 × Bool
  | [] => (⟨0, 0⟩, false)
  | o :: l => if o.id = id then (⟨h.x + o.off.x, h.y + o.off.y⟩, true) else whereL h id l
def homeAt (s : SkyR) (t : Int) : V2 := trackAt (bodyAt s.bodies s.home) t
def pairV (r : V2 × Bool) : Value := .tuple #[.agg #[.int .i64 r.1.x, .int .i64 r.1.y], .bool r.2]
set_option maxHeartbeats 8000000 in
theorem where_any (s : SkyR) (id t : Int) (w : World) (hP : s.At w) (hE : skyE s = 0) (ht : tickB t = true) :
    Calls Try.prog 54 #[s.val, .int .i64 id, .int .i64 t] w (Gives (pairV (whereL (homeAt s t) id s.sts)) w) := by
  obtain ⟨e1, e2, -⟩ := skyE_zero hE
  obtain ⟨wb, -, -, h0, h1⟩ := worldE_zero e1
  obtain ⟨k, hk⟩ := Int.eq_ofNat_of_zero_le h0
  have hkl : k < s.bodies.length := by omega
  obtain ⟨-, -, -, -, z1, z2, z3⟩ := bodyE_zero (wb k hkl)
  have hPk := (hP.bs k hkl).1
  have ca := fun (W : World) (y : Below w.heap.size w W) => at_any s.bodies[k].tp s.bodies[k].tc s.bodies[k].track t W (hPk.on y) z1 z2 ht
  obtain ⟨-, B, o, hp, hB, -, -, c3⟩ := hP.bs k hkl
  have hH : homeAt s t = trackAt s.bodies[k].track t := by unfold homeAt; rw [hk, bodyAt_get hkl]
  rw [hH]
  have hin := vwinB_out (trackAt_in (t := t) z1 z3)
  obtain ⟨n16, hoff⟩ := stationsE_zero e2
  have hoff := Go.Lib.hid hoff
  have hS := Go.Lib.hid hP.ss
  unfold SkyR.val
  rw [hp, hk]
  generalize trackAt s.bodies[k].track t = v at *
  generalize s.bodies[k].track.length = n1 at *
  generalize s.bodies[k].tp = n2 at *
  generalize s.bodies[k].tc = n3 at *
  clear hPk z1 z2 z3 wb hH hp hk e1 e2 hE hP h0 h1
  have hkl2 : (k : Int) < s.bodies.length := by omega
  generalize s.bodies.length = n4 at *
  generalize s.bc = n5 at *
  generalize s.cp = n6 at *
  generalize s.cc = n7 at *
  generalize s.cats.length = n8 at *
  generalize s.sp = p at *
  generalize s.sc = n9 at *
  generalize s.sts = l at *
  obtain ⟨V, hV⟩ : ∃ V, whereL v id l = V := ⟨_, rfl⟩
  rw [hV]
  have hV := Go.Lib.hid hV
  obtain ⟨vx, vy⟩ := v
  obtain ⟨⟨k1, k2⟩, k3, k4⟩ := hin
  simp only at k1 k2 k3 k4
  unfold pairV
  go_enter Try.func54, Try.ntmps54
  go_wp2_with (first | ((first | with_reducible refine wp_region_ext2 (by kernel_rfl) (by kernel_rfl) ?_ | with_reducible refine wp_region_ext (by kernel_rfl) (by kernel_rfl) ?_); (repeat (first | go_big_quiet_step ((first | fail)) | quiet_step ((first | fail)))); refine wpQuiet_nil ?_; rintro _ ⟨yr, rfl⟩; have syr := Ext.size yr; (repeat (first | rw [World.size_alloc] at syr | rw [World.size_setCell] at syr | rw [World.size_drew] at syr))))
  refine wp_named (fun W0 hW => ?_)
  have hBw : Below w.heap.size w W0 := by rw [← hW]; repeat' (first | (with_reducible exact Below.refl _ _) | (with_reducible assumption) | (with_reducible refine Ext.below _ ?_ ?_) | (with_reducible refine Below.on ?_ (by with_reducible assumption) ?_) | (with_reducible refine Below.alloc ?_ ?_ _) | (with_reducible refine Below.drew ?_) | (with_reducible refine Below.setCell ?_ ?_ _) | (with_reducible exact Nat.le_refl _) | omega | (simp; done) | (simp [go_sem]; done) | (simp at *; omega))
  have hs : W0.heap.size = w.heap.size + 2 := by rw [← hW]; simp
  have hs0 : w.heap.size < W0.heap.size := by omega
  have hs1 : w.heap.size + 1 < W0.heap.size := by omega
  have c0 : W0.cell? ⟨w.heap.size, 0, none⟩ = some (.slice (some ⟨B, o, none⟩) n4 n5) := by rw [← hW]; simp [go_sem]
  have c1 : W0.cell? ⟨w.heap.size, 1, none⟩ = some (.int .i64 k) := by rw [← hW]; simp [go_sem]
  have d0 : W0.cell? ⟨w.heap.size + 1, 0, none⟩ = some (.int .i64 0) := by rw [← hW]; simp [go_sem]
  have d1 : W0.cell? ⟨w.heap.size + 1, 1, none⟩ = some (.int .i64 0) := by rw [← hW]; simp [go_sem]
  have f0 : W0.frozen? ⟨w.heap.size + 1, 0, none⟩ = false := by rw [← hW]; simp [go_sem]
  have f1 : W0.frozen? ⟨w.heap.size + 1, 1, none⟩ = false := by rw [← hW]; simp [go_sem]
  have hS := Go.Lib.hid (hS.out.on hBw)
  have c3 : W0.cell? ⟨B, o + k * 3 + 2, none⟩ = some (.slice n2 n1 n3) := by rw [hBw.cell (p := ⟨B, o + k * 3 + 2, none⟩) hB]; exact c3
  have hB2 : B < W0.heap.size := by omega
  have ca : ∀ W, Below W0.heap.size W0 W → Calls Try.prog 69 #[.slice n2 n1 n3, .int .i64 t] W (Gives (.agg #[.int .i64 vx, .int .i64 vy]) W) := fun W y => ca W (Below.on hBw y (by omega))
  clear hW hs
  go_loopw [14] (fun s W => ∃ (i : Nat) (x : Ext W0), s = .int .i64 i ∧ W = x.now ∧ Hid (i ≤ l.length ∧ whereL ⟨vx, vy⟩ id (l.drop i) = V)) (fun s _ => l.length - (intOf s).toNat)
  case atStart => exact ⟨0, ⟨W0, Below.refl _ _⟩, rfl, rfl, Go.Lib.hid ⟨Nat.zero_le _, by simpa using hV.out⟩⟩
  case round =>
    obtain ⟨i, x, rfl, rfl, hi⟩ := hrel
    have xs := x.size
    have hbx := x.below hBw (by omega)
    have d0 := (x.cell hs1).trans d0
    have d1 := (x.cell hs1).trans d1
    have f0 := (x.frozen hs1).trans f0
    have f1 := (x.frozen hs1).trans f1
    have : B < (x.now).heap.size := (by omega); have : B < (x.now).heap.size + 1 := (by omega); have : B < (x.now).heap.size + 1 + 1 := (by omega); have : B ≠ (x.now).heap.size := (by omega); have : B ≠ (x.now).heap.size + 1 := (by omega)
    have : w.heap.size + 1 < (x.now).heap.size := (by omega); have : w.heap.size + 1 < (x.now).heap.size + 1 := (by omega); have : w.heap.size + 1 < (x.now).heap.size + 1 + 1 := (by omega); have : w.heap.size + 1 ≠ (x.now).heap.size := (by omega); have : w.heap.size + 1 ≠ (x.now).heap.size + 1 := (by omega)
    by_cases hlt : i < l.length
    · have hlt2 : (i : Int) < l.length := by omega
      obtain ⟨B', o', rfl, hB', e0, e1, e2⟩ := hS.out i hlt
      have : B' < (x.now).heap.size := (by omega); have : B' < (x.now).heap.size + 1 := (by omega); have : B' < (x.now).heap.size + 1 + 1 := (by omega); have : B' ≠ (x.now).heap.size := (by omega); have : B' ≠ (x.now).heap.size + 1 := (by omega)
      obtain ⟨⟨g1, g2⟩, g3, g4⟩ := vwinB_out (hoff.out i hlt)
      have hE := hi.out.2
      rw [drop_at hlt, whereL] at hE
      by_cases hid : l[i].id = id
      · rw [if_pos hid] at hE
        clear hi hV
        subst hE
        generalize l[i].id = t0 at *
        generalize l[i].off.x = t1 at *
        generalize l[i].off.y = t2 at *
        subst hid
        go_wp2_with (first | ((first | with_reducible refine wp_region_ext2 (by kernel_rfl) (by kernel_rfl) ?_ | with_reducible refine wp_region_ext (by kernel_rfl) (by kernel_rfl) ?_); (repeat (first | go_big_quiet_step ((first | (go_at_call 69; with_reducible exact Calls.ext (ca _ (by repeat' (first | (with_reducible exact Below.refl _ _) | (with_reducible assumption) | (with_reducible refine Ext.below _ ?_ ?_) | (with_reducible refine Below.on ?_ (by with_reducible assumption) ?_) | (with_reducible refine Below.alloc ?_ ?_ _) | (with_reducible refine Below.drew ?_) | (with_reducible refine Below.setCell ?_ ?_ _) | (with_reducible exact Nat.le_refl _) | omega | (simp; done) | (simp [go_sem]; done) | (simp at *; omega))))))) | quiet_step ((first | (go_at_call 69; with_reducible exact Calls.ext (ca _ (by repeat' (first | (with_reducible exact Below.refl _ _) | (with_reducible assumption) | (with_reducible refine Ext.below _ ?_ ?_) | (with_reducible refine Below.on ?_ (by with_reducible assumption) ?_) | (with_reducible refine Below.alloc ?_ ?_ _) | (with_reducible refine Below.drew ?_) | (with_reducible refine Below.setCell ?_ ?_ _) | (with_reducible exact Nat.le_refl _) | omega | (simp; done) | (simp [go_sem]; done) | (simp at *; omega))))))))); refine wpQuiet_nil ?_; rintro _ ⟨yr, rfl⟩; have syr := Ext.size yr; (repeat (first | rw [World.size_alloc] at syr | rw [World.size_setCell] at syr | rw [World.size_drew] at syr)); have : B < yr.now.heap.size := (by omega); have : B ≤ yr.now.heap.size := (by omega); have : B < yr.now.heap.size + 1 + 1 := (by omega); have : B' < yr.now.heap.size := (by omega); have : B' ≤ yr.now.heap.size := (by omega); have : B' < yr.now.heap.size + 1 + 1 := (by omega); have : w.heap.size + 1 < yr.now.heap.size := (by omega); have : w.heap.size + 1 ≤ yr.now.heap.size := (by omega); have : w.heap.size + 1 < yr.now.heap.size + 1 + 1 := (by omega)) | (go_at_call 69; (first | with_reducible refine (Calls.giv2 (ca _ (by repeat' (first | (with_reducible exact Below.refl _ _) | (with_reducible assumption) | (with_reducible refine Ext.below _ ?_ ?_) | (with_reducible refine Below.on ?_ (by with_reducible assumption) ?_) | (with_reducible refine Below.alloc ?_ ?_ _) | (with_reducible refine Below.drew ?_) | (with_reducible refine Below.setCell ?_ ?_ _) | (with_reducible exact Nat.le_refl _) | omega | (simp; done) | (simp [go_sem]; done) | (simp at *; omega))))).mono ?_ | with_reducible refine (Calls.giv (ca _ (by repeat' (first | (with_reducible exact Below.refl _ _) | (with_reducible assumption) | (with_reducible refine Ext.below _ ?_ ?_) | (with_reducible refine Below.on ?_ (by with_reducible assumption) ?_) | (with_reducible refine Below.alloc ?_ ?_ _) | (with_reducible refine Below.drew ?_) | (with_reducible refine Below.setCell ?_ ?_ _) | (with_reducible exact Nat.le_refl _) | omega | (simp; done) | (simp [go_sem]; done) | (simp at *; omega))))).mono ?_); rintro _ _ ⟨y1, rfl, rfl⟩; have sy1 := Ext.size y1; (repeat (first | rw [World.size_alloc] at sy1 | rw [World.size_setCell] at sy1 | rw [World.size_drew] at sy1)); have : B < y1.now.heap.size := (by omega); have : B ≤ y1.now.heap.size := (by omega); have : B < y1.now.heap.size + 1 + 1 := (by omega); have : B' < y1.now.heap.size := (by omega); have : B' ≤ y1.now.heap.size := (by omega); have : B' < y1.now.heap.size + 1 + 1 := (by omega); have : w.heap.size + 1 < y1.now.heap.size := (by omega); have : w.heap.size + 1 ≤ y1.now.heap.size := (by omega); have : w.heap.size + 1 < y1.now.heap.size + 1 + 1 := (by omega)))
        refine bodyPost_ret (v := .tuple #[.agg #[.int .i64 (vx + t1), .int .i64 (vy + t2)], .bool true]) (by simp (maxDischargeDepth := 9) [results, Try.results54, go_sem, *]) rfl ?_
        refine ⟨rfl, ?_⟩
        repeat' (first | (with_reducible exact Below.refl _ _) | (with_reducible assumption) | (with_reducible refine Ext.below _ ?_ ?_) | (with_reducible refine Below.on ?_ (by with_reducible assumption) ?_) | (with_reducible refine Below.alloc ?_ ?_ _) | (with_reducible refine Below.drew ?_) | (with_reducible refine Below.setCell ?_ ?_ _) | (with_reducible exact Nat.le_refl _) | omega | (simp; done) | (simp [go_sem]; done) | (simp at *; omega))
      · have key : Hid (i + 1 ≤ l.length ∧ whereL ⟨vx, vy⟩ id (l.drop (i + 1)) = V) := Go.Lib.hid ⟨hlt, by rw [if_neg hid] at hE; exact hE⟩
        clear hE hi
        generalize l[i].id = t0 at *
        generalize l[i].off.x = t1 at *
        generalize l[i].off.y = t2 at *
        go_wp2_with (first | ((first | with_reducible refine wp_region_ext2 (by kernel_rfl) (by kernel_rfl) ?_ | with_reducible refine wp_region_ext (by kernel_rfl) (by kernel_rfl) ?_); (repeat (first | go_big_quiet_step ((first | fail)) | quiet_step ((first | fail)))); refine wpQuiet_nil ?_; rintro _ ⟨yr, rfl⟩; have syr := Ext.size yr; (repeat (first | rw [World.size_alloc] at syr | rw [World.size_setCell] at syr | rw [World.size_drew] at syr)); have : B < yr.now.heap.size := (by omega); have : B ≤ yr.now.heap.size := (by omega); have : B < yr.now.heap.size + 1 + 1 := (by omega); have : B' < yr.now.heap.size := (by omega); have : B' ≤ yr.now.heap.size := (by omega); have : B' < yr.now.heap.size + 1 + 1 := (by omega)))
        exact ⟨⟨i + 1, ⟨_, x.grew.alloc x.size _⟩, by simp, rfl, key⟩, by simp [intOf]; omega⟩
    · have hge : ¬ (i : Int) < l.length := by omega
      have hE := hi.out.2
      rw [drop_end hlt, whereL] at hE
      clear hi hV
      subst hE
      go_wp2_with (first | ((first | with_reducible refine wp_region_ext2 (by kernel_rfl) (by kernel_rfl) ?_ | with_reducible refine wp_region_ext (by kernel_rfl) (by kernel_rfl) ?_); (repeat (first | go_big_quiet_step ((first | fail)) | quiet_step ((first | fail)))); refine wpQuiet_nil ?_; rintro _ ⟨yr, rfl⟩; have syr := Ext.size yr; (repeat (first | rw [World.size_alloc] at syr | rw [World.size_setCell] at syr | rw [World.size_drew] at syr))))
      refine bodyPost_ret (v := .tuple #[.agg #[.int .i64 0, .int .i64 0], .bool false]) (by simp (maxDischargeDepth := 9) [results, Try.results54, go_sem, *]) rfl ?_
      refine ⟨rfl, ?_⟩
      repeat' (first | (with_reducible exact Below.refl _ _) | (with_reducible assumption) | (with_reducible refine Ext.below _ ?_ ?_) | (with_reducible refine Below.on ?_ (by with_reducible assumption) ?_) | (with_reducible refine Below.alloc ?_ ?_ _) | (with_reducible refine Below.drew ?_) | (with_reducible refine Below.setCell ?_ ?_ _) | (with_reducible exact Nat.le_refl _) | omega | (simp; done) | (simp [go_sem]; done) | (simp at *; omega))
end Go.Proofs.Ytgoilmiiegpnoaa

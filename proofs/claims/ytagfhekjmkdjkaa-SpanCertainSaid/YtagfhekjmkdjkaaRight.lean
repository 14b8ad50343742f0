/- Contracts of what package span says of the origin and the corners of a sweep. Condition: the corners are places. -/
import Derived.Test.YtagfhekjmkdjkaaIter
namespace Go.Proofs.Ytagfhekjmkdjkaa
open Go.RowKit Go.Shelf
attribute [local go_sem] Oper.semAt_some
attribute [local go_sem] Ext.cell Ext.frozen Ext.lt Ext.le Ext.lt_add Ext.le_add Ext.ne Ext.ne' lt2 lt3 lt4 lt5 le2 le3 le4
theorem corners_any (v0 v1 v2 v3 v4 v5 v6 v7 v8 v9 v10 v11 v12 v13 v14 v15 : Int) (w : World) : Calls Try.prog 71 #[.agg #[.int .i64 v0, .int .i64 v1, .int .i64 v2, .int .i64 v3, .int .i64 v4, .int .i64 v5, .int .i64 v6, .int .i64 v7, .int .i64 v8, .int .i64 v9, .int .i64 v10, .int .i64 v11, .int .i64 v12, .int .i64 v13, .int .i64 v14, .int .i64 v15]] w fun e w' =>
    e = .returned (.func (.func 76) #[] #[.pointer (some ⟨w.heap.size, 0, none⟩)]) ∧ w' = w.alloc (.cells #[.int .i64 v0, .int .i64 v1, .int .i64 v2, .int .i64 v3, .int .i64 v4, .int .i64 v5, .int .i64 v6, .int .i64 v7, .int .i64 v8, .int .i64 v9, .int .i64 v10, .int .i64 v11, .int .i64 v12, .int .i64 v13, .int .i64 v14, .int .i64 v15] 83) := by
  go_enter Try.func71, Try.ntmps71
  go_wp2_with (first | ((first | with_reducible refine wp_region_ext2 (by kernel_rfl) (by kernel_rfl) ?_ | with_reducible refine wp_region_ext (by kernel_rfl) (by kernel_rfl) ?_); (repeat (first | go_big_quiet_step ((first | fail)) | quiet_step ((first | fail)))); refine wpQuiet_nil ?_; rintro _ ⟨yr, rfl⟩; have syr := Ext.size yr; (repeat (first | rw [World.size_alloc] at syr | rw [World.size_setCell] at syr | rw [World.size_drew] at syr))))
  go_returns
  exact ⟨rfl, rfl⟩
theorem corners_stops (F : Fence) (n : Nat) (hF : F.fn 76) (hro : F.round = none) (hn : 1 ≤ n) (Bn n₀ : Nat) (p0 p1 p2 p3 q0 q1 q2 q3 : Pl) (w : World) (hB : Bn < w.heap.size)
    (hb : ∀ k (hk : k < 8), w.cell? ⟨Bn, 2 * k, none⟩ = some (.int .i64 ((cornersL p0 p1 p2 p3 q0 q1 q2 q3)[k]'(by simpa [cornersL] using hk)).x) ∧ w.cell? ⟨Bn, 2 * k + 1, none⟩ = some (.int .i64 ((cornersL p0 p1 p2 p3 q0 q1 q2 q3)[k]'(by simpa [cornersL] using hk)).y)) :
    SeqStopsK F n Try.prog 76 #[.pointer (some ⟨Bn, 0, none⟩)] (fun x : Pl => #[.agg #[.int .i64 x.x, .int .i64 x.y]]) (Below n₀) (fun xs => xs = cornersL p0 p1 p2 p3 q0 q1 q2 q3) (fun pre => pre <+: cornersL p0 p1 p2 p3 q0 q1 q2 q3) 8 w :=
  fun l J Jx W hW hJ _ hY h0 => corners1_in F n hF hro hn l Bn n₀ p0 p1 p2 p3 q0 q1 q2 q3 J Jx W hJ hY
    (fun k hk => ⟨(hW.cell (p := ⟨Bn, 2 * k, none⟩) hB).trans (hb k hk).1, (hW.cell (p := ⟨Bn, 2 * k + 1, none⟩) hB).trans (hb k hk).2⟩) h0
theorem KeepsOthers.below {W W' : World} (h : Below W.heap.size W W') : KeepsOthers W W' :=
  ⟨h.size, fun k _ hk _ => (h.block k (Array.getElem?_eq_some_iff.1 hk).1).trans hk⟩
/-- No corner is to the right of c. -/
def rightOk (cx cy : Int) (o : Pl) : Bool := decide (0 ≤ cx * o.y - cy * o.x)
set_option maxHeartbeats 1000000 in
theorem isRightmost_any (c p0 p1 p2 p3 q0 q1 q2 q3 : Pl) (w : World) :
    Calls Try.prog 72 #[.agg #[.int .i64 c.x, .int .i64 c.y], .agg #[.int .i64 p0.x, .int .i64 p0.y, .int .i64 p1.x, .int .i64 p1.y, .int .i64 p2.x, .int .i64 p2.y, .int .i64 p3.x, .int .i64 p3.y, .int .i64 q0.x, .int .i64 q0.y, .int .i64 q1.x, .int .i64 q1.y, .int .i64 q2.x, .int .i64 q2.y, .int .i64 q3.x, .int .i64 q3.y]] w
      (Gives (.bool ((cornersL p0 p1 p2 p3 q0 q1 q2 q3).all (rightOk c.x c.y))) w) := by
  refine (callsIn_wide (n := 6)).1 ?_
  refine callsIn_of_wp_marks Try.func72 rfl trivial ?_ rfl
  simp only [Try.ntmps72, List.size_toArray, List.length_cons, List.length_nil, Nat.reduceAdd, Nat.reduceSub, Array.replicate_succ, Array.replicate_zero, List.push_toArray, List.append_toArray, List.nil_append, List.cons_append]
  gi_wp2_with (refine ⟨trivial, ?_⟩; gi_at_call 71; refine (callsIn_wide.2 (corners_any _ _ _ _ _ _ _ _ _ _ _ _ _ _ _ _ _)).mono ?_; rintro e w' ⟨rfl, rfl⟩)
  obtain ⟨W0, hW0⟩ : ∃ W0, (((w.alloc (.cells #[.int .i64 c.x, .int .i64 c.y] 42)).alloc (.cells #[.int .i64 p0.x, .int .i64 p0.y, .int .i64 p1.x, .int .i64 p1.y, .int .i64 p2.x, .int .i64 p2.y, .int .i64 p3.x, .int .i64 p3.y, .int .i64 q0.x, .int .i64 q0.y, .int .i64 q1.x, .int .i64 q1.y, .int .i64 q2.x, .int .i64 q2.y, .int .i64 q3.x, .int .i64 q3.y] 83)).alloc (.cells #[.bool false] 4)).alloc (.cells #[.int .i64 p0.x, .int .i64 p0.y, .int .i64 p1.x, .int .i64 p1.y, .int .i64 p2.x, .int .i64 p2.y, .int .i64 p3.x, .int .i64 p3.y, .int .i64 q0.x, .int .i64 q0.y, .int .i64 q1.x, .int .i64 q1.y, .int .i64 q2.x, .int .i64 q2.y, .int .i64 q3.x, .int .i64 q3.y] 83) = W0 := ⟨_, rfl⟩
  rw [hW0]
  have hsz : W0.heap.size = w.heap.size + 1 + 1 + 1 + 1 := by rw [← hW0]; simp
  have hB0 : Below w.heap.size w W0 := by rw [← hW0]; repeat' (first | (with_reducible exact Below.refl _ _) | (with_reducible assumption) | (with_reducible refine Ext.below _ ?_ ?_) | (with_reducible refine Below.on ?_ (by with_reducible assumption) ?_) | (with_reducible refine Below.alloc ?_ ?_ _) | (with_reducible refine Below.drew ?_) | (with_reducible refine Below.setCell ?_ ?_ _) | (with_reducible exact Nat.le_refl _) | omega | (simp; done) | (simp [go_sem]; done) | (simp at *; omega))
  have a1 : W0.cell? ⟨w.heap.size, 0, none⟩ = some (.int .i64 c.x) := by rw [← hW0]; simp [go_sem]
  have a2 : W0.cell? ⟨w.heap.size, 1, none⟩ = some (.int .i64 c.y) := by rw [← hW0]; simp [go_sem]
  have a3 : W0.cell? ⟨w.heap.size + 1 + 1, 0, none⟩ = some (.bool false) := by rw [← hW0]; simp [go_sem]
  have a4 : W0.frozen? ⟨w.heap.size + 1 + 1, 0, none⟩ = false := by rw [← hW0]; simp [go_sem]
  have a5 : ∀ k (hk : k < 8), W0.cell? ⟨w.heap.size + 1 + 1 + 1, 2 * k, none⟩ = some (.int .i64 ((cornersL p0 p1 p2 p3 q0 q1 q2 q3)[k]'(by simpa [cornersL] using hk)).x) ∧ W0.cell? ⟨w.heap.size + 1 + 1 + 1, 2 * k + 1, none⟩ = some (.int .i64 ((cornersL p0 p1 p2 p3 q0 q1 q2 q3)[k]'(by simpa [cornersL] using hk)).y) := by
    intro k hk
    rw [← hW0]
    rcases (show k = 0 ∨ k = 1 ∨ k = 2 ∨ k = 3 ∨ k = 4 ∨ k = 5 ∨ k = 6 ∨ k = 7 by omega) with rfl | rfl | rfl | rfl | rfl | rfl | rfl | rfl <;> simp [go_sem, cornersL]
  clear hW0
  have hC := a5
  clear a5
  refine wpIn_rangeFunc_ownH (w := W0) (a := _) rfl (by omega) (gf := 76) (lb := #[.pointer (some ⟨w.heap.size + 1 + 1 + 1, 0, none⟩)]) rfl trivial (enters_of Try.func76 (by kernel_rfl) rfl)
    (corners_stops Fence.wide 5 trivial rfl (by omega) _ W0.heap.size p0 p1 p2 p3 q0 q1 q2 q3 W0 (by omega) hC) belowK_t (belowK_b (by omega)) (Below.refl _ _) (fun _ => rfl)
    (fun pre W => (∀ y ∈ pre, rightOk c.x c.y y = true) ∧ Below W0.heap.size W0 W)
    (fun k pre W => ((k = .ret ∧ ∃ y ∈ pre, rightOk c.x c.y y = false) ∧ W.cell? ⟨w.heap.size + 1 + 1, 0, none⟩ = some (.bool false)) ∧ Below w.heap.size w W)
    (OwnFrom.and (Own.from (fun s A B row hs hg hr => hs) _) (ownFrom_below (Nat.le_refl _) (by omega)))
    (fun k => OwnFrom.and (Own.from (fun s A B row hs hg hr => ⟨hs.1, cell_kept hs.2 hg hr⟩) _) (ownFrom_below (by omega) (by omega)))
    ⟨by simp, Below.refl _ _⟩
    (fun x a' W => ∃ Bx : Nat, W0.heap.size ≤ Bx ∧ Bx < W.heap.size ∧ (W.cell? ⟨Bx, 0, none⟩ = some (.int .i64 x.x) ∧ W.cell? ⟨Bx, 1, none⟩ = some (.int .i64 x.y)) ∧ a' = { tmps := #[.agg #[.int .i64 c.x, .int .i64 c.y], .agg #[.int .i64 p0.x, .int .i64 p0.y, .int .i64 p1.x, .int .i64 p1.y, .int .i64 p2.x, .int .i64 p2.y, .int .i64 p3.x, .int .i64 p3.y, .int .i64 q0.x, .int .i64 q0.y, .int .i64 q1.x, .int .i64 q1.y, .int .i64 q2.x, .int .i64 q2.y, .int .i64 q3.x, .int .i64 q3.y], .pointer (some ⟨w.heap.size, 0, none⟩), .pointer (some ⟨w.heap.size + 1, 0, none⟩), .pointer (some ⟨w.heap.size + 1 + 1, 0, none⟩), .pointer (some ⟨Bx, 0, none⟩), .agg #[.int .i64 p0.x, .int .i64 p0.y, .int .i64 p1.x, .int .i64 p1.y, .int .i64 p2.x, .int .i64 p2.y, .int .i64 p3.x, .int .i64 p3.y, .int .i64 q0.x, .int .i64 q0.y, .int .i64 q1.x, .int .i64 q1.y, .int .i64 q2.x, .int .i64 q2.y, .int .i64 q3.x, .int .i64 q3.y], .func (.func 76) #[] #[.pointer (some ⟨w.heap.size + 1 + 1 + 1, 0, none⟩)], .agg #[.int .i64 x.x, .int .i64 x.y], undef, undef, undef, undef], defers := [] })
    ?hAx ?assign ?body ?done ?stop
  case hAx =>
    rintro x a' s A B row ⟨Bx, h1, h2, ⟨h3, h4⟩, h5⟩ hg hr
    exact ⟨Bx, h1, Nat.lt_of_lt_of_le h2 hg.size, ⟨cell_kept h3 hg (fun r e => (hr r e).2), cell_kept h4 hg (fun r e => (hr r e).2)⟩, h5⟩
  case assign =>
    rintro l pre x W K ⟨hok, hB⟩ hK
    have Hok := Go.Lib.hid hok
    clear hok
    gi_wp2
    exact hK _ (W.alloc (.cells #[.int .i64 x.x, .int .i64 x.y] 42)) ((KeepsOthers.alloc _ _).from _) ((Below.refl _ W).alloc hB.size _) ⟨Hok.out, hB.alloc hB.size _⟩ ⟨W.heap.size, hB.size, by simp, ⟨(World.cell?_alloc_new _ _ _ _).trans rfl, (World.cell?_alloc_new _ _ _ _).trans rfl⟩, rfl⟩
  case body =>
    rintro l pre x a' W hl ⟨r, hr⟩ ⟨hok, hB⟩ ⟨Bx, hBx, hlt, ⟨h3, h4⟩, rfl⟩ _
    have b1 := (hB.cell (p := ⟨w.heap.size, 0, none⟩) (by simp; omega)).trans a1
    have b2 := (hB.cell (p := ⟨w.heap.size, 1, none⟩) (by simp; omega)).trans a2
    have b3 := (hB.cell (p := ⟨w.heap.size + 1 + 1, 0, none⟩) (by simp; omega)).trans a3
    have b4 := (hB.frozen (p := ⟨w.heap.size + 1 + 1, 0, none⟩) (by simp; omega)).trans a4
    have i1 : I64 c.x := by have := c.fx; unfold Far I64 at *; omega
    have i2 : I64 c.y := by have := c.fy; unfold Far I64 at *; omega
    have i3 : I64 x.x := by have := x.fx; unfold Far I64 at *; omega
    have i4 : I64 x.y := by have := x.fy; unfold Far I64 at *; omega
    have z1 : w.heap.size + 1 + 1 < W.heap.size := by have := hB.size; omega
    have Hok := Go.Lib.hid hok
    clear hok a1 a2 a3 a4 hC hr
    by_cases ho : 0 ≤ c.x * x.y - c.y * x.x
    · have hk : rightOk c.x c.y x = true := by unfold rightOk; simpa using ho
      have s1 := (sgn_nonneg _).2 ho
      clear ho
      gi_wp2_with (refine ⟨trivial, ?_⟩; gi_at_call 20; refine (CallsIn.inRound l (callsIn_wide.2 (Calls.giv (Cross_any _ _ _ _ _ (by assumption) (by assumption) (by assumption) (by assumption))))).mono ?_; rintro _ _ ⟨y1, rfl, rfl⟩)
      exact ⟨(KeepsOthers.below y1.grew).from _, y1.grew.mono hB.size, ⟨by
        intro y hy
        rcases List.mem_append.1 hy with hy | hy
        · exact Hok.out y hy
        · simp at hy; subst hy; exact hk, hB.trans (y1.grew.mono hB.size)⟩⟩
    · have hk : rightOk c.x c.y x = false := by unfold rightOk; simpa using ho
      have s1 : sgn (c.x * x.y - c.y * x.x) < 0 := by have := sgn_nonneg (c.x * x.y - c.y * x.x); omega
      clear ho
      gi_wp2_with (refine ⟨trivial, ?_⟩; gi_at_call 20; refine (CallsIn.inRound l (callsIn_wide.2 (Calls.giv (Cross_any _ _ _ _ _ (by assumption) (by assumption) (by assumption) (by assumption))))).mono ?_; rintro _ _ ⟨y1, rfl, rfl⟩)
      have l1 := (y1.cell (o := 0) z1).trans b3
      exact ⟨((KeepsOthers.below y1.grew).trans (KeepsOthers.setCell _ _ _)).from _, ⟨⟨rfl, x, by simp, hk⟩, World.cell?_setCell_same' _ _ _ (by rw [l1]; rfl)⟩,
        ((hB0.trans (hB.mono (by omega))).trans (y1.grew.mono (by omega))).setCell (p := ⟨w.heap.size + 1 + 1, 0, none⟩) (by simp; omega) _⟩
  case done =>
    rintro D ys W hD rfl ⟨hok, hB⟩ hK
    have b3 := (hB.cell (p := ⟨w.heap.size + 1 + 1, 0, none⟩) (by simp; omega)).trans a3
    have b4 := (hB.frozen (p := ⟨w.heap.size + 1 + 1, 0, none⟩) (by simp; omega)).trans a4
    have hBw := hB0.trans (hB.mono (B' := w.heap.size) (by omega))
    have Hok := Go.Lib.hid hok
    clear hok a1 a2 a3 a4 hC
    gi_wp2
    have hK' := (KeepsOthers.setCell W ⟨w.heap.size + 1 + 1, 0, none⟩ (.bool true)).same D _ hK rfl
    refine ⟨by simp, .inl ⟨_, _, rfl, run_takeDeferred hK', ?_⟩⟩
    have hc5 := cell_kept (World.cell?_setCell_same' W ⟨w.heap.size + 1 + 1, 0, none⟩ (.bool true) (by rw [b3]; rfl)) (grownBy_putObj' _ D (.deferred none)) (fun r e => by cases e; exact ⟨_, hK', rfl⟩)
    refine ⟨.bool true, ?_, ?_⟩
    · simp [results, Try.f72, go_sem, hc5]
    · refine ⟨ret_bool (by rw [List.all_eq_true.2 Hok.out]), ?_⟩
      exact (hBw.setCell (p := ⟨w.heap.size + 1 + 1, 0, none⟩) (by simp; omega) _).trans (belowK_b (w := w) (Nat.le_refl _) _ D _ _ (by omega) hK' rfl rfl)
  case stop =>
    rintro D k pre W hD hpre ⟨⟨⟨rfl, hex⟩, hcr⟩, hBw⟩ hK
    gi_wp2
    refine ⟨by simp, .inl ⟨_, _, rfl, run_takeDeferred hK, ?_⟩⟩
    have hc5 := cell_kept hcr (grownBy_putObj' _ D (.deferred none)) (fun r e => by cases e; exact ⟨_, hK, rfl⟩)
    refine ⟨.bool false, ?_, ?_⟩
    · simp [results, Try.f72, go_sem, hc5]
    · obtain ⟨y, hy, hyf⟩ := hex
      refine ⟨ret_bool ?_, hBw.trans (belowK_b (w := w) (Nat.le_refl _) W D _ _ (by omega) hK rfl rfl)⟩
      symm
      rw [List.all_eq_false]
      exact ⟨y, hpre.subset hy, by simpa using hyf⟩
set_option maxHeartbeats 1000000 in
theorem outside_any (p0 p1 p2 p3 q0 q1 q2 q3 : Pl) (w : World) :
    Calls Try.prog 58 #[.agg #[.int .i64 p0.x, .int .i64 p0.y, .int .i64 p1.x, .int .i64 p1.y, .int .i64 p2.x, .int .i64 p2.y, .int .i64 p3.x, .int .i64 p3.y, .int .i64 q0.x, .int .i64 q0.y, .int .i64 q1.x, .int .i64 q1.y, .int .i64 q2.x, .int .i64 q2.y, .int .i64 q3.x, .int .i64 q3.y]] w
      (Gives (.bool ((cornersL p0 p1 p2 p3 q0 q1 q2 q3).any fun c => (cornersL p0 p1 p2 p3 q0 q1 q2 q3).all (rightOk c.x c.y))) w) := by
  refine (callsIn_wide (n := 6)).1 ?_
  refine callsIn_of_wp_marks Try.func58 rfl trivial ?_ rfl
  simp only [Try.ntmps58, List.size_toArray, List.length_cons, List.length_nil, Nat.reduceAdd, Nat.reduceSub, Array.replicate_succ, Array.replicate_zero, List.push_toArray, List.append_toArray, List.nil_append, List.cons_append]
  gi_wp2_with (refine ⟨trivial, ?_⟩; gi_at_call 71; refine (callsIn_wide.2 (corners_any _ _ _ _ _ _ _ _ _ _ _ _ _ _ _ _ _)).mono ?_; rintro e w' ⟨rfl, rfl⟩)
  obtain ⟨W0, hW0⟩ : ∃ W0, ((w.alloc (.cells #[.int .i64 p0.x, .int .i64 p0.y, .int .i64 p1.x, .int .i64 p1.y, .int .i64 p2.x, .int .i64 p2.y, .int .i64 p3.x, .int .i64 p3.y, .int .i64 q0.x, .int .i64 q0.y, .int .i64 q1.x, .int .i64 q1.y, .int .i64 q2.x, .int .i64 q2.y, .int .i64 q3.x, .int .i64 q3.y] 83)).alloc (.cells #[.bool false] 4)).alloc (.cells #[.int .i64 p0.x, .int .i64 p0.y, .int .i64 p1.x, .int .i64 p1.y, .int .i64 p2.x, .int .i64 p2.y, .int .i64 p3.x, .int .i64 p3.y, .int .i64 q0.x, .int .i64 q0.y, .int .i64 q1.x, .int .i64 q1.y, .int .i64 q2.x, .int .i64 q2.y, .int .i64 q3.x, .int .i64 q3.y] 83) = W0 := ⟨_, rfl⟩
  rw [hW0]
  have hsz : W0.heap.size = w.heap.size + 1 + 1 + 1 := by rw [← hW0]; simp
  have hB0 : Below w.heap.size w W0 := by rw [← hW0]; repeat' (first | (with_reducible exact Below.refl _ _) | (with_reducible assumption) | (with_reducible refine Ext.below _ ?_ ?_) | (with_reducible refine Below.on ?_ (by with_reducible assumption) ?_) | (with_reducible refine Below.alloc ?_ ?_ _) | (with_reducible refine Below.drew ?_) | (with_reducible refine Below.setCell ?_ ?_ _) | (with_reducible exact Nat.le_refl _) | omega | (simp; done) | (simp [go_sem]; done) | (simp at *; omega))
  have a3 : W0.cell? ⟨w.heap.size + 1, 0, none⟩ = some (.bool false) := by rw [← hW0]; simp [go_sem]
  have a4 : W0.frozen? ⟨w.heap.size + 1, 0, none⟩ = false := by rw [← hW0]; simp [go_sem]
  have m0 : W0.cell? ⟨w.heap.size, 0, none⟩ = some (.int .i64 p0.x) := by rw [← hW0]; simp [go_sem]
  have m1 : W0.cell? ⟨w.heap.size, 1, none⟩ = some (.int .i64 p0.y) := by rw [← hW0]; simp [go_sem]
  have m2 : W0.cell? ⟨w.heap.size, 2, none⟩ = some (.int .i64 p1.x) := by rw [← hW0]; simp [go_sem]
  have m3 : W0.cell? ⟨w.heap.size, 3, none⟩ = some (.int .i64 p1.y) := by rw [← hW0]; simp [go_sem]
  have m4 : W0.cell? ⟨w.heap.size, 4, none⟩ = some (.int .i64 p2.x) := by rw [← hW0]; simp [go_sem]
  have m5 : W0.cell? ⟨w.heap.size, 5, none⟩ = some (.int .i64 p2.y) := by rw [← hW0]; simp [go_sem]
  have m6 : W0.cell? ⟨w.heap.size, 6, none⟩ = some (.int .i64 p3.x) := by rw [← hW0]; simp [go_sem]
  have m7 : W0.cell? ⟨w.heap.size, 7, none⟩ = some (.int .i64 p3.y) := by rw [← hW0]; simp [go_sem]
  have m8 : W0.cell? ⟨w.heap.size, 8, none⟩ = some (.int .i64 q0.x) := by rw [← hW0]; simp [go_sem]
  have m9 : W0.cell? ⟨w.heap.size, 9, none⟩ = some (.int .i64 q0.y) := by rw [← hW0]; simp [go_sem]
  have m10 : W0.cell? ⟨w.heap.size, 10, none⟩ = some (.int .i64 q1.x) := by rw [← hW0]; simp [go_sem]
  have m11 : W0.cell? ⟨w.heap.size, 11, none⟩ = some (.int .i64 q1.y) := by rw [← hW0]; simp [go_sem]
  have m12 : W0.cell? ⟨w.heap.size, 12, none⟩ = some (.int .i64 q2.x) := by rw [← hW0]; simp [go_sem]
  have m13 : W0.cell? ⟨w.heap.size, 13, none⟩ = some (.int .i64 q2.y) := by rw [← hW0]; simp [go_sem]
  have m14 : W0.cell? ⟨w.heap.size, 14, none⟩ = some (.int .i64 q3.x) := by rw [← hW0]; simp [go_sem]
  have m15 : W0.cell? ⟨w.heap.size, 15, none⟩ = some (.int .i64 q3.y) := by rw [← hW0]; simp [go_sem]
  have a5 : ∀ k (hk : k < 8), W0.cell? ⟨w.heap.size + 1 + 1, 2 * k, none⟩ = some (.int .i64 ((cornersL p0 p1 p2 p3 q0 q1 q2 q3)[k]'(by simpa [cornersL] using hk)).x) ∧ W0.cell? ⟨w.heap.size + 1 + 1, 2 * k + 1, none⟩ = some (.int .i64 ((cornersL p0 p1 p2 p3 q0 q1 q2 q3)[k]'(by simpa [cornersL] using hk)).y) := by
    intro k hk
    rw [← hW0]
    rcases (show k = 0 ∨ k = 1 ∨ k = 2 ∨ k = 3 ∨ k = 4 ∨ k = 5 ∨ k = 6 ∨ k = 7 by omega) with rfl | rfl | rfl | rfl | rfl | rfl | rfl | rfl <;> simp [go_sem, cornersL]
  clear hW0
  have hC := a5
  clear a5
  refine wpIn_rangeFunc_ownH (w := W0) (a := _) rfl (by omega) (gf := 76) (lb := #[.pointer (some ⟨w.heap.size + 1 + 1, 0, none⟩)]) rfl trivial (enters_of Try.func76 (by kernel_rfl) rfl)
    (corners_stops Fence.wide 5 trivial rfl (by omega) _ W0.heap.size p0 p1 p2 p3 q0 q1 q2 q3 W0 (by omega) hC) belowK_t (belowK_b (by omega)) (Below.refl _ _) (fun _ => rfl)
    (fun pre W => (∀ y ∈ pre, (cornersL p0 p1 p2 p3 q0 q1 q2 q3).all (rightOk y.x y.y) = false) ∧ Below W0.heap.size W0 W)
    (fun k pre W => ((k = .ret ∧ ∃ y ∈ pre, (cornersL p0 p1 p2 p3 q0 q1 q2 q3).all (rightOk y.x y.y) = true) ∧ W.cell? ⟨w.heap.size + 1, 0, none⟩ = some (.bool true)) ∧ Below w.heap.size w W)
    (OwnFrom.and (Own.from (fun s A B row hs hg hr => hs) _) (ownFrom_below (Nat.le_refl _) (by omega)))
    (fun k => OwnFrom.and (Own.from (fun s A B row hs hg hr => ⟨hs.1, cell_kept hs.2 hg hr⟩) _) (ownFrom_below (by omega) (by omega)))
    ⟨by simp, Below.refl _ _⟩
    (fun x a' W => ∃ Bx : Nat, W0.heap.size ≤ Bx ∧ Bx < W.heap.size ∧ (W.cell? ⟨Bx, 0, none⟩ = some (.int .i64 x.x) ∧ W.cell? ⟨Bx, 1, none⟩ = some (.int .i64 x.y)) ∧ a' = { tmps := #[.agg #[.int .i64 p0.x, .int .i64 p0.y, .int .i64 p1.x, .int .i64 p1.y, .int .i64 p2.x, .int .i64 p2.y, .int .i64 p3.x, .int .i64 p3.y, .int .i64 q0.x, .int .i64 q0.y, .int .i64 q1.x, .int .i64 q1.y, .int .i64 q2.x, .int .i64 q2.y, .int .i64 q3.x, .int .i64 q3.y], .pointer (some ⟨w.heap.size, 0, none⟩), .pointer (some ⟨w.heap.size + 1, 0, none⟩), .pointer (some ⟨Bx, 0, none⟩), .agg #[.int .i64 p0.x, .int .i64 p0.y, .int .i64 p1.x, .int .i64 p1.y, .int .i64 p2.x, .int .i64 p2.y, .int .i64 p3.x, .int .i64 p3.y, .int .i64 q0.x, .int .i64 q0.y, .int .i64 q1.x, .int .i64 q1.y, .int .i64 q2.x, .int .i64 q2.y, .int .i64 q3.x, .int .i64 q3.y], .func (.func 76) #[] #[.pointer (some ⟨w.heap.size + 1 + 1, 0, none⟩)], .agg #[.int .i64 x.x, .int .i64 x.y], undef, undef, undef], defers := [] })
    ?hAx ?assign ?body ?done ?stop
  case hAx =>
    rintro x a' s A B row ⟨Bx, h1, h2, ⟨h3, h4⟩, h5⟩ hg hr
    exact ⟨Bx, h1, Nat.lt_of_lt_of_le h2 hg.size, ⟨cell_kept h3 hg (fun r e => (hr r e).2), cell_kept h4 hg (fun r e => (hr r e).2)⟩, h5⟩
  case assign =>
    rintro l pre x W K ⟨hok, hB⟩ hK
    have Hok := Go.Lib.hid hok
    clear hok
    gi_wp2
    exact hK _ (W.alloc (.cells #[.int .i64 x.x, .int .i64 x.y] 42)) ((KeepsOthers.alloc _ _).from _) ((Below.refl _ W).alloc hB.size _) ⟨Hok.out, hB.alloc hB.size _⟩ ⟨W.heap.size, hB.size, by simp, ⟨(World.cell?_alloc_new _ _ _ _).trans rfl, (World.cell?_alloc_new _ _ _ _).trans rfl⟩, rfl⟩
  case body =>
    rintro l pre x a' W hl ⟨r, hr⟩ ⟨hok, hB⟩ ⟨Bx, hBx, hlt, ⟨h3, h4⟩, rfl⟩ _
    have b10 := (hB.cell (p := ⟨w.heap.size, 0, none⟩) (by simp; omega)).trans m0
    have b11 := (hB.cell (p := ⟨w.heap.size, 1, none⟩) (by simp; omega)).trans m1
    have b12 := (hB.cell (p := ⟨w.heap.size, 2, none⟩) (by simp; omega)).trans m2
    have b13 := (hB.cell (p := ⟨w.heap.size, 3, none⟩) (by simp; omega)).trans m3
    have b14 := (hB.cell (p := ⟨w.heap.size, 4, none⟩) (by simp; omega)).trans m4
    have b15 := (hB.cell (p := ⟨w.heap.size, 5, none⟩) (by simp; omega)).trans m5
    have b16 := (hB.cell (p := ⟨w.heap.size, 6, none⟩) (by simp; omega)).trans m6
    have b17 := (hB.cell (p := ⟨w.heap.size, 7, none⟩) (by simp; omega)).trans m7
    have b18 := (hB.cell (p := ⟨w.heap.size, 8, none⟩) (by simp; omega)).trans m8
    have b19 := (hB.cell (p := ⟨w.heap.size, 9, none⟩) (by simp; omega)).trans m9
    have b20 := (hB.cell (p := ⟨w.heap.size, 10, none⟩) (by simp; omega)).trans m10
    have b21 := (hB.cell (p := ⟨w.heap.size, 11, none⟩) (by simp; omega)).trans m11
    have b22 := (hB.cell (p := ⟨w.heap.size, 12, none⟩) (by simp; omega)).trans m12
    have b23 := (hB.cell (p := ⟨w.heap.size, 13, none⟩) (by simp; omega)).trans m13
    have b24 := (hB.cell (p := ⟨w.heap.size, 14, none⟩) (by simp; omega)).trans m14
    have b25 := (hB.cell (p := ⟨w.heap.size, 15, none⟩) (by simp; omega)).trans m15
    have b3 := (hB.cell (p := ⟨w.heap.size + 1, 0, none⟩) (by simp; omega)).trans a3
    have b4 := (hB.frozen (p := ⟨w.heap.size + 1, 0, none⟩) (by simp; omega)).trans a4
    have z1 : w.heap.size + 1 < W.heap.size := by have := hB.size; omega
    have Hok := Go.Lib.hid hok
    clear hok a3 a4 hC hr m0 m1 m2 m3 m4 m5 m6 m7 m8 m9 m10 m11 m12 m13 m14 m15
    cases hk : (cornersL p0 p1 p2 p3 q0 q1 q2 q3).all (rightOk x.x x.y)
    · gi_wp2_with (refine ⟨trivial, ?_⟩; gi_at_call 72; refine (CallsIn.inRound l (callsIn_wide.2 (Calls.giv (isRightmost_any x p0 p1 p2 p3 q0 q1 q2 q3 _)))).mono ?_; rintro _ _ ⟨y1, rfl, rfl⟩)
      exact ⟨(KeepsOthers.below y1.grew).from _, y1.grew.mono hB.size, ⟨by
        intro y hy
        rcases List.mem_append.1 hy with hy | hy
        · exact Hok.out y hy
        · simp at hy; subst hy; exact hk, hB.trans (y1.grew.mono hB.size)⟩⟩
    · gi_wp2_with (refine ⟨trivial, ?_⟩; gi_at_call 72; refine (CallsIn.inRound l (callsIn_wide.2 (Calls.giv (isRightmost_any x p0 p1 p2 p3 q0 q1 q2 q3 _)))).mono ?_; rintro _ _ ⟨y1, rfl, rfl⟩)
      have l1 := (y1.cell (o := 0) z1).trans b3
      exact ⟨((KeepsOthers.below y1.grew).trans (KeepsOthers.setCell _ _ _)).from _, ⟨⟨rfl, x, by simp, hk⟩, World.cell?_setCell_same' _ _ _ (by rw [l1]; rfl)⟩,
        ((hB0.trans (hB.mono (by omega))).trans (y1.grew.mono (by omega))).setCell (p := ⟨w.heap.size + 1, 0, none⟩) (by simp) _⟩
  case done =>
    rintro D ys W hD rfl ⟨hok, hB⟩ hK
    have b3 := (hB.cell (p := ⟨w.heap.size + 1, 0, none⟩) (by simp; omega)).trans a3
    have b4 := (hB.frozen (p := ⟨w.heap.size + 1, 0, none⟩) (by simp; omega)).trans a4
    have hBw := hB0.trans (hB.mono (B' := w.heap.size) (by omega))
    have Hok := Go.Lib.hid hok
    clear hok a3 a4 hC m0 m1 m2 m3 m4 m5 m6 m7 m8 m9 m10 m11 m12 m13 m14 m15
    gi_wp2
    have hK' := (KeepsOthers.setCell W ⟨w.heap.size + 1, 0, none⟩ (.bool false)).same D _ hK rfl
    refine ⟨by simp, .inl ⟨_, _, rfl, run_takeDeferred hK', ?_⟩⟩
    have hc5 := cell_kept (World.cell?_setCell_same' W ⟨w.heap.size + 1, 0, none⟩ (.bool false) (by rw [b3]; rfl)) (grownBy_putObj' _ D (.deferred none)) (fun r e => by cases e; exact ⟨_, hK', rfl⟩)
    refine ⟨.bool false, ?_, ?_⟩
    · simp [results, Try.f58, go_sem, hc5]
    · refine ⟨ret_bool (by symm; rw [List.any_eq_false]; intro y hy; have := Hok.out y hy; simp [this]), ?_⟩
      exact (hBw.setCell (p := ⟨w.heap.size + 1, 0, none⟩) (by simp) _).trans (belowK_b (w := w) (Nat.le_refl _) _ D _ _ (by omega) hK' rfl rfl)
  case stop =>
    rintro D k pre W hD hpre ⟨⟨⟨rfl, hex⟩, hcr⟩, hBw⟩ hK
    gi_wp2
    refine ⟨by simp, .inl ⟨_, _, rfl, run_takeDeferred hK, ?_⟩⟩
    have hc5 := cell_kept hcr (grownBy_putObj' _ D (.deferred none)) (fun r e => by cases e; exact ⟨_, hK, rfl⟩)
    refine ⟨.bool true, ?_, ?_⟩
    · simp [results, Try.f58, go_sem, hc5]
    · obtain ⟨y, hy, hyf⟩ := hex
      refine ⟨ret_bool ?_, hBw.trans (belowK_b (w := w) (Nat.le_refl _) W D _ _ (by omega) hK rfl rfl)⟩
      symm
      rw [List.any_eq_true]
      exact ⟨y, hpre.subset hy, hyf⟩
end Go.Proofs.Ytagfhekjmkdjkaa

/- Contracts of package sky's all: whether something holds for all corners of an area. Condition: what it holds of, as a contract. -/
import Derived.Test.YtfflbiojcoehmabSkyP
namespace Go.Proofs.Ytfflbiojcoehmab
open Go.RowKit Go.Shelf
attribute [local go_sem] Oper.semAt_some
attribute [local go_sem] Ext.cell Ext.frozen Ext.lt Ext.le Ext.lt_add Ext.le_add Ext.ne Ext.ne' lt2 lt3 lt4 lt5 le2 le3 le4
theorem skyKeeps {W W' : World} (h : Below W.heap.size W W') : KeepsOthers W W' :=
  ⟨h.size, fun k _ hk _ => (h.block k (Array.getElem?_eq_some_iff.1 hk).1).trans hk⟩
set_option maxHeartbeats 2000000 in
theorem all_behind (s : SnA) (v : Value) (g : Sn → Bool) (w : World)
    (H : ∀ (W : World) (x : Sn), Below w.heap.size w W → Calls Try.prog 59 #[v, .agg #[.int .i64 x.x, .int .i64 x.y]] W (Gives (.bool (g x)) W)) :
    Calls Try.prog 58 #[.agg #[.int .i64 s.a, .int .i64 s.b, .int .i64 s.c, .int .i64 s.d], .func (.func 59) #[v] #[]] w (Gives (.bool ((cornersV s).all g)) w) := by
  refine (callsIn_wide (n := 6)).1 ?_
  refine callsIn_of_wp_marks Try.func58 rfl trivial ?_ rfl
  simp only [Try.ntmps58, List.size_toArray, List.length_cons, List.length_nil, Nat.reduceAdd, Nat.reduceSub, Array.replicate_succ, Array.replicate_zero, List.push_toArray, List.append_toArray, List.nil_append, List.cons_append]
  gi_wp2_with (refine ⟨trivial, ?_⟩; gi_at_call 67; refine (callsIn_wide.2 (skyCorners_any _ _ _ _ _)).mono ?_; rintro e w' ⟨rfl, rfl⟩)
  obtain ⟨W0, hW0⟩ : ∃ W0, (((w.alloc (.cells #[.int .i64 s.a, .int .i64 s.b, .int .i64 s.c, .int .i64 s.d] 57)).alloc (.cells #[.func (.func 59) #[v] #[]] 93)).alloc (.cells #[.bool false] 4)).alloc (.cells #[.int .i64 s.a, .int .i64 s.b, .int .i64 s.c, .int .i64 s.d] 57) = W0 := ⟨_, rfl⟩
  rw [hW0]
  have hsz : W0.heap.size = w.heap.size + 1 + 1 + 1 + 1 := by rw [← hW0]; simp
  have hB0 : Below w.heap.size w W0 := by rw [← hW0]; repeat' (first | (with_reducible exact Below.refl _ _) | (with_reducible assumption) | (with_reducible refine Ext.below _ ?_ ?_) | (with_reducible refine Below.on ?_ (by with_reducible assumption) ?_) | (with_reducible refine Below.alloc ?_ ?_ _) | (with_reducible refine Below.drew ?_) | (with_reducible refine Below.setCell ?_ ?_ _) | (with_reducible exact Nat.le_refl _) | omega | (simp; done) | (simp [go_sem]; done) | (simp at *; omega))
  have a1 : W0.cell? ⟨w.heap.size + 1, 0, none⟩ = some (.func (.func 59) #[v] #[]) := by rw [← hW0]; simp [go_sem]
  have a3 : W0.cell? ⟨w.heap.size + 1 + 1, 0, none⟩ = some (.bool false) := by rw [← hW0]; simp [go_sem]
  have a4 : W0.frozen? ⟨w.heap.size + 1 + 1, 0, none⟩ = false := by rw [← hW0]; simp [go_sem]
  have hC : AreaAt W0 (w.heap.size + 1 + 1 + 1) s.a s.b s.c s.d := by rw [← hW0]; refine ⟨?_, ?_, ?_, ?_⟩ <;> simp [go_sem]
  clear hW0
  refine wpIn_rangeFunc_ownH (w := W0) (a := _) rfl (by omega) (gf := 71) (lb := #[.pointer (some ⟨w.heap.size + 1 + 1 + 1, 0, none⟩)]) rfl trivial (enters_of Try.func71 (by kernel_rfl) rfl)
    (skyCorners_stops Fence.wide 5 trivial rfl (by omega) _ W0.heap.size s W0 (by omega) (by omega) hC) belowK_t (belowK_b (by omega)) (Below.refl _ _) (fun _ => rfl)
    (fun pre W => (∀ y ∈ pre, g y = true) ∧ Below W0.heap.size W0 W)
    (fun k pre W => ((k = .ret ∧ ∃ y ∈ pre, g y = false) ∧ W.cell? ⟨w.heap.size + 1 + 1, 0, none⟩ = some (.bool false)) ∧ Below w.heap.size w W)
    (OwnFrom.and (Own.from (fun s A B row hs hg hr => hs) _) (ownFrom_below (Nat.le_refl _) (by omega)))
    (fun k => OwnFrom.and (Own.from (fun s A B row hs hg hr => ⟨hs.1, cell_kept hs.2 hg hr⟩) _) (ownFrom_below (by omega) (by omega)))
    ⟨by simp, Below.refl _ _⟩
    (fun x a' W => ∃ Bx : Nat, W0.heap.size ≤ Bx ∧ Bx < W.heap.size ∧ (W.cell? ⟨Bx, 0, none⟩ = some (.int .i64 x.x) ∧ W.cell? ⟨Bx, 1, none⟩ = some (.int .i64 x.y)) ∧ a' = { tmps := #[.agg #[.int .i64 s.a, .int .i64 s.b, .int .i64 s.c, .int .i64 s.d], .func (.func 59) #[v] #[], .pointer (some ⟨w.heap.size, 0, none⟩), .pointer (some ⟨w.heap.size + 1, 0, none⟩), .pointer (some ⟨w.heap.size + 1 + 1, 0, none⟩), .pointer (some ⟨Bx, 0, none⟩), .agg #[.int .i64 s.a, .int .i64 s.b, .int .i64 s.c, .int .i64 s.d], .func (.func 71) #[] #[.pointer (some ⟨w.heap.size + 1 + 1 + 1, 0, none⟩)], .agg #[.int .i64 x.x, .int .i64 x.y], undef, undef, undef, undef], defers := [] })
    ?hAx ?assign ?body ?done ?stop
  case hAx =>
    rintro x a' s A B row ⟨Bx, h1, h2, ⟨h3, h4⟩, h5⟩ hg hr
    exact ⟨Bx, h1, Nat.lt_of_lt_of_le h2 hg.size, ⟨cell_kept h3 hg (fun r e => (hr r e).2), cell_kept h4 hg (fun r e => (hr r e).2)⟩, h5⟩
  case assign =>
    rintro l pre x W K ⟨hok, hB⟩ hK
    have Hok := Go.Lib.hid hok
    clear hok
    gi_wp2
    exact hK _ (W.alloc (.cells #[.int .i64 x.x, .int .i64 x.y] 33)) ((KeepsOthers.alloc _ _).from _) ((Below.refl _ W).alloc hB.size _) ⟨Hok.out, hB.alloc hB.size _⟩ ⟨W.heap.size, hB.size, by simp, ⟨(World.cell?_alloc_new _ _ _ _).trans rfl, (World.cell?_alloc_new _ _ _ _).trans rfl⟩, rfl⟩
  case body =>
    rintro l pre x a' W hl ⟨r, hr⟩ ⟨hok, hB⟩ ⟨Bx, hBx, hlt, ⟨h3, h4⟩, rfl⟩ _
    have b2 := (hB.cell (p := ⟨w.heap.size + 1, 0, none⟩) (by simp; omega)).trans a1
    have b3 := (hB.cell (p := ⟨w.heap.size + 1 + 1, 0, none⟩) (by simp; omega)).trans a3
    have b4 := (hB.frozen (p := ⟨w.heap.size + 1 + 1, 0, none⟩) (by simp; omega)).trans a4
    have z1 : w.heap.size + 1 + 1 < W.heap.size := by have := hB.size; omega
    have hw : Below w.heap.size w W := hB0.trans (hB.mono (by omega))
    have HX := H W x hw
    have Hok := Go.Lib.hid hok
    clear hok a1 a3 a4 hC hr H
    cases hk : g x
    · rw [hk] at HX
      gi_wp2_with (refine ⟨trivial, ?_⟩; gi_at_call 59; refine (CallsIn.inRound l (callsIn_wide.2 (Calls.giv HX))).mono ?_; rintro _ _ ⟨y1, rfl, rfl⟩)
      have l1 := (y1.cell (o := 0) z1).trans b3
      exact ⟨((skyKeeps y1.grew).trans (KeepsOthers.setCell _ _ _)).from _, ⟨⟨rfl, x, by simp, hk⟩, World.cell?_setCell_same' _ _ _ (by rw [l1]; rfl)⟩,
        ((hB0.trans (hB.mono (by omega))).trans (y1.grew.mono (by omega))).setCell (p := ⟨w.heap.size + 1 + 1, 0, none⟩) (by simp; omega) _⟩
    · rw [hk] at HX
      gi_wp2_with (refine ⟨trivial, ?_⟩; gi_at_call 59; refine (CallsIn.inRound l (callsIn_wide.2 (Calls.giv HX))).mono ?_; rintro _ _ ⟨y1, rfl, rfl⟩)
      exact ⟨(skyKeeps y1.grew).from _, y1.grew.mono hB.size, ⟨by
        intro y hy
        rcases List.mem_append.1 hy with hy | hy
        · exact Hok.out y hy
        · simp at hy; subst hy; exact hk, hB.trans (y1.grew.mono hB.size)⟩⟩
  case done =>
    rintro D ys W hD rfl ⟨hok, hB⟩ hK
    have b3 := (hB.cell (p := ⟨w.heap.size + 1 + 1, 0, none⟩) (by simp; omega)).trans a3
    have b4 := (hB.frozen (p := ⟨w.heap.size + 1 + 1, 0, none⟩) (by simp; omega)).trans a4
    have hBw := hB0.trans (hB.mono (B' := w.heap.size) (by omega))
    have Hok := Go.Lib.hid hok
    clear hok a1 a3 a4 hC H
    gi_wp2
    have hK' := (KeepsOthers.setCell W ⟨w.heap.size + 1 + 1, 0, none⟩ (.bool true)).same D _ hK rfl
    refine ⟨by simp, .inl ⟨_, _, rfl, run_takeDeferred hK', ?_⟩⟩
    have hc5 := cell_kept (World.cell?_setCell_same' W ⟨w.heap.size + 1 + 1, 0, none⟩ (.bool true) (by rw [b3]; rfl)) (grownBy_putObj' _ D (.deferred none)) (fun r e => by cases e; exact ⟨_, hK', rfl⟩)
    refine ⟨.bool true, ?_, ?_⟩
    · simp [results, Try.f58, go_sem, hc5]
    · refine ⟨ret_bool (by rw [List.all_eq_true.2 Hok.out]), ?_⟩
      exact (hBw.setCell (p := ⟨w.heap.size + 1 + 1, 0, none⟩) (by simp; omega) _).trans (belowK_b (w := w) (Nat.le_refl _) _ D _ _ (by omega) hK' rfl rfl)
  case stop =>
    rintro D k pre W hD hpre ⟨⟨⟨rfl, hex⟩, hcr⟩, hBw⟩ hK
    clear H
    gi_wp2
    refine ⟨by simp, .inl ⟨_, _, rfl, run_takeDeferred hK, ?_⟩⟩
    have hc5 := cell_kept hcr (grownBy_putObj' _ D (.deferred none)) (fun r e => by cases e; exact ⟨_, hK, rfl⟩)
    refine ⟨.bool false, ?_, ?_⟩
    · simp [results, Try.f58, go_sem, hc5]
    · obtain ⟨y, hy, hyf⟩ := hex
      refine ⟨ret_bool ?_, hBw.trans (belowK_b (w := w) (Nat.le_refl _) W D _ _ (by omega) hK rfl rfl)⟩
      symm
      rw [List.all_eq_false]
      exact ⟨y, hpre.subset hy, by simpa using hyf⟩
set_option maxHeartbeats 2000000 in
theorem all_right (s : SnA) (v : Value) (g : Sn → Bool) (w : World)
    (H : ∀ (W : World) (x : Sn), Below w.heap.size w W → Calls Try.prog 60 #[v, .agg #[.int .i64 x.x, .int .i64 x.y]] W (Gives (.bool (g x)) W)) :
    Calls Try.prog 58 #[.agg #[.int .i64 s.a, .int .i64 s.b, .int .i64 s.c, .int .i64 s.d], .func (.func 60) #[v] #[]] w (Gives (.bool ((cornersV s).all g)) w) := by
  refine (callsIn_wide (n := 6)).1 ?_
  refine callsIn_of_wp_marks Try.func58 rfl trivial ?_ rfl
  simp only [Try.ntmps58, List.size_toArray, List.length_cons, List.length_nil, Nat.reduceAdd, Nat.reduceSub, Array.replicate_succ, Array.replicate_zero, List.push_toArray, List.append_toArray, List.nil_append, List.cons_append]
  gi_wp2_with (refine ⟨trivial, ?_⟩; gi_at_call 67; refine (callsIn_wide.2 (skyCorners_any _ _ _ _ _)).mono ?_; rintro e w' ⟨rfl, rfl⟩)
  obtain ⟨W0, hW0⟩ : ∃ W0, (((w.alloc (.cells #[.int .i64 s.a, .int .i64 s.b, .int .i64 s.c, .int .i64 s.d] 57)).alloc (.cells #[.func (.func 60) #[v] #[]] 93)).alloc (.cells #[.bool false] 4)).alloc (.cells #[.int .i64 s.a, .int .i64 s.b, .int .i64 s.c, .int .i64 s.d] 57) = W0 := ⟨_, rfl⟩
  rw [hW0]
  have hsz : W0.heap.size = w.heap.size + 1 + 1 + 1 + 1 := by rw [← hW0]; simp
  have hB0 : Below w.heap.size w W0 := by rw [← hW0]; repeat' (first | (with_reducible exact Below.refl _ _) | (with_reducible assumption) | (with_reducible refine Ext.below _ ?_ ?_) | (with_reducible refine Below.on ?_ (by with_reducible assumption) ?_) | (with_reducible refine Below.alloc ?_ ?_ _) | (with_reducible refine Below.drew ?_) | (with_reducible refine Below.setCell ?_ ?_ _) | (with_reducible exact Nat.le_refl _) | omega | (simp; done) | (simp [go_sem]; done) | (simp at *; omega))
  have a1 : W0.cell? ⟨w.heap.size + 1, 0, none⟩ = some (.func (.func 60) #[v] #[]) := by rw [← hW0]; simp [go_sem]
  have a3 : W0.cell? ⟨w.heap.size + 1 + 1, 0, none⟩ = some (.bool false) := by rw [← hW0]; simp [go_sem]
  have a4 : W0.frozen? ⟨w.heap.size + 1 + 1, 0, none⟩ = false := by rw [← hW0]; simp [go_sem]
  have hC : AreaAt W0 (w.heap.size + 1 + 1 + 1) s.a s.b s.c s.d := by rw [← hW0]; refine ⟨?_, ?_, ?_, ?_⟩ <;> simp [go_sem]
  clear hW0
  refine wpIn_rangeFunc_ownH (w := W0) (a := _) rfl (by omega) (gf := 71) (lb := #[.pointer (some ⟨w.heap.size + 1 + 1 + 1, 0, none⟩)]) rfl trivial (enters_of Try.func71 (by kernel_rfl) rfl)
    (skyCorners_stops Fence.wide 5 trivial rfl (by omega) _ W0.heap.size s W0 (by omega) (by omega) hC) belowK_t (belowK_b (by omega)) (Below.refl _ _) (fun _ => rfl)
    (fun pre W => (∀ y ∈ pre, g y = true) ∧ Below W0.heap.size W0 W)
    (fun k pre W => ((k = .ret ∧ ∃ y ∈ pre, g y = false) ∧ W.cell? ⟨w.heap.size + 1 + 1, 0, none⟩ = some (.bool false)) ∧ Below w.heap.size w W)
    (OwnFrom.and (Own.from (fun s A B row hs hg hr => hs) _) (ownFrom_below (Nat.le_refl _) (by omega)))
    (fun k => OwnFrom.and (Own.from (fun s A B row hs hg hr => ⟨hs.1, cell_kept hs.2 hg hr⟩) _) (ownFrom_below (by omega) (by omega)))
    ⟨by simp, Below.refl _ _⟩
    (fun x a' W => ∃ Bx : Nat, W0.heap.size ≤ Bx ∧ Bx < W.heap.size ∧ (W.cell? ⟨Bx, 0, none⟩ = some (.int .i64 x.x) ∧ W.cell? ⟨Bx, 1, none⟩ = some (.int .i64 x.y)) ∧ a' = { tmps := #[.agg #[.int .i64 s.a, .int .i64 s.b, .int .i64 s.c, .int .i64 s.d], .func (.func 60) #[v] #[], .pointer (some ⟨w.heap.size, 0, none⟩), .pointer (some ⟨w.heap.size + 1, 0, none⟩), .pointer (some ⟨w.heap.size + 1 + 1, 0, none⟩), .pointer (some ⟨Bx, 0, none⟩), .agg #[.int .i64 s.a, .int .i64 s.b, .int .i64 s.c, .int .i64 s.d], .func (.func 71) #[] #[.pointer (some ⟨w.heap.size + 1 + 1 + 1, 0, none⟩)], .agg #[.int .i64 x.x, .int .i64 x.y], undef, undef, undef, undef], defers := [] })
    ?hAx ?assign ?body ?done ?stop
  case hAx =>
    rintro x a' s A B row ⟨Bx, h1, h2, ⟨h3, h4⟩, h5⟩ hg hr
    exact ⟨Bx, h1, Nat.lt_of_lt_of_le h2 hg.size, ⟨cell_kept h3 hg (fun r e => (hr r e).2), cell_kept h4 hg (fun r e => (hr r e).2)⟩, h5⟩
  case assign =>
    rintro l pre x W K ⟨hok, hB⟩ hK
    have Hok := Go.Lib.hid hok
    clear hok
    gi_wp2
    exact hK _ (W.alloc (.cells #[.int .i64 x.x, .int .i64 x.y] 33)) ((KeepsOthers.alloc _ _).from _) ((Below.refl _ W).alloc hB.size _) ⟨Hok.out, hB.alloc hB.size _⟩ ⟨W.heap.size, hB.size, by simp, ⟨(World.cell?_alloc_new _ _ _ _).trans rfl, (World.cell?_alloc_new _ _ _ _).trans rfl⟩, rfl⟩
  case body =>
    rintro l pre x a' W hl ⟨r, hr⟩ ⟨hok, hB⟩ ⟨Bx, hBx, hlt, ⟨h3, h4⟩, rfl⟩ _
    have b2 := (hB.cell (p := ⟨w.heap.size + 1, 0, none⟩) (by simp; omega)).trans a1
    have b3 := (hB.cell (p := ⟨w.heap.size + 1 + 1, 0, none⟩) (by simp; omega)).trans a3
    have b4 := (hB.frozen (p := ⟨w.heap.size + 1 + 1, 0, none⟩) (by simp; omega)).trans a4
    have z1 : w.heap.size + 1 + 1 < W.heap.size := by have := hB.size; omega
    have hw : Below w.heap.size w W := hB0.trans (hB.mono (by omega))
    have HX := H W x hw
    have Hok := Go.Lib.hid hok
    clear hok a1 a3 a4 hC hr H
    cases hk : g x
    · rw [hk] at HX
      gi_wp2_with (refine ⟨trivial, ?_⟩; gi_at_call 60; refine (CallsIn.inRound l (callsIn_wide.2 (Calls.giv HX))).mono ?_; rintro _ _ ⟨y1, rfl, rfl⟩)
      have l1 := (y1.cell (o := 0) z1).trans b3
      exact ⟨((skyKeeps y1.grew).trans (KeepsOthers.setCell _ _ _)).from _, ⟨⟨rfl, x, by simp, hk⟩, World.cell?_setCell_same' _ _ _ (by rw [l1]; rfl)⟩,
        ((hB0.trans (hB.mono (by omega))).trans (y1.grew.mono (by omega))).setCell (p := ⟨w.heap.size + 1 + 1, 0, none⟩) (by simp; omega) _⟩
    · rw [hk] at HX
      gi_wp2_with (refine ⟨trivial, ?_⟩; gi_at_call 60; refine (CallsIn.inRound l (callsIn_wide.2 (Calls.giv HX))).mono ?_; rintro _ _ ⟨y1, rfl, rfl⟩)
      exact ⟨(skyKeeps y1.grew).from _, y1.grew.mono hB.size, ⟨by
        intro y hy
        rcases List.mem_append.1 hy with hy | hy
        · exact Hok.out y hy
        · simp at hy; subst hy; exact hk, hB.trans (y1.grew.mono hB.size)⟩⟩
  case done =>
    rintro D ys W hD rfl ⟨hok, hB⟩ hK
    have b3 := (hB.cell (p := ⟨w.heap.size + 1 + 1, 0, none⟩) (by simp; omega)).trans a3
    have b4 := (hB.frozen (p := ⟨w.heap.size + 1 + 1, 0, none⟩) (by simp; omega)).trans a4
    have hBw := hB0.trans (hB.mono (B' := w.heap.size) (by omega))
    have Hok := Go.Lib.hid hok
    clear hok a1 a3 a4 hC H
    gi_wp2
    have hK' := (KeepsOthers.setCell W ⟨w.heap.size + 1 + 1, 0, none⟩ (.bool true)).same D _ hK rfl
    refine ⟨by simp, .inl ⟨_, _, rfl, run_takeDeferred hK', ?_⟩⟩
    have hc5 := cell_kept (World.cell?_setCell_same' W ⟨w.heap.size + 1 + 1, 0, none⟩ (.bool true) (by rw [b3]; rfl)) (grownBy_putObj' _ D (.deferred none)) (fun r e => by cases e; exact ⟨_, hK', rfl⟩)
    refine ⟨.bool true, ?_, ?_⟩
    · simp [results, Try.f58, go_sem, hc5]
    · refine ⟨ret_bool (by rw [List.all_eq_true.2 Hok.out]), ?_⟩
      exact (hBw.setCell (p := ⟨w.heap.size + 1 + 1, 0, none⟩) (by simp; omega) _).trans (belowK_b (w := w) (Nat.le_refl _) _ D _ _ (by omega) hK' rfl rfl)
  case stop =>
    rintro D k pre W hD hpre ⟨⟨⟨rfl, hex⟩, hcr⟩, hBw⟩ hK
    clear H
    gi_wp2
    refine ⟨by simp, .inl ⟨_, _, rfl, run_takeDeferred hK, ?_⟩⟩
    have hc5 := cell_kept hcr (grownBy_putObj' _ D (.deferred none)) (fun r e => by cases e; exact ⟨_, hK, rfl⟩)
    refine ⟨.bool false, ?_, ?_⟩
    · simp [results, Try.f58, go_sem, hc5]
    · obtain ⟨y, hy, hyf⟩ := hex
      refine ⟨ret_bool ?_, hBw.trans (belowK_b (w := w) (Nat.le_refl _) W D _ _ (by omega) hK rfl rfl)⟩
      symm
      rw [List.all_eq_false]
      exact ⟨y, hpre.subset hy, by simpa using hyf⟩
set_option maxHeartbeats 2000000 in
theorem all_left (s : SnA) (v : Value) (g : Sn → Bool) (w : World)
    (H : ∀ (W : World) (x : Sn), Below w.heap.size w W → Calls Try.prog 61 #[v, .agg #[.int .i64 x.x, .int .i64 x.y]] W (Gives (.bool (g x)) W)) :
    Calls Try.prog 58 #[.agg #[.int .i64 s.a, .int .i64 s.b, .int .i64 s.c, .int .i64 s.d], .func (.func 61) #[v] #[]] w (Gives (.bool ((cornersV s).all g)) w) := by
  refine (callsIn_wide (n := 6)).1 ?_
  refine callsIn_of_wp_marks Try.func58 rfl trivial ?_ rfl
  simp only [Try.ntmps58, List.size_toArray, List.length_cons, List.length_nil, Nat.reduceAdd, Nat.reduceSub, Array.replicate_succ, Array.replicate_zero, List.push_toArray, List.append_toArray, List.nil_append, List.cons_append]
  gi_wp2_with (refine ⟨trivial, ?_⟩; gi_at_call 67; refine (callsIn_wide.2 (skyCorners_any _ _ _ _ _)).mono ?_; rintro e w' ⟨rfl, rfl⟩)
  obtain ⟨W0, hW0⟩ : ∃ W0, (((w.alloc (.cells #[.int .i64 s.a, .int .i64 s.b, .int .i64 s.c, .int .i64 s.d] 57)).alloc (.cells #[.func (.func 61) #[v] #[]] 93)).alloc (.cells #[.bool false] 4)).alloc (.cells #[.int .i64 s.a, .int .i64 s.b, .int .i64 s.c, .int .i64 s.d] 57) = W0 := ⟨_, rfl⟩
  rw [hW0]
  have hsz : W0.heap.size = w.heap.size + 1 + 1 + 1 + 1 := by rw [← hW0]; simp
  have hB0 : Below w.heap.size w W0 := by rw [← hW0]; repeat' (first | (with_reducible exact Below.refl _ _) | (with_reducible assumption) | (with_reducible refine Ext.below _ ?_ ?_) | (with_reducible refine Below.on ?_ (by with_reducible assumption) ?_) | (with_reducible refine Below.alloc ?_ ?_ _) | (with_reducible refine Below.drew ?_) | (with_reducible refine Below.setCell ?_ ?_ _) | (with_reducible exact Nat.le_refl _) | omega | (simp; done) | (simp [go_sem]; done) | (simp at *; omega))
  have a1 : W0.cell? ⟨w.heap.size + 1, 0, none⟩ = some (.func (.func 61) #[v] #[]) := by rw [← hW0]; simp [go_sem]
  have a3 : W0.cell? ⟨w.heap.size + 1 + 1, 0, none⟩ = some (.bool false) := by rw [← hW0]; simp [go_sem]
  have a4 : W0.frozen? ⟨w.heap.size + 1 + 1, 0, none⟩ = false := by rw [← hW0]; simp [go_sem]
  have hC : AreaAt W0 (w.heap.size + 1 + 1 + 1) s.a s.b s.c s.d := by rw [← hW0]; refine ⟨?_, ?_, ?_, ?_⟩ <;> simp [go_sem]
  clear hW0
  refine wpIn_rangeFunc_ownH (w := W0) (a := _) rfl (by omega) (gf := 71) (lb := #[.pointer (some ⟨w.heap.size + 1 + 1 + 1, 0, none⟩)]) rfl trivial (enters_of Try.func71 (by kernel_rfl) rfl)
    (skyCorners_stops Fence.wide 5 trivial rfl (by omega) _ W0.heap.size s W0 (by omega) (by omega) hC) belowK_t (belowK_b (by omega)) (Below.refl _ _) (fun _ => rfl)
    (fun pre W => (∀ y ∈ pre, g y = true) ∧ Below W0.heap.size W0 W)
    (fun k pre W => ((k = .ret ∧ ∃ y ∈ pre, g y = false) ∧ W.cell? ⟨w.heap.size + 1 + 1, 0, none⟩ = some (.bool false)) ∧ Below w.heap.size w W)
    (OwnFrom.and (Own.from (fun s A B row hs hg hr => hs) _) (ownFrom_below (Nat.le_refl _) (by omega)))
    (fun k => OwnFrom.and (Own.from (fun s A B row hs hg hr => ⟨hs.1, cell_kept hs.2 hg hr⟩) _) (ownFrom_below (by omega) (by omega)))
    ⟨by simp, Below.refl _ _⟩
    (fun x a' W => ∃ Bx : Nat, W0.heap.size ≤ Bx ∧ Bx < W.heap.size ∧ (W.cell? ⟨Bx, 0, none⟩ = some (.int .i64 x.x) ∧ W.cell? ⟨Bx, 1, none⟩ = some (.int .i64 x.y)) ∧ a' = { tmps := #[.agg #[.int .i64 s.a, .int .i64 s.b, .int .i64 s.c, .int .i64 s.d], .func (.func 61) #[v] #[], .pointer (some ⟨w.heap.size, 0, none⟩), .pointer (some ⟨w.heap.size + 1, 0, none⟩), .pointer (some ⟨w.heap.size + 1 + 1, 0, none⟩), .pointer (some ⟨Bx, 0, none⟩), .agg #[.int .i64 s.a, .int .i64 s.b, .int .i64 s.c, .int .i64 s.d], .func (.func 71) #[] #[.pointer (some ⟨w.heap.size + 1 + 1 + 1, 0, none⟩)], .agg #[.int .i64 x.x, .int .i64 x.y], undef, undef, undef, undef], defers := [] })
    ?hAx ?assign ?body ?done ?stop
  case hAx =>
    rintro x a' s A B row ⟨Bx, h1, h2, ⟨h3, h4⟩, h5⟩ hg hr
    exact ⟨Bx, h1, Nat.lt_of_lt_of_le h2 hg.size, ⟨cell_kept h3 hg (fun r e => (hr r e).2), cell_kept h4 hg (fun r e => (hr r e).2)⟩, h5⟩
  case assign =>
    rintro l pre x W K ⟨hok, hB⟩ hK
    have Hok := Go.Lib.hid hok
    clear hok
    gi_wp2
    exact hK _ (W.alloc (.cells #[.int .i64 x.x, .int .i64 x.y] 33)) ((KeepsOthers.alloc _ _).from _) ((Below.refl _ W).alloc hB.size _) ⟨Hok.out, hB.alloc hB.size _⟩ ⟨W.heap.size, hB.size, by simp, ⟨(World.cell?_alloc_new _ _ _ _).trans rfl, (World.cell?_alloc_new _ _ _ _).trans rfl⟩, rfl⟩
  case body =>
    rintro l pre x a' W hl ⟨r, hr⟩ ⟨hok, hB⟩ ⟨Bx, hBx, hlt, ⟨h3, h4⟩, rfl⟩ _
    have b2 := (hB.cell (p := ⟨w.heap.size + 1, 0, none⟩) (by simp; omega)).trans a1
    have b3 := (hB.cell (p := ⟨w.heap.size + 1 + 1, 0, none⟩) (by simp; omega)).trans a3
    have b4 := (hB.frozen (p := ⟨w.heap.size + 1 + 1, 0, none⟩) (by simp; omega)).trans a4
    have z1 : w.heap.size + 1 + 1 < W.heap.size := by have := hB.size; omega
    have hw : Below w.heap.size w W := hB0.trans (hB.mono (by omega))
    have HX := H W x hw
    have Hok := Go.Lib.hid hok
    clear hok a1 a3 a4 hC hr H
    cases hk : g x
    · rw [hk] at HX
      gi_wp2_with (refine ⟨trivial, ?_⟩; gi_at_call 61; refine (CallsIn.inRound l (callsIn_wide.2 (Calls.giv HX))).mono ?_; rintro _ _ ⟨y1, rfl, rfl⟩)
      have l1 := (y1.cell (o := 0) z1).trans b3
      exact ⟨((skyKeeps y1.grew).trans (KeepsOthers.setCell _ _ _)).from _, ⟨⟨rfl, x, by simp, hk⟩, World.cell?_setCell_same' _ _ _ (by rw [l1]; rfl)⟩,
        ((hB0.trans (hB.mono (by omega))).trans (y1.grew.mono (by omega))).setCell (p := ⟨w.heap.size + 1 + 1, 0, none⟩) (by simp; omega) _⟩
    · rw [hk] at HX
      gi_wp2_with (refine ⟨trivial, ?_⟩; gi_at_call 61; refine (CallsIn.inRound l (callsIn_wide.2 (Calls.giv HX))).mono ?_; rintro _ _ ⟨y1, rfl, rfl⟩)
      exact ⟨(skyKeeps y1.grew).from _, y1.grew.mono hB.size, ⟨by
        intro y hy
        rcases List.mem_append.1 hy with hy | hy
        · exact Hok.out y hy
        · simp at hy; subst hy; exact hk, hB.trans (y1.grew.mono hB.size)⟩⟩
  case done =>
    rintro D ys W hD rfl ⟨hok, hB⟩ hK
    have b3 := (hB.cell (p := ⟨w.heap.size + 1 + 1, 0, none⟩) (by simp; omega)).trans a3
    have b4 := (hB.frozen (p := ⟨w.heap.size + 1 + 1, 0, none⟩) (by simp; omega)).trans a4
    have hBw := hB0.trans (hB.mono (B' := w.heap.size) (by omega))
    have Hok := Go.Lib.hid hok
    clear hok a1 a3 a4 hC H
    gi_wp2
    have hK' := (KeepsOthers.setCell W ⟨w.heap.size + 1 + 1, 0, none⟩ (.bool true)).same D _ hK rfl
    refine ⟨by simp, .inl ⟨_, _, rfl, run_takeDeferred hK', ?_⟩⟩
    have hc5 := cell_kept (World.cell?_setCell_same' W ⟨w.heap.size + 1 + 1, 0, none⟩ (.bool true) (by rw [b3]; rfl)) (grownBy_putObj' _ D (.deferred none)) (fun r e => by cases e; exact ⟨_, hK', rfl⟩)
    refine ⟨.bool true, ?_, ?_⟩
    · simp [results, Try.f58, go_sem, hc5]
    · refine ⟨ret_bool (by rw [List.all_eq_true.2 Hok.out]), ?_⟩
      exact (hBw.setCell (p := ⟨w.heap.size + 1 + 1, 0, none⟩) (by simp; omega) _).trans (belowK_b (w := w) (Nat.le_refl _) _ D _ _ (by omega) hK' rfl rfl)
  case stop =>
    rintro D k pre W hD hpre ⟨⟨⟨rfl, hex⟩, hcr⟩, hBw⟩ hK
    clear H
    gi_wp2
    refine ⟨by simp, .inl ⟨_, _, rfl, run_takeDeferred hK, ?_⟩⟩
    have hc5 := cell_kept hcr (grownBy_putObj' _ D (.deferred none)) (fun r e => by cases e; exact ⟨_, hK, rfl⟩)
    refine ⟨.bool false, ?_, ?_⟩
    · simp [results, Try.f58, go_sem, hc5]
    · obtain ⟨y, hy, hyf⟩ := hex
      refine ⟨ret_bool ?_, hBw.trans (belowK_b (w := w) (Nat.le_refl _) W D _ _ (by omega) hK rfl rfl)⟩
      symm
      rw [List.all_eq_false]
      exact ⟨y, hpre.subset hy, by simpa using hyf⟩
set_option maxHeartbeats 2000000 in
theorem all_near (s : SnA) (v : Value) (g : Sn → Bool) (w : World)
    (H : ∀ (W : World) (x : Sn), Below w.heap.size w W → Calls Try.prog 62 #[.agg #[.int .i64 x.x, .int .i64 x.y], v] W (Gives (.bool (g x)) W)) :
    Calls Try.prog 58 #[.agg #[.int .i64 s.a, .int .i64 s.b, .int .i64 s.c, .int .i64 s.d], .func (.func 62) #[] #[v]] w (Gives (.bool ((cornersV s).all g)) w) := by
  refine (callsIn_wide (n := 6)).1 ?_
  refine callsIn_of_wp_marks Try.func58 rfl trivial ?_ rfl
  simp only [Try.ntmps58, List.size_toArray, List.length_cons, List.length_nil, Nat.reduceAdd, Nat.reduceSub, Array.replicate_succ, Array.replicate_zero, List.push_toArray, List.append_toArray, List.nil_append, List.cons_append]
  gi_wp2_with (refine ⟨trivial, ?_⟩; gi_at_call 67; refine (callsIn_wide.2 (skyCorners_any _ _ _ _ _)).mono ?_; rintro e w' ⟨rfl, rfl⟩)
  obtain ⟨W0, hW0⟩ : ∃ W0, (((w.alloc (.cells #[.int .i64 s.a, .int .i64 s.b, .int .i64 s.c, .int .i64 s.d] 57)).alloc (.cells #[.func (.func 62) #[] #[v]] 93)).alloc (.cells #[.bool false] 4)).alloc (.cells #[.int .i64 s.a, .int .i64 s.b, .int .i64 s.c, .int .i64 s.d] 57) = W0 := ⟨_, rfl⟩
  rw [hW0]
  have hsz : W0.heap.size = w.heap.size + 1 + 1 + 1 + 1 := by rw [← hW0]; simp
  have hB0 : Below w.heap.size w W0 := by rw [← hW0]; repeat' (first | (with_reducible exact Below.refl _ _) | (with_reducible assumption) | (with_reducible refine Ext.below _ ?_ ?_) | (with_reducible refine Below.on ?_ (by with_reducible assumption) ?_) | (with_reducible refine Below.alloc ?_ ?_ _) | (with_reducible refine Below.drew ?_) | (with_reducible refine Below.setCell ?_ ?_ _) | (with_reducible exact Nat.le_refl _) | omega | (simp; done) | (simp [go_sem]; done) | (simp at *; omega))
  have a1 : W0.cell? ⟨w.heap.size + 1, 0, none⟩ = some (.func (.func 62) #[] #[v]) := by rw [← hW0]; simp [go_sem]
  have a3 : W0.cell? ⟨w.heap.size + 1 + 1, 0, none⟩ = some (.bool false) := by rw [← hW0]; simp [go_sem]
  have a4 : W0.frozen? ⟨w.heap.size + 1 + 1, 0, none⟩ = false := by rw [← hW0]; simp [go_sem]
  have hC : AreaAt W0 (w.heap.size + 1 + 1 + 1) s.a s.b s.c s.d := by rw [← hW0]; refine ⟨?_, ?_, ?_, ?_⟩ <;> simp [go_sem]
  clear hW0
  refine wpIn_rangeFunc_ownH (w := W0) (a := _) rfl (by omega) (gf := 71) (lb := #[.pointer (some ⟨w.heap.size + 1 + 1 + 1, 0, none⟩)]) rfl trivial (enters_of Try.func71 (by kernel_rfl) rfl)
    (skyCorners_stops Fence.wide 5 trivial rfl (by omega) _ W0.heap.size s W0 (by omega) (by omega) hC) belowK_t (belowK_b (by omega)) (Below.refl _ _) (fun _ => rfl)
    (fun pre W => (∀ y ∈ pre, g y = true) ∧ Below W0.heap.size W0 W)
    (fun k pre W => ((k = .ret ∧ ∃ y ∈ pre, g y = false) ∧ W.cell? ⟨w.heap.size + 1 + 1, 0, none⟩ = some (.bool false)) ∧ Below w.heap.size w W)
    (OwnFrom.and (Own.from (fun s A B row hs hg hr => hs) _) (ownFrom_below (Nat.le_refl _) (by omega)))
    (fun k => OwnFrom.and (Own.from (fun s A B row hs hg hr => ⟨hs.1, cell_kept hs.2 hg hr⟩) _) (ownFrom_below (by omega) (by omega)))
    ⟨by simp, Below.refl _ _⟩
    (fun x a' W => ∃ Bx : Nat, W0.heap.size ≤ Bx ∧ Bx < W.heap.size ∧ (W.cell? ⟨Bx, 0, none⟩ = some (.int .i64 x.x) ∧ W.cell? ⟨Bx, 1, none⟩ = some (.int .i64 x.y)) ∧ a' = { tmps := #[.agg #[.int .i64 s.a, .int .i64 s.b, .int .i64 s.c, .int .i64 s.d], .func (.func 62) #[] #[v], .pointer (some ⟨w.heap.size, 0, none⟩), .pointer (some ⟨w.heap.size + 1, 0, none⟩), .pointer (some ⟨w.heap.size + 1 + 1, 0, none⟩), .pointer (some ⟨Bx, 0, none⟩), .agg #[.int .i64 s.a, .int .i64 s.b, .int .i64 s.c, .int .i64 s.d], .func (.func 71) #[] #[.pointer (some ⟨w.heap.size + 1 + 1 + 1, 0, none⟩)], .agg #[.int .i64 x.x, .int .i64 x.y], undef, undef, undef, undef], defers := [] })
    ?hAx ?assign ?body ?done ?stop
  case hAx =>
    rintro x a' s A B row ⟨Bx, h1, h2, ⟨h3, h4⟩, h5⟩ hg hr
    exact ⟨Bx, h1, Nat.lt_of_lt_of_le h2 hg.size, ⟨cell_kept h3 hg (fun r e => (hr r e).2), cell_kept h4 hg (fun r e => (hr r e).2)⟩, h5⟩
  case assign =>
    rintro l pre x W K ⟨hok, hB⟩ hK
    have Hok := Go.Lib.hid hok
    clear hok
    gi_wp2
    exact hK _ (W.alloc (.cells #[.int .i64 x.x, .int .i64 x.y] 33)) ((KeepsOthers.alloc _ _).from _) ((Below.refl _ W).alloc hB.size _) ⟨Hok.out, hB.alloc hB.size _⟩ ⟨W.heap.size, hB.size, by simp, ⟨(World.cell?_alloc_new _ _ _ _).trans rfl, (World.cell?_alloc_new _ _ _ _).trans rfl⟩, rfl⟩
  case body =>
    rintro l pre x a' W hl ⟨r, hr⟩ ⟨hok, hB⟩ ⟨Bx, hBx, hlt, ⟨h3, h4⟩, rfl⟩ _
    have b2 := (hB.cell (p := ⟨w.heap.size + 1, 0, none⟩) (by simp; omega)).trans a1
    have b3 := (hB.cell (p := ⟨w.heap.size + 1 + 1, 0, none⟩) (by simp; omega)).trans a3
    have b4 := (hB.frozen (p := ⟨w.heap.size + 1 + 1, 0, none⟩) (by simp; omega)).trans a4
    have z1 : w.heap.size + 1 + 1 < W.heap.size := by have := hB.size; omega
    have hw : Below w.heap.size w W := hB0.trans (hB.mono (by omega))
    have HX := H W x hw
    have Hok := Go.Lib.hid hok
    clear hok a1 a3 a4 hC hr H
    cases hk : g x
    · rw [hk] at HX
      gi_wp2_with (refine ⟨trivial, ?_⟩; gi_at_call 62; refine (CallsIn.inRound l (callsIn_wide.2 (Calls.giv HX))).mono ?_; rintro _ _ ⟨y1, rfl, rfl⟩)
      have l1 := (y1.cell (o := 0) z1).trans b3
      exact ⟨((skyKeeps y1.grew).trans (KeepsOthers.setCell _ _ _)).from _, ⟨⟨rfl, x, by simp, hk⟩, World.cell?_setCell_same' _ _ _ (by rw [l1]; rfl)⟩,
        ((hB0.trans (hB.mono (by omega))).trans (y1.grew.mono (by omega))).setCell (p := ⟨w.heap.size + 1 + 1, 0, none⟩) (by simp; omega) _⟩
    · rw [hk] at HX
      gi_wp2_with (refine ⟨trivial, ?_⟩; gi_at_call 62; refine (CallsIn.inRound l (callsIn_wide.2 (Calls.giv HX))).mono ?_; rintro _ _ ⟨y1, rfl, rfl⟩)
      exact ⟨(skyKeeps y1.grew).from _, y1.grew.mono hB.size, ⟨by
        intro y hy
        rcases List.mem_append.1 hy with hy | hy
        · exact Hok.out y hy
        · simp at hy; subst hy; exact hk, hB.trans (y1.grew.mono hB.size)⟩⟩
  case done =>
    rintro D ys W hD rfl ⟨hok, hB⟩ hK
    have b3 := (hB.cell (p := ⟨w.heap.size + 1 + 1, 0, none⟩) (by simp; omega)).trans a3
    have b4 := (hB.frozen (p := ⟨w.heap.size + 1 + 1, 0, none⟩) (by simp; omega)).trans a4
    have hBw := hB0.trans (hB.mono (B' := w.heap.size) (by omega))
    have Hok := Go.Lib.hid hok
    clear hok a1 a3 a4 hC H
    gi_wp2
    have hK' := (KeepsOthers.setCell W ⟨w.heap.size + 1 + 1, 0, none⟩ (.bool true)).same D _ hK rfl
    refine ⟨by simp, .inl ⟨_, _, rfl, run_takeDeferred hK', ?_⟩⟩
    have hc5 := cell_kept (World.cell?_setCell_same' W ⟨w.heap.size + 1 + 1, 0, none⟩ (.bool true) (by rw [b3]; rfl)) (grownBy_putObj' _ D (.deferred none)) (fun r e => by cases e; exact ⟨_, hK', rfl⟩)
    refine ⟨.bool true, ?_, ?_⟩
    · simp [results, Try.f58, go_sem, hc5]
    · refine ⟨ret_bool (by rw [List.all_eq_true.2 Hok.out]), ?_⟩
      exact (hBw.setCell (p := ⟨w.heap.size + 1 + 1, 0, none⟩) (by simp; omega) _).trans (belowK_b (w := w) (Nat.le_refl _) _ D _ _ (by omega) hK' rfl rfl)
  case stop =>
    rintro D k pre W hD hpre ⟨⟨⟨rfl, hex⟩, hcr⟩, hBw⟩ hK
    clear H
    gi_wp2
    refine ⟨by simp, .inl ⟨_, _, rfl, run_takeDeferred hK, ?_⟩⟩
    have hc5 := cell_kept hcr (grownBy_putObj' _ D (.deferred none)) (fun r e => by cases e; exact ⟨_, hK, rfl⟩)
    refine ⟨.bool false, ?_, ?_⟩
    · simp [results, Try.f58, go_sem, hc5]
    · obtain ⟨y, hy, hyf⟩ := hex
      refine ⟨ret_bool ?_, hBw.trans (belowK_b (w := w) (Nat.le_refl _) W D _ _ (by omega) hK rfl rfl)⟩
      symm
      rw [List.all_eq_false]
      exact ⟨y, hpre.subset hy, by simpa using hyf⟩
set_option maxHeartbeats 2000000 in
theorem all_blocks (s : SnA) (v : Value) (g : Sn → Bool) (w : World)
    (H : ∀ (W : World) (x : Sn), Below w.heap.size w W → Calls Try.prog 65 #[v, .agg #[.int .i64 x.x, .int .i64 x.y]] W (Gives (.bool (g x)) W)) :
    Calls Try.prog 58 #[.agg #[.int .i64 s.a, .int .i64 s.b, .int .i64 s.c, .int .i64 s.d], .func (.func 65) #[v] #[]] w (Gives (.bool ((cornersV s).all g)) w) := by
  refine (callsIn_wide (n := 6)).1 ?_
  refine callsIn_of_wp_marks Try.func58 rfl trivial ?_ rfl
  simp only [Try.ntmps58, List.size_toArray, List.length_cons, List.length_nil, Nat.reduceAdd, Nat.reduceSub, Array.replicate_succ, Array.replicate_zero, List.push_toArray, List.append_toArray, List.nil_append, List.cons_append]
  gi_wp2_with (refine ⟨trivial, ?_⟩; gi_at_call 67; refine (callsIn_wide.2 (skyCorners_any _ _ _ _ _)).mono ?_; rintro e w' ⟨rfl, rfl⟩)
  obtain ⟨W0, hW0⟩ : ∃ W0, (((w.alloc (.cells #[.int .i64 s.a, .int .i64 s.b, .int .i64 s.c, .int .i64 s.d] 57)).alloc (.cells #[.func (.func 65) #[v] #[]] 93)).alloc (.cells #[.bool false] 4)).alloc (.cells #[.int .i64 s.a, .int .i64 s.b, .int .i64 s.c, .int .i64 s.d] 57) = W0 := ⟨_, rfl⟩
  rw [hW0]
  have hsz : W0.heap.size = w.heap.size + 1 + 1 + 1 + 1 := by rw [← hW0]; simp
  have hB0 : Below w.heap.size w W0 := by rw [← hW0]; repeat' (first | (with_reducible exact Below.refl _ _) | (with_reducible assumption) | (with_reducible refine Ext.below _ ?_ ?_) | (with_reducible refine Below.on ?_ (by with_reducible assumption) ?_) | (with_reducible refine Below.alloc ?_ ?_ _) | (with_reducible refine Below.drew ?_) | (with_reducible refine Below.setCell ?_ ?_ _) | (with_reducible exact Nat.le_refl _) | omega | (simp; done) | (simp [go_sem]; done) | (simp at *; omega))
  have a1 : W0.cell? ⟨w.heap.size + 1, 0, none⟩ = some (.func (.func 65) #[v] #[]) := by rw [← hW0]; simp [go_sem]
  have a3 : W0.cell? ⟨w.heap.size + 1 + 1, 0, none⟩ = some (.bool false) := by rw [← hW0]; simp [go_sem]
  have a4 : W0.frozen? ⟨w.heap.size + 1 + 1, 0, none⟩ = false := by rw [← hW0]; simp [go_sem]
  have hC : AreaAt W0 (w.heap.size + 1 + 1 + 1) s.a s.b s.c s.d := by rw [← hW0]; refine ⟨?_, ?_, ?_, ?_⟩ <;> simp [go_sem]
  clear hW0
  refine wpIn_rangeFunc_ownH (w := W0) (a := _) rfl (by omega) (gf := 71) (lb := #[.pointer (some ⟨w.heap.size + 1 + 1 + 1, 0, none⟩)]) rfl trivial (enters_of Try.func71 (by kernel_rfl) rfl)
    (skyCorners_stops Fence.wide 5 trivial rfl (by omega) _ W0.heap.size s W0 (by omega) (by omega) hC) belowK_t (belowK_b (by omega)) (Below.refl _ _) (fun _ => rfl)
    (fun pre W => (∀ y ∈ pre, g y = true) ∧ Below W0.heap.size W0 W)
    (fun k pre W => ((k = .ret ∧ ∃ y ∈ pre, g y = false) ∧ W.cell? ⟨w.heap.size + 1 + 1, 0, none⟩ = some (.bool false)) ∧ Below w.heap.size w W)
    (OwnFrom.and (Own.from (fun s A B row hs hg hr => hs) _) (ownFrom_below (Nat.le_refl _) (by omega)))
    (fun k => OwnFrom.and (Own.from (fun s A B row hs hg hr => ⟨hs.1, cell_kept hs.2 hg hr⟩) _) (ownFrom_below (by omega) (by omega)))
    ⟨by simp, Below.refl _ _⟩
    (fun x a' W => ∃ Bx : Nat, W0.heap.size ≤ Bx ∧ Bx < W.heap.size ∧ (W.cell? ⟨Bx, 0, none⟩ = some (.int .i64 x.x) ∧ W.cell? ⟨Bx, 1, none⟩ = some (.int .i64 x.y)) ∧ a' = { tmps := #[.agg #[.int .i64 s.a, .int .i64 s.b, .int .i64 s.c, .int .i64 s.d], .func (.func 65) #[v] #[], .pointer (some ⟨w.heap.size, 0, none⟩), .pointer (some ⟨w.heap.size + 1, 0, none⟩), .pointer (some ⟨w.heap.size + 1 + 1, 0, none⟩), .pointer (some ⟨Bx, 0, none⟩), .agg #[.int .i64 s.a, .int .i64 s.b, .int .i64 s.c, .int .i64 s.d], .func (.func 71) #[] #[.pointer (some ⟨w.heap.size + 1 + 1 + 1, 0, none⟩)], .agg #[.int .i64 x.x, .int .i64 x.y], undef, undef, undef, undef], defers := [] })
    ?hAx ?assign ?body ?done ?stop
  case hAx =>
    rintro x a' s A B row ⟨Bx, h1, h2, ⟨h3, h4⟩, h5⟩ hg hr
    exact ⟨Bx, h1, Nat.lt_of_lt_of_le h2 hg.size, ⟨cell_kept h3 hg (fun r e => (hr r e).2), cell_kept h4 hg (fun r e => (hr r e).2)⟩, h5⟩
  case assign =>
    rintro l pre x W K ⟨hok, hB⟩ hK
    have Hok := Go.Lib.hid hok
    clear hok
    gi_wp2
    exact hK _ (W.alloc (.cells #[.int .i64 x.x, .int .i64 x.y] 33)) ((KeepsOthers.alloc _ _).from _) ((Below.refl _ W).alloc hB.size _) ⟨Hok.out, hB.alloc hB.size _⟩ ⟨W.heap.size, hB.size, by simp, ⟨(World.cell?_alloc_new _ _ _ _).trans rfl, (World.cell?_alloc_new _ _ _ _).trans rfl⟩, rfl⟩
  case body =>
    rintro l pre x a' W hl ⟨r, hr⟩ ⟨hok, hB⟩ ⟨Bx, hBx, hlt, ⟨h3, h4⟩, rfl⟩ _
    have b2 := (hB.cell (p := ⟨w.heap.size + 1, 0, none⟩) (by simp; omega)).trans a1
    have b3 := (hB.cell (p := ⟨w.heap.size + 1 + 1, 0, none⟩) (by simp; omega)).trans a3
    have b4 := (hB.frozen (p := ⟨w.heap.size + 1 + 1, 0, none⟩) (by simp; omega)).trans a4
    have z1 : w.heap.size + 1 + 1 < W.heap.size := by have := hB.size; omega
    have hw : Below w.heap.size w W := hB0.trans (hB.mono (by omega))
    have HX := H W x hw
    have Hok := Go.Lib.hid hok
    clear hok a1 a3 a4 hC hr H
    cases hk : g x
    · rw [hk] at HX
      gi_wp2_with (refine ⟨trivial, ?_⟩; gi_at_call 65; refine (CallsIn.inRound l (callsIn_wide.2 (Calls.giv HX))).mono ?_; rintro _ _ ⟨y1, rfl, rfl⟩)
      have l1 := (y1.cell (o := 0) z1).trans b3
      exact ⟨((skyKeeps y1.grew).trans (KeepsOthers.setCell _ _ _)).from _, ⟨⟨rfl, x, by simp, hk⟩, World.cell?_setCell_same' _ _ _ (by rw [l1]; rfl)⟩,
        ((hB0.trans (hB.mono (by omega))).trans (y1.grew.mono (by omega))).setCell (p := ⟨w.heap.size + 1 + 1, 0, none⟩) (by simp; omega) _⟩
    · rw [hk] at HX
      gi_wp2_with (refine ⟨trivial, ?_⟩; gi_at_call 65; refine (CallsIn.inRound l (callsIn_wide.2 (Calls.giv HX))).mono ?_; rintro _ _ ⟨y1, rfl, rfl⟩)
      exact ⟨(skyKeeps y1.grew).from _, y1.grew.mono hB.size, ⟨by
        intro y hy
        rcases List.mem_append.1 hy with hy | hy
        · exact Hok.out y hy
        · simp at hy; subst hy; exact hk, hB.trans (y1.grew.mono hB.size)⟩⟩
  case done =>
    rintro D ys W hD rfl ⟨hok, hB⟩ hK
    have b3 := (hB.cell (p := ⟨w.heap.size + 1 + 1, 0, none⟩) (by simp; omega)).trans a3
    have b4 := (hB.frozen (p := ⟨w.heap.size + 1 + 1, 0, none⟩) (by simp; omega)).trans a4
    have hBw := hB0.trans (hB.mono (B' := w.heap.size) (by omega))
    have Hok := Go.Lib.hid hok
    clear hok a1 a3 a4 hC H
    gi_wp2
    have hK' := (KeepsOthers.setCell W ⟨w.heap.size + 1 + 1, 0, none⟩ (.bool true)).same D _ hK rfl
    refine ⟨by simp, .inl ⟨_, _, rfl, run_takeDeferred hK', ?_⟩⟩
    have hc5 := cell_kept (World.cell?_setCell_same' W ⟨w.heap.size + 1 + 1, 0, none⟩ (.bool true) (by rw [b3]; rfl)) (grownBy_putObj' _ D (.deferred none)) (fun r e => by cases e; exact ⟨_, hK', rfl⟩)
    refine ⟨.bool true, ?_, ?_⟩
    · simp [results, Try.f58, go_sem, hc5]
    · refine ⟨ret_bool (by rw [List.all_eq_true.2 Hok.out]), ?_⟩
      exact (hBw.setCell (p := ⟨w.heap.size + 1 + 1, 0, none⟩) (by simp; omega) _).trans (belowK_b (w := w) (Nat.le_refl _) _ D _ _ (by omega) hK' rfl rfl)
  case stop =>
    rintro D k pre W hD hpre ⟨⟨⟨rfl, hex⟩, hcr⟩, hBw⟩ hK
    clear H
    gi_wp2
    refine ⟨by simp, .inl ⟨_, _, rfl, run_takeDeferred hK, ?_⟩⟩
    have hc5 := cell_kept hcr (grownBy_putObj' _ D (.deferred none)) (fun r e => by cases e; exact ⟨_, hK, rfl⟩)
    refine ⟨.bool false, ?_, ?_⟩
    · simp [results, Try.f58, go_sem, hc5]
    · obtain ⟨y, hy, hyf⟩ := hex
      refine ⟨ret_bool ?_, hBw.trans (belowK_b (w := w) (Nat.le_refl _) W D _ _ (by omega) hK rfl rfl)⟩
      symm
      rw [List.all_eq_false]
      exact ⟨y, hpre.subset hy, by simpa using hyf⟩
end Go.Proofs.Ytfflbiojcoehmab

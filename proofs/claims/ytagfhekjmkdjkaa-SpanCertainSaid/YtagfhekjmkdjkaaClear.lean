/- Contract of package span's Clear. No condition. -/
import Derived.Test.YtagfhekjmkdjkaaSides
import Derived.Test.YtagfhekjmkdjkaaRight
import Derived.Test.YtagfhekjmkdjkaaInv
import Derived.Stop.RegionWithIn
namespace Go.Proofs.Ytagfhekjmkdjkaa
open Go.RowKit Go.Shelf
attribute [local go_sem] Oper.semAt_some
attribute [local go_sem] Ext.cell Ext.frozen Ext.lt Ext.le Ext.lt_add Ext.le_add Ext.ne Ext.ne' lt2 lt3 lt4 lt5 le2 le3 le4
theorem sides_any (v0 v1 v2 v3 v4 v5 v6 v7 v8 v9 v10 v11 v12 v13 v14 v15 : Int) (w : World) : Calls Try.prog 57 #[.agg #[.int .i64 v0, .int .i64 v1, .int .i64 v2, .int .i64 v3, .int .i64 v4, .int .i64 v5, .int .i64 v6, .int .i64 v7, .int .i64 v8, .int .i64 v9, .int .i64 v10, .int .i64 v11, .int .i64 v12, .int .i64 v13, .int .i64 v14, .int .i64 v15]] w fun e w' =>
    e = .returned (.func (.func 70) #[] #[.pointer (some ⟨w.heap.size, 0, none⟩)]) ∧ w' = w.alloc (.cells #[.int .i64 v0, .int .i64 v1, .int .i64 v2, .int .i64 v3, .int .i64 v4, .int .i64 v5, .int .i64 v6, .int .i64 v7, .int .i64 v8, .int .i64 v9, .int .i64 v10, .int .i64 v11, .int .i64 v12, .int .i64 v13, .int .i64 v14, .int .i64 v15] 83) := by
  go_enter Try.func57, Try.ntmps57
  go_wp2_with (first | ((first | with_reducible refine wp_region_ext2 (by kernel_rfl) (by kernel_rfl) ?_ | with_reducible refine wp_region_ext (by kernel_rfl) (by kernel_rfl) ?_); (repeat (first | go_big_quiet_step ((first | fail)) | quiet_step ((first | fail)))); refine wpQuiet_nil ?_; rintro _ ⟨yr, rfl⟩; have syr := Ext.size yr; (repeat (first | rw [World.size_alloc] at syr | rw [World.size_setCell] at syr | rw [World.size_drew] at syr))))
  go_returns
  exact ⟨rfl, rfl⟩
theorem sides_stops (F : Fence) (n : Nat) (hF : F.fn 70) (hro : F.round = none) (hn : 1 ≤ n) (Bn n₀ : Nat) (hBn : Bn < n₀) (p0 p1 p2 p3 q0 q1 q2 q3 : Pl) (w : World) (hB : Bn < w.heap.size)
    (hb : ∀ k, w.cell? ⟨Bn, k, none⟩ = (#[.int .i64 p0.x, .int .i64 p0.y, .int .i64 p1.x, .int .i64 p1.y, .int .i64 p2.x, .int .i64 p2.y, .int .i64 p3.x, .int .i64 p3.y, .int .i64 q0.x, .int .i64 q0.y, .int .i64 q1.x, .int .i64 q1.y, .int .i64 q2.x, .int .i64 q2.y, .int .i64 q3.x, .int .i64 q3.y] : Array Value)[k]?) :
    SeqStopsK F n Try.prog 70 #[.pointer (some ⟨Bn, 0, none⟩)] (fun x : Pl × Pl => #[.agg #[.int .i64 x.1.x, .int .i64 x.1.y], .agg #[.int .i64 x.2.x, .int .i64 x.2.y]]) (Below n₀) (fun xs => xs = sidesL p0 p1 p2 p3 q0 q1 q2 q3) (fun pre => pre <+: sidesL p0 p1 p2 p3 q0 q1 q2 q3) 12 w :=
  fun l J Jx W hW hJ _ hY h0 => sides1_in F n hF hro hn l Bn n₀ hBn p0 p1 p2 p3 q0 q1 q2 q3 J Jx W hJ hY
    ((hW.cell (p := ⟨Bn, 0, none⟩) hB).trans ((hb 0).trans rfl)) ((hW.cell (p := ⟨Bn, 1, none⟩) hB).trans ((hb 1).trans rfl)) ((hW.cell (p := ⟨Bn, 2, none⟩) hB).trans ((hb 2).trans rfl)) ((hW.cell (p := ⟨Bn, 3, none⟩) hB).trans ((hb 3).trans rfl)) ((hW.cell (p := ⟨Bn, 4, none⟩) hB).trans ((hb 4).trans rfl)) ((hW.cell (p := ⟨Bn, 5, none⟩) hB).trans ((hb 5).trans rfl)) ((hW.cell (p := ⟨Bn, 6, none⟩) hB).trans ((hb 6).trans rfl)) ((hW.cell (p := ⟨Bn, 7, none⟩) hB).trans ((hb 7).trans rfl)) ((hW.cell (p := ⟨Bn, 8, none⟩) hB).trans ((hb 8).trans rfl)) ((hW.cell (p := ⟨Bn, 9, none⟩) hB).trans ((hb 9).trans rfl)) ((hW.cell (p := ⟨Bn, 10, none⟩) hB).trans ((hb 10).trans rfl)) ((hW.cell (p := ⟨Bn, 11, none⟩) hB).trans ((hb 11).trans rfl)) ((hW.cell (p := ⟨Bn, 12, none⟩) hB).trans ((hb 12).trans rfl)) ((hW.cell (p := ⟨Bn, 13, none⟩) hB).trans ((hb 13).trans rfl)) ((hW.cell (p := ⟨Bn, 14, none⟩) hB).trans ((hb 14).trans rfl)) ((hW.cell (p := ⟨Bn, 15, none⟩) hB).trans ((hb 15).trans rfl)) h0
/-- The segments and the corners of a sweep. -/
def segsI (a b c d e f g h : Int) : List ((Int × Int) × (Int × Int)) :=
  [((a, c), (b, c)), ((e, g), (f, g)), ((a, c), (e, g)), ((b, c), (b, d)), ((f, g), (f, h)), ((b, c), (f, g)), ((b, d), (a, d)), ((f, h), (e, h)), ((b, d), (f, h)), ((a, d), (a, c)), ((e, h), (e, g)), ((a, d), (e, h))]
def corsI (a b c d e f g h : Int) : List (Int × Int) := [(a, c), (b, c), (b, d), (a, d), (e, g), (f, g), (f, h), (e, h)]
def segIn (r : Int) (s : (Int × Int) × (Int × Int)) : Bool := withinB s.1.1 s.1.2 s.2.1 s.2.2 r
def outI (l : List (Int × Int)) : Bool := l.any fun c => l.all fun o => decide (0 ≤ c.1 * o.2 - c.2 * o.1)
/-- What Clear answers. -/
def clearI (a b c d e f g h r : Int) : Bool := canB a b c d e f g h r && !((segsI a b c d e f g h).any (segIn r)) && outI (corsI a b c d e f g h)
theorem chkA_far {a b c d : Int} (h : chkA a b c d = 0) : Far a ∧ Far b ∧ Far c ∧ Far d := by
  unfold chkA at h
  split at h
  · split at h
    · rename_i h1
      simp only [Bool.and_eq_true] at h1
      obtain ⟨⟨⟨h2, h3⟩, h4⟩, h5⟩ := h1
      exact ⟨(Far.of_far h2).1, (Far.of_far h3).1, (Far.of_far h2).2, (Far.of_far h5).2⟩
    · cases h
  · contradiction
/-- Which operations of the region of the rings may come up. -/
def ringsReady : List Bool → Nat → Bool
  | [b0, b1, b2, b3, b4, b5, _], i => match i with
    | 0 => true | 1 => b0 | 2 => true | 3 => b1 && b2 | 4 => b1 && b3 | 5 => true | 6 => b4 && b5 | _ => false
  | _, _ => false
/-- What holds between the operations of that region. -/
def RingsInv (a b c d e f g h r : Int) (A : Nat) (W0 : World) (l : List Bool) (fr : Act) (W : World) : Prop :=
  ∃ s7 s15 s16 s17 s18 s19 : Value, fr = { tmps := #[.agg #[.int .i64 a, .int .i64 b, .int .i64 c, .int .i64 d], .agg #[.int .i64 e, .int .i64 f, .int .i64 g, .int .i64 h], .int .i64 r, .pointer (some ⟨A, 0, none⟩), .pointer (some ⟨A + 1, 0, none⟩), .pointer (some ⟨A + 1 + 1, 0, none⟩), .pointer (some ⟨A + 1 + 1 + 1, 0, none⟩), s7, undef, undef, .agg #[.int .i64 a, .int .i64 b, .int .i64 c, .int .i64 d], .agg #[.int .i64 e, .int .i64 f, .int .i64 g, .int .i64 h], .int .i64 r, .bool true, .bool false, s15, s16, s17, s18, s19, undef, undef, undef, undef, undef, undef, undef, undef, undef, undef], defers := [] } ∧ Below W0.heap.size W0 W ∧ (l.getD 6 false = true → l.getD 5 false = true) ∧
    (l.getD 0 false = true → s15 = .agg #[.int .i64 a, .int .i64 b, .int .i64 c, .int .i64 d]) ∧
    (l.getD 1 false = true → s16 = .agg #[.int .i64 a, .int .i64 c, .int .i64 b, .int .i64 c, .int .i64 b, .int .i64 d, .int .i64 a, .int .i64 d]) ∧
    (l.getD 2 false = true → s17 = .agg #[.int .i64 e, .int .i64 f, .int .i64 g, .int .i64 h]) ∧
    (l.getD 3 false = true → s18 = .agg #[.int .i64 e, .int .i64 g, .int .i64 f, .int .i64 g, .int .i64 f, .int .i64 h, .int .i64 e, .int .i64 h]) ∧
    (l.getD 4 false = true → s19 = .agg #[.int .i64 a, .int .i64 c, .int .i64 b, .int .i64 c, .int .i64 b, .int .i64 d, .int .i64 a, .int .i64 d, .int .i64 e, .int .i64 g, .int .i64 f, .int .i64 g, .int .i64 f, .int .i64 h, .int .i64 e, .int .i64 h]) ∧
    (l.getD 5 false = true → ∃ B : Nat, s7 = .pointer (some ⟨B, 0, none⟩) ∧ W0.heap.size ≤ B ∧ B < W.heap.size ∧ ∃ cs, cs.size = 16 ∧ W.heap[B]? = some (.cells cs 83 (0, 0)) ∧ (l.getD 6 false = true → cs = #[.int .i64 a, .int .i64 c, .int .i64 b, .int .i64 c, .int .i64 b, .int .i64 d, .int .i64 a, .int .i64 d, .int .i64 e, .int .i64 g, .int .i64 f, .int .i64 g, .int .i64 f, .int .i64 h, .int .i64 e, .int .i64 h]))
set_option maxHeartbeats 4000000 in
theorem Clear_yes (a b c d e f g h r : Int) (w : World) (hc : canB a b c d e f g h r = true) :
    Calls Try.prog 27 #[.agg #[.int .i64 a, .int .i64 b, .int .i64 c, .int .i64 d], .agg #[.int .i64 e, .int .i64 f, .int .i64 g, .int .i64 h], .int .i64 r] w (Gives (.bool (clearI a b c d e f g h r)) w) := by
  have hc' := hc
  unfold canB at hc'
  simp only [Bool.and_eq_true, beq_iff_eq] at hc'
  obtain ⟨⟨hA, hE⟩, hr⟩ := hc'
  have hr0 : 0 ≤ r := by unfold radB at hr; simp at hr; omega
  have hr1 : r ≤ 536870912 := by unfold radB at hr; simp at hr; omega
  have HA := Go.Lib.hid hA; have HE := Go.Lib.hid hE
  clear hA hE hr
  refine (callsIn_wide (n := 6)).1 ?_
  refine callsIn_of_wp_marks Try.func27 rfl trivial ?_ rfl
  simp only [Try.ntmps27, List.size_toArray, List.length_cons, List.length_nil, Nat.reduceAdd, Nat.reduceSub, Array.replicate_succ, Array.replicate_zero, List.push_toArray, List.append_toArray, List.nil_append, List.cons_append]
  gi_wp2_with (refine ⟨trivial, ?_⟩; gi_at_call 52; refine (callsIn_wide.2 (Calls.giv (canMeet_any _ _ _ _ _ _ _ _ _ _))).mono ?_; rintro _ _ ⟨y1, rfl, rfl⟩)
  have sy1 := y1.size
  simp only [World.size_alloc] at sy1
  have m0 : ∀ o, y1.now.cell? ⟨w.heap.size, o, none⟩ = (#[.int .i64 a, .int .i64 b, .int .i64 c, .int .i64 d] : Array Value)[o]? := by intro o; rw [y1.cell (by simp only [World.size_alloc]; omega)]; simp [go_sem]
  have n0 : ∀ o, y1.now.cell? ⟨w.heap.size + 1, o, none⟩ = (#[.int .i64 e, .int .i64 f, .int .i64 g, .int .i64 h] : Array Value)[o]? := by intro o; rw [y1.cell (by simp only [World.size_alloc]; omega)]; simp [go_sem]
  have hB0 : Below w.heap.size w y1.now := by repeat' (first | (with_reducible exact Below.refl _ _) | (with_reducible assumption) | (with_reducible refine Ext.below _ ?_ ?_) | (with_reducible refine Below.on ?_ (by with_reducible assumption) ?_) | (with_reducible refine Below.alloc ?_ ?_ _) | (with_reducible refine Below.drew ?_) | (with_reducible refine Below.setCell ?_ ?_ _) | (with_reducible exact Nat.le_refl _) | omega | (simp; done) | (simp [go_sem]; done) | (simp at *; omega))
  have a3 : y1.now.cell? ⟨w.heap.size + 1 + 1 + 1, 0, none⟩ = some (.bool false) := by rw [y1.cell (by simp only [World.size_alloc]; omega)]; simp [go_sem]
  have a4 : y1.now.frozen? ⟨w.heap.size + 1 + 1 + 1, 0, none⟩ = false := by rw [y1.frozen (by simp only [World.size_alloc]; omega)]; simp [go_sem]
  have a5 : y1.now.cell? ⟨w.heap.size + 1 + 1, 0, none⟩ = some (.int .i64 r) := by rw [y1.cell (by simp only [World.size_alloc]; omega)]; simp [go_sem]
  generalize y1.now = W0 at *
  clear y1
  refine region_by_in (by kernel_rfl) ringsReady (by kernel_rfl) (RingsInv a b c d e f g h r w.heap.size W0) ?r0 ?rstep ?rend
  case r0 => exact ⟨undef, undef, undef, undef, undef, undef, rfl, (Below.refl _ _).drew, by simp, by simp, by simp, by simp, by simp, by simp, by simp⟩
  case rend =>
    rintro l fr W hl hall ⟨s7, s15, s16, s17, s18, s19, rfl, hB, g65, f0, f1, f2, f3, f4, f5⟩
    obtain ⟨b0, b1, b2, b3, b4, b5, b6, rfl⟩ := list7 hl
    simp only [List.all_cons, id, Bool.and_eq_true] at hall
    obtain ⟨e0, e1, e2, e3, e4, e5, e6, -⟩ := hall
    subst e0 e1 e2 e3 e4 e5 e6
    obtain rfl := f0 rfl; obtain rfl := f1 rfl; obtain rfl := f2 rfl; obtain rfl := f3 rfl; obtain rfl := f4 rfl
    obtain ⟨B, rfl, hB1, hB2, cs, hcs, hBc, h6⟩ := f5 rfl
    obtain rfl := h6 rfl
    clear f0 f1 f2 f3 f4 f5 g65 h6 hl m0 n0 hcs
    have a3 := (hB.cell (p := ⟨w.heap.size + 1 + 1 + 1, 0, none⟩) (by simp; omega)).trans a3
    have a4 := (hB.frozen (p := ⟨w.heap.size + 1 + 1 + 1, 0, none⟩) (by simp; omega)).trans a4
    have a5 := (hB.cell (p := ⟨w.heap.size + 1 + 1, 0, none⟩) (by simp; omega)).trans a5
    have cB : ∀ k, W.cell? ⟨B, k, none⟩ = (#[.int .i64 a, .int .i64 c, .int .i64 b, .int .i64 c, .int .i64 b, .int .i64 d, .int .i64 a, .int .i64 d, .int .i64 e, .int .i64 g, .int .i64 f, .int .i64 g, .int .i64 f, .int .i64 h, .int .i64 e, .int .i64 h] : Array Value)[k]? := fun k => cell_of_row W B k _ _ _ hBc
    have hBw := hB0.trans (hB.mono (B' := w.heap.size) (by omega))
    clear hBc
    gi_wp2_with (refine ⟨trivial, ?_⟩; gi_at_call 57; refine (callsIn_wide.2 (sides_any _ _ _ _ _ _ _ _ _ _ _ _ _ _ _ _ _)).mono ?_; rintro e w' ⟨rfl, rfl⟩)
    obtain ⟨fa, fb, fc, fd⟩ := chkA_far HA.out
    obtain ⟨fe, ff, fg, fh⟩ := chkA_far HE.out
    obtain ⟨W1, hW1⟩ : ∃ W1, W.alloc (.cells #[.int .i64 a, .int .i64 c, .int .i64 b, .int .i64 c, .int .i64 b, .int .i64 d, .int .i64 a, .int .i64 d, .int .i64 e, .int .i64 g, .int .i64 f, .int .i64 g, .int .i64 f, .int .i64 h, .int .i64 e, .int .i64 h] 83) = W1 := ⟨_, rfl⟩
    rw [hW1]
    have hsz : W1.heap.size = W.heap.size + 1 := by rw [← hW1]; simp
    have hBW : Below W.heap.size W W1 := by rw [← hW1]; exact (Below.refl _ W).alloc (Nat.le_refl _) _
    have hC : ∀ k, W1.cell? ⟨W.heap.size, k, none⟩ = (#[.int .i64 a, .int .i64 c, .int .i64 b, .int .i64 c, .int .i64 b, .int .i64 d, .int .i64 a, .int .i64 d, .int .i64 e, .int .i64 g, .int .i64 f, .int .i64 g, .int .i64 f, .int .i64 h, .int .i64 e, .int .i64 h] : Array Value)[k]? := fun k => by rw [← hW1]; exact World.cell?_alloc_new _ _ _ _
    have sW := hBw.size
    have sW2 : w.heap.size + 1 + 1 + 1 < W.heap.size := by have := hB.size; omega
    have a3 := (hBW.cell (p := ⟨w.heap.size + 1 + 1 + 1, 0, none⟩) (by simp; omega)).trans a3
    have a4 := (hBW.frozen (p := ⟨w.heap.size + 1 + 1 + 1, 0, none⟩) (by simp; omega)).trans a4
    have a5 := (hBW.cell (p := ⟨w.heap.size + 1 + 1, 0, none⟩) (by simp; omega)).trans a5
    have cB : ∀ k, W1.cell? ⟨B, k, none⟩ = (#[.int .i64 a, .int .i64 c, .int .i64 b, .int .i64 c, .int .i64 b, .int .i64 d, .int .i64 a, .int .i64 d, .int .i64 e, .int .i64 g, .int .i64 f, .int .i64 g, .int .i64 f, .int .i64 h, .int .i64 e, .int .i64 h] : Array Value)[k]? := fun k => (hBW.cell (p := ⟨B, k, none⟩) hB2).trans (cB k)
    have hBw1 := hBw.trans (hBW.mono sW)
    clear hW1
    refine wpIn_rangeFunc_ownH (w := W1) (a := _) rfl (by omega) (gf := 70) (lb := #[.pointer (some ⟨W.heap.size, 0, none⟩)]) rfl trivial (enters_of Try.func70 (by kernel_rfl) rfl)
      (sides_stops Fence.wide 5 trivial rfl (by omega) W.heap.size W1.heap.size (by omega) ⟨a, c, fa, fc⟩ ⟨b, c, fb, fc⟩ ⟨b, d, fb, fd⟩ ⟨a, d, fa, fd⟩ ⟨e, g, fe, fg⟩ ⟨f, g, ff, fg⟩ ⟨f, h, ff, fh⟩ ⟨e, h, fe, fh⟩ W1 (by omega) hC) belowK_t (belowK_b (by omega)) (Below.refl _ _) (fun _ => rfl)
      (fun pre W' => (∀ y ∈ pre, withinB y.1.x y.1.y y.2.x y.2.y r = false) ∧ Below W1.heap.size W1 W')
      (fun k pre W' => ((k = .ret ∧ ∃ y ∈ pre, withinB y.1.x y.1.y y.2.x y.2.y r = true) ∧ W'.cell? ⟨w.heap.size + 1 + 1 + 1, 0, none⟩ = some (.bool false)) ∧ Below w.heap.size w W')
      (OwnFrom.and (Own.from (fun s A B row hs hg hr => hs) _) (ownFrom_below (Nat.le_refl _) (by omega)))
      (fun k => OwnFrom.and (Own.from (fun s A B row hs hg hr => ⟨hs.1, cell_kept hs.2 hg hr⟩) _) (ownFrom_below (by omega) (by omega)))
      ⟨by simp, Below.refl _ _⟩
      (fun x a' W' => ∃ Bx : Nat, W1.heap.size ≤ Bx ∧ Bx + 1 < W'.heap.size ∧ ((W'.cell? ⟨Bx, 0, none⟩ = some (.int .i64 x.1.x) ∧ W'.cell? ⟨Bx, 1, none⟩ = some (.int .i64 x.1.y)) ∧ (W'.cell? ⟨Bx + 1, 0, none⟩ = some (.int .i64 x.2.x) ∧ W'.cell? ⟨Bx + 1, 1, none⟩ = some (.int .i64 x.2.y))) ∧ a' = { tmps := #[.agg #[.int .i64 a, .int .i64 b, .int .i64 c, .int .i64 d], .agg #[.int .i64 e, .int .i64 f, .int .i64 g, .int .i64 h], .int .i64 r, .pointer (some ⟨w.heap.size, 0, none⟩), .pointer (some ⟨w.heap.size + 1, 0, none⟩), .pointer (some ⟨w.heap.size + 1 + 1, 0, none⟩), .pointer (some ⟨w.heap.size + 1 + 1 + 1, 0, none⟩), .pointer (some ⟨B, 0, none⟩), .pointer (some ⟨Bx, 0, none⟩), .pointer (some ⟨Bx + 1, 0, none⟩), .agg #[.int .i64 a, .int .i64 b, .int .i64 c, .int .i64 d], .agg #[.int .i64 e, .int .i64 f, .int .i64 g, .int .i64 h], .int .i64 r, .bool true, .bool false, .agg #[.int .i64 a, .int .i64 b, .int .i64 c, .int .i64 d], .agg #[.int .i64 a, .int .i64 c, .int .i64 b, .int .i64 c, .int .i64 b, .int .i64 d, .int .i64 a, .int .i64 d], .agg #[.int .i64 e, .int .i64 f, .int .i64 g, .int .i64 h], .agg #[.int .i64 e, .int .i64 g, .int .i64 f, .int .i64 g, .int .i64 f, .int .i64 h, .int .i64 e, .int .i64 h], .agg #[.int .i64 a, .int .i64 c, .int .i64 b, .int .i64 c, .int .i64 b, .int .i64 d, .int .i64 a, .int .i64 d, .int .i64 e, .int .i64 g, .int .i64 f, .int .i64 g, .int .i64 f, .int .i64 h, .int .i64 e, .int .i64 h], .agg #[.int .i64 a, .int .i64 c, .int .i64 b, .int .i64 c, .int .i64 b, .int .i64 d, .int .i64 a, .int .i64 d, .int .i64 e, .int .i64 g, .int .i64 f, .int .i64 g, .int .i64 f, .int .i64 h, .int .i64 e, .int .i64 h], .func (.func 70) #[] #[.pointer (some ⟨W.heap.size, 0, none⟩)], .agg #[.int .i64 x.1.x, .int .i64 x.1.y], .agg #[.int .i64 x.2.x, .int .i64 x.2.y], undef, undef, undef, undef, undef, undef], defers := [] })
      ?hAx ?assign ?body ?done ?stop
    case hAx =>
      rintro x a' s A B row ⟨Bx, h1, h2, ⟨⟨h3, h4⟩, h6, h7⟩, h5⟩ hg hr
      exact ⟨Bx, h1, Nat.lt_of_lt_of_le h2 hg.size, ⟨⟨cell_kept h3 hg (fun r e => (hr r e).2), cell_kept h4 hg (fun r e => (hr r e).2)⟩, cell_kept h6 hg (fun r e => (hr r e).2), cell_kept h7 hg (fun r e => (hr r e).2)⟩, h5⟩
    case assign =>
      rintro l pre x W' K ⟨hok, hB'⟩ hK
      have Hok := Go.Lib.hid hok
      clear hok
      gi_wp2
      have sz := hB'.size
      exact hK _ ((W'.alloc (.cells #[.int .i64 x.1.x, .int .i64 x.1.y] 42)).alloc (.cells #[.int .i64 x.2.x, .int .i64 x.2.y] 42)) (((KeepsOthers.alloc _ _).trans (KeepsOthers.alloc _ _)).from _) (((Below.refl _ W').alloc hB'.size _).alloc (by simp; omega) _) ⟨Hok.out, (hB'.alloc hB'.size _).alloc (by simp; omega) _⟩
        ⟨W'.heap.size, hB'.size, by simp, ⟨⟨by simp [go_sem], by simp [go_sem]⟩, by simp [go_sem], by simp [go_sem]⟩, rfl⟩
    case body =>
      rintro l pre x a' W' hl ⟨r', hr⟩ ⟨hok, hB'⟩ ⟨Bx, hBx, hlt, ⟨⟨h3, h4⟩, h6, h7⟩, rfl⟩ _
      have sz := hB'.size
      have b3 := (hB'.cell (p := ⟨w.heap.size + 1 + 1 + 1, 0, none⟩) (by simp; omega)).trans a3
      have b4 := (hB'.frozen (p := ⟨w.heap.size + 1 + 1 + 1, 0, none⟩) (by simp; omega)).trans a4
      have b5 := (hB'.cell (p := ⟨w.heap.size + 1 + 1, 0, none⟩) (by simp; omega)).trans a5
      have z1 : w.heap.size + 1 + 1 + 1 < W'.heap.size := by omega
      have Hok := Go.Lib.hid hok
      clear hok a3 a4 a5 hC hr cB
      cases hk : withinB x.1.x x.1.y x.2.x x.2.y r
      · have HK := Go.Lib.hid hk
        gi_wp2_with (refine ⟨trivial, ?_⟩; gi_at_call 49; refine (CallsIn.inRound l (callsIn_wide.2 (Calls.giv (within_any _ _ _ _ _ _ x.1.fx x.1.fy x.2.fx x.2.fy hr0 hr1)))).mono ?_; rintro _ _ ⟨y1, rfl, rfl⟩)
        exact ⟨(KeepsOthers.below y1.grew).from _, y1.grew.mono hB'.size, ⟨by
          intro y hy
          rcases List.mem_append.1 hy with hy | hy
          · exact Hok.out y hy
          · simp at hy; subst hy; exact HK.out, hB'.trans (y1.grew.mono hB'.size)⟩⟩
      · have HK := Go.Lib.hid hk
        gi_wp2_with (refine ⟨trivial, ?_⟩; gi_at_call 49; refine (CallsIn.inRound l (callsIn_wide.2 (Calls.giv (within_any _ _ _ _ _ _ x.1.fx x.1.fy x.2.fx x.2.fy hr0 hr1)))).mono ?_; rintro _ _ ⟨y1, rfl, rfl⟩)
        have l1 := (y1.cell (o := 0) z1).trans b3
        exact ⟨((KeepsOthers.below y1.grew).trans (KeepsOthers.setCell _ _ _)).from _, ⟨⟨rfl, x, by simp, HK.out⟩, World.cell?_setCell_same' _ _ _ (by rw [l1]; rfl)⟩,
          ((hBw1.trans (hB'.mono (by omega))).trans (y1.grew.mono (by omega))).setCell (p := ⟨w.heap.size + 1 + 1 + 1, 0, none⟩) (by simp; omega) _⟩
    case done =>
      rintro D0 ys W' hD rfl ⟨hok, hB'⟩ hK
      have sz := hB'.size
      have b3 := (hB'.cell (p := ⟨w.heap.size + 1 + 1 + 1, 0, none⟩) (by simp; omega)).trans a3
      have b4 := (hB'.frozen (p := ⟨w.heap.size + 1 + 1 + 1, 0, none⟩) (by simp; omega)).trans a4
      have cB' : ∀ k, W'.cell? ⟨B, k, none⟩ = (#[.int .i64 a, .int .i64 c, .int .i64 b, .int .i64 c, .int .i64 b, .int .i64 d, .int .i64 a, .int .i64 d, .int .i64 e, .int .i64 g, .int .i64 f, .int .i64 g, .int .i64 f, .int .i64 h, .int .i64 e, .int .i64 h] : Array Value)[k]? := fun k => (hB'.cell (p := ⟨B, k, none⟩) (by simp; omega)).trans (cB k)
      have hBw' := hBw1.trans (hB'.mono (B' := w.heap.size) (by omega))
      have Hok := Go.Lib.hid hok
      clear hok a3 a4 a5 hC cB
      have z1 : w.heap.size + 1 + 1 + 1 < W'.heap.size := by omega
      gi_wp2_with (refine ⟨trivial, ?_⟩; gi_at_call 58; refine (callsIn_wide.2 (Calls.giv (outside_any ⟨a, c, fa, fc⟩ ⟨b, c, fb, fc⟩ ⟨b, d, fb, fd⟩ ⟨a, d, fa, fd⟩ ⟨e, g, fe, fg⟩ ⟨f, g, ff, fg⟩ ⟨f, h, ff, fh⟩ ⟨e, h, fe, fh⟩ _))).mono ?_; rintro _ _ ⟨y1, rfl, rfl⟩)
      have l1 := (y1.cell (o := 0) z1).trans b3
      have hK' := ((KeepsOthers.below y1.grew).trans (KeepsOthers.setCell _ ⟨w.heap.size + 1 + 1 + 1, 0, none⟩ (.bool ((cornersL ⟨a, c, fa, fc⟩ ⟨b, c, fb, fc⟩ ⟨b, d, fb, fd⟩ ⟨a, d, fa, fd⟩ ⟨e, g, fe, fg⟩ ⟨f, g, ff, fg⟩ ⟨f, h, ff, fh⟩ ⟨e, h, fe, fh⟩).any fun u => (cornersL ⟨a, c, fa, fc⟩ ⟨b, c, fb, fc⟩ ⟨b, d, fb, fd⟩ ⟨a, d, fa, fd⟩ ⟨e, g, fe, fg⟩ ⟨f, g, ff, fg⟩ ⟨f, h, ff, fh⟩ ⟨e, h, fe, fh⟩).all (rightOk u.x u.y))))).same D0 _ hK rfl
      refine ⟨by simp, .inl ⟨_, _, rfl, run_takeDeferred hK', ?_⟩⟩
      have hc5 := cell_kept (World.cell?_setCell_same' y1.now ⟨w.heap.size + 1 + 1 + 1, 0, none⟩ (.bool ((cornersL ⟨a, c, fa, fc⟩ ⟨b, c, fb, fc⟩ ⟨b, d, fb, fd⟩ ⟨a, d, fa, fd⟩ ⟨e, g, fe, fg⟩ ⟨f, g, ff, fg⟩ ⟨f, h, ff, fh⟩ ⟨e, h, fe, fh⟩).any fun u => (cornersL ⟨a, c, fa, fc⟩ ⟨b, c, fb, fc⟩ ⟨b, d, fb, fd⟩ ⟨a, d, fa, fd⟩ ⟨e, g, fe, fg⟩ ⟨f, g, ff, fg⟩ ⟨f, h, ff, fh⟩ ⟨e, h, fe, fh⟩).all (rightOk u.x u.y))) (by rw [l1]; rfl)) (grownBy_putObj' _ D0 (.deferred none)) (fun r e => by cases e; exact ⟨_, hK', rfl⟩)
      refine ⟨.bool ((cornersL ⟨a, c, fa, fc⟩ ⟨b, c, fb, fc⟩ ⟨b, d, fb, fd⟩ ⟨a, d, fa, fd⟩ ⟨e, g, fe, fg⟩ ⟨f, g, ff, fg⟩ ⟨f, h, ff, fh⟩ ⟨e, h, fe, fh⟩).any fun u => (cornersL ⟨a, c, fa, fc⟩ ⟨b, c, fb, fc⟩ ⟨b, d, fb, fd⟩ ⟨a, d, fa, fd⟩ ⟨e, g, fe, fg⟩ ⟨f, g, ff, fg⟩ ⟨f, h, ff, fh⟩ ⟨e, h, fe, fh⟩).all (rightOk u.x u.y)), ?_, ?_⟩
      · simp [results, Try.f27, go_sem, hc5]
      · refine ⟨ret_bool ?_, ?_⟩
        · have e1 : (segsI a b c d e f g h).any (segIn r) = (sidesL ⟨a, c, fa, fc⟩ ⟨b, c, fb, fc⟩ ⟨b, d, fb, fd⟩ ⟨a, d, fa, fd⟩ ⟨e, g, fe, fg⟩ ⟨f, g, ff, fg⟩ ⟨f, h, ff, fh⟩ ⟨e, h, fe, fh⟩).any (fun y => withinB y.1.x y.1.y y.2.x y.2.y r) := rfl
          have e2 : outI (corsI a b c d e f g h) = (cornersL ⟨a, c, fa, fc⟩ ⟨b, c, fb, fc⟩ ⟨b, d, fb, fd⟩ ⟨a, d, fa, fd⟩ ⟨e, g, fe, fg⟩ ⟨f, g, ff, fg⟩ ⟨f, h, ff, fh⟩ ⟨e, h, fe, fh⟩).any fun u => (cornersL ⟨a, c, fa, fc⟩ ⟨b, c, fb, fc⟩ ⟨b, d, fb, fd⟩ ⟨a, d, fa, fd⟩ ⟨e, g, fe, fg⟩ ⟨f, g, ff, fg⟩ ⟨f, h, ff, fh⟩ ⟨e, h, fe, fh⟩).all (rightOk u.x u.y) := rfl
          unfold clearI
          have e3 : (sidesL ⟨a, c, fa, fc⟩ ⟨b, c, fb, fc⟩ ⟨b, d, fb, fd⟩ ⟨a, d, fa, fd⟩ ⟨e, g, fe, fg⟩ ⟨f, g, ff, fg⟩ ⟨f, h, ff, fh⟩ ⟨e, h, fe, fh⟩).any (fun y => withinB y.1.x y.1.y y.2.x y.2.y r) = false := List.any_eq_false.2 (fun y hy => by rw [Hok.out y hy]; decide)
          rw [hc, e1, e3, e2]
          rfl
        · exact ((hBw'.trans (y1.grew.mono (by omega))).setCell (p := ⟨w.heap.size + 1 + 1 + 1, 0, none⟩) (by simp; omega) _).trans (belowK_b (w := w) (Nat.le_refl _) _ D0 _ _ (by omega) hK' rfl rfl)
    case stop =>
      rintro D0 k pre W' hD hpre ⟨⟨⟨rfl, hex⟩, hcr⟩, hBw'⟩ hK
      gi_wp2
      refine ⟨by simp, .inl ⟨_, _, rfl, run_takeDeferred hK, ?_⟩⟩
      have hc5 := cell_kept hcr (grownBy_putObj' _ D0 (.deferred none)) (fun r e => by cases e; exact ⟨_, hK, rfl⟩)
      refine ⟨.bool false, ?_, ?_⟩
      · simp [results, Try.f27, go_sem, hc5]
      · obtain ⟨y, hy, hyf⟩ := hex
        refine ⟨ret_bool ?_, hBw'.trans (belowK_b (w := w) (Nat.le_refl _) W' D0 _ _ (by omega) hK rfl rfl)⟩
        have e1 : (segsI a b c d e f g h).any (segIn r) = (sidesL ⟨a, c, fa, fc⟩ ⟨b, c, fb, fc⟩ ⟨b, d, fb, fd⟩ ⟨a, d, fa, fd⟩ ⟨e, g, fe, fg⟩ ⟨f, g, ff, fg⟩ ⟨f, h, ff, fh⟩ ⟨e, h, fe, fh⟩).any (fun y => withinB y.1.x y.1.y y.2.x y.2.y r) := rfl
        unfold clearI
        rw [e1, List.any_eq_true.2 ⟨y, hpre.subset hy, hyf⟩]
        simp
  case rstep =>
    clear hB0 a3 a4 a5 hc
    rintro l fr W i hl ⟨s7, s15, s16, s17, s18, s19, rfl, hB, g65, f0, f1, f2, f3, f4, f5⟩ hr hi
    obtain ⟨b0, b1, b2, b3, b4, b5, b6, rfl⟩ := list7 hl
    have sW := hB.size
    have m0 : ∀ o, W.cell? ⟨w.heap.size, o, none⟩ = (#[.int .i64 a, .int .i64 b, .int .i64 c, .int .i64 d] : Array Value)[o]? := fun o => (hB.cell (p := ⟨w.heap.size, o, none⟩) (by simp; omega)).trans (m0 o)
    have n0 : ∀ o, W.cell? ⟨w.heap.size + 1, o, none⟩ = (#[.int .i64 e, .int .i64 f, .int .i64 g, .int .i64 h] : Array Value)[o]? := fun o => (hB.cell (p := ⟨w.heap.size + 1, o, none⟩) (by simp; omega)).trans (n0 o)
    simp only [List.getD_cons_zero, List.getD_cons_succ] at g65 f0 f1 f2 f3 f4 f5
    rcases i with _ | _ | _ | _ | _ | _ | _ | i
    · refine wpOpIn_step rfl (fun K hK => ?_)
      have F := Go.Lib.hid (And.intro f1 (And.intro f2 (And.intro f3 (And.intro f4 f5))))
      clear f0 f1 f2 f3 f4 f5
      go_simp
      exact hK _ _ ⟨s7, _, s16, s17, s18, s19, rfl, hB, g65, fun _ => rfl, F.out.1, F.out.2.1, F.out.2.2.1, F.out.2.2.2.1, F.out.2.2.2.2⟩
    · refine wpOpIn_step rfl (fun K hK => ?_)
      obtain rfl := f0 hr
      have F := Go.Lib.hid (And.intro f0 (And.intro f2 (And.intro f3 (And.intro f4 f5))))
      clear f0 f1 f2 f3 f4 f5
      go_simp
      refine ⟨trivial, ?_⟩
      refine (callsIn_wide.2 (ring_any _ _ _ _ _)).mono ?_
      rintro _ W1 ⟨rfl, h1⟩
      exact hK _ _ ⟨s7, _, _, s17, s18, s19, rfl, hB.trans (h1.mono sW), g65, fun _ => rfl, fun _ => rfl, F.out.2.1, F.out.2.2.1, F.out.2.2.2.1, fun h5 => by
        obtain ⟨B, e1, e2, e3, cs, e4, e5, e6⟩ := F.out.2.2.2.2 h5
        exact ⟨B, e1, e2, Nat.lt_of_lt_of_le e3 h1.size, cs, e4, (h1.block B e3).trans e5, e6⟩⟩
    · refine wpOpIn_step rfl (fun K hK => ?_)
      have F := Go.Lib.hid (And.intro f0 (And.intro f1 (And.intro f3 (And.intro f4 f5))))
      clear f0 f1 f2 f3 f4 f5
      go_simp
      exact hK _ _ ⟨s7, s15, s16, _, s18, s19, rfl, hB, g65, F.out.1, F.out.2.1, fun _ => rfl, F.out.2.2.1, F.out.2.2.2.1, F.out.2.2.2.2⟩
    · refine wpOpIn_step rfl (fun K hK => ?_)
      obtain rfl := f2 (by simp [ringsReady] at hr; exact hr.2)
      have F := Go.Lib.hid (And.intro f0 (And.intro f1 (And.intro f2 (And.intro f4 f5))))
      clear f0 f1 f2 f3 f4 f5
      go_simp
      refine ⟨trivial, ?_⟩
      refine (callsIn_wide.2 (ring_any _ _ _ _ _)).mono ?_
      rintro _ W1 ⟨rfl, h1⟩
      exact hK _ _ ⟨s7, s15, s16, _, _, s19, rfl, hB.trans (h1.mono sW), g65, F.out.1, F.out.2.1, fun _ => rfl, fun _ => rfl, F.out.2.2.2.1, fun h5 => by
        obtain ⟨B, e1, e2, e3, cs, e4, e5, e6⟩ := F.out.2.2.2.2 h5
        exact ⟨B, e1, e2, Nat.lt_of_lt_of_le e3 h1.size, cs, e4, (h1.block B e3).trans e5, e6⟩⟩
    · refine wpOpIn_step rfl (fun K hK => ?_)
      obtain rfl := f1 (by simp [ringsReady] at hr; exact hr.1)
      obtain rfl := f3 (by simp [ringsReady] at hr; exact hr.2)
      have F := Go.Lib.hid (And.intro f0 (And.intro f1 (And.intro f2 (And.intro f3 f5))))
      clear f0 f1 f2 f3 f4 f5
      go_simp
      exact hK _ _ ⟨s7, s15, _, s17, _, _, rfl, hB, g65, F.out.1, fun _ => rfl, F.out.2.2.1, fun _ => rfl, fun _ => rfl, F.out.2.2.2.2⟩
    · refine wpOpIn_step rfl (fun K hK => ?_)
      have g6 : b6 = false := by simp at hi; subst hi; cases b6 <;> simp at g65 ⊢
      subst g6
      have F := Go.Lib.hid (And.intro f0 (And.intro f1 (And.intro f2 (And.intro f3 f4))))
      clear f0 f1 f2 f3 f4 f5
      go_simp
      exact hK _ _ ⟨_, s15, s16, s17, s18, s19, rfl, hB.alloc sW _, fun _ => rfl, F.out.1, F.out.2.1, F.out.2.2.1, F.out.2.2.2.1, F.out.2.2.2.2, fun _ => ⟨W.heap.size, rfl, sW, by simp, _, rfl, heap_alloc_new W _, fun h6 => by simp at h6⟩⟩
    · refine wpOpIn_step rfl (fun K hK => ?_)
      obtain rfl := f4 (by simp [ringsReady] at hr; exact hr.1)
      have g5 : b5 = true := by simp [ringsReady] at hr; exact hr.2
      obtain ⟨B, rfl, e2, e3, cs, e4, e5, e6⟩ := f5 g5
      have F := Go.Lib.hid (And.intro f0 (And.intro f1 (And.intro f2 (And.intro f3 f4))))
      clear f0 f1 f2 f3 f4 f5
      refine (if_pos (by rfl)).mpr ?_
      refine wpIn_store_row 83 (.tmp 7) (.tmp 19) rfl rfl B #[.int .i64 a, .int .i64 c, .int .i64 b, .int .i64 c, .int .i64 b, .int .i64 d, .int .i64 a, .int .i64 d, .int .i64 e, .int .i64 g, .int .i64 f, .int .i64 g, .int .i64 f, .int .i64 h, .int .i64 e, .int .i64 h] rfl rfl 83 cs e5 (by kernel_rfl) e4 (by simp [Value.oneCell']) ?_
      exact hK _ _ ⟨_, s15, s16, s17, s18, _, rfl, below_setRow hB e2 _, fun _ => g5, F.out.1, F.out.2.1, F.out.2.2.1, F.out.2.2.2.1, fun _ => rfl, fun _ => ⟨B, rfl, e2, by simpa using e3, _, rfl, setRow_heap W B cs _ _ _ e5, fun _ => rfl⟩⟩
    · simp [ringsReady] at hr
theorem Clear_no (a b c d e f g h r : Int) (w : World) (hc : canB a b c d e f g h r = false) :
    Calls Try.prog 27 #[.agg #[.int .i64 a, .int .i64 b, .int .i64 c, .int .i64 d], .agg #[.int .i64 e, .int .i64 f, .int .i64 g, .int .i64 h], .int .i64 r] w (Gives (.bool false) w) := by
  go_enter Try.func27, Try.ntmps27
  go_wp2_with (first | ((first | with_reducible refine wp_region_ext2 (by kernel_rfl) (by kernel_rfl) ?_ | with_reducible refine wp_region_ext (by kernel_rfl) (by kernel_rfl) ?_); (repeat (first | go_big_quiet_step ((first | (go_at_call 52; with_reducible exact Calls.ext (canMeet_any _ _ _ _ _ _ _ _ _ _)))) | quiet_step ((first | (go_at_call 52; with_reducible exact Calls.ext (canMeet_any _ _ _ _ _ _ _ _ _ _)))))); refine wpQuiet_nil ?_; rintro _ ⟨yr, rfl⟩; have syr := Ext.size yr; (repeat (first | rw [World.size_alloc] at syr | rw [World.size_setCell] at syr | rw [World.size_drew] at syr)); have : w.heap.size + 1 + 1 + 1 < yr.now.heap.size := (by omega); have : w.heap.size + 1 + 1 + 1 ≤ yr.now.heap.size := (by omega); have : w.heap.size + 1 + 1 + 1 < yr.now.heap.size + 1 + 1 := (by omega)) | (go_at_call 52; (first | with_reducible refine (Calls.giv2 (canMeet_any _ _ _ _ _ _ _ _ _ _)).mono ?_ | with_reducible refine (Calls.giv (canMeet_any _ _ _ _ _ _ _ _ _ _)).mono ?_); rintro _ _ ⟨y1, rfl, rfl⟩; have sy1 := Ext.size y1; (repeat (first | rw [World.size_alloc] at sy1 | rw [World.size_setCell] at sy1 | rw [World.size_drew] at sy1)); have : w.heap.size + 1 + 1 + 1 < y1.now.heap.size := (by omega); have : w.heap.size + 1 + 1 + 1 ≤ y1.now.heap.size := (by omega); have : w.heap.size + 1 + 1 + 1 < y1.now.heap.size + 1 + 1 := (by omega)))
  go_returns
  refine ⟨rfl, ?_⟩
  repeat' (first | (with_reducible exact Below.refl _ _) | (with_reducible assumption) | (with_reducible refine Ext.below _ ?_ ?_) | (with_reducible refine Below.on ?_ (by with_reducible assumption) ?_) | (with_reducible refine Below.alloc ?_ ?_ _) | (with_reducible refine Below.drew ?_) | (with_reducible refine Below.setCell ?_ ?_ _) | (with_reducible exact Nat.le_refl _) | omega | (simp; done) | (simp [go_sem]; done) | (simp at *; omega))
theorem Clear_any (a b c d e f g h r : Int) (w : World) :
    Calls Try.prog 27 #[.agg #[.int .i64 a, .int .i64 b, .int .i64 c, .int .i64 d], .agg #[.int .i64 e, .int .i64 f, .int .i64 g, .int .i64 h], .int .i64 r] w (Gives (.bool (clearI a b c d e f g h r)) w) := by
  cases hc : canB a b c d e f g h r
  · have e1 : clearI a b c d e f g h r = false := by unfold clearI; rw [hc]; rfl
    rw [e1]
    exact Clear_no a b c d e f g h r w hc
  · exact Clear_yes a b c d e f g h r w hc
end Go.Proofs.Ytagfhekjmkdjkaa

/- Pull of package force, the statements' own world, and awake. No condition. -/
import Derived.Test.YtlhihmfefipehaaFoO
import Derived.Test.YtlhihmfefipehaaFoK
namespace Go.Proofs.Ytlhihmfefipehaa
open Go.RowKit Go.Shelf
attribute [local go_sem] Option.isSome_some Ext.cell Ext.frozen Ext.lt Ext.le Ext.lt_add Ext.le_add Ext.ne Ext.ne' lt2 lt3 lt4 lt5 le2 le3 le4
set_option maxRecDepth 100000
set_option maxHeartbeats 4000000
def stepC (f : DriftR) (s : A4) (k : Nat) (r : A4) : A4 := if k = 0 then addA (addA (addA s r) (lightA f.ll f.lh r)) (heatA f.hl f.hh r) else addA s r
/-- What moves a body in an area: the gas, the pulls, the light and the heat. -/
def overC (l : List BodyR) (f : DriftR) (t a b c d : Int) : A4 := (List.range l.length).foldl (fun s k => stepC f s k (bodyPull (nthB l k) t a b c d)) (gasA f.gas)
def overV (l : List BodyR) (h : Int) (f : DriftR) (t a b c d : Int) : A4 := if askE l h (driftE f) t a b c d = 0 then overC l f t a b c d else ⟨0, 0, 0, 0⟩
theorem foldl_same {α β : Type} {f g : α → β → α} : ∀ (l : List β) (s : α), (∀ s, ∀ k ∈ l, f s k = g s k) → l.foldl f s = l.foldl g s
  | [], _, _ => rfl
  | b :: l, s, h => by
    rw [List.foldl_cons, List.foldl_cons, h s b (List.mem_cons_self ..)]
    exact foldl_same l _ (fun s k hk => h s k (List.mem_cons_of_mem _ hk))
theorem over_eq (l : List BodyR) (h : Int) (f : DriftR) (t a b c d : Int) : overR l h f t a b c d = overV l h f t a b c d := by
  unfold overR overV
  split
  · rename_i hE
    obtain ⟨ok, hd⟩ := ask_ok hE
    unfold overA overC pullsL
    rw [List.foldl_map]
    refine foldl_same _ _ (fun s k hk => ?_)
    have hk' : k < l.length := by simpa using hk
    have h8 : l.length ≤ 8 := (worldE_zero ok.world).2.2.1
    have hx := mkX_of (k := k) (pullA_ok (ok.pull k hk')) (by omega)
    change mkX k (bodyPull (nthB l k) t a b c d) = _ at hx
    rw [hx]
    rfl
  · rfl
theorem OverV_any (p : Option Addr) (cp : Nat) (l : List BodyR) (h : Int) (f : DriftR) (t a b c d : Int) (w : World) (hP : BodiesAt w p l) (hc : l.length ≤ cp) :
    Calls Try.prog 16 #[.agg #[.slice p l.length cp, .int .i64 h], .agg #[.int .i64 f.ll, .int .i64 f.lh, .int .i64 f.hl, .int .i64 f.hh, .int .i64 f.gas], .int .i64 t, .agg #[.int .i64 a, .int .i64 b, .int .i64 c, .int .i64 d]] w
      (Gives (.tuple #[(overV l h f t a b c d).val, .int .i64 (askE l h (driftE f) t a b c d)]) w) := by
  rw [← over_eq]; exact Over_any p cp l h f t a b c d w hP hc
theorem Pull_any (p : Option Addr) (cp : Nat) (l : List BodyR) (h : Int) (f : DriftR) (t x y : Int) (w : World) (hP : BodiesAt w p l) (hc : l.length ≤ cp) :
    Calls Try.prog 19 #[.agg #[.slice p l.length cp, .int .i64 h], .agg #[.int .i64 f.ll, .int .i64 f.lh, .int .i64 f.hl, .int .i64 f.hh, .int .i64 f.gas], .int .i64 t, .agg #[.int .i64 x, .int .i64 y]] w
      (Gives (.tuple #[(overV l h f t x x y y).val, .int .i64 (askE l h (driftE f) t x x y y)]) w) := by
  have cp1 := fun W => placeAlone_any x y W
  have co := fun (W : World) (z : Below w.heap.size w W) => OverV_any p cp l h f t x x y y W (hP.on z) hc
  generalize askE l h (driftE f) t x x y y = e at *
  unfold A4.val at *
  generalize overV l h f t x x y y = q at *
  obtain ⟨ll, lh, hl, hh, g⟩ := f
  obtain ⟨q1, q2, q3, q4⟩ := q
  simp only at *
  clear hP hc
  generalize l.length = n at *
  go_enter Try.func19, Try.ntmps19
  go_upto_region 1 with (first | ((first | with_reducible refine wrx2 ?_ | with_reducible refine wrx ?_); (repeat (first | go_big_quiet_step ((first | fail)) | quiet_step ((first | fail)))); refine wpQuiet_nil ?_; rintro _ ⟨yr, rfl⟩; have syr := Ext.size yr; (repeat (first | rw [World.size_alloc] at syr | rw [World.size_setCell] at syr | rw [World.size_drew] at syr))))
  (first | with_reducible refine wp_region_ext2_heads 8 (by kernel_rfl) (by kernel_rfl) ?_ | with_reducible refine wp_region_ext_heads 8 (by kernel_rfl) (by kernel_rfl) ?_); simp only [List.take_succ_cons, List.take_zero, List.length_cons, List.length_nil, Nat.reduceAdd, Nat.reduceSub]; (repeat (first | go_big_quiet_step ((first | (go_at_call 50; with_reducible exact Calls.ext (cp1 _)) | (go_at_call 16; with_reducible exact Calls.ext (co _ bcl)))) | quiet_step ((first | (go_at_call 50; with_reducible exact Calls.ext (cp1 _)) | (go_at_call 16; with_reducible exact Calls.ext (co _ bcl)))))); refine wpQuiet_nil ?_; rintro _ ⟨yr, rfl⟩; have syr := Ext.size yr; (repeat (first | rw [World.size_alloc] at syr | rw [World.size_setCell] at syr | rw [World.size_drew] at syr)); (refine wpAny_ready (rs := [8]) (by kernel_rfl) (by simp) ?_; refine AllReady.cons rfl (fun K hK => ?_) AllReady.nil; go_simp; refine hK _ _ ?_; clear hK K); (refine wpAny_ready (rs := [9]) (by kernel_rfl) (by simp) ?_; refine AllReady.cons rfl (fun K hK => ?_) AllReady.nil; go_simp; refine hK _ _ ?_; clear hK K); refine wpAny_done (by kernel_rfl) ?_ _
  go_wp2_with (first | ((first | with_reducible refine wrx2 ?_ | with_reducible refine wrx ?_); (repeat (first | go_big_quiet_step ((first | fail)) | quiet_step ((first | fail)))); refine wpQuiet_nil ?_; rintro _ ⟨yr, rfl⟩; have syr := Ext.size yr; (repeat (first | rw [World.size_alloc] at syr | rw [World.size_setCell] at syr | rw [World.size_drew] at syr))))
  refine bodyPost_ret (v := .tuple #[.agg #[.int .i64 q1, .int .i64 q2, .int .i64 q3, .int .i64 q4], .int .i64 e]) (by simp (maxDischargeDepth := 9) [results, Try.results19, go_sem, *]) rfl ?_
  refine ⟨rfl, ?_⟩
  repeat' (first | (with_reducible exact Below.refl _ _) | (with_reducible assumption) | (with_reducible refine Ext.below _ ?_ ?_) | (with_reducible refine Below.on ?_ (by with_reducible assumption) ?_) | (with_reducible refine Below.alloc ?_ ?_ _) | (with_reducible refine Below.drew ?_) | (with_reducible refine Below.setCell ?_ ?_ _) | (with_reducible exact Nat.le_refl _) | omega | (simp; done) | (simp [go_sem]; done) | (simp at *; omega))
/-- The bodies of the chapter's examples. -/
def shownL (t1 t2 : Option Addr) : List BodyR := [⟨1000000, 10, t1, 1, [⟨0, 0⟩]⟩, ⟨10000, 2, t2, 2, [⟨100, 0⟩, ⟨0, 100⟩]⟩]
theorem fshown_raw (w : World) : Calls Try.prog 11 #[] w fun e w' => e = .returned (.agg #[.slice (some ⟨w.heap.size + 1 + 1 + 1, 0, none⟩) 2 2, .int .i64 1]) ∧ w' = ((((w.alloc (.cells #[.slice (some ⟨w.heap.size + 1 + 1 + 1, 0, none⟩) 2 2, .int .i64 1] 25)).alloc (.cells #[.int .i64 0, .int .i64 0] 43)).alloc (.cells #[.int .i64 100, .int .i64 0, .int .i64 0, .int .i64 100] 43)).alloc (.cells #[.int .i64 1000000, .int .i64 10, .slice (some ⟨w.heap.size + 1, 0, none⟩) 1 1, .int .i64 10000, .int .i64 2, .slice (some ⟨w.heap.size + 1 + 1, 0, none⟩) 2 2] 52)) := by
  go_enter Try.func11, Try.ntmps11
  go_wp2_with (first | ((first | with_reducible refine wrx2 ?_ | with_reducible refine wrx ?_); (repeat (first | go_big_quiet_step ((first | fail)) | quiet_step ((first | fail)))); refine wpQuiet_nil ?_; rintro _ ⟨yr, rfl⟩; have syr := Ext.size yr; (repeat (first | rw [World.size_alloc] at syr | rw [World.size_setCell] at syr | rw [World.size_drew] at syr))))
  go_returns
  exact ⟨rfl, rfl⟩
theorem fshown_any (w : World) : Calls Try.prog 11 #[] w fun e w' => ∃ (bp t1 t2 : Option Addr), e = .returned (.agg #[.slice bp 2 2, .int .i64 1]) ∧ Below w.heap.size w w' ∧ BodiesAt w' bp (shownL t1 t2) := by
  refine (fshown_raw w).mono ?_
  rintro e w' ⟨rfl, hW⟩
  have hB : Below w.heap.size w w' := by rw [hW]; repeat' (first | (with_reducible exact Below.refl _ _) | (with_reducible assumption) | (with_reducible refine Ext.below _ ?_ ?_) | (with_reducible refine Below.on ?_ (by with_reducible assumption) ?_) | (with_reducible refine Below.alloc ?_ ?_ _) | (with_reducible refine Below.drew ?_) | (with_reducible refine Below.setCell ?_ ?_ _) | (with_reducible exact Nat.le_refl _) | omega | (simp; done) | (simp [go_sem]; done) | (simp at *; omega))
  refine ⟨some ⟨w.heap.size + 1 + 1 + 1, 0, none⟩, some ⟨w.heap.size + 1, 0, none⟩, some ⟨w.heap.size + 1 + 1, 0, none⟩, rfl, hB, ?_⟩
  have hs : w'.heap.size = w.heap.size + 4 := by rw [hW]; simp only [World.size_alloc]
  intro j hj
  rcases (show j = 0 ∨ j = 1 by simp only [shownL, List.length_cons, List.length_nil] at hj; omega) with rfl | rfl
  · refine ⟨?_, _, _, rfl, by omega, by rw [hW]; simp [go_sem, shownL], by rw [hW]; simp [go_sem, shownL], by rw [hW]; simp [go_sem, shownL]⟩
    intro k hk
    obtain rfl : k = 0 := by simp [shownL] at hk; omega
    exact ⟨_, _, rfl, by omega, by rw [hW]; simp [go_sem, shownL], by rw [hW]; simp [go_sem, shownL]⟩
  · refine ⟨?_, _, _, rfl, by omega, by rw [hW]; simp [go_sem, shownL], by rw [hW]; simp [go_sem, shownL], by rw [hW]; simp [go_sem, shownL]⟩
    intro k hk
    rcases (show k = 0 ∨ k = 1 by simp [shownL] at hk; omega) with rfl | rfl
    · exact ⟨_, _, rfl, by omega, by rw [hW]; simp [go_sem, shownL], by rw [hW]; simp [go_sem, shownL]⟩
    · exact ⟨_, _, rfl, by omega, by rw [hW]; simp [go_sem, shownL], by rw [hW]; simp [go_sem, shownL]⟩
theorem aw_one (bp t1 t2 : Option Addr) (w : World) (h : BodiesAt w bp (shownL t1 t2)) : Calls Try.prog 15 #[.agg #[.slice bp 2 2, .int .i64 1], .int .i64 0, .int .i64 0, .agg #[.int .i64 10, .int .i64 10, .int .i64 10, .int .i64 10]] w (Gives (.tuple #[.agg #[.int .i64 (-3572), .int .i64 (-3333), .int .i64 (-3572), .int .i64 (-3333)], .int .i64 0]) w) := by
  have e1 : oneA (shownL t1 t2) 1 0 0 10 10 10 10 = ⟨-3572, -3333, -3572, -3333⟩ := by kernel_rfl
  have e2 : oneE (shownL t1 t2) 1 0 0 10 10 10 10 = 0 := by kernel_rfl
  have := One_any bp 2 (shownL t1 t2) 1 0 0 10 10 10 10 w h (by simp [shownL])
  rw [e1, e2] at this
  exact this
theorem aw_pull (bp t1 t2 : Option Addr) (w : World) (h : BodiesAt w bp (shownL t1 t2)) : Calls Try.prog 19 #[.agg #[.slice bp 2 2, .int .i64 1], .agg #[.int .i64 0, .int .i64 0, .int .i64 0, .int .i64 0, .int .i64 0], .int .i64 1, .agg #[.int .i64 50, .int .i64 0]] w (Gives (.tuple #[.agg #[.int .i64 (-401), .int .i64 (-400), .int .i64 0, .int .i64 1], .int .i64 0]) w) := by
  have e1 : overV (shownL t1 t2) 1 zeroD 1 50 50 0 0 = ⟨-401, -400, 0, 1⟩ := by kernel_rfl
  have e2 : askE (shownL t1 t2) 1 (driftE zeroD) 1 50 50 0 0 = 0 := by kernel_rfl
  have := Pull_any bp 2 (shownL t1 t2) 1 zeroD 1 50 0 w h (by simp [shownL])
  rw [e1, e2] at this
  exact this
theorem fawake_any (w : World) : Calls Try.prog 10 #[] w (Gives (.bool true) w) := by
  have ca := fun W => fat_any 10 10 W
  have cr1 := fun W => farea_any (-3572) (-3333) (-3572) (-3333) W
  have cr2 := fun W => farea_any (-401) (-400) 0 1 W
  go_enter Try.func10, Try.ntmps10
  go_upto_region 3 with (first | ((first | with_reducible refine wrx2 ?_ | with_reducible refine wrx ?_); (repeat (first | go_big_quiet_step ((first | (go_at_call 13; with_reducible exact Calls.ext (ca _)) | (go_at_call 15; with_reducible exact Calls.ext (aw_one _ _ _ _ (BodiesAt.ext (by assumption) _))) | (go_at_call 19; with_reducible exact Calls.ext (aw_pull _ _ _ _ (by assumption))))) | quiet_step ((first | (go_at_call 13; with_reducible exact Calls.ext (ca _)) | (go_at_call 15; with_reducible exact Calls.ext (aw_one _ _ _ _ (BodiesAt.ext (by assumption) _))) | (go_at_call 19; with_reducible exact Calls.ext (aw_pull _ _ _ _ (by assumption))))))); refine wpQuiet_nil ?_; rintro _ ⟨yr, rfl⟩; have syr := Ext.size yr; (repeat (first | rw [World.size_alloc] at syr | rw [World.size_setCell] at syr | rw [World.size_drew] at syr))) | (go_at_call 13; (first | with_reducible refine (Calls.giv2 (ca _)).mono ?_ | with_reducible refine (Calls.giv (ca _)).mono ?_); rintro _ _ ⟨y1, rfl, rfl⟩; have sy1 := Ext.size y1; (repeat (first | rw [World.size_alloc] at sy1 | rw [World.size_setCell] at sy1 | rw [World.size_drew] at sy1))) | (go_at_call 15; (first | with_reducible refine (Calls.giv2 (aw_one _ _ _ _ (BodiesAt.ext (by assumption) _))).mono ?_ | with_reducible refine (Calls.giv (aw_one _ _ _ _ (BodiesAt.ext (by assumption) _))).mono ?_); rintro _ _ ⟨y2, rfl, rfl⟩; have sy2 := Ext.size y2; (repeat (first | rw [World.size_alloc] at sy2 | rw [World.size_setCell] at sy2 | rw [World.size_drew] at sy2))) | (go_at_call 19; (first | with_reducible refine (Calls.giv2 (aw_pull _ _ _ _ (by assumption))).mono ?_ | with_reducible refine (Calls.giv (aw_pull _ _ _ _ (by assumption))).mono ?_); rintro _ _ ⟨y3, rfl, rfl⟩; have sy3 := Ext.size y3; (repeat (first | rw [World.size_alloc] at sy3 | rw [World.size_setCell] at sy3 | rw [World.size_drew] at sy3))) | (go_at_call 11; refine (fshown_any _).mono ?_; rintro _ W1 ⟨bp, t1, t2, rfl, hbW, hAt⟩; have hsW := hbW.size; (repeat (first | rw [World.size_alloc] at hsW | rw [World.size_setCell] at hsW | rw [World.size_drew] at hsW))))
  refine wp_namedQ (fun X hW => ?_)
  have s1 := y2.size
  have s2 := y3.size
  have l12 : y2.now.heap.size < y3.now.heap.size := by omega
  have hpp : ∀ o, X.cell? ⟨y2.now.heap.size, o, none⟩ = (#[.int .i64 (-3572), .int .i64 (-3333), .int .i64 (-3572), .int .i64 (-3333)] : Array Value)[o]? := fun o => by
    rw [← hW]
    refine (((Below.refl y3.now.heap.size y3.now).alloc (Nat.le_refl _) _).cell (p := ⟨y2.now.heap.size, o, none⟩) l12).trans ((y3.cell (by omega)).trans ((hbW.cell (p := ⟨y2.now.heap.size, o, none⟩) (by simp)).trans ?_))
    exact cell_of_row _ _ o _ _ _ (heap_alloc_new _ _)
  have p0 := (hpp 0).trans rfl
  have p1 := (hpp 1).trans rfl
  have p2 := (hpp 2).trans rfl
  have p3 := (hpp 3).trans rfl
  have hqq : ∀ o, X.cell? ⟨y3.now.heap.size, o, none⟩ = (#[.int .i64 (-401), .int .i64 (-400), .int .i64 0, .int .i64 1] : Array Value)[o]? := fun o => by
    rw [← hW]
    exact cell_of_row _ _ o _ _ _ (heap_alloc_new _ _)
  have q0 := (hqq 0).trans rfl
  have q1 := (hqq 1).trans rfl
  have q2 := (hqq 2).trans rfl
  have q3 := (hqq 3).trans rfl
  simp only [List.getElem?_toArray, List.getElem?_cons_zero, List.getElem?_cons_succ] at p0 p1 p2 p3 q0 q1 q2 q3
  have l1 : y2.now.heap.size < X.heap.size := by rw [← hW]; simp only [World.size_alloc]; omega
  have l2 : y3.now.heap.size < X.heap.size := by rw [← hW]; simp
  have hB : Below w.heap.size w X := by rw [← hW]; repeat' (first | (with_reducible exact Below.refl _ _) | (with_reducible assumption) | (with_reducible refine Ext.below _ ?_ ?_) | (with_reducible refine Below.on ?_ (by with_reducible assumption) ?_) | (with_reducible refine Below.alloc ?_ ?_ _) | (with_reducible refine Below.drew ?_) | (with_reducible refine Below.setCell ?_ ?_ _) | (with_reducible exact Nat.le_refl _) | omega | (simp; done) | (simp [go_sem]; done) | (simp at *; omega))
  clear hW hpp hqq
  generalize y2.now.heap.size = PB at *
  generalize y3.now.heap.size = QB at *
  go_wp2_with (first | ((first | with_reducible refine wrx2 ?_ | with_reducible refine wrx ?_); (repeat (first | go_big_quiet_step ((first | (go_at_call 14; with_reducible exact Calls.ext (cr1 _)) | (go_at_call 14; with_reducible exact Calls.ext (cr2 _)))) | quiet_step ((first | (go_at_call 14; with_reducible exact Calls.ext (cr1 _)) | (go_at_call 14; with_reducible exact Calls.ext (cr2 _)))))); refine wpQuiet_nil ?_; rintro _ ⟨yr, rfl⟩; have syr := Ext.size yr; (repeat (first | rw [World.size_alloc] at syr | rw [World.size_setCell] at syr | rw [World.size_drew] at syr))) | (go_at_call 14; (first | with_reducible refine (Calls.giv2 (cr1 _)).mono ?_ | with_reducible refine (Calls.giv (cr1 _)).mono ?_); rintro _ _ ⟨y1, rfl, rfl⟩; have sy1 := Ext.size y1; (repeat (first | rw [World.size_alloc] at sy1 | rw [World.size_setCell] at sy1 | rw [World.size_drew] at sy1))) | (go_at_call 14; (first | with_reducible refine (Calls.giv2 (cr2 _)).mono ?_ | with_reducible refine (Calls.giv (cr2 _)).mono ?_); rintro _ _ ⟨y2, rfl, rfl⟩; have sy2 := Ext.size y2; (repeat (first | rw [World.size_alloc] at sy2 | rw [World.size_setCell] at sy2 | rw [World.size_drew] at sy2))))
  go_returns
  refine ⟨rfl, ?_⟩
  repeat' (first | (with_reducible exact Below.refl _ _) | (with_reducible assumption) | (with_reducible refine Ext.below _ ?_ ?_) | (with_reducible refine Below.on ?_ (by with_reducible assumption) ?_) | (with_reducible refine Below.alloc ?_ ?_ _) | (with_reducible refine Below.drew ?_) | (with_reducible refine Below.setCell ?_ ?_ _) | (with_reducible exact Nat.le_refl _) | omega | (simp; done) | (simp [go_sem]; done) | (simp at *; omega))
end Go.Proofs.Ytlhihmfefipehaa

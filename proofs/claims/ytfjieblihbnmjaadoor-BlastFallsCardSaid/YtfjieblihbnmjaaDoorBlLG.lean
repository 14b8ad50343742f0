/- SameBlows; boxes that are written whole, of any size. No condition. The reference's Blows, for any air, rock and fall. Condition: the air in memory, of at most 1000 layers. Contracts of lands: CheckLand, isCell, sum, people, run. Condition: the land stands in memory. -/
import Derived.Test.YtfjieblihbnmjaaDoorBlN7G
import Derived.Test.YtfjieblihbnmjaaDoorBlN8
import Derived.Test.YtfjieblihbnmjaaDoorBlE
namespace Go.Proofs.YtfjieblihbnmjaaDoor
open Go.RowKit Go.Shelf
attribute [local go_sem] Option.isSome_some Ext.cell Ext.frozen Ext.lt Ext.le Ext.lt_add Ext.le_add Ext.ne Ext.ne' lt2 lt3 lt4 lt5 le2 le3 le4
/-- A box whose cells are written one behind the other. -/
def setL (W : World) (B : Nat) : Nat → List Value → World
  | _, [] => W
  | o, v :: vs => setL (W.setCell ⟨B, o, none⟩ v) B (o + 1) vs
theorem setL_heap : ∀ (vs : List Value) (W : World) (B o : Nat) (done rest : List Value) (T : TypeId) (f : Nat × Nat), W.heap[B]? = some (.cells (done ++ rest).toArray T f) → done.length = o → rest.length = vs.length → (setL W B o vs).heap[B]? = some (.cells (done ++ vs).toArray T f)
  | [], _, B, _, done, rest, T, f, h, _, hl => by
    obtain rfl := List.length_eq_zero_iff.1 hl
    exact h
  | v :: vs, W, B, o, done, rest, T, f, h, ho, hl => by
    match rest, hl with
    | r :: rest, hl =>
      unfold setL
      have h1 := heap_setCell (o := o) h v
      have h2 : (done ++ r :: rest).toArray.setIfInBounds o v = ((done ++ [v]) ++ rest).toArray := by
        apply Array.ext'
        simp only [Array.toList_setIfInBounds]
        rw [← ho]
        simp
      rw [h2] at h1
      have := setL_heap vs (W.setCell ⟨B, o, none⟩ v) B (o + 1) (done ++ [v]) rest T f h1 (by simp [ho]) (by simpa using hl)
      simpa using this
theorem setL_all {vs : List Value} {W : World} {B : Nat} {cs : Array Value} {T : TypeId} {f : Nat × Nat} (h : W.heap[B]? = some (.cells cs T f)) (hl : cs.size = vs.length) : (setL W B 0 vs).heap[B]? = some (.cells vs.toArray T f) := by
  have := setL_heap vs W B 0 [] cs.toList T f (by simpa using h) rfl (by simpa using hl)
  simpa using this
theorem setL_other {B k : Nat} (hk : k ≠ B) : ∀ (vs : List Value) (W : World) (o : Nat), (setL W B o vs).heap[k]? = W.heap[k]?
  | [], _, _ => rfl
  | v :: vs, _, _ => (setL_other hk vs _ _).trans (heap_setCell_ne hk v)
theorem setL_below {n B : Nat} {w : World} (hn : n ≤ B) : ∀ (vs : List Value) (W : World) (o : Nat), Below n w W → Below n w (setL W B o vs)
  | [], _, _, h => h
  | v :: vs, _, o, h => setL_below hn vs _ _ (h.setCell (p := ⟨B, o, none⟩) hn v)
theorem setL_lim {B : Nat} (hB : 0 < B) : ∀ (vs : List Value) (W : World) (o : Nat), LimAt W → LimAt (setL W B o vs)
  | [], _, _, h => h
  | v :: vs, _, _, h => setL_lim hB vs _ _ (h.set hB v)
structure V3 where
  a : Int
  b : Int
  c : Int
theorem V3.ext' {x y : V3} (h1 : x.a = y.a) (h2 : x.b = y.b) (h3 : x.c = y.c) : x = y := by cases x; cases y; simp at *; exact ⟨h1, h2, h3⟩
def V3At (W : World) (p : Option Addr) (l : List V3) : Prop := ∀ j (h : j < l.length), ∃ B o, p = some ⟨B, o, none⟩ ∧ B < W.heap.size ∧ W.cell? ⟨B, o + j * 3, none⟩ = some (.int .i64 l[j].a) ∧ W.cell? ⟨B, o + j * 3 + 1, none⟩ = some (.int .i64 l[j].b) ∧ W.cell? ⟨B, o + j * 3 + 2, none⟩ = some (.int .i64 l[j].c)
theorem V3At.on {W W' : World} {p : Option Addr} {l : List V3} (h : V3At W p l) (b : Below W.heap.size W W') : V3At W' p l := fun j hj => by
  obtain ⟨B, o, rfl, hB, h1, h2, h3⟩ := h j hj
  exact ⟨B, o, rfl, Nat.lt_of_lt_of_le hB b.size, (b.cell (p := ⟨B, o + j * 3, none⟩) hB).trans h1, (b.cell (p := ⟨B, o + j * 3 + 1, none⟩) hB).trans h2, (b.cell (p := ⟨B, o + j * 3 + 2, none⟩) hB).trans h3⟩
def v3s (l : List BlowR) : List V3 := l.map fun x => ⟨x.n, x.lo, x.hi⟩
theorem v3_of {W : World} {base : Nat} {e : TypeId} {v : Value} {l : List BlowR} (h : W.ownsRow base e 3 v l.length (rowsB l)) : ∃ p c, v = .slice p (v3s l).length c ∧ V3At W p (v3s l) := by
  obtain ⟨p, c, rfl, hc⟩ := owns_at (fun x : BlowR => [.int .i64 x.n, .int .i64 x.lo, .int .i64 x.hi]) 3 (fun _ => rfl) l h
  refine ⟨p, c, by simp [v3s], fun j hj => ?_⟩
  have hj2 : j < l.length := by simpa [v3s] using hj
  obtain ⟨B, o, hp, hb, hB, hv⟩ := hc j hj2
  exact ⟨B, o, hp, hB, by simpa [v3s] using hv 0 _ rfl, by simpa [v3s] using hv 1 _ rfl, by simpa [v3s] using hv 2 _ rfl⟩
set_option maxRecDepth 100000 in
set_option maxHeartbeats 8000000 in
theorem SameBlows_eq (p q : Option Addr) (c d : Nat) (l : List V3) (w : World) (hp : V3At w p l) (hq : V3At w q l) (hn : l.length ≤ 1000) : Calls Tryd.prog 16 #[.slice p l.length c, .slice q l.length d] w (Gives (.bool true) w) := by
  replace hp := Go.Lib.hid hp
  replace hq := Go.Lib.hid hq
  go_enter Tryd.func16, Tryd.ntmps16
  go_wp2_with (first | ((first | with_reducible refine wp_region_ext2 (by kernel_rfl) (by kernel_rfl) ?_ | with_reducible refine wp_region_ext (by kernel_rfl) (by kernel_rfl) ?_); (repeat (first | go_big_quiet_step ((first | fail)) | quiet_step ((first | fail)))); refine wpQuiet_nil ?_; rintro _ ⟨yr, rfl⟩; have syr := Ext.size yr; (repeat (first | rw [World.size_alloc] at syr | rw [World.size_setCell] at syr | rw [World.size_drew] at syr))))
  go_loopw [5] (fun s W => ∃ (i : Nat) (x : Ext w), s = .int .i64 i ∧ W = x.now ∧ Hid (i ≤ l.length)) (fun s _ => l.length - (intOf s).toNat)
  case atStart => exact ⟨0, ⟨w, Below.refl _ _⟩, rfl, rfl, Go.Lib.hid (Nat.zero_le _)⟩
  case round =>
    obtain ⟨i, x, rfl, rfl, hi⟩ := hrel
    have xs := x.size
    by_cases hlt : i < l.length
    · have hlt2 : (i : Int) < l.length := by omega
      obtain ⟨B, o, rfl, hB, c1, c2, c3⟩ := hp.out i hlt
      obtain ⟨B', o', rfl, hB', d1, d2, d3⟩ := hq.out i hlt
      have hi1000 : i ≤ 1000 := by omega
      clear hi
      generalize l[i].a = t1 at *
      generalize l[i].b = t2 at *
      generalize l[i].c = t3 at *
      go_wp2_with (first | ((first | with_reducible refine wp_region_ext2 (by kernel_rfl) (by kernel_rfl) ?_ | with_reducible refine wp_region_ext (by kernel_rfl) (by kernel_rfl) ?_); (repeat (first | go_big_quiet_step ((first | fail)) | quiet_step ((first | fail)))); refine wpQuiet_nil ?_; rintro _ ⟨yr, rfl⟩; have syr := Ext.size yr; (repeat (first | rw [World.size_alloc] at syr | rw [World.size_setCell] at syr | rw [World.size_drew] at syr)); have : B < yr.now.heap.size := (by omega); have : B ≤ yr.now.heap.size := (by omega); have : B < yr.now.heap.size + 1 + 1 := (by omega); have : B' < yr.now.heap.size := (by omega); have : B' ≤ yr.now.heap.size := (by omega); have : B' < yr.now.heap.size + 1 + 1 := (by omega)))
      refine ⟨⟨i + 1, ⟨yr.now, ?_⟩, by simp, rfl, Go.Lib.hid (by omega)⟩, by simp [intOf]; omega⟩
      repeat' (first | (with_reducible exact Below.refl _ _) | (with_reducible assumption) | (with_reducible refine Ext.below _ ?_ ?_) | (with_reducible refine Below.on ?_ (by with_reducible assumption) ?_) | (with_reducible refine Below.alloc ?_ ?_ _) | (with_reducible refine Below.drew ?_) | (with_reducible refine Below.setCell ?_ ?_ _) | (with_reducible exact Nat.le_refl _) | omega | (simp; done) | (simp [go_sem]; done) | (simp at *; omega))
    · have hge : ¬ (i : Int) < l.length := by omega
      clear hi
      go_wp2_with (first | ((first | with_reducible refine wp_region_ext2 (by kernel_rfl) (by kernel_rfl) ?_ | with_reducible refine wp_region_ext (by kernel_rfl) (by kernel_rfl) ?_); (repeat (first | go_big_quiet_step ((first | fail)) | quiet_step ((first | fail)))); refine wpQuiet_nil ?_; rintro _ ⟨yr, rfl⟩; have syr := Ext.size yr; (repeat (first | rw [World.size_alloc] at syr | rw [World.size_setCell] at syr | rw [World.size_drew] at syr))))
      go_returns
      refine ⟨rfl, ?_⟩
      repeat' (first | (with_reducible exact Below.refl _ _) | (with_reducible assumption) | (with_reducible refine Ext.below _ ?_ ?_) | (with_reducible refine Below.on ?_ (by with_reducible assumption) ?_) | (with_reducible refine Below.alloc ?_ ?_ _) | (with_reducible refine Below.drew ?_) | (with_reducible refine Below.setCell ?_ ?_ _) | (with_reducible exact Nat.le_refl _) | omega | (simp; done) | (simp [go_sem]; done) | (simp at *; omega))
end Go.Proofs.YtfjieblihbnmjaaDoor
namespace Go.Proofs.YtfjieblihbnmjaaDoor
open Go.RowKit Go.Shelf
attribute [local go_sem] Option.isSome_some Ext.cell Ext.frozen Ext.lt Ext.le Ext.lt_add Ext.le_add Ext.ne Ext.ne' lt2 lt3 lt4 lt5 le2 le3 le4
set_option maxRecDepth 100000 in
set_option maxHeartbeats 8000000 in
theorem rBlows_any (p : Option Addr) (cap : Nat) (l : List V2) (k : RockR) (f : FallR) (w : World) (hP : VecsAt w p l) (hn : l.length ≤ 1000) :
    Calls Tryd.prog 15 #[.slice p l.length cap, k.val, f.val] w (BlowsAny w (blowsA l k f) (blowsE l k f)) := by
  unfold blowsA
  by_cases ha : airE l = 0
  · have hE : blowsE l k f = rockE k f := by unfold blowsE; rw [if_neg (by simpa using ha)]
    rw [hE]
    clear hE
    by_cases hr : rockE k f = 0
    · rw [if_pos hr]
      refine (rBlows_ok p cap l k f w hP ha hr).mono ?_
      rintro e w' ⟨v, rfl, h1, h2⟩
      exact ⟨v, by rw [hr], h1, h2⟩
    · rw [if_neg hr]
      refine Calls.mono ?_ (fun e w' h => blowsAny_nil h)
      have ca := fun (W : World) (y : Below w.heap.size w W) => rCheckAir_any p cap l W (hP.on y) hn
      rw [ha] at ca
      have cr := fun (W : World) => rCheckRock_any k f W
      generalize rockE k f = R at *
      unfold RockR.val FallR.val at *
      go_enter Tryd.func15, Tryd.ntmps15
      go_wp2_with (first | ((first | with_reducible refine wp_region_ext2 (by kernel_rfl) (by kernel_rfl) ?_ | with_reducible refine wp_region_ext (by kernel_rfl) (by kernel_rfl) ?_); (repeat (first | go_big_quiet_step ((first | (go_at_call 50; with_reducible exact Calls.ext (ca _ (by repeat' (first | (with_reducible exact Below.refl _ _) | (with_reducible assumption) | (with_reducible refine Ext.below _ ?_ ?_) | (with_reducible refine Below.on ?_ (by with_reducible assumption) ?_) | (with_reducible refine Below.alloc ?_ ?_ _) | (with_reducible refine Below.drew ?_) | (with_reducible refine Below.setCell ?_ ?_ _) | (with_reducible exact Nat.le_refl _) | omega | (simp; done) | (simp [go_sem]; done) | (simp at *; omega))))) | (go_at_call 57; with_reducible exact Calls.ext (cr _)))) | quiet_step ((first | (go_at_call 50; with_reducible exact Calls.ext (ca _ (by repeat' (first | (with_reducible exact Below.refl _ _) | (with_reducible assumption) | (with_reducible refine Ext.below _ ?_ ?_) | (with_reducible refine Below.on ?_ (by with_reducible assumption) ?_) | (with_reducible refine Below.alloc ?_ ?_ _) | (with_reducible refine Below.drew ?_) | (with_reducible refine Below.setCell ?_ ?_ _) | (with_reducible exact Nat.le_refl _) | omega | (simp; done) | (simp [go_sem]; done) | (simp at *; omega))))) | (go_at_call 57; with_reducible exact Calls.ext (cr _)))))); refine wpQuiet_nil ?_; rintro _ ⟨yr, rfl⟩; have syr := Ext.size yr; (repeat (first | rw [World.size_alloc] at syr | rw [World.size_setCell] at syr | rw [World.size_drew] at syr))) | (go_at_call 50; (first | with_reducible refine (Calls.giv2 (ca _ (by repeat' (first | (with_reducible exact Below.refl _ _) | (with_reducible assumption) | (with_reducible refine Ext.below _ ?_ ?_) | (with_reducible refine Below.on ?_ (by with_reducible assumption) ?_) | (with_reducible refine Below.alloc ?_ ?_ _) | (with_reducible refine Below.drew ?_) | (with_reducible refine Below.setCell ?_ ?_ _) | (with_reducible exact Nat.le_refl _) | omega | (simp; done) | (simp [go_sem]; done) | (simp at *; omega))))).mono ?_ | with_reducible refine (Calls.giv (ca _ (by repeat' (first | (with_reducible exact Below.refl _ _) | (with_reducible assumption) | (with_reducible refine Ext.below _ ?_ ?_) | (with_reducible refine Below.on ?_ (by with_reducible assumption) ?_) | (with_reducible refine Below.alloc ?_ ?_ _) | (with_reducible refine Below.drew ?_) | (with_reducible refine Below.setCell ?_ ?_ _) | (with_reducible exact Nat.le_refl _) | omega | (simp; done) | (simp [go_sem]; done) | (simp at *; omega))))).mono ?_); rintro _ _ ⟨y1, rfl, rfl⟩; have sy1 := Ext.size y1; (repeat (first | rw [World.size_alloc] at sy1 | rw [World.size_setCell] at sy1 | rw [World.size_drew] at sy1))) | (go_at_call 57; (first | with_reducible refine (Calls.giv2 (cr _)).mono ?_ | with_reducible refine (Calls.giv (cr _)).mono ?_); rintro _ _ ⟨y2, rfl, rfl⟩; have sy2 := Ext.size y2; (repeat (first | rw [World.size_alloc] at sy2 | rw [World.size_setCell] at sy2 | rw [World.size_drew] at sy2))))
      all_goals go_returns
      all_goals refine ⟨rfl, ?_⟩
      repeat' (first | (with_reducible exact Below.refl _ _) | (with_reducible assumption) | (with_reducible refine Ext.below _ ?_ ?_) | (with_reducible refine Below.on ?_ (by with_reducible assumption) ?_) | (with_reducible refine Below.alloc ?_ ?_ _) | (with_reducible refine Below.drew ?_) | (with_reducible refine Below.setCell ?_ ?_ _) | (with_reducible exact Nat.le_refl _) | omega | (simp; done) | (simp [go_sem]; done) | (simp at *; omega))
  · have hE : blowsE l k f = airE l := by unfold blowsE; rw [if_pos ha]
    rw [hE, if_neg ha]
    clear hE
    refine Calls.mono ?_ (fun e w' h => blowsAny_nil h)
    have ca := fun (W : World) (y : Below w.heap.size w W) => rCheckAir_any p cap l W (hP.on y) hn
    generalize airE l = E at *
    unfold RockR.val FallR.val at *
    go_enter Tryd.func15, Tryd.ntmps15
    go_wp2_with (first | ((first | with_reducible refine wp_region_ext2 (by kernel_rfl) (by kernel_rfl) ?_ | with_reducible refine wp_region_ext (by kernel_rfl) (by kernel_rfl) ?_); (repeat (first | go_big_quiet_step ((first | (go_at_call 50; with_reducible exact Calls.ext (ca _ (by repeat' (first | (with_reducible exact Below.refl _ _) | (with_reducible assumption) | (with_reducible refine Ext.below _ ?_ ?_) | (with_reducible refine Below.on ?_ (by with_reducible assumption) ?_) | (with_reducible refine Below.alloc ?_ ?_ _) | (with_reducible refine Below.drew ?_) | (with_reducible refine Below.setCell ?_ ?_ _) | (with_reducible exact Nat.le_refl _) | omega | (simp; done) | (simp [go_sem]; done) | (simp at *; omega))))))) | quiet_step ((first | (go_at_call 50; with_reducible exact Calls.ext (ca _ (by repeat' (first | (with_reducible exact Below.refl _ _) | (with_reducible assumption) | (with_reducible refine Ext.below _ ?_ ?_) | (with_reducible refine Below.on ?_ (by with_reducible assumption) ?_) | (with_reducible refine Below.alloc ?_ ?_ _) | (with_reducible refine Below.drew ?_) | (with_reducible refine Below.setCell ?_ ?_ _) | (with_reducible exact Nat.le_refl _) | omega | (simp; done) | (simp [go_sem]; done) | (simp at *; omega))))))))); refine wpQuiet_nil ?_; rintro _ ⟨yr, rfl⟩; have syr := Ext.size yr; (repeat (first | rw [World.size_alloc] at syr | rw [World.size_setCell] at syr | rw [World.size_drew] at syr))) | (go_at_call 50; (first | with_reducible refine (Calls.giv2 (ca _ (by repeat' (first | (with_reducible exact Below.refl _ _) | (with_reducible assumption) | (with_reducible refine Ext.below _ ?_ ?_) | (with_reducible refine Below.on ?_ (by with_reducible assumption) ?_) | (with_reducible refine Below.alloc ?_ ?_ _) | (with_reducible refine Below.drew ?_) | (with_reducible refine Below.setCell ?_ ?_ _) | (with_reducible exact Nat.le_refl _) | omega | (simp; done) | (simp [go_sem]; done) | (simp at *; omega))))).mono ?_ | with_reducible refine (Calls.giv (ca _ (by repeat' (first | (with_reducible exact Below.refl _ _) | (with_reducible assumption) | (with_reducible refine Ext.below _ ?_ ?_) | (with_reducible refine Below.on ?_ (by with_reducible assumption) ?_) | (with_reducible refine Below.alloc ?_ ?_ _) | (with_reducible refine Below.drew ?_) | (with_reducible refine Below.setCell ?_ ?_ _) | (with_reducible exact Nat.le_refl _) | omega | (simp; done) | (simp [go_sem]; done) | (simp at *; omega))))).mono ?_); rintro _ _ ⟨y1, rfl, rfl⟩; have sy1 := Ext.size y1; (repeat (first | rw [World.size_alloc] at sy1 | rw [World.size_setCell] at sy1 | rw [World.size_drew] at sy1))))
    all_goals go_returns
    all_goals refine ⟨rfl, ?_⟩
    repeat' (first | (with_reducible exact Below.refl _ _) | (with_reducible assumption) | (with_reducible refine Ext.below _ ?_ ?_) | (with_reducible refine Below.on ?_ (by with_reducible assumption) ?_) | (with_reducible refine Below.alloc ?_ ?_ _) | (with_reducible refine Below.drew ?_) | (with_reducible refine Below.setCell ?_ ?_ _) | (with_reducible exact Nat.le_refl _) | omega | (simp; done) | (simp [go_sem]; done) | (simp at *; omega))
theorem thru_len : ∀ l : List BlowR, (thru l).length ≤ l.length
  | [] => by simp [thru]
  | x :: l => by
    have := thru_len l
    unfold thru
    split <;> simp <;> omega
theorem blowsA_len {l : List V2} (k : RockR) (f : FallR) (hn : l.length ≤ 40) : (v3s (blowsA l k f)).length ≤ 1000 := by
  unfold v3s
  rw [List.length_map]
  unfold blowsA
  split
  · unfold blowsV
    exact Nat.le_trans (thru_len _) (Nat.le_trans (blowsL_len _ _ _ _ _ _) (by omega))
  · simp
end Go.Proofs.YtfjieblihbnmjaaDoor
namespace Go.Proofs.YtfjieblihbnmjaaDoor
open Go.RowKit Go.Shelf
attribute [local go_sem] Option.isSome_some Ext.cell Ext.frozen Ext.lt Ext.le Ext.lt_add Ext.le_add Ext.ne Ext.ne' lt2 lt3 lt4 lt5 le2 le3 le4
/-- Rows of numbers, of booleans. -/
def NumsAt (W : World) (p : Option Addr) (l : List Int) : Prop := ∀ j (h : j < l.length), ∃ B o, p = some ⟨B, o, none⟩ ∧ B < W.heap.size ∧ W.cell? ⟨B, o + j, none⟩ = some (.int .i64 l[j])
def BoolsAt (W : World) (p : Option Addr) (l : List Bool) : Prop := ∀ j (h : j < l.length), ∃ B o, p = some ⟨B, o, none⟩ ∧ B < W.heap.size ∧ W.cell? ⟨B, o + j, none⟩ = some (.bool l[j])
theorem NumsAt.on {W W' : World} {p : Option Addr} {l : List Int} (h : NumsAt W p l) (b : Below W.heap.size W W') : NumsAt W' p l := fun j hj => by
  obtain ⟨B, o, rfl, hB, h1⟩ := h j hj
  exact ⟨B, o, rfl, Nat.lt_of_lt_of_le hB b.size, (b.cell (p := ⟨B, o + j, none⟩) hB).trans h1⟩
theorem BoolsAt.on {W W' : World} {p : Option Addr} {l : List Bool} (h : BoolsAt W p l) (b : Below W.heap.size W W') : BoolsAt W' p l := fun j hj => by
  obtain ⟨B, o, rfl, hB, h1⟩ := h j hj
  exact ⟨B, o, rfl, Nat.lt_of_lt_of_le hB b.size, (b.cell (p := ⟨B, o + j, none⟩) hB).trans h1⟩
/-- A land: where its rows lie, and what is in them. -/
structure LandR where
  pp : Option Addr
  pc : Nat
  pl : List Int
  wp : Option Addr
  wc : Nat
  wl : List Bool
def LandR.val (x : LandR) : Value := .agg #[.slice x.pp x.pl.length x.pc, .slice x.wp x.wl.length x.wc]
structure LandR.At (x : LandR) (W : World) : Prop where
  nums : NumsAt W x.pp x.pl
  bools : BoolsAt W x.wp x.wl
  cap : x.pl.length ≤ x.pc
theorem LandR.At.on {x : LandR} {W W' : World} (h : x.At W) (b : Below W.heap.size W W') : x.At W' := ⟨h.nums.on b, h.bools.on b, h.cap⟩
def pplE : List Int → Int
  | [] => 0
  | n :: l => if 0 ≤ n ∧ n ≤ 4294967296 then pplE l else 2
def landE (x : LandR) : Int := if x.pl.length = 0 then 6 else if 400 < x.pl.length then 8 else if x.wl.length ≠ x.pl.length then 3 else pplE x.pl
structure LandR.Ok (x : LandR) : Prop where
  pos : 0 < x.pl.length
  le : x.pl.length ≤ 400
  len : x.wl.length = x.pl.length
  num : ∀ n ∈ x.pl, 0 ≤ n ∧ n ≤ 4294967296
theorem pplE_ok {l : List Int} : pplE l = 0 ↔ ∀ n ∈ l, 0 ≤ n ∧ n ≤ 4294967296 := by
  induction l with
  | nil => simp [pplE]
  | cons v l ih =>
    unfold pplE
    split
    · rename_i h; rw [ih]; simp [h]
    · rename_i h
      simp only [List.mem_cons, forall_eq_or_imp, h, false_and, iff_false]
      decide
theorem LandR.Ok.e {x : LandR} (h : x.Ok) : landE x = 0 := by
  unfold landE
  rw [if_neg (by have := h.pos; omega), if_neg (by have := h.le; omega), if_neg (by have := h.len; omega)]
  exact pplE_ok.2 h.num
theorem sum_bound {l : List Int} (h : ∀ n ∈ l, 0 ≤ n ∧ n ≤ 4294967296) : 0 ≤ l.sum ∧ l.sum ≤ 4294967296 * l.length := by
  induction l with
  | nil => simp
  | cons a l ih =>
    have h1 := ih (fun n hn => h n (by simp [hn]))
    have h2 := h a (by simp)
    simp only [List.sum_cons, List.length_cons]
    omega
set_option maxHeartbeats 4000000 in
theorem sum_any (p : Option Addr) (c : Nat) (l : List Int) (w : World) (hP : NumsAt w p l) (hn : l.length ≤ 400) (hb : ∀ n ∈ l, 0 ≤ n ∧ n ≤ 4294967296) : Calls Tryd.prog 104 #[.slice p l.length c] w (Gives (.int .i64 l.sum) w) := by
  have hP := Go.Lib.hid hP
  have hb := Go.Lib.hid hb
  go_enter Tryd.func104, Tryd.ntmps104
  go_wp2_with (first | ((first | with_reducible refine wp_region_ext2 (by kernel_rfl) (by kernel_rfl) ?_ | with_reducible refine wp_region_ext (by kernel_rfl) (by kernel_rfl) ?_); (repeat (first | go_big_quiet_step ((first | fail)) | quiet_step ((first | fail)))); refine wpQuiet_nil ?_; rintro _ ⟨yr, rfl⟩; have syr := Ext.size yr; (repeat (first | rw [World.size_alloc] at syr | rw [World.size_setCell] at syr | rw [World.size_drew] at syr))))
  go_loopw [3, 8] (fun t s W => ∃ (i : Nat) (z : Int) (x : Ext w), t = .int .i64 z ∧ s = .int .i64 i ∧ W = x.now ∧ Hid (i ≤ l.length ∧ z = (l.take i).sum)) (fun _ s _ => l.length - (intOf s).toNat)
  case atStart => exact ⟨0, 0, ⟨w, Below.refl _ _⟩, rfl, rfl, rfl, Go.Lib.hid ⟨Nat.zero_le _, by simp⟩⟩
  case round =>
    obtain ⟨i, z, x, rfl, rfl, rfl, hi⟩ := hrel
    have xs := x.size
    by_cases hlt : i < l.length
    · have hlt2 : (i : Int) < l.length := by omega
      obtain ⟨B, o, rfl, hB, c1⟩ := hP.out i hlt
      have key : Hid (i + 1 ≤ l.length ∧ z + l[i] = (l.take (i + 1)).sum) := Go.Lib.hid ⟨hlt, by rw [List.take_succ_eq_append_getElem hlt, List.sum_append, hi.out.2]; simp⟩
      have hz : 0 ≤ z ∧ z ≤ 4294967296 * 400 := by
        have := sum_bound (l := l.take i) (fun n hn => hb.out n (List.mem_of_mem_take hn))
        have e : (l.take i).length ≤ 400 := by rw [List.length_take]; omega
        rw [hi.out.2]; omega
      have hbi := hb.out l[i] (List.getElem_mem hlt)
      clear hi
      generalize l[i] = v at *
      obtain ⟨z1, z2⟩ := hz
      obtain ⟨v1, v2⟩ := hbi
      go_wp2_with (first | ((first | with_reducible refine wp_region_ext2 (by kernel_rfl) (by kernel_rfl) ?_ | with_reducible refine wp_region_ext (by kernel_rfl) (by kernel_rfl) ?_); (repeat (first | go_big_quiet_step ((first | fail)) | quiet_step ((first | fail)))); refine wpQuiet_nil ?_; rintro _ ⟨yr, rfl⟩; have syr := Ext.size yr; (repeat (first | rw [World.size_alloc] at syr | rw [World.size_setCell] at syr | rw [World.size_drew] at syr)); have : B < yr.now.heap.size := (by omega); have : B ≤ yr.now.heap.size := (by omega); have : B < yr.now.heap.size + 1 + 1 := (by omega)))
      exact ⟨⟨i + 1, z + v, x, rfl, by simp, rfl, key⟩, by simp [intOf]; omega⟩
    · have hge : ¬ (i : Int) < l.length := by omega
      have eV : z = l.sum := by rw [hi.out.2, List.take_of_length_le (by omega)]
      clear hi
      subst eV
      go_wp2_with (first | ((first | with_reducible refine wp_region_ext2 (by kernel_rfl) (by kernel_rfl) ?_ | with_reducible refine wp_region_ext (by kernel_rfl) (by kernel_rfl) ?_); (repeat (first | go_big_quiet_step ((first | fail)) | quiet_step ((first | fail)))); refine wpQuiet_nil ?_; rintro _ ⟨yr, rfl⟩; have syr := Ext.size yr; (repeat (first | rw [World.size_alloc] at syr | rw [World.size_setCell] at syr | rw [World.size_drew] at syr))))
      go_returns
      refine ⟨rfl, ?_⟩
      repeat' (first | (with_reducible exact Below.refl _ _) | (with_reducible assumption) | (with_reducible refine Ext.below _ ?_ ?_) | (with_reducible refine Below.on ?_ (by with_reducible assumption) ?_) | (with_reducible refine Below.alloc ?_ ?_ _) | (with_reducible refine Below.drew ?_) | (with_reducible refine Below.setCell ?_ ?_ _) | (with_reducible exact Nat.le_refl _) | omega | (simp; done) | (simp [go_sem]; done) | (simp at *; omega))
theorem isCell_any (x : LandR) (at' : Int) (w : World) : Calls Tryd.prog 62 #[x.val, .int .i64 at'] w (Gives (.bool (decide (0 ≤ at' ∧ at' < x.pl.length))) w) := by
  unfold LandR.val
  go_enter Tryd.func62, Tryd.ntmps62
  go_wp2_with (first | ((first | with_reducible refine wp_region_ext2 (by kernel_rfl) (by kernel_rfl) ?_ | with_reducible refine wp_region_ext (by kernel_rfl) (by kernel_rfl) ?_); (repeat (first | go_big_quiet_step ((first | fail)) | quiet_step ((first | fail)))); refine wpQuiet_nil ?_; rintro _ ⟨yr, rfl⟩; have syr := Ext.size yr; (repeat (first | rw [World.size_alloc] at syr | rw [World.size_setCell] at syr | rw [World.size_drew] at syr))))
  all_goals go_returns
  all_goals refine ⟨ret_bool ?_, ?_⟩
  all_goals first
    | (rw [decide_eq_decide]; omega)
    | (simp; omega)
    | (symm; simp; omega)
    | ((repeat' (first | (with_reducible exact Below.refl _ _) | (with_reducible assumption) | (with_reducible refine Ext.below _ ?_ ?_) | (with_reducible refine Below.on ?_ (by with_reducible assumption) ?_) | (with_reducible refine Below.alloc ?_ ?_ _) | (with_reducible refine Below.drew ?_) | (with_reducible refine Below.setCell ?_ ?_ _) | (with_reducible exact Nat.le_refl _) | omega | (simp; done) | (simp [go_sem]; done) | (simp at *; omega))); done)
end Go.Proofs.YtfjieblihbnmjaaDoor

/- Contract of LandOf: a valid land, made of a ring's numbers. Written by gen_land.py. Condition: the ring's block is as NewRing made it. -/
import Derived.Test.YtlmhbggigbmeaaaDoorBlV1G
import Derived.Test.YtlmhbggigbmeaaaDoorRootG
import Derived.Test.YtlmhbggigbmeaaaDoorBlHG
namespace Go.Proofs.YtlmhbggigbmeaaaDoor
open Go.RowKit Go.Shelf
attribute [local go_sem] Option.isSome_some Ext.cell Ext.frozen Ext.lt Ext.le Ext.lt_add Ext.le_add Ext.ne Ext.ne' lt2 lt3 lt4 lt5 le2 le3 le4
attribute [local go_sem] RExt.cell RExt.frozen RExt.lt RExt.le RExt.lt_add RExt.le_add RExt.ne RExt.ne'
def numsV (l : List Int) : List Value := l.map fun n => .int .i64 n
def boolsV (l : List Bool) : List Value := l.map fun n => .bool n
theorem numsV_add (l : List Int) (v : Int) : numsV (l ++ [v]) = numsV l ++ [.int .i64 v] := by simp [numsV]
theorem boolsV_add (l : List Bool) (v : Bool) : boolsV (l ++ [v]) = boolsV l ++ [.bool v] := by simp [boolsV]
theorem int_info : (Tryd.prog.info? 2).map (fun i => (i.zero, i.size, i.bytes)) = some (some (.int .i64 0), 1, 8) := by kernel_rfl
theorem bool_info : (Tryd.prog.info? 4).map (fun i => (i.zero, i.size, i.bytes)) = some (some (.bool false), 1, 1) := by kernel_rfl
theorem prod_small {a b : Int} (h1 : 0 ≤ a ∧ a < 3) (h2 : 0 ≤ b ∧ b < 1000) : 0 ≤ a * b ∧ a * b ≤ 1998 := by
  rcases (show a = 0 ∨ a = 1 ∨ a = 2 by omega) with rfl | rfl | rfl <;> omega
theorem cell1_at {W : World} {q : Nat} {v : Value} {T : TypeId} (h : W.heap[q]? = some (.cells #[v] T (0, 0))) : ∀ j u, [v][j]? = some u → W.cell? ((⟨q, 0, none⟩ : Addr).add j) = some u := by
  intro j u hj
  have hl : j < 1 := by simpa using (List.getElem?_eq_some_iff.1 hj).1
  obtain rfl : j = 0 := by omega
  have hadd : (⟨q, 0, none⟩ : Addr).add 0 = ⟨q, 0, none⟩ := by unfold Addr.add; split <;> simp_all
  rw [hadd, cell_of_row W q 0 _ _ _ h]
  simpa using hj
/-- The boxes of the result and of the land that is being made. -/
structure LandBox (W : World) (R : Nat) (v0 v1 : Value) : Prop where
  r0 : W.cell? ⟨R, 0, none⟩ = some (.slice none 0 0)
  r1 : W.cell? ⟨R, 1, none⟩ = some (.slice none 0 0)
  g0 : W.frozen? ⟨R, 0, none⟩ = false
  g1 : W.frozen? ⟨R, 1, none⟩ = false
  c0 : W.cell? ⟨R + 1, 0, none⟩ = some v0
  c1 : W.cell? ⟨R + 1, 1, none⟩ = some v1
  f0 : W.frozen? ⟨R + 1, 0, none⟩ = false
  f1 : W.frozen? ⟨R + 1, 1, none⟩ = false
  lt : R + 1 < W.heap.size
theorem LandBox.keep {W W' : World} {R : Nat} {v0 v1 : Value} (h : LandBox W R v0 v1) (hc : ∀ o, W'.cell? ⟨R, o, none⟩ = W.cell? ⟨R, o, none⟩) (hf : ∀ o, W'.frozen? ⟨R, o, none⟩ = W.frozen? ⟨R, o, none⟩) (hc' : ∀ o, W'.cell? ⟨R + 1, o, none⟩ = W.cell? ⟨R + 1, o, none⟩) (hf' : ∀ o, W'.frozen? ⟨R + 1, o, none⟩ = W.frozen? ⟨R + 1, o, none⟩) (hs : W.heap.size ≤ W'.heap.size) : LandBox W' R v0 v1 :=
  ⟨(hc 0).trans h.r0, (hc 1).trans h.r1, (hf 0).trans h.g0, (hf 1).trans h.g1, (hc' 0).trans h.c0, (hc' 1).trans h.c1, (hf' 0).trans h.f0, (hf' 1).trans h.f1, Nat.lt_of_lt_of_le h.lt hs⟩
theorem LandBox.rext {W : World} {R b : Nat} {v0 v1 : Value} (h : LandBox W R v0 v1) (hb : b < R) (x : RExt W b) : LandBox x.now R v0 v1 := by
  have := h.lt
  exact h.keep (fun o => x.cell (by omega) (by omega)) (fun o => x.frozen (by omega) (by omega)) (fun o => x.cell (by omega) (by omega)) (fun o => x.frozen (by omega) (by omega)) x.size
theorem LandBox.alloc {W : World} {R : Nat} {v0 v1 : Value} (h : LandBox W R v0 v1) (o : Obj) : LandBox (W.alloc o) R v0 v1 := by
  have := h.lt
  let x : Ext W := ⟨W.alloc o, (Below.refl _ _).alloc (Nat.le_refl _) _⟩
  exact h.keep (fun o => x.cell (by omega)) (fun o => x.frozen (by omega)) (fun o => x.cell (by omega)) (fun o => x.frozen (by omega)) x.size
theorem LandBox.drew {W : World} {R : Nat} {v0 v1 : Value} (h : LandBox W R v0 v1) : LandBox W.drew R v0 v1 := by
  have := h.lt
  let x : Ext W := ⟨W.drew, (Below.refl _ _).drew⟩
  exact h.keep (fun o => x.cell (by omega)) (fun o => x.frozen (by omega)) (fun o => x.cell (by omega)) (fun o => x.frozen (by omega)) x.size
theorem LandBox.set0 {W : World} {R : Nat} {v0 v1 : Value} (h : LandBox W R v0 v1) (u : Value) : LandBox (W.setCell ⟨R + 1, 0, none⟩ u) R u v1 := by
  obtain ⟨r0, r1, g0, g1, c0, c1, f0, f1, lt⟩ := h
  constructor <;> first | (simp [go_sem, *]; done) | (simpa using lt)
theorem LandBox.set1 {W : World} {R : Nat} {v0 v1 : Value} (h : LandBox W R v0 v1) (u : Value) : LandBox (W.setCell ⟨R + 1, 1, none⟩ u) R v0 u := by
  obtain ⟨r0, r1, g0, g1, c0, c1, f0, f1, lt⟩ := h
  constructor <;> first | (simp [go_sem, *]; done) | (simpa using lt)
theorem LandBox.grown {W W' : World} {R base e k n : Nat} {v0 v1 v : Value} {xs : List Value} (h : LandBox W R v0 v1) (hown : W.ownsRow base e k v n xs) (hb : R + 1 < base) (hg : W.grownBy W' v.ownBlock) : LandBox W' R v0 v1 := by
  have := h.lt
  have hs : ∀ B, B ≤ R + 1 → W'.heap[B]? = W.heap[B]? := fun B hB => hg.block B (by omega) (fun e => by have := (hown.lt B e.symm).1; omega)
  exact h.keep (fun o => World.cell?_of_block (a := ⟨R, o, none⟩) (hs R (by omega))) (fun o => World.frozen?_of_block (a := ⟨R, o, none⟩) (hs R (by omega))) (fun o => World.cell?_of_block (a := ⟨R + 1, o, none⟩) (hs (R + 1) (Nat.le_refl _))) (fun o => World.frozen?_of_block (a := ⟨R + 1, o, none⟩) (hs (R + 1) (Nat.le_refl _))) hg.size
theorem nums_of {W : World} {base : Nat} {p : Option Addr} {n c : Nat} {l : List Int} (h : W.ownsRow base 2 1 (.slice p n c) l.length (numsV l)) : NumsAt W p l := by
  intro j hj
  rcases owns_slice h with ⟨_, h0⟩ | ⟨g, c, e, hb, hg, hc⟩
  · omega
  · injection e with e1 e2 e3
    subst e1
    exact ⟨g, 0, rfl, hg, by rw [Nat.zero_add]; exact hc j _ (by simp [numsV, hj])⟩
theorem bools_of {W : World} {base : Nat} {p : Option Addr} {n c m : Nat} {l : List Bool} (hm : m = l.length) (h : W.ownsRow base 4 1 (.slice p n c) m (boolsV l)) : BoolsAt W p l := by
  intro j hj
  rcases owns_slice h with ⟨_, h0⟩ | ⟨g, c, e, hb, hg, hc⟩
  · omega
  · injection e with e1 e2 e3
    subst e1
    exact ⟨g, 0, rfl, hg, by rw [Nat.zero_add]; exact hc j _ (by simp [boolsV, hj])⟩
theorem owns_cap {W : World} {base : Nat} {e : TypeId} {k : Nat} {p : Option Addr} {n m c : Nat} {xs : List Value} (h : W.ownsRow base e k (.slice p n c) m xs) : m ≤ c := by
  rcases h.2 with ⟨e, h0⟩ | ⟨g, cap, cur, e, _, _, h1, _⟩
  · omega
  · injection e with e1 e2 e3
    omega
def LandPost (b m : Nat) (w : World) : Ending → World → Prop := fun e w' => ∃ (y : RExt w b) (x : LandR), e = .returned x.val ∧ x.At y.now ∧ x.Ok ∧ (x.pl.length ≤ 16 ∧ ∀ n ∈ x.pl, n ≤ 1998) ∧ w' = y.now ∧ RingM y.now b (m + 50)
/-- A land whose rows a call has made. -/
structure LandOwn (W : World) (base : Nat) (x : LandR) : Prop where
  n : W.ownsRow base 2 1 (.slice x.pp x.pl.length x.pc) x.pl.length (numsV x.pl)
  b : W.ownsRow base 4 1 (.slice x.wp x.pl.length x.wc) x.pl.length (boolsV x.wl)
  len : x.wl.length = x.pl.length
theorem LandOwn.at' {W : World} {base : Nat} {x : LandR} (h : LandOwn W base x) : x.At W := ⟨nums_of h.n, bools_of h.len.symm h.b, owns_cap h.n⟩
theorem LandOwn.rext {W : World} {base b : Nat} {x : LandR} (h : LandOwn W base x) (hb : b < base) (y : RExt W b) : LandOwn y.now base x := ⟨owns_belowX h.n hb y.grew, owns_belowX h.b hb y.grew, h.len⟩
theorem LandOwn.alloc {W : World} {base : Nat} {x : LandR} (h : LandOwn W base x) (o : Obj) : LandOwn (W.alloc o) base x := ⟨h.n.alloc o, h.b.alloc o, h.len⟩
theorem LandOwn.below {W W' : World} {base : Nat} {x : LandR} (h : LandOwn W base x) (b : Below W.heap.size W W') : LandOwn W' base x := ⟨owns_below h.n b, owns_below h.b b, h.len⟩
theorem LandOwn.base {W : World} {base base' : Nat} {x : LandR} (h : LandOwn W base x) (hb : base' ≤ base) : LandOwn W base' x := ⟨owns_base h.n hb, owns_base h.b hb, h.len⟩
def LandPost2 (b m : Nat) (w : World) : Ending → World → Prop := fun e w' => ∃ (y : RExt w b) (x : LandR), e = .returned x.val ∧ LandOwn y.now w.heap.size x ∧ x.Ok ∧ (x.pl.length ≤ 16 ∧ ∀ n ∈ x.pl, n ≤ 1998) ∧ w' = y.now ∧ RingM y.now b (m + 50)
theorem LandPost.of2 {b m : Nat} {w : World} {e : Ending} {w' : World} (h : LandPost2 b m w e w') : LandPost b m w e w' := by
  obtain ⟨y, x, h1, h2, h3, h4, h5, h6⟩ := h
  exact ⟨y, x, h1, h2.at', h3, h4, h5, h6⟩
theorem LandPost2.intro {b m : Nat} {w W : World} {p q : Option Addr} {c d : Nat} {pl : List Int} {wl : List Bool} (hB : BelowX b w.heap.size w W) (h1 : W.ownsRow (w.heap.size + 1 + 1) 2 1 (.slice p pl.length c) pl.length (numsV pl)) (h2 : W.ownsRow (w.heap.size + 1 + 1) 4 1 (.slice q pl.length d) pl.length (boolsV wl)) (h3 : 1 ≤ pl.length) (h4 : pl.length ≤ 16) (h5 : wl.length = pl.length) (h6 : ∀ n ∈ pl, 0 ≤ n ∧ n ≤ 1998) (hr : RingM W b (m + 50)) :
    LandPost2 b m w (.returned (⟨p, c, pl, q, d, wl⟩ : LandR).val) W :=
  ⟨⟨W, hB⟩, ⟨p, c, pl, q, d, wl⟩, rfl, ⟨owns_base h1 (by omega), owns_base h2 (by omega), h5⟩, ⟨h3, by simp only; omega, h5, fun n hn => by have := h6 n hn; omega⟩, ⟨h4, fun n hn => (h6 n hn).2⟩, rfl, hr⟩
theorem list21 {α : Type} {l : List α} (h : l.length = 21) : ∃ b0 b1 b2 b3 b4 b5 b6 b7 b8 b9 b10 b11 b12 b13 b14 b15 b16 b17 b18 b19 b20, l = [b0, b1, b2, b3, b4, b5, b6, b7, b8, b9, b10, b11, b12, b13, b14, b15, b16, b17, b18, b19, b20] := by
  match l, h with
  | [b0, b1, b2, b3, b4, b5, b6, b7, b8, b9, b10, b11, b12, b13, b14, b15, b16, b17, b18, b19, b20], _ => exact ⟨_, _, _, _, _, _, _, _, _, _, _, _, _, _, _, _, _, _, _, _, _, rfl⟩
def landDeps : List (List Nat) := [[], [0], [], [2], [], [4, 3], [3, 5], [6], [1, 7, 5], [], [9], [], [11, 8], [], [12, 13], [14], [10, 15, 12], [], [17, 8, 16, 1, 10], [], [19, 16, 18, 8, 10]]
def landInv (b m R n c d : Nat) (p q : Option Addr) (pl : List Int) (wl : List Bool) (sea : Int) (a0 : Act) (X : World) (l : List Bool) (fr : Act) (W : World) : Prop :=
  ∃ s15 s16 s17 s18 s19 s20 s21 s22 s23 s24 s25 s26 s27 s28 s29 s30 s31 s32 s33 : Value, fr = sets a0 [(15, s15), (16, s16), (17, s17), (18, s18), (19, s19), (20, s20), (21, s21), (22, s22), (23, s23), (24, s24), (25, s25), (26, s26), (27, s27), (28, s28), (29, s29), (30, s30), (31, s31), (32, s32), (33, s33)] ∧ BelowX b R X W ∧
    (RingM W b (m + ((l.getD 3 false).toNat + (l.getD 5 false).toNat + (l.getD 12 false).toNat))) ∧
    (LandBox W R (bif l.getD 18 false then s23 else .slice p n c) (bif l.getD 20 false then s31 else .slice q n d)) ∧
    (l.getD 8 false = false → W.ownsRow (R + 1 + 1) 2 1 (.slice p n c) n (numsV pl)) ∧
    (l.getD 16 false = false → W.ownsRow (R + 1 + 1) 4 1 (.slice q n d) n (boolsV wl)) ∧
    (l.getD 18 false = true → l.getD 1 false = true ∧ l.getD 8 false = true) ∧
    (l.getD 20 false = true → l.getD 10 false = true ∧ l.getD 16 false = true) ∧
    (l.getD 0 false = true → s15 = .pointer (some ⟨R + 1, 0, none⟩)) ∧
    (l.getD 1 false = true → s16 = .slice p n c) ∧
    (l.getD 2 false = true → s17 = .pointer (some ⟨b, 0, none⟩)) ∧
    (l.getD 3 false = true → ∃ v : Int, s18 = .int .i64 v ∧ (0 ≤ v ∧ v < 3)) ∧
    (l.getD 4 false = true → s19 = .pointer (some ⟨b, 0, none⟩)) ∧
    (l.getD 5 false = true → ∃ v : Int, s20 = .int .i64 v ∧ (0 ≤ v ∧ v < 1000)) ∧
    (l.getD 6 false = true → ∃ v : Int, s21 = .int .i64 v ∧ (0 ≤ v ∧ v ≤ 1998)) ∧
    (l.getD 7 false = true → ∃ (g : Nat) (v : Int), s22 = .slice (some ⟨g, 0, none⟩) 1 1 ∧ (0 ≤ v ∧ v ≤ 1998) ∧ (l.getD 8 false = false → X.heap.size ≤ g ∧ g < W.heap.size ∧ W.heap[g]? = some (.cells #[.int .i64 v] 2 (0, 0)))) ∧
    (l.getD 8 false = true → ∃ (p' : Option Addr) (c' : Nat) (v : Int), s23 = .slice p' (n + 1) c' ∧ (0 ≤ v ∧ v ≤ 1998) ∧ W.ownsRow (R + 1 + 1) 2 1 (.slice p' (n + 1) c') (n + 1) (numsV (pl ++ [v]))) ∧
    (l.getD 9 false = true → s24 = .pointer (some ⟨R + 1, 1, none⟩)) ∧
    (l.getD 10 false = true → s25 = .slice q n d) ∧
    (l.getD 11 false = true → s26 = .pointer (some ⟨b, 0, none⟩)) ∧
    (l.getD 12 false = true → ∃ v : Int, s27 = .int .i64 v ∧ (0 ≤ v ∧ v < 4)) ∧
    (l.getD 13 false = true → s28 = .int .i64 sea) ∧
    (l.getD 14 false = true → ∃ v : Bool, s29 = .bool v) ∧
    (l.getD 15 false = true → ∃ (g : Nat) (v : Bool), s30 = .slice (some ⟨g, 0, none⟩) 1 1 ∧ (l.getD 16 false = false → X.heap.size ≤ g ∧ g < W.heap.size ∧ W.heap[g]? = some (.cells #[.bool v] 4 (0, 0)))) ∧
    (l.getD 16 false = true → ∃ (q' : Option Addr) (d' : Nat) (v : Bool), s31 = .slice q' (n + 1) d' ∧ W.ownsRow (R + 1 + 1) 4 1 (.slice q' (n + 1) d') (n + 1) (boolsV (wl ++ [v]))) ∧
    (l.getD 17 false = true → s32 = .pointer (some ⟨R + 1, 0, none⟩)) ∧
    (l.getD 19 false = true → s33 = .pointer (some ⟨R + 1, 1, none⟩))
def landTold (b m R n : Nat) (pl : List Int) (wl : List Bool) : Act → World → Act → World → Prop := fun a X a' W => ∃ (v : Int) (u : Bool) (p' q' : Option Addr) (c' d' : Nat), (0 ≤ v ∧ v ≤ 1998) ∧ a' = sets a [(15, a'.tmps.getD 15 undef), (16, a'.tmps.getD 16 undef), (17, a'.tmps.getD 17 undef), (18, a'.tmps.getD 18 undef), (19, a'.tmps.getD 19 undef), (20, a'.tmps.getD 20 undef), (21, a'.tmps.getD 21 undef), (22, a'.tmps.getD 22 undef), (23, a'.tmps.getD 23 undef), (24, a'.tmps.getD 24 undef), (25, a'.tmps.getD 25 undef), (26, a'.tmps.getD 26 undef), (27, a'.tmps.getD 27 undef), (28, a'.tmps.getD 28 undef), (29, a'.tmps.getD 29 undef), (30, a'.tmps.getD 30 undef), (31, a'.tmps.getD 31 undef), (32, a'.tmps.getD 32 undef), (33, a'.tmps.getD 33 undef)] ∧ BelowX b R X W ∧ RingM W b (m + 3) ∧ LandBox W R (.slice p' (n + 1) c') (.slice q' (n + 1) d') ∧ W.ownsRow (R + 1 + 1) 2 1 (.slice p' (n + 1) c') (n + 1) (numsV (pl ++ [v])) ∧ W.ownsRow (R + 1 + 1) 4 1 (.slice q' (n + 1) d') (n + 1) (boolsV (wl ++ [u]))
set_option maxRecDepth 100000 in
set_option maxHeartbeats 16000000 in
theorem LandOf_z (b m : Nat) (w : World) (hm : m < 100000) (h : RingM w b m) : Calls Tryd.prog 14 #[.pointer (some ⟨b, 0, none⟩)] w (LandPost2 b m w) := by
  have hl := h.lt
  go_enter Tryd.func14, Tryd.ntmps14
  go_wp2_with (first | ((first | with_reducible refine wrx2 ?_ | with_reducible refine wrx ?_); (repeat (first | go_big_quiet_step ((first | fail)) | quiet_step ((first | fail)))); refine wpQuiet_nil ?_; rintro _ ⟨yr, rfl⟩; have syr := Ext.size yr; (repeat (first | rw [World.size_alloc] at syr | rw [World.size_setCell] at syr | rw [World.size_drew] at syr)); have : b < yr.now.heap.size := (by omega); have : b ≤ yr.now.heap.size := (by omega); have : b < yr.now.heap.size + 1 + 1 := (by omega); have : w.heap.size < yr.now.heap.size := (by omega); have : w.heap.size ≤ yr.now.heap.size := (by omega); have : w.heap.size < yr.now.heap.size + 1 + 1 := (by omega); have : w.heap.size + 1 < yr.now.heap.size := (by omega); have : w.heap.size + 1 ≤ yr.now.heap.size := (by omega); have : w.heap.size + 1 < yr.now.heap.size + 1 + 1 := (by omega)) | (go_at_call 15; (with_reducible refine Calls.mono (Next_y 3 b m _ (by omega) (by omega) (by omega) ?_) ?_); (focus ((repeat (first | (with_reducible assumption) | (with_reducible refine RingM.alloc ?_ _) | (with_reducible refine RingM.drew ?_) | (with_reducible refine RingM.ext ?_ _) | (with_reducible refine RingM.set ?_ _ (by omega)))); done)); (rintro _ _ ⟨yx1, vx1, rfl, hvx1, rfl, rgx1⟩); have syx1 := RExt.size yx1; (repeat (first | rw [World.size_alloc] at syx1 | rw [World.size_setCell] at syx1 | rw [World.size_drew] at syx1)); have : b < yx1.now.heap.size := (by omega); have : b ≤ yx1.now.heap.size := (by omega); have : b < yx1.now.heap.size + 1 + 1 := (by omega); have : w.heap.size < yx1.now.heap.size := (by omega); have : w.heap.size ≤ yx1.now.heap.size := (by omega); have : w.heap.size < yx1.now.heap.size + 1 + 1 := (by omega); have : w.heap.size + 1 < yx1.now.heap.size := (by omega); have : w.heap.size + 1 ≤ yx1.now.heap.size := (by omega); have : w.heap.size + 1 < yx1.now.heap.size + 1 + 1 := (by omega)) | (go_at_call 15; (with_reducible refine Calls.mono (Next_y 16 b (m + 1) _ (by omega) (by omega) (by omega) ?_) ?_); (focus ((repeat (first | (with_reducible assumption) | (with_reducible refine RingM.alloc ?_ _) | (with_reducible refine RingM.drew ?_) | (with_reducible refine RingM.ext ?_ _) | (with_reducible refine RingM.set ?_ _ (by omega)))); done)); (rintro _ _ ⟨yx2, vx2, rfl, hvx2, rfl, rgx2⟩); have syx2 := RExt.size yx2; (repeat (first | rw [World.size_alloc] at syx2 | rw [World.size_setCell] at syx2 | rw [World.size_drew] at syx2)); have : b < yx2.now.heap.size := (by omega); have : b ≤ yx2.now.heap.size := (by omega); have : b < yx2.now.heap.size + 1 + 1 := (by omega); have : w.heap.size < yx2.now.heap.size := (by omega); have : w.heap.size ≤ yx2.now.heap.size := (by omega); have : w.heap.size < yx2.now.heap.size + 1 + 1 := (by omega); have : w.heap.size + 1 < yx2.now.heap.size := (by omega); have : w.heap.size + 1 ≤ yx2.now.heap.size := (by omega); have : w.heap.size + 1 < yx2.now.heap.size + 1 + 1 := (by omega)))
  have hbox : LandBox yx2.now w.heap.size (.slice none 0 0) (.slice none 0 0) := by
    refine LandBox.rext (LandBox.rext ?_ hl yx1) hl yx2
    constructor <;> simp [go_sem]
  have hBX : BelowX b w.heap.size w yx2.now := by repeat' (first | (with_reducible exact BelowX.refl _ _ _) | (with_reducible assumption) | (with_reducible refine RExt.belowX _ ?_ ?_) | (with_reducible refine Ext.belowX _ ?_ ?_) | (with_reducible refine BelowX.alloc ?_ ?_ _) | (with_reducible refine BelowX.drew ?_) | (with_reducible refine BelowX.setCell ?_ ?_ _) | (with_reducible exact Nat.le_refl _) | omega | (simp; done) | (simp [go_sem]; done) | (simp at *; omega))
  obtain ⟨hd0, hd1⟩ := hvx1
  obtain ⟨hn0, hn1⟩ := hvx2
  generalize yx2.now = W0 at *
  obtain ⟨k0, hk0⟩ := Int.eq_ofNat_of_zero_le (show 0 ≤ 1 + vx2 by omega)
  rw [hk0]
  have hk6 : 1 ≤ k0 ∧ k0 ≤ 16 := by omega
  clear hk0 hn0 hn1
  generalize vx1 = sea at *
  go_loopw [5] (fun s W => ∃ (k : Nat) (x : RExt w b) (pl : List Int) (wl : List Bool) (p q : Option Addr) (c d : Nat), s = .int .i64 k ∧ W = x.now ∧ LandBox x.now w.heap.size (.slice p pl.length c) (.slice q pl.length d) ∧ x.now.ownsRow (w.heap.size + 1 + 1) 2 1 (.slice p pl.length c) pl.length (numsV pl) ∧ x.now.ownsRow (w.heap.size + 1 + 1) 4 1 (.slice q pl.length d) pl.length (boolsV wl) ∧ RingM x.now b (m + 2 + 3 * (k0 - k)) ∧ Hid (pl.length + k = k0 ∧ wl.length = pl.length ∧ ∀ n ∈ pl, 0 ≤ n ∧ n ≤ 1998)) (fun s _ => (intOf s).toNat)
  case atStart => exact ⟨k0, ⟨W0, hBX⟩, [], [], none, none, 0, 0, rfl, rfl, hbox, World.ownsRow_nil _ _ _ _, World.ownsRow_nil _ _ _ _, by simpa using rgx2, Go.Lib.hid ⟨by simp, rfl, by simp⟩⟩
  case round =>
    clear hbox hBX
    obtain ⟨k, x, pl, wl, p, q, c, d, rfl, rfl, hbx, hown, hownb, hrg, hi⟩ := hrel
    have xs := x.size
    have hls := hbx.lt
    have hb1 : b < x.now.heap.size := by omega
    have hbR : b < w.heap.size := hl
    by_cases hk : k = 0
    · subst hk
      have hi2 := hi.out
      obtain ⟨z0, z1, z2, z3, z4, z5, z6, z7, zl⟩ := hbx
      clear hi
      go_wp2_with (first | ((first | with_reducible refine wrx2 ?_ | with_reducible refine wrx ?_); (repeat (first | go_big_quiet_step ((first | fail)) | quiet_step ((first | fail)))); refine wpQuiet_nil ?_; rintro _ ⟨yr, rfl⟩; have syr := Ext.size yr; (repeat (first | rw [World.size_alloc] at syr | rw [World.size_setCell] at syr | rw [World.size_drew] at syr)); have : b < yr.now.heap.size := (by omega); have : b ≤ yr.now.heap.size := (by omega); have : b < yr.now.heap.size + 1 + 1 := (by omega); have : w.heap.size < yr.now.heap.size := (by omega); have : w.heap.size ≤ yr.now.heap.size := (by omega); have : w.heap.size < yr.now.heap.size + 1 + 1 := (by omega); have : w.heap.size + 1 < yr.now.heap.size := (by omega); have : w.heap.size + 1 ≤ yr.now.heap.size := (by omega); have : w.heap.size + 1 < yr.now.heap.size + 1 + 1 := (by omega)))
      have hF : BelowX b w.heap.size w ((x.now.setCell ⟨w.heap.size, 0, none⟩ (.slice p pl.length c)).setCell ⟨w.heap.size, 1, none⟩ (.slice q pl.length d)) := (x.grew.setCell (Nat.le_refl _) _).setCell (Nat.le_refl _) _
      have hR1 := row_put (row_put hown (show w.heap.size < w.heap.size + 1 + 1 by omega) 0 (.slice p pl.length c)) (show w.heap.size < w.heap.size + 1 + 1 by omega) 1 (.slice q pl.length d)
      have hR2 := row_put (row_put hownb (show w.heap.size < w.heap.size + 1 + 1 by omega) 0 (.slice p pl.length c)) (show w.heap.size < w.heap.size + 1 + 1 by omega) 1 (.slice q pl.length d)
      have hG := (hrg.set (o := 0) (.slice p pl.length c) hl).set (o := 1) (.slice q pl.length d) hl
      refine bodyPost_ret (v := (⟨p, c, pl, q, d, wl⟩ : LandR).val) (by unfold LandR.val; simp (maxDischargeDepth := 9) [results, Tryd.results14, go_sem, hi2.2.1, *]) rfl ?_
      generalize ((x.now.setCell ⟨w.heap.size, 0, none⟩ (.slice p pl.length c)).setCell ⟨w.heap.size, 1, none⟩ (.slice q pl.length d)) = WF at *
      exact LandPost2.intro hF hR1 hR2 (by omega) (by omega) hi2.2.1 hi2.2.2 (hG.mono (by omega))
    · have hkp : 0 < (k : Int) := by omega
      obtain ⟨j, rfl⟩ : ∃ j, k = j + 1 := ⟨k - 1, by omega⟩
      obtain ⟨i1, i2, i3⟩ := hi.out
      have hn16 : pl.length ≤ 15 := by omega
      have hkey := fun (v : Int) (u : Bool) (hv : 0 ≤ v ∧ v ≤ 1998) => (show Hid ((pl ++ [v]).length + j = k0 ∧ (wl ++ [u]).length = (pl ++ [v]).length ∧ ∀ n ∈ pl ++ [v], 0 ≤ n ∧ n ≤ 1998) from by
        refine Go.Lib.hid ⟨by simp; omega, by simp [i2], fun n hn => ?_⟩
        rcases List.mem_append.1 hn with h5 | h5
        · exact i3 n h5
        · rw [List.mem_singleton.1 h5]; exact hv)
      have hj6 : j ≤ 16 := by omega
      have hmm : m + 2 + 3 * (k0 - (j + 1)) + 3 = m + 2 + 3 * (k0 - j) := by omega
      have hmb : m + 2 + 3 * (k0 - (j + 1)) < 1000000 := by omega
      clear hi i1 i2 i3 hk
      generalize m + 2 + 3 * (k0 - (j + 1)) = mm at *
      go_upto_region 6 with (first | ((first | with_reducible refine wrx2 ?_ | with_reducible refine wrx ?_); (repeat (first | go_big_quiet_step ((first | fail)) | quiet_step ((first | fail)))); refine wpQuiet_nil ?_; rintro _ ⟨yr, rfl⟩; have syr := Ext.size yr; (repeat (first | rw [World.size_alloc] at syr | rw [World.size_setCell] at syr | rw [World.size_drew] at syr)); have : b < yr.now.heap.size := (by omega); have : b ≤ yr.now.heap.size := (by omega); have : b < yr.now.heap.size + 1 + 1 := (by omega); have : w.heap.size < yr.now.heap.size := (by omega); have : w.heap.size ≤ yr.now.heap.size := (by omega); have : w.heap.size < yr.now.heap.size + 1 + 1 := (by omega); have : w.heap.size + 1 < yr.now.heap.size := (by omega); have : w.heap.size + 1 ≤ yr.now.heap.size := (by omega); have : w.heap.size + 1 < yr.now.heap.size + 1 + 1 := (by omega)))
      --REGION6
      refine wp_tell (landTold b mm w.heap.size pl.length pl wl) ?_ ?_
      focus
        have hxB : w.heap.size ≤ x.now.heap.size := by omega
        repeat (rename_i zz; clear zz)
        clear rgx1 rgx2 hkey hmm
        generalize hRe : w.heap.size = R at *
        generalize pl.length = n at *
        generalize x.now = X at *
        refine region_dep (by kernel_rfl) landDeps (by kernel_rfl) (landInv b mm R n c d p q pl wl sea) ?h0 ?hstep ?hend
        case h0 =>
          refine ⟨?z15, ?z16, ?z17, ?z18, ?z19, ?z20, ?z21, ?z22, ?z23, ?z24, ?z25, ?z26, ?z27, ?z28, ?z29, ?z30, ?z31, ?z32, ?z33, ?fr, (BelowX.refl _ _ _).drew, (by simpa using hrg.drew), hbx.drew, (fun _ => World.ownsRow.drew hown), (fun _ => World.ownsRow.drew hownb), by simp, by simp, by simp, by simp, by simp, by simp, by simp, by simp, by simp, by simp, by simp, by simp, by simp, by simp, by simp, by simp, by simp, by simp, by simp, by simp, by simp⟩
          case fr =>
            simp only [sets, List.foldl_cons, List.foldl_nil, List.set_cons_succ, List.set_cons_zero]
            rfl
        case hend =>
          intro l' fr W hl hall hInv
          unfold landInv at hInv
          obtain ⟨s15, s16, s17, s18, s19, s20, s21, s22, s23, s24, s25, s26, s27, s28, s29, s30, s31, s32, s33, hInv⟩ := hInv
          obtain ⟨hfr, hB, g0, g1, g2, g3, g4, g5, f0, f1, f2, f3, f4, f5, f6, f7, f8, f9, f10, f11, f12, f13, f14, f15, f16, f17, f19⟩ := hInv
          subst hfr
          obtain ⟨b0, b1, b2, b3, b4, b5, b6, b7, b8, b9, b10, b11, b12, b13, b14, b15, b16, b17, b18, b19, b20, rfl⟩ := list21 hl
          simp only [List.getD_cons_zero, List.getD_cons_succ] at g0 g1 g2 g3 g4 g5 f0 f1 f2 f3 f4 f5 f6 f7 f8 f9 f10 f11 f12 f13 f14 f15 f16 f17 f19
          simp only [List.all_cons, id, Bool.and_eq_true] at hall
          obtain ⟨e0, e1, e2, e3, e4, e5, e6, e7, e8, e9, e10, e11, e12, e13, e14, e15, e16, e17, e18, e19, e20, -⟩ := hall
          obtain ⟨p', c', v, rfl, hv, ho⟩ := f8 e8
          obtain ⟨q', d', u, rfl, ho2⟩ := f16 e16
          rw [e18, e20] at g1
          have hg : RingM W b (mm + 3) := by simpa only [e3, e5, e12, Bool.toNat_true] using g0
          exact ⟨rfl, v, u, p', q', c', d', hv, by kernel_rfl, hB, hg, g1, ho, ho2⟩
        case hstep =>
          intro l' fr W ii hl hInv hr hi
          unfold landInv at hInv
          obtain ⟨s15, s16, s17, s18, s19, s20, s21, s22, s23, s24, s25, s26, s27, s28, s29, s30, s31, s32, s33, hInv⟩ := hInv
          obtain ⟨hfr, hB, g0, g1, g2, g3, g4, g5, f0, f1, f2, f3, f4, f5, f6, f7, f8, f9, f10, f11, f12, f13, f14, f15, f16, f17, f19⟩ := hInv
          subst hfr
          obtain ⟨b0, b1, b2, b3, b4, b5, b6, b7, b8, b9, b10, b11, b12, b13, b14, b15, b16, b17, b18, b19, b20, rfl⟩ := list21 hl
          have sW := hB.size
          have hls := g1.lt
          have hflags : b3.toNat ≤ 1 ∧ b5.toNat ≤ 1 ∧ b12.toNat ≤ 1 := ⟨Bool.toNat_le _, Bool.toNat_le _, Bool.toNat_le _⟩
          simp only [List.getD_cons_zero, List.getD_cons_succ] at g0 g1 g2 g3 g4 g5 f0 f1 f2 f3 f4 f5 f6 f7 f8 f9 f10 f11 f12 f13 f14 f15 f16 f17 f19
          replace hB := Go.Lib.hid hB
          replace hi := Go.Lib.hid hi
          replace g0 := Go.Lib.hid g0
          replace g1 := Go.Lib.hid g1
          replace g2 := Go.Lib.hid g2
          replace g3 := Go.Lib.hid g3
          replace g4 := Go.Lib.hid g4
          replace g5 := Go.Lib.hid g5
          replace f0 := Go.Lib.hid f0
          replace f1 := Go.Lib.hid f1
          replace f2 := Go.Lib.hid f2
          replace f3 := Go.Lib.hid f3
          replace f4 := Go.Lib.hid f4
          replace f5 := Go.Lib.hid f5
          replace f6 := Go.Lib.hid f6
          replace f7 := Go.Lib.hid f7
          replace f8 := Go.Lib.hid f8
          replace f9 := Go.Lib.hid f9
          replace f10 := Go.Lib.hid f10
          replace f11 := Go.Lib.hid f11
          replace f12 := Go.Lib.hid f12
          replace f13 := Go.Lib.hid f13
          replace f14 := Go.Lib.hid f14
          replace f15 := Go.Lib.hid f15
          replace f16 := Go.Lib.hid f16
          replace f17 := Go.Lib.hid f17
          replace f19 := Go.Lib.hid f19
          rcases ii with _ | _ | _ | _ | _ | _ | _ | _ | _ | _ | _ | _ | _ | _ | _ | _ | _ | _ | _ | _ | _ | ii
          · refine wpOp_step rfl (fun K hK => ?_)
            simp only [sets, List.foldl_cons, List.foldl_nil, List.set_cons_succ, List.set_cons_zero]
            go_simp
            exact hK _ _ ⟨(.pointer (some ⟨R + 1, 0, none⟩)), s16, s17, s18, s19, s20, s21, s22, s23, s24, s25, s26, s27, s28, s29, s30, s31, s32, s33, by kernel_rfl, hB.out, g0.out, g1.out, g2.out, g3.out, g4.out, g5.out, fun _ => rfl, f1.out, f2.out, f3.out, f4.out, f5.out, f6.out, f7.out, f8.out, f9.out, f10.out, f11.out, f12.out, f13.out, f14.out, f15.out, f16.out, f17.out, f19.out⟩
          · simp only [landDeps, List.getD_cons_zero, List.getD_cons_succ, List.all_cons, List.all_nil, Bool.and_true] at hr
            have hd0 := hr
            obtain rfl := f0.out hd0
            have hi := hi.out
            simp only [List.getElem?_cons_zero, List.getElem?_cons_succ, Option.some.injEq] at hi
            subst hi
            have h18 : b18 = false := by cases b18 with | false => rfl | true => exact absurd (g4.out rfl).1 (by decide)
            subst h18
            have hc := g1.out.c0
            refine wpOp_step rfl (fun K hK => ?_)
            simp only [sets, List.foldl_cons, List.foldl_nil, List.set_cons_succ, List.set_cons_zero]
            go_simp
            exact hK _ _ ⟨(.pointer (some ⟨R + 1, 0, none⟩)), (.slice p n c), s17, s18, s19, s20, s21, s22, s23, s24, s25, s26, s27, s28, s29, s30, s31, s32, s33, by kernel_rfl, hB.out, g0.out, g1.out, g2.out, g3.out, (fun h => by cases h), g5.out, f0.out, fun _ => rfl, f2.out, f3.out, f4.out, f5.out, f6.out, f7.out, f8.out, f9.out, f10.out, f11.out, f12.out, f13.out, f14.out, f15.out, f16.out, f17.out, f19.out⟩
          · refine wpOp_step rfl (fun K hK => ?_)
            simp only [sets, List.foldl_cons, List.foldl_nil, List.set_cons_succ, List.set_cons_zero]
            go_simp
            exact hK _ _ ⟨s15, s16, (.pointer (some ⟨b, 0, none⟩)), s18, s19, s20, s21, s22, s23, s24, s25, s26, s27, s28, s29, s30, s31, s32, s33, by kernel_rfl, hB.out, g0.out, g1.out, g2.out, g3.out, g4.out, g5.out, f0.out, f1.out, fun _ => rfl, f3.out, f4.out, f5.out, f6.out, f7.out, f8.out, f9.out, f10.out, f11.out, f12.out, f13.out, f14.out, f15.out, f16.out, f17.out, f19.out⟩
          · simp only [landDeps, List.getD_cons_zero, List.getD_cons_succ, List.all_cons, List.all_nil, Bool.and_true] at hr
            have hd2 := hr
            obtain rfl := f2.out hd2
            have hi := hi.out
            simp only [List.getElem?_cons_zero, List.getElem?_cons_succ, Option.some.injEq] at hi
            subst hi
            refine wpOp_step rfl (fun K hK => ?_)
            simp only [sets, List.foldl_cons, List.foldl_nil, List.set_cons_succ, List.set_cons_zero]
            go_simp
            refine (Next_y 3 b (mm + (false.toNat + b5.toNat + b12.toNat)) W (by have := hflags; simp only [Bool.toNat_false] at *; omega) (by omega) (by omega) g0.out).mono ?_
            rintro _ W6 ⟨y, v, rfl, hv, rfl, hr⟩
            exact hK _ _ ⟨s15, s16, (.pointer (some ⟨b, 0, none⟩)), (.int .i64 v), s19, s20, s21, s22, s23, s24, s25, s26, s27, s28, s29, s30, s31, s32, s33, by kernel_rfl, hB.out.trans (y.grew.mono (by omega)), (hr.mono (by simp only [List.set_cons_succ, List.set_cons_zero, List.getD_cons_zero, List.getD_cons_succ, Bool.toNat_true, Bool.toNat_false]; omega)), (g1.out.rext hbR y), (fun h => owns_belowX (g2.out h) (by omega) y.grew), (fun h => owns_belowX (g3.out h) (by omega) y.grew), g4.out, g5.out, f0.out, f1.out, f2.out, (fun _ => ⟨v, rfl, hv⟩), f4.out, f5.out, f6.out, (fun h => by obtain ⟨g, v, e, hv, h2⟩ := f7.out h; exact ⟨g, v, e, hv, fun h8 => by obtain ⟨h3, h4, h5⟩ := h2 h8; exact ⟨h3, Nat.lt_of_lt_of_le h4 y.size, y.row h5 h4 (by omega)⟩⟩), (fun h => by obtain ⟨p', c', v, e, hv, ho⟩ := f8.out h; exact ⟨p', c', v, e, hv, owns_belowX ho (by omega) y.grew⟩), f9.out, f10.out, f11.out, f12.out, f13.out, f14.out, (fun h => by obtain ⟨g, v, e, h2⟩ := f15.out h; exact ⟨g, v, e, fun h8 => by obtain ⟨h3, h4, h5⟩ := h2 h8; exact ⟨h3, Nat.lt_of_lt_of_le h4 y.size, y.row h5 h4 (by omega)⟩⟩), (fun h => by obtain ⟨q', d', v, e, ho⟩ := f16.out h; exact ⟨q', d', v, e, owns_belowX ho (by omega) y.grew⟩), f17.out, f19.out⟩
          · refine wpOp_step rfl (fun K hK => ?_)
            simp only [sets, List.foldl_cons, List.foldl_nil, List.set_cons_succ, List.set_cons_zero]
            go_simp
            exact hK _ _ ⟨s15, s16, s17, s18, (.pointer (some ⟨b, 0, none⟩)), s20, s21, s22, s23, s24, s25, s26, s27, s28, s29, s30, s31, s32, s33, by kernel_rfl, hB.out, g0.out, g1.out, g2.out, g3.out, g4.out, g5.out, f0.out, f1.out, f2.out, f3.out, fun _ => rfl, f5.out, f6.out, f7.out, f8.out, f9.out, f10.out, f11.out, f12.out, f13.out, f14.out, f15.out, f16.out, f17.out, f19.out⟩
          · simp only [landDeps, List.getD_cons_zero, List.getD_cons_succ, List.all_cons, List.all_nil, Bool.and_true, Bool.and_eq_true] at hr
            obtain ⟨hd4, hd3⟩ := hr
            obtain rfl := f4.out hd4
            have hi := hi.out
            simp only [List.getElem?_cons_zero, List.getElem?_cons_succ, Option.some.injEq] at hi
            subst hi
            refine wpOp_step rfl (fun K hK => ?_)
            simp only [sets, List.foldl_cons, List.foldl_nil, List.set_cons_succ, List.set_cons_zero]
            go_simp
            refine (Next_y 1000 b (mm + (b3.toNat + false.toNat + b12.toNat)) W (by have := hflags; simp only [Bool.toNat_false] at *; omega) (by omega) (by omega) g0.out).mono ?_
            rintro _ W6 ⟨y, v, rfl, hv, rfl, hr⟩
            exact hK _ _ ⟨s15, s16, s17, s18, (.pointer (some ⟨b, 0, none⟩)), (.int .i64 v), s21, s22, s23, s24, s25, s26, s27, s28, s29, s30, s31, s32, s33, by kernel_rfl, hB.out.trans (y.grew.mono (by omega)), (hr.mono (by simp only [List.set_cons_succ, List.set_cons_zero, List.getD_cons_zero, List.getD_cons_succ, Bool.toNat_true, Bool.toNat_false]; omega)), (g1.out.rext hbR y), (fun h => owns_belowX (g2.out h) (by omega) y.grew), (fun h => owns_belowX (g3.out h) (by omega) y.grew), g4.out, g5.out, f0.out, f1.out, f2.out, f3.out, f4.out, (fun _ => ⟨v, rfl, hv⟩), f6.out, (fun h => by obtain ⟨g, v, e, hv, h2⟩ := f7.out h; exact ⟨g, v, e, hv, fun h8 => by obtain ⟨h3, h4, h5⟩ := h2 h8; exact ⟨h3, Nat.lt_of_lt_of_le h4 y.size, y.row h5 h4 (by omega)⟩⟩), (fun h => by obtain ⟨p', c', v, e, hv, ho⟩ := f8.out h; exact ⟨p', c', v, e, hv, owns_belowX ho (by omega) y.grew⟩), f9.out, f10.out, f11.out, f12.out, f13.out, f14.out, (fun h => by obtain ⟨g, v, e, h2⟩ := f15.out h; exact ⟨g, v, e, fun h8 => by obtain ⟨h3, h4, h5⟩ := h2 h8; exact ⟨h3, Nat.lt_of_lt_of_le h4 y.size, y.row h5 h4 (by omega)⟩⟩), (fun h => by obtain ⟨q', d', v, e, ho⟩ := f16.out h; exact ⟨q', d', v, e, owns_belowX ho (by omega) y.grew⟩), f17.out, f19.out⟩
          · simp only [landDeps, List.getD_cons_zero, List.getD_cons_succ, List.all_cons, List.all_nil, Bool.and_true, Bool.and_eq_true] at hr
            obtain ⟨hd3, hd5⟩ := hr
            obtain ⟨v1, rfl, h1⟩ := f3.out hd3
            obtain ⟨v2, rfl, h2⟩ := f5.out hd5
            obtain ⟨m1, m2⟩ := prod_small h1 h2
            have hw : IntKind.i64.wrap (v1 * v2) = v1 * v2 := by rw [IntKind.wrap_i64]; omega
            refine wpOp_step rfl (fun K hK => ?_)
            simp only [sets, List.foldl_cons, List.foldl_nil, List.set_cons_succ, List.set_cons_zero]
            go_simp
            exact hK _ _ ⟨s15, s16, s17, (.int .i64 v1), s19, (.int .i64 v2), (.int .i64 (v1 * v2)), s22, s23, s24, s25, s26, s27, s28, s29, s30, s31, s32, s33, by kernel_rfl, hB.out, g0.out, g1.out, g2.out, g3.out, g4.out, g5.out, f0.out, f1.out, f2.out, f3.out, f4.out, f5.out, (fun _ => ⟨_, rfl, m1, m2⟩), f7.out, f8.out, f9.out, f10.out, f11.out, f12.out, f13.out, f14.out, f15.out, f16.out, f17.out, f19.out⟩
          · simp only [landDeps, List.getD_cons_zero, List.getD_cons_succ, List.all_cons, List.all_nil, Bool.and_true] at hr
            have hd6 := hr
            obtain ⟨v, rfl, hv⟩ := f6.out hd6
            have hi := hi.out
            simp only [List.getElem?_cons_zero, List.getElem?_cons_succ, Option.some.injEq] at hi
            subst hi
            refine wpOp_step rfl (fun K hK => ?_)
            simp only [sets, List.foldl_cons, List.foldl_nil, List.set_cons_succ, List.set_cons_zero]
            go_simp
            exact hK _ _ ⟨s15, s16, s17, s18, s19, s20, (.int .i64 v), (.slice (some ⟨W.heap.size, 0, none⟩) 1 1), s23, s24, s25, s26, s27, s28, s29, s30, s31, s32, s33, by kernel_rfl, hB.out.alloc (by omega) _, (g0.out.alloc _), (g1.out.alloc _), (fun h => (g2.out h).alloc _), (fun h => (g3.out h).alloc _), g4.out, g5.out, f0.out, f1.out, f2.out, f3.out, f4.out, f5.out, f6.out, (fun _ => ⟨W.heap.size, v, rfl, hv, fun _ => ⟨by omega, by simp only [World.size_alloc]; omega, heap_alloc_new _ _⟩⟩), (fun h => by obtain ⟨p', c', v, e, hv, ho⟩ := f8.out h; exact ⟨p', c', v, e, hv, ho.alloc _⟩), f9.out, f10.out, f11.out, f12.out, f13.out, f14.out, (fun h => by obtain ⟨g, v, e, h2⟩ := f15.out h; exact ⟨g, v, e, fun h8 => by obtain ⟨h3, h4, h5⟩ := h2 h8; exact ⟨h3, by simp only [World.size_alloc]; omega, (heap_alloc_old _ _ h4).trans h5⟩⟩), (fun h => by obtain ⟨q', d', v, e, ho⟩ := f16.out h; exact ⟨q', d', v, e, ho.alloc _⟩), f17.out, f19.out⟩
          · simp only [landDeps, List.getD_cons_zero, List.getD_cons_succ, List.all_cons, List.all_nil, Bool.and_true, Bool.and_eq_true] at hr
            obtain ⟨hd1, hd7, hd5⟩ := hr
            obtain rfl := f1.out hd1
            have hi := hi.out
            simp only [List.getElem?_cons_zero, List.getElem?_cons_succ, Option.some.injEq] at hi
            subst hi
            have h18 : b18 = false := by cases b18 with | false => rfl | true => exact absurd (g4.out rfl).2 (by decide)
            subst h18
            obtain ⟨g, v, rfl, hv, h2⟩ := f7.out hd7
            obtain ⟨hg1, hg2, hg3⟩ := h2 rfl
            have ho := g2.out rfl
            have hon := g2.out rfl
            have hlt := ho.lt
            obtain ⟨i0, hi0, hz0, hz1, hz2⟩ := info_parts int_info
            refine wpOp_open rfl rfl (fun K hK => ?_)
            refine wp_append_own _ _ _ 24 rfl (R + 1 + 1) 2 i0 _ 1 8 Tryd.underlying24 hi0 hz0 hz1 hz2 rfl (by decide) (.slice p n c) n (numsV pl) (by kernel_rfl) ho ⟨g, 0, none⟩ 1 1 [.int .i64 v] (by kernel_rfl) rfl (cell1_at hg3) (by intro u hu; rw [List.mem_singleton.1 hu]; rfl) (by unfold maxLen; omega) (by omega) (by omega) ?_
            intro v5 W6 ho6 hg _
            obtain ⟨p6, c6, rfl⟩ := owns_form ho6
            have s56 := hg.size
            exact hK _ _ ⟨s15, (.slice p n c), s17, s18, s19, s20, s21, (.slice (some ⟨g, 0, none⟩) 1 1), (.slice p6 (n + 1) c6), s24, s25, s26, s27, s28, s29, s30, s31, s32, s33, by kernel_rfl, belowX_grown hB.out ho (by omega) (by omega) hg, (RingM.grown g0.out ho (by omega) hg), (g1.out.grown ho (by omega) hg), (fun h => by cases h), (fun h => (g3.out h).kept hg (row_apart (g3.out h) ho (by decide))), (fun h => by cases h), g5.out, f0.out, f1.out, f2.out, f3.out, f4.out, f5.out, f6.out, (fun _ => ⟨g, v, rfl, hv, fun h => by cases h⟩), (fun _ => ⟨p6, c6, v, rfl, hv, by rw [numsV_add]; exact ho6⟩), f9.out, f10.out, f11.out, f12.out, f13.out, f14.out, (fun h => by obtain ⟨g', v', e, h2'⟩ := f15.out h; exact ⟨g', v', e, fun h8 => by obtain ⟨h3, h4, h5⟩ := h2' h8; exact ⟨h3, by omega, (hg.block g' h4 (row_ne hon h5 (by decide))).trans h5⟩⟩), (fun h => by obtain ⟨q', d', v', e, h9⟩ := f16.out h; exact ⟨q', d', v', e, h9.kept hg (row_apart h9 hon (by decide))⟩), f17.out, f19.out⟩
          · refine wpOp_step rfl (fun K hK => ?_)
            simp only [sets, List.foldl_cons, List.foldl_nil, List.set_cons_succ, List.set_cons_zero]
            go_simp
            exact hK _ _ ⟨s15, s16, s17, s18, s19, s20, s21, s22, s23, (.pointer (some ⟨R + 1, 1, none⟩)), s25, s26, s27, s28, s29, s30, s31, s32, s33, by kernel_rfl, hB.out, g0.out, g1.out, g2.out, g3.out, g4.out, g5.out, f0.out, f1.out, f2.out, f3.out, f4.out, f5.out, f6.out, f7.out, f8.out, fun _ => rfl, f10.out, f11.out, f12.out, f13.out, f14.out, f15.out, f16.out, f17.out, f19.out⟩
          · simp only [landDeps, List.getD_cons_zero, List.getD_cons_succ, List.all_cons, List.all_nil, Bool.and_true] at hr
            have hd9 := hr
            obtain rfl := f9.out hd9
            have hi := hi.out
            simp only [List.getElem?_cons_zero, List.getElem?_cons_succ, Option.some.injEq] at hi
            subst hi
            have h20 : b20 = false := by cases b20 with | false => rfl | true => exact absurd (g5.out rfl).1 (by decide)
            subst h20
            have hc := g1.out.c1
            refine wpOp_step rfl (fun K hK => ?_)
            simp only [sets, List.foldl_cons, List.foldl_nil, List.set_cons_succ, List.set_cons_zero]
            go_simp
            exact hK _ _ ⟨s15, s16, s17, s18, s19, s20, s21, s22, s23, (.pointer (some ⟨R + 1, 1, none⟩)), (.slice q n d), s26, s27, s28, s29, s30, s31, s32, s33, by kernel_rfl, hB.out, g0.out, g1.out, g2.out, g3.out, g4.out, (fun h => by cases h), f0.out, f1.out, f2.out, f3.out, f4.out, f5.out, f6.out, f7.out, f8.out, f9.out, fun _ => rfl, f11.out, f12.out, f13.out, f14.out, f15.out, f16.out, f17.out, f19.out⟩
          · refine wpOp_step rfl (fun K hK => ?_)
            simp only [sets, List.foldl_cons, List.foldl_nil, List.set_cons_succ, List.set_cons_zero]
            go_simp
            exact hK _ _ ⟨s15, s16, s17, s18, s19, s20, s21, s22, s23, s24, s25, (.pointer (some ⟨b, 0, none⟩)), s27, s28, s29, s30, s31, s32, s33, by kernel_rfl, hB.out, g0.out, g1.out, g2.out, g3.out, g4.out, g5.out, f0.out, f1.out, f2.out, f3.out, f4.out, f5.out, f6.out, f7.out, f8.out, f9.out, f10.out, fun _ => rfl, f12.out, f13.out, f14.out, f15.out, f16.out, f17.out, f19.out⟩
          · simp only [landDeps, List.getD_cons_zero, List.getD_cons_succ, List.all_cons, List.all_nil, Bool.and_true, Bool.and_eq_true] at hr
            obtain ⟨hd11, hd8⟩ := hr
            obtain rfl := f11.out hd11
            have hi := hi.out
            simp only [List.getElem?_cons_zero, List.getElem?_cons_succ, Option.some.injEq] at hi
            subst hi
            refine wpOp_step rfl (fun K hK => ?_)
            simp only [sets, List.foldl_cons, List.foldl_nil, List.set_cons_succ, List.set_cons_zero]
            go_simp
            refine (Next_y 4 b (mm + (b3.toNat + b5.toNat + false.toNat)) W (by have := hflags; simp only [Bool.toNat_false] at *; omega) (by omega) (by omega) g0.out).mono ?_
            rintro _ W6 ⟨y, v, rfl, hv, rfl, hr⟩
            exact hK _ _ ⟨s15, s16, s17, s18, s19, s20, s21, s22, s23, s24, s25, (.pointer (some ⟨b, 0, none⟩)), (.int .i64 v), s28, s29, s30, s31, s32, s33, by kernel_rfl, hB.out.trans (y.grew.mono (by omega)), (hr.mono (by simp only [List.set_cons_succ, List.set_cons_zero, List.getD_cons_zero, List.getD_cons_succ, Bool.toNat_true, Bool.toNat_false]; omega)), (g1.out.rext hbR y), (fun h => owns_belowX (g2.out h) (by omega) y.grew), (fun h => owns_belowX (g3.out h) (by omega) y.grew), g4.out, g5.out, f0.out, f1.out, f2.out, f3.out, f4.out, f5.out, f6.out, (fun h => by obtain ⟨g, v, e, hv, h2⟩ := f7.out h; exact ⟨g, v, e, hv, fun h8 => by obtain ⟨h3, h4, h5⟩ := h2 h8; exact ⟨h3, Nat.lt_of_lt_of_le h4 y.size, y.row h5 h4 (by omega)⟩⟩), (fun h => by obtain ⟨p', c', v, e, hv, ho⟩ := f8.out h; exact ⟨p', c', v, e, hv, owns_belowX ho (by omega) y.grew⟩), f9.out, f10.out, f11.out, (fun _ => ⟨v, rfl, hv⟩), f13.out, f14.out, (fun h => by obtain ⟨g, v, e, h2⟩ := f15.out h; exact ⟨g, v, e, fun h8 => by obtain ⟨h3, h4, h5⟩ := h2 h8; exact ⟨h3, Nat.lt_of_lt_of_le h4 y.size, y.row h5 h4 (by omega)⟩⟩), (fun h => by obtain ⟨q', d', v, e, ho⟩ := f16.out h; exact ⟨q', d', v, e, owns_belowX ho (by omega) y.grew⟩), f17.out, f19.out⟩
          · refine wpOp_step rfl (fun K hK => ?_)
            simp only [sets, List.foldl_cons, List.foldl_nil, List.set_cons_succ, List.set_cons_zero]
            go_simp
            exact hK _ _ ⟨s15, s16, s17, s18, s19, s20, s21, s22, s23, s24, s25, s26, s27, (.int .i64 sea), s29, s30, s31, s32, s33, by kernel_rfl, hB.out, g0.out, g1.out, g2.out, g3.out, g4.out, g5.out, f0.out, f1.out, f2.out, f3.out, f4.out, f5.out, f6.out, f7.out, f8.out, f9.out, f10.out, f11.out, f12.out, fun _ => rfl, f14.out, f15.out, f16.out, f17.out, f19.out⟩
          · simp only [landDeps, List.getD_cons_zero, List.getD_cons_succ, List.all_cons, List.all_nil, Bool.and_true, Bool.and_eq_true] at hr
            obtain ⟨hd12, hd13⟩ := hr
            obtain rfl := f13.out hd13
            obtain ⟨v, rfl, hv⟩ := f12.out hd12
            refine wpOp_step rfl (fun K hK => ?_)
            simp only [sets, List.foldl_cons, List.foldl_nil, List.set_cons_succ, List.set_cons_zero]
            go_simp
            exact hK _ _ ⟨s15, s16, s17, s18, s19, s20, s21, s22, s23, s24, s25, s26, (.int .i64 v), (.int .i64 sea), (.bool (decide (v < sea))), s30, s31, s32, s33, by kernel_rfl, hB.out, g0.out, g1.out, g2.out, g3.out, g4.out, g5.out, f0.out, f1.out, f2.out, f3.out, f4.out, f5.out, f6.out, f7.out, f8.out, f9.out, f10.out, f11.out, f12.out, f13.out, (fun _ => ⟨_, rfl⟩), f15.out, f16.out, f17.out, f19.out⟩
          · simp only [landDeps, List.getD_cons_zero, List.getD_cons_succ, List.all_cons, List.all_nil, Bool.and_true] at hr
            have hd14 := hr
            obtain ⟨v, rfl⟩ := f14.out hd14
            have hi := hi.out
            simp only [List.getElem?_cons_zero, List.getElem?_cons_succ, Option.some.injEq] at hi
            subst hi
            refine wpOp_step rfl (fun K hK => ?_)
            simp only [sets, List.foldl_cons, List.foldl_nil, List.set_cons_succ, List.set_cons_zero]
            go_simp
            exact hK _ _ ⟨s15, s16, s17, s18, s19, s20, s21, s22, s23, s24, s25, s26, s27, s28, (.bool v), (.slice (some ⟨W.heap.size, 0, none⟩) 1 1), s31, s32, s33, by kernel_rfl, hB.out.alloc (by omega) _, (g0.out.alloc _), (g1.out.alloc _), (fun h => (g2.out h).alloc _), (fun h => (g3.out h).alloc _), g4.out, g5.out, f0.out, f1.out, f2.out, f3.out, f4.out, f5.out, f6.out, (fun h => by obtain ⟨g, v, e, hv, h2⟩ := f7.out h; exact ⟨g, v, e, hv, fun h8 => by obtain ⟨h3, h4, h5⟩ := h2 h8; exact ⟨h3, by simp only [World.size_alloc]; omega, (heap_alloc_old _ _ h4).trans h5⟩⟩), (fun h => by obtain ⟨p', c', v, e, hv, ho⟩ := f8.out h; exact ⟨p', c', v, e, hv, ho.alloc _⟩), f9.out, f10.out, f11.out, f12.out, f13.out, f14.out, (fun _ => ⟨W.heap.size, v, rfl, fun _ => ⟨by omega, by simp only [World.size_alloc]; omega, heap_alloc_new _ _⟩⟩), (fun h => by obtain ⟨q', d', v, e, ho⟩ := f16.out h; exact ⟨q', d', v, e, ho.alloc _⟩), f17.out, f19.out⟩
          · simp only [landDeps, List.getD_cons_zero, List.getD_cons_succ, List.all_cons, List.all_nil, Bool.and_true, Bool.and_eq_true] at hr
            obtain ⟨hd10, hd15, hd12⟩ := hr
            obtain rfl := f10.out hd10
            have hi := hi.out
            simp only [List.getElem?_cons_zero, List.getElem?_cons_succ, Option.some.injEq] at hi
            subst hi
            have h20 : b20 = false := by cases b20 with | false => rfl | true => exact absurd (g5.out rfl).2 (by decide)
            subst h20
            obtain ⟨g, v, rfl, h2⟩ := f15.out hd15
            obtain ⟨hg1, hg2, hg3⟩ := h2 rfl
            have ho := g3.out rfl
            have hon := g3.out rfl
            have hlt := ho.lt
            obtain ⟨i0, hi0, hz0, hz1, hz2⟩ := info_parts bool_info
            refine wpOp_open rfl rfl (fun K hK => ?_)
            refine wp_append_own _ _ _ 25 rfl (R + 1 + 1) 4 i0 _ 1 1 Tryd.underlying25 hi0 hz0 hz1 hz2 rfl (by decide) (.slice q n d) n (boolsV wl) (by kernel_rfl) ho ⟨g, 0, none⟩ 1 1 [.bool v] (by kernel_rfl) rfl (cell1_at hg3) (by intro u hu; rw [List.mem_singleton.1 hu]; rfl) (by unfold maxLen; omega) (by omega) (by omega) ?_
            intro v5 W6 ho6 hg _
            obtain ⟨p6, c6, rfl⟩ := owns_form ho6
            have s56 := hg.size
            exact hK _ _ ⟨s15, s16, s17, s18, s19, s20, s21, s22, s23, s24, (.slice q n d), s26, s27, s28, s29, (.slice (some ⟨g, 0, none⟩) 1 1), (.slice p6 (n + 1) c6), s32, s33, by kernel_rfl, belowX_grown hB.out ho (by omega) (by omega) hg, (RingM.grown g0.out ho (by omega) hg), (g1.out.grown ho (by omega) hg), (fun h => (g2.out h).kept hg (row_apart (g2.out h) ho (by decide))), (fun h => by cases h), g4.out, (fun h => by cases h), f0.out, f1.out, f2.out, f3.out, f4.out, f5.out, f6.out, (fun h => by obtain ⟨g', v', e, hv', h2'⟩ := f7.out h; exact ⟨g', v', e, hv', fun h8 => by obtain ⟨h3, h4, h5⟩ := h2' h8; exact ⟨h3, by omega, (hg.block g' h4 (row_ne hon h5 (by decide))).trans h5⟩⟩), (fun h => by obtain ⟨q', d', v', e, hv', h9⟩ := f8.out h; exact ⟨q', d', v', e, hv', h9.kept hg (row_apart h9 hon (by decide))⟩), f9.out, f10.out, f11.out, f12.out, f13.out, f14.out, (fun _ => ⟨g, v, rfl, fun h => by cases h⟩), (fun _ => ⟨p6, c6, v, rfl, by rw [boolsV_add]; exact ho6⟩), f17.out, f19.out⟩
          · refine wpOp_step rfl (fun K hK => ?_)
            simp only [sets, List.foldl_cons, List.foldl_nil, List.set_cons_succ, List.set_cons_zero]
            go_simp
            exact hK _ _ ⟨s15, s16, s17, s18, s19, s20, s21, s22, s23, s24, s25, s26, s27, s28, s29, s30, s31, (.pointer (some ⟨R + 1, 0, none⟩)), s33, by kernel_rfl, hB.out, g0.out, g1.out, g2.out, g3.out, g4.out, g5.out, f0.out, f1.out, f2.out, f3.out, f4.out, f5.out, f6.out, f7.out, f8.out, f9.out, f10.out, f11.out, f12.out, f13.out, f14.out, f15.out, f16.out, fun _ => rfl, f19.out⟩
          · simp only [landDeps, List.getD_cons_zero, List.getD_cons_succ, List.all_cons, List.all_nil, Bool.and_true, Bool.and_eq_true] at hr
            obtain ⟨hd17, hd8, hd16, hd1, hd10⟩ := hr
            obtain rfl := f17.out hd17
            obtain rfl := f1.out hd1
            obtain rfl := f10.out hd10
            obtain ⟨p', c', v, rfl, hv, ho⟩ := f8.out hd8
            have hi := hi.out
            simp only [List.getElem?_cons_zero, List.getElem?_cons_succ, Option.some.injEq] at hi
            subst hi
            have hc := g1.out.c0
            have hf := g1.out.f0
            refine wpOp_step rfl (fun K hK => ?_)
            simp only [sets, List.foldl_cons, List.foldl_nil, List.set_cons_succ, List.set_cons_zero]
            go_simp
            exact hK _ _ ⟨s15, (.slice p n c), s17, s18, s19, s20, s21, s22, (.slice p' (n + 1) c'), s24, (.slice q n d), s26, s27, s28, s29, s30, s31, (.pointer (some ⟨R + 1, 0, none⟩)), s33, by kernel_rfl, hB.out.setCell (by simp only; omega) _, (g0.out.set _ (by omega)), (g1.out.set0 _), (fun h => row_put (g2.out h) (by omega) _ _), (fun h => row_put (g3.out h) (by omega) _ _), (fun _ => ⟨hd1, hd8⟩), g5.out, f0.out, f1.out, f2.out, f3.out, f4.out, f5.out, f6.out, (fun h => by obtain ⟨g, v, e, hv, h2⟩ := f7.out h; exact ⟨g, v, e, hv, fun h8 => by obtain ⟨h3, h4, h5⟩ := h2 h8; exact ⟨h3, by simp only [World.size_setCell]; exact h4, (blk_set _ _ _ _ (by simp only; omega)).trans h5⟩⟩), (fun h => by obtain ⟨p', c', v, e, hv, ho⟩ := f8.out h; exact ⟨p', c', v, e, hv, row_put ho (by omega) _ _⟩), f9.out, f10.out, f11.out, f12.out, f13.out, f14.out, (fun h => by obtain ⟨g, v, e, h2⟩ := f15.out h; exact ⟨g, v, e, fun h8 => by obtain ⟨h3, h4, h5⟩ := h2 h8; exact ⟨h3, by simp only [World.size_setCell]; exact h4, (blk_set _ _ _ _ (by simp only; omega)).trans h5⟩⟩), (fun h => by obtain ⟨q', d', v, e, ho⟩ := f16.out h; exact ⟨q', d', v, e, row_put ho (by omega) _ _⟩), f17.out, f19.out⟩
          · refine wpOp_step rfl (fun K hK => ?_)
            simp only [sets, List.foldl_cons, List.foldl_nil, List.set_cons_succ, List.set_cons_zero]
            go_simp
            exact hK _ _ ⟨s15, s16, s17, s18, s19, s20, s21, s22, s23, s24, s25, s26, s27, s28, s29, s30, s31, s32, (.pointer (some ⟨R + 1, 1, none⟩)), by kernel_rfl, hB.out, g0.out, g1.out, g2.out, g3.out, g4.out, g5.out, f0.out, f1.out, f2.out, f3.out, f4.out, f5.out, f6.out, f7.out, f8.out, f9.out, f10.out, f11.out, f12.out, f13.out, f14.out, f15.out, f16.out, f17.out, fun _ => rfl⟩
          · simp only [landDeps, List.getD_cons_zero, List.getD_cons_succ, List.all_cons, List.all_nil, Bool.and_true, Bool.and_eq_true] at hr
            obtain ⟨hd19, hd16, hd18, hd8, hd10⟩ := hr
            obtain rfl := f19.out hd19
            obtain rfl := f10.out hd10
            obtain ⟨p', c', v, rfl, ho⟩ := f16.out hd16
            have hi := hi.out
            simp only [List.getElem?_cons_zero, List.getElem?_cons_succ, Option.some.injEq] at hi
            subst hi
            have hc := g1.out.c1
            have hf := g1.out.f1
            refine wpOp_step rfl (fun K hK => ?_)
            simp only [sets, List.foldl_cons, List.foldl_nil, List.set_cons_succ, List.set_cons_zero]
            go_simp
            exact hK _ _ ⟨s15, s16, s17, s18, s19, s20, s21, s22, s23, s24, (.slice q n d), s26, s27, s28, s29, s30, (.slice p' (n + 1) c'), s32, (.pointer (some ⟨R + 1, 1, none⟩)), by kernel_rfl, hB.out.setCell (by simp only; omega) _, (g0.out.set _ (by omega)), (g1.out.set1 _), (fun h => row_put (g2.out h) (by omega) _ _), (fun h => row_put (g3.out h) (by omega) _ _), g4.out, (fun _ => ⟨hd10, hd16⟩), f0.out, f1.out, f2.out, f3.out, f4.out, f5.out, f6.out, (fun h => by obtain ⟨g, v, e, hv, h2⟩ := f7.out h; exact ⟨g, v, e, hv, fun h8 => by obtain ⟨h3, h4, h5⟩ := h2 h8; exact ⟨h3, by simp only [World.size_setCell]; exact h4, (blk_set _ _ _ _ (by simp only; omega)).trans h5⟩⟩), (fun h => by obtain ⟨p', c', v, e, hv, ho⟩ := f8.out h; exact ⟨p', c', v, e, hv, row_put ho (by omega) _ _⟩), f9.out, f10.out, f11.out, f12.out, f13.out, f14.out, (fun h => by obtain ⟨g, v, e, h2⟩ := f15.out h; exact ⟨g, v, e, fun h8 => by obtain ⟨h3, h4, h5⟩ := h2 h8; exact ⟨h3, by simp only [World.size_setCell]; exact h4, (blk_set _ _ _ _ (by simp only; omega)).trans h5⟩⟩), (fun h => by obtain ⟨q', d', v, e, ho⟩ := f16.out h; exact ⟨q', d', v, e, row_put ho (by omega) _ _⟩), f17.out, f19.out⟩
          · have hi := hi.out; simp at hi
      rintro a4 W4 ⟨v, u, p', q', c', d', hv, ha4, hB4, hr4, hbx4, ho4, ho5⟩
      generalize a4.tmps.getD 15 undef = s15 at ha4
      generalize a4.tmps.getD 16 undef = s16 at ha4
      generalize a4.tmps.getD 17 undef = s17 at ha4
      generalize a4.tmps.getD 18 undef = s18 at ha4
      generalize a4.tmps.getD 19 undef = s19 at ha4
      generalize a4.tmps.getD 20 undef = s20 at ha4
      generalize a4.tmps.getD 21 undef = s21 at ha4
      generalize a4.tmps.getD 22 undef = s22 at ha4
      generalize a4.tmps.getD 23 undef = s23 at ha4
      generalize a4.tmps.getD 24 undef = s24 at ha4
      generalize a4.tmps.getD 25 undef = s25 at ha4
      generalize a4.tmps.getD 26 undef = s26 at ha4
      generalize a4.tmps.getD 27 undef = s27 at ha4
      generalize a4.tmps.getD 28 undef = s28 at ha4
      generalize a4.tmps.getD 29 undef = s29 at ha4
      generalize a4.tmps.getD 30 undef = s30 at ha4
      generalize a4.tmps.getD 31 undef = s31 at ha4
      generalize a4.tmps.getD 32 undef = s32 at ha4
      generalize a4.tmps.getD 33 undef = s33 at ha4
      subst ha4
      simp only [sets, List.foldl_cons, List.foldl_nil, List.set_cons_succ, List.set_cons_zero]
      have key := hkey v u hv
      rw [hmm] at hr4
      clear hkey hbx hown hownb hrg
      have hB5 := x.grew.trans hB4
      have hls4 := hbx4.lt
      rw [show pl.length + 1 = (pl ++ [v]).length by simp] at hbx4 ho4 ho5
      go_wp2_with (first | ((first | with_reducible refine wrx2 ?_ | with_reducible refine wrx ?_); (repeat (first | go_big_quiet_step ((first | fail)) | quiet_step ((first | fail)))); refine wpQuiet_nil ?_; rintro _ ⟨yr, rfl⟩; have syr := Ext.size yr; (repeat (first | rw [World.size_alloc] at syr | rw [World.size_setCell] at syr | rw [World.size_drew] at syr)); have : b < yr.now.heap.size := (by omega); have : b ≤ yr.now.heap.size := (by omega); have : b < yr.now.heap.size + 1 + 1 := (by omega); have : w.heap.size < yr.now.heap.size := (by omega); have : w.heap.size ≤ yr.now.heap.size := (by omega); have : w.heap.size < yr.now.heap.size + 1 + 1 := (by omega)))
      refine ⟨⟨j, ⟨W4, hB5⟩, pl ++ [v], wl ++ [u], p', q', c', d', rfl, rfl, hbx4, ho4, ho5, hr4, key⟩, ?_⟩
      simp only [intOf]
      omega
theorem LandOf_y (b m : Nat) (w : World) (hm : m < 100000) (h : RingM w b m) : Calls Tryd.prog 14 #[.pointer (some ⟨b, 0, none⟩)] w (LandPost b m w) := (LandOf_z b m w hm h).mono fun _ _ => LandPost.of2
end Go.Proofs.YtlmhbggigbmeaaaDoor

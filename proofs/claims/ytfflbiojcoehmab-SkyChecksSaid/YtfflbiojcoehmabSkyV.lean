/- Guesses and rows that a call has made; tracklets and looks in memory; contracts of isGuess, straight, checkGuesses, looksOf, misses, allLooks. Conditions: the cells that are read. -/
import Derived.Test.YtfflbiojcoehmabSkyU
import Derived.Test.YtfflbiojcoehmabOwns
import Derived.OwnWalk
namespace Go.Proofs.Ytfflbiojcoehmab
open Go.RowKit Go.Shelf
attribute [local go_sem] Option.isSome_some Ext.cell Ext.frozen Ext.lt Ext.le Ext.lt_add Ext.le_add Ext.ne Ext.ne' lt2 lt3 lt4 lt5 le2 le3 le4
structure StateR where
  x : Int
  y : Int
  u : Int
  v : Int
def StateR.val (g : StateR) : Value := .agg #[.int .i64 g.x, .int .i64 g.y, .int .i64 g.u, .int .i64 g.v]
def StatesAt (W : World) (p : Option Addr) (l : List StateR) : Prop := ∀ j (h : j < l.length), ∃ B o, p = some ⟨B, o, none⟩ ∧ B < W.heap.size ∧ W.cell? ⟨B, o + j * 4, none⟩ = some (.int .i64 l[j].x) ∧ W.cell? ⟨B, o + j * 4 + 1, none⟩ = some (.int .i64 l[j].y) ∧ W.cell? ⟨B, o + j * 4 + 2, none⟩ = some (.int .i64 l[j].u) ∧ W.cell? ⟨B, o + j * 4 + 3, none⟩ = some (.int .i64 l[j].v)
theorem StatesAt.ext {W : World} {p : Option Addr} {l : List StateR} (h : StatesAt W p l) (x : Ext W) : StatesAt x.now p l := fun j hj => by
  obtain ⟨B, o, rfl, hB, h1, h2, h3, h4⟩ := h j hj
  exact ⟨B, o, rfl, x.lt hB, (x.cell hB).trans h1, (x.cell hB).trans h2, (x.cell hB).trans h3, (x.cell hB).trans h4⟩
theorem StatesAt.on {W W' : World} {p : Option Addr} {l : List StateR} (h : StatesAt W p l) (b : Below W.heap.size W W') : StatesAt W' p l := h.ext ⟨W', b⟩
def guessB (g : StateR) : Bool := vwinB ⟨g.x, g.y⟩ 33554432 && vwinB ⟨g.u, g.v⟩ 1048576
def strV (g : StateR) (n : Int) : V2 := ⟨g.x + g.u * n, g.y + g.v * n⟩
def guessesL : List StateR → Int
  | [] => 0
  | g :: l => if guessB g then guessesL l else 2
def guessesE (l : List StateR) (t : Int) : Int := if 64 < l.length then 8 else if tickB t then guessesL l else 2
theorem guessesL_zero {l : List StateR} (h : guessesL l = 0) : ∀ j (hj : j < l.length), guessB l[j] = true := by
  induction l with
  | nil => intro j hj; simp at hj
  | cons v l ih =>
    rw [guessesL] at h
    by_cases hv : guessB v = true
    · rw [if_pos hv] at h
      intro j hj
      cases j with
      | zero => exact hv
      | succ j => exact ih h j (by simpa using hj)
    · rw [if_neg hv] at h; cases h
theorem guessesE_zero {l : List StateR} {t : Int} (h : guessesE l t = 0) : l.length ≤ 64 ∧ tickB t = true ∧ ∀ j (hj : j < l.length), guessB l[j] = true := by
  unfold guessesE at h
  by_cases h1 : 64 < l.length
  · rw [if_pos h1] at h; cases h
  · rw [if_neg h1] at h
    by_cases h2 : tickB t = true
    · rw [if_pos h2] at h; exact ⟨by omega, h2, guessesL_zero h⟩
    · rw [if_neg h2] at h; cases h
def SightsAt (W : World) (p : Option Addr) (l : List SightR) : Prop := ∀ j (h : j < l.length), ∃ B o, p = some ⟨B, o, none⟩ ∧ B < W.heap.size ∧ W.cell? ⟨B, o + j * 9, none⟩ = some (.int .i64 l[j].kind) ∧ W.cell? ⟨B, o + j * 9 + 1, none⟩ = some (.int .i64 l[j].st) ∧ W.cell? ⟨B, o + j * 9 + 2, none⟩ = some (.int .i64 l[j].cat) ∧ W.cell? ⟨B, o + j * 9 + 3, none⟩ = some (.int .i64 l[j].tick) ∧ W.cell? ⟨B, o + j * 9 + 4, none⟩ = some (.int .i64 l[j].dir.x) ∧ W.cell? ⟨B, o + j * 9 + 5, none⟩ = some (.int .i64 l[j].dir.y) ∧ W.cell? ⟨B, o + j * 9 + 6, none⟩ = some (.int .i64 l[j].err) ∧ W.cell? ⟨B, o + j * 9 + 7, none⟩ = some (.int .i64 l[j].lo) ∧ W.cell? ⟨B, o + j * 9 + 8, none⟩ = some (.int .i64 l[j].hi)
theorem SightsAt.ext {W : World} {p : Option Addr} {l : List SightR} (h : SightsAt W p l) (x : Ext W) : SightsAt x.now p l := fun j hj => by
  obtain ⟨B, o, rfl, hB, h1, h2, h3, h4, h5, h6, h7, h8, h9⟩ := h j hj
  exact ⟨B, o, rfl, x.lt hB, (x.cell hB).trans h1, (x.cell hB).trans h2, (x.cell hB).trans h3, (x.cell hB).trans h4, (x.cell hB).trans h5, (x.cell hB).trans h6, (x.cell hB).trans h7, (x.cell hB).trans h8, (x.cell hB).trans h9⟩
theorem SightsAt.on {W W' : World} {p : Option Addr} {l : List SightR} (h : SightsAt W p l) (b : Below W.heap.size W W') : SightsAt W' p l := h.ext ⟨W', b⟩
def LookR.cells (k : LookR) : List Value := [.int .i64 k.tick, .int .i64 k.frm.x, .int .i64 k.frm.y, k.says.val]
def lateB (prev : Option Int) (t : Int) : Bool := match prev with
  | some u => decide (t < u)
  | none => false
def looksA (s : SkyR) : List LookR → Option Int → List SightR → Except Int (List LookR)
  | acc, _, [] => .ok acc
  | acc, prev, x :: l => match lookR s x with
    | .error e => .error e
    | .ok k => if lateB prev x.tick then .error 11 else looksA s (acc ++ [k]) (some x.tick) l
def looksR (s : SkyR) (l : List SightR) : Except Int (List LookR) := if cntE l.length 1 64 = 0 then looksA s [] none l else .error (cntE l.length 1 64)
def prevT (l : List SightR) (i : Nat) : Option Int := if i = 0 then none else (l[i - 1]?).map (·.tick)
theorem prevT_succ {l : List SightR} {i : Nat} (h : i < l.length) : prevT l (i + 1) = some l[i].tick := by
  unfold prevT
  rw [if_neg (by omega), Nat.add_sub_cancel, List.getElem?_eq_getElem h]; rfl
def rowsOf (l : List LookR) : List Value := l.flatMap LookR.cells
theorem rowsOf_add (l : List LookR) (k : LookR) : rowsOf (l ++ [k]) = rowsOf l ++ [.int .i64 k.tick, .int .i64 k.frm.x, .int .i64 k.frm.y, k.says.val] := by
  unfold rowsOf; rw [List.flatMap_append]; simp [LookR.cells]
/-- What a list of looks, or an error, is handed back as. -/
def LooksPost (w : World) (r : Except Int (List LookR)) : Ending → World → Prop := fun e w' => Below w.heap.size w w' ∧ match r with
  | .error n => e = .returned (.tuple #[.slice none 0 0, .int .i64 n])
  | .ok ks => ∃ v, e = .returned (.tuple #[v, .int .i64 0]) ∧ w'.ownsRow w.heap.size 90 4 v ks.length (rowsOf ks)
theorem cells4_new (w : World) (v0 v1 v2 v3 : Value) (T : TypeId) : ∀ j u, [v0, v1, v2, v3][j]? = some u → (w.alloc (.cells #[v0, v1, v2, v3] T)).cell? ((⟨w.heap.size, 0, none⟩ : Addr).add j) = some u := by
  intro j u hj
  have hl : j < 4 := by simpa using (List.getElem?_eq_some_iff.1 hj).1
  have hadd : (⟨w.heap.size, 0, none⟩ : Addr).add j = ⟨w.heap.size, j, none⟩ := by unfold Addr.add; split <;> simp_all
  rw [hadd]
  rcases (show j = 0 ∨ j = 1 ∨ j = 2 ∨ j = 3 by omega) with rfl | rfl | rfl | rfl <;> (simp at hj; subst hj; simp [go_sem])
theorem look_info : (Try.prog.info? 90).map (fun i => (i.zero, i.size, i.bytes)) = some (some (.agg #[.int .i64 0, .int .i64 0, .int .i64 0, .nilIface]), 4, 40) := by kernel_rfl
def LooksAt (W : World) (p : Option Addr) (l : List LookR) : Prop := ∀ j (h : j < l.length), ∃ B o, p = some ⟨B, o, none⟩ ∧ B < W.heap.size ∧ W.cell? ⟨B, o + j * 4, none⟩ = some (.int .i64 l[j].tick) ∧ W.cell? ⟨B, o + j * 4 + 1, none⟩ = some (.int .i64 l[j].frm.x) ∧ W.cell? ⟨B, o + j * 4 + 2, none⟩ = some (.int .i64 l[j].frm.y) ∧ W.cell? ⟨B, o + j * 4 + 3, none⟩ = some l[j].says.val
theorem LooksAt.ext {W : World} {p : Option Addr} {l : List LookR} (h : LooksAt W p l) (x : Ext W) : LooksAt x.now p l := fun j hj => by
  obtain ⟨B, o, rfl, hB, h1, h2, h3, h4⟩ := h j hj
  exact ⟨B, o, rfl, x.lt hB, (x.cell hB).trans h1, (x.cell hB).trans h2, (x.cell hB).trans h3, (x.cell hB).trans h4⟩
theorem LooksAt.on {W W' : World} {p : Option Addr} {l : List LookR} (h : LooksAt W p l) (b : Below W.heap.size W W') : LooksAt W' p l := h.ext ⟨W', b⟩
theorem rowsOf_get (l : List LookR) : ∀ j (h : j < l.length) i u, (LookR.cells l[j])[i]? = some u → (rowsOf l)[j * 4 + i]? = some u := by
  induction l with
  | nil => intro j h; simp at h
  | cons k l ih =>
    intro j h i u hu
    have hi : i < 4 := by simpa [LookR.cells] using (List.getElem?_eq_some_iff.1 hu).1
    have hr : rowsOf (k :: l) = LookR.cells k ++ rowsOf l := by unfold rowsOf; rw [List.flatMap_cons]
    rw [hr]
    cases j with
    | zero => rw [Nat.zero_mul, Nat.zero_add, List.getElem?_append_left (by simp [LookR.cells]; omega)]; exact hu
    | succ j =>
      rw [List.getElem?_append_right (by simp [LookR.cells]; omega)]
      have := ih j (by simpa using h) i u (by simpa using hu)
      rw [← this]
      congr 1
      simp [LookR.cells]; omega
theorem owns_looks {w : World} {base : Nat} {v : Value} {l : List LookR} (h : w.ownsRow base 90 4 v l.length (rowsOf l)) : ∃ p c, v = .slice p l.length c ∧ LooksAt w p l := by
  rcases owns_slice h with ⟨rfl, h0⟩ | ⟨g, cap, rfl, -, hg, hc⟩
  · exact ⟨none, 0, by rw [h0], fun j hj => by omega⟩
  · refine ⟨_, _, rfl, fun j hj => ⟨g, 0, rfl, hg, ?_, ?_, ?_, ?_⟩⟩
    · rw [Nat.zero_add]; exact hc _ _ (rowsOf_get l j hj 0 _ rfl)
    · rw [Nat.zero_add]; exact hc _ _ (rowsOf_get l j hj 1 _ rfl)
    · rw [Nat.zero_add]; exact hc _ _ (rowsOf_get l j hj 2 _ rfl)
    · rw [Nat.zero_add]; exact hc _ _ (rowsOf_get l j hj 3 _ rfl)
/-- A look of a valid sight. -/
def LookR.Fit (k : LookR) : Prop := k.Ok ∧ tickB k.tick = true
theorem lookR_fit {s : SkyR} {x : SightR} {k : LookR} (hE : skyE s = 0) (h : lookR s x = .ok k) : k.Fit := by
  refine ⟨lookR_ok hE h, ?_⟩
  unfold lookR at h
  split at h
  · cases h
  split at h
  · cases h
  rename_i ht
  split at h
  · cases h
  cases hg : wordR s.cats x with
  | error e => rw [hg] at h; cases h
  | ok g => rw [hg] at h; injection h with h; rw [← h]; simpa using ht
def missB (g : StateR) (t : Int) (k : LookR) : Bool := !(k.agrees (strV g (k.tick - t)))
def missA (g : StateR) (t : Int) : List Int → Nat → List LookR → List Int
  | acc, _, [] => acc
  | acc, i, k :: l => missA g t (if missB g t k then acc ++ [(i : Int)] else acc) (i + 1) l
def missL (g : StateR) (t : Int) (l : List LookR) : List Int := missA g t [] 0 l
def intsOf (l : List Int) : List Value := l.map (Value.int .i64)
theorem intsOf_add (l : List Int) (i : Int) : intsOf (l ++ [i]) = intsOf l ++ [.int .i64 i] := by unfold intsOf; simp
/-- A list of numbers that is handed back. -/
def IntsPost (w : World) (l : List Int) : Ending → World → Prop := fun e w' => Below w.heap.size w w' ∧ ∃ v, e = .returned v ∧ w'.ownsRow w.heap.size 3 1 v l.length (intsOf l)
theorem cells1_new (w : World) (v0 : Value) (T : TypeId) : ∀ j u, [v0][j]? = some u → (w.alloc (.cells #[v0] T)).cell? ((⟨w.heap.size, 0, none⟩ : Addr).add j) = some u := by
  intro j u hj
  have hl : j < 1 := by simpa using (List.getElem?_eq_some_iff.1 hj).1
  obtain rfl : j = 0 := by omega
  have hadd : (⟨w.heap.size, 0, none⟩ : Addr).add 0 = ⟨w.heap.size, 0, none⟩ := by unfold Addr.add; split <;> simp_all
  rw [hadd]
  simp at hj; subst hj; simp [go_sem]
theorem int_info : (Try.prog.info? 3).map (fun i => (i.zero, i.size, i.bytes)) = some (some (.int .i64 0), 1, 8) := by kernel_rfl
structure TrR where
  p : Option Addr
  c : Nat
  l : List SightR
def TracksAt (W : World) (p : Option Addr) (ts : List TrR) : Prop := ∀ j (h : j < ts.length), SightsAt W ts[j].p ts[j].l ∧ ∃ B o, p = some ⟨B, o, none⟩ ∧ B < W.heap.size ∧ W.cell? ⟨B, o + j, none⟩ = some (.slice ts[j].p ts[j].l.length ts[j].c)
theorem TracksAt.ext {W : World} {p : Option Addr} {l : List TrR} (h : TracksAt W p l) (x : Ext W) : TracksAt x.now p l := fun j hj => by
  obtain ⟨hs, B, o, rfl, hB, h1⟩ := h j hj
  exact ⟨hs.ext x, B, o, rfl, x.lt hB, (x.cell hB).trans h1⟩
theorem TracksAt.on {W W' : World} {p : Option Addr} {l : List TrR} (h : TracksAt W p l) (b : Below W.heap.size W W') : TracksAt W' p l := h.ext ⟨W', b⟩
/-- Lists of looks in a list. -/
def InnerAt (W : World) (base : Nat) : List Value → List (List LookR) → Prop
  | [], [] => True
  | u :: vs, ks :: kss => W.ownsRow base 90 4 u ks.length (rowsOf ks) ∧ InnerAt W base vs kss
  | _, _ => False
theorem InnerAt.map {W W' : World} {base : Nat} : ∀ {vs : List Value} {kss : List (List LookR)}, InnerAt W base vs kss → (∀ v n xs, W.ownsRow base 90 4 v n xs → W'.ownsRow base 90 4 v n xs) → InnerAt W' base vs kss
  | [], [], _, _ => trivial
  | _ :: _, _ :: _, h, f => ⟨f _ _ _ h.1, InnerAt.map h.2 f⟩
  | [], _ :: _, h, _ => h.elim
  | _ :: _, [], h, _ => h.elim
theorem InnerAt.base {W : World} {b b' : Nat} (hb : b' ≤ b) : ∀ {vs : List Value} {kss : List (List LookR)}, InnerAt W b vs kss → InnerAt W b' vs kss
  | [], [], _ => trivial
  | _ :: _, _ :: _, h => ⟨owns_base h.1 hb, InnerAt.base hb h.2⟩
  | [], _ :: _, h => h.elim
  | _ :: _, [], h => h.elim
theorem InnerAt.snoc {W : World} {base : Nat} {u : Value} {ks : List LookR} (h2 : W.ownsRow base 90 4 u ks.length (rowsOf ks)) : ∀ {vs : List Value} {kss : List (List LookR)}, InnerAt W base vs kss → InnerAt W base (vs ++ [u]) (kss ++ [ks])
  | [], [], _ => ⟨h2, trivial⟩
  | _ :: _, _ :: _, h => ⟨h.1, InnerAt.snoc h2 h.2⟩
  | [], _ :: _, h => h.elim
  | _ :: _, [], h => h.elim
theorem InnerAt.length {W : World} {base : Nat} : ∀ {vs : List Value} {kss : List (List LookR)}, InnerAt W base vs kss → vs.length = kss.length
  | [], [], _ => rfl
  | _ :: _, _ :: _, h => by simp [InnerAt.length h.2]
  | [], _ :: _, h => h.elim
  | _ :: _, [], h => h.elim
theorem InnerAt.below {W W' : World} {base : Nat} {vs : List Value} {kss : List (List LookR)} (h : InnerAt W base vs kss) (b : Below W.heap.size W W') : InnerAt W' base vs kss := h.map fun _ _ _ g => owns_below g b
theorem InnerAt.alloc {W : World} {base : Nat} {vs : List Value} {kss : List (List LookR)} (h : InnerAt W base vs kss) (o : Obj) : InnerAt (W.alloc o) base vs kss := h.map fun _ _ _ g => g.alloc o
theorem owns_apart {w : World} {b b' : Nat} {e e' : TypeId} {s s' : Nat} {v v' : Value} {n n' : Nat} {xs xs' : List Value} (h : w.ownsRow b e s v n xs) (h' : w.ownsRow b' e' s' v' n' xs') (he : e ≠ e') : v.ownBlock = none ∨ v.ownBlock ≠ v'.ownBlock := by
  rcases h.2 with ⟨rfl, _⟩ | ⟨g, cap, cur, rfl, _, hg, _⟩
  · exact .inl rfl
  · rcases h'.2 with ⟨rfl, _⟩ | ⟨g', cap', cur', rfl, _, hg', _⟩
    · exact .inr (by simp [Value.ownBlock])
    · refine .inr fun hh => ?_
      simp only [Value.ownBlock, Option.some.injEq] at hh
      subst hh
      rw [hg] at hg'
      simp only [Option.some.injEq, Obj.cells.injEq] at hg'
      exact he hg'.2.1
def allA (s : SkyR) : List (List LookR) → List TrR → Except Int (List (List LookR))
  | acc, [] => .ok acc
  | acc, t :: ts => match looksR s t.l with
    | .error e => .error e
    | .ok ks => allA s (acc ++ [ks]) ts
def allR (s : SkyR) (ts : List TrR) : Except Int (List (List LookR)) := if skyE s = 0 then allA s [] ts else .error (skyE s)
theorem looksA_err {s : SkyR} : ∀ {l : List SightR} {acc : List LookR} {prev : Option Int} {e : Int}, looksA s acc prev l = .error e → e ≠ 0 := by
  intro l
  induction l with
  | nil => intro acc prev e h; cases h
  | cons x l ih =>
    intro acc prev e h
    rw [looksA] at h
    cases hr : lookR s x with
    | error e' => rw [hr] at h; injection h with h; rw [← h]; exact lookR_err hr
    | ok k =>
      rw [hr] at h
      simp only at h
      split at h
      · injection h; omega
      · exact ih h
theorem looksR_err {s : SkyR} {l : List SightR} {e : Int} (h : looksR s l = .error e) : e ≠ 0 := by
  unfold looksR at h
  by_cases h1 : cntE l.length 1 64 = 0
  · rw [if_pos h1] at h; exact looksA_err h
  · rw [if_neg h1] at h; injection h with h; rw [← h]; exact h1
theorem owns_isSlice {w : World} {b : Nat} {e : TypeId} {s : Nat} {v : Value} {n : Nat} {xs : List Value} (h : w.ownsRow b e s v n xs) : ∃ p n c, v = .slice p n c := by
  rcases h.2 with ⟨rfl, _⟩ | ⟨g, cap, cur, rfl, _⟩
  · exact ⟨_, _, _, rfl⟩
  · exact ⟨_, _, _, rfl⟩
end Go.Proofs.Ytfflbiojcoehmab

/- A range over an iterator that keeps state of its own in cells: the caller's law, and the contract that such an iterator owes. No condition. The first region of blowsOf's iterator: what holds between its operations, and what it leaves. Written by gen_sole.py. No condition. Contract of blowsOf's iterator: the blows of a rock with a fall, by their layers. Condition: valid air, two valid stones, the table of limits as it was laid. Contract of blowsOf's iterator: the blows of a rock with a fall, by their layers. Condition: valid air, two valid stones, the table of limits as it was laid. Contract of CheckRock. Condition: the table of limits stands as it was laid. The blows of a rock with a fall as plain mathematics; rows of blows; blowsOf. No condition. SameBlows; boxes that are written whole, of any size. No condition. Contract of Blows, for valid air and a valid rock with a fall. Condition: the table of limits stands as it was laid. Contract of SoleRock: the rock of one stone. Written by gen_sole.py. No condition. Appending nothing, and all of a list, to a slice of the call's own (for seats without a sky). No condition. What BlastSole asks of the blows of one stone, as plain mathematics. Condition: a valid stone. -/
import Derived.Test.YtpiacndnjehbiaaDoorBase
import Derived.RangeFuncNested
import Derived.RangeFuncFrom
import Derived.RangeFuncBound
import Derived.RangeFuncCalls
import Derived.RangeFuncLeaves
import Derived.Test.YtpiacndnjehbiaaDoorBlFl
import Derived.Test.YtpiacndnjehbiaaDoorBlEnds
import Derived.Shelf.RegionOpen
import Derived.OwnWalkIn
import Derived.TacticsInMore
import Derived.LoopNIn
import Derived.LoopIn
import Derived.Test.YtpiacndnjehbiaaDoorBlS
import Derived.Test.YtpiacndnjehbiaaDoorBlE
import Derived.Test.YtpiacndnjehbiaaDoorBlO
import Derived.Test.YtpiacndnjehbiaaDoorBlReg
import Derived.Test.YtpiacndnjehbiaaDoorBlRows
import Derived.OwnWalk
import Derived.Test.YtpiacndnjehbiaaDoorBlOr
namespace Go.Proofs.YtpiacndnjehbiaaDoor
open Go.RowKit
/-- All blocks but those from lo to hi stand as they did. -/
structure KeptI (lo hi : Nat) (A C : World) : Prop where
  os : C.os = A.os
  tape : C.tape = A.tape
  output : C.output = A.output
  size : A.heap.size ≤ C.heap.size
  block : ∀ k, k < A.heap.size → ¬ (lo ≤ k ∧ k < hi) → C.heap[k]? = A.heap[k]?
theorem KeptI.refl (lo hi : Nat) (A : World) : KeptI lo hi A A := ⟨rfl, rfl, rfl, Nat.le_refl _, fun _ _ _ => rfl⟩
theorem KeptI.of {lo hi : Nat} {A C : World} (h : Below A.heap.size A C) : KeptI lo hi A C := ⟨h.os, h.tape, h.output, h.size, fun k hk _ => h.block k hk⟩
theorem KeptI.trans {lo hi : Nat} {A C E : World} (h : KeptI lo hi A C) (k : KeptI lo hi C E) : KeptI lo hi A E :=
  ⟨k.os.trans h.os, k.tape.trans h.tape, k.output.trans h.output, Nat.le_trans h.size k.size, fun i hi' hn => (k.block i (Nat.lt_of_lt_of_le hi' h.size) hn).trans (h.block i hi' hn)⟩
/-- What a round leaves as it was: all that lay before the call, and the iterator's own blocks. -/
structure KeepB (n₀ lo hi : Nat) (A C : World) : Prop where
  size : A.heap.size ≤ C.heap.size
  block : ∀ k, k < A.heap.size → k < n₀ ∨ (lo ≤ k ∧ k < hi) → C.heap[k]? = A.heap[k]?
theorem KeepB.trans {n₀ lo hi : Nat} {A C E : World} (h : KeepB n₀ lo hi A C) (k : KeepB n₀ lo hi C E) : KeepB n₀ lo hi A E :=
  ⟨Nat.le_trans h.size k.size, fun i hi' hn => (k.block i (Nat.lt_of_lt_of_le hi' h.size) hn).trans (h.block i hi' hn)⟩
theorem KeepB.put {n₀ lo hi l : Nat} {W : World} {o' : Obj} (h1 : n₀ ≤ l) (h2 : l < lo) : KeepB n₀ lo hi W (W.putObj l o') :=
  ⟨by simp [World.putObj], fun k _ hn => World.putObj_heap_other (by omega)⟩
theorem KeepB.of {n₀ lo hi : Nat} {A C : World} (h : Below A.heap.size A C) : KeepB n₀ lo hi A C := ⟨h.size, fun k hk _ => h.block k hk⟩
/-- An iterator with cells of its own: 'xs' has come, or a part of it. The caller's word J may be told of the heap's size behind the iterator's own blocks. -/
def SeqC {α : Type} (F : Fence) (n : Nat) (P : Program) (g : Nat) (lb : Array Value) (encs : α → Array Value) (n₀ : Nat) (S Sp : List α → Prop) (N : Nat) (w : World) : Prop :=
  ∀ (l : Nat) (J Jx : Nat → List α → World → Prop) (W : World), Below w.heap.size w W →
    (∀ B s A C, J B s A → KeptI W.heap.size B A C → J B s C) →
    (∀ B s A C, Jx B s A → KeptI W.heap.size B A C → Jx B s C) →
    (∀ B pre x W1, W.heap.size ≤ B → B ≤ W1.heap.size → J B pre W1 → pre.length < N → YieldAt F (n - 1) P l (encs x) W1 fun e W' =>
      (e = .returned (.bool true) ∧ J B (pre ++ [x]) W' ∧ KeepB n₀ W.heap.size B W1 W') ∨ (e = .returned (.bool false) ∧ Jx B (pre ++ [x]) W')) →
    (∀ W', Below W.heap.size W W' → J W'.heap.size [] W') →
    CallsIn F n P g (#[.func (.yield l) #[] #[]] ++ lb) W fun e W' => (∃ v, e = .returned v) ∧ ((∃ B xs, S xs ∧ J B xs W') ∨ (∃ B pre, Sp pre ∧ Jx B pre W'))
variable {F : Fence} {n : Nat} {P : Program} {w : World}
theorem wpIn_rangeFunc_cells {α : Type} {g : Operand} {ps : Array Tmp} {assign body : Code} {Q : Exit → Act → World → Prop} {a : Act} {w : World}
    (hro : F.round = none) (h1 : 1 ≤ n) {gf : Nat} {lb : Array Value} (hg : a.eval g = .func (.func gf) #[] lb) (hFg : F.fn gf) (eg : ∀ args w, (callFunc gf args).run P w = .ok (.enter gf args) w)
    {encs : α → Array Value} {S Sp : List α → Prop} {N n₀ : Nat} {w0 : World} (hn₀ : n₀ ≤ w.heap.size) (hseq : SeqC F (n - 1) P gf lb encs n₀ S Sp N w0) (hb0 : Below w0.heap.size w0 w) (hps : ∀ x, (encs x).size = ps.size)
    (I : Nat → List α → World → Prop) (Ix : Code → Nat → List α → World → Prop) (hI : ∀ B, OwnFrom w.heap.size (I B)) (hIx : ∀ c B, OwnFrom w.heap.size (Ix c B))
    (hI2 : ∀ B s A C, I B s A → KeptI (w.heap.size + 2) B A C → I B s C) (hIx2 : ∀ c B s A C, Ix c B s A → KeptI (w.heap.size + 2) B A C → Ix c B s C)
    (h0 : ∀ W', Below w.heap.size w W' → I W'.heap.size [] W') (Ax : Nat → α → Act → World → Prop) (hAx : ∀ B x a', OwnFrom w.heap.size (fun (_ : Unit) W => Ax B x a' W))
    (hassign : ∀ (l : Nat) (B : Nat) (pre : List α) (x : α) (W : World) (K : Act → World → Prop), w.heap.size + 2 ≤ B → B ≤ W.heap.size → I B pre W → (∀ a' W', KeepsFrom w.heap.size W W' → KeepB n₀ (w.heap.size + 2) B W W' → I B pre W' → Ax B x a' W' → K a' W') →
      assign.wpIn (F.inRound l) (n - 1 - 1) P (Exit.then K (fun _ _ _ => False)) { tmps := (ps.zip (encs x)).foldl (fun t (p, v) => t.setIfInBounds p v) a.tmps, defers := [] } W)
    (hbody : ∀ (l : Nat) (B : Nat) (pre : List α) (x : α) (a' : Act) (W : World), w.heap.size ≤ l → (∃ r, W.heap[l]? = some (.loop r)) → w.heap.size + 2 ≤ B → B ≤ W.heap.size → I B pre W → Ax B x a' W → pre.length < N → body.wpIn (F.inRound l) (n - 1 - 1) P (ownPostG w.heap.size (KeepB n₀ (w.heap.size + 2) B) (I B) (fun c => Ix c B) (pre ++ [x]) W) a' W)
    (hdone : ∀ (D : Nat) (B : Nat) (xs : List α) (W : World), w.heap.size ≤ D → S xs → I B xs W → W.heap[D]? = some (.deferred (some [])) → Q .normal { a with defers := { target := .collected D, args := #[] } :: a.defers } W)
    (hstop : ∀ (D : Nat) (c : Code) (B : Nat) (pre : List α) (W : World), w.heap.size ≤ D → Sp pre → Ix c B pre W → W.heap[D]? = some (.deferred (some [])) → c.wpIn F n P Q { a with defers := { target := .collected D, args := #[] } :: a.defers } W) :
    (Code.rangeFunc g ps assign body).wpIn F n P Q a w := by
  refine wpIn_rangeFunc ?_
  intro fn hfn
  rw [hro]
  obtain ⟨rec, hrec⟩ : ∃ rec : LoopState → Option Code → Loop, rec = fun st pe => { state := st, pending := pe, fn, tmps := a.tmps, params := ps, assign, body, defers := w.heap.size } := ⟨_, rfl⟩
  obtain ⟨W1, hW1⟩ : ∃ W1, (w.alloc (.deferred (some []))).alloc (.loop (rec .ready none)) = W1 := ⟨_, rfl⟩
  have hs1 : W1.heap.size = w.heap.size + 2 := by rw [← hW1]; simp
  have hL1 : W1.heap[w.heap.size + 1]? = some (.loop (rec .ready none)) := by
    rw [← hW1]; have := World.alloc_heap_new (w.alloc (.deferred (some []))) (.loop (rec .ready none)); rwa [World.size_alloc] at this
  have hK1 : W1.heap[w.heap.size]? = some (.deferred (some [])) := by
    rw [← hW1]; exact (Below.heap_alloc _ _ _ (by simp)).trans (World.alloc_heap_new w _)
  have hbw : Below w.heap.size w W1 := by rw [← hW1]; exact ((Below.refl _ w).alloc (Nat.le_refl _) _).alloc (by simp) _
  have hb1 : Below w0.heap.size w0 W1 := hb0.trans (hbw.mono hb0.size)
  refine ⟨w.heap.size + 1, [{ target := .collected w.heap.size, args := #[] }], W1, { target := .fn (.func gf) lb, args := #[.func (.yield (w.heap.size + 1)) #[] #[]] }, W1, gf,
    #[.func (.yield (w.heap.size + 1)) #[] #[]] ++ lb, W1, ?_, ?_, ?_, ?_, fun _ => h1, ?_⟩
  · rw [← hW1, hrec]; exact run_enterLoop_outer _ _ _ _ _
  · simp only [resolve, hg]
    simp [go_sem]
  · intro f' hf'; simp [Target.leads] at hf'; subst hf'; exact hFg
  · simp [invoke, go_sem, eg]
  · refine (hseq (w.heap.size + 1)
      (fun B pre W => I B pre W ∧ W.heap[w.heap.size + 1]? = some (.loop (rec .ready none)) ∧ W.heap[w.heap.size]? = some (.deferred (some [])))
      (fun B pre W => ∃ c, Ix c B pre W ∧ W.heap[w.heap.size + 1]? = some (.loop (rec .done (some c))) ∧ W.heap[w.heap.size]? = some (.deferred (some [])))
      W1 hb1
      (fun B s A C hs hk => ⟨hI2 B s A C hs.1 (hs1 ▸ hk), (hk.block _ (Array.getElem?_eq_some_iff.1 hs.2.1).1 (by omega)).trans hs.2.1, (hk.block _ (Array.getElem?_eq_some_iff.1 hs.2.2).1 (by omega)).trans hs.2.2⟩)
      (fun B s A C hs hk => by
        obtain ⟨c, hc, hl, hd⟩ := hs
        exact ⟨c, hIx2 c B s A C hc (hs1 ▸ hk), (hk.block _ (Array.getElem?_eq_some_iff.1 hl).1 (by omega)).trans hl, (hk.block _ (Array.getElem?_eq_some_iff.1 hd).1 (by omega)).trans hd⟩)
      ?_ (fun W' hW' => ⟨h0 W' (hbw.trans (hW'.mono hbw.size)), (hW'.block _ (by omega)).trans hL1, (hW'.block _ (by omega)).trans hK1⟩)).mono ?_
    · rintro B pre x W hB1 hB2 ⟨hi, hl, hk⟩ hlen
      rw [hs1] at hB1 ⊢
      have hlt : w.heap.size + 1 < W.heap.size := (Array.getElem?_eq_some_iff.1 hl).1
      have hy := run_yield (P := P) (args := encs x) hl (by rw [hrec]; exact hps x)
      rw [hrec] at hy
      refine ⟨fn, _, assign, body, hy, roundIn_of_wpIn hfn (hassign _ B pre x W _ hB1 hB2 hi ?_)⟩
      clear hy
      intro a' Wa hkfa hkpa hia hax
      replace hl := hkfa.same _ _ (by omega) hl rfl
      replace hk := hkfa.same _ _ (Nat.le_refl _) hk rfl
      replace hlt : w.heap.size + 1 < Wa.heap.size := (Array.getElem?_eq_some_iff.1 hl).1
      replace hi := hia
      replace hB2 : B ≤ Wa.heap.size := Nat.le_trans hB2 hkfa.size
      clear hia
      revert hkpa hkfa
      generalize W = Wb
      intro hkfa hkpa
      obtain ⟨W, rfl⟩ : ∃ W, W = Wa := ⟨_, rfl⟩
      refine ⟨_, run_beginRound hl (by rw [hrec]), ?_⟩
      have hl2 : (W.putObj (w.heap.size + 1) (.loop { rec .ready none with state := .busy })).heap[w.heap.size + 1]? = some (.loop { rec .ready none with state := .busy }) := World.putObj_heap_same hlt
      have hk2 : (W.putObj (w.heap.size + 1) (.loop { rec .ready none with state := .busy })).heap[w.heap.size]? = some (.deferred (some [])) := (World.putObj_heap_other (by omega)).trans hk
      have hw2 : KeepB n₀ (w.heap.size + 2) B W (W.putObj (w.heap.size + 1) (.loop { rec .ready none with state := .busy })) := KeepB.put (by omega) (by omega)
      refine wpIn_mono (hbody _ B pre x a' _ (by omega) ⟨_, hl2⟩ hB1 (by simpa [World.putObj] using hB2) ((hI B).putObj _ hi (by omega) hl rfl) ((hAx B x a').putObj (s := ()) _ hax (by omega) hl rfl) hlen) ?_
      have fin : ∀ (jump : Option Code) (W3 : World), KeepsFrom w.heap.size (W.putObj (w.heap.size + 1) (.loop { rec .ready none with state := .busy })) W3 →
          (Instr.endRound (w.heap.size + 1) jump).run P W3 = .ok (.bool jump.isNone) (W3.putObj (w.heap.size + 1) (.loop (rec (if jump.isNone then .ready else .done) jump))) ∧
          W3.heap[w.heap.size + 1]? = some (.loop { rec .ready none with state := .busy }) ∧
          (W3.putObj (w.heap.size + 1) (.loop (rec (if jump.isNone then .ready else .done) jump))).heap[w.heap.size + 1]? = some (.loop (rec (if jump.isNone then .ready else .done) jump)) ∧
          (W3.putObj (w.heap.size + 1) (.loop (rec (if jump.isNone then .ready else .done) jump))).heap[w.heap.size]? = some (.deferred (some [])) := fun jump W3 hk3 => by
        have hl3 := hk3.same _ _ (by omega) hl2 rfl
        have := run_endRound (P := P) jump hl3
        rw [hrec] at this ⊢
        exact ⟨this, by rw [hrec] at hl3; exact hl3, World.putObj_heap_same (Array.getElem?_eq_some_iff.1 hl3).1, (World.putObj_heap_other (by omega)).trans (hk3.same _ _ (Nat.le_refl _) hk2 rfl)⟩
      rintro e a3 W3 hp
      cases e with
      | normal =>
        obtain ⟨hk3, hkp3, hi3⟩ := hp
        obtain ⟨hr, hl3, hl4, hk4⟩ := fin none W3 hk3
        exact ⟨_, _, hr, .inl ⟨rfl, ⟨(hI B).putObj _ hi3 (by omega) hl3 rfl, hl4, hk4⟩, hkpa.trans ((hw2.trans hkp3).trans (KeepB.put (by omega) (by omega)))⟩⟩
      | ret =>
        obtain ⟨hk3, hi3⟩ := hp
        obtain ⟨hr, hl3, hl4, hk4⟩ := fin (some .ret) W3 hk3
        exact ⟨_, _, hr, .inr ⟨rfl, .ret, (hIx _ B).putObj _ hi3 (by omega) hl3 rfl, hl4, hk4⟩⟩
      | exit id =>
        obtain ⟨hk3, hi3⟩ := hp
        obtain ⟨hr, hl3, hl4, hk4⟩ := fin (some (.exit id)) W3 hk3
        exact ⟨_, _, hr, .inr ⟨rfl, .exit id, (hIx _ B).putObj _ hi3 (by omega) hl3 rfl, hl4, hk4⟩⟩
      | goto t =>
        obtain ⟨hk3, hi3⟩ := hp
        obtain ⟨hr, hl3, hl4, hk4⟩ := fin (some (.goto t)) W3 hk3
        exact ⟨_, _, hr, .inr ⟨rfl, .goto t, (hIx _ B).putObj _ hi3 (by omega) hl3 rfl, hl4, hk4⟩⟩
      | panic ch => exact hp.elim
      | outgrown => exact hp.elim
    · rintro e W2 ⟨⟨v, rfl⟩, (⟨B, xs, hS, hi, hl, hk⟩ | ⟨B, pre, hSp, c, hi, hl, hk⟩)⟩
      · exact ⟨none, _, by have := run_endLoop (P := P) hl (by rw [hrec]; simp); rw [hrec] at this; exact this, hdone _ B xs _ (Nat.le_refl _) hS ((hI B).putObj _ hi (by omega) hl rfl) ((World.putObj_heap_other (by omega)).trans hk)⟩
      · exact ⟨some c, _, by have := run_endLoop (P := P) hl (by rw [hrec]; simp); rw [hrec] at this; exact this, hstop _ c B pre _ (Nat.le_refl _) hSp ((hIx c B).putObj _ hi (by omega) hl rfl) ((World.putObj_heap_other (by omega)).trans hk)⟩
end Go.Proofs.YtpiacndnjehbiaaDoor
namespace Go.Proofs.YtpiacndnjehbiaaDoor
open Go.RowKit Go.Shelf
attribute [local go_sem] Option.isSome_some Ext.cell Ext.frozen Ext.lt Ext.le Ext.lt_add Ext.le_add Ext.ne Ext.ne' lt2 lt3 lt4 lt5 le2 le3 le4
theorem size_setRow2 (W : World) (g : Nat) (cs : Array Value) : (W.setRow g cs).heap.size = W.heap.size := by simp [World.setRow]
theorem below_row {n g : Nat} {w W : World} (h : Below n w W) (hg : n ≤ g) (cs : Array Value) : Below n w (W.setRow g cs) := below_setRow h hg cs
def blwDeps : List (List Nat) := [[], [], [], [1, 2], [0, 3], [], [], [], [6, 7, 4], [5, 8], [], [], [10, 4, 9], [11, 9, 12]]
def blwInv (k : RockR) (f : FallR) (s t : StoneR) (p : Option Addr) (cap n : Nat) (a0 : Act) (X : World) (l : List Bool) (fr : Act) (W : World) : Prop :=
  ∃ s5 s6 s8 s9 s10 s11 s12 s13 s14 s15 s16 s17 : Value, fr = sets a0 [(5, s5), (6, s6), (8, s8), (9, s9), (10, s10), (11, s11), (12, s12), (13, s13), (14, s14), (15, s15), (16, s16), (17, s17)] ∧ Below X.heap.size X W ∧
    (l.getD 10 false = true → l.getD 11 false = true → s5 ≠ s6) ∧
    (l.getD 12 false = true → l.getD 10 false = true) ∧
    (l.getD 13 false = true → l.getD 11 false = true) ∧
    (l.getD 0 false = true → s8 = .slice p n cap) ∧
    (l.getD 1 false = true → s9 = .agg #[.int .i64 k.size.x, .int .i64 k.size.y, .int .i64 k.dens.x, .int .i64 k.dens.y, .int .i64 k.strong.x, .int .i64 k.strong.y, .int .i64 k.spin.x, .int .i64 k.spin.y, .int .i64 k.shape.x, .int .i64 k.shape.y, .bool k.pile]) ∧
    (l.getD 2 false = true → s10 = .agg #[.int .i64 f.speed.x, .int .i64 f.speed.y, .int .i64 f.slope.x, .int .i64 f.slope.y]) ∧
    (l.getD 3 false = true → s11 = .agg #[.int .i64 s.size, .int .i64 s.dens, .int .i64 s.strong, .int .i64 s.spin, .int .i64 s.shape, .bool s.pile, .int .i64 s.speed, .int .i64 s.slope]) ∧
    (l.getD 4 false = true → s12 = .agg #[.slice p n cap, .int .i64 s.size, .int .i64 s.dens, .int .i64 s.strong, .int .i64 s.spin, .int .i64 s.shape, .bool s.pile, .int .i64 s.speed, .int .i64 s.slope, .int .i64 0, .int .i64 (s.speed * s.speed)]) ∧
    (l.getD 5 false = true → s13 = .slice p n cap) ∧
    (l.getD 6 false = true → s14 = .agg #[.int .i64 k.size.x, .int .i64 k.size.y, .int .i64 k.dens.x, .int .i64 k.dens.y, .int .i64 k.strong.x, .int .i64 k.strong.y, .int .i64 k.spin.x, .int .i64 k.spin.y, .int .i64 k.shape.x, .int .i64 k.shape.y, .bool k.pile]) ∧
    (l.getD 7 false = true → s15 = .agg #[.int .i64 f.speed.x, .int .i64 f.speed.y, .int .i64 f.slope.x, .int .i64 f.slope.y]) ∧
    (l.getD 8 false = true → s16 = .agg #[.int .i64 t.size, .int .i64 t.dens, .int .i64 t.strong, .int .i64 t.spin, .int .i64 t.shape, .bool t.pile, .int .i64 t.speed, .int .i64 t.slope]) ∧
    (l.getD 9 false = true → s17 = .agg #[.slice p n cap, .int .i64 t.size, .int .i64 t.dens, .int .i64 t.strong, .int .i64 t.spin, .int .i64 t.shape, .bool t.pile, .int .i64 t.speed, .int .i64 t.slope, .int .i64 0, .int .i64 (t.speed * t.speed)]) ∧
    (l.getD 10 false = true → ∃ g : Nat, s5 = .pointer (some ⟨g, 0, none⟩) ∧ X.heap.size ≤ g ∧ g < W.heap.size ∧ (l.getD 12 false = false → W.heap[g]? = some (.cells #[.slice none 0 0, .int .i64 0, .int .i64 0, .int .i64 0, .int .i64 0, .int .i64 0, .bool false, .int .i64 0, .int .i64 0, .int .i64 0, .int .i64 0] 103 (0, 0))) ∧ (l.getD 12 false = true → W.heap[g]? = some (.cells #[.slice p n cap, .int .i64 s.size, .int .i64 s.dens, .int .i64 s.strong, .int .i64 s.spin, .int .i64 s.shape, .bool s.pile, .int .i64 s.speed, .int .i64 s.slope, .int .i64 0, .int .i64 (s.speed * s.speed)] 103 (0, 0)))) ∧
    (l.getD 11 false = true → ∃ g : Nat, s6 = .pointer (some ⟨g, 0, none⟩) ∧ X.heap.size ≤ g ∧ g < W.heap.size ∧ (l.getD 13 false = false → W.heap[g]? = some (.cells #[.slice none 0 0, .int .i64 0, .int .i64 0, .int .i64 0, .int .i64 0, .int .i64 0, .bool false, .int .i64 0, .int .i64 0, .int .i64 0, .int .i64 0] 103 (0, 0))) ∧ (l.getD 13 false = true → W.heap[g]? = some (.cells #[.slice p n cap, .int .i64 t.size, .int .i64 t.dens, .int .i64 t.strong, .int .i64 t.spin, .int .i64 t.shape, .bool t.pile, .int .i64 t.speed, .int .i64 t.slope, .int .i64 0, .int .i64 (t.speed * t.speed)] 103 (0, 0))))
def blwTold (s t : StoneR) (p : Option Addr) (cap n : Nat) : Act → World → Act → World → Prop := fun a X a' W => ∃ (g h : Nat), a' = sets a [(5, .pointer (some ⟨g, 0, none⟩)), (6, .pointer (some ⟨h, 0, none⟩)), (8, a'.tmps.getD 8 undef), (9, a'.tmps.getD 9 undef), (10, a'.tmps.getD 10 undef), (11, a'.tmps.getD 11 undef), (12, a'.tmps.getD 12 undef), (13, a'.tmps.getD 13 undef), (14, a'.tmps.getD 14 undef), (15, a'.tmps.getD 15 undef), (16, a'.tmps.getD 16 undef), (17, a'.tmps.getD 17 undef)] ∧ Below X.heap.size X W ∧ X.heap.size ≤ g ∧ X.heap.size ≤ h ∧ g ≠ h ∧ g < W.heap.size ∧ h < W.heap.size ∧ W.heap[g]? = some (.cells #[.slice p n cap, .int .i64 s.size, .int .i64 s.dens, .int .i64 s.strong, .int .i64 s.spin, .int .i64 s.shape, .bool s.pile, .int .i64 s.speed, .int .i64 s.slope, .int .i64 0, .int .i64 (s.speed * s.speed)] 103 (0, 0)) ∧ W.heap[h]? = some (.cells #[.slice p n cap, .int .i64 t.size, .int .i64 t.dens, .int .i64 t.strong, .int .i64 t.spin, .int .i64 t.shape, .bool t.pile, .int .i64 t.speed, .int .i64 t.slope, .int .i64 0, .int .i64 (t.speed * t.speed)] 103 (0, 0))
end Go.Proofs.YtpiacndnjehbiaaDoor
namespace Go.Proofs.YtpiacndnjehbiaaDoor
open Go.RowKit Go.Shelf
attribute [local go_sem] Oper.semAt_some
attribute [local go_sem] Option.isSome_some Ext.cell Ext.frozen Ext.lt Ext.le Ext.lt_add Ext.le_add Ext.ne Ext.ne' lt2 lt3 lt4 lt5 le2 le3 le4
/-- A blow, and whether all stones have ended by then. -/
structure BlowR where
  n : Nat
  lo : Int
  hi : Int
  all : Bool
def BlowR.val (x : BlowR) : Value := .agg #[.int .i64 x.n, .int .i64 x.lo, .int .i64 x.hi]
def BlowR.enc (x : BlowR) : Array Value := #[.agg #[.int .i64 x.n, .int .i64 x.lo, .int .i64 x.hi], .bool x.all]
/-- The blows of two stones, the early and the late one, by their layers. -/
def blowsL (s t : StoneR) : List V2 → Nat → Int → Int → List BlowR
  | [], i, we, wl => [⟨i, massV t * wl, massV s * we, true⟩]
  | v :: l, i, we, wl => (if burstB s v.y we = true then [⟨i, massV t * wl, massV s * we, burstB t v.y wl⟩] else []) ++ blowsL s t l (i + 1) (stp we (kOf s v) (dOf s)) (stp wl (kOf t v) (dOf t))
set_option maxRecDepth 100000 in
set_option maxHeartbeats 8000000 in
theorem blow_any (G H : Nat) (p : Option Addr) (cap : Nat) (l : List V2) (s t : StoneR) (i j : Nat) (we wl : Int) (w : World) (hlim : LimAt w) (hf : FallAt w G p cap l s i we) (hg : FallAt w H p cap l t j wl) (hs : s.Ok) (ht : t.Ok) (hw : 0 ≤ we ∧ we ≤ 64000000) (hw2 : 0 ≤ wl ∧ wl ≤ 64000000) :
    Calls Tryd.prog 69 #[.pointer (some ⟨G, 0, none⟩), .pointer (some ⟨H, 0, none⟩)] w (Gives (.agg #[.int .i64 i, .int .i64 (massV t * wl), .int .i64 (massV s * we)]) w) := by
  have k9 : w.cell? ⟨G, 9, none⟩ = some (.int .i64 i) := (cell_of_row w _ 9 _ _ _ hf.1).trans rfl
  have hG : G < w.heap.size := row_lt hf.1
  have hH : H < w.heap.size := row_lt hg.1
  have c1 := fun (W : World) (y : Below w.heap.size w W) => energy_any H p cap l t j wl W (hlim.on y) ⟨(y.block H hH).trans hg.1, hg.2.on y⟩ ht hw2
  have c2 := fun (W : World) (y : Below w.heap.size w W) => energy_any G p cap l s i we W (hlim.on y) ⟨(y.block G hG).trans hf.1, hf.2.on y⟩ hs hw
  generalize massV t * wl = a at *
  generalize massV s * we = b at *
  clear hf hg hs ht hw hw2
  go_enter Tryd.func69, Tryd.ntmps69
  go_upto_region 1 with fail
  refine wp_named (fun W0 hW => ?_)
  have z0 : W0.cell? ⟨w.heap.size, 0, none⟩ = some (.int .i64 0) := by rw [← hW]; simp [go_sem]
  have z1 : W0.cell? ⟨w.heap.size, 1, none⟩ = some (.int .i64 0) := by rw [← hW]; simp [go_sem]
  have z2 : W0.cell? ⟨w.heap.size, 2, none⟩ = some (.int .i64 0) := by rw [← hW]; simp [go_sem]
  have f0 : W0.frozen? ⟨w.heap.size, 0, none⟩ = false := by rw [← hW]; simp [go_sem]
  have f1 : W0.frozen? ⟨w.heap.size, 1, none⟩ = false := by rw [← hW]; simp [go_sem]
  have f2 : W0.frozen? ⟨w.heap.size, 2, none⟩ = false := by rw [← hW]; simp [go_sem]
  have hl : w.heap.size < W0.heap.size := by rw [← hW]; simp
  have hB0 : Below w.heap.size w W0 := by rw [← hW]; repeat' (first | (with_reducible exact Below.refl _ _) | (with_reducible assumption) | (with_reducible refine Ext.below _ ?_ ?_) | (with_reducible refine Below.on ?_ (by with_reducible assumption) ?_) | (with_reducible refine Below.alloc ?_ ?_ _) | (with_reducible refine Below.drew ?_) | (with_reducible refine Below.setCell ?_ ?_ _) | (with_reducible exact Nat.le_refl _) | omega | (simp; done) | (simp [go_sem]; done) | (simp at *; omega))
  replace k9 := (hB0.cell (p := ⟨G, 9, none⟩) hG).trans k9
  have hG0 : G < W0.heap.size := by omega
  clear hW
  (first | with_reducible refine wp_region_ext2_heads 6 (by kernel_rfl) (by kernel_rfl) ?_ | with_reducible refine wp_region_ext_heads 6 (by kernel_rfl) (by kernel_rfl) ?_); simp only [List.take_succ_cons, List.take_zero, List.length_cons, List.length_nil, Nat.reduceAdd, Nat.reduceSub]; (repeat (first | go_big_quiet_step ((first | (go_at_call 57; with_reducible exact Calls.ext (c1 _ (by repeat' (first | (with_reducible exact Below.refl _ _) | (with_reducible assumption) | (with_reducible refine Ext.below _ ?_ ?_) | (with_reducible refine Below.on ?_ (by with_reducible assumption) ?_) | (with_reducible refine Below.alloc ?_ ?_ _) | (with_reducible refine Below.drew ?_) | (with_reducible refine Below.setCell ?_ ?_ _) | (with_reducible exact Nat.le_refl _) | omega | (simp; done) | (simp [go_sem]; done) | (simp at *; omega))))) | (go_at_call 57; with_reducible exact Calls.ext (c2 _ (by repeat' (first | (with_reducible exact Below.refl _ _) | (with_reducible assumption) | (with_reducible refine Ext.below _ ?_ ?_) | (with_reducible refine Below.on ?_ (by with_reducible assumption) ?_) | (with_reducible refine Below.alloc ?_ ?_ _) | (with_reducible refine Below.drew ?_) | (with_reducible refine Below.setCell ?_ ?_ _) | (with_reducible exact Nat.le_refl _) | omega | (simp; done) | (simp [go_sem]; done) | (simp at *; omega))))))) | quiet_step ((first | (go_at_call 57; with_reducible exact Calls.ext (c1 _ (by repeat' (first | (with_reducible exact Below.refl _ _) | (with_reducible assumption) | (with_reducible refine Ext.below _ ?_ ?_) | (with_reducible refine Below.on ?_ (by with_reducible assumption) ?_) | (with_reducible refine Below.alloc ?_ ?_ _) | (with_reducible refine Below.drew ?_) | (with_reducible refine Below.setCell ?_ ?_ _) | (with_reducible exact Nat.le_refl _) | omega | (simp; done) | (simp [go_sem]; done) | (simp at *; omega))))) | (go_at_call 57; with_reducible exact Calls.ext (c2 _ (by repeat' (first | (with_reducible exact Below.refl _ _) | (with_reducible assumption) | (with_reducible refine Ext.below _ ?_ ?_) | (with_reducible refine Below.on ?_ (by with_reducible assumption) ?_) | (with_reducible refine Below.alloc ?_ ?_ _) | (with_reducible refine Below.drew ?_) | (with_reducible refine Below.setCell ?_ ?_ _) | (with_reducible exact Nat.le_refl _) | omega | (simp; done) | (simp [go_sem]; done) | (simp at *; omega))))))))); refine wpQuiet_nil ?_; rintro _ ⟨yr, rfl⟩; have syr := Ext.size yr; (repeat (first | rw [World.size_alloc] at syr | rw [World.size_setCell] at syr | rw [World.size_drew] at syr)); (refine wpAny_ready (rs := [6]) (by kernel_rfl) (by simp) ?_; refine AllReady.cons rfl (fun K hK => ?_) AllReady.nil; go_simp; refine hK _ _ ?_; clear hK K); refine wpAny_done (by kernel_rfl) ?_ _
  have y0 := (yr.cell (o := 0) hl).trans z0
  have y1 := (yr.cell (o := 1) hl).trans z1
  have y2 := (yr.cell (o := 2) hl).trans z2
  go_wp2_with fail
  refine bodyPost_ret (v := .agg #[.int .i64 i, .int .i64 a, .int .i64 b]) (by simp (maxDischargeDepth := 9) [results, Tryd.results69, go_sem, y0, y1, y2]) rfl ?_
  refine ⟨rfl, ?_⟩
  repeat' (first | (with_reducible exact Below.refl _ _) | (with_reducible assumption) | (with_reducible refine Ext.below _ ?_ ?_) | (with_reducible refine Below.on ?_ (by with_reducible assumption) ?_) | (with_reducible refine Below.alloc ?_ ?_ _) | (with_reducible refine Below.drew ?_) | (with_reducible refine Below.setCell ?_ ?_ _) | (with_reducible exact Nat.le_refl _) | omega | (simp; done) | (simp [go_sem]; done) | (simp at *; omega))
end Go.Proofs.YtpiacndnjehbiaaDoor
namespace Go.Proofs.YtpiacndnjehbiaaDoor
open Go.RowKit Go.Shelf
attribute [local go_sem] Oper.semAt_some
attribute [local go_sem] Option.isSome_some Ext.cell Ext.frozen Ext.lt Ext.le Ext.lt_add Ext.le_add Ext.ne Ext.ne' lt2 lt3 lt4 lt5 le2 le3 le4
theorem keptI_rext {lo hi b : Nat} {A : World} (y : RExt A b) (h1 : lo ≤ b) (h2 : b < hi) : KeptI lo hi A y.now :=
  ⟨y.grew.os, y.grew.tape, y.grew.output, y.grew.size, fun k hk hn => y.grew.block k hk (by omega)⟩
theorem VecsAt.keepB {n₀ lo hi : Nat} {A C : World} {p : Option Addr} {l : List V2} (h : VecsAt A p l) (hk : KeepB n₀ lo hi A C) (hp : ∀ B o, l.length ≠ 0 → p = some ⟨B, o, none⟩ → B < n₀) : VecsAt C p l := fun j hj => by
  obtain ⟨B, o, e, hB, h1, h2⟩ := h j hj
  have hb := hk.block B hB (.inl (hp B o (by omega) e))
  exact ⟨B, o, e, Nat.lt_of_lt_of_le hB hk.size, (World.cell?_of_block (a := ⟨B, o + j * 2, none⟩) hb).trans h1, (World.cell?_of_block (a := ⟨B, o + j * 2 + 1, none⟩) hb).trans h2⟩
theorem LimAt.keepB {n₀ lo hi : Nat} {A C : World} (h : LimAt A) (hk : KeepB n₀ lo hi A C) (hl : 0 < n₀) : LimAt C := by
  have hb := hk.block 0 h.lt (.inl hl)
  exact ⟨Nat.lt_of_lt_of_le h.lt hk.size, fun i hi => (World.cell?_of_block (a := ⟨0, i, none⟩) hb).trans (h.cell i hi)⟩
theorem LimAt.rexts {b : Nat} {A : World} (h : LimAt A) (hb : 0 < b) (y : RExt A b) : LimAt y.now := h.rext (by omega) y
theorem goOn_w2 {l : List V2} {s : StoneR} {i : Nat} {wv : Int} (hs : s.Ok) (hair : ∀ v ∈ l, (1 ≤ v.x ∧ v.x ≤ 1000) ∧ 0 ≤ v.y ∧ v.y ≤ 1000) (hi : i < l.length) (hw : 0 ≤ wv ∧ wv ≤ 64000000) : 0 ≤ stp wv (kOf s l[i]) (dOf s) ∧ stp wv (kOf s l[i]) (dOf s) ≤ 64000000 := by
  obtain ⟨hx, hy⟩ := hair l[i] (List.getElem_mem hi)
  have := stp_le hw.1 (k_bounds hs hx hy).2.2 (show 0 < dOf s by have := (d_bounds hs).2; omega)
  exact ⟨stp_nonneg _ _ _, by omega⟩
theorem speed_w {s : StoneR} (hs : s.Ok) : 0 ≤ s.speed * s.speed ∧ s.speed * s.speed ≤ 64000000 := by
  have a := hs.speed
  have b := Int.mul_nonneg (show 0 ≤ s.speed by omega) (show 0 ≤ s.speed by omega)
  have c := Int.mul_le_mul a.2 a.2 (by omega) (by omega)
  omega
set_option maxRecDepth 100000 in
set_option maxHeartbeats 16000000 in
theorem blows_seq (nn : Nat) (hn : 1 ≤ nn) (LB KB FB n₀ : Nat) (p : Option Addr) (cap : Nat) (l : List V2) (k : RockR) (f : FallR) (w : World) (hlim : LimAt w) (hln : 0 < n₀) (hv : VecsAt w p l) (hpn : ∀ A o, l.length ≠ 0 → p = some ⟨A, o, none⟩ → A < n₀) (hl : l.length ≤ 32) (hair : ∀ v ∈ l, (1 ≤ v.x ∧ v.x ≤ 1000) ∧ 0 ≤ v.y ∧ v.y ≤ 1000) (hs : (firstS k f).Ok) (ht : (lastS k f).Ok) (hnw : n₀ ≤ w.heap.size)
    (a0 : w.cell? ⟨LB, 0, none⟩ = some (.slice p l.length cap)) (c0 : w.cell? ⟨KB, 0, none⟩ = some (.int .i64 k.size.x)) (c1 : w.cell? ⟨KB, 1, none⟩ = some (.int .i64 k.size.y)) (c2 : w.cell? ⟨KB, 2, none⟩ = some (.int .i64 k.dens.x)) (c3 : w.cell? ⟨KB, 3, none⟩ = some (.int .i64 k.dens.y)) (c4 : w.cell? ⟨KB, 4, none⟩ = some (.int .i64 k.strong.x)) (c5 : w.cell? ⟨KB, 5, none⟩ = some (.int .i64 k.strong.y)) (c6 : w.cell? ⟨KB, 6, none⟩ = some (.int .i64 k.spin.x)) (c7 : w.cell? ⟨KB, 7, none⟩ = some (.int .i64 k.spin.y)) (c8 : w.cell? ⟨KB, 8, none⟩ = some (.int .i64 k.shape.x)) (c9 : w.cell? ⟨KB, 9, none⟩ = some (.int .i64 k.shape.y)) (c10 : w.cell? ⟨KB, 10, none⟩ = some (.bool k.pile)) (d0 : w.cell? ⟨FB, 0, none⟩ = some (.int .i64 f.speed.x)) (d1 : w.cell? ⟨FB, 1, none⟩ = some (.int .i64 f.speed.y)) (d2 : w.cell? ⟨FB, 2, none⟩ = some (.int .i64 f.slope.x)) (d3 : w.cell? ⟨FB, 3, none⟩ = some (.int .i64 f.slope.y)) (hLB : LB < w.heap.size) (hKB : KB < w.heap.size) (hFB : FB < w.heap.size) :
    SeqC Fence.wide nn Tryd.prog 66 #[.pointer (some ⟨LB, 0, none⟩), .pointer (some ⟨KB, 0, none⟩), .pointer (some ⟨FB, 0, none⟩)] BlowR.enc n₀ (fun xs => xs = blowsL (firstS k f) (lastS k f) l 0 ((firstS k f).speed * (firstS k f).speed) ((lastS k f).speed * (lastS k f).speed)) (fun pre => pre <+: blowsL (firstS k f) (lastS k f) l 0 ((firstS k f).speed * (firstS k f).speed) ((lastS k f).speed * (lastS k f).speed)) (l.length + 1) w := by
  intro lr J Jx W hW hJ hJx hY h0
  have cf := fun W => first_any k f W
  have cl := fun W => last_any k f W
  generalize firstS k f = s at *
  generalize lastS k f = t at *
  obtain ⟨L, hL⟩ : ∃ L, blowsL s t l 0 (s.speed * s.speed) (t.speed * t.speed) = L := ⟨_, rfl⟩
  rw [hL]
  replace hL := Go.Lib.hid hL
  have cg1 := fun W => fallOf_any p cap l.length s W hs
  have cg2 := fun W => fallOf_any p cap l.length t W ht
  unfold StoneR.val StoneR.vals at cf cl cg1 cg2
  unfold RockR.val FallR.val at cf cl
  replace a0 := (hW.cell (p := ⟨LB, 0, none⟩) hLB).trans a0
  replace c0 := (hW.cell (p := ⟨KB, 0, none⟩) hKB).trans c0
  replace c1 := (hW.cell (p := ⟨KB, 1, none⟩) hKB).trans c1
  replace c2 := (hW.cell (p := ⟨KB, 2, none⟩) hKB).trans c2
  replace c3 := (hW.cell (p := ⟨KB, 3, none⟩) hKB).trans c3
  replace c4 := (hW.cell (p := ⟨KB, 4, none⟩) hKB).trans c4
  replace c5 := (hW.cell (p := ⟨KB, 5, none⟩) hKB).trans c5
  replace c6 := (hW.cell (p := ⟨KB, 6, none⟩) hKB).trans c6
  replace c7 := (hW.cell (p := ⟨KB, 7, none⟩) hKB).trans c7
  replace c8 := (hW.cell (p := ⟨KB, 8, none⟩) hKB).trans c8
  replace c9 := (hW.cell (p := ⟨KB, 9, none⟩) hKB).trans c9
  replace c10 := (hW.cell (p := ⟨KB, 10, none⟩) hKB).trans c10
  replace d0 := (hW.cell (p := ⟨FB, 0, none⟩) hFB).trans d0
  replace d1 := (hW.cell (p := ⟨FB, 1, none⟩) hFB).trans d1
  replace d2 := (hW.cell (p := ⟨FB, 2, none⟩) hFB).trans d2
  replace d3 := (hW.cell (p := ⟨FB, 3, none⟩) hFB).trans d3
  have sWW := hW.size
  replace hLB : LB < W.heap.size := by omega
  replace hKB : KB < W.heap.size := by omega
  replace hFB : FB < W.heap.size := by omega
  replace hlim := hlim.on hW
  replace hv := hv.on hW
  replace hnw : n₀ ≤ W.heap.size := by omega
  clear hW sWW
  obtain ⟨n, hn0⟩ : ∃ n, l.length = n := ⟨_, rfl⟩
  rw [hn0] at a0 cg1 cg2
  refine callsIn_of_wp Tryd.func66 rfl trivial ?_ rfl
  simp only [Tryd.ntmps66, List.size_toArray, List.length_cons, List.length_nil, Nat.reduceAdd, Nat.reduceSub, Array.replicate_succ, Array.replicate_zero, List.push_toArray, List.append_toArray, List.nil_append, List.cons_append]
  gi_wp2
  refine wpIn_wide.2 ?_
--REGION0
  refine wp_tell (blwTold s t p cap n) ?_ ?_
  focus
    repeat (rename_i zz; clear zz)
    refine region_dep (by kernel_rfl) blwDeps (by kernel_rfl) (blwInv k f s t p cap n) ?h0 ?hstep ?hend
    case h0 =>
      refine ⟨?z5, ?z6, ?z8, ?z9, ?z10, ?z11, ?z12, ?z13, ?z14, ?z15, ?z16, ?z17, ?fr, (Below.refl _ _).drew, by simp, by simp, by simp, by simp, by simp, by simp, by simp, by simp, by simp, by simp, by simp, by simp, by simp, by simp, by simp⟩
      case fr =>
        simp only [sets, List.foldl_cons, List.foldl_nil, List.set_cons_succ, List.set_cons_zero]
        rfl
    case hend =>
      intro l' fr W hl hall hInv
      unfold blwInv at hInv
      obtain ⟨s5, s6, s8, s9, s10, s11, s12, s13, s14, s15, s16, s17, hInv⟩ := hInv
      obtain ⟨hfr, hB, g0, g1, g2, f0, f1, f2, f3, f4, f5, f6, f7, f8, f9, f10, f11⟩ := hInv
      subst hfr
      obtain ⟨b0, b1, b2, b3, b4, b5, b6, b7, b8, b9, b10, b11, b12, b13, rfl⟩ := list14 hl
      simp only [List.getD_cons_zero, List.getD_cons_succ] at g0 g1 g2 f0 f1 f2 f3 f4 f5 f6 f7 f8 f9 f10 f11
      simp only [List.all_cons, id, Bool.and_eq_true] at hall
      obtain ⟨e0, e1, e2, e3, e4, e5, e6, e7, e8, e9, e10, e11, e12, e13, -⟩ := hall
      have hne := g0 e10 e11
      obtain ⟨g, rfl, h1, h2, -, h4⟩ := f10 e10
      obtain ⟨g', rfl, h1', h2', -, h4'⟩ := f11 e11
      exact ⟨rfl, g, g', by kernel_rfl, hB, h1, h1', fun q => hne (by rw [q]), h2, h2', h4 e12, h4' e13⟩
    case hstep =>
      intro l' fr W ii hl hInv hr hi
      unfold blwInv at hInv
      obtain ⟨s5, s6, s8, s9, s10, s11, s12, s13, s14, s15, s16, s17, hInv⟩ := hInv
      obtain ⟨hfr, hB, g0, g1, g2, f0, f1, f2, f3, f4, f5, f6, f7, f8, f9, f10, f11⟩ := hInv
      subst hfr
      obtain ⟨b0, b1, b2, b3, b4, b5, b6, b7, b8, b9, b10, b11, b12, b13, rfl⟩ := list14 hl
      have sW := hB.size
      replace a0 := (hB.cell (p := ⟨LB, 0, none⟩) hLB).trans a0
      replace c0 := (hB.cell (p := ⟨KB, 0, none⟩) hKB).trans c0
      replace c1 := (hB.cell (p := ⟨KB, 1, none⟩) hKB).trans c1
      replace c2 := (hB.cell (p := ⟨KB, 2, none⟩) hKB).trans c2
      replace c3 := (hB.cell (p := ⟨KB, 3, none⟩) hKB).trans c3
      replace c4 := (hB.cell (p := ⟨KB, 4, none⟩) hKB).trans c4
      replace c5 := (hB.cell (p := ⟨KB, 5, none⟩) hKB).trans c5
      replace c6 := (hB.cell (p := ⟨KB, 6, none⟩) hKB).trans c6
      replace c7 := (hB.cell (p := ⟨KB, 7, none⟩) hKB).trans c7
      replace c8 := (hB.cell (p := ⟨KB, 8, none⟩) hKB).trans c8
      replace c9 := (hB.cell (p := ⟨KB, 9, none⟩) hKB).trans c9
      replace c10 := (hB.cell (p := ⟨KB, 10, none⟩) hKB).trans c10
      replace d0 := (hB.cell (p := ⟨FB, 0, none⟩) hFB).trans d0
      replace d1 := (hB.cell (p := ⟨FB, 1, none⟩) hFB).trans d1
      replace d2 := (hB.cell (p := ⟨FB, 2, none⟩) hFB).trans d2
      replace d3 := (hB.cell (p := ⟨FB, 3, none⟩) hFB).trans d3
      simp only [List.getD_cons_zero, List.getD_cons_succ] at g0 g1 g2 f0 f1 f2 f3 f4 f5 f6 f7 f8 f9 f10 f11
      replace hB := Go.Lib.hid hB
      replace hi := Go.Lib.hid hi
      replace g0 := Go.Lib.hid g0
      replace g1 := Go.Lib.hid g1
      replace g2 := Go.Lib.hid g2
      replace f0 := Go.Lib.hid f0
      replace f1 := Go.Lib.hid f1
      replace f2 := Go.Lib.hid f2
      replace f3 := Go.Lib.hid f3
      replace f4 := Go.Lib.hid f4
      replace f5 := Go.Lib.hid f5
      replace f6 := Go.Lib.hid f6
      replace f7 := Go.Lib.hid f7
      replace f8 := Go.Lib.hid f8
      replace f9 := Go.Lib.hid f9
      replace f10 := Go.Lib.hid f10
      replace f11 := Go.Lib.hid f11
      rcases ii with _ | _ | _ | _ | _ | _ | _ | _ | _ | _ | _ | _ | _ | _ | ii
      · refine wpOp_step rfl (fun K hK => ?_)
        simp only [sets, List.foldl_cons, List.foldl_nil, List.set_cons_succ, List.set_cons_zero]
        go_simp
        exact hK _ _ ⟨s5, s6, (.slice p n cap), s9, s10, s11, s12, s13, s14, s15, s16, s17, by kernel_rfl, hB.out, g0.out, g1.out, g2.out, fun _ => rfl, f1.out, f2.out, f3.out, f4.out, f5.out, f6.out, f7.out, f8.out, f9.out, f10.out, f11.out⟩
      · refine wpOp_step rfl (fun K hK => ?_)
        simp only [sets, List.foldl_cons, List.foldl_nil, List.set_cons_succ, List.set_cons_zero]
        go_simp
        exact hK _ _ ⟨s5, s6, s8, (.agg #[.int .i64 k.size.x, .int .i64 k.size.y, .int .i64 k.dens.x, .int .i64 k.dens.y, .int .i64 k.strong.x, .int .i64 k.strong.y, .int .i64 k.spin.x, .int .i64 k.spin.y, .int .i64 k.shape.x, .int .i64 k.shape.y, .bool k.pile]), s10, s11, s12, s13, s14, s15, s16, s17, by kernel_rfl, hB.out, g0.out, g1.out, g2.out, f0.out, fun _ => rfl, f2.out, f3.out, f4.out, f5.out, f6.out, f7.out, f8.out, f9.out, f10.out, f11.out⟩
      · refine wpOp_step rfl (fun K hK => ?_)
        simp only [sets, List.foldl_cons, List.foldl_nil, List.set_cons_succ, List.set_cons_zero]
        go_simp
        exact hK _ _ ⟨s5, s6, s8, s9, (.agg #[.int .i64 f.speed.x, .int .i64 f.speed.y, .int .i64 f.slope.x, .int .i64 f.slope.y]), s11, s12, s13, s14, s15, s16, s17, by kernel_rfl, hB.out, g0.out, g1.out, g2.out, f0.out, f1.out, fun _ => rfl, f3.out, f4.out, f5.out, f6.out, f7.out, f8.out, f9.out, f10.out, f11.out⟩
      · simp only [blwDeps, List.getD_cons_zero, List.getD_cons_succ, List.all_cons, List.all_nil, Bool.and_true, Bool.and_eq_true] at hr
        obtain ⟨hd1, hd2⟩ := hr
        obtain rfl := f1.out hd1
        obtain rfl := f2.out hd2
        refine wpOp_step rfl (fun K hK => ?_)
        simp only [sets, List.foldl_cons, List.foldl_nil, List.set_cons_succ, List.set_cons_zero]
        go_simp
        refine (cf W).mono ?_
        rintro _ W6 ⟨rfl, hb6⟩
        exact hK _ _ ⟨s5, s6, s8, (.agg #[.int .i64 k.size.x, .int .i64 k.size.y, .int .i64 k.dens.x, .int .i64 k.dens.y, .int .i64 k.strong.x, .int .i64 k.strong.y, .int .i64 k.spin.x, .int .i64 k.spin.y, .int .i64 k.shape.x, .int .i64 k.shape.y, .bool k.pile]), (.agg #[.int .i64 f.speed.x, .int .i64 f.speed.y, .int .i64 f.slope.x, .int .i64 f.slope.y]), (.agg #[.int .i64 s.size, .int .i64 s.dens, .int .i64 s.strong, .int .i64 s.spin, .int .i64 s.shape, .bool s.pile, .int .i64 s.speed, .int .i64 s.slope]), s12, s13, s14, s15, s16, s17, by kernel_rfl, hB.out.trans (hb6.mono sW), g0.out, g1.out, g2.out, f0.out, f1.out, f2.out, fun _ => rfl, f4.out, f5.out, f6.out, f7.out, f8.out, f9.out, (fun h => by obtain ⟨g, e, h1, h2, h3, h4⟩ := f10.out h; exact ⟨g, e, h1, Nat.lt_of_lt_of_le h2 hb6.size, fun q => (hb6.block g h2).trans (h3 q), fun q => (hb6.block g h2).trans (h4 q)⟩), (fun h => by obtain ⟨g, e, h1, h2, h3, h4⟩ := f11.out h; exact ⟨g, e, h1, Nat.lt_of_lt_of_le h2 hb6.size, fun q => (hb6.block g h2).trans (h3 q), fun q => (hb6.block g h2).trans (h4 q)⟩)⟩
      · simp only [blwDeps, List.getD_cons_zero, List.getD_cons_succ, List.all_cons, List.all_nil, Bool.and_true, Bool.and_eq_true] at hr
        obtain ⟨hd0, hd3⟩ := hr
        obtain rfl := f0.out hd0
        obtain rfl := f3.out hd3
        refine wpOp_step rfl (fun K hK => ?_)
        simp only [sets, List.foldl_cons, List.foldl_nil, List.set_cons_succ, List.set_cons_zero]
        go_simp
        refine (cg1 W).mono ?_
        rintro _ W6 ⟨rfl, hb6⟩
        exact hK _ _ ⟨s5, s6, (.slice p n cap), s9, s10, (.agg #[.int .i64 s.size, .int .i64 s.dens, .int .i64 s.strong, .int .i64 s.spin, .int .i64 s.shape, .bool s.pile, .int .i64 s.speed, .int .i64 s.slope]), (.agg #[.slice p n cap, .int .i64 s.size, .int .i64 s.dens, .int .i64 s.strong, .int .i64 s.spin, .int .i64 s.shape, .bool s.pile, .int .i64 s.speed, .int .i64 s.slope, .int .i64 0, .int .i64 (s.speed * s.speed)]), s13, s14, s15, s16, s17, by kernel_rfl, hB.out.trans (hb6.mono sW), g0.out, g1.out, g2.out, f0.out, f1.out, f2.out, f3.out, fun _ => rfl, f5.out, f6.out, f7.out, f8.out, f9.out, (fun h => by obtain ⟨g, e, h1, h2, h3, h4⟩ := f10.out h; exact ⟨g, e, h1, Nat.lt_of_lt_of_le h2 hb6.size, fun q => (hb6.block g h2).trans (h3 q), fun q => (hb6.block g h2).trans (h4 q)⟩), (fun h => by obtain ⟨g, e, h1, h2, h3, h4⟩ := f11.out h; exact ⟨g, e, h1, Nat.lt_of_lt_of_le h2 hb6.size, fun q => (hb6.block g h2).trans (h3 q), fun q => (hb6.block g h2).trans (h4 q)⟩)⟩
      · refine wpOp_step rfl (fun K hK => ?_)
        simp only [sets, List.foldl_cons, List.foldl_nil, List.set_cons_succ, List.set_cons_zero]
        go_simp
        exact hK _ _ ⟨s5, s6, s8, s9, s10, s11, s12, (.slice p n cap), s14, s15, s16, s17, by kernel_rfl, hB.out, g0.out, g1.out, g2.out, f0.out, f1.out, f2.out, f3.out, f4.out, fun _ => rfl, f6.out, f7.out, f8.out, f9.out, f10.out, f11.out⟩
      · refine wpOp_step rfl (fun K hK => ?_)
        simp only [sets, List.foldl_cons, List.foldl_nil, List.set_cons_succ, List.set_cons_zero]
        go_simp
        exact hK _ _ ⟨s5, s6, s8, s9, s10, s11, s12, s13, (.agg #[.int .i64 k.size.x, .int .i64 k.size.y, .int .i64 k.dens.x, .int .i64 k.dens.y, .int .i64 k.strong.x, .int .i64 k.strong.y, .int .i64 k.spin.x, .int .i64 k.spin.y, .int .i64 k.shape.x, .int .i64 k.shape.y, .bool k.pile]), s15, s16, s17, by kernel_rfl, hB.out, g0.out, g1.out, g2.out, f0.out, f1.out, f2.out, f3.out, f4.out, f5.out, fun _ => rfl, f7.out, f8.out, f9.out, f10.out, f11.out⟩
      · refine wpOp_step rfl (fun K hK => ?_)
        simp only [sets, List.foldl_cons, List.foldl_nil, List.set_cons_succ, List.set_cons_zero]
        go_simp
        exact hK _ _ ⟨s5, s6, s8, s9, s10, s11, s12, s13, s14, (.agg #[.int .i64 f.speed.x, .int .i64 f.speed.y, .int .i64 f.slope.x, .int .i64 f.slope.y]), s16, s17, by kernel_rfl, hB.out, g0.out, g1.out, g2.out, f0.out, f1.out, f2.out, f3.out, f4.out, f5.out, f6.out, fun _ => rfl, f8.out, f9.out, f10.out, f11.out⟩
      · simp only [blwDeps, List.getD_cons_zero, List.getD_cons_succ, List.all_cons, List.all_nil, Bool.and_true, Bool.and_eq_true] at hr
        obtain ⟨hd6, hd7, hd4⟩ := hr
        obtain rfl := f6.out hd6
        obtain rfl := f7.out hd7
        obtain rfl := f4.out hd4
        refine wpOp_step rfl (fun K hK => ?_)
        simp only [sets, List.foldl_cons, List.foldl_nil, List.set_cons_succ, List.set_cons_zero]
        go_simp
        refine (cl W).mono ?_
        rintro _ W6 ⟨rfl, hb6⟩
        exact hK _ _ ⟨s5, s6, s8, s9, s10, s11, (.agg #[.slice p n cap, .int .i64 s.size, .int .i64 s.dens, .int .i64 s.strong, .int .i64 s.spin, .int .i64 s.shape, .bool s.pile, .int .i64 s.speed, .int .i64 s.slope, .int .i64 0, .int .i64 (s.speed * s.speed)]), s13, (.agg #[.int .i64 k.size.x, .int .i64 k.size.y, .int .i64 k.dens.x, .int .i64 k.dens.y, .int .i64 k.strong.x, .int .i64 k.strong.y, .int .i64 k.spin.x, .int .i64 k.spin.y, .int .i64 k.shape.x, .int .i64 k.shape.y, .bool k.pile]), (.agg #[.int .i64 f.speed.x, .int .i64 f.speed.y, .int .i64 f.slope.x, .int .i64 f.slope.y]), (.agg #[.int .i64 t.size, .int .i64 t.dens, .int .i64 t.strong, .int .i64 t.spin, .int .i64 t.shape, .bool t.pile, .int .i64 t.speed, .int .i64 t.slope]), s17, by kernel_rfl, hB.out.trans (hb6.mono sW), g0.out, g1.out, g2.out, f0.out, f1.out, f2.out, f3.out, f4.out, f5.out, f6.out, f7.out, fun _ => rfl, f9.out, (fun h => by obtain ⟨g, e, h1, h2, h3, h4⟩ := f10.out h; exact ⟨g, e, h1, Nat.lt_of_lt_of_le h2 hb6.size, fun q => (hb6.block g h2).trans (h3 q), fun q => (hb6.block g h2).trans (h4 q)⟩), (fun h => by obtain ⟨g, e, h1, h2, h3, h4⟩ := f11.out h; exact ⟨g, e, h1, Nat.lt_of_lt_of_le h2 hb6.size, fun q => (hb6.block g h2).trans (h3 q), fun q => (hb6.block g h2).trans (h4 q)⟩)⟩
      · simp only [blwDeps, List.getD_cons_zero, List.getD_cons_succ, List.all_cons, List.all_nil, Bool.and_true, Bool.and_eq_true] at hr
        obtain ⟨hd5, hd8⟩ := hr
        obtain rfl := f5.out hd5
        obtain rfl := f8.out hd8
        refine wpOp_step rfl (fun K hK => ?_)
        simp only [sets, List.foldl_cons, List.foldl_nil, List.set_cons_succ, List.set_cons_zero]
        go_simp
        refine (cg2 W).mono ?_
        rintro _ W6 ⟨rfl, hb6⟩
        exact hK _ _ ⟨s5, s6, s8, s9, s10, s11, s12, (.slice p n cap), s14, s15, (.agg #[.int .i64 t.size, .int .i64 t.dens, .int .i64 t.strong, .int .i64 t.spin, .int .i64 t.shape, .bool t.pile, .int .i64 t.speed, .int .i64 t.slope]), (.agg #[.slice p n cap, .int .i64 t.size, .int .i64 t.dens, .int .i64 t.strong, .int .i64 t.spin, .int .i64 t.shape, .bool t.pile, .int .i64 t.speed, .int .i64 t.slope, .int .i64 0, .int .i64 (t.speed * t.speed)]), by kernel_rfl, hB.out.trans (hb6.mono sW), g0.out, g1.out, g2.out, f0.out, f1.out, f2.out, f3.out, f4.out, f5.out, f6.out, f7.out, f8.out, fun _ => rfl, (fun h => by obtain ⟨g, e, h1, h2, h3, h4⟩ := f10.out h; exact ⟨g, e, h1, Nat.lt_of_lt_of_le h2 hb6.size, fun q => (hb6.block g h2).trans (h3 q), fun q => (hb6.block g h2).trans (h4 q)⟩), (fun h => by obtain ⟨g, e, h1, h2, h3, h4⟩ := f11.out h; exact ⟨g, e, h1, Nat.lt_of_lt_of_le h2 hb6.size, fun q => (hb6.block g h2).trans (h3 q), fun q => (hb6.block g h2).trans (h4 q)⟩)⟩
      · have hi := hi.out
        simp only [List.getElem?_cons_zero, List.getElem?_cons_succ, Option.some.injEq] at hi
        subst hi
        refine wpOp_step rfl (fun K hK => ?_)
        simp only [sets, List.foldl_cons, List.foldl_nil, List.set_cons_succ, List.set_cons_zero]
        go_simp
        exact hK _ _ ⟨(.pointer (some ⟨W.heap.size, 0, none⟩)), s6, s8, s9, s10, s11, s12, s13, s14, s15, s16, s17, by kernel_rfl, hB.out.alloc sW _, (fun h10 h11 e => by obtain ⟨g, e1, h1, h2, -⟩ := f11.out h11; rw [e1] at e; injection e with e; injection e with e; injection e with e; omega), (fun h => absurd (g1.out h) (by decide)), g2.out, f0.out, f1.out, f2.out, f3.out, f4.out, f5.out, f6.out, f7.out, f8.out, f9.out, (fun _ => ⟨W.heap.size, rfl, sW, by simp only [World.size_alloc]; omega, fun _ => heap_alloc_new _ _, fun q => by have h9 := g1.out q; cases h9⟩), (fun h => by obtain ⟨g, e, h1, h2, h3, h4⟩ := f11.out h; exact ⟨g, e, h1, by simp only [World.size_alloc]; omega, fun q => (heap_alloc_old _ _ h2).trans (h3 q), fun q => (heap_alloc_old _ _ h2).trans (h4 q)⟩)⟩
      · have hi := hi.out
        simp only [List.getElem?_cons_zero, List.getElem?_cons_succ, Option.some.injEq] at hi
        subst hi
        refine wpOp_step rfl (fun K hK => ?_)
        simp only [sets, List.foldl_cons, List.foldl_nil, List.set_cons_succ, List.set_cons_zero]
        go_simp
        exact hK _ _ ⟨s5, (.pointer (some ⟨W.heap.size, 0, none⟩)), s8, s9, s10, s11, s12, s13, s14, s15, s16, s17, by kernel_rfl, hB.out.alloc sW _, (fun h10 h11 e => by obtain ⟨g, e1, h1, h2, -⟩ := f10.out h10; rw [e1] at e; injection e with e; injection e with e; injection e with e; omega), g1.out, (fun h => absurd (g2.out h) (by decide)), f0.out, f1.out, f2.out, f3.out, f4.out, f5.out, f6.out, f7.out, f8.out, f9.out, (fun h => by obtain ⟨g, e, h1, h2, h3, h4⟩ := f10.out h; exact ⟨g, e, h1, by simp only [World.size_alloc]; omega, fun q => (heap_alloc_old _ _ h2).trans (h3 q), fun q => (heap_alloc_old _ _ h2).trans (h4 q)⟩), (fun _ => ⟨W.heap.size, rfl, sW, by simp only [World.size_alloc]; omega, fun _ => heap_alloc_new _ _, fun q => by have h9 := g2.out q; cases h9⟩)⟩
      · simp only [blwDeps, List.getD_cons_zero, List.getD_cons_succ, List.all_cons, List.all_nil, Bool.and_true, Bool.and_eq_true] at hr
        obtain ⟨hd10, hd4, hd9⟩ := hr
        obtain rfl := f4.out hd4
        obtain rfl := f9.out hd9
        obtain ⟨g, rfl, h1, h2, h3, h4⟩ := f10.out hd10
        have hi := hi.out
        simp only [List.getElem?_cons_zero, List.getElem?_cons_succ, Option.some.injEq] at hi
        subst hi
        have e := h3 rfl
        refine wpOp_step rfl (fun K hK => ?_)
        simp only [sets, List.foldl_cons, List.foldl_nil, List.set_cons_succ, List.set_cons_zero]
        simp only [Region.wanted]
        refine store_op 103 (.tmp 5) (.tmp 12) rfl g #[.slice p n cap, .int .i64 s.size, .int .i64 s.dens, .int .i64 s.strong, .int .i64 s.spin, .int .i64 s.shape, .bool s.pile, .int .i64 s.speed, .int .i64 s.slope, .int .i64 0, .int .i64 (s.speed * s.speed)] (by kernel_rfl) (by kernel_rfl) 103 _ e (by kernel_rfl) rfl (by simp [Value.oneCell']) ?_
        exact hK _ _ ⟨(.pointer (some ⟨g, 0, none⟩)), s6, s8, s9, s10, s11, (.agg #[.slice p n cap, .int .i64 s.size, .int .i64 s.dens, .int .i64 s.strong, .int .i64 s.spin, .int .i64 s.shape, .bool s.pile, .int .i64 s.speed, .int .i64 s.slope, .int .i64 0, .int .i64 (s.speed * s.speed)]), s13, s14, s15, s16, (.agg #[.slice p n cap, .int .i64 t.size, .int .i64 t.dens, .int .i64 t.strong, .int .i64 t.spin, .int .i64 t.shape, .bool t.pile, .int .i64 t.speed, .int .i64 t.slope, .int .i64 0, .int .i64 (t.speed * t.speed)]), by kernel_rfl, below_row hB.out h1 _, g0.out, (fun _ => hd10), g2.out, f0.out, f1.out, f2.out, f3.out, f4.out, f5.out, f6.out, f7.out, f8.out, f9.out, (fun _ => ⟨g, rfl, h1, by rw [size_setRow2]; exact h2, (fun h => by cases h), fun _ => setRow_heap _ _ _ _ _ _ e⟩), (fun h => by obtain ⟨g', e', h1', h2', h3', h4'⟩ := f11.out h; have hne : g' ≠ g := fun q => (g0.out hd10 h) (by rw [e', q]); exact ⟨g', e', h1', by rw [size_setRow2]; exact h2', fun q => (setRow_other _ _ _ _ hne).trans (h3' q), fun q => (setRow_other _ _ _ _ hne).trans (h4' q)⟩)⟩
      · simp only [blwDeps, List.getD_cons_zero, List.getD_cons_succ, List.all_cons, List.all_nil, Bool.and_true, Bool.and_eq_true] at hr
        obtain ⟨hd11, hd9, hd12⟩ := hr
        obtain rfl := f9.out hd9
        obtain ⟨g, rfl, h1, h2, h3, h4⟩ := f11.out hd11
        have hi := hi.out
        simp only [List.getElem?_cons_zero, List.getElem?_cons_succ, Option.some.injEq] at hi
        subst hi
        have e := h3 rfl
        refine wpOp_step rfl (fun K hK => ?_)
        simp only [sets, List.foldl_cons, List.foldl_nil, List.set_cons_succ, List.set_cons_zero]
        simp only [Region.wanted]
        refine store_op 103 (.tmp 6) (.tmp 17) rfl g #[.slice p n cap, .int .i64 t.size, .int .i64 t.dens, .int .i64 t.strong, .int .i64 t.spin, .int .i64 t.shape, .bool t.pile, .int .i64 t.speed, .int .i64 t.slope, .int .i64 0, .int .i64 (t.speed * t.speed)] (by kernel_rfl) (by kernel_rfl) 103 _ e (by kernel_rfl) rfl (by simp [Value.oneCell']) ?_
        exact hK _ _ ⟨s5, (.pointer (some ⟨g, 0, none⟩)), s8, s9, s10, s11, s12, s13, s14, s15, s16, (.agg #[.slice p n cap, .int .i64 t.size, .int .i64 t.dens, .int .i64 t.strong, .int .i64 t.spin, .int .i64 t.shape, .bool t.pile, .int .i64 t.speed, .int .i64 t.slope, .int .i64 0, .int .i64 (t.speed * t.speed)]), by kernel_rfl, below_row hB.out h1 _, g0.out, g1.out, (fun _ => hd11), f0.out, f1.out, f2.out, f3.out, f4.out, f5.out, f6.out, f7.out, f8.out, f9.out, (fun h => by obtain ⟨g', e', h1', h2', h3', h4'⟩ := f10.out h; have hne : g' ≠ g := fun q => (g0.out h hd11) (by rw [e', q]); exact ⟨g', e', h1', by rw [size_setRow2]; exact h2', fun q => (setRow_other _ _ _ _ hne).trans (h3' q), fun q => (setRow_other _ _ _ _ hne).trans (h4' q)⟩), (fun _ => ⟨g, rfl, h1, by rw [size_setRow2]; exact h2, (fun h => by cases h), fun _ => setRow_heap _ _ _ _ _ _ e⟩)⟩
      · have hi := hi.out; simp at hi
  rintro a4 W4 ⟨g, h, ha4, hB4, hg1, hh1, hgh, hg2, hh2, hrg, hrh⟩
  generalize a4.tmps.getD 5 undef = s5 at ha4
  generalize a4.tmps.getD 6 undef = s6 at ha4
  generalize a4.tmps.getD 8 undef = s8 at ha4
  generalize a4.tmps.getD 9 undef = s9 at ha4
  generalize a4.tmps.getD 10 undef = s10 at ha4
  generalize a4.tmps.getD 11 undef = s11 at ha4
  generalize a4.tmps.getD 12 undef = s12 at ha4
  generalize a4.tmps.getD 13 undef = s13 at ha4
  generalize a4.tmps.getD 14 undef = s14 at ha4
  generalize a4.tmps.getD 15 undef = s15 at ha4
  generalize a4.tmps.getD 16 undef = s16 at ha4
  generalize a4.tmps.getD 17 undef = s17 at ha4
  subst ha4
  simp only [sets, List.foldl_cons, List.foldl_nil, List.set_cons_succ, List.set_cons_zero]
--END0
  have a4 := (hB4.cell (p := ⟨LB, 0, none⟩) hLB).trans a0
  have sW4 := hB4.size
  have hL4 : LB < W4.heap.size := by omega
  have hlim4 := hlim.on hB4
  have hv4 := hv.on hB4
  have hJ0 := h0 W4 hB4
  have hfs : FallAt W4 g p cap l s 0 (s.speed * s.speed) := ⟨by rw [hn0]; exact hrg, hv4⟩
  have hft : FallAt W4 h p cap l t 0 (t.speed * t.speed) := ⟨by rw [hn0]; exact hrh, hv4⟩
  have hw1 := speed_w hs
  have hw2 := speed_w ht
  clear a0 c0 c1 c2 c3 c4 c5 c6 c7 c8 c9 c10 d0 d1 d2 d3 hrg hrh cf cl cg1 cg2 hlim hv h0
  obtain ⟨B, hB⟩ : ∃ B, W4.heap.size = B := ⟨_, rfl⟩
  rw [hB] at hJ0
  gi_wp2
  gi_loopw [21] (fun s' wr => ∃ (i : Nat) (we wl : Int) (pre : List BlowR), s' = .int .i64 i ∧ J B pre wr ∧ FallAt wr g p cap l s i we ∧ FallAt wr h p cap l t i wl ∧ LimAt wr ∧ B ≤ wr.heap.size ∧ Hid ((i ≤ l.length ∧ pre.length ≤ i) ∧ (0 ≤ we ∧ we ≤ 64000000) ∧ (0 ≤ wl ∧ wl ≤ 64000000) ∧ pre ++ blowsL s t (l.drop i) i we wl = L)) (fun s' _ => l.length - (intOf s').toNat)
  case atStart => exact ⟨0, _, _, [], rfl, hJ0, hfs, hft, hlim4, by omega, Go.Lib.hid ⟨⟨Nat.zero_le _, Nat.le_refl _⟩, hw1, hw2, by simpa using hL.out⟩⟩
  case round =>
    clear hJ0 hfs hft hlim4 hv4 a4
    obtain ⟨i, we, wl, pre, rfl, hJs, hfs, hft, hlim, hBw, hi⟩ := hrel
    have cbE := fun (W : World) (y : Below wr.heap.size wr W) (hi : i < l.length) (hw : 0 ≤ we ∧ we ≤ 64000000) => bursts_any g p cap l s i we W (hlim.on y) ⟨(y.block g (row_lt hfs.1)).trans hfs.1, hfs.2.on y⟩ hi hl hs hair hw
    have cbL := fun (W : World) (y : Below wr.heap.size wr W) (hi : i < l.length) (hw : 0 ≤ wl ∧ wl ≤ 64000000) => bursts_any h p cap l t i wl W (hlim.on y) ⟨(y.block h (row_lt hft.1)).trans hft.1, hft.2.on y⟩ hi hl ht hair hw
    have cbw := fun (W : World) (y : Below wr.heap.size wr W) (hw : 0 ≤ we ∧ we ≤ 64000000) (hw2 : 0 ≤ wl ∧ wl ≤ 64000000) => blow_any g h p cap l s t i i we wl W (hlim.on y) ⟨(y.block g (row_lt hfs.1)).trans hfs.1, hfs.2.on y⟩ ⟨(y.block h (row_lt hft.1)).trans hft.1, hft.2.on y⟩ hs ht hw hw2
    have cpE := fun (W : World) (hf : FallAt W g p cap l s i we) (hi : i < l.length) (hw : 0 ≤ we ∧ we ≤ 64000000) => pass_any g p cap l s i we W hf hi hl hs hair hw (fun A o h0 e => by have := hpn A o h0 e; omega)
    have cpL := fun (W : World) (hf : FallAt W h p cap l t i wl) (hi : i < l.length) (hw : 0 ≤ wl ∧ wl ≤ 64000000) => pass_any h p cap l t i wl W hf hi hl ht hair hw (fun A o h0 e => by have := hpn A o h0 e; omega)
    obtain ⟨⟨hi1, hi2⟩, hwe, hwl, hE⟩ := hi.out
    have hJw := fun W (k : KeptI W4.heap.size W4.heap.size wr W) => hJs
    clear hJw
    by_cases hlt : i < l.length
    · have hd : decide ((i : Int) < n) = true := by simp; omega
      rw [drop_at hlt, blowsL] at hE
      have ce1 := fun W y => cbE W y hlt hwe
      have cl1 := fun W y => cbL W y hlt hwl
      have cw1 := fun W y => cbw W y hwe hwl
      have p1 := fun W hf => cpE W hf hlt hwe
      have p2 := fun W hf => cpL W hf hlt hwl
      have hn1 := goOn_w2 hs hair hlt hwe
      have hn2 := goOn_w2 ht hair hlt hwl
      clear cbE cbL cbw cpE cpL hi hair hs ht
      generalize stp we (kOf s l[i]) (dOf s) = we' at *
      generalize stp wl (kOf t l[i]) (dOf t) = wl' at *
      generalize burstB s l[i].y we = be at *
      generalize burstB t l[i].y wl = bl at *
      cases be
      · have key : Hid ((i + 1 ≤ l.length ∧ pre.length ≤ i + 1) ∧ (0 ≤ we' ∧ we' ≤ 64000000) ∧ (0 ≤ wl' ∧ wl' ≤ 64000000) ∧ pre ++ blowsL s t (l.drop (i + 1)) (i + 1) we' wl' = L) := Go.Lib.hid ⟨⟨hlt, by omega⟩, hn1, hn2, by simpa using hE⟩
        clear hE
        gi_wp2_with (refine ⟨trivial, ?_⟩; gi_at_call 70; refine (callsIn_wide.2 (ce1 _ (Below.refl _ _))).mono ?_; rintro _ W5 ⟨rfl, hb5⟩; have hf5 : FallAt W5 g p cap l s i we := ⟨(hb5.block g (row_lt hfs.1)).trans hfs.1, hfs.2.on hb5⟩)
        refine ⟨fun _ h => (by cases h), ?_⟩
        gi_wp2
        refine ⟨trivial, ?_⟩
        gi_wp2
        refine ⟨fun _ h => (by cases h), ?_⟩
        gi_wp2_with (first
          | (refine ⟨trivial, ?_⟩; gi_at_call 71; refine (callsIn_wide.2 (p1 _ hf5)).mono ?_; rintro _ _ ⟨y6, rfl, rfl, hf6⟩; have hf7 : FallAt y6.now h p cap l t i wl := ⟨(y6.grew.block h (Nat.lt_of_lt_of_le (row_lt hft.1) hb5.size) (fun q => hgh q.symm)).trans ((hb5.block h (row_lt hft.1)).trans hft.1), hf6.2⟩; clear p1)
          | (refine ⟨trivial, ?_⟩; gi_at_call 71; refine (callsIn_wide.2 (p2 _ hf7)).mono ?_; rintro _ _ ⟨y7, rfl, rfl, hf8⟩))
        have hf9 : FallAt y7.now g p cap l s (i + 1) we' := ⟨(y7.grew.block g (row_lt hf6.1) hgh).trans hf6.1, hf8.2⟩
        have hJn := hJ B pre _ _ (hJ B pre _ _ (hJ B pre _ _ hJs (KeptI.of hb5)) (keptI_rext y6 hg1 (by omega))) (keptI_rext y7 hh1 (by omega))
        have hln := ((hlim.on hb5).rext (by omega) y6).rext (by omega) y7
        have hbn : B ≤ y7.now.heap.size := by have := hb5.size; have := y6.size; have := y7.size; omega
        go_roundw
        case rel => exact ⟨i + 1, we', wl', pre, by simp, hJn, hf9, hf8, hln, hbn, key⟩
        case measure => simp [intOf]; omega
      · obtain ⟨x, hx⟩ : ∃ x : BlowR, x = ⟨i, massV t * wl, massV s * we, bl⟩ := ⟨_, rfl⟩
        have key : Hid ((i + 1 ≤ l.length ∧ (pre ++ [x]).length ≤ i + 1) ∧ (0 ≤ we' ∧ we' ≤ 64000000) ∧ (0 ≤ wl' ∧ wl' ≤ 64000000) ∧ (pre ++ [x]) ++ blowsL s t (l.drop (i + 1)) (i + 1) we' wl' = L) := Go.Lib.hid ⟨⟨hlt, by simp; omega⟩, hn1, hn2, by rw [hx]; simpa using hE⟩
        clear hE
        gi_wp2_with (refine ⟨trivial, ?_⟩; gi_at_call 70; refine (callsIn_wide.2 (ce1 _ (Below.refl _ _))).mono ?_; rintro _ W5 ⟨rfl, hb5⟩; clear ce1)
        refine ⟨trivial, (callsIn_wide.2 (cw1 _ hb5)).mono ?_⟩
        rintro _ W6 ⟨rfl, hb6⟩
        have hb56 := hb5.trans (hb6.mono hb5.size)
        gi_wp2_with (refine ⟨trivial, ?_⟩; gi_at_call 70; refine (callsIn_wide.2 (cl1 _ hb56)).mono ?_; rintro _ W7 ⟨rfl, hb7⟩; have hb8 := hb56.trans (hb7.mono hb56.size); clear cl1; obtain ⟨fn, tmps, assign, body, hy, hR⟩ := hY B pre x W7 (by omega) (by have := hb8.size; omega) (hJ B pre _ _ hJs (KeptI.of hb8)) (by omega); rw [hx] at hy; dsimp only [BlowR.enc] at hy)
        refine hR.mono ?_
        clear hR hy
        rintro e W8 (⟨rfl, hJ8, hk8⟩ | ⟨rfl, hJx8⟩)
        · have hgW := Nat.lt_of_lt_of_le (row_lt hfs.1) hb8.size
          have hhW := Nat.lt_of_lt_of_le (row_lt hft.1) hb8.size
          have hv8 := (hfs.2.on hb8).keepB hk8 hpn
          have hf5 : FallAt W8 g p cap l s i we := ⟨(hk8.block g hgW (.inr ⟨hg1, by omega⟩)).trans ((hb8.block g (row_lt hfs.1)).trans hfs.1), hv8⟩
          have hf5h : FallAt W8 h p cap l t i wl := ⟨(hk8.block h hhW (.inr ⟨hh1, by omega⟩)).trans ((hb8.block h (row_lt hft.1)).trans hft.1), hv8⟩
          have hl8 := (hlim.on hb8).keepB hk8 hln
          have hs8 := hk8.size
          have hs7 := hb8.size
          gi_wp2_with (first
            | (refine ⟨trivial, ?_⟩; gi_at_call 71; refine (callsIn_wide.2 (p1 _ hf5)).mono ?_; rintro _ _ ⟨y6, rfl, rfl, hf6⟩; have hf7 : FallAt y6.now h p cap l t i wl := ⟨(y6.grew.block h (row_lt hf5h.1) (fun q => hgh q.symm)).trans hf5h.1, hf6.2⟩; clear p1)
            | (refine ⟨trivial, ?_⟩; gi_at_call 71; refine (callsIn_wide.2 (p2 _ hf7)).mono ?_; rintro _ _ ⟨y7, rfl, rfl, hf8⟩))
          have hf9 : FallAt y7.now g p cap l s (i + 1) we' := ⟨(y7.grew.block g (row_lt hf6.1) hgh).trans hf6.1, hf8.2⟩
          have hJn := hJ B _ _ _ (hJ B _ _ _ hJ8 (keptI_rext y6 hg1 (by omega))) (keptI_rext y7 hh1 (by omega))
          have hln8 := (hl8.rext (by omega) y6).rext (by omega) y7
          have hbn : B ≤ y7.now.heap.size := by have := y6.size; have := y7.size; omega
          go_roundw
          case rel => exact ⟨i + 1, we', wl', pre ++ [x], by simp, hJn, hf9, hf8, hln8, hbn, key⟩
          case measure => simp [intOf]; omega
        · gi_wp2
          refine bodyPost_ret (results_none rfl _ _ _) rfl ?_
          exact ⟨⟨_, rfl⟩, .inr ⟨B, pre ++ [x], ⟨_, key.out.2.2.2⟩, hJx8⟩⟩
    · have hd : decide ((i : Int) < n) = false := by simp; omega
      rw [drop_end hlt, blowsL] at hE
      have cw1 := fun W y => cbw W y hwe hwl
      clear cbE cbL cbw cpE cpL hi hair hs ht
      obtain ⟨x, hx⟩ : ∃ x : BlowR, x = ⟨i, massV t * wl, massV s * we, true⟩ := ⟨_, rfl⟩
      rw [← hx] at hE
      have key := Go.Lib.hid hE
      clear hE
      gi_wp2
      refine ⟨trivial, (callsIn_wide.2 (cw1 _ (Below.refl _ _))).mono ?_⟩
      rintro _ W6 ⟨rfl, hb6⟩
      obtain ⟨fn, tmps, assign, body, hy, hR⟩ := hY B pre x W6 (by omega) (by have := hb6.size; omega) (hJ B pre _ _ hJs (KeptI.of hb6)) (by omega)
      rw [hx] at hy
      dsimp only [BlowR.enc] at hy
      gi_wp2
      refine hR.mono ?_
      clear hR hy
      rintro e W8 (⟨rfl, hJ8, hk8⟩ | ⟨rfl, hJx8⟩)
      · gi_wp2
        go_end0
        exact ⟨⟨_, rfl⟩, .inl ⟨B, pre ++ [x], key.out, hJ8⟩⟩
      · gi_wp2
        go_end0
        exact ⟨⟨_, rfl⟩, .inr ⟨B, pre ++ [x], ⟨[], by rw [List.append_nil]; exact key.out⟩, hJx8⟩⟩
end Go.Proofs.YtpiacndnjehbiaaDoor
namespace Go.Proofs.YtpiacndnjehbiaaDoor
open Go.RowKit Go.Shelf
attribute [local go_sem] Option.isSome_some Ext.cell Ext.frozen Ext.lt Ext.le Ext.lt_add Ext.le_add Ext.ne Ext.ne' lt2 lt3 lt4 lt5 le2 le3 le4
def spansL (k : RockR) (f : FallR) : List V2 := [k.size, k.dens, k.strong, k.spin, k.shape, f.speed, f.slope]
def limsL : List V2 := [⟨1, 1000⟩, ⟨1, 9000⟩, ⟨0, 1099511627776⟩, ⟨0, 1000⟩, ⟨500, 2000⟩, ⟨1, 8000⟩, ⟨1, 1000⟩]
/-- What is wrong with a span; with a rock and its fall. -/
def spE (v m : V2) : Int := if v.y < v.x then 11 else if m.x ≤ v.x ∧ v.y ≤ m.y then 0 else 2
def firstE : List V2 → List V2 → Int
  | v :: l, m :: q => if spE v m = 0 then firstE l q else spE v m
  | _, _ => 0
def rockE (k : RockR) (f : FallR) : Int := firstE (spansL k f) limsL
theorem inside_lim {a b c d : Int} (h1 : -1152921504606846976 ≤ c) (h2 : c ≤ d) (h3 : d ≤ 1152921504606846976) (hab : a ≤ b) : insideB a b c d = decide (c ≤ a ∧ b ≤ d) := by
  have hcd : chk c d = 0 := (chk_ok c d).2 ⟨h1, h3, h2⟩
  unfold insideB
  by_cases h : c ≤ a ∧ b ≤ d
  · have hc : chkB a b c d = 0 := by unfold chkB; rw [if_pos ((chk_ok a b).2 ⟨by omega, by omega, hab⟩)]; exact hcd
    rw [hc]; simp [h]
  · rw [decide_eq_false h]
    cases hc : (chkB a b c d == 0)
    · rfl
    · by_cases q1 : c ≤ a
      · have q2 : ¬ b ≤ d := fun q => h ⟨q1, q⟩
        simp [q1, q2]
      · simp [q1]
theorem spansOf_any (k : RockR) (f : FallR) (w : World) : Calls Tryd.prog 42 #[k.val, f.val] w (Gives (.agg #[.int .i64 k.size.x, .int .i64 k.size.y, .int .i64 k.dens.x, .int .i64 k.dens.y, .int .i64 k.strong.x, .int .i64 k.strong.y, .int .i64 k.spin.x, .int .i64 k.spin.y, .int .i64 k.shape.x, .int .i64 k.shape.y, .int .i64 f.speed.x, .int .i64 f.speed.y, .int .i64 f.slope.x, .int .i64 f.slope.y]) w) := by
  unfold RockR.val FallR.val
  go_enter Tryd.func42, Tryd.ntmps42
  go_wp2_with (first | ((first | with_reducible refine wp_region_ext2 (by kernel_rfl) (by kernel_rfl) ?_ | with_reducible refine wp_region_ext (by kernel_rfl) (by kernel_rfl) ?_); (repeat (first | go_big_quiet_step ((first | fail)) | quiet_step ((first | fail)))); refine wpQuiet_nil ?_; rintro _ ⟨yr, rfl⟩; have syr := Ext.size yr; (repeat (first | rw [World.size_alloc] at syr | rw [World.size_setCell] at syr | rw [World.size_drew] at syr))))
  refine bodyPost_ret (v := .agg #[.int .i64 k.size.x, .int .i64 k.size.y, .int .i64 k.dens.x, .int .i64 k.dens.y, .int .i64 k.strong.x, .int .i64 k.strong.y, .int .i64 k.spin.x, .int .i64 k.spin.y, .int .i64 k.shape.x, .int .i64 k.shape.y, .int .i64 f.speed.x, .int .i64 f.speed.y, .int .i64 f.slope.x, .int .i64 f.slope.y]) (by simp (maxDischargeDepth := 9) [results, Tryd.results42, go_sem]) rfl ?_
  refine ⟨rfl, ?_⟩
  repeat' (first | (with_reducible exact Below.refl _ _) | (with_reducible assumption) | (with_reducible refine Ext.below _ ?_ ?_) | (with_reducible refine Below.on ?_ (by with_reducible assumption) ?_) | (with_reducible refine Below.alloc ?_ ?_ _) | (with_reducible refine Below.drew ?_) | (with_reducible refine Below.setCell ?_ ?_ _) | (with_reducible exact Nat.le_refl _) | omega | (simp; done) | (simp [go_sem]; done) | (simp at *; omega))
theorem s7_at0 (a0 a1 a2 a3 a4 a5 a6 a7 a8 a9 a10 a11 a12 a13 : Int) (w : World) : (Instr.index 84 (.agg #[.int .i64 a0, .int .i64 a1, .int .i64 a2, .int .i64 a3, .int .i64 a4, .int .i64 a5, .int .i64 a6, .int .i64 a7, .int .i64 a8, .int .i64 a9, .int .i64 a10, .int .i64 a11, .int .i64 a12, .int .i64 a13]) (.int .i64 0)).run Tryd.prog w = .ok (.agg #[.int .i64 a0, .int .i64 a1]) w := by kernel_rfl
theorem s7_at1 (a0 a1 a2 a3 a4 a5 a6 a7 a8 a9 a10 a11 a12 a13 : Int) (w : World) : (Instr.index 84 (.agg #[.int .i64 a0, .int .i64 a1, .int .i64 a2, .int .i64 a3, .int .i64 a4, .int .i64 a5, .int .i64 a6, .int .i64 a7, .int .i64 a8, .int .i64 a9, .int .i64 a10, .int .i64 a11, .int .i64 a12, .int .i64 a13]) (.int .i64 1)).run Tryd.prog w = .ok (.agg #[.int .i64 a2, .int .i64 a3]) w := by kernel_rfl
theorem s7_at2 (a0 a1 a2 a3 a4 a5 a6 a7 a8 a9 a10 a11 a12 a13 : Int) (w : World) : (Instr.index 84 (.agg #[.int .i64 a0, .int .i64 a1, .int .i64 a2, .int .i64 a3, .int .i64 a4, .int .i64 a5, .int .i64 a6, .int .i64 a7, .int .i64 a8, .int .i64 a9, .int .i64 a10, .int .i64 a11, .int .i64 a12, .int .i64 a13]) (.int .i64 2)).run Tryd.prog w = .ok (.agg #[.int .i64 a4, .int .i64 a5]) w := by kernel_rfl
theorem s7_at3 (a0 a1 a2 a3 a4 a5 a6 a7 a8 a9 a10 a11 a12 a13 : Int) (w : World) : (Instr.index 84 (.agg #[.int .i64 a0, .int .i64 a1, .int .i64 a2, .int .i64 a3, .int .i64 a4, .int .i64 a5, .int .i64 a6, .int .i64 a7, .int .i64 a8, .int .i64 a9, .int .i64 a10, .int .i64 a11, .int .i64 a12, .int .i64 a13]) (.int .i64 3)).run Tryd.prog w = .ok (.agg #[.int .i64 a6, .int .i64 a7]) w := by kernel_rfl
theorem s7_at4 (a0 a1 a2 a3 a4 a5 a6 a7 a8 a9 a10 a11 a12 a13 : Int) (w : World) : (Instr.index 84 (.agg #[.int .i64 a0, .int .i64 a1, .int .i64 a2, .int .i64 a3, .int .i64 a4, .int .i64 a5, .int .i64 a6, .int .i64 a7, .int .i64 a8, .int .i64 a9, .int .i64 a10, .int .i64 a11, .int .i64 a12, .int .i64 a13]) (.int .i64 4)).run Tryd.prog w = .ok (.agg #[.int .i64 a8, .int .i64 a9]) w := by kernel_rfl
theorem s7_at5 (a0 a1 a2 a3 a4 a5 a6 a7 a8 a9 a10 a11 a12 a13 : Int) (w : World) : (Instr.index 84 (.agg #[.int .i64 a0, .int .i64 a1, .int .i64 a2, .int .i64 a3, .int .i64 a4, .int .i64 a5, .int .i64 a6, .int .i64 a7, .int .i64 a8, .int .i64 a9, .int .i64 a10, .int .i64 a11, .int .i64 a12, .int .i64 a13]) (.int .i64 5)).run Tryd.prog w = .ok (.agg #[.int .i64 a10, .int .i64 a11]) w := by kernel_rfl
theorem s7_at6 (a0 a1 a2 a3 a4 a5 a6 a7 a8 a9 a10 a11 a12 a13 : Int) (w : World) : (Instr.index 84 (.agg #[.int .i64 a0, .int .i64 a1, .int .i64 a2, .int .i64 a3, .int .i64 a4, .int .i64 a5, .int .i64 a6, .int .i64 a7, .int .i64 a8, .int .i64 a9, .int .i64 a10, .int .i64 a11, .int .i64 a12, .int .i64 a13]) (.int .i64 6)).run Tryd.prog w = .ok (.agg #[.int .i64 a12, .int .i64 a13]) w := by kernel_rfl
theorem s7_at (k : RockR) (f : FallR) (i : Nat) (hi : i < (spansL k f).length) (w : World) : (Instr.index 84 (.agg #[.int .i64 k.size.x, .int .i64 k.size.y, .int .i64 k.dens.x, .int .i64 k.dens.y, .int .i64 k.strong.x, .int .i64 k.strong.y, .int .i64 k.spin.x, .int .i64 k.spin.y, .int .i64 k.shape.x, .int .i64 k.shape.y, .int .i64 f.speed.x, .int .i64 f.speed.y, .int .i64 f.slope.x, .int .i64 f.slope.y]) (.int .i64 i)).run Tryd.prog w = .ok (.agg #[.int .i64 ((spansL k f)[i]).x, .int .i64 ((spansL k f)[i]).y]) w := by
  have hi7 : i < 7 := hi
  rcases (show i = 0 ∨ i = 1 ∨ i = 2 ∨ i = 3 ∨ i = 4 ∨ i = 5 ∨ i = 6 by omega) with rfl | rfl | rfl | rfl | rfl | rfl | rfl
  · exact s7_at0 _ _ _ _ _ _ _ _ _ _ _ _ _ _ w
  · exact s7_at1 _ _ _ _ _ _ _ _ _ _ _ _ _ _ w
  · exact s7_at2 _ _ _ _ _ _ _ _ _ _ _ _ _ _ w
  · exact s7_at3 _ _ _ _ _ _ _ _ _ _ _ _ _ _ w
  · exact s7_at4 _ _ _ _ _ _ _ _ _ _ _ _ _ _ w
  · exact s7_at5 _ _ _ _ _ _ _ _ _ _ _ _ _ _ w
  · exact s7_at6 _ _ _ _ _ _ _ _ _ _ _ _ _ _ w
theorem lim_at {W : World} (h : LimAt W) (i : Nat) (hi : i < limsL.length) : W.cell? ⟨0, i * 2, none⟩ = some (.int .i64 (limsL[i]).x) ∧ W.cell? ⟨0, i * 2 + 1, none⟩ = some (.int .i64 (limsL[i]).y) := by
  have hi7 : i < 7 := hi
  rcases (show i = 0 ∨ i = 1 ∨ i = 2 ∨ i = 3 ∨ i = 4 ∨ i = 5 ∨ i = 6 by omega) with rfl | rfl | rfl | rfl | rfl | rfl | rfl
  all_goals exact ⟨h.cell _ (by decide), h.cell _ (by decide)⟩
theorem lims_in : ∀ m ∈ limsL, (-1152921504606846976 ≤ m.x ∧ m.x ≤ m.y) ∧ m.y ≤ 1152921504606846976 := by
  intro m hm
  simp only [limsL, List.mem_cons, List.not_mem_nil, or_false] at hm
  rcases hm with rfl | rfl | rfl | rfl | rfl | rfl | rfl <;> decide
set_option maxRecDepth 100000 in
set_option maxHeartbeats 8000000 in
theorem CheckRock_any (k : RockR) (f : FallR) (w : World) (hlim : LimAt w) : Calls Tryd.prog 11 #[k.val, f.val] w (Gives (.int .i64 (rockE k f)) w) := by
  obtain ⟨V, hV⟩ : ∃ V, rockE k f = V := ⟨_, rfl⟩
  rw [hV]
  replace hV := Go.Lib.hid hV
  have co := fun W => spansOf_any k f W
  have hat := fun (i : Nat) (hi : i < (spansL k f).length) (W : World) => s7_at k f i hi W
  replace hat := Go.Lib.hid hat
  have hsl : (spansL k f).length = 7 := rfl
  have hll : limsL.length = 7 := rfl
  unfold rockE at hV
  generalize spansL k f = SL at *
  have hli := Go.Lib.hid (fun (W : World) (y : Below w.heap.size w W) => lim_at (hlim.on y))
  have hlm := Go.Lib.hid lims_in
  have hlt0 := hlim.lt
  generalize limsL = ML at *
  clear hlim
  unfold RockR.val FallR.val at *
  go_enter Tryd.func11, Tryd.ntmps11
  go_wp2_with (first | ((first | with_reducible refine wp_region_ext2 (by kernel_rfl) (by kernel_rfl) ?_ | with_reducible refine wp_region_ext (by kernel_rfl) (by kernel_rfl) ?_); (repeat (first | go_big_quiet_step ((first | (go_at_call 42; with_reducible exact Calls.ext (co _)))) | quiet_step ((first | (go_at_call 42; with_reducible exact Calls.ext (co _)))))); refine wpQuiet_nil ?_; rintro _ ⟨yr, rfl⟩; have syr := Ext.size yr; (repeat (first | rw [World.size_alloc] at syr | rw [World.size_setCell] at syr | rw [World.size_drew] at syr))) | (go_at_call 42; (first | with_reducible refine (Calls.giv2 (co _)).mono ?_ | with_reducible refine (Calls.giv (co _)).mono ?_); rintro _ _ ⟨y1, rfl, rfl⟩; have sy1 := Ext.size y1; (repeat (first | rw [World.size_alloc] at sy1 | rw [World.size_setCell] at sy1 | rw [World.size_drew] at sy1))))
  go_loopw [10] (fun s W => ∃ (i : Nat) (x : Ext w), s = .int .i64 i ∧ W = x.now ∧ Hid (i ≤ 7 ∧ firstE (SL.drop i) (ML.drop i) = V)) (fun s _ => 7 - (intOf s).toNat)
  case atStart => exact ⟨0, ⟨_, by repeat' (first | (with_reducible exact Below.refl _ _) | (with_reducible assumption) | (with_reducible refine Ext.below _ ?_ ?_) | (with_reducible refine Below.on ?_ (by with_reducible assumption) ?_) | (with_reducible refine Below.alloc ?_ ?_ _) | (with_reducible refine Below.drew ?_) | (with_reducible refine Below.setCell ?_ ?_ _) | (with_reducible exact Nat.le_refl _) | omega | (simp; done) | (simp [go_sem]; done) | (simp at *; omega))⟩, rfl, rfl, Go.Lib.hid ⟨by omega, by simpa using hV.out⟩⟩
  case round =>
    obtain ⟨i, x, rfl, rfl, hi⟩ := hrel
    have xs := x.size
    by_cases hlt : i < 7
    · have hlt2 : (i : Int) < 7 := by omega
      have hs2 : i < SL.length := by omega
      have hm2 : i < ML.length := by omega
      have ii := fun W => hat.out i hs2 W
      obtain ⟨l0, l1⟩ := hli.out x.now x.grew i hm2
      obtain ⟨⟨m0, m1⟩, m2⟩ := hlm.out ML[i] (List.getElem_mem _)
      have hE := hi.out.2
      rw [drop_at hs2, drop_at hm2, firstE] at hE
      have hg : 0 < x.now.heap.size := by omega
      generalize SL[i] = v at *
      generalize ML[i] = m at *
      obtain ⟨vx, vy⟩ := v
      obtain ⟨mx, my⟩ := m
      simp only at ii l0 l1 m0 m1 m2
      have ci := fun W => Inside_any vx vy mx my W
      unfold spE at hE
      simp only at hE
      clear hi
      by_cases hgt : vy < vx
      · rw [if_pos hgt, if_neg (by decide)] at hE
        subst hE
        go_wp2_with (first | ((first | with_reducible refine wp_region_ext2 (by kernel_rfl) (by kernel_rfl) ?_ | with_reducible refine wp_region_ext (by kernel_rfl) (by kernel_rfl) ?_); (repeat (first | go_big_quiet_step ((first | fail)) | quiet_step ((first | fail)))); refine wpQuiet_nil ?_; rintro _ ⟨yr, rfl⟩; have syr := Ext.size yr; (repeat (first | rw [World.size_alloc] at syr | rw [World.size_setCell] at syr | rw [World.size_drew] at syr)); have : 0 < yr.now.heap.size := (by omega); have : 0 ≤ yr.now.heap.size := (by omega); have : 0 < yr.now.heap.size + 1 + 1 := (by omega)))
        go_returns
        refine ⟨rfl, ?_⟩
        repeat' (first | (with_reducible exact Below.refl _ _) | (with_reducible assumption) | (with_reducible refine Ext.below _ ?_ ?_) | (with_reducible refine Below.on ?_ (by with_reducible assumption) ?_) | (with_reducible refine Below.alloc ?_ ?_ _) | (with_reducible refine Below.drew ?_) | (with_reducible refine Below.setCell ?_ ?_ _) | (with_reducible exact Nat.le_refl _) | omega | (simp; done) | (simp [go_sem]; done) | (simp at *; omega))
      · rw [if_neg hgt] at hE
        rw [inside_lim m0 m1 m2 (by omega)] at ci
        by_cases hin : mx ≤ vx ∧ vy ≤ my
        · rw [decide_eq_true hin] at ci
          rw [if_pos hin, if_pos rfl] at hE
          have key : Hid (i + 1 ≤ 7 ∧ firstE (SL.drop (i + 1)) (ML.drop (i + 1)) = V) := Go.Lib.hid ⟨hlt, hE⟩
          clear hE hin
          go_wp2_with (first | ((first | with_reducible refine wp_region_ext2 (by kernel_rfl) (by kernel_rfl) ?_ | with_reducible refine wp_region_ext (by kernel_rfl) (by kernel_rfl) ?_); (repeat (first | go_big_quiet_step ((first | (go_at_call 43; with_reducible exact Calls.ext (ci _)))) | quiet_step ((first | (go_at_call 43; with_reducible exact Calls.ext (ci _)))))); refine wpQuiet_nil ?_; rintro _ ⟨yr, rfl⟩; have syr := Ext.size yr; (repeat (first | rw [World.size_alloc] at syr | rw [World.size_setCell] at syr | rw [World.size_drew] at syr)); have : 0 < yr.now.heap.size := (by omega); have : 0 ≤ yr.now.heap.size := (by omega); have : 0 < yr.now.heap.size + 1 + 1 := (by omega)) | (go_at_call 43; (first | with_reducible refine (Calls.giv2 (ci _)).mono ?_ | with_reducible refine (Calls.giv (ci _)).mono ?_); rintro _ _ ⟨y1, rfl, rfl⟩; have sy1 := Ext.size y1; (repeat (first | rw [World.size_alloc] at sy1 | rw [World.size_setCell] at sy1 | rw [World.size_drew] at sy1)); have : 0 < y1.now.heap.size := (by omega); have : 0 ≤ y1.now.heap.size := (by omega); have : 0 < y1.now.heap.size + 1 + 1 := (by omega)))
          exact ⟨⟨i + 1, ⟨_, by repeat' (first | (with_reducible exact Below.refl _ _) | (with_reducible assumption) | (with_reducible refine Ext.below _ ?_ ?_) | (with_reducible refine Below.on ?_ (by with_reducible assumption) ?_) | (with_reducible refine Below.alloc ?_ ?_ _) | (with_reducible refine Below.drew ?_) | (with_reducible refine Below.setCell ?_ ?_ _) | (with_reducible exact Nat.le_refl _) | omega | (simp; done) | (simp [go_sem]; done) | (simp at *; omega))⟩, by simp, rfl, key⟩, by simp [intOf]; omega⟩
        · rw [decide_eq_false hin] at ci
          rw [if_neg hin, if_neg (by decide)] at hE
          subst hE
          clear hin
          go_wp2_with (first | ((first | with_reducible refine wp_region_ext2 (by kernel_rfl) (by kernel_rfl) ?_ | with_reducible refine wp_region_ext (by kernel_rfl) (by kernel_rfl) ?_); (repeat (first | go_big_quiet_step ((first | (go_at_call 43; with_reducible exact Calls.ext (ci _)))) | quiet_step ((first | (go_at_call 43; with_reducible exact Calls.ext (ci _)))))); refine wpQuiet_nil ?_; rintro _ ⟨yr, rfl⟩; have syr := Ext.size yr; (repeat (first | rw [World.size_alloc] at syr | rw [World.size_setCell] at syr | rw [World.size_drew] at syr)); have : 0 < yr.now.heap.size := (by omega); have : 0 ≤ yr.now.heap.size := (by omega); have : 0 < yr.now.heap.size + 1 + 1 := (by omega)) | (go_at_call 43; (first | with_reducible refine (Calls.giv2 (ci _)).mono ?_ | with_reducible refine (Calls.giv (ci _)).mono ?_); rintro _ _ ⟨y1, rfl, rfl⟩; have sy1 := Ext.size y1; (repeat (first | rw [World.size_alloc] at sy1 | rw [World.size_setCell] at sy1 | rw [World.size_drew] at sy1)); have : 0 < y1.now.heap.size := (by omega); have : 0 ≤ y1.now.heap.size := (by omega); have : 0 < y1.now.heap.size + 1 + 1 := (by omega)))
          go_returns
          refine ⟨rfl, ?_⟩
          repeat' (first | (with_reducible exact Below.refl _ _) | (with_reducible assumption) | (with_reducible refine Ext.below _ ?_ ?_) | (with_reducible refine Below.on ?_ (by with_reducible assumption) ?_) | (with_reducible refine Below.alloc ?_ ?_ _) | (with_reducible refine Below.drew ?_) | (with_reducible refine Below.setCell ?_ ?_ _) | (with_reducible exact Nat.le_refl _) | omega | (simp; done) | (simp [go_sem]; done) | (simp at *; omega))
    · have hge : i = 7 := by have := hi.out.1; omega
      subst hge
      have eV : V = 0 := by have hE := hi.out.2; rw [List.drop_of_length_le (by omega), firstE] at hE; exact hE.symm; intro v l m q e; cases e
      clear hi hV
      subst eV
      go_wp2_with (first | ((first | with_reducible refine wp_region_ext2 (by kernel_rfl) (by kernel_rfl) ?_ | with_reducible refine wp_region_ext (by kernel_rfl) (by kernel_rfl) ?_); (repeat (first | go_big_quiet_step ((first | fail)) | quiet_step ((first | fail)))); refine wpQuiet_nil ?_; rintro _ ⟨yr, rfl⟩; have syr := Ext.size yr; (repeat (first | rw [World.size_alloc] at syr | rw [World.size_setCell] at syr | rw [World.size_drew] at syr))))
      go_returns
      refine ⟨rfl, ?_⟩
      repeat' (first | (with_reducible exact Below.refl _ _) | (with_reducible assumption) | (with_reducible refine Ext.below _ ?_ ?_) | (with_reducible refine Below.on ?_ (by with_reducible assumption) ?_) | (with_reducible refine Below.alloc ?_ ?_ _) | (with_reducible refine Below.drew ?_) | (with_reducible refine Below.setCell ?_ ?_ _) | (with_reducible exact Nat.le_refl _) | omega | (simp; done) | (simp [go_sem]; done) | (simp at *; omega))
end Go.Proofs.YtpiacndnjehbiaaDoor
namespace Go.Proofs.YtpiacndnjehbiaaDoor
open Go.RowKit Go.Shelf
attribute [local go_sem] Option.isSome_some Ext.cell Ext.frozen Ext.lt Ext.le Ext.lt_add Ext.le_add Ext.ne Ext.ne' lt2 lt3 lt4 lt5 le2 le3 le4
/-- Blows up to the first one by which all stones have ended. -/
def thru : List BlowR → List BlowR
  | [] => []
  | x :: r => if x.all = true then [x] else x :: thru r
theorem thru_of : ∀ (q : List BlowR) (x : BlowR) (L : List BlowR), (q ++ [x]) <+: L → (∀ y ∈ q, y.all = false) → x.all = true → thru L = q ++ [x]
  | [], x, L, h, _, hx => by
    obtain ⟨r, rfl⟩ := h
    simp [thru, hx]
  | y :: q, x, L, h, hq, hx => by
    obtain ⟨r, rfl⟩ := h
    have h1 := thru_of q x (q ++ [x] ++ r) ⟨r, rfl⟩ (fun z hz => hq z (by simp [hz])) hx
    have h2 := hq y (by simp)
    simp only [List.cons_append, thru, h2, Bool.false_eq_true, if_false]
    rw [h1]
theorem blowsL_last (s t : StoneR) : ∀ (l : List V2) (i : Nat) (we wl : Int), ∃ x ∈ blowsL s t l i we wl, x.all = true
  | [], i, we, wl => ⟨⟨i, massV t * wl, massV s * we, true⟩, by simp [blowsL], rfl⟩
  | v :: l, i, we, wl => by
    obtain ⟨x, hx, hb⟩ := blowsL_last s t l (i + 1) (stp we (kOf s v) (dOf s)) (stp wl (kOf t v) (dOf t))
    exact ⟨x, by unfold blowsL; exact List.mem_append.2 (.inr hx), hb⟩
theorem blowsL_len (s t : StoneR) : ∀ (l : List V2) (i : Nat) (we wl : Int), (blowsL s t l i we wl).length ≤ l.length + 1
  | [], i, we, wl => by simp [blowsL]
  | v :: l, i, we, wl => by
    have := blowsL_len s t l (i + 1) (stp we (kOf s v) (dOf s)) (stp wl (kOf t v) (dOf t))
    unfold blowsL
    rw [List.length_append, List.length_cons]
    split
    · simp only [List.length_cons, List.length_nil]; omega
    · simp only [List.length_nil]; omega
/-- The blows of a rock with a fall. -/
def blowsV (l : List V2) (k : RockR) (f : FallR) : List BlowR := thru (blowsL (firstS k f) (lastS k f) l 0 ((firstS k f).speed * (firstS k f).speed) ((lastS k f).speed * (lastS k f).speed))
def rowsB (l : List BlowR) : List Value := l.flatMap fun x => [.int .i64 x.n, .int .i64 x.lo, .int .i64 x.hi]
theorem rowsB_add (l : List BlowR) (x : BlowR) : rowsB (l ++ [x]) = rowsB l ++ [.int .i64 x.n, .int .i64 x.lo, .int .i64 x.hi] := by unfold rowsB; rw [List.flatMap_append]; simp
theorem rockE_ok {k : RockR} {f : FallR} (h : rockE k f = 0) : (firstS k f).Ok ∧ (lastS k f).Ok ∧ (k.size.x ≤ k.size.y ∧ k.dens.x ≤ k.dens.y ∧ k.strong.x ≤ k.strong.y ∧ k.spin.x ≤ k.spin.y ∧ k.shape.x ≤ k.shape.y ∧ f.speed.x ≤ f.speed.y ∧ f.slope.x ≤ f.slope.y) := by
  have e0 : ∀ v m : V2, spE v m = 0 → v.x ≤ v.y ∧ m.x ≤ v.x ∧ v.y ≤ m.y := fun v m h => by
    unfold spE at h
    split at h
    · cases h
    · split at h
      · omega
      · cases h
  unfold rockE spansL limsL at h
  simp only [firstE] at h
  split at h
  · rename_i h0
    split at h
    · rename_i h1
      split at h
      · rename_i h2
        split at h
        · rename_i h3
          split at h
          · rename_i h4
            split at h
            · rename_i h5
              split at h
              · rename_i h6
                have q0 := e0 _ _ h0
                have q1 := e0 _ _ h1
                have q2 := e0 _ _ h2
                have q3 := e0 _ _ h3
                have q4 := e0 _ _ h4
                have q5 := e0 _ _ h5
                have q6 := e0 _ _ h6
                simp only at q0 q1 q2 q3 q4 q5 q6
                exact ⟨⟨by simp only [firstS]; omega, by simp only [firstS]; omega, by simp only [firstS]; omega, by simp only [firstS]; omega, by simp only [firstS]; omega, by simp only [firstS]; omega, by simp only [firstS]; omega⟩, ⟨by simp only [lastS]; omega, by simp only [lastS]; omega, by simp only [lastS]; omega, by simp only [lastS]; omega, by simp only [lastS]; omega, by simp only [lastS]; omega, by simp only [lastS]; omega⟩, q0.1, q1.1, q2.1, q3.1, q4.1, q5.1, q6.1⟩
              · contradiction
            · contradiction
          · contradiction
        · contradiction
      · contradiction
    · contradiction
  · contradiction
theorem blowsOf_any (p : Option Addr) (n c : Nat) (k : RockR) (f : FallR) (w : World) : Calls Tryd.prog 54 #[.slice p n c, k.val, f.val] w fun e w' =>
    e = .returned (.func (.func 66) #[] #[.pointer (some ⟨w.heap.size, 0, none⟩), .pointer (some ⟨w.heap.size + 1, 0, none⟩), .pointer (some ⟨w.heap.size + 1 + 1, 0, none⟩)]) ∧
    w' = ((w.alloc (.cells #[.slice p n c] 22)).alloc (.cells #[.int .i64 k.size.x, .int .i64 k.size.y, .int .i64 k.dens.x, .int .i64 k.dens.y, .int .i64 k.strong.x, .int .i64 k.strong.y, .int .i64 k.spin.x, .int .i64 k.spin.y, .int .i64 k.shape.x, .int .i64 k.shape.y, .bool k.pile] 26)).alloc (.cells #[.int .i64 f.speed.x, .int .i64 f.speed.y, .int .i64 f.slope.x, .int .i64 f.slope.y] 28) := by
  unfold RockR.val FallR.val
  go_enter Tryd.func54, Tryd.ntmps54
  go_wp2_with (first | ((first | with_reducible refine wp_region_ext2 (by kernel_rfl) (by kernel_rfl) ?_ | with_reducible refine wp_region_ext (by kernel_rfl) (by kernel_rfl) ?_); (repeat (first | go_big_quiet_step ((first | fail)) | quiet_step ((first | fail)))); refine wpQuiet_nil ?_; rintro _ ⟨yr, rfl⟩; have syr := Ext.size yr; (repeat (first | rw [World.size_alloc] at syr | rw [World.size_setCell] at syr | rw [World.size_drew] at syr))))
  go_returns
  exact ⟨rfl, rfl⟩
theorem row_other {W W' : World} {base : Nat} {e : TypeId} {size : Nat} {v : Value} {n : Nat} {xs : List Value} {row : Option Nat} (h : W.ownsRow base e size v n xs) (hg : W.grownBy W' row) (hr : ∀ r, row = some r → ∃ o : Obj, W.heap[r]? = some o ∧ o.isCells = false) : W'.ownsRow base e size v n xs := by
  refine h.kept hg ?_
  rcases h.2 with ⟨rfl, _⟩ | ⟨g, cap, cur, rfl, _, hc, _⟩
  · exact .inl rfl
  · refine .inr fun e' => ?_
    obtain ⟨o, ho, hn⟩ := hr g e'.symm
    rw [hc] at ho
    injection ho with ho
    subst ho
    cases hn
theorem row_same {W W' : World} {base : Nat} {e : TypeId} {size : Nat} {v : Value} {n : Nat} {xs : List Value} (h : W.ownsRow base e size v n xs) (hk : ∀ k, base ≤ k → k < W.heap.size → W'.heap[k]? = W.heap[k]?) : W'.ownsRow base e size v n xs := by
  refine ⟨h.1, ?_⟩
  rcases h.2 with h2 | ⟨g, cap, cur, hv, hg, hc, rest⟩
  · exact .inl h2
  · exact .inr ⟨g, cap, cur, hv, hg, (hk g hg (Array.getElem?_eq_some_iff.1 hc).1).trans hc, rest⟩
theorem boxed_other {W W' : World} {B : Nat} {t : TypeId} {v : Value} {row : Option Nat} (h : Boxed W B t v) (hg : W.grownBy W' row) (hr : ∀ r, row = some r → ∃ o : Obj, W.heap[r]? = some o ∧ o.isCells = false) : Boxed W' B t v :=
  h.kept hg fun e => by
    obtain ⟨o, ho, hn⟩ := hr B e.symm
    rw [show W.heap[B]? = _ from h] at ho
    injection ho with ho
    subst ho
    cases hn
end Go.Proofs.YtpiacndnjehbiaaDoor
namespace Go.Proofs.YtpiacndnjehbiaaDoor
open Go.RowKit Go.Shelf
attribute [local go_sem] Option.isSome_some Ext.cell Ext.frozen Ext.lt Ext.le Ext.lt_add Ext.le_add Ext.ne Ext.ne' lt2 lt3 lt4 lt5 le2 le3 le4
/-- A box whose cells are written one behind the other. -/
def setL (W : World) (B : Nat) : Nat → List Value → World
  | _, [] => W
  | o, v :: vs => setL (W.setCell ⟨B, o, none⟩ v) B (o + 1) vs
theorem setL_heap : ∀ (vs : List Value) (W : World) (B o : Nat) (done rest : List Value) (T : TypeId) (f : Nat × Nat), W.heap[B]? = some (.cells (done ++ rest).toArray T f) → done.length = o → rest.length = vs.length → (setL W B o vs).heap[B]? = some (.cells (done ++ vs).toArray T f)
  | [], _, B, _, done, rest, T, f, h, _, hl => by
    obtain rfl := List.length_eq_zero_iff.1 hl
    exact h
  | v :: vs, W, B, o, done, rest, T, f, h, ho, hl => by
    match rest, hl with
    | r :: rest, hl =>
      unfold setL
      have h1 := heap_setCell (o := o) h v
      have h2 : (done ++ r :: rest).toArray.setIfInBounds o v = ((done ++ [v]) ++ rest).toArray := by
        apply Array.ext'
        simp only [Array.toList_setIfInBounds]
        rw [← ho]
        simp
      rw [h2] at h1
      have := setL_heap vs (W.setCell ⟨B, o, none⟩ v) B (o + 1) (done ++ [v]) rest T f h1 (by simp [ho]) (by simpa using hl)
      simpa using this
theorem setL_all {vs : List Value} {W : World} {B : Nat} {cs : Array Value} {T : TypeId} {f : Nat × Nat} (h : W.heap[B]? = some (.cells cs T f)) (hl : cs.size = vs.length) : (setL W B 0 vs).heap[B]? = some (.cells vs.toArray T f) := by
  have := setL_heap vs W B 0 [] cs.toList T f (by simpa using h) rfl (by simpa using hl)
  simpa using this
theorem setL_other {B k : Nat} (hk : k ≠ B) : ∀ (vs : List Value) (W : World) (o : Nat), (setL W B o vs).heap[k]? = W.heap[k]?
  | [], _, _ => rfl
  | v :: vs, _, _ => (setL_other hk vs _ _).trans (heap_setCell_ne hk v)
theorem setL_below {n B : Nat} {w : World} (hn : n ≤ B) : ∀ (vs : List Value) (W : World) (o : Nat), Below n w W → Below n w (setL W B o vs)
  | [], _, _, h => h
  | v :: vs, _, o, h => setL_below hn vs _ _ (h.setCell (p := ⟨B, o, none⟩) hn v)
theorem setL_lim {B : Nat} (hB : 0 < B) : ∀ (vs : List Value) (W : World) (o : Nat), LimAt W → LimAt (setL W B o vs)
  | [], _, _, h => h
  | v :: vs, _, _, h => setL_lim hB vs _ _ (h.set hB v)
structure V3 where
  a : Int
  b : Int
  c : Int
theorem V3.ext' {x y : V3} (h1 : x.a = y.a) (h2 : x.b = y.b) (h3 : x.c = y.c) : x = y := by cases x; cases y; simp at *; exact ⟨h1, h2, h3⟩
def V3At (W : World) (p : Option Addr) (l : List V3) : Prop := ∀ j (h : j < l.length), ∃ B o, p = some ⟨B, o, none⟩ ∧ B < W.heap.size ∧ W.cell? ⟨B, o + j * 3, none⟩ = some (.int .i64 l[j].a) ∧ W.cell? ⟨B, o + j * 3 + 1, none⟩ = some (.int .i64 l[j].b) ∧ W.cell? ⟨B, o + j * 3 + 2, none⟩ = some (.int .i64 l[j].c)
theorem V3At.on {W W' : World} {p : Option Addr} {l : List V3} (h : V3At W p l) (b : Below W.heap.size W W') : V3At W' p l := fun j hj => by
  obtain ⟨B, o, rfl, hB, h1, h2, h3⟩ := h j hj
  exact ⟨B, o, rfl, Nat.lt_of_lt_of_le hB b.size, (b.cell (p := ⟨B, o + j * 3, none⟩) hB).trans h1, (b.cell (p := ⟨B, o + j * 3 + 1, none⟩) hB).trans h2, (b.cell (p := ⟨B, o + j * 3 + 2, none⟩) hB).trans h3⟩
def v3s (l : List BlowR) : List V3 := l.map fun x => ⟨x.n, x.lo, x.hi⟩
theorem v3_of {W : World} {base : Nat} {e : TypeId} {v : Value} {l : List BlowR} (h : W.ownsRow base e 3 v l.length (rowsB l)) : ∃ p c, v = .slice p (v3s l).length c ∧ V3At W p (v3s l) := by
  obtain ⟨p, c, rfl, hc⟩ := owns_at (fun x : BlowR => [.int .i64 x.n, .int .i64 x.lo, .int .i64 x.hi]) 3 (fun _ => rfl) l h
  refine ⟨p, c, by simp [v3s], fun j hj => ?_⟩
  have hj2 : j < l.length := by simpa [v3s] using hj
  obtain ⟨B, o, hp, hb, hB, hv⟩ := hc j hj2
  exact ⟨B, o, hp, hB, by simpa [v3s] using hv 0 _ rfl, by simpa [v3s] using hv 1 _ rfl, by simpa [v3s] using hv 2 _ rfl⟩
set_option maxRecDepth 100000 in
set_option maxHeartbeats 8000000 in
theorem SameBlows_eq (p q : Option Addr) (c d : Nat) (l : List V3) (w : World) (hp : V3At w p l) (hq : V3At w q l) (hn : l.length ≤ 1000) : Calls Tryd.prog 27 #[.slice p l.length c, .slice q l.length d] w (Gives (.bool true) w) := by
  replace hp := Go.Lib.hid hp
  replace hq := Go.Lib.hid hq
  go_enter Tryd.func27, Tryd.ntmps27
  go_wp2_with (first | ((first | with_reducible refine wp_region_ext2 (by kernel_rfl) (by kernel_rfl) ?_ | with_reducible refine wp_region_ext (by kernel_rfl) (by kernel_rfl) ?_); (repeat (first | go_big_quiet_step ((first | fail)) | quiet_step ((first | fail)))); refine wpQuiet_nil ?_; rintro _ ⟨yr, rfl⟩; have syr := Ext.size yr; (repeat (first | rw [World.size_alloc] at syr | rw [World.size_setCell] at syr | rw [World.size_drew] at syr))))
  go_loopw [5] (fun s W => ∃ (i : Nat) (x : Ext w), s = .int .i64 i ∧ W = x.now ∧ Hid (i ≤ l.length)) (fun s _ => l.length - (intOf s).toNat)
  case atStart => exact ⟨0, ⟨w, Below.refl _ _⟩, rfl, rfl, Go.Lib.hid (Nat.zero_le _)⟩
  case round =>
    obtain ⟨i, x, rfl, rfl, hi⟩ := hrel
    have xs := x.size
    by_cases hlt : i < l.length
    · have hlt2 : (i : Int) < l.length := by omega
      obtain ⟨B, o, rfl, hB, c1, c2, c3⟩ := hp.out i hlt
      obtain ⟨B', o', rfl, hB', d1, d2, d3⟩ := hq.out i hlt
      have hi1000 : i ≤ 1000 := by omega
      clear hi
      generalize l[i].a = t1 at *
      generalize l[i].b = t2 at *
      generalize l[i].c = t3 at *
      go_wp2_with (first | ((first | with_reducible refine wp_region_ext2 (by kernel_rfl) (by kernel_rfl) ?_ | with_reducible refine wp_region_ext (by kernel_rfl) (by kernel_rfl) ?_); (repeat (first | go_big_quiet_step ((first | fail)) | quiet_step ((first | fail)))); refine wpQuiet_nil ?_; rintro _ ⟨yr, rfl⟩; have syr := Ext.size yr; (repeat (first | rw [World.size_alloc] at syr | rw [World.size_setCell] at syr | rw [World.size_drew] at syr)); have : B < yr.now.heap.size := (by omega); have : B ≤ yr.now.heap.size := (by omega); have : B < yr.now.heap.size + 1 + 1 := (by omega); have : B' < yr.now.heap.size := (by omega); have : B' ≤ yr.now.heap.size := (by omega); have : B' < yr.now.heap.size + 1 + 1 := (by omega)))
      refine ⟨⟨i + 1, ⟨yr.now, ?_⟩, by simp, rfl, Go.Lib.hid (by omega)⟩, by simp [intOf]; omega⟩
      repeat' (first | (with_reducible exact Below.refl _ _) | (with_reducible assumption) | (with_reducible refine Ext.below _ ?_ ?_) | (with_reducible refine Below.on ?_ (by with_reducible assumption) ?_) | (with_reducible refine Below.alloc ?_ ?_ _) | (with_reducible refine Below.drew ?_) | (with_reducible refine Below.setCell ?_ ?_ _) | (with_reducible exact Nat.le_refl _) | omega | (simp; done) | (simp [go_sem]; done) | (simp at *; omega))
    · have hge : ¬ (i : Int) < l.length := by omega
      clear hi
      go_wp2_with (first | ((first | with_reducible refine wp_region_ext2 (by kernel_rfl) (by kernel_rfl) ?_ | with_reducible refine wp_region_ext (by kernel_rfl) (by kernel_rfl) ?_); (repeat (first | go_big_quiet_step ((first | fail)) | quiet_step ((first | fail)))); refine wpQuiet_nil ?_; rintro _ ⟨yr, rfl⟩; have syr := Ext.size yr; (repeat (first | rw [World.size_alloc] at syr | rw [World.size_setCell] at syr | rw [World.size_drew] at syr))))
      go_returns
      refine ⟨rfl, ?_⟩
      repeat' (first | (with_reducible exact Below.refl _ _) | (with_reducible assumption) | (with_reducible refine Ext.below _ ?_ ?_) | (with_reducible refine Below.on ?_ (by with_reducible assumption) ?_) | (with_reducible refine Below.alloc ?_ ?_ _) | (with_reducible refine Below.drew ?_) | (with_reducible refine Below.setCell ?_ ?_ _) | (with_reducible exact Nat.le_refl _) | omega | (simp; done) | (simp [go_sem]; done) | (simp at *; omega))
end Go.Proofs.YtpiacndnjehbiaaDoor
namespace Go.Proofs.YtpiacndnjehbiaaDoor
open Go.RowKit Go.Shelf
attribute [local go_sem] Oper.semAt_some
attribute [local go_sem] Option.isSome_some Ext.cell Ext.frozen Ext.lt Ext.le Ext.lt_add Ext.le_add Ext.ne Ext.ne' lt2 lt3 lt4 lt5 le2 le3 le4
theorem blow_info : (Tryd.prog.info? 58).map (fun i => (i.zero, i.size, i.bytes)) = some (some (.agg #[.int .i64 0, .int .i64 0, .int .i64 0]), 3, 24) := by kernel_rfl
theorem cells3_new (w : World) (v0 v1 v2 : Value) (T : TypeId) : ∀ j u, [v0, v1, v2][j]? = some u → (w.alloc (.cells #[v0, v1, v2] T)).cell? ((⟨w.heap.size, 0, none⟩ : Addr).add j) = some u := by
  intro j u hj
  have hl : j < 3 := by simpa using (List.getElem?_eq_some_iff.1 hj).1
  have hadd : (⟨w.heap.size, 0, none⟩ : Addr).add j = ⟨w.heap.size, j, none⟩ := by unfold Addr.add; split <;> simp_all
  rw [hadd]
  rcases (show j = 0 ∨ j = 1 ∨ j = 2 by omega) with rfl | rfl | rfl <;> (simp at hj; subst hj; simp [go_sem])
/-- What the list holds when so many blows have come. -/
def Held (LX B : Nat) (pre : List BlowR) (W : World) : Prop := ∃ v, Boxed W LX 50 v ∧ W.ownsRow B 58 3 v pre.length (rowsB pre)
theorem Held.other {LX B : Nat} {pre : List BlowR} {W W' : World} {row : Option Nat} (h : Held LX B pre W) (hg : W.grownBy W' row) (hr : ∀ r, row = some r → ∃ o : Obj, W.heap[r]? = some o ∧ o.isCells = false) : Held LX B pre W' := by
  obtain ⟨v, h1, h2⟩ := h
  exact ⟨v, boxed_other h1 hg hr, row_other h2 hg hr⟩
theorem Held.kept {LX B lo : Nat} {pre : List BlowR} {A C : World} (h : Held LX B pre A) (hk : KeptI lo B A C) (hL : LX < lo) : Held LX B pre C := by
  obtain ⟨v, h1, h2⟩ := h
  exact ⟨v, (hk.block LX h1.lt (by omega)).trans h1, row_same h2 fun k hb hlt => hk.block k hlt (by omega)⟩
theorem Held.alloc {LX B : Nat} {pre : List BlowR} {W : World} (h : Held LX B pre W) (o : Obj) : Held LX B pre (W.alloc o) := by
  obtain ⟨v, h1, h2⟩ := h
  exact ⟨v, h1.alloc o, h2.alloc o⟩
theorem below_keptI {n lo hi : Nat} {w A C : World} (h : Below n w A) (hn : n ≤ lo) (hA : n ≤ A.heap.size) (k : KeptI lo hi A C) : Below n w C :=
  ⟨k.os.trans h.os, k.tape.trans h.tape, k.output.trans h.output, Nat.le_trans h.size k.size, fun B hB => (k.block B (by omega) (by omega)).trans (h.block B hB)⟩
def BlowsPost (w : World) (L : List BlowR) : Ending → World → Prop := fun e w' => ∃ v, e = .returned (.tuple #[v, .int .i64 0]) ∧ Below w.heap.size w w' ∧ w'.ownsRow w.heap.size 58 3 v L.length (rowsB L)
set_option maxRecDepth 100000 in
set_option maxHeartbeats 16000000 in
theorem Blows_ok (p : Option Addr) (cap : Nat) (l : List V2) (k : RockR) (f : FallR) (w : World) (hlim : LimAt w) (hv : VecsAt w p l) (ha : airE l = 0) (hr : rockE k f = 0) :
    Calls Tryd.prog 25 #[.slice p l.length cap, k.val, f.val] w (BlowsPost w (blowsV l k f)) := by
  obtain ⟨hl, hair⟩ := air_ok ha
  obtain ⟨hs, ht, -⟩ := rockE_ok hr
  have ca := fun (W : World) (y : Below w.heap.size w W) => CheckAir_any p cap l W (hv.on y)
  have cr := fun (W : World) (y : LimAt W) => CheckRock_any k f W y
  rw [ha] at ca
  rw [hr] at cr
  have cbo := fun (n : Nat) (W : World) => blowsOf_any p n cap k f W
  unfold blowsV
  unfold RockR.val FallR.val at *
  refine (callsIn_wide (n := 6)).1 ?_
  refine callsIn_of_wp_marks Tryd.func25 rfl trivial ?_ rfl
  simp only [Tryd.ntmps25, List.size_toArray, List.length_cons, List.length_nil, Nat.reduceAdd, Nat.reduceSub, Array.replicate_succ, Array.replicate_zero, List.push_toArray, List.append_toArray, List.nil_append, List.cons_append]
  gi_wp2
  obtain ⟨Wa, hWa⟩ : ∃ Wa, (w.alloc (.cells #[.int .i64 k.size.x, .int .i64 k.size.y, .int .i64 k.dens.x, .int .i64 k.dens.y, .int .i64 k.strong.x, .int .i64 k.strong.y, .int .i64 k.spin.x, .int .i64 k.spin.y, .int .i64 k.shape.x, .int .i64 k.shape.y, .bool k.pile] 26)).alloc (.cells #[.int .i64 f.speed.x, .int .i64 f.speed.y, .int .i64 f.slope.x, .int .i64 f.slope.y] 28) = Wa := ⟨_, rfl⟩
  rw [hWa]
  have hsa : Wa.heap.size = w.heap.size + 1 + 1 := by rw [← hWa]; simp
  have hBa : Below w.heap.size w Wa := by rw [← hWa]; repeat' (first | (with_reducible exact Below.refl _ _) | (with_reducible assumption) | (with_reducible refine Ext.below _ ?_ ?_) | (with_reducible refine Below.on ?_ (by with_reducible assumption) ?_) | (with_reducible refine Below.alloc ?_ ?_ _) | (with_reducible refine Below.drew ?_) | (with_reducible refine Below.setCell ?_ ?_ _) | (with_reducible exact Nat.le_refl _) | omega | (simp; done) | (simp [go_sem]; done) | (simp at *; omega))
  have c0 : Wa.cell? ⟨w.heap.size, 0, none⟩ = some (.int .i64 k.size.x) := by rw [← hWa]; simp [go_sem]
  have c1 : Wa.cell? ⟨w.heap.size, 1, none⟩ = some (.int .i64 k.size.y) := by rw [← hWa]; simp [go_sem]
  have c2 : Wa.cell? ⟨w.heap.size, 2, none⟩ = some (.int .i64 k.dens.x) := by rw [← hWa]; simp [go_sem]
  have c3 : Wa.cell? ⟨w.heap.size, 3, none⟩ = some (.int .i64 k.dens.y) := by rw [← hWa]; simp [go_sem]
  have c4 : Wa.cell? ⟨w.heap.size, 4, none⟩ = some (.int .i64 k.strong.x) := by rw [← hWa]; simp [go_sem]
  have c5 : Wa.cell? ⟨w.heap.size, 5, none⟩ = some (.int .i64 k.strong.y) := by rw [← hWa]; simp [go_sem]
  have c6 : Wa.cell? ⟨w.heap.size, 6, none⟩ = some (.int .i64 k.spin.x) := by rw [← hWa]; simp [go_sem]
  have c7 : Wa.cell? ⟨w.heap.size, 7, none⟩ = some (.int .i64 k.spin.y) := by rw [← hWa]; simp [go_sem]
  have c8 : Wa.cell? ⟨w.heap.size, 8, none⟩ = some (.int .i64 k.shape.x) := by rw [← hWa]; simp [go_sem]
  have c9 : Wa.cell? ⟨w.heap.size, 9, none⟩ = some (.int .i64 k.shape.y) := by rw [← hWa]; simp [go_sem]
  have c10 : Wa.cell? ⟨w.heap.size, 10, none⟩ = some (.bool k.pile) := by rw [← hWa]; simp [go_sem]
  have d0 : Wa.cell? ⟨w.heap.size + 1, 0, none⟩ = some (.int .i64 f.speed.x) := by rw [← hWa]; simp [go_sem]
  have d1 : Wa.cell? ⟨w.heap.size + 1, 1, none⟩ = some (.int .i64 f.speed.y) := by rw [← hWa]; simp [go_sem]
  have d2 : Wa.cell? ⟨w.heap.size + 1, 2, none⟩ = some (.int .i64 f.slope.x) := by rw [← hWa]; simp [go_sem]
  have d3 : Wa.cell? ⟨w.heap.size + 1, 3, none⟩ = some (.int .i64 f.slope.y) := by rw [← hWa]; simp [go_sem]
  clear hWa
  have la : w.heap.size + 1 < Wa.heap.size := by omega
  have la0 : w.heap.size < Wa.heap.size := by omega
  refine ⟨trivial, (callsIn_wide.2 (ca Wa hBa)).mono ?_⟩
  rintro _ Wb ⟨rfl, hb⟩
  have hsb := hb.size
  replace c0 := (hb.cell (p := ⟨w.heap.size, 0, none⟩) la0).trans c0
  replace c1 := (hb.cell (p := ⟨w.heap.size, 1, none⟩) la0).trans c1
  replace c2 := (hb.cell (p := ⟨w.heap.size, 2, none⟩) la0).trans c2
  replace c3 := (hb.cell (p := ⟨w.heap.size, 3, none⟩) la0).trans c3
  replace c4 := (hb.cell (p := ⟨w.heap.size, 4, none⟩) la0).trans c4
  replace c5 := (hb.cell (p := ⟨w.heap.size, 5, none⟩) la0).trans c5
  replace c6 := (hb.cell (p := ⟨w.heap.size, 6, none⟩) la0).trans c6
  replace c7 := (hb.cell (p := ⟨w.heap.size, 7, none⟩) la0).trans c7
  replace c8 := (hb.cell (p := ⟨w.heap.size, 8, none⟩) la0).trans c8
  replace c9 := (hb.cell (p := ⟨w.heap.size, 9, none⟩) la0).trans c9
  replace c10 := (hb.cell (p := ⟨w.heap.size, 10, none⟩) la0).trans c10
  replace d0 := (hb.cell (p := ⟨w.heap.size + 1, 0, none⟩) la).trans d0
  replace d1 := (hb.cell (p := ⟨w.heap.size + 1, 1, none⟩) la).trans d1
  replace d2 := (hb.cell (p := ⟨w.heap.size + 1, 2, none⟩) la).trans d2
  replace d3 := (hb.cell (p := ⟨w.heap.size + 1, 3, none⟩) la).trans d3
  have hBb : Below w.heap.size w Wb := hBa.trans (hb.mono (by omega))
  have lb : w.heap.size + 1 < Wb.heap.size := by omega
  have lb0 : w.heap.size < Wb.heap.size := by omega
  clear hb
  gi_wp2
  refine ⟨trivial, (callsIn_wide.2 (cr Wb (hlim.on hBb))).mono ?_⟩
  rintro _ Wc ⟨rfl, hc⟩
  have hsc := hc.size
  replace c0 := (hc.cell (p := ⟨w.heap.size, 0, none⟩) lb0).trans c0
  replace c1 := (hc.cell (p := ⟨w.heap.size, 1, none⟩) lb0).trans c1
  replace c2 := (hc.cell (p := ⟨w.heap.size, 2, none⟩) lb0).trans c2
  replace c3 := (hc.cell (p := ⟨w.heap.size, 3, none⟩) lb0).trans c3
  replace c4 := (hc.cell (p := ⟨w.heap.size, 4, none⟩) lb0).trans c4
  replace c5 := (hc.cell (p := ⟨w.heap.size, 5, none⟩) lb0).trans c5
  replace c6 := (hc.cell (p := ⟨w.heap.size, 6, none⟩) lb0).trans c6
  replace c7 := (hc.cell (p := ⟨w.heap.size, 7, none⟩) lb0).trans c7
  replace c8 := (hc.cell (p := ⟨w.heap.size, 8, none⟩) lb0).trans c8
  replace c9 := (hc.cell (p := ⟨w.heap.size, 9, none⟩) lb0).trans c9
  replace c10 := (hc.cell (p := ⟨w.heap.size, 10, none⟩) lb0).trans c10
  replace d0 := (hc.cell (p := ⟨w.heap.size + 1, 0, none⟩) lb).trans d0
  replace d1 := (hc.cell (p := ⟨w.heap.size + 1, 1, none⟩) lb).trans d1
  replace d2 := (hc.cell (p := ⟨w.heap.size + 1, 2, none⟩) lb).trans d2
  replace d3 := (hc.cell (p := ⟨w.heap.size + 1, 3, none⟩) lb).trans d3
  have hBc : Below w.heap.size w Wc := hBb.trans (hc.mono (by omega))
  have lc : w.heap.size + 1 < Wc.heap.size := by omega
  have lc0 : w.heap.size < Wc.heap.size := by omega
  clear hc
  gi_wp2
  refine ⟨trivial, (callsIn_wide.2 (cbo l.length _)).mono ?_⟩
  rintro _ _ ⟨rfl, rfl⟩
  obtain ⟨LX, hLX⟩ : ∃ LX, Wc.heap.size = LX := ⟨_, rfl⟩
  simp only [World.size_alloc]
  obtain ⟨W0, hW0⟩ : ∃ W0, (((Wc.alloc (.cells #[.slice none 0 0] 50)).alloc (.cells #[.slice p l.length cap] 22)).alloc (.cells #[.int .i64 k.size.x, .int .i64 k.size.y, .int .i64 k.dens.x, .int .i64 k.dens.y, .int .i64 k.strong.x, .int .i64 k.strong.y, .int .i64 k.spin.x, .int .i64 k.spin.y, .int .i64 k.shape.x, .int .i64 k.shape.y, .bool k.pile] 26)).alloc (.cells #[.int .i64 f.speed.x, .int .i64 f.speed.y, .int .i64 f.slope.x, .int .i64 f.slope.y] 28) = W0 := ⟨_, rfl⟩
  rw [hW0]
  have hs0 : W0.heap.size = LX + 1 + 1 + 1 + 1 := by rw [← hW0, ← hLX]; simp
  have hB0 : Below w.heap.size w W0 := by rw [← hW0]; repeat' (first | (with_reducible exact Below.refl _ _) | (with_reducible assumption) | (with_reducible refine Ext.below _ ?_ ?_) | (with_reducible refine Below.on ?_ (by with_reducible assumption) ?_) | (with_reducible refine Below.alloc ?_ ?_ _) | (with_reducible refine Below.drew ?_) | (with_reducible refine Below.setCell ?_ ?_ _) | (with_reducible exact Nat.le_refl _) | omega | (simp; done) | (simp [go_sem]; done) | (simp at *; omega))
  have hbx : Boxed W0 LX 50 (.slice none 0 0) := by
    rw [← hW0, ← hLX]
    exact (((Boxed.new Wc 50 (.slice none 0 0)).alloc _).alloc _).alloc _
  have a0 : W0.cell? ⟨LX + 1, 0, none⟩ = some (.slice p l.length cap) := by rw [← hW0, ← hLX]; simp [go_sem]
  replace c0 : W0.cell? ⟨LX + 1 + 1, 0, none⟩ = some (.int .i64 k.size.x) := by rw [← hW0, ← hLX]; simp [go_sem]
  replace c1 : W0.cell? ⟨LX + 1 + 1, 1, none⟩ = some (.int .i64 k.size.y) := by rw [← hW0, ← hLX]; simp [go_sem]
  replace c2 : W0.cell? ⟨LX + 1 + 1, 2, none⟩ = some (.int .i64 k.dens.x) := by rw [← hW0, ← hLX]; simp [go_sem]
  replace c3 : W0.cell? ⟨LX + 1 + 1, 3, none⟩ = some (.int .i64 k.dens.y) := by rw [← hW0, ← hLX]; simp [go_sem]
  replace c4 : W0.cell? ⟨LX + 1 + 1, 4, none⟩ = some (.int .i64 k.strong.x) := by rw [← hW0, ← hLX]; simp [go_sem]
  replace c5 : W0.cell? ⟨LX + 1 + 1, 5, none⟩ = some (.int .i64 k.strong.y) := by rw [← hW0, ← hLX]; simp [go_sem]
  replace c6 : W0.cell? ⟨LX + 1 + 1, 6, none⟩ = some (.int .i64 k.spin.x) := by rw [← hW0, ← hLX]; simp [go_sem]
  replace c7 : W0.cell? ⟨LX + 1 + 1, 7, none⟩ = some (.int .i64 k.spin.y) := by rw [← hW0, ← hLX]; simp [go_sem]
  replace c8 : W0.cell? ⟨LX + 1 + 1, 8, none⟩ = some (.int .i64 k.shape.x) := by rw [← hW0, ← hLX]; simp [go_sem]
  replace c9 : W0.cell? ⟨LX + 1 + 1, 9, none⟩ = some (.int .i64 k.shape.y) := by rw [← hW0, ← hLX]; simp [go_sem]
  replace c10 : W0.cell? ⟨LX + 1 + 1, 10, none⟩ = some (.bool k.pile) := by rw [← hW0, ← hLX]; simp [go_sem]
  replace d0 : W0.cell? ⟨LX + 1 + 1 + 1, 0, none⟩ = some (.int .i64 f.speed.x) := by rw [← hW0, ← hLX]; simp [go_sem]
  replace d1 : W0.cell? ⟨LX + 1 + 1 + 1, 1, none⟩ = some (.int .i64 f.speed.y) := by rw [← hW0, ← hLX]; simp [go_sem]
  replace d2 : W0.cell? ⟨LX + 1 + 1 + 1, 2, none⟩ = some (.int .i64 f.slope.x) := by rw [← hW0, ← hLX]; simp [go_sem]
  replace d3 : W0.cell? ⟨LX + 1 + 1 + 1, 3, none⟩ = some (.int .i64 f.slope.y) := by rw [← hW0, ← hLX]; simp [go_sem]
  rw [hLX]
  clear hW0
  have hLw : w.heap.size ≤ LX := by omega
  clear hLX hsc hsb hBc hBb hBa lc lc0 lb lb0 la la0 hsa
  gi_wp2
  have hSeq := blows_seq 5 (by omega) (LX + 1) (LX + 1 + 1) (LX + 1 + 1 + 1) w.heap.size p cap l k f W0 (hlim.on hB0) hlim.lt (hv.on hB0) (fun A o h0 e => by obtain ⟨A', o', e', hA', -⟩ := hv 0 (by omega); rw [e] at e'; injection e' with e'; injection e' with e1 e2; omega) hl hair hs ht (by omega) a0 c0 c1 c2 c3 c4 c5 c6 c7 c8 c9 c10 d0 d1 d2 d3 (by omega) (by omega) (by omega)
  have hlast := blowsL_last (firstS k f) (lastS k f) l 0 ((firstS k f).speed * (firstS k f).speed) ((lastS k f).speed * (lastS k f).speed)
  generalize blowsL (firstS k f) (lastS k f) l 0 ((firstS k f).speed * (firstS k f).speed) ((lastS k f).speed * (lastS k f).speed) = L at *
  clear a0 c0 c1 c2 c3 c4 c5 c6 c7 c8 c9 c10 d0 d1 d2 d3 ca cr cbo hs ht hr ha hair
  have hsw : w.heap.size ≤ W0.heap.size := by omega
  refine wpIn_rangeFunc_cells (w := W0) (n := 6) rfl (by omega) (gf := 66) (lb := #[.pointer (some ⟨LX + 1, 0, none⟩), .pointer (some ⟨LX + 1 + 1, 0, none⟩), .pointer (some ⟨LX + 1 + 1 + 1, 0, none⟩)]) rfl trivial (enters_of Tryd.func66 (by kernel_rfl) rfl)
    hsw hSeq (Below.refl _ _) (fun _ => rfl)
    (fun B pre W => (Held LX B pre W ∧ ∀ x ∈ pre, x.all = false) ∧ Below w.heap.size w W)
    (fun c B pre W => ((c = .exit 0 ∧ w.heap.size ≤ B) ∧ Held LX B pre W ∧ ∃ (q : List BlowR) (x : BlowR), pre = q ++ [x] ∧ x.all = true ∧ ∀ y ∈ q, y.all = false) ∧ Below w.heap.size w W)
    (fun B => OwnFrom.and (fun s A C row hs hg hr => ⟨hs.1.other hg (fun r e => (hr r e).2), hs.2⟩) (ownFrom_below (Nat.le_refl _) hsw))
    (fun c B => OwnFrom.and (fun s A C row hs hg hr => ⟨hs.1, hs.2.1.other hg (fun r e => (hr r e).2), hs.2.2⟩) (ownFrom_below (Nat.le_refl _) hsw))
    (fun B s A C hs hk => ⟨⟨hs.1.1.kept hk (by omega), hs.1.2⟩, below_keptI hs.2 (by omega) hs.2.size hk⟩)
    (fun c B s A C hs hk => ⟨⟨hs.1.1, hs.1.2.1.kept hk (by omega), hs.1.2.2⟩, below_keptI hs.2 (by omega) hs.2.size hk⟩)
    (fun W' hW' => ⟨⟨⟨.slice none 0 0, (hW'.block LX hbx.lt).trans hbx, World.ownsRow_nil _ _ _ _⟩, by simp⟩, hB0.trans (hW'.mono hsw)⟩)
    (fun B x a' W => ∃ Bx : Nat, W0.heap.size ≤ Bx ∧ W.heap[Bx]? = some (.cells #[.int .i64 x.n, .int .i64 x.lo, .int .i64 x.hi] 58 (0, 0)) ∧ a' = { tmps := #[.slice p l.length cap, .agg #[.int .i64 k.size.x, .int .i64 k.size.y, .int .i64 k.dens.x, .int .i64 k.dens.y, .int .i64 k.strong.x, .int .i64 k.strong.y, .int .i64 k.spin.x, .int .i64 k.spin.y, .int .i64 k.shape.x, .int .i64 k.shape.y, .bool k.pile], .agg #[.int .i64 f.speed.x, .int .i64 f.speed.y, .int .i64 f.slope.x, .int .i64 f.slope.y], undef, .pointer (some ⟨w.heap.size, 0, none⟩), .pointer (some ⟨w.heap.size + 1, 0, none⟩), .slice none 0 0, .int .i64 0, .int .i64 0, .int .i64 0, .pointer (some ⟨LX, 0, none⟩), .pointer (some ⟨Bx, 0, none⟩), .bool x.all, .slice p l.length cap, .int .i64 0, .int .i64 0, .bool false, undef, .agg #[.int .i64 k.size.x, .int .i64 k.size.y, .int .i64 k.dens.x, .int .i64 k.dens.y, .int .i64 k.strong.x, .int .i64 k.strong.y, .int .i64 k.spin.x, .int .i64 k.spin.y, .int .i64 k.shape.x, .int .i64 k.shape.y, .bool k.pile], .agg #[.int .i64 f.speed.x, .int .i64 f.speed.y, .int .i64 f.slope.x, .int .i64 f.slope.y], .int .i64 0, .int .i64 0, .bool false, undef, .slice p l.length cap, .agg #[.int .i64 k.size.x, .int .i64 k.size.y, .int .i64 k.dens.x, .int .i64 k.dens.y, .int .i64 k.strong.x, .int .i64 k.strong.y, .int .i64 k.spin.x, .int .i64 k.spin.y, .int .i64 k.shape.x, .int .i64 k.shape.y, .bool k.pile], .agg #[.int .i64 f.speed.x, .int .i64 f.speed.y, .int .i64 f.slope.x, .int .i64 f.slope.y], .func (.func 66) #[] #[.pointer (some ⟨LX + 1, 0, none⟩), .pointer (some ⟨LX + 1 + 1, 0, none⟩), .pointer (some ⟨LX + 1 + 1 + 1, 0, none⟩)], .agg #[.int .i64 x.n, .int .i64 x.lo, .int .i64 x.hi], .bool x.all, undef, undef, undef, undef, undef, undef], defers := [] })
    ?hAx ?assign ?body ?done ?stop
  case hAx =>
    rintro B x a' s A C row ⟨Bx, h1, h2, h3⟩ hg hr
    exact ⟨Bx, h1, (hg.block Bx (Array.getElem?_eq_some_iff.1 h2).1 (fun e => by obtain ⟨o, ho, hn⟩ := (hr Bx e.symm).2; rw [h2] at ho; injection ho with ho; subst ho; cases hn)).trans h2, h3⟩
  case assign =>
    rintro lr B pre x W K hB1 hB2 ⟨⟨hh, hok⟩, hB⟩ hK
    replace hok := Go.Lib.hid hok
    obtain ⟨xn, xl, xh, xa⟩ := x
    dsimp only [BlowR.enc] at *
    gi_wp2
    exact hK _ (W.alloc (.cells #[.int .i64 xn, .int .i64 xl, .int .i64 xh] 58)) ((KeepsOthers.alloc _ _).from _) (KeepB.of ((Below.refl _ W).alloc (Nat.le_refl _) _)) ⟨⟨hh.alloc _, hok.out⟩, hB.alloc hB.size _⟩ ⟨W.heap.size, by omega, heap_alloc_new _ _, rfl⟩
  case body =>
    rintro lr B pre x a' W hlr ⟨r, hr⟩ hB1 hB2 ⟨⟨⟨v, hv1, hv2⟩, hok⟩, hB⟩ ⟨Bx, hBx, hrow, rfl⟩ hlen
    obtain ⟨xn, xl, xh, xa⟩ := x
    simp only at hrow
    obtain ⟨i0, hi0, hz0, hz1, hz2⟩ := info_parts blow_info
    have q0 := hv1.cell
    have b0 : W.cell? ⟨Bx, 0, none⟩ = some (.int .i64 xn) := (cell_of_row W _ 0 _ _ _ hrow).trans rfl
    have b1 : W.cell? ⟨Bx, 1, none⟩ = some (.int .i64 xl) := (cell_of_row W _ 1 _ _ _ hrow).trans rfl
    have b2 : W.cell? ⟨Bx, 2, none⟩ = some (.int .i64 xh) := (cell_of_row W _ 2 _ _ _ hrow).trans rfl
    have lLX := hv1.lt
    have lBx := row_lt hrow
    have sBW := hB.size
    have hbase : w.heap.size ≤ B := by omega
    have hLB : LX < B := by omega
    replace hok := Go.Lib.hid hok
    clear hr hSeq hlast hbx hv hlim
    have hfin : ∀ (w1 : World) (v' : Value), (W.alloc (.cells #[.int .i64 xn, .int .i64 xl, .int .i64 xh] 58)).grownBy w1 v.ownBlock → w1.ownsRow B 58 3 v' (pre.length + 1) (rowsB pre ++ [.int .i64 xn, .int .i64 xl, .int .i64 xh]) →
        Boxed w1 LX 50 v ∧ KeepsOthers W (w1.setCell ⟨LX, 0, none⟩ v') ∧ KeepB w.heap.size (W0.heap.size + 2) B W (w1.setCell ⟨LX, 0, none⟩ v') ∧ Held LX B (pre ++ [⟨xn, xl, xh, xa⟩]) (w1.setCell ⟨LX, 0, none⟩ v') ∧ Below w.heap.size w (w1.setCell ⟨LX, 0, none⟩ v') := fun w1 v' hgrow hown' => by
      obtain ⟨h3, h4, -, h6, h7⟩ := hv1.appended (by decide) (owns_base hv2 hbase) sBW hLw (owns_base hown' hbase) hgrow
      refine ⟨h3, h6, ⟨h7.size, fun k hk hn => ?_⟩, ⟨v', h4, by rw [rowsB_add, List.length_append, List.length_singleton]; exact row_put hown' hLB 0 v'⟩, hB.trans h7⟩
      by_cases hkw : k < w.heap.size
      · exact h7.block k hkw
      · have hk2 : W0.heap.size + 2 ≤ k ∧ k < B := by omega
        refine (blk_set w1 ⟨LX, 0, none⟩ v' k (by simp only; omega)).trans ((hgrow.block k (by simp; omega) (fun e => ?_)).trans (heap_alloc_old _ _ hk))
        have := hv2.lt k e.symm
        omega
    replace hfin := Go.Lib.hid hfin
    have hall : xa = false → Hid (∀ y ∈ pre ++ [(⟨xn, xl, xh, xa⟩ : BlowR)], y.all = false) := fun e => Go.Lib.hid fun y hy => by
      rcases List.mem_append.1 hy with h | h
      · exact hok.out y h
      · rw [List.mem_singleton.1 h]; exact e
    replace hall := Go.Lib.hid hall
    cases xa
    · gi_wp2_with (gi_at_builtin; refine wpListIn_append_own _ rfl _ _ 50 rfl B 58 i0 _ 3 24 Tryd.underlying50 hi0 hz0 hz1 hz2 rfl (by decide) v pre.length (rowsB pre) rfl (hv2.alloc _) ⟨W.heap.size, 0, none⟩ 1 1 [.int .i64 xn, .int .i64 xl, .int .i64 xh] rfl rfl (cells3_new _ _ _ _ _) (by intro u hu; simp only [List.mem_cons, List.not_mem_nil, or_false] at hu; rcases hu with rfl | rfl | rfl <;> rfl) (by unfold maxLen; omega) (by omega) (by simp only [World.size_alloc]; omega) ?_; intro v' w1 hown' hgrow _; obtain ⟨p6, c6, rfl⟩ := owns_form hown'; obtain ⟨f1, f2, f3, f4, f5⟩ := hfin.out w1 _ hgrow hown'; have g1 := f1.cell; have g2 := f1.frozen)
      rw [hs0] at f3
      exact ⟨f2.from _, f3, ⟨f4, (hall.out trivial).out⟩, f5⟩
    · gi_wp2_with (gi_at_builtin; refine wpListIn_append_own _ rfl _ _ 50 rfl B 58 i0 _ 3 24 Tryd.underlying50 hi0 hz0 hz1 hz2 rfl (by decide) v pre.length (rowsB pre) rfl (hv2.alloc _) ⟨W.heap.size, 0, none⟩ 1 1 [.int .i64 xn, .int .i64 xl, .int .i64 xh] rfl rfl (cells3_new _ _ _ _ _) (by intro u hu; simp only [List.mem_cons, List.not_mem_nil, or_false] at hu; rcases hu with rfl | rfl | rfl <;> rfl) (by unfold maxLen; omega) (by omega) (by simp only [World.size_alloc]; omega) ?_; intro v' w1 hown' hgrow _; obtain ⟨p6, c6, rfl⟩ := owns_form hown'; obtain ⟨f1, f2, f3, f4, f5⟩ := hfin.out w1 _ hgrow hown'; have g1 := f1.cell; have g2 := f1.frozen)
      exact ⟨f2.from _, ⟨⟨rfl, hbase⟩, f4, pre, _, rfl, rfl, hok.out⟩, f5⟩
  case done =>
    rintro D B xs W hD rfl ⟨⟨hh, hok⟩, hB⟩ hK
    obtain ⟨x, hx, hb⟩ := hlast
    rw [hok x hx] at hb
    cases hb
  case stop =>
    rintro D c B pre W hD hpre ⟨⟨⟨rfl, hwB⟩, ⟨v, hv1, hv2⟩, q, x, rfl, hx, hq⟩, hBw⟩ hK
    have q0 := hv1.cell
    have lLX := hv1.lt
    have hth := Go.Lib.hid (thru_of q x L hpre hq hx)
    have hv3 : W.ownsRow w.heap.size 58 3 v (q ++ [x]).length (rowsB (q ++ [x])) := owns_base hv2 hwB
    replace hv3 := Go.Lib.hid hv3
    clear hlast hSeq hbx hv2 hpre hq hx
    obtain ⟨p6, c6, rfl⟩ := owns_form hv3.out
    gi_wp2
    refine ⟨by simp, .inl ⟨_, _, rfl, run_takeDeferred hK, ?_⟩⟩
    refine ⟨.tuple #[.slice p6 (q.length + 1) c6, .int .i64 0], by simp [results, Tryd.f25, go_sem], ?_⟩
    refine ⟨_, rfl, hBw.trans (belowK_b (w := w) (Nat.le_refl _) W D _ _ (by omega) hK rfl rfl), ?_⟩
    rw [hth.out]
    have h9 := row_other hv3.out (grownBy_putObj' W D (.deferred none)) (fun r e => by cases e; exact ⟨_, hK, rfl⟩)
    simpa using h9
end Go.Proofs.YtpiacndnjehbiaaDoor
namespace Go.Proofs.YtpiacndnjehbiaaDoor
open Go.RowKit Go.Shelf
attribute [local go_sem] Option.isSome_some Ext.cell Ext.frozen Ext.lt Ext.le Ext.lt_add Ext.le_add Ext.ne Ext.ne' lt2 lt3 lt4 lt5 le2 le3 le4
theorem list27 {α : Type} {l : List α} (h : l.length = 27) : ∃ b0 b1 b2 b3 b4 b5 b6 b7 b8 b9 b10 b11 b12 b13 b14 b15 b16 b17 b18 b19 b20 b21 b22 b23 b24 b25 b26, l = [b0, b1, b2, b3, b4, b5, b6, b7, b8, b9, b10, b11, b12, b13, b14, b15, b16, b17, b18, b19, b20, b21, b22, b23, b24, b25, b26] := by
  match l, h with
  | [b0, b1, b2, b3, b4, b5, b6, b7, b8, b9, b10, b11, b12, b13, b14, b15, b16, b17, b18, b19, b20, b21, b22, b23, b24, b25, b26], _ => exact ⟨_, _, _, _, _, _, _, _, _, _, _, _, _, _, _, _, _, _, _, _, _, _, _, _, _, _, _, rfl⟩
def soleRDeps : List (List Nat) := [[], [0], [1], [], [3], [4, 2], [], [6], [7, 5], [], [9], [10, 8], [], [12], [13, 11], [], [15], [2, 5, 8, 11, 14, 16], [], [18], [19, 14], [], [21], [22, 20], [20, 23], [17, 23], [24, 25]]
def soleRInv (R : Nat) (s : StoneR) (a0 : Act) (X : World) (l : List Bool) (fr : Act) (W : World) : Prop :=
  ∃ s4 s5 s6 s7 s8 s9 s10 s11 s12 s13 s14 s15 s16 s17 s18 s19 s20 s21 s22 s23 s24 s25 s26 s27 s28 : Value, fr = sets a0 [(4, s4), (5, s5), (6, s6), (7, s7), (8, s8), (9, s9), (10, s10), (11, s11), (12, s12), (13, s13), (14, s14), (15, s15), (16, s16), (17, s17), (18, s18), (19, s19), (20, s20), (21, s21), (22, s22), (23, s23), (24, s24), (25, s25), (26, s26), (27, s27), (28, s28)] ∧ KeptX (R + 1) (R + 1) (R + 1 + 1 + 1) X W ∧
    (l.getD 25 false = false → W.heap[R + 1]? = some (.cells #[.int .i64 0, .int .i64 0, .int .i64 0, .int .i64 0, .int .i64 0, .int .i64 0, .int .i64 0, .int .i64 0, .int .i64 0, .int .i64 0, .bool false] 26 (0, 0))) ∧
    (l.getD 26 false = false → W.heap[R + 1 + 1]? = some (.cells #[.int .i64 0, .int .i64 0, .int .i64 0, .int .i64 0] 28 (0, 0))) ∧
    (l.getD 25 false = true → W.heap[R + 1]? = some (.cells #[.int .i64 s.size, .int .i64 s.size, .int .i64 s.dens, .int .i64 s.dens, .int .i64 s.strong, .int .i64 s.strong, .int .i64 s.spin, .int .i64 s.spin, .int .i64 s.shape, .int .i64 s.shape, .bool s.pile] 26 (0, 0))) ∧
    (l.getD 26 false = true → W.heap[R + 1 + 1]? = some (.cells #[.int .i64 s.speed, .int .i64 s.speed, .int .i64 s.slope, .int .i64 s.slope] 28 (0, 0))) ∧
    (l.getD 0 false = true → s4 = .pointer (some ⟨R, 0, none⟩)) ∧
    (l.getD 1 false = true → s5 = .int .i64 s.size) ∧
    (l.getD 2 false = true → s6 = .agg #[.int .i64 s.size, .int .i64 s.size]) ∧
    (l.getD 3 false = true → s7 = .pointer (some ⟨R, 1, none⟩)) ∧
    (l.getD 4 false = true → s8 = .int .i64 s.dens) ∧
    (l.getD 5 false = true → s9 = .agg #[.int .i64 s.dens, .int .i64 s.dens]) ∧
    (l.getD 6 false = true → s10 = .pointer (some ⟨R, 2, none⟩)) ∧
    (l.getD 7 false = true → s11 = .int .i64 s.strong) ∧
    (l.getD 8 false = true → s12 = .agg #[.int .i64 s.strong, .int .i64 s.strong]) ∧
    (l.getD 9 false = true → s13 = .pointer (some ⟨R, 3, none⟩)) ∧
    (l.getD 10 false = true → s14 = .int .i64 s.spin) ∧
    (l.getD 11 false = true → s15 = .agg #[.int .i64 s.spin, .int .i64 s.spin]) ∧
    (l.getD 12 false = true → s16 = .pointer (some ⟨R, 4, none⟩)) ∧
    (l.getD 13 false = true → s17 = .int .i64 s.shape) ∧
    (l.getD 14 false = true → s18 = .agg #[.int .i64 s.shape, .int .i64 s.shape]) ∧
    (l.getD 15 false = true → s19 = .pointer (some ⟨R, 5, none⟩)) ∧
    (l.getD 16 false = true → s20 = .bool s.pile) ∧
    (l.getD 17 false = true → s21 = .agg #[.int .i64 s.size, .int .i64 s.size, .int .i64 s.dens, .int .i64 s.dens, .int .i64 s.strong, .int .i64 s.strong, .int .i64 s.spin, .int .i64 s.spin, .int .i64 s.shape, .int .i64 s.shape, .bool s.pile]) ∧
    (l.getD 18 false = true → s22 = .pointer (some ⟨R, 6, none⟩)) ∧
    (l.getD 19 false = true → s23 = .int .i64 s.speed) ∧
    (l.getD 20 false = true → s24 = .agg #[.int .i64 s.speed, .int .i64 s.speed]) ∧
    (l.getD 21 false = true → s25 = .pointer (some ⟨R, 7, none⟩)) ∧
    (l.getD 22 false = true → s26 = .int .i64 s.slope) ∧
    (l.getD 23 false = true → s27 = .agg #[.int .i64 s.slope, .int .i64 s.slope]) ∧
    (l.getD 24 false = true → s28 = .agg #[.int .i64 s.speed, .int .i64 s.speed, .int .i64 s.slope, .int .i64 s.slope])
def soleTold (R : Nat) (s : StoneR) : Act → World → Act → World → Prop := fun a X a' W => a' = sets a [(4, a'.tmps.getD 4 undef), (5, a'.tmps.getD 5 undef), (6, a'.tmps.getD 6 undef), (7, a'.tmps.getD 7 undef), (8, a'.tmps.getD 8 undef), (9, a'.tmps.getD 9 undef), (10, a'.tmps.getD 10 undef), (11, a'.tmps.getD 11 undef), (12, a'.tmps.getD 12 undef), (13, a'.tmps.getD 13 undef), (14, a'.tmps.getD 14 undef), (15, a'.tmps.getD 15 undef), (16, a'.tmps.getD 16 undef), (17, a'.tmps.getD 17 undef), (18, a'.tmps.getD 18 undef), (19, a'.tmps.getD 19 undef), (20, a'.tmps.getD 20 undef), (21, a'.tmps.getD 21 undef), (22, a'.tmps.getD 22 undef), (23, a'.tmps.getD 23 undef), (24, a'.tmps.getD 24 undef), (25, a'.tmps.getD 25 undef), (26, a'.tmps.getD 26 undef), (27, a'.tmps.getD 27 undef), (28, a'.tmps.getD 28 undef)] ∧ KeptX (R + 1) (R + 1) (R + 1 + 1 + 1) X W ∧ W.heap[R + 1]? = some (.cells #[.int .i64 s.size, .int .i64 s.size, .int .i64 s.dens, .int .i64 s.dens, .int .i64 s.strong, .int .i64 s.strong, .int .i64 s.spin, .int .i64 s.spin, .int .i64 s.shape, .int .i64 s.shape, .bool s.pile] 26 (0, 0)) ∧ W.heap[R + 1 + 1]? = some (.cells #[.int .i64 s.speed, .int .i64 s.speed, .int .i64 s.slope, .int .i64 s.slope] 28 (0, 0))
theorem KeptX.below {b lo hi n : Nat} {w X W : World} (h : KeptX b lo hi X W) (k : Below n w X) (hb : n ≤ b) (hn : n ≤ lo) (hX : n ≤ X.heap.size) : Below n w W :=
  ⟨h.os.trans k.os, h.tape.trans k.tape, h.output.trans k.output, Nat.le_trans k.size h.size, fun B hB => (h.block B (by omega) (by omega) (by omega)).trans (k.block B hB)⟩
set_option maxRecDepth 100000 in
set_option maxHeartbeats 16000000 in
theorem SoleRock_any (s : StoneR) (w : World) : Calls Tryd.prog 24 #[s.val] w (Gives (.tuple #[(soleK s).val, (soleF s).val]) w) := by
  unfold StoneR.val StoneR.vals soleK soleF RockR.val FallR.val
  go_enter Tryd.func24, Tryd.ntmps24
  go_upto_region 1 with fail
  refine wp_named (fun W0 hW => ?_)
  have q0 : W0.cell? ⟨w.heap.size, 0, none⟩ = some (.int .i64 s.size) := by rw [← hW]; simp [go_sem]
  have q1 : W0.cell? ⟨w.heap.size, 1, none⟩ = some (.int .i64 s.dens) := by rw [← hW]; simp [go_sem]
  have q2 : W0.cell? ⟨w.heap.size, 2, none⟩ = some (.int .i64 s.strong) := by rw [← hW]; simp [go_sem]
  have q3 : W0.cell? ⟨w.heap.size, 3, none⟩ = some (.int .i64 s.spin) := by rw [← hW]; simp [go_sem]
  have q4 : W0.cell? ⟨w.heap.size, 4, none⟩ = some (.int .i64 s.shape) := by rw [← hW]; simp [go_sem]
  have q5 : W0.cell? ⟨w.heap.size, 5, none⟩ = some (.bool s.pile) := by rw [← hW]; simp [go_sem]
  have q6 : W0.cell? ⟨w.heap.size, 6, none⟩ = some (.int .i64 s.speed) := by rw [← hW]; simp [go_sem]
  have q7 : W0.cell? ⟨w.heap.size, 7, none⟩ = some (.int .i64 s.slope) := by rw [← hW]; simp [go_sem]
  have z0 : W0.heap[w.heap.size + 1]? = some (.cells #[.int .i64 0, .int .i64 0, .int .i64 0, .int .i64 0, .int .i64 0, .int .i64 0, .int .i64 0, .int .i64 0, .int .i64 0, .int .i64 0, .bool false] 26 (0, 0)) := by
    rw [← hW]
    refine (heap_alloc_old _ _ (by simp)).trans ?_
    have := heap_alloc_new (w.alloc (.cells #[.int .i64 s.size, .int .i64 s.dens, .int .i64 s.strong, .int .i64 s.spin, .int .i64 s.shape, .bool s.pile, .int .i64 s.speed, .int .i64 s.slope] 30)) (.cells #[.int .i64 0, .int .i64 0, .int .i64 0, .int .i64 0, .int .i64 0, .int .i64 0, .int .i64 0, .int .i64 0, .int .i64 0, .int .i64 0, .bool false] 26)
    simpa using this
  have z1 : W0.heap[w.heap.size + 1 + 1]? = some (.cells #[.int .i64 0, .int .i64 0, .int .i64 0, .int .i64 0] 28 (0, 0)) := by
    rw [← hW]
    have := heap_alloc_new ((w.alloc (.cells #[.int .i64 s.size, .int .i64 s.dens, .int .i64 s.strong, .int .i64 s.spin, .int .i64 s.shape, .bool s.pile, .int .i64 s.speed, .int .i64 s.slope] 30)).alloc (.cells #[.int .i64 0, .int .i64 0, .int .i64 0, .int .i64 0, .int .i64 0, .int .i64 0, .int .i64 0, .int .i64 0, .int .i64 0, .int .i64 0, .bool false] 26)) (.cells #[.int .i64 0, .int .i64 0, .int .i64 0, .int .i64 0] 28)
    simpa using this
  have hB0 : Below w.heap.size w W0 := by rw [← hW]; repeat' (first | (with_reducible exact Below.refl _ _) | (with_reducible assumption) | (with_reducible refine Ext.below _ ?_ ?_) | (with_reducible refine Below.on ?_ (by with_reducible assumption) ?_) | (with_reducible refine Below.alloc ?_ ?_ _) | (with_reducible refine Below.drew ?_) | (with_reducible refine Below.setCell ?_ ?_ _) | (with_reducible exact Nat.le_refl _) | omega | (simp; done) | (simp [go_sem]; done) | (simp at *; omega))
  have hs0 : W0.heap.size = w.heap.size + 1 + 1 + 1 := by rw [← hW]; simp
  clear hW
  refine wp_tell (soleTold w.heap.size s) ?_ ?_
  focus
    repeat (rename_i zz; clear zz)
    refine region_dep (by kernel_rfl) soleRDeps (by kernel_rfl) (soleRInv w.heap.size s) ?h0 ?hstep ?hend
    case h0 =>
      refine ⟨?z4, ?z5, ?z6, ?z7, ?z8, ?z9, ?z10, ?z11, ?z12, ?z13, ?z14, ?z15, ?z16, ?z17, ?z18, ?z19, ?z20, ?z21, ?z22, ?z23, ?z24, ?z25, ?z26, ?z27, ?z28, ?fr, KeptX.start, (fun _ => z0), (fun _ => z1), by simp, by simp, by simp, by simp, by simp, by simp, by simp, by simp, by simp, by simp, by simp, by simp, by simp, by simp, by simp, by simp, by simp, by simp, by simp, by simp, by simp, by simp, by simp, by simp, by simp, by simp, by simp⟩
      case fr =>
        simp only [sets, List.foldl_cons, List.foldl_nil, List.set_cons_succ, List.set_cons_zero]
        rfl
    case hend =>
      intro l' fr W hl hall hInv
      unfold soleRInv at hInv
      obtain ⟨s4, s5, s6, s7, s8, s9, s10, s11, s12, s13, s14, s15, s16, s17, s18, s19, s20, s21, s22, s23, s24, s25, s26, s27, s28, hInv⟩ := hInv
      obtain ⟨hfr, hB, g0, g1, g2, g3, f0, f1, f2, f3, f4, f5, f6, f7, f8, f9, f10, f11, f12, f13, f14, f15, f16, f17, f18, f19, f20, f21, f22, f23, f24⟩ := hInv
      subst hfr
      obtain ⟨b0, b1, b2, b3, b4, b5, b6, b7, b8, b9, b10, b11, b12, b13, b14, b15, b16, b17, b18, b19, b20, b21, b22, b23, b24, b25, b26, rfl⟩ := list27 hl
      simp only [List.getD_cons_zero, List.getD_cons_succ] at g0 g1 g2 g3 f0 f1 f2 f3 f4 f5 f6 f7 f8 f9 f10 f11 f12 f13 f14 f15 f16 f17 f18 f19 f20 f21 f22 f23 f24
      simp only [List.all_cons, id, Bool.and_eq_true] at hall
      obtain ⟨e0, e1, e2, e3, e4, e5, e6, e7, e8, e9, e10, e11, e12, e13, e14, e15, e16, e17, e18, e19, e20, e21, e22, e23, e24, e25, e26, -⟩ := hall
      exact ⟨rfl, by kernel_rfl, hB, g2 e25, g3 e26⟩
    case hstep =>
      intro l' fr W ii hl hInv hr hi
      unfold soleRInv at hInv
      obtain ⟨s4, s5, s6, s7, s8, s9, s10, s11, s12, s13, s14, s15, s16, s17, s18, s19, s20, s21, s22, s23, s24, s25, s26, s27, s28, hInv⟩ := hInv
      obtain ⟨hfr, hB, g0, g1, g2, g3, f0, f1, f2, f3, f4, f5, f6, f7, f8, f9, f10, f11, f12, f13, f14, f15, f16, f17, f18, f19, f20, f21, f22, f23, f24⟩ := hInv
      subst hfr
      obtain ⟨b0, b1, b2, b3, b4, b5, b6, b7, b8, b9, b10, b11, b12, b13, b14, b15, b16, b17, b18, b19, b20, b21, b22, b23, b24, b25, b26, rfl⟩ := list27 hl
      have sW := hB.size
      replace q0 := (hB.cell (o := 0) (by omega) (by omega) (by omega)).trans q0
      replace q1 := (hB.cell (o := 1) (by omega) (by omega) (by omega)).trans q1
      replace q2 := (hB.cell (o := 2) (by omega) (by omega) (by omega)).trans q2
      replace q3 := (hB.cell (o := 3) (by omega) (by omega) (by omega)).trans q3
      replace q4 := (hB.cell (o := 4) (by omega) (by omega) (by omega)).trans q4
      replace q5 := (hB.cell (o := 5) (by omega) (by omega) (by omega)).trans q5
      replace q6 := (hB.cell (o := 6) (by omega) (by omega) (by omega)).trans q6
      replace q7 := (hB.cell (o := 7) (by omega) (by omega) (by omega)).trans q7
      simp only [List.getD_cons_zero, List.getD_cons_succ] at g0 g1 g2 g3 f0 f1 f2 f3 f4 f5 f6 f7 f8 f9 f10 f11 f12 f13 f14 f15 f16 f17 f18 f19 f20 f21 f22 f23 f24
      replace hB := Go.Lib.hid hB
      replace hi := Go.Lib.hid hi
      replace g0 := Go.Lib.hid g0
      replace g1 := Go.Lib.hid g1
      replace g2 := Go.Lib.hid g2
      replace g3 := Go.Lib.hid g3
      replace f0 := Go.Lib.hid f0
      replace f1 := Go.Lib.hid f1
      replace f2 := Go.Lib.hid f2
      replace f3 := Go.Lib.hid f3
      replace f4 := Go.Lib.hid f4
      replace f5 := Go.Lib.hid f5
      replace f6 := Go.Lib.hid f6
      replace f7 := Go.Lib.hid f7
      replace f8 := Go.Lib.hid f8
      replace f9 := Go.Lib.hid f9
      replace f10 := Go.Lib.hid f10
      replace f11 := Go.Lib.hid f11
      replace f12 := Go.Lib.hid f12
      replace f13 := Go.Lib.hid f13
      replace f14 := Go.Lib.hid f14
      replace f15 := Go.Lib.hid f15
      replace f16 := Go.Lib.hid f16
      replace f17 := Go.Lib.hid f17
      replace f18 := Go.Lib.hid f18
      replace f19 := Go.Lib.hid f19
      replace f20 := Go.Lib.hid f20
      replace f21 := Go.Lib.hid f21
      replace f22 := Go.Lib.hid f22
      replace f23 := Go.Lib.hid f23
      replace f24 := Go.Lib.hid f24
      rcases ii with _ | _ | _ | _ | _ | _ | _ | _ | _ | _ | _ | _ | _ | _ | _ | _ | _ | _ | _ | _ | _ | _ | _ | _ | _ | _ | _ | ii
      · refine wpOp_step rfl (fun K hK => ?_)
        simp only [sets, List.foldl_cons, List.foldl_nil, List.set_cons_succ, List.set_cons_zero]
        go_simp
        exact hK _ _ ⟨(.pointer (some ⟨w.heap.size, 0, none⟩)), s5, s6, s7, s8, s9, s10, s11, s12, s13, s14, s15, s16, s17, s18, s19, s20, s21, s22, s23, s24, s25, s26, s27, s28, by kernel_rfl, hB.out, g0.out, g1.out, g2.out, g3.out, fun _ => rfl, f1.out, f2.out, f3.out, f4.out, f5.out, f6.out, f7.out, f8.out, f9.out, f10.out, f11.out, f12.out, f13.out, f14.out, f15.out, f16.out, f17.out, f18.out, f19.out, f20.out, f21.out, f22.out, f23.out, f24.out⟩
      · simp only [soleRDeps, List.getD_cons_zero, List.getD_cons_succ, List.all_cons, List.all_nil, Bool.and_true] at hr
        have hd0 := hr
        obtain rfl := f0.out hd0
        refine wpOp_step rfl (fun K hK => ?_)
        simp only [sets, List.foldl_cons, List.foldl_nil, List.set_cons_succ, List.set_cons_zero]
        go_simp
        exact hK _ _ ⟨(.pointer (some ⟨w.heap.size, 0, none⟩)), (.int .i64 s.size), s6, s7, s8, s9, s10, s11, s12, s13, s14, s15, s16, s17, s18, s19, s20, s21, s22, s23, s24, s25, s26, s27, s28, by kernel_rfl, hB.out, g0.out, g1.out, g2.out, g3.out, f0.out, fun _ => rfl, f2.out, f3.out, f4.out, f5.out, f6.out, f7.out, f8.out, f9.out, f10.out, f11.out, f12.out, f13.out, f14.out, f15.out, f16.out, f17.out, f18.out, f19.out, f20.out, f21.out, f22.out, f23.out, f24.out⟩
      · simp only [soleRDeps, List.getD_cons_zero, List.getD_cons_succ, List.all_cons, List.all_nil, Bool.and_true] at hr
        have hd1 := hr
        obtain rfl := f1.out hd1
        refine wpOp_step rfl (fun K hK => ?_)
        simp only [sets, List.foldl_cons, List.foldl_nil, List.set_cons_succ, List.set_cons_zero]
        go_simp
        refine (sole_any s.size W).mono ?_
        rintro _ W6 ⟨rfl, hb6⟩
        exact hK _ _ ⟨s4, (.int .i64 s.size), (.agg #[.int .i64 s.size, .int .i64 s.size]), s7, s8, s9, s10, s11, s12, s13, s14, s15, s16, s17, s18, s19, s20, s21, s22, s23, s24, s25, s26, s27, s28, by kernel_rfl, hB.out.ext ⟨W6, hb6⟩, (fun h => (hb6.block _ (by omega)).trans (g0.out h)), (fun h => (hb6.block _ (by omega)).trans (g1.out h)), (fun h => (hb6.block _ (by omega)).trans (g2.out h)), (fun h => (hb6.block _ (by omega)).trans (g3.out h)), f0.out, f1.out, fun _ => rfl, f3.out, f4.out, f5.out, f6.out, f7.out, f8.out, f9.out, f10.out, f11.out, f12.out, f13.out, f14.out, f15.out, f16.out, f17.out, f18.out, f19.out, f20.out, f21.out, f22.out, f23.out, f24.out⟩
      · refine wpOp_step rfl (fun K hK => ?_)
        simp only [sets, List.foldl_cons, List.foldl_nil, List.set_cons_succ, List.set_cons_zero]
        go_simp
        exact hK _ _ ⟨s4, s5, s6, (.pointer (some ⟨w.heap.size, 1, none⟩)), s8, s9, s10, s11, s12, s13, s14, s15, s16, s17, s18, s19, s20, s21, s22, s23, s24, s25, s26, s27, s28, by kernel_rfl, hB.out, g0.out, g1.out, g2.out, g3.out, f0.out, f1.out, f2.out, fun _ => rfl, f4.out, f5.out, f6.out, f7.out, f8.out, f9.out, f10.out, f11.out, f12.out, f13.out, f14.out, f15.out, f16.out, f17.out, f18.out, f19.out, f20.out, f21.out, f22.out, f23.out, f24.out⟩
      · simp only [soleRDeps, List.getD_cons_zero, List.getD_cons_succ, List.all_cons, List.all_nil, Bool.and_true] at hr
        have hd3 := hr
        obtain rfl := f3.out hd3
        refine wpOp_step rfl (fun K hK => ?_)
        simp only [sets, List.foldl_cons, List.foldl_nil, List.set_cons_succ, List.set_cons_zero]
        go_simp
        exact hK _ _ ⟨s4, s5, s6, (.pointer (some ⟨w.heap.size, 1, none⟩)), (.int .i64 s.dens), s9, s10, s11, s12, s13, s14, s15, s16, s17, s18, s19, s20, s21, s22, s23, s24, s25, s26, s27, s28, by kernel_rfl, hB.out, g0.out, g1.out, g2.out, g3.out, f0.out, f1.out, f2.out, f3.out, fun _ => rfl, f5.out, f6.out, f7.out, f8.out, f9.out, f10.out, f11.out, f12.out, f13.out, f14.out, f15.out, f16.out, f17.out, f18.out, f19.out, f20.out, f21.out, f22.out, f23.out, f24.out⟩
      · simp only [soleRDeps, List.getD_cons_zero, List.getD_cons_succ, List.all_cons, List.all_nil, Bool.and_true, Bool.and_eq_true] at hr
        obtain ⟨hd4, hd2⟩ := hr
        obtain rfl := f4.out hd4
        obtain rfl := f2.out hd2
        refine wpOp_step rfl (fun K hK => ?_)
        simp only [sets, List.foldl_cons, List.foldl_nil, List.set_cons_succ, List.set_cons_zero]
        go_simp
        refine (sole_any s.dens W).mono ?_
        rintro _ W6 ⟨rfl, hb6⟩
        exact hK _ _ ⟨s4, s5, (.agg #[.int .i64 s.size, .int .i64 s.size]), s7, (.int .i64 s.dens), (.agg #[.int .i64 s.dens, .int .i64 s.dens]), s10, s11, s12, s13, s14, s15, s16, s17, s18, s19, s20, s21, s22, s23, s24, s25, s26, s27, s28, by kernel_rfl, hB.out.ext ⟨W6, hb6⟩, (fun h => (hb6.block _ (by omega)).trans (g0.out h)), (fun h => (hb6.block _ (by omega)).trans (g1.out h)), (fun h => (hb6.block _ (by omega)).trans (g2.out h)), (fun h => (hb6.block _ (by omega)).trans (g3.out h)), f0.out, f1.out, f2.out, f3.out, f4.out, fun _ => rfl, f6.out, f7.out, f8.out, f9.out, f10.out, f11.out, f12.out, f13.out, f14.out, f15.out, f16.out, f17.out, f18.out, f19.out, f20.out, f21.out, f22.out, f23.out, f24.out⟩
      · refine wpOp_step rfl (fun K hK => ?_)
        simp only [sets, List.foldl_cons, List.foldl_nil, List.set_cons_succ, List.set_cons_zero]
        go_simp
        exact hK _ _ ⟨s4, s5, s6, s7, s8, s9, (.pointer (some ⟨w.heap.size, 2, none⟩)), s11, s12, s13, s14, s15, s16, s17, s18, s19, s20, s21, s22, s23, s24, s25, s26, s27, s28, by kernel_rfl, hB.out, g0.out, g1.out, g2.out, g3.out, f0.out, f1.out, f2.out, f3.out, f4.out, f5.out, fun _ => rfl, f7.out, f8.out, f9.out, f10.out, f11.out, f12.out, f13.out, f14.out, f15.out, f16.out, f17.out, f18.out, f19.out, f20.out, f21.out, f22.out, f23.out, f24.out⟩
      · simp only [soleRDeps, List.getD_cons_zero, List.getD_cons_succ, List.all_cons, List.all_nil, Bool.and_true] at hr
        have hd6 := hr
        obtain rfl := f6.out hd6
        refine wpOp_step rfl (fun K hK => ?_)
        simp only [sets, List.foldl_cons, List.foldl_nil, List.set_cons_succ, List.set_cons_zero]
        go_simp
        exact hK _ _ ⟨s4, s5, s6, s7, s8, s9, (.pointer (some ⟨w.heap.size, 2, none⟩)), (.int .i64 s.strong), s12, s13, s14, s15, s16, s17, s18, s19, s20, s21, s22, s23, s24, s25, s26, s27, s28, by kernel_rfl, hB.out, g0.out, g1.out, g2.out, g3.out, f0.out, f1.out, f2.out, f3.out, f4.out, f5.out, f6.out, fun _ => rfl, f8.out, f9.out, f10.out, f11.out, f12.out, f13.out, f14.out, f15.out, f16.out, f17.out, f18.out, f19.out, f20.out, f21.out, f22.out, f23.out, f24.out⟩
      · simp only [soleRDeps, List.getD_cons_zero, List.getD_cons_succ, List.all_cons, List.all_nil, Bool.and_true, Bool.and_eq_true] at hr
        obtain ⟨hd7, hd5⟩ := hr
        obtain rfl := f7.out hd7
        obtain rfl := f5.out hd5
        refine wpOp_step rfl (fun K hK => ?_)
        simp only [sets, List.foldl_cons, List.foldl_nil, List.set_cons_succ, List.set_cons_zero]
        go_simp
        refine (sole_any s.strong W).mono ?_
        rintro _ W6 ⟨rfl, hb6⟩
        exact hK _ _ ⟨s4, s5, s6, s7, s8, (.agg #[.int .i64 s.dens, .int .i64 s.dens]), s10, (.int .i64 s.strong), (.agg #[.int .i64 s.strong, .int .i64 s.strong]), s13, s14, s15, s16, s17, s18, s19, s20, s21, s22, s23, s24, s25, s26, s27, s28, by kernel_rfl, hB.out.ext ⟨W6, hb6⟩, (fun h => (hb6.block _ (by omega)).trans (g0.out h)), (fun h => (hb6.block _ (by omega)).trans (g1.out h)), (fun h => (hb6.block _ (by omega)).trans (g2.out h)), (fun h => (hb6.block _ (by omega)).trans (g3.out h)), f0.out, f1.out, f2.out, f3.out, f4.out, f5.out, f6.out, f7.out, fun _ => rfl, f9.out, f10.out, f11.out, f12.out, f13.out, f14.out, f15.out, f16.out, f17.out, f18.out, f19.out, f20.out, f21.out, f22.out, f23.out, f24.out⟩
      · refine wpOp_step rfl (fun K hK => ?_)
        simp only [sets, List.foldl_cons, List.foldl_nil, List.set_cons_succ, List.set_cons_zero]
        go_simp
        exact hK _ _ ⟨s4, s5, s6, s7, s8, s9, s10, s11, s12, (.pointer (some ⟨w.heap.size, 3, none⟩)), s14, s15, s16, s17, s18, s19, s20, s21, s22, s23, s24, s25, s26, s27, s28, by kernel_rfl, hB.out, g0.out, g1.out, g2.out, g3.out, f0.out, f1.out, f2.out, f3.out, f4.out, f5.out, f6.out, f7.out, f8.out, fun _ => rfl, f10.out, f11.out, f12.out, f13.out, f14.out, f15.out, f16.out, f17.out, f18.out, f19.out, f20.out, f21.out, f22.out, f23.out, f24.out⟩
      · simp only [soleRDeps, List.getD_cons_zero, List.getD_cons_succ, List.all_cons, List.all_nil, Bool.and_true] at hr
        have hd9 := hr
        obtain rfl := f9.out hd9
        refine wpOp_step rfl (fun K hK => ?_)
        simp only [sets, List.foldl_cons, List.foldl_nil, List.set_cons_succ, List.set_cons_zero]
        go_simp
        exact hK _ _ ⟨s4, s5, s6, s7, s8, s9, s10, s11, s12, (.pointer (some ⟨w.heap.size, 3, none⟩)), (.int .i64 s.spin), s15, s16, s17, s18, s19, s20, s21, s22, s23, s24, s25, s26, s27, s28, by kernel_rfl, hB.out, g0.out, g1.out, g2.out, g3.out, f0.out, f1.out, f2.out, f3.out, f4.out, f5.out, f6.out, f7.out, f8.out, f9.out, fun _ => rfl, f11.out, f12.out, f13.out, f14.out, f15.out, f16.out, f17.out, f18.out, f19.out, f20.out, f21.out, f22.out, f23.out, f24.out⟩
      · simp only [soleRDeps, List.getD_cons_zero, List.getD_cons_succ, List.all_cons, List.all_nil, Bool.and_true, Bool.and_eq_true] at hr
        obtain ⟨hd10, hd8⟩ := hr
        obtain rfl := f10.out hd10
        obtain rfl := f8.out hd8
        refine wpOp_step rfl (fun K hK => ?_)
        simp only [sets, List.foldl_cons, List.foldl_nil, List.set_cons_succ, List.set_cons_zero]
        go_simp
        refine (sole_any s.spin W).mono ?_
        rintro _ W6 ⟨rfl, hb6⟩
        exact hK _ _ ⟨s4, s5, s6, s7, s8, s9, s10, s11, (.agg #[.int .i64 s.strong, .int .i64 s.strong]), s13, (.int .i64 s.spin), (.agg #[.int .i64 s.spin, .int .i64 s.spin]), s16, s17, s18, s19, s20, s21, s22, s23, s24, s25, s26, s27, s28, by kernel_rfl, hB.out.ext ⟨W6, hb6⟩, (fun h => (hb6.block _ (by omega)).trans (g0.out h)), (fun h => (hb6.block _ (by omega)).trans (g1.out h)), (fun h => (hb6.block _ (by omega)).trans (g2.out h)), (fun h => (hb6.block _ (by omega)).trans (g3.out h)), f0.out, f1.out, f2.out, f3.out, f4.out, f5.out, f6.out, f7.out, f8.out, f9.out, f10.out, fun _ => rfl, f12.out, f13.out, f14.out, f15.out, f16.out, f17.out, f18.out, f19.out, f20.out, f21.out, f22.out, f23.out, f24.out⟩
      · refine wpOp_step rfl (fun K hK => ?_)
        simp only [sets, List.foldl_cons, List.foldl_nil, List.set_cons_succ, List.set_cons_zero]
        go_simp
        exact hK _ _ ⟨s4, s5, s6, s7, s8, s9, s10, s11, s12, s13, s14, s15, (.pointer (some ⟨w.heap.size, 4, none⟩)), s17, s18, s19, s20, s21, s22, s23, s24, s25, s26, s27, s28, by kernel_rfl, hB.out, g0.out, g1.out, g2.out, g3.out, f0.out, f1.out, f2.out, f3.out, f4.out, f5.out, f6.out, f7.out, f8.out, f9.out, f10.out, f11.out, fun _ => rfl, f13.out, f14.out, f15.out, f16.out, f17.out, f18.out, f19.out, f20.out, f21.out, f22.out, f23.out, f24.out⟩
      · simp only [soleRDeps, List.getD_cons_zero, List.getD_cons_succ, List.all_cons, List.all_nil, Bool.and_true] at hr
        have hd12 := hr
        obtain rfl := f12.out hd12
        refine wpOp_step rfl (fun K hK => ?_)
        simp only [sets, List.foldl_cons, List.foldl_nil, List.set_cons_succ, List.set_cons_zero]
        go_simp
        exact hK _ _ ⟨s4, s5, s6, s7, s8, s9, s10, s11, s12, s13, s14, s15, (.pointer (some ⟨w.heap.size, 4, none⟩)), (.int .i64 s.shape), s18, s19, s20, s21, s22, s23, s24, s25, s26, s27, s28, by kernel_rfl, hB.out, g0.out, g1.out, g2.out, g3.out, f0.out, f1.out, f2.out, f3.out, f4.out, f5.out, f6.out, f7.out, f8.out, f9.out, f10.out, f11.out, f12.out, fun _ => rfl, f14.out, f15.out, f16.out, f17.out, f18.out, f19.out, f20.out, f21.out, f22.out, f23.out, f24.out⟩
      · simp only [soleRDeps, List.getD_cons_zero, List.getD_cons_succ, List.all_cons, List.all_nil, Bool.and_true, Bool.and_eq_true] at hr
        obtain ⟨hd13, hd11⟩ := hr
        obtain rfl := f13.out hd13
        obtain rfl := f11.out hd11
        refine wpOp_step rfl (fun K hK => ?_)
        simp only [sets, List.foldl_cons, List.foldl_nil, List.set_cons_succ, List.set_cons_zero]
        go_simp
        refine (sole_any s.shape W).mono ?_
        rintro _ W6 ⟨rfl, hb6⟩
        exact hK _ _ ⟨s4, s5, s6, s7, s8, s9, s10, s11, s12, s13, s14, (.agg #[.int .i64 s.spin, .int .i64 s.spin]), s16, (.int .i64 s.shape), (.agg #[.int .i64 s.shape, .int .i64 s.shape]), s19, s20, s21, s22, s23, s24, s25, s26, s27, s28, by kernel_rfl, hB.out.ext ⟨W6, hb6⟩, (fun h => (hb6.block _ (by omega)).trans (g0.out h)), (fun h => (hb6.block _ (by omega)).trans (g1.out h)), (fun h => (hb6.block _ (by omega)).trans (g2.out h)), (fun h => (hb6.block _ (by omega)).trans (g3.out h)), f0.out, f1.out, f2.out, f3.out, f4.out, f5.out, f6.out, f7.out, f8.out, f9.out, f10.out, f11.out, f12.out, f13.out, fun _ => rfl, f15.out, f16.out, f17.out, f18.out, f19.out, f20.out, f21.out, f22.out, f23.out, f24.out⟩
      · refine wpOp_step rfl (fun K hK => ?_)
        simp only [sets, List.foldl_cons, List.foldl_nil, List.set_cons_succ, List.set_cons_zero]
        go_simp
        exact hK _ _ ⟨s4, s5, s6, s7, s8, s9, s10, s11, s12, s13, s14, s15, s16, s17, s18, (.pointer (some ⟨w.heap.size, 5, none⟩)), s20, s21, s22, s23, s24, s25, s26, s27, s28, by kernel_rfl, hB.out, g0.out, g1.out, g2.out, g3.out, f0.out, f1.out, f2.out, f3.out, f4.out, f5.out, f6.out, f7.out, f8.out, f9.out, f10.out, f11.out, f12.out, f13.out, f14.out, fun _ => rfl, f16.out, f17.out, f18.out, f19.out, f20.out, f21.out, f22.out, f23.out, f24.out⟩
      · simp only [soleRDeps, List.getD_cons_zero, List.getD_cons_succ, List.all_cons, List.all_nil, Bool.and_true] at hr
        have hd15 := hr
        obtain rfl := f15.out hd15
        refine wpOp_step rfl (fun K hK => ?_)
        simp only [sets, List.foldl_cons, List.foldl_nil, List.set_cons_succ, List.set_cons_zero]
        go_simp
        exact hK _ _ ⟨s4, s5, s6, s7, s8, s9, s10, s11, s12, s13, s14, s15, s16, s17, s18, (.pointer (some ⟨w.heap.size, 5, none⟩)), (.bool s.pile), s21, s22, s23, s24, s25, s26, s27, s28, by kernel_rfl, hB.out, g0.out, g1.out, g2.out, g3.out, f0.out, f1.out, f2.out, f3.out, f4.out, f5.out, f6.out, f7.out, f8.out, f9.out, f10.out, f11.out, f12.out, f13.out, f14.out, f15.out, fun _ => rfl, f17.out, f18.out, f19.out, f20.out, f21.out, f22.out, f23.out, f24.out⟩
      · simp only [soleRDeps, List.getD_cons_zero, List.getD_cons_succ, List.all_cons, List.all_nil, Bool.and_true, Bool.and_eq_true] at hr
        obtain ⟨hd2, hd5, hd8, hd11, hd14, hd16⟩ := hr
        obtain rfl := f2.out hd2
        obtain rfl := f5.out hd5
        obtain rfl := f8.out hd8
        obtain rfl := f11.out hd11
        obtain rfl := f14.out hd14
        obtain rfl := f16.out hd16
        refine wpOp_step rfl (fun K hK => ?_)
        simp only [sets, List.foldl_cons, List.foldl_nil, List.set_cons_succ, List.set_cons_zero]
        go_simp
        exact hK _ _ ⟨s4, s5, (.agg #[.int .i64 s.size, .int .i64 s.size]), s7, s8, (.agg #[.int .i64 s.dens, .int .i64 s.dens]), s10, s11, (.agg #[.int .i64 s.strong, .int .i64 s.strong]), s13, s14, (.agg #[.int .i64 s.spin, .int .i64 s.spin]), s16, s17, (.agg #[.int .i64 s.shape, .int .i64 s.shape]), s19, (.bool s.pile), (.agg #[.int .i64 s.size, .int .i64 s.size, .int .i64 s.dens, .int .i64 s.dens, .int .i64 s.strong, .int .i64 s.strong, .int .i64 s.spin, .int .i64 s.spin, .int .i64 s.shape, .int .i64 s.shape, .bool s.pile]), s22, s23, s24, s25, s26, s27, s28, by kernel_rfl, hB.out, g0.out, g1.out, g2.out, g3.out, f0.out, f1.out, f2.out, f3.out, f4.out, f5.out, f6.out, f7.out, f8.out, f9.out, f10.out, f11.out, f12.out, f13.out, f14.out, f15.out, f16.out, fun _ => rfl, f18.out, f19.out, f20.out, f21.out, f22.out, f23.out, f24.out⟩
      · refine wpOp_step rfl (fun K hK => ?_)
        simp only [sets, List.foldl_cons, List.foldl_nil, List.set_cons_succ, List.set_cons_zero]
        go_simp
        exact hK _ _ ⟨s4, s5, s6, s7, s8, s9, s10, s11, s12, s13, s14, s15, s16, s17, s18, s19, s20, s21, (.pointer (some ⟨w.heap.size, 6, none⟩)), s23, s24, s25, s26, s27, s28, by kernel_rfl, hB.out, g0.out, g1.out, g2.out, g3.out, f0.out, f1.out, f2.out, f3.out, f4.out, f5.out, f6.out, f7.out, f8.out, f9.out, f10.out, f11.out, f12.out, f13.out, f14.out, f15.out, f16.out, f17.out, fun _ => rfl, f19.out, f20.out, f21.out, f22.out, f23.out, f24.out⟩
      · simp only [soleRDeps, List.getD_cons_zero, List.getD_cons_succ, List.all_cons, List.all_nil, Bool.and_true] at hr
        have hd18 := hr
        obtain rfl := f18.out hd18
        refine wpOp_step rfl (fun K hK => ?_)
        simp only [sets, List.foldl_cons, List.foldl_nil, List.set_cons_succ, List.set_cons_zero]
        go_simp
        exact hK _ _ ⟨s4, s5, s6, s7, s8, s9, s10, s11, s12, s13, s14, s15, s16, s17, s18, s19, s20, s21, (.pointer (some ⟨w.heap.size, 6, none⟩)), (.int .i64 s.speed), s24, s25, s26, s27, s28, by kernel_rfl, hB.out, g0.out, g1.out, g2.out, g3.out, f0.out, f1.out, f2.out, f3.out, f4.out, f5.out, f6.out, f7.out, f8.out, f9.out, f10.out, f11.out, f12.out, f13.out, f14.out, f15.out, f16.out, f17.out, f18.out, fun _ => rfl, f20.out, f21.out, f22.out, f23.out, f24.out⟩
      · simp only [soleRDeps, List.getD_cons_zero, List.getD_cons_succ, List.all_cons, List.all_nil, Bool.and_true, Bool.and_eq_true] at hr
        obtain ⟨hd19, hd14⟩ := hr
        obtain rfl := f19.out hd19
        obtain rfl := f14.out hd14
        refine wpOp_step rfl (fun K hK => ?_)
        simp only [sets, List.foldl_cons, List.foldl_nil, List.set_cons_succ, List.set_cons_zero]
        go_simp
        refine (sole_any s.speed W).mono ?_
        rintro _ W6 ⟨rfl, hb6⟩
        exact hK _ _ ⟨s4, s5, s6, s7, s8, s9, s10, s11, s12, s13, s14, s15, s16, s17, (.agg #[.int .i64 s.shape, .int .i64 s.shape]), s19, s20, s21, s22, (.int .i64 s.speed), (.agg #[.int .i64 s.speed, .int .i64 s.speed]), s25, s26, s27, s28, by kernel_rfl, hB.out.ext ⟨W6, hb6⟩, (fun h => (hb6.block _ (by omega)).trans (g0.out h)), (fun h => (hb6.block _ (by omega)).trans (g1.out h)), (fun h => (hb6.block _ (by omega)).trans (g2.out h)), (fun h => (hb6.block _ (by omega)).trans (g3.out h)), f0.out, f1.out, f2.out, f3.out, f4.out, f5.out, f6.out, f7.out, f8.out, f9.out, f10.out, f11.out, f12.out, f13.out, f14.out, f15.out, f16.out, f17.out, f18.out, f19.out, fun _ => rfl, f21.out, f22.out, f23.out, f24.out⟩
      · refine wpOp_step rfl (fun K hK => ?_)
        simp only [sets, List.foldl_cons, List.foldl_nil, List.set_cons_succ, List.set_cons_zero]
        go_simp
        exact hK _ _ ⟨s4, s5, s6, s7, s8, s9, s10, s11, s12, s13, s14, s15, s16, s17, s18, s19, s20, s21, s22, s23, s24, (.pointer (some ⟨w.heap.size, 7, none⟩)), s26, s27, s28, by kernel_rfl, hB.out, g0.out, g1.out, g2.out, g3.out, f0.out, f1.out, f2.out, f3.out, f4.out, f5.out, f6.out, f7.out, f8.out, f9.out, f10.out, f11.out, f12.out, f13.out, f14.out, f15.out, f16.out, f17.out, f18.out, f19.out, f20.out, fun _ => rfl, f22.out, f23.out, f24.out⟩
      · simp only [soleRDeps, List.getD_cons_zero, List.getD_cons_succ, List.all_cons, List.all_nil, Bool.and_true] at hr
        have hd21 := hr
        obtain rfl := f21.out hd21
        refine wpOp_step rfl (fun K hK => ?_)
        simp only [sets, List.foldl_cons, List.foldl_nil, List.set_cons_succ, List.set_cons_zero]
        go_simp
        exact hK _ _ ⟨s4, s5, s6, s7, s8, s9, s10, s11, s12, s13, s14, s15, s16, s17, s18, s19, s20, s21, s22, s23, s24, (.pointer (some ⟨w.heap.size, 7, none⟩)), (.int .i64 s.slope), s27, s28, by kernel_rfl, hB.out, g0.out, g1.out, g2.out, g3.out, f0.out, f1.out, f2.out, f3.out, f4.out, f5.out, f6.out, f7.out, f8.out, f9.out, f10.out, f11.out, f12.out, f13.out, f14.out, f15.out, f16.out, f17.out, f18.out, f19.out, f20.out, f21.out, fun _ => rfl, f23.out, f24.out⟩
      · simp only [soleRDeps, List.getD_cons_zero, List.getD_cons_succ, List.all_cons, List.all_nil, Bool.and_true, Bool.and_eq_true] at hr
        obtain ⟨hd22, hd20⟩ := hr
        obtain rfl := f22.out hd22
        obtain rfl := f20.out hd20
        refine wpOp_step rfl (fun K hK => ?_)
        simp only [sets, List.foldl_cons, List.foldl_nil, List.set_cons_succ, List.set_cons_zero]
        go_simp
        refine (sole_any s.slope W).mono ?_
        rintro _ W6 ⟨rfl, hb6⟩
        exact hK _ _ ⟨s4, s5, s6, s7, s8, s9, s10, s11, s12, s13, s14, s15, s16, s17, s18, s19, s20, s21, s22, s23, (.agg #[.int .i64 s.speed, .int .i64 s.speed]), s25, (.int .i64 s.slope), (.agg #[.int .i64 s.slope, .int .i64 s.slope]), s28, by kernel_rfl, hB.out.ext ⟨W6, hb6⟩, (fun h => (hb6.block _ (by omega)).trans (g0.out h)), (fun h => (hb6.block _ (by omega)).trans (g1.out h)), (fun h => (hb6.block _ (by omega)).trans (g2.out h)), (fun h => (hb6.block _ (by omega)).trans (g3.out h)), f0.out, f1.out, f2.out, f3.out, f4.out, f5.out, f6.out, f7.out, f8.out, f9.out, f10.out, f11.out, f12.out, f13.out, f14.out, f15.out, f16.out, f17.out, f18.out, f19.out, f20.out, f21.out, f22.out, fun _ => rfl, f24.out⟩
      · simp only [soleRDeps, List.getD_cons_zero, List.getD_cons_succ, List.all_cons, List.all_nil, Bool.and_true, Bool.and_eq_true] at hr
        obtain ⟨hd20, hd23⟩ := hr
        obtain rfl := f20.out hd20
        obtain rfl := f23.out hd23
        refine wpOp_step rfl (fun K hK => ?_)
        simp only [sets, List.foldl_cons, List.foldl_nil, List.set_cons_succ, List.set_cons_zero]
        go_simp
        exact hK _ _ ⟨s4, s5, s6, s7, s8, s9, s10, s11, s12, s13, s14, s15, s16, s17, s18, s19, s20, s21, s22, s23, (.agg #[.int .i64 s.speed, .int .i64 s.speed]), s25, s26, (.agg #[.int .i64 s.slope, .int .i64 s.slope]), (.agg #[.int .i64 s.speed, .int .i64 s.speed, .int .i64 s.slope, .int .i64 s.slope]), by kernel_rfl, hB.out, g0.out, g1.out, g2.out, g3.out, f0.out, f1.out, f2.out, f3.out, f4.out, f5.out, f6.out, f7.out, f8.out, f9.out, f10.out, f11.out, f12.out, f13.out, f14.out, f15.out, f16.out, f17.out, f18.out, f19.out, f20.out, f21.out, f22.out, f23.out, fun _ => rfl⟩
      · simp only [soleRDeps, List.getD_cons_zero, List.getD_cons_succ, List.all_cons, List.all_nil, Bool.and_true, Bool.and_eq_true] at hr
        obtain ⟨hd17, hd23⟩ := hr
        obtain rfl := f17.out hd17
        obtain rfl := f23.out hd23
        have hi := hi.out
        simp only [List.getElem?_cons_zero, List.getElem?_cons_succ, Option.some.injEq] at hi
        subst hi
        have e := g0.out rfl
        refine wpOp_step rfl (fun K hK => ?_)
        simp only [sets, List.foldl_cons, List.foldl_nil, List.set_cons_succ, List.set_cons_zero]
        simp only [Region.wanted]
        refine store_op 26 (.tmp 2) (.tmp 21) rfl (w.heap.size + 1) #[.int .i64 s.size, .int .i64 s.size, .int .i64 s.dens, .int .i64 s.dens, .int .i64 s.strong, .int .i64 s.strong, .int .i64 s.spin, .int .i64 s.spin, .int .i64 s.shape, .int .i64 s.shape, .bool s.pile] (by kernel_rfl) (by kernel_rfl) 26 _ e (by kernel_rfl) rfl (by simp [Value.oneCell']) ?_
        exact hK _ _ ⟨s4, s5, s6, s7, s8, s9, s10, s11, s12, s13, s14, s15, s16, s17, s18, s19, s20, (.agg #[.int .i64 s.size, .int .i64 s.size, .int .i64 s.dens, .int .i64 s.dens, .int .i64 s.strong, .int .i64 s.strong, .int .i64 s.spin, .int .i64 s.spin, .int .i64 s.shape, .int .i64 s.shape, .bool s.pile]), s22, s23, s24, s25, s26, (.agg #[.int .i64 s.slope, .int .i64 s.slope]), s28, by kernel_rfl, hB.out.row (by omega) (by omega) _, (fun h => by cases h), (fun h => (setRow_other _ _ _ _ (by omega)).trans (g1.out h)), (fun _ => setRow_heap _ _ _ _ _ _ e), (fun h => (setRow_other _ _ _ _ (by omega)).trans (g3.out h)), f0.out, f1.out, f2.out, f3.out, f4.out, f5.out, f6.out, f7.out, f8.out, f9.out, f10.out, f11.out, f12.out, f13.out, f14.out, f15.out, f16.out, f17.out, f18.out, f19.out, f20.out, f21.out, f22.out, f23.out, f24.out⟩
      · simp only [soleRDeps, List.getD_cons_zero, List.getD_cons_succ, List.all_cons, List.all_nil, Bool.and_true, Bool.and_eq_true] at hr
        obtain ⟨hd24, hd25⟩ := hr
        obtain rfl := f24.out hd24
        have hi := hi.out
        simp only [List.getElem?_cons_zero, List.getElem?_cons_succ, Option.some.injEq] at hi
        subst hi
        have e := g1.out rfl
        refine wpOp_step rfl (fun K hK => ?_)
        simp only [sets, List.foldl_cons, List.foldl_nil, List.set_cons_succ, List.set_cons_zero]
        simp only [Region.wanted]
        refine store_op 28 (.tmp 3) (.tmp 28) rfl (w.heap.size + 1 + 1) #[.int .i64 s.speed, .int .i64 s.speed, .int .i64 s.slope, .int .i64 s.slope] (by kernel_rfl) (by kernel_rfl) 28 _ e (by kernel_rfl) rfl (by simp [Value.oneCell']) ?_
        exact hK _ _ ⟨s4, s5, s6, s7, s8, s9, s10, s11, s12, s13, s14, s15, s16, s17, s18, s19, s20, s21, s22, s23, s24, s25, s26, s27, (.agg #[.int .i64 s.speed, .int .i64 s.speed, .int .i64 s.slope, .int .i64 s.slope]), by kernel_rfl, hB.out.row (by omega) (by omega) _, (fun h => (setRow_other _ _ _ _ (by omega)).trans (g0.out h)), (fun h => by cases h), (fun h => (setRow_other _ _ _ _ (by omega)).trans (g2.out h)), (fun _ => setRow_heap _ _ _ _ _ _ e), f0.out, f1.out, f2.out, f3.out, f4.out, f5.out, f6.out, f7.out, f8.out, f9.out, f10.out, f11.out, f12.out, f13.out, f14.out, f15.out, f16.out, f17.out, f18.out, f19.out, f20.out, f21.out, f22.out, f23.out, f24.out⟩
      · have hi := hi.out; simp at hi
  rintro a4 W4 ⟨ha4, hk4, hr4, hr5⟩
  generalize a4.tmps.getD 4 undef = s4 at ha4
  generalize a4.tmps.getD 5 undef = s5 at ha4
  generalize a4.tmps.getD 6 undef = s6 at ha4
  generalize a4.tmps.getD 7 undef = s7 at ha4
  generalize a4.tmps.getD 8 undef = s8 at ha4
  generalize a4.tmps.getD 9 undef = s9 at ha4
  generalize a4.tmps.getD 10 undef = s10 at ha4
  generalize a4.tmps.getD 11 undef = s11 at ha4
  generalize a4.tmps.getD 12 undef = s12 at ha4
  generalize a4.tmps.getD 13 undef = s13 at ha4
  generalize a4.tmps.getD 14 undef = s14 at ha4
  generalize a4.tmps.getD 15 undef = s15 at ha4
  generalize a4.tmps.getD 16 undef = s16 at ha4
  generalize a4.tmps.getD 17 undef = s17 at ha4
  generalize a4.tmps.getD 18 undef = s18 at ha4
  generalize a4.tmps.getD 19 undef = s19 at ha4
  generalize a4.tmps.getD 20 undef = s20 at ha4
  generalize a4.tmps.getD 21 undef = s21 at ha4
  generalize a4.tmps.getD 22 undef = s22 at ha4
  generalize a4.tmps.getD 23 undef = s23 at ha4
  generalize a4.tmps.getD 24 undef = s24 at ha4
  generalize a4.tmps.getD 25 undef = s25 at ha4
  generalize a4.tmps.getD 26 undef = s26 at ha4
  generalize a4.tmps.getD 27 undef = s27 at ha4
  generalize a4.tmps.getD 28 undef = s28 at ha4
  subst ha4
  simp only [sets, List.foldl_cons, List.foldl_nil, List.set_cons_succ, List.set_cons_zero]
  have hB4 : Below w.heap.size w W4 := hk4.below hB0 (by omega) (by omega) (by omega)
  have r0 : W4.cell? ⟨w.heap.size + 1, 0, none⟩ = some (.int .i64 s.size) := (cell_of_row W4 _ 0 _ _ _ hr4).trans rfl
  have r1 : W4.cell? ⟨w.heap.size + 1, 1, none⟩ = some (.int .i64 s.size) := (cell_of_row W4 _ 1 _ _ _ hr4).trans rfl
  have r2 : W4.cell? ⟨w.heap.size + 1, 2, none⟩ = some (.int .i64 s.dens) := (cell_of_row W4 _ 2 _ _ _ hr4).trans rfl
  have r3 : W4.cell? ⟨w.heap.size + 1, 3, none⟩ = some (.int .i64 s.dens) := (cell_of_row W4 _ 3 _ _ _ hr4).trans rfl
  have r4 : W4.cell? ⟨w.heap.size + 1, 4, none⟩ = some (.int .i64 s.strong) := (cell_of_row W4 _ 4 _ _ _ hr4).trans rfl
  have r5 : W4.cell? ⟨w.heap.size + 1, 5, none⟩ = some (.int .i64 s.strong) := (cell_of_row W4 _ 5 _ _ _ hr4).trans rfl
  have r6 : W4.cell? ⟨w.heap.size + 1, 6, none⟩ = some (.int .i64 s.spin) := (cell_of_row W4 _ 6 _ _ _ hr4).trans rfl
  have r7 : W4.cell? ⟨w.heap.size + 1, 7, none⟩ = some (.int .i64 s.spin) := (cell_of_row W4 _ 7 _ _ _ hr4).trans rfl
  have r8 : W4.cell? ⟨w.heap.size + 1, 8, none⟩ = some (.int .i64 s.shape) := (cell_of_row W4 _ 8 _ _ _ hr4).trans rfl
  have r9 : W4.cell? ⟨w.heap.size + 1, 9, none⟩ = some (.int .i64 s.shape) := (cell_of_row W4 _ 9 _ _ _ hr4).trans rfl
  have r10 : W4.cell? ⟨w.heap.size + 1, 10, none⟩ = some (.bool s.pile) := (cell_of_row W4 _ 10 _ _ _ hr4).trans rfl
  have t0 : W4.cell? ⟨w.heap.size + 1 + 1, 0, none⟩ = some (.int .i64 s.speed) := (cell_of_row W4 _ 0 _ _ _ hr5).trans rfl
  have t1 : W4.cell? ⟨w.heap.size + 1 + 1, 1, none⟩ = some (.int .i64 s.speed) := (cell_of_row W4 _ 1 _ _ _ hr5).trans rfl
  have t2 : W4.cell? ⟨w.heap.size + 1 + 1, 2, none⟩ = some (.int .i64 s.slope) := (cell_of_row W4 _ 2 _ _ _ hr5).trans rfl
  have t3 : W4.cell? ⟨w.heap.size + 1 + 1, 3, none⟩ = some (.int .i64 s.slope) := (cell_of_row W4 _ 3 _ _ _ hr5).trans rfl
  go_wp2_with fail
  refine bodyPost_ret (v := .tuple #[.agg #[.int .i64 s.size, .int .i64 s.size, .int .i64 s.dens, .int .i64 s.dens, .int .i64 s.strong, .int .i64 s.strong, .int .i64 s.spin, .int .i64 s.spin, .int .i64 s.shape, .int .i64 s.shape, .bool s.pile], .agg #[.int .i64 s.speed, .int .i64 s.speed, .int .i64 s.slope, .int .i64 s.slope]]) (by simp (maxDischargeDepth := 9) [results, Tryd.results24, go_sem, r0, r1, r2, r3, r4, r5, r6, r7, r8, r9, r10, t0, t1, t2, t3]) rfl ?_
  exact ⟨rfl, hB4⟩
end Go.Proofs.YtpiacndnjehbiaaDoor
namespace Go.Proofs.YtpiacndnjehbiaaDoor
open Go.RowKit Go.Shelf
section
variable {P : Program}
theorem run_append_none (w : World) (t ty e : TypeId) (i : TypeInfo) (ht : P.underlying t = some (.slice e)) (hi : P.info? e = some i) (g : Nat) (n cap : Nat) (p : Option Addr) (c : Nat) (hn : n ≤ cap) :
    (Builtin.append_ #[t, t] ty #[.slice (some ⟨g, 0, none⟩) n cap, .slice p 0 c]).run P w = .ok (.slice (some ⟨g, 0, none⟩) n cap) w := by
  cases p with
  | none => simp [Builtin.append_, run_underlying ht, sizeOf, typeInfo, hi, Builtin.lenOf, hn, Builtin.firstCells, storeCells]
  | some a => simp [Builtin.append_, run_underlying ht, sizeOf, typeInfo, hi, Builtin.lenOf, hn, Builtin.firstCells, storeCells, loadCells, loadCellsFrom]
/-- Appending an empty list at an operation of the walk. -/
theorem wpList_append_none {ops : Array Oper} {rest : List Oper} {o : Oper} {a : Act} {w : World} {Q : Exit → Act → World → Prop} (hgd : o.guard = none) (s x : Operand) (t : TypeId)
    (ho : o.op = .call { callee := .builtin .append, args := #[s, x], argTypes := #[t, t] }) (e : TypeId) (i : TypeInfo) (ht : P.underlying t = some (.slice e)) (hi : P.info? e = some i)
    (g n cap : Nat) (p : Option Addr) (c : Nat) (hs : a.eval s = .slice (some ⟨g, 0, none⟩) n cap) (hx : a.eval x = .slice p 0 c) (hn : n ≤ cap)
    (h : wpList P ops Q rest (a.put o.dst (.slice (some ⟨g, 0, none⟩) n cap)) w) : wpList P ops Q (o :: rest) a w := by
  refine wpList_plain hgd fun K hK => ?_
  have hr := run_append_none (P := P) w t o.type e i ht hi g n cap p c hn
  unfold Oper.wp execOp
  simp only [ho, resolve, invoke, builtin, Sem.run_bind, Sem.run_pure, Result.andThen_ok, List.map_toArray, List.map_cons, List.map_nil, hs, hx, hr]
  exact hK _ _ h
theorem wpListW_named {P : Program} {ops : Array Oper} {rest : List Oper} {a : Act} {w : World} {Q : Exit → Act → World → Prop} (h : ∀ W, w = W → wpList P ops Q rest a W) : wpList P ops Q rest a w := h w rfl
theorem callsW_named {P : Program} {f : FuncId} {args : Array Value} {w : World} {Q : Ending → World → Prop} (h : ∀ W0, w = W0 → Calls P f args W0 Q) : Calls P f args w Q := h w rfl
/-- Appending all of a list, also of an empty one, to an empty slice of the call's own. -/
theorem wpList_append_copy {ops : Array Oper} {rest : List Oper} {o : Oper} {a : Act} {w : World} {Q : Exit → Act → World → Prop} (hgd : o.guard = none) (s x : Operand) (t : TypeId)
    (ho : o.op = .call { callee := .builtin .append, args := #[s, x], argTypes := #[t, t] }) (base : Nat) (e : TypeId) (i : TypeInfo) (z : Value) (size bytes : Nat) (ht : P.underlying t = some (.slice e)) (hi : P.info? e = some i) (hz : i.zero = some z)
    (hsize : i.size = size) (hby : i.bytes = bytes) (hzs : z.cells.size = size) (hsz : 0 < size) (g : Nat) (hs : a.eval s = .slice (some ⟨g, 0, none⟩) 0 0) (hown : w.ownsRow base e size (.slice (some ⟨g, 0, none⟩) 0 0) 0 [])
    (p : Option Addr) (m c : Nat) (news : List Value) (hx : a.eval x = .slice p m c) (hl : news.length = m * size) (hp : 0 < m → ∃ B o, p = some ⟨B, o, none⟩) (hnews : ∀ B o, p = some ⟨B, o, none⟩ → ∀ j u, news[j]? = some u → w.cell? ((⟨B, o, none⟩ : Addr).add j) = some u) (h1 : ∀ u ∈ news, u.oneCell' = true)
    (h63 : m ≤ maxLen) (hbytes : m * bytes ≤ 140737488355328) (hbase : base ≤ w.heap.size)
    (h : ∀ g' c' W', W'.ownsRow base e size (.slice (some ⟨g', 0, none⟩) m c') m news → base ≤ g' → w.grownBy W' (some g) → wpList P ops Q rest (a.put o.dst (.slice (some ⟨g', 0, none⟩) m c')) W') : wpList P ops Q (o :: rest) a w := by
  rcases Nat.eq_zero_or_pos m with rfl | hm
  · refine wpList_append_none hgd s x t ho e i ht hi g 0 0 p c hs hx (Nat.le_refl _) ?_
    have hn : news = [] := List.length_eq_zero_iff.1 (by rw [hl, Nat.zero_mul])
    subst hn
    exact h g 0 w hown (hown.lt g rfl).1 ⟨rfl, rfl, rfl, Nat.le_refl _, fun _ _ _ => rfl⟩
  · obtain ⟨B, o', rfl⟩ := hp hm
    refine wpList_append_own _ hgd s x t ho base e i z size bytes ht hi hz hsize hby hzs hsz _ 0 [] hs hown ⟨B, o', none⟩ m c news hx hl (hnews B o' rfl) h1 (by omega) (by rw [Nat.zero_add]; exact hbytes) hbase fun v' W' h2 h3 _ => ?_
    rw [Nat.zero_add, List.nil_append] at h2
    rcases owns_slice h2 with ⟨-, h0⟩ | ⟨g', c', rfl, hg, -, -⟩
    · omega
    · exact h g' c' W' h2 hg h3
end
theorem rows_cells {α : Type} (f : α → List Value) (k : Nat) (hk : ∀ a, (f a).length = k) {W : World} {B : Nat} : ∀ (l : List α) (o : Nat), (∀ j (h : j < l.length) i u, (f l[j])[i]? = some u → W.cell? ⟨B, o + j * k + i, none⟩ = some u) → ∀ j u, (l.flatMap f)[j]? = some u → W.cell? ((⟨B, o, none⟩ : Addr).add j) = some u := by
  intro l
  induction l with
  | nil => intro o _ j u h; simp at h
  | cons x l ih =>
    intro o h j u hj
    have hadd : ∀ q j : Nat, (⟨B, q, none⟩ : Addr).add j = ⟨B, q + j, none⟩ := fun q j => by unfold Addr.add; split <;> simp_all
    rw [hadd]
    rw [List.flatMap_cons] at hj
    by_cases hjk : j < k
    · rw [List.getElem?_append_left (by rw [hk]; exact hjk)] at hj
      have := h 0 (by simp) j u hj
      simpa using this
    · rw [List.getElem?_append_right (by rw [hk]; omega), hk] at hj
      have h2 : ∀ i (hi : i < l.length) q u, (f l[i])[q]? = some u → W.cell? ⟨B, o + k + i * k + q, none⟩ = some u := fun i hi q u hq => by
        have := h (i + 1) (by simpa using hi) q u (by simpa using hq)
        rw [← this]; congr 2; rw [Nat.succ_mul]; omega
      have := ih (o + k) h2 (j - k) u hj
      rw [hadd] at this
      rw [← this]; congr 2; omega
theorem vecs_cells {W : World} {B o : Nat} {l : List V2} (h : VecsAt W (some ⟨B, o, none⟩) l) : ∀ j u, (vrows l)[j]? = some u → W.cell? ((⟨B, o, none⟩ : Addr).add j) = some u := by
  refine rows_cells _ 2 (fun _ => rfl) l o fun j hj i u hu => ?_
  obtain ⟨B', o', e, _, h1, h2⟩ := h j hj
  injection e with e
  injection e with e1 e2
  subst e1 e2
  have hi : i < 2 := by simpa using (List.getElem?_eq_some_iff.1 hu).1
  rcases (show i = 0 ∨ i = 1 by omega) with rfl | rfl <;> (simp at hu; subst hu; simpa using by assumption)
theorem vrows_one (l : List V2) : ∀ u ∈ vrows l, u.oneCell' = true := by
  intro u hu
  obtain ⟨k, -, hk⟩ := List.mem_flatMap.1 hu
  simp only [List.mem_cons, List.not_mem_nil, or_false] at hk
  rcases hk with rfl | rfl <;> rfl
end Go.Proofs.YtpiacndnjehbiaaDoor
namespace Go.Proofs.YtpiacndnjehbiaaDoor
open Go.RowKit Go.Shelf
theorem sole_blows (s : StoneR) : ∀ (l : List V2) (i : Nat) (w : Int), ∃ n : Nat, (fallI (holdsV s) (kOf s) (dOf s) l i w).1 = n ∧ thru (blowsL s s l i w w) = [⟨n, massV s * (fallI (holdsV s) (kOf s) (dOf s) l i w).2, massV s * (fallI (holdsV s) (kOf s) (dOf s) l i w).2, true⟩]
  | [], i, w => ⟨i, by simp [fallI], by simp [blowsL, thru, fallI]⟩
  | v :: l, i, w => by
    by_cases h : 0 < v.y * w ∧ holdsV s ≤ v.y * w
    · have hb : burstB s v.y w = true := decide_eq_true h
      refine ⟨i, by rw [fallI, if_pos h], ?_⟩
      rw [blowsL, fallI, if_pos h, hb, if_pos rfl]
      simp [thru]
    · have hb : burstB s v.y w = false := decide_eq_false h
      obtain ⟨n, h1, h2⟩ := sole_blows s l (i + 1) (stp w (kOf s v) (dOf s))
      refine ⟨n, ?_, ?_⟩
      · rw [fallI, if_neg h]; exact h1
      · rw [blowsL, fallI, if_neg h, hb]
        simp only [Bool.false_eq_true, if_false, List.nil_append]
        exact h2
theorem sole_spec {s : StoneR} (l : List V2) (h : s.Ok) : rockE (soleK s) (soleF s) = 0 ∧ ∃ n : Nat, (endOf l s).1 = n ∧ v3s (blowsV l (soleK s) (soleF s)) = [⟨n, massV s * (endOf l s).2, massV s * (endOf l s).2⟩] := by
  refine ⟨?_, ?_⟩
  · have e : ∀ a m1 m2 : Int, m1 ≤ a ∧ a ≤ m2 → spE ⟨a, a⟩ ⟨m1, m2⟩ = 0 := fun a m1 m2 h => by
      unfold spE
      simp only
      rw [if_neg (by omega), if_pos h]
    unfold rockE spansL limsL soleK soleF
    simp only [firstE, e _ _ _ h.size, e _ _ _ h.dens, e _ _ _ h.strong, e _ _ _ h.spin, e _ _ _ h.shape, e _ _ _ h.speed, e _ _ _ h.slope, if_true]
  · obtain ⟨n, h1, h2⟩ := sole_blows s l 0 (s.speed * s.speed)
    refine ⟨n, h1, ?_⟩
    unfold blowsV
    rw [(first_sole s).1, (first_sole s).2, h2]
    rfl
theorem of_any (a b : Int) (w : World) : Calls Tryd.prog 28 #[.int .i64 a, .int .i64 b] w (Gives (.agg #[.int .i64 a, .int .i64 b]) w) := by
  go_enter Tryd.func28, Tryd.ntmps28
  go_wp2_with (first | ((first | with_reducible refine wp_region_ext2 (by kernel_rfl) (by kernel_rfl) ?_ | with_reducible refine wp_region_ext (by kernel_rfl) (by kernel_rfl) ?_); (repeat (first | go_big_quiet_step ((first | fail)) | quiet_step ((first | fail)))); refine wpQuiet_nil ?_; rintro _ ⟨yr, rfl⟩; have syr := Ext.size yr; (repeat (first | rw [World.size_alloc] at syr | rw [World.size_setCell] at syr | rw [World.size_drew] at syr))))
  refine bodyPost_ret (v := .agg #[.int .i64 a, .int .i64 b]) (by simp (maxDischargeDepth := 9) [results, Tryd.results28, go_sem]) rfl ?_
  refine ⟨rfl, ?_⟩
  repeat' (first | (with_reducible exact Below.refl _ _) | (with_reducible assumption) | (with_reducible refine Ext.below _ ?_ ?_) | (with_reducible refine Below.on ?_ (by with_reducible assumption) ?_) | (with_reducible refine Below.alloc ?_ ?_ _) | (with_reducible refine Below.drew ?_) | (with_reducible refine Below.setCell ?_ ?_ _) | (with_reducible exact Nat.le_refl _) | omega | (simp; done) | (simp [go_sem]; done) | (simp at *; omega))
end Go.Proofs.YtpiacndnjehbiaaDoor

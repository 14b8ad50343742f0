/- A range over an iterator that keeps state of its own in cells: the caller's law, and the contract that such an iterator owes. No condition. Contract of blowsOf's iterator: the blows of a rock with a fall, by their layers. Condition: valid air, two valid stones, the table of limits as it was laid. -/
import Derived.Test.YtlmhbggigbmeaaaDoorBase
import Derived.RangeFuncNested
import Derived.RangeFuncFrom
import Derived.RangeFuncBound
import Derived.RangeFuncCalls
import Derived.RangeFuncLeaves
import Derived.Test.YtlmhbggigbmeaaaDoorBlBgG
import Derived.Shelf.RegionOpen
import Derived.OwnWalkIn
import Derived.TacticsInMore
import Derived.LoopNIn
import Derived.LoopIn
namespace Go.Proofs.YtlmhbggigbmeaaaDoor
open Go.RowKit
/-- All blocks but those from lo to hi stand as they did. -/
structure KeptI (lo hi : Nat) (A C : World) : Prop where
  os : C.os = A.os
  tape : C.tape = A.tape
  output : C.output = A.output
  size : A.heap.size ≤ C.heap.size
  block : ∀ k, k < A.heap.size → ¬ (lo ≤ k ∧ k < hi) → C.heap[k]? = A.heap[k]?
theorem KeptI.refl (lo hi : Nat) (A : World) : KeptI lo hi A A := ⟨rfl, rfl, rfl, Nat.le_refl _, fun _ _ _ => rfl⟩
theorem KeptI.of {lo hi : Nat} {A C : World} (h : Below A.heap.size A C) : KeptI lo hi A C := ⟨h.os, h.tape, h.output, h.size, fun k hk _ => h.block k hk⟩
theorem KeptI.trans {lo hi : Nat} {A C E : World} (h : KeptI lo hi A C) (k : KeptI lo hi C E) : KeptI lo hi A E :=
  ⟨k.os.trans h.os, k.tape.trans h.tape, k.output.trans h.output, Nat.le_trans h.size k.size, fun i hi' hn => (k.block i (Nat.lt_of_lt_of_le hi' h.size) hn).trans (h.block i hi' hn)⟩
/-- What a round leaves as it was: all that lay before the call, and the iterator's own blocks. -/
structure KeepB (n₀ lo hi : Nat) (A C : World) : Prop where
  size : A.heap.size ≤ C.heap.size
  block : ∀ k, k < A.heap.size → k < n₀ ∨ (lo ≤ k ∧ k < hi) → C.heap[k]? = A.heap[k]?
theorem KeepB.trans {n₀ lo hi : Nat} {A C E : World} (h : KeepB n₀ lo hi A C) (k : KeepB n₀ lo hi C E) : KeepB n₀ lo hi A E :=
  ⟨Nat.le_trans h.size k.size, fun i hi' hn => (k.block i (Nat.lt_of_lt_of_le hi' h.size) hn).trans (h.block i hi' hn)⟩
theorem KeepB.put {n₀ lo hi l : Nat} {W : World} {o' : Obj} (h1 : n₀ ≤ l) (h2 : l < lo) : KeepB n₀ lo hi W (W.putObj l o') :=
  ⟨by simp [World.putObj], fun k _ hn => World.putObj_heap_other (by omega)⟩
theorem KeepB.of {n₀ lo hi : Nat} {A C : World} (h : Below A.heap.size A C) : KeepB n₀ lo hi A C := ⟨h.size, fun k hk _ => h.block k hk⟩
/-- An iterator with cells of its own: 'xs' has come, or a part of it. The caller's word J may be told of the heap's size behind the iterator's own blocks. -/
def SeqC {α : Type} (F : Fence) (n : Nat) (P : Program) (g : Nat) (lb : Array Value) (encs : α → Array Value) (n₀ : Nat) (S Sp : List α → Prop) (N : Nat) (w : World) : Prop :=
  ∀ (l : Nat) (J Jx : Nat → List α → World → Prop) (W : World), Below w.heap.size w W →
    (∀ B s A C, J B s A → KeptI W.heap.size B A C → J B s C) →
    (∀ B s A C, Jx B s A → KeptI W.heap.size B A C → Jx B s C) →
    (∀ B pre x W1, W.heap.size ≤ B → B ≤ W1.heap.size → J B pre W1 → pre.length < N → YieldAt F (n - 1) P l (encs x) W1 fun e W' =>
      (e = .returned (.bool true) ∧ J B (pre ++ [x]) W' ∧ KeepB n₀ W.heap.size B W1 W') ∨ (e = .returned (.bool false) ∧ Jx B (pre ++ [x]) W')) →
    (∀ W', Below W.heap.size W W' → J W'.heap.size [] W') →
    CallsIn F n P g (#[.func (.yield l) #[] #[]] ++ lb) W fun e W' => (∃ v, e = .returned v) ∧ ((∃ B xs, S xs ∧ J B xs W') ∨ (∃ B pre, Sp pre ∧ Jx B pre W'))
variable {F : Fence} {n : Nat} {P : Program} {w : World}
theorem wpIn_rangeFunc_cells {α : Type} {g : Operand} {ps : Array Tmp} {assign body : Code} {Q : Exit → Act → World → Prop} {a : Act} {w : World}
    (hro : F.round = none) (h1 : 1 ≤ n) {gf : Nat} {lb : Array Value} (hg : a.eval g = .func (.func gf) #[] lb) (hFg : F.fn gf) (eg : ∀ args w, (callFunc gf args).run P w = .ok (.enter gf args) w)
    {encs : α → Array Value} {S Sp : List α → Prop} {N n₀ : Nat} {w0 : World} (hn₀ : n₀ ≤ w.heap.size) (hseq : SeqC F (n - 1) P gf lb encs n₀ S Sp N w0) (hb0 : Below w0.heap.size w0 w) (hps : ∀ x, (encs x).size = ps.size)
    (I : Nat → List α → World → Prop) (Ix : Code → Nat → List α → World → Prop) (hI : ∀ B, OwnFrom w.heap.size (I B)) (hIx : ∀ c B, OwnFrom w.heap.size (Ix c B))
    (hI2 : ∀ B s A C, I B s A → KeptI (w.heap.size + 2) B A C → I B s C) (hIx2 : ∀ c B s A C, Ix c B s A → KeptI (w.heap.size + 2) B A C → Ix c B s C)
    (h0 : ∀ W', Below w.heap.size w W' → I W'.heap.size [] W') (Ax : Nat → α → Act → World → Prop) (hAx : ∀ B x a', OwnFrom w.heap.size (fun (_ : Unit) W => Ax B x a' W))
    (hassign : ∀ (l : Nat) (B : Nat) (pre : List α) (x : α) (W : World) (K : Act → World → Prop), w.heap.size + 2 ≤ B → B ≤ W.heap.size → I B pre W → (∀ a' W', KeepsFrom w.heap.size W W' → KeepB n₀ (w.heap.size + 2) B W W' → I B pre W' → Ax B x a' W' → K a' W') →
      assign.wpIn (F.inRound l) (n - 1 - 1) P (Exit.then K (fun _ _ _ => False)) { tmps := (ps.zip (encs x)).foldl (fun t (p, v) => t.setIfInBounds p v) a.tmps, defers := [] } W)
    (hbody : ∀ (l : Nat) (B : Nat) (pre : List α) (x : α) (a' : Act) (W : World), w.heap.size ≤ l → (∃ r, W.heap[l]? = some (.loop r)) → w.heap.size + 2 ≤ B → B ≤ W.heap.size → I B pre W → Ax B x a' W → pre.length < N → body.wpIn (F.inRound l) (n - 1 - 1) P (ownPostG w.heap.size (KeepB n₀ (w.heap.size + 2) B) (I B) (fun c => Ix c B) (pre ++ [x]) W) a' W)
    (hdone : ∀ (D : Nat) (B : Nat) (xs : List α) (W : World), w.heap.size ≤ D → S xs → I B xs W → W.heap[D]? = some (.deferred (some [])) → Q .normal { a with defers := { target := .collected D, args := #[] } :: a.defers } W)
    (hstop : ∀ (D : Nat) (c : Code) (B : Nat) (pre : List α) (W : World), w.heap.size ≤ D → Sp pre → Ix c B pre W → W.heap[D]? = some (.deferred (some [])) → c.wpIn F n P Q { a with defers := { target := .collected D, args := #[] } :: a.defers } W) :
    (Code.rangeFunc g ps assign body).wpIn F n P Q a w := by
  refine wpIn_rangeFunc ?_
  intro fn hfn
  rw [hro]
  obtain ⟨rec, hrec⟩ : ∃ rec : LoopState → Option Code → Loop, rec = fun st pe => { state := st, pending := pe, fn, tmps := a.tmps, params := ps, assign, body, defers := w.heap.size } := ⟨_, rfl⟩
  obtain ⟨W1, hW1⟩ : ∃ W1, (w.alloc (.deferred (some []))).alloc (.loop (rec .ready none)) = W1 := ⟨_, rfl⟩
  have hs1 : W1.heap.size = w.heap.size + 2 := by rw [← hW1]; simp
  have hL1 : W1.heap[w.heap.size + 1]? = some (.loop (rec .ready none)) := by
    rw [← hW1]; have := World.alloc_heap_new (w.alloc (.deferred (some []))) (.loop (rec .ready none)); rwa [World.size_alloc] at this
  have hK1 : W1.heap[w.heap.size]? = some (.deferred (some [])) := by
    rw [← hW1]; exact (Below.heap_alloc _ _ _ (by simp)).trans (World.alloc_heap_new w _)
  have hbw : Below w.heap.size w W1 := by rw [← hW1]; exact ((Below.refl _ w).alloc (Nat.le_refl _) _).alloc (by simp) _
  have hb1 : Below w0.heap.size w0 W1 := hb0.trans (hbw.mono hb0.size)
  refine ⟨w.heap.size + 1, [{ target := .collected w.heap.size, args := #[] }], W1, { target := .fn (.func gf) lb, args := #[.func (.yield (w.heap.size + 1)) #[] #[]] }, W1, gf,
    #[.func (.yield (w.heap.size + 1)) #[] #[]] ++ lb, W1, ?_, ?_, ?_, ?_, fun _ => h1, ?_⟩
  · rw [← hW1, hrec]; exact run_enterLoop_outer _ _ _ _ _
  · simp only [resolve, hg]
    simp [go_sem]
  · intro f' hf'; simp [Target.leads] at hf'; subst hf'; exact hFg
  · simp [invoke, go_sem, eg]
  · refine (hseq (w.heap.size + 1)
      (fun B pre W => I B pre W ∧ W.heap[w.heap.size + 1]? = some (.loop (rec .ready none)) ∧ W.heap[w.heap.size]? = some (.deferred (some [])))
      (fun B pre W => ∃ c, Ix c B pre W ∧ W.heap[w.heap.size + 1]? = some (.loop (rec .done (some c))) ∧ W.heap[w.heap.size]? = some (.deferred (some [])))
      W1 hb1
      (fun B s A C hs hk => ⟨hI2 B s A C hs.1 (hs1 ▸ hk), (hk.block _ (Array.getElem?_eq_some_iff.1 hs.2.1).1 (by omega)).trans hs.2.1, (hk.block _ (Array.getElem?_eq_some_iff.1 hs.2.2).1 (by omega)).trans hs.2.2⟩)
      (fun B s A C hs hk => by
        obtain ⟨c, hc, hl, hd⟩ := hs
        exact ⟨c, hIx2 c B s A C hc (hs1 ▸ hk), (hk.block _ (Array.getElem?_eq_some_iff.1 hl).1 (by omega)).trans hl, (hk.block _ (Array.getElem?_eq_some_iff.1 hd).1 (by omega)).trans hd⟩)
      ?_ (fun W' hW' => ⟨h0 W' (hbw.trans (hW'.mono hbw.size)), (hW'.block _ (by omega)).trans hL1, (hW'.block _ (by omega)).trans hK1⟩)).mono ?_
    · rintro B pre x W hB1 hB2 ⟨hi, hl, hk⟩ hlen
      rw [hs1] at hB1 ⊢
      have hlt : w.heap.size + 1 < W.heap.size := (Array.getElem?_eq_some_iff.1 hl).1
      have hy := run_yield (P := P) (args := encs x) hl (by rw [hrec]; exact hps x)
      rw [hrec] at hy
      refine ⟨fn, _, assign, body, hy, roundIn_of_wpIn hfn (hassign _ B pre x W _ hB1 hB2 hi ?_)⟩
      clear hy
      intro a' Wa hkfa hkpa hia hax
      replace hl := hkfa.same _ _ (by omega) hl rfl
      replace hk := hkfa.same _ _ (Nat.le_refl _) hk rfl
      replace hlt : w.heap.size + 1 < Wa.heap.size := (Array.getElem?_eq_some_iff.1 hl).1
      replace hi := hia
      replace hB2 : B ≤ Wa.heap.size := Nat.le_trans hB2 hkfa.size
      clear hia
      revert hkpa hkfa
      generalize W = Wb
      intro hkfa hkpa
      obtain ⟨W, rfl⟩ : ∃ W, W = Wa := ⟨_, rfl⟩
      refine ⟨_, run_beginRound hl (by rw [hrec]), ?_⟩
      have hl2 : (W.putObj (w.heap.size + 1) (.loop { rec .ready none with state := .busy })).heap[w.heap.size + 1]? = some (.loop { rec .ready none with state := .busy }) := World.putObj_heap_same hlt
      have hk2 : (W.putObj (w.heap.size + 1) (.loop { rec .ready none with state := .busy })).heap[w.heap.size]? = some (.deferred (some [])) := (World.putObj_heap_other (by omega)).trans hk
      have hw2 : KeepB n₀ (w.heap.size + 2) B W (W.putObj (w.heap.size + 1) (.loop { rec .ready none with state := .busy })) := KeepB.put (by omega) (by omega)
      refine wpIn_mono (hbody _ B pre x a' _ (by omega) ⟨_, hl2⟩ hB1 (by simpa [World.putObj] using hB2) ((hI B).putObj _ hi (by omega) hl rfl) ((hAx B x a').putObj (s := ()) _ hax (by omega) hl rfl) hlen) ?_
      have fin : ∀ (jump : Option Code) (W3 : World), KeepsFrom w.heap.size (W.putObj (w.heap.size + 1) (.loop { rec .ready none with state := .busy })) W3 →
          (Instr.endRound (w.heap.size + 1) jump).run P W3 = .ok (.bool jump.isNone) (W3.putObj (w.heap.size + 1) (.loop (rec (if jump.isNone then .ready else .done) jump))) ∧
          W3.heap[w.heap.size + 1]? = some (.loop { rec .ready none with state := .busy }) ∧
          (W3.putObj (w.heap.size + 1) (.loop (rec (if jump.isNone then .ready else .done) jump))).heap[w.heap.size + 1]? = some (.loop (rec (if jump.isNone then .ready else .done) jump)) ∧
          (W3.putObj (w.heap.size + 1) (.loop (rec (if jump.isNone then .ready else .done) jump))).heap[w.heap.size]? = some (.deferred (some [])) := fun jump W3 hk3 => by
        have hl3 := hk3.same _ _ (by omega) hl2 rfl
        have := run_endRound (P := P) jump hl3
        rw [hrec] at this ⊢
        exact ⟨this, by rw [hrec] at hl3; exact hl3, World.putObj_heap_same (Array.getElem?_eq_some_iff.1 hl3).1, (World.putObj_heap_other (by omega)).trans (hk3.same _ _ (Nat.le_refl _) hk2 rfl)⟩
      rintro e a3 W3 hp
      cases e with
      | normal =>
        obtain ⟨hk3, hkp3, hi3⟩ := hp
        obtain ⟨hr, hl3, hl4, hk4⟩ := fin none W3 hk3
        exact ⟨_, _, hr, .inl ⟨rfl, ⟨(hI B).putObj _ hi3 (by omega) hl3 rfl, hl4, hk4⟩, hkpa.trans ((hw2.trans hkp3).trans (KeepB.put (by omega) (by omega)))⟩⟩
      | ret =>
        obtain ⟨hk3, hi3⟩ := hp
        obtain ⟨hr, hl3, hl4, hk4⟩ := fin (some .ret) W3 hk3
        exact ⟨_, _, hr, .inr ⟨rfl, .ret, (hIx _ B).putObj _ hi3 (by omega) hl3 rfl, hl4, hk4⟩⟩
      | exit id =>
        obtain ⟨hk3, hi3⟩ := hp
        obtain ⟨hr, hl3, hl4, hk4⟩ := fin (some (.exit id)) W3 hk3
        exact ⟨_, _, hr, .inr ⟨rfl, .exit id, (hIx _ B).putObj _ hi3 (by omega) hl3 rfl, hl4, hk4⟩⟩
      | goto t =>
        obtain ⟨hk3, hi3⟩ := hp
        obtain ⟨hr, hl3, hl4, hk4⟩ := fin (some (.goto t)) W3 hk3
        exact ⟨_, _, hr, .inr ⟨rfl, .goto t, (hIx _ B).putObj _ hi3 (by omega) hl3 rfl, hl4, hk4⟩⟩
      | panic ch => exact hp.elim
      | outgrown => exact hp.elim
    · rintro e W2 ⟨⟨v, rfl⟩, (⟨B, xs, hS, hi, hl, hk⟩ | ⟨B, pre, hSp, c, hi, hl, hk⟩)⟩
      · exact ⟨none, _, by have := run_endLoop (P := P) hl (by rw [hrec]; simp); rw [hrec] at this; exact this, hdone _ B xs _ (Nat.le_refl _) hS ((hI B).putObj _ hi (by omega) hl rfl) ((World.putObj_heap_other (by omega)).trans hk)⟩
      · exact ⟨some c, _, by have := run_endLoop (P := P) hl (by rw [hrec]; simp); rw [hrec] at this; exact this, hstop _ c B pre _ (Nat.le_refl _) hSp ((hIx c B).putObj _ hi (by omega) hl rfl) ((World.putObj_heap_other (by omega)).trans hk)⟩
end Go.Proofs.YtlmhbggigbmeaaaDoor
namespace Go.Proofs.YtlmhbggigbmeaaaDoor
open Go.RowKit Go.Shelf
attribute [local go_sem] Oper.semAt_some
attribute [local go_sem] Option.isSome_some Ext.cell Ext.frozen Ext.lt Ext.le Ext.lt_add Ext.le_add Ext.ne Ext.ne' lt2 lt3 lt4 lt5 le2 le3 le4
/-- A blow, and whether all stones have ended by then. -/
structure BlowR where
  n : Nat
  lo : Int
  hi : Int
  all : Bool
def BlowR.val (x : BlowR) : Value := .agg #[.int .i64 x.n, .int .i64 x.lo, .int .i64 x.hi]
def BlowR.enc (x : BlowR) : Array Value := #[.agg #[.int .i64 x.n, .int .i64 x.lo, .int .i64 x.hi], .bool x.all]
/-- The blows of two stones, the early and the late one, by their layers. -/
def blowsL (s t : StoneR) : List V2 → Nat → Int → Int → List BlowR
  | [], i, we, wl => [⟨i, massV t * wl, massV s * we, true⟩]
  | v :: l, i, we, wl => (if burstB s v.y we = true then [⟨i, massV t * wl, massV s * we, burstB t v.y wl⟩] else []) ++ blowsL s t l (i + 1) (stp we (kOf s v) (dOf s)) (stp wl (kOf t v) (dOf t))
set_option maxRecDepth 100000 in
set_option maxHeartbeats 8000000 in
theorem blow_any (G H : Nat) (p : Option Addr) (cap : Nat) (l : List V2) (s t : StoneR) (i j : Nat) (we wl : Int) (w : World) (hlim : LimAt w) (hf : FallAt w G p cap l s i we) (hg : FallAt w H p cap l t j wl) (hs : s.Ok) (ht : t.Ok) (hw : 0 ≤ we ∧ we ≤ 64000000) (hw2 : 0 ≤ wl ∧ wl ≤ 64000000) :
    Calls Tryd.prog 82 #[.pointer (some ⟨G, 0, none⟩), .pointer (some ⟨H, 0, none⟩)] w (Gives (.agg #[.int .i64 i, .int .i64 (massV t * wl), .int .i64 (massV s * we)]) w) := by
  have k9 : w.cell? ⟨G, 9, none⟩ = some (.int .i64 i) := (cell_of_row w _ 9 _ _ _ hf.1).trans rfl
  have hG : G < w.heap.size := row_lt hf.1
  have hH : H < w.heap.size := row_lt hg.1
  have c1 := fun (W : World) (y : Below w.heap.size w W) => energy_any H p cap l t j wl W (hlim.on y) ⟨(y.block H hH).trans hg.1, hg.2.on y⟩ ht hw2
  have c2 := fun (W : World) (y : Below w.heap.size w W) => energy_any G p cap l s i we W (hlim.on y) ⟨(y.block G hG).trans hf.1, hf.2.on y⟩ hs hw
  generalize massV t * wl = a at *
  generalize massV s * we = b at *
  clear hf hg hs ht hw hw2
  go_enter Tryd.func82, Tryd.ntmps82
  go_upto_region 1 with fail
  refine wp_named (fun W0 hW => ?_)
  have z0 : W0.cell? ⟨w.heap.size, 0, none⟩ = some (.int .i64 0) := by rw [← hW]; simp [go_sem]
  have z1 : W0.cell? ⟨w.heap.size, 1, none⟩ = some (.int .i64 0) := by rw [← hW]; simp [go_sem]
  have z2 : W0.cell? ⟨w.heap.size, 2, none⟩ = some (.int .i64 0) := by rw [← hW]; simp [go_sem]
  have f0 : W0.frozen? ⟨w.heap.size, 0, none⟩ = false := by rw [← hW]; simp [go_sem]
  have f1 : W0.frozen? ⟨w.heap.size, 1, none⟩ = false := by rw [← hW]; simp [go_sem]
  have f2 : W0.frozen? ⟨w.heap.size, 2, none⟩ = false := by rw [← hW]; simp [go_sem]
  have hl : w.heap.size < W0.heap.size := by rw [← hW]; simp
  have hB0 : Below w.heap.size w W0 := by rw [← hW]; repeat' (first | (with_reducible exact Below.refl _ _) | (with_reducible assumption) | (with_reducible refine Ext.below _ ?_ ?_) | (with_reducible refine Below.on ?_ (by with_reducible assumption) ?_) | (with_reducible refine Below.alloc ?_ ?_ _) | (with_reducible refine Below.drew ?_) | (with_reducible refine Below.setCell ?_ ?_ _) | (with_reducible exact Nat.le_refl _) | omega | (simp; done) | (simp [go_sem]; done) | (simp at *; omega))
  replace k9 := (hB0.cell (p := ⟨G, 9, none⟩) hG).trans k9
  have hG0 : G < W0.heap.size := by omega
  clear hW
  (first | with_reducible refine wp_region_ext2_heads 6 (by kernel_rfl) (by kernel_rfl) ?_ | with_reducible refine wp_region_ext_heads 6 (by kernel_rfl) (by kernel_rfl) ?_); simp only [List.take_succ_cons, List.take_zero, List.length_cons, List.length_nil, Nat.reduceAdd, Nat.reduceSub]; (repeat (first | go_big_quiet_step ((first | (go_at_call 51; with_reducible exact Calls.ext (c1 _ bcl)) | (go_at_call 51; with_reducible exact Calls.ext (c2 _ bcl)))) | quiet_step ((first | (go_at_call 51; with_reducible exact Calls.ext (c1 _ bcl)) | (go_at_call 51; with_reducible exact Calls.ext (c2 _ bcl)))))); refine wpQuiet_nil ?_; rintro _ ⟨yr, rfl⟩; have syr := Ext.size yr; (repeat (first | rw [World.size_alloc] at syr | rw [World.size_setCell] at syr | rw [World.size_drew] at syr)); (refine wpAny_ready (rs := [6]) (by kernel_rfl) (by simp) ?_; refine AllReady.cons rfl (fun K hK => ?_) AllReady.nil; go_simp; refine hK _ _ ?_; clear hK K); refine wpAny_done (by kernel_rfl) ?_ _
  have y0 := (yr.cell (o := 0) hl).trans z0
  have y1 := (yr.cell (o := 1) hl).trans z1
  have y2 := (yr.cell (o := 2) hl).trans z2
  go_wp2_with fail
  refine bodyPost_ret (v := .agg #[.int .i64 i, .int .i64 a, .int .i64 b]) (by simp (maxDischargeDepth := 9) [results, Tryd.results82, go_sem, y0, y1, y2]) rfl ?_
  refine ⟨rfl, ?_⟩
  repeat' (first | (with_reducible exact Below.refl _ _) | (with_reducible assumption) | (with_reducible refine Ext.below _ ?_ ?_) | (with_reducible refine Below.on ?_ (by with_reducible assumption) ?_) | (with_reducible refine Below.alloc ?_ ?_ _) | (with_reducible refine Below.drew ?_) | (with_reducible refine Below.setCell ?_ ?_ _) | (with_reducible exact Nat.le_refl _) | omega | (simp; done) | (simp [go_sem]; done) | (simp at *; omega))
end Go.Proofs.YtlmhbggigbmeaaaDoor

/- A region that draws its order, by what holds between its operations: no order is walked through. -/
import Derived.Test.YtlhihmfefipehaaBase
import Derived.OrdersIn
import Derived.Laws.Tables
namespace Go.Proofs.Ytlhihmfefipehaa
open Go.RowKit
def bools : Nat → List (List Bool)
  | 0 => [[]]
  | n + 1 => (bools n).flatMap fun l => [false :: l, true :: l]
theorem mem_bools : ∀ l : List Bool, l ∈ bools l.length
  | [] => by simp [bools]
  | b :: l => by
    simp only [List.length_cons, bools, List.mem_flatMap]
    exact ⟨l, mem_bools l, by cases b <;> simp⟩
/-- Which operations may come up, told by R: a closed fact of the region's own edges. -/
def readyOk (md : Region.Mode) (ops : Array Oper) (R : List Bool → Nat → Bool) : Bool :=
  (bools ops.size).all fun l => (Region.ready md ops l.toArray).all (fun i => R l i && l[i]? == some false) && ((Region.ready md ops l.toArray).isEmpty == l.all id)
theorem readyOk_at {md : Region.Mode} {ops : Array Oper} {R : List Bool → Nat → Bool} (h : readyOk md ops R = true) {l : List Bool} (hl : l.length = ops.size) :
    (∀ i ∈ Region.ready md ops l.toArray, R l i = true ∧ l[i]? = some false) ∧ (Region.ready md ops l.toArray = [] ↔ l.all id = true) := by
  have := List.all_eq_true.1 h l (hl ▸ mem_bools l)
  simp only [Bool.and_eq_true, List.all_eq_true, beq_iff_eq] at this
  refine ⟨this.1, ?_⟩
  have h2 := this.2
  cases hr : Region.ready md ops l.toArray <;> rw [hr] at h2 <;> simp at h2 ⊢ <;> simpa using h2
theorem count_set : ∀ (l : List Bool) (i : Nat), l[i]? = some false → (l.set i true).count false < l.count false
  | [], i, h => by simp at h
  | b :: l, 0, h => by
    simp at h
    subst h
    simp
  | b :: l, i + 1, h => by
    have := count_set l i (by simpa using h)
    simp only [List.set_cons_succ, List.count_cons]
    omega
theorem all_of_count : ∀ l : List Bool, l.count false = 0 → l.all id = true
  | [], _ => rfl
  | false :: l, h => by simp at h
  | true :: l, h => by
    have := all_of_count l (by simpa using h)
    simpa using this
section
variable {P : Program} {ops : Array Oper} {Q : Exit → Act → World → Prop} {md : Region.Mode} {R : List Bool → Nat → Bool} {Inv : List Bool → Act → World → Prop}
theorem wpAny_by (hR : readyOk md ops R = true)
    (hstep : ∀ l a w i, l.length = ops.size → Inv l a w → R l i = true → l[i]? = some false → wpOp P ops Q i (Inv (l.set i true)) a w)
    (hend : ∀ l a w, l.length = ops.size → l.all id = true → Inv l a w → Q .normal a w) :
    ∀ (fuel : Nat) (l : List Bool) (a : Act) (w : World), l.length = ops.size → l.count false ≤ fuel → Inv l a w → wpAny P md ops Q fuel l.toArray a w
  | 0, l, a, w, hl, hc, hi => by
    have := all_of_count l (by omega)
    exact ⟨(readyOk_at hR hl).2.2 this, hend l a w hl this hi⟩
  | fuel + 1, l, a, w, hl, hc, hi => by
    refine ⟨fun h => hend l a w hl ((readyOk_at hR hl).2.1 h) hi, fun i hr => ?_⟩
    obtain ⟨h1, h2⟩ := (readyOk_at hR hl).1 i hr
    have := count_set l i h2
    rw [List.setIfInBounds_toArray]
    exact wpOp_mono (fun a w h => wpAny_by hR hstep hend fuel (l.set i true) a w (by simpa using hl) (by omega) h) (hstep l a w i hl hi h1 h2)
theorem region_by {rid : Nat} {a : Act} {w : World} (hm : P.follows .mixedOrders = true) (R : List Bool → Nat → Bool) (hR : readyOk .any ops R = true) (Inv : List Bool → Act → World → Prop)
    (h0 : Inv (List.replicate ops.size false) a w.drew)
    (hstep : ∀ l a w i, l.length = ops.size → Inv l a w → R l i = true → l[i]? = some false → wpOp P ops Q i (Inv (l.set i true)) a w)
    (hend : ∀ l a w, l.length = ops.size → l.all id = true → Inv l a w → Q .normal a w) : (Code.region rid ops true).wp P Q a w := by
  refine wp_region_any hm ?_
  rw [← List.toArray_replicate]
  exact wpAny_by hR hstep hend ops.size _ _ _ (by simp) (by simp) h0
variable {F : Fence} {n : Nat}
theorem wpAnyIn_by (hR : readyOk md ops R = true)
    (hstep : ∀ l a w i, l.length = ops.size → Inv l a w → R l i = true → l[i]? = some false → wpOpIn F n P ops Q i (Inv (l.set i true)) a w)
    (hend : ∀ l a w, l.length = ops.size → l.all id = true → Inv l a w → Q .normal a w) :
    ∀ (fuel : Nat) (l : List Bool) (a : Act) (w : World), l.length = ops.size → l.count false ≤ fuel → Inv l a w → wpAnyIn F n P md ops Q fuel l.toArray a w
  | 0, l, a, w, hl, hc, hi => by
    have := all_of_count l (by omega)
    exact ⟨(readyOk_at hR hl).2.2 this, hend l a w hl this hi⟩
  | fuel + 1, l, a, w, hl, hc, hi => by
    refine ⟨fun h => hend l a w hl ((readyOk_at hR hl).2.1 h) hi, fun i hr => ?_⟩
    obtain ⟨h1, h2⟩ := (readyOk_at hR hl).1 i hr
    have := count_set l i h2
    rw [List.setIfInBounds_toArray]
    exact wpOpIn_mono (fun a w h => wpAnyIn_by hR hstep hend fuel (l.set i true) a w (by simpa using hl) (by omega) h) (hstep l a w i hl hi h1 h2)
theorem region_by_in {rid : Nat} {a : Act} {w : World} (hm : P.follows .mixedOrders = true) (R : List Bool → Nat → Bool) (hR : readyOk .any ops R = true) (Inv : List Bool → Act → World → Prop)
    (h0 : Inv (List.replicate ops.size false) a w.drew)
    (hstep : ∀ l a w i, l.length = ops.size → Inv l a w → R l i = true → l[i]? = some false → wpOpIn F n P ops Q i (Inv (l.set i true)) a w)
    (hend : ∀ l a w, l.length = ops.size → l.all id = true → Inv l a w → Q .normal a w) : (Code.region rid ops true).wpIn F n P Q a w := by
  refine wpIn_region_any hm ?_
  rw [← List.toArray_replicate]
  exact wpAnyIn_by hR hstep hend ops.size _ _ _ (by simp) (by simp) h0
end
/-- A whole row stored into a block, inside a fence. -/
theorem wpIn_store_row {P : Program} {F : Fence} {n : Nat} {o : Oper} {a : Act} {w : World} {K : Act → World → Prop} {Q : Exit → Act → World → Prop} (ty : TypeId) (x y : Operand) (ho : o.op = .store ty x y) (hab : o.about P w a.eval = none)
    (g : Nat) (cells : Array Value) (hx : a.eval x = .pointer (some ⟨g, 0, none⟩)) (hy : a.eval y = .agg cells)
    (t : TypeId) (old : Array Value) (hg : w.heap[g]? = some (.cells old t (0, 0))) (hi : (P.info? ty).map (·.size) = some cells.size)
    (hsz : old.size = cells.size) (h1 : cells.all (·.oneCell') = true) (h : K (a.put o.dst undef) (w.setRow g cells)) : o.wpIn F n P a w K Q := by
  refine ⟨fun f hf => (by rw [hab] at hf; cases hf), ?_⟩
  rw [Oper.semAt_eq _ _ _ (fun c hc => (by rw [ho] at hc; cases hc))]
  unfold execOp
  simp only [ho, hx, hy, Instr.storeAt, Instr.sureAddr, Sem.run_bind, Sem.run_pure, Result.andThen_ok, run_storeVar_row w g t ty old cells hg hi hsz h1]
  exact h
theorem below_setRow {B : Nat} {w W : World} (h : Below B w W) {g : Nat} (hg : B ≤ g) (cs : Array Value) : Below B w (W.setRow g cs) :=
  ⟨h.os, h.tape, h.output, by have := h.size; simpa using this, fun i hi => (setRow_other W g i cs (by omega)).trans (h.block i hi)⟩
theorem list7 {α : Type} {l : List α} (h : l.length = 7) : ∃ a b c d e f g, l = [a, b, c, d, e, f, g] := by
  match l, h with
  | [a, b, c, d, e, f, g], _ => exact ⟨a, b, c, d, e, f, g, rfl⟩
end Go.Proofs.Ytlhihmfefipehaa

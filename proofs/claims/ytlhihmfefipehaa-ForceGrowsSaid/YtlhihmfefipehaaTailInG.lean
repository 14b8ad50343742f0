/- Contracts of package span's iterators: all corners of two rings, all sides of their sweep. No condition but that the numbers are places'. As XTail, within an iterator: the first n operations are quiet, behind them a round of yield may come. -/
import Derived.Test.YtlhihmfefipehaaArea
import Derived.RangeFuncNested
import Derived.RangeFuncFrom
import Derived.RangeFuncBound
import Derived.RangeFuncCalls
import Derived.RangeFuncLeaves
import Derived.Shelf.Abstract
import Derived.Shelf.RegionOpen
import Derived.OwnWalkIn
import Derived.TacticsInMore
import Derived.LoopNIn
import Derived.LoopIn
import Derived.Test.YtlhihmfefipehaaTail
namespace Go.Proofs.Ytlhihmfefipehaa
open Go.RowKit Go.Shelf
attribute [local go_sem] Oper.semAt_some
attribute [local go_sem] Ext.cell Ext.frozen Ext.lt Ext.le Ext.lt_add Ext.le_add Ext.ne Ext.ne' lt2 lt3 lt4 lt5 le2 le3 le4
/-- A place. -/
structure Pl where
  x : Int
  y : Int
  fx : Far x
  fy : Far y
def Pl.enc (p : Pl) : Array Value := #[.agg #[.int .i64 p.x, .int .i64 p.y]]
/-- The corners of two rings, in their order. -/
def cornersL (p0 p1 p2 p3 q0 q1 q2 q3 : Pl) : List Pl := [p0, p1, p2, p3, q0, q1, q2, q3]
def ch (i : Nat) (a b : Pl) : Pl := if i = 0 then a else b
def nth4 (a b c d : Pl) (j : Nat) : Pl := if j = 0 then a else if j = 1 then b else if j = 2 then c else d
theorem pl_at (p0 p1 p2 p3 : Pl) (j : Nat) (hj : j < 4) (w : World) :
    (Instr.index 130 (.agg #[.int .i64 p0.x, .int .i64 p0.y, .int .i64 p1.x, .int .i64 p1.y, .int .i64 p2.x, .int .i64 p2.y, .int .i64 p3.x, .int .i64 p3.y]) (.int .i64 j)).run Try.prog w =
    .ok (.agg #[.int .i64 (nth4 p0 p1 p2 p3 j).x, .int .i64 (nth4 p0 p1 p2 p3 j).y]) w := by
  rcases (show j = 0 ∨ j = 1 ∨ j = 2 ∨ j = 3 by omega) with rfl | rfl | rfl | rfl <;> kernel_rfl
theorem take_corners (p0 p1 p2 p3 q0 q1 q2 q3 : Pl) (i j : Nat) (hi : i < 2) (hj : j < 4) :
    (cornersL p0 p1 p2 p3 q0 q1 q2 q3).take (4 * i + (j + 1)) = (cornersL p0 p1 p2 p3 q0 q1 q2 q3).take (4 * i + j) ++ [nth4 (ch i p0 q0) (ch i p1 q1) (ch i p2 q2) (ch i p3 q3) j] := by
  rcases (show i = 0 ∨ i = 1 by omega) with rfl | rfl <;> rcases (show j = 0 ∨ j = 1 ∨ j = 2 ∨ j = 3 by omega) with rfl | rfl | rfl | rfl <;> rfl

end Go.Proofs.Ytlhihmfefipehaa
namespace Go.Proofs.Ytlhihmfefipehaa
open Go.RowKit
section
variable {P : Program} {ops : Array Oper} {md : Region.Mode} {C : World → Prop} {n : Nat} {L : Act → Prop}
def notDefer (o : Oper) : Bool := match o.op with
  | .defer _ => false
  | _ => true
theorem notDefer_ne {o : Oper} (h : notDefer o = true) : ∀ c, o.op ≠ .defer c := by
  intro c e
  unfold notDefer at h
  rw [e] at h
  cases h
/-- The wide fence, in a round or in none. -/
def wideR (ro : Option Nat) : Fence := { Fence.wide with round := ro }
theorem wpIn_of_wp {ro : Option Nat} {nn : Nat} {o : Oper} {a : Act} {w : World} {next : Act → World → Prop} {Q : Exit → Act → World → Prop} (hd : notDefer o = true) (h : o.wp P a w next Q) : o.wpIn (wideR ro) nn P a w next Q := by
  refine ⟨fun _ _ => trivial, ?_⟩
  unfold Oper.wp at h
  change o.uponIn (wideR ro) nn P a next Q ((o.semAt ro a.eval).run P w)
  rw [Oper.semAt_eq ro a.eval o (notDefer_ne hd)]
  generalize (execOp a.eval o).run P w = r at h
  unfold Oper.upon at h
  split at h
  · exact h
  · exact h
  · exact h
  · rw [Oper.uponIn_enter]
    exact ⟨fun hd => (by cases hd), (callsIn_wide (n := nn - 1)).2 h⟩
  · rw [Oper.uponIn_row]
    refine ⟨fun hd => (by cases hd), fun c cs _ => ?_⟩
    obtain ⟨v, w', r, s⟩ := h c cs
    exact ⟨v, w', r, stepsIn_wide.2 s⟩
  · exact h
  · cases h
theorem wpOpIn_of_qOp {ro : Option Nat} {nn i : Nat} {a : Act} {K : Act → Prop} {K' : Act → World → Prop} {Q : Exit → Act → World → Prop} {w : World} (hnd : ops.all notDefer = true) (hC : C w) (h : ∀ a w', C w' → K a → K' a w') (hh : qOp P ops C i K a) : wpOpIn (wideR ro) nn P ops Q i K' a w := by
  unfold qOp at hh
  unfold wpOpIn
  split
  · rename_i ho; simp only [ho] at hh; exact h _ _ hC hh
  · rename_i o ho
    simp only [ho] at hh
    split
    · rename_i hw; simp only [hw, if_true] at hh; exact wpIn_of_wp (by
        have h9 := Array.all_eq_true_iff_forall_mem.1 hnd o (Array.mem_of_getElem? ho)
        exact h9) (Oper.wp_of_quiet hC h hh)
    · rename_i hw; simp only [hw] at hh; exact ⟨fun _ _ => trivial, h _ _ hC hh⟩
theorem wpAnyIn_of_heads {ro : Option Nat} {g nn : Nat} {Q : Exit → Act → World → Prop} (hnd : ops.all notDefer = true) (hT : tailOk md ops n = true) (hg : ops.size = n + g) (hL : ∀ a w, C w → L a → wpAnyIn (wideR ro) nn P md ops Q g (headsDone n g) a w) :
    ∀ (f : Nat) (listed : Array Bool) (a : Act) (w : World), C w → Closed md ops listed → listed.size = ops.size → (∀ t, n ≤ t → t < ops.size → listed.getD t true = false) → Heads P md ops C n L f listed a → wpAnyIn (wideR ro) nn P md ops Q (f + g) listed a w
  | 0, listed, a, w, hw, _, hsz, htl, h => by
    have hall : ∀ i, i < n → listed.getD i false = true := by
      intro i
      induction i using Nat.strongRecOn with
      | ind i ih =>
        intro hin
        by_cases hh : listed.getD i false = true
        · exact hh
        · exfalso
          have hi : i < ops.size := by omega
          have ho : ops[i]? = some ops[i] := Array.getElem?_eq_getElem hi
          have hm : i ∈ Region.ready md ops listed := by
            rw [mem_ready]
            refine ⟨?_, ops[i], ho, fun e he hb => ?_⟩
            · have : i < listed.size := by omega
              simp [this] at hh ⊢
              exact hh
            · have h1 := List.all_eq_true.1 hT i (by simpa using hi)
              simp only [ho, hin, if_true, Array.all_eq_true'] at h1
              have h2 := h1 e he
              simp only [hb, Bool.not_true, Bool.false_or, decide_eq_true_eq] at h2
              exact ih e.on h2 (by omega)
          have := h.1 i hm
          omega
    have heq : listed = headsDone n g := by
      unfold headsDone
      apply Array.ext
      · simp; omega
      · intro i h1 h2
        by_cases hin : i < n
        · have := hall i hin
          simp [h1] at this
          simp [this, hin]
        · have := htl i (by omega) (by omega)
          simp [h1] at this
          simp [this, List.getElem_append, hin]
    rw [Nat.zero_add, heq]
    exact hL a w hw h.2
  | f + 1, listed, a, w, hw, hcl, hsz, htl, h => by
    obtain ⟨⟨i0, hi0, hi0n⟩, h⟩ := h
    rw [show f + 1 + g = (f + g) + 1 by omega]
    refine ⟨fun h0 => (by rw [h0] at hi0; cases hi0), fun i hi => ?_⟩
    have hin : i < n := by
      rcases Nat.lt_or_ge i n with h' | h'
      · exact h'
      · exfalso
        obtain ⟨_, o, ho, hall⟩ := mem_ready.1 hi
        have hlt : i < ops.size := (Array.getElem?_eq_some_iff.1 ho).1
        have h1 := List.all_eq_true.1 hT i (by simpa using hlt)
        simp only [ho, show ¬ i < n by omega, if_false, List.all_eq_true, List.mem_range] at h1
        have h2 := reaches_listed hcl 5 i i0 (fun o' ho' => (by obtain rfl := Option.some.inj (ho.symm.trans ho'); exact hall)) (h1 i0 hi0n)
        have h3 := (mem_ready.1 hi0).1
        rcases Nat.lt_or_ge i0 listed.size with h'' | h''
        · simp [h''] at h2 h3; rw [h2] at h3; cases h3
        · simp [Array.getElem?_eq_none h''] at h2
    exact wpOpIn_of_qOp hnd hw (fun a' w' hw' h' => wpAnyIn_of_heads hnd hT hg hL f _ a' w' hw' (hcl.set hi) (by simpa using hsz) (fun t ht ht' => by rw [getD_set_ne true (by omega)]; exact htl t ht ht') h') (h i hi hin)
theorem wpIn_region_heads {ro : Option Nat} {id nn : Nat} {Q : Exit → Act → World → Prop} {a : Act} {w : World} {l : List Oper} (n : Nat) (hm : P.follows .mixedOrders = true)
    (hB : (Region.noSelect l.toArray && decide (n ≤ l.length) && tailOk .any l.toArray n && lexHeads .any l.toArray n n 0 (Array.replicate l.length false)) = true)
    (hnd : l.toArray.all notDefer = true) (hC : C w.drew) (h : wpQuiet P l.toArray C (fun a' => ∀ w', C w' → wpAnyIn (wideR ro) nn P .any l.toArray Q (l.length - n) (headsDone n (l.length - n)) a' w') (l.take n) a) : (Code.region id l.toArray true).wpIn (wideR ro) nn P Q a w := by
  simp only [Bool.and_eq_true, decide_eq_true_eq] at hB
  obtain ⟨⟨⟨hs, hn⟩, hT⟩, hlex⟩ := hB
  have htl : (l.take n).length = n := by simp; omega
  have H := Heads_lex (md := .any) (n := n) (C := C) hs (l.take n) 0 (Array.replicate l.length false) a (fun j hj => by
    have hj' : j < n := by rw [htl] at hj; exact hj
    simp [hj']) (by simpa using htl) (by rw [htl]; exact hlex) h
  refine wpIn_region_any hm ?_
  have := wpAnyIn_of_heads (ro := ro) (nn := nn) (Q := Q) (g := l.length - n) hnd hT (by simp; omega) (fun a w hw h => h w hw) _ _ _ _ hC (fun j o _ hl => (by rcases Nat.lt_or_ge j l.length with h' | h' <;> simp [h'] at hl)) (by simp) (fun t ht ht' => by have : t < l.length := (by simpa using ht'); simp [this]) H
  rw [htl, show n + (l.length - n) = l.toArray.size by simp; omega] at this
  simpa using this
end
theorem wpIn_region_ext_heads {P : Program} {id nn : Nat} {Q : Exit → Act → World → Prop} {a : Act} {w : World} {l : List Oper} (n : Nat) (hm : P.follows .mixedOrders = true)
    (hB : (Region.noSelect l.toArray && decide (n ≤ l.length) && tailOk .any l.toArray n && lexHeads .any l.toArray n n 0 (Array.replicate l.length false)) = true)
    (hnd : l.toArray.all notDefer = true) (h : wpQuiet P l.toArray (fun W => ∃ x : Ext w, W = x.now) (fun a' => ∀ W, (∃ x : Ext w, W = x.now) → wpAnyIn Fence.wide nn P .any l.toArray Q (l.length - n) (headsDone n (l.length - n)) a' W) (l.take n) a) : (Code.region id l.toArray true).wpIn Fence.wide nn P Q a w :=
  wpIn_region_heads (ro := none) (C := fun W => ∃ x : Ext w, W = x.now) n hm hB hnd ⟨⟨w.drew, (Below.refl _ _).drew⟩, rfl⟩ h
theorem wpIn_region_ext_headsR {P : Program} {lr id nn : Nat} {Q : Exit → Act → World → Prop} {a : Act} {w : World} {l : List Oper} (n : Nat) (hm : P.follows .mixedOrders = true)
    (hB : (Region.noSelect l.toArray && decide (n ≤ l.length) && tailOk .any l.toArray n && lexHeads .any l.toArray n n 0 (Array.replicate l.length false)) = true)
    (hnd : l.toArray.all notDefer = true) (h : wpQuiet P l.toArray (fun W => ∃ x : Ext w, W = x.now) (fun a' => ∀ W, (∃ x : Ext w, W = x.now) → wpAnyIn (Fence.wide.inRound lr) nn P .any l.toArray Q (l.length - n) (headsDone n (l.length - n)) a' W) (l.take n) a) : (Code.region id l.toArray true).wpIn (Fence.wide.inRound lr) nn P Q a w :=
  wpIn_region_heads (ro := some lr) (C := fun W => ∃ x : Ext w, W = x.now) n hm hB hnd ⟨⟨w.drew, (Below.refl _ _).drew⟩, rfl⟩ h
end Go.Proofs.Ytlhihmfefipehaa

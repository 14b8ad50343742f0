/- Contracts of package span's iterators: all corners of two rings, all sides of their sweep. No condition but that the numbers are places'. -/
import Derived.Test.YtagfhekjmkdjkaaArea
import Derived.RangeFuncNested
import Derived.RangeFuncFrom
import Derived.RangeFuncBound
import Derived.RangeFuncCalls
import Derived.RangeFuncLeaves
import Derived.Shelf.Abstract
import Derived.Shelf.RegionOpen
import Derived.OwnWalkIn
import Derived.TacticsInMore
import Derived.LoopNIn
import Derived.LoopIn
namespace Go.Proofs.Ytagfhekjmkdjkaa
open Go.RowKit Go.Shelf
attribute [local go_sem] Oper.semAt_some
attribute [local go_sem] Ext.cell Ext.frozen Ext.lt Ext.le Ext.lt_add Ext.le_add Ext.ne Ext.ne' lt2 lt3 lt4 lt5 le2 le3 le4
/-- A place. -/
structure Pl where
  x : Int
  y : Int
  fx : Far x
  fy : Far y
def Pl.enc (p : Pl) : Array Value := #[.agg #[.int .i64 p.x, .int .i64 p.y]]
/-- The corners of two rings, in their order. -/
def cornersL (p0 p1 p2 p3 q0 q1 q2 q3 : Pl) : List Pl := [p0, p1, p2, p3, q0, q1, q2, q3]
def ch (i : Nat) (a b : Pl) : Pl := if i = 0 then a else b
def nth4 (a b c d : Pl) (j : Nat) : Pl := if j = 0 then a else if j = 1 then b else if j = 2 then c else d
theorem rings_at (p0 p1 p2 p3 q0 q1 q2 q3 : Pl) (i : Nat) (hi : i < 2) (w : World) :
    (Instr.index 83 (.agg #[.int .i64 p0.x, .int .i64 p0.y, .int .i64 p1.x, .int .i64 p1.y, .int .i64 p2.x, .int .i64 p2.y, .int .i64 p3.x, .int .i64 p3.y, .int .i64 q0.x, .int .i64 q0.y, .int .i64 q1.x, .int .i64 q1.y, .int .i64 q2.x, .int .i64 q2.y, .int .i64 q3.x, .int .i64 q3.y]) (.int .i64 i)).run Try.prog w =
    .ok (.agg #[.int .i64 (ch i p0 q0).x, .int .i64 (ch i p0 q0).y, .int .i64 (ch i p1 q1).x, .int .i64 (ch i p1 q1).y, .int .i64 (ch i p2 q2).x, .int .i64 (ch i p2 q2).y, .int .i64 (ch i p3 q3).x, .int .i64 (ch i p3 q3).y]) w := by
  rcases (show i = 0 ∨ i = 1 by omega) with rfl | rfl
  · kernel_rfl
  · kernel_rfl
theorem pl_at (p0 p1 p2 p3 : Pl) (j : Nat) (hj : j < 4) (w : World) :
    (Instr.index 79 (.agg #[.int .i64 p0.x, .int .i64 p0.y, .int .i64 p1.x, .int .i64 p1.y, .int .i64 p2.x, .int .i64 p2.y, .int .i64 p3.x, .int .i64 p3.y]) (.int .i64 j)).run Try.prog w =
    .ok (.agg #[.int .i64 (nth4 p0 p1 p2 p3 j).x, .int .i64 (nth4 p0 p1 p2 p3 j).y]) w := by
  rcases (show j = 0 ∨ j = 1 ∨ j = 2 ∨ j = 3 by omega) with rfl | rfl | rfl | rfl <;> kernel_rfl
theorem take_corners (p0 p1 p2 p3 q0 q1 q2 q3 : Pl) (i j : Nat) (hi : i < 2) (hj : j < 4) :
    (cornersL p0 p1 p2 p3 q0 q1 q2 q3).take (4 * i + (j + 1)) = (cornersL p0 p1 p2 p3 q0 q1 q2 q3).take (4 * i + j) ++ [nth4 (ch i p0 q0) (ch i p1 q1) (ch i p2 q2) (ch i p3 q3) j] := by
  rcases (show i = 0 ∨ i = 1 by omega) with rfl | rfl <;> rcases (show j = 0 ∨ j = 1 ∨ j = 2 ∨ j = 3 by omega) with rfl | rfl | rfl | rfl <;> rfl

set_option maxHeartbeats 1000000 in
theorem corners1_in (F : Fence) (n : Nat) (hF : F.fn 76) (hro : F.round = none) (hn : 1 ≤ n) (l Bn n₀ : Nat) (p0 p1 p2 p3 q0 q1 q2 q3 : Pl) (J Jx : List Pl → World → Prop) (W : World)
    (hJ : AbidesFrom W.heap.size J)
    (hY : ∀ pre x W1, J pre W1 → pre.length < 8 → YieldAt F (n - 1) Try.prog l (Pl.enc x) W1 fun e W' =>
      (e = .returned (.bool true) ∧ J (pre ++ [x]) W' ∧ Below n₀ W1 W') ∨ (e = .returned (.bool false) ∧ Jx (pre ++ [x]) W'))
    (hb : ∀ k (hk : k < 8), W.cell? ⟨Bn, 2 * k, none⟩ = some (.int .i64 ((cornersL p0 p1 p2 p3 q0 q1 q2 q3)[k]'(by simpa [cornersL] using hk)).x) ∧ W.cell? ⟨Bn, 2 * k + 1, none⟩ = some (.int .i64 ((cornersL p0 p1 p2 p3 q0 q1 q2 q3)[k]'(by simpa [cornersL] using hk)).y)) (h0 : J [] W) :
    CallsIn F n Try.prog 76 #[.func (.yield l) #[] #[], .pointer (some ⟨Bn, 0, none⟩)] W fun e W' => (∃ v, e = .returned v) ∧
      ((∃ xs, xs = cornersL p0 p1 p2 p3 q0 q1 q2 q3 ∧ J xs W') ∨ (∃ pre, pre <+: cornersL p0 p1 p2 p3 q0 q1 q2 q3 ∧ Jx pre W')) := by
  have c0 := hb 0 (by omega); have c1 := hb 1 (by omega); have c2 := hb 2 (by omega); have c3 := hb 3 (by omega)
  have c4 := hb 4 (by omega); have c5 := hb 5 (by omega); have c6 := hb 6 (by omega); have c7 := hb 7 (by omega)
  clear hb
  simp [cornersL] at c0 c1 c2 c3 c4 c5 c6 c7
  refine callsIn_of_wp Try.func76 rfl hF ?_ hro
  simp only [Try.ntmps76, List.size_toArray, List.length_cons, List.length_nil, Nat.reduceAdd, Nat.reduceSub, Array.replicate_succ, Array.replicate_zero, List.push_toArray, List.append_toArray, List.nil_append, List.cons_append]
  gi_wp2
  gi_loopw [8] (fun s wr => ∃ i : Nat, i ≤ 2 ∧ s = .int .i64 i ∧ J ((cornersL p0 p1 p2 p3 q0 q1 q2 q3).take (4 * i)) wr ∧ W.heap.size ≤ wr.heap.size) (fun s _ => 2 - (intOf s).toNat)
  case atStart => exact ⟨0, by omega, rfl, h0, Nat.le_refl _⟩
  case round =>
    obtain ⟨i, hi, rfl, hJs, hsz⟩ := hrel
    by_cases hlt : i < 2
    · have ii := rings_at p0 p1 p2 p3 q0 q1 q2 q3 i hlt
      have hd : decide ((i : Int) < 2) = true := by simp; omega
      gi_wp2
      gi_loopw [12] (fun s wr => ∃ j : Nat, j ≤ 4 ∧ s = .int .i64 j ∧ J ((cornersL p0 p1 p2 p3 q0 q1 q2 q3).take (4 * i + j)) wr ∧ W.heap.size ≤ wr.heap.size) (fun s _ => 4 - (intOf s).toNat)
      case atStart => exact ⟨0, by omega, rfl, hJ _ _ _ none hJs (World.grownBy_alloc _ _ none) (fun r e => by cases e), by simp; omega⟩
      case round =>
        obtain ⟨j, hj, rfl, hJs2, hsz2⟩ := hrel
        by_cases hlt2 : j < 4
        · have ij := pl_at (ch i p0 q0) (ch i p1 q1) (ch i p2 q2) (ch i p3 q3) j hlt2
          obtain ⟨v, hv⟩ : ∃ v, nth4 (ch i p0 q0) (ch i p1 q1) (ch i p2 q2) (ch i p3 q3) j = v := ⟨_, rfl⟩
          rw [hv] at ij
          have HV := Go.Lib.hid hv
          clear hv
          have hJa := hJ _ _ _ none hJs2 (World.grownBy_alloc wr (.cells #[.int .i64 v.x, .int .i64 v.y] 42) none) (fun r e => by cases e)
          obtain ⟨fn, tmps, assign, body, hy, hR⟩ := hY _ v _ hJa (by simp [cornersL]; omega)
          dsimp only [Pl.enc] at hy
          have hlen := Go.Lib.hid (take_corners p0 p1 p2 p3 q0 q1 q2 q3 i j hlt hlt2)
          clear hJs hJs2 hJa
          gi_wp2
          refine hR.mono ?_
          rintro e W3 (⟨rfl, hJ3, hk3⟩ | ⟨rfl, hJx3⟩)
          · gi_wp2
            go_roundw
            case rel => exact ⟨j + 1, by omega, by simp, by rw [hlen.out, HV.out]; exact hJ3, by have := hk3.size; simp at this; omega⟩
            case measure => simp [intOf]; omega
          · gi_wp2
            refine bodyPost_ret (results_none rfl _ _ _) rfl ?_
            exact ⟨⟨_, rfl⟩, .inr ⟨_, by rw [← HV.out, ← hlen.out]; exact List.take_prefix _ _, hJx3⟩⟩
        · obtain rfl : j = 4 := by omega
          gi_wp2
          go_roundw
          case rel => exact ⟨i + 1, by omega, by simp, hJs2, hsz2⟩
          case measure => simp [intOf]; omega
    · obtain rfl : i = 2 := by omega
      gi_wp2
      go_end0
      exact ⟨⟨_, rfl⟩, .inl ⟨_, rfl, hJs⟩⟩
end Go.Proofs.Ytagfhekjmkdjkaa

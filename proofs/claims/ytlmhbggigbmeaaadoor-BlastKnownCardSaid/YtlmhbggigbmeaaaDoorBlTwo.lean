/- The region 'l, s := LayersOf(r), StoneOf(r, k, f)' of two laws: what holds between its operations, and what it leaves. Written by gen_two.py. No condition. -/
import Derived.Test.YtlmhbggigbmeaaaDoorBlLy
import Derived.Test.YtlmhbggigbmeaaaDoorBlStone
import Derived.Test.YtlmhbggigbmeaaaDoorBlV1G
namespace Go.Proofs.YtlmhbggigbmeaaaDoor
open Go.RowKit Go.Shelf
theorem grown_setRow (W : World) (g : Nat) (cs : Array Value) : W.grownBy (W.setRow g cs) (some g) := by
  have k : Below 0 W (W.setRow g cs) := below_setRow (Below.refl _ _) (Nat.zero_le _) cs
  exact ⟨k.os, k.tape, k.output, k.size, fun B _ hn => setRow_other W g B cs (fun e => hn (by rw [e]))⟩
theorem size_setRow' (W : World) (g : Nat) (cs : Array Value) : (W.setRow g cs).heap.size = W.heap.size := by simp [World.setRow]
theorem belowX_row {b n g : Nat} {w W : World} (h : BelowX b n w W) (hg : n ≤ g) (cs : Array Value) : BelowX b n w (W.setRow g cs) := by
  have k : Below 0 W (W.setRow g cs) := below_setRow (Below.refl _ _) (Nat.zero_le _) cs
  exact ⟨k.os.trans h.os, k.tape.trans h.tape, k.output.trans h.output, Nat.le_trans h.size k.size, fun B hB hb => (setRow_other W g B cs (by omega)).trans (h.block B hB hb)⟩
theorem list9 {α : Type} {l : List α} (h : l.length = 9) : ∃ b0 b1 b2 b3 b4 b5 b6 b7 b8, l = [b0, b1, b2, b3, b4, b5, b6, b7, b8] := by
  match l, h with
  | [b0, b1, b2, b3, b4, b5, b6, b7, b8], _ => exact ⟨_, _, _, _, _, _, _, _, _, rfl⟩
def ordDeps : List (List Nat) := [[], [0], [], [], [], [2, 3, 4, 1], [], [1, 5], [6, 5, 7]]
def ordInv (b m : Nat) (k : RockR) (f : FallR) (a0 : Act) (X : World) (l : List Bool) (fr : Act) (W : World) : Prop :=
  ∃ s12 s13 s36 s37 s38 s39 s40 s41 : Value, fr = sets a0 [(12, s12), (13, s13), (36, s36), (37, s37), (38, s38), (39, s39), (40, s40), (41, s41)] ∧ BelowX b X.heap.size X W ∧
    (RingM W b (m + (20 * (l.getD 1 false).toNat + 14 * (l.getD 5 false).toNat))) ∧
    (l.getD 7 false = true → l.getD 1 false = true ∧ l.getD 5 false = true) ∧
    (l.getD 8 false = true → l.getD 6 false = true) ∧
    (l.getD 0 false = true → s36 = .pointer (some ⟨b, 0, none⟩)) ∧
    (l.getD 1 false = true → ∃ (lv : Value) (ls : List V2), s37 = lv ∧ LaysOk ls ∧ W.ownsRow X.heap.size 90 2 lv ls.length (vrows ls)) ∧
    (l.getD 2 false = true → s38 = .pointer (some ⟨b, 0, none⟩)) ∧
    (l.getD 3 false = true → s39 = .agg #[.int .i64 k.size.x, .int .i64 k.size.y, .int .i64 k.dens.x, .int .i64 k.dens.y, .int .i64 k.strong.x, .int .i64 k.strong.y, .int .i64 k.spin.x, .int .i64 k.spin.y, .int .i64 k.shape.x, .int .i64 k.shape.y, .bool k.pile]) ∧
    (l.getD 4 false = true → s40 = .agg #[.int .i64 f.speed.x, .int .i64 f.speed.y, .int .i64 f.slope.x, .int .i64 f.slope.y]) ∧
    (l.getD 5 false = true → ∃ s : StoneR, StoneIn s k f ∧ s41 = .agg s.vals) ∧
    (l.getD 6 false = true → ∃ g : Nat, s13 = .pointer (some ⟨g, 0, none⟩) ∧ X.heap.size ≤ g ∧ g < W.heap.size ∧ (l.getD 8 false = false → W.heap[g]? = some (.cells #[.int .i64 0, .int .i64 0, .int .i64 0, .int .i64 0, .int .i64 0, .bool false, .int .i64 0, .int .i64 0] 57 (0, 0))) ∧ (l.getD 8 false = true → ∃ s : StoneR, StoneIn s k f ∧ W.heap[g]? = some (.cells s.vals 57 (0, 0)))) ∧
    (l.getD 7 false = true → s12 = s37)
def ordTold (b m : Nat) (k : RockR) (f : FallR) : Act → World → Act → World → Prop := fun a X a' W => ∃ (g : Nat) (lv : Value) (ls : List V2) (s : StoneR), LaysOk ls ∧ StoneIn s k f ∧ a' = sets a [(12, lv), (13, .pointer (some ⟨g, 0, none⟩)), (36, a'.tmps.getD 36 undef), (37, a'.tmps.getD 37 undef), (38, a'.tmps.getD 38 undef), (39, a'.tmps.getD 39 undef), (40, a'.tmps.getD 40 undef), (41, a'.tmps.getD 41 undef)] ∧ X.heap.size ≤ g ∧ BelowX b X.heap.size X W ∧ RingM W b (m + 34) ∧ W.ownsRow X.heap.size 90 2 lv ls.length (vrows ls) ∧ W.heap[g]? = some (.cells s.vals 57 (0, 0))
def solDeps : List (List Nat) := [[], [0], [], [], [], [2, 3, 4, 1], [], [1, 5], [6, 5, 7]]
def solInv (b m : Nat) (k : RockR) (f : FallR) (a0 : Act) (X : World) (l : List Bool) (fr : Act) (W : World) : Prop :=
  ∃ s6 s7 s20 s21 s22 s23 s24 s25 : Value, fr = sets a0 [(6, s6), (7, s7), (20, s20), (21, s21), (22, s22), (23, s23), (24, s24), (25, s25)] ∧ BelowX b X.heap.size X W ∧
    (RingM W b (m + (20 * (l.getD 1 false).toNat + 14 * (l.getD 5 false).toNat))) ∧
    (l.getD 7 false = true → l.getD 1 false = true ∧ l.getD 5 false = true) ∧
    (l.getD 8 false = true → l.getD 6 false = true) ∧
    (l.getD 0 false = true → s20 = .pointer (some ⟨b, 0, none⟩)) ∧
    (l.getD 1 false = true → ∃ (lv : Value) (ls : List V2), s21 = lv ∧ LaysOk ls ∧ W.ownsRow X.heap.size 90 2 lv ls.length (vrows ls)) ∧
    (l.getD 2 false = true → s22 = .pointer (some ⟨b, 0, none⟩)) ∧
    (l.getD 3 false = true → s23 = .agg #[.int .i64 k.size.x, .int .i64 k.size.y, .int .i64 k.dens.x, .int .i64 k.dens.y, .int .i64 k.strong.x, .int .i64 k.strong.y, .int .i64 k.spin.x, .int .i64 k.spin.y, .int .i64 k.shape.x, .int .i64 k.shape.y, .bool k.pile]) ∧
    (l.getD 4 false = true → s24 = .agg #[.int .i64 f.speed.x, .int .i64 f.speed.y, .int .i64 f.slope.x, .int .i64 f.slope.y]) ∧
    (l.getD 5 false = true → ∃ s : StoneR, StoneIn s k f ∧ s25 = .agg s.vals) ∧
    (l.getD 6 false = true → ∃ g : Nat, s7 = .pointer (some ⟨g, 0, none⟩) ∧ X.heap.size ≤ g ∧ g < W.heap.size ∧ (l.getD 8 false = false → W.heap[g]? = some (.cells #[.int .i64 0, .int .i64 0, .int .i64 0, .int .i64 0, .int .i64 0, .bool false, .int .i64 0, .int .i64 0] 57 (0, 0))) ∧ (l.getD 8 false = true → ∃ s : StoneR, StoneIn s k f ∧ W.heap[g]? = some (.cells s.vals 57 (0, 0)))) ∧
    (l.getD 7 false = true → s6 = s21)
def solTold (b m : Nat) (k : RockR) (f : FallR) : Act → World → Act → World → Prop := fun a X a' W => ∃ (g : Nat) (lv : Value) (ls : List V2) (s : StoneR), LaysOk ls ∧ StoneIn s k f ∧ a' = sets a [(6, lv), (7, .pointer (some ⟨g, 0, none⟩)), (20, a'.tmps.getD 20 undef), (21, a'.tmps.getD 21 undef), (22, a'.tmps.getD 22 undef), (23, a'.tmps.getD 23 undef), (24, a'.tmps.getD 24 undef), (25, a'.tmps.getD 25 undef)] ∧ X.heap.size ≤ g ∧ BelowX b X.heap.size X W ∧ RingM W b (m + 34) ∧ W.ownsRow X.heap.size 90 2 lv ls.length (vrows ls) ∧ W.heap[g]? = some (.cells s.vals 57 (0, 0))
end Go.Proofs.YtlmhbggigbmeaaaDoor

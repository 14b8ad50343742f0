/- A box of eight cells that is written whole: what is in it then, and what stays. No condition. -/
import Derived.Test.YtpiacndnjehbiaaDoorBlOr
namespace Go.Proofs.YtpiacndnjehbiaaDoor
open Go.RowKit Go.Shelf
section
variable {W : World} {B : Nat} {u0 u1 u2 u3 u4 u5 u6 u7 : Value}
def set8 (W : World) (B : Nat) (u0 u1 u2 u3 u4 u5 u6 u7 : Value) : World := (((((((W.setCell ⟨B, 0, none⟩ u0).setCell ⟨B, 1, none⟩ u1).setCell ⟨B, 2, none⟩ u2).setCell ⟨B, 3, none⟩ u3).setCell ⟨B, 4, none⟩ u4).setCell ⟨B, 5, none⟩ u5).setCell ⟨B, 6, none⟩ u6).setCell ⟨B, 7, none⟩ u7
theorem set8_heap {cs : Array Value} {T : TypeId} {f : Nat × Nat} (h : W.heap[B]? = some (.cells cs T f)) (hs : cs.size = 8) : (set8 W B u0 u1 u2 u3 u4 u5 u6 u7).heap[B]? = some (.cells #[u0, u1, u2, u3, u4, u5, u6, u7] T f) := by
  unfold set8
  rw [heap_setCell (heap_setCell (heap_setCell (heap_setCell (heap_setCell (heap_setCell (heap_setCell (heap_setCell h u0) u1) u2) u3) u4) u5) u6) u7]
  refine congrArg some (congrArg (fun c => Obj.cells c T f) (Array.ext' ?_))
  simp only [Array.toList_setIfInBounds]
  obtain ⟨l⟩ := cs
  match l, hs with
  | [a, b, c, d, e, f, g, h], _ => rfl
theorem set8_other {k : Nat} (hk : k ≠ B) : (set8 W B u0 u1 u2 u3 u4 u5 u6 u7).heap[k]? = W.heap[k]? := by
  unfold set8
  rw [heap_setCell_ne hk, heap_setCell_ne hk, heap_setCell_ne hk, heap_setCell_ne hk, heap_setCell_ne hk, heap_setCell_ne hk, heap_setCell_ne hk, heap_setCell_ne hk]
theorem set8_below {n : Nat} {w : World} (h : Below n w W) (hn : n ≤ B) : Below n w (set8 W B u0 u1 u2 u3 u4 u5 u6 u7) := by
  unfold set8
  exact (((((((h.setCell hn _).setCell hn _).setCell hn _).setCell hn _).setCell hn _).setCell hn _).setCell hn _).setCell hn _
theorem set8_lim (h : LimAt W) (hB : 0 < B) : LimAt (set8 W B u0 u1 u2 u3 u4 u5 u6 u7) := by
  unfold set8
  exact (((((((h.set hB _).set hB _).set hB _).set hB _).set hB _).set hB _).set hB _).set hB _
theorem set8_size : (set8 W B u0 u1 u2 u3 u4 u5 u6 u7).heap.size = W.heap.size := by
  unfold set8; simp
end
end Go.Proofs.YtpiacndnjehbiaaDoor

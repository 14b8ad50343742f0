/- Regions that draw their order and take of a ring: what is kept but for the ring's block and the rows that are written. No condition. -/
import Derived.Test.YtpiacndnjehbiaaDoorBlK
import Derived.Test.YtpiacndnjehbiaaDoorPair
import Derived.Test.YtpiacndnjehbiaaDoorFree
import Derived.Test.YtpiacndnjehbiaaDoorCutB
import Derived.RegionTactic
namespace Go.Proofs.YtpiacndnjehbiaaDoor
open Go.RowKit Go.Shelf
/-- All blocks but the ring's and those from lo to hi stand as they did. -/
structure KeptX (b lo hi : Nat) (w w' : World) : Prop where
  os : w'.os = w.os
  tape : w'.tape = w.tape
  output : w'.output = w.output
  size : w.heap.size ≤ w'.heap.size
  block : ∀ B, B < w.heap.size → B ≠ b → ¬ (lo ≤ B ∧ B < hi) → w'.heap[B]? = w.heap[B]?
section
variable {b lo hi n m g : Nat} {w X W : World}
theorem KeptX.of (h : BelowX b X.heap.size X W) : KeptX b lo hi X W := ⟨h.os, h.tape, h.output, h.size, fun B hB hb _ => h.block B hB hb⟩
theorem KeptX.start : KeptX b lo hi X X.drew := KeptX.of (BelowX.refl _ _ _).drew
theorem KeptX.rext (h : KeptX b lo hi X W) (y : RExt W b) : KeptX b lo hi X y.now :=
  ⟨y.grew.os.trans h.os, y.grew.tape.trans h.tape, y.grew.output.trans h.output, Nat.le_trans h.size y.size, fun B hB hb hn => (y.grew.block B (Nat.lt_of_lt_of_le hB h.size) hb).trans (h.block B hB hb hn)⟩
theorem KeptX.row (h : KeptX b lo hi X W) (h1 : lo ≤ g) (h2 : g < hi) (cs : Array Value) : KeptX b lo hi X (W.setRow g cs) := by
  have k : Below 0 W (W.setRow g cs) := below_setRow (Below.refl _ _) (Nat.zero_le _) cs
  exact ⟨k.os.trans h.os, k.tape.trans h.tape, k.output.trans h.output, Nat.le_trans h.size k.size, fun B hB hb hn => (setRow_other W g B cs (by omega)).trans (h.block B hB hb hn)⟩
theorem KeptX.alloc (h : KeptX b lo hi X W) (o : Obj) : KeptX b lo hi X (W.alloc o) := by
  have k := (Below.refl W.heap.size W).alloc (Nat.le_refl _) o
  exact ⟨k.os.trans h.os, k.tape.trans h.tape, k.output.trans h.output, Nat.le_trans h.size k.size, fun B hB hb hn => (k.block B (Nat.lt_of_lt_of_le hB h.size)).trans (h.block B hB hb hn)⟩
theorem KeptX.ext (h : KeptX b lo hi X W) (y : Ext W) : KeptX b lo hi X y.now :=
  ⟨y.grew.os.trans h.os, y.grew.tape.trans h.tape, y.grew.output.trans h.output, Nat.le_trans h.size y.size, fun B hB hb hn => (y.grew.block B (Nat.lt_of_lt_of_le hB h.size)).trans (h.block B hB hb hn)⟩
theorem KeptX.cell (h : KeptX b lo hi X W) {B o : Nat} (hB : B < X.heap.size) (hb : B ≠ b) (hn : ¬ (lo ≤ B ∧ B < hi)) : W.cell? ⟨B, o, none⟩ = X.cell? ⟨B, o, none⟩ := World.cell?_of_block (a := ⟨B, o, none⟩) (h.block B hB hb hn)
theorem KeptX.belowX (h : KeptX b lo hi X W) (k : BelowX b n w X) (hn : n ≤ lo) (hX : n ≤ X.heap.size) : BelowX b n w W :=
  ⟨h.os.trans k.os, h.tape.trans k.tape, h.output.trans k.output, Nat.le_trans k.size h.size, fun B hB hb => (h.block B (by omega) hb (by omega)).trans (k.block B hB hb)⟩
theorem RingM.row (h : RingM W b m) (hg : b < g) (cs : Array Value) : RingM (W.setRow g cs) b m := by
  obtain ⟨p, len, cap, z, k, h, hk⟩ := h
  have hs : ∀ B, B ≤ b → (W.setRow g cs).heap[B]? = W.heap[B]? := fun B hB => setRow_other W g B cs (by omega)
  refine ⟨p, len, cap, z, k, ⟨?_, ?_, ?_, h.long, fun h0 => ?_⟩, hk⟩
  · exact (World.cell?_of_block (a := ⟨b, 0, none⟩) (hs b (Nat.le_refl _))).trans h.list
  · exact (World.cell?_of_block (a := ⟨b, 1, none⟩) (hs b (Nat.le_refl _))).trans h.count
  · exact (World.frozen?_of_block (a := ⟨b, 1, none⟩) (hs b (Nat.le_refl _))).trans h.free
  · obtain ⟨B, o, hp, hB, hi⟩ := h.some h0
    exact ⟨B, o, hp, hB, fun i hi' => ⟨(World.cell?_of_block (a := ⟨B, o + i, none⟩) (hs B (by omega))).trans (hi i hi').1, (hi i hi').2⟩⟩
theorem RExt.row {B : Nat} {v : Option Obj} (y : RExt W b) (h : W.heap[B]? = v) (hB : B < W.heap.size) (hb : B ≠ b) : y.now.heap[B]? = v := (y.grew.block B hB hb).trans h
end
theorem wpOp_open {P : Program} {ops : Array Oper} {Q : Exit → Act → World → Prop} {i : Nat} {o : Oper} {K : Act → World → Prop} {a : Act} {w : World} (ho : ops[i]? = some o) (hg : o.guard = none) (h : ∀ K' : Act → World → Prop, (∀ a w, K a w → K' a w) → Oper.wp P o a w K' Q) : wpOp P ops Q i K a w :=
  wpOp_step ho fun K' hK => by
    unfold Region.wanted
    rw [hg]
    exact h K' hK
theorem row_lt {W : World} {g : Nat} {o : Obj} (h : W.heap[g]? = some o) : g < W.heap.size := (Array.getElem?_eq_some_iff.1 h).1
end Go.Proofs.YtpiacndnjehbiaaDoor

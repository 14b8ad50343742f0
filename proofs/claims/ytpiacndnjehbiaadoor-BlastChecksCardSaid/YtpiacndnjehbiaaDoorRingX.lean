/- A ring whose numbers are not told: contracts of what it hands out, by bounds alone. Condition: the ring's block is as NewRing made it. -/
import Derived.Test.YtpiacndnjehbiaaDoorRingN
import Derived.Test.YtpiacndnjehbiaaDoorOwns
import Derived.Test.YtpiacndnjehbiaaDoorSkyM
namespace Go.Proofs.YtpiacndnjehbiaaDoor
open Go.RowKit Go.Shelf
attribute [local go_sem] Ext.cell Ext.frozen Ext.lt Ext.le Ext.lt_add Ext.le_add Ext.ne Ext.ne' lt2 lt3 lt4 lt5 le2 le3 le4
attribute [local go_sem] RExt.cell RExt.frozen RExt.lt RExt.le RExt.lt_add RExt.le_add RExt.ne RExt.ne'
/-- A ring in block b that has handed out at most m numbers. -/
def RingM (w : World) (b m : Nat) : Prop := ∃ p len cap z k, RingAt w b p len cap z k ∧ k ≤ m
theorem RingM.lt {w : World} {b m : Nat} (h : RingM w b m) : b < w.heap.size := by obtain ⟨p, len, cap, z, k, h, _⟩ := h; exact h.lt
theorem RingM.alloc {w : World} {b m : Nat} (h : RingM w b m) (o : Obj) : RingM (w.alloc o) b m := by obtain ⟨p, len, cap, z, k, h, hk⟩ := h; exact ⟨p, len, cap, z, k, h.alloc o, hk⟩
theorem RingM.drew {w : World} {b m : Nat} (h : RingM w b m) : RingM w.drew b m := by obtain ⟨p, len, cap, z, k, h, hk⟩ := h; exact ⟨p, len, cap, z, k, h.drew, hk⟩
theorem RingM.ext {w : World} {b m : Nat} (h : RingM w b m) (x : Ext w) : RingM x.now b m := by obtain ⟨p, len, cap, z, k, h, hk⟩ := h; exact ⟨p, len, cap, z, k, h.ext x, hk⟩
theorem RingM.on {w w' : World} {b m : Nat} (h : RingM w b m) (y : Below w.heap.size w w') : RingM w' b m := h.ext ⟨w', y⟩
theorem RingM.set {w : World} {b m : Nat} (h : RingM w b m) {B o : Nat} (v : Value) (hB : b < B) : RingM (w.setCell ⟨B, o, none⟩ v) b m := by obtain ⟨p, len, cap, z, k, h, hk⟩ := h; exact ⟨p, len, cap, z, k, h.set v hB, hk⟩
theorem RingM.mono {w : World} {b m m' : Nat} (h : RingM w b m) (hm : m ≤ m') : RingM w b m' := by obtain ⟨p, len, cap, z, k, h, hk⟩ := h; exact ⟨p, len, cap, z, k, h, by omega⟩
/-- A write to a row that a call made behind the ring. -/
theorem RingM.grown {w w' : World} {b m base : Nat} {e : TypeId} {size n : Nat} {v : Value} {xs : List Value} (h : RingM w b m) (hown : w.ownsRow base e size v n xs) (hb : b < base) (hg : w.grownBy w' v.ownBlock) : RingM w' b m := by
  obtain ⟨p, len, cap, z, k, h, hk⟩ := h
  have hl := h.lt
  have hs : ∀ B, B ≤ b → w'.heap[B]? = w.heap[B]? := fun B hB => hg.block B (by omega) (fun e => by have := hown.lt B e.symm; omega)
  refine ⟨p, len, cap, z, k, ⟨?_, ?_, ?_, h.long, fun h0 => ?_⟩, hk⟩
  · exact (World.cell?_of_block (a := ⟨b, 0, none⟩) (hs b (Nat.le_refl _))).trans h.list
  · exact (World.cell?_of_block (a := ⟨b, 1, none⟩) (hs b (Nat.le_refl _))).trans h.count
  · exact (World.frozen?_of_block (a := ⟨b, 1, none⟩) (hs b (Nat.le_refl _))).trans h.free
  · obtain ⟨B, o, hp, hB, hi⟩ := h.some h0
    exact ⟨B, o, hp, hB, fun i hi' => ⟨(World.cell?_of_block (a := ⟨B, o + i, none⟩) (hs B (by omega))).trans (hi i hi').1, (hi i hi').2⟩⟩
theorem Next_y (n : Int) (b m : Nat) (w : World) (hm : m < 1000000000) (hn : 0 < n) (hn2 : n < 9223372036854775808) (h : RingM w b m) :
    Calls Tryd.prog 40 #[.pointer (some ⟨b, 0, none⟩), .int .i64 n] w (fun e w' => ∃ (y : RExt w b) (v : Int), e = .returned (.int .i64 v) ∧ (0 ≤ v ∧ v < n) ∧ w' = y.now ∧ RingM y.now b (m + 1)) := by
  obtain ⟨p, len, cap, z, k, h, hk⟩ := h
  refine (Next_r n b p len cap z k w (by omega) hn hn2 h).mono ?_
  rintro e w' ⟨rfl, hb, hr⟩
  exact ⟨⟨w', hb⟩, _, rfl, ⟨Int.emod_nonneg _ (by omega), Int.emod_lt_of_pos _ hn⟩, rfl, p, len, cap, z, k + 1, hr, by omega⟩
theorem owns_belowX {w w' : World} {base : Nat} {e : TypeId} {size : Nat} {v : Value} {n b : Nat} {xs : List Value} (h : w.ownsRow base e size v n xs) (hb : b < base) (y : BelowX b w.heap.size w w') : w'.ownsRow base e size v n xs := by
  refine ⟨h.1, ?_⟩
  rcases h.2 with h2 | ⟨g, cap, cur, rfl, hg, hgg, rest⟩
  · exact .inl h2
  · exact .inr ⟨g, cap, cur, rfl, hg, (y.block g (Array.getElem?_eq_some_iff.1 hgg).1 (by omega)).trans hgg, rest⟩
theorem belowX_grown {w w' w0 : World} {base : Nat} {e : TypeId} {size : Nat} {v : Value} {n b B : Nat} {xs : List Value} (h : BelowX b B w0 w) (hown : w.ownsRow base e size v n xs) (hb : B ≤ base) (hBw : B ≤ w.heap.size) (hg : w.grownBy w' v.ownBlock) : BelowX b B w0 w' :=
  ⟨hg.os.trans h.os, hg.tape.trans h.tape, hg.output.trans h.output, Nat.le_trans h.size hg.size, fun k hk hkb => (hg.block k (by omega) (fun e => by have := hown.lt k e.symm; omega)).trans (h.block k hk hkb)⟩
end Go.Proofs.YtpiacndnjehbiaaDoor

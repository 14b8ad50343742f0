/- A ring whose numbers are not told: contracts of what it hands out, by bounds alone. Condition: the ring's block is as NewRing made it. -/
import Derived.Test.YtgoilmiiegpnoaaRingN
import Derived.Test.YtgoilmiiegpnoaaOwns
import Derived.Test.YtgoilmiiegpnoaaSkyM
namespace Go.Proofs.Ytgoilmiiegpnoaa
open Go.RowKit Go.Shelf
attribute [local go_sem] Ext.cell Ext.frozen Ext.lt Ext.le Ext.lt_add Ext.le_add Ext.ne Ext.ne' lt2 lt3 lt4 lt5 le2 le3 le4
attribute [local go_sem] RExt.cell RExt.frozen RExt.lt RExt.le RExt.lt_add RExt.le_add RExt.ne RExt.ne'
/-- A ring in block b that has handed out at most m numbers. -/
def RingM (w : World) (b m : Nat) : Prop := ∃ p len cap z k, RingAt w b p len cap z k ∧ k ≤ m
theorem RingM.lt {w : World} {b m : Nat} (h : RingM w b m) : b < w.heap.size := by obtain ⟨p, len, cap, z, k, h, _⟩ := h; exact h.lt
theorem RingM.alloc {w : World} {b m : Nat} (h : RingM w b m) (o : Obj) : RingM (w.alloc o) b m := by obtain ⟨p, len, cap, z, k, h, hk⟩ := h; exact ⟨p, len, cap, z, k, h.alloc o, hk⟩
theorem RingM.drew {w : World} {b m : Nat} (h : RingM w b m) : RingM w.drew b m := by obtain ⟨p, len, cap, z, k, h, hk⟩ := h; exact ⟨p, len, cap, z, k, h.drew, hk⟩
theorem RingM.ext {w : World} {b m : Nat} (h : RingM w b m) (x : Ext w) : RingM x.now b m := by obtain ⟨p, len, cap, z, k, h, hk⟩ := h; exact ⟨p, len, cap, z, k, h.ext x, hk⟩
theorem RingM.on {w w' : World} {b m : Nat} (h : RingM w b m) (y : Below w.heap.size w w') : RingM w' b m := h.ext ⟨w', y⟩
theorem RingM.set {w : World} {b m : Nat} (h : RingM w b m) {B o : Nat} (v : Value) (hB : b < B) : RingM (w.setCell ⟨B, o, none⟩ v) b m := by obtain ⟨p, len, cap, z, k, h, hk⟩ := h; exact ⟨p, len, cap, z, k, h.set v hB, hk⟩
theorem RingM.mono {w : World} {b m m' : Nat} (h : RingM w b m) (hm : m ≤ m') : RingM w b m' := by obtain ⟨p, len, cap, z, k, h, hk⟩ := h; exact ⟨p, len, cap, z, k, h, by omega⟩
/-- A write to a row that a call made behind the ring. -/
theorem RingM.grown {w w' : World} {b m base : Nat} {e : TypeId} {size n : Nat} {v : Value} {xs : List Value} (h : RingM w b m) (hown : w.ownsRow base e size v n xs) (hb : b < base) (hg : w.grownBy w' v.ownBlock) : RingM w' b m := by
  obtain ⟨p, len, cap, z, k, h, hk⟩ := h
  have hl := h.lt
  have hs : ∀ B, B ≤ b → w'.heap[B]? = w.heap[B]? := fun B hB => hg.block B (by omega) (fun e => by have := hown.lt B e.symm; omega)
  refine ⟨p, len, cap, z, k, ⟨?_, ?_, ?_, h.long, fun h0 => ?_⟩, hk⟩
  · exact (World.cell?_of_block (a := ⟨b, 0, none⟩) (hs b (Nat.le_refl _))).trans h.list
  · exact (World.cell?_of_block (a := ⟨b, 1, none⟩) (hs b (Nat.le_refl _))).trans h.count
  · exact (World.frozen?_of_block (a := ⟨b, 1, none⟩) (hs b (Nat.le_refl _))).trans h.free
  · obtain ⟨B, o, hp, hB, hi⟩ := h.some h0
    exact ⟨B, o, hp, hB, fun i hi' => ⟨(World.cell?_of_block (a := ⟨B, o + i, none⟩) (hs B (by omega))).trans (hi i hi').1, (hi i hi').2⟩⟩
theorem Next_y (n : Int) (b m : Nat) (w : World) (hm : m < 1000000000) (hn : 0 < n) (hn2 : n < 9223372036854775808) (h : RingM w b m) :
    Calls Try.prog 22 #[.pointer (some ⟨b, 0, none⟩), .int .i64 n] w (fun e w' => ∃ (y : RExt w b) (v : Int), e = .returned (.int .i64 v) ∧ (0 ≤ v ∧ v < n) ∧ w' = y.now ∧ RingM y.now b (m + 1)) := by
  obtain ⟨p, len, cap, z, k, h, hk⟩ := h
  refine (Next_r n b p len cap z k w (by omega) hn hn2 h).mono ?_
  rintro e w' ⟨rfl, hb, hr⟩
  exact ⟨⟨w', hb⟩, _, rfl, ⟨Int.emod_nonneg _ (by omega), Int.emod_lt_of_pos _ hn⟩, rfl, p, len, cap, z, k + 1, hr, by omega⟩
theorem owns_belowX {w w' : World} {base : Nat} {e : TypeId} {size : Nat} {v : Value} {n b : Nat} {xs : List Value} (h : w.ownsRow base e size v n xs) (hb : b < base) (y : BelowX b w.heap.size w w') : w'.ownsRow base e size v n xs := by
  refine ⟨h.1, ?_⟩
  rcases h.2 with h2 | ⟨g, cap, cur, rfl, hg, hgg, rest⟩
  · exact .inl h2
  · exact .inr ⟨g, cap, cur, rfl, hg, (y.block g (Array.getElem?_eq_some_iff.1 hgg).1 (by omega)).trans hgg, rest⟩
theorem belowX_grown {w w' w0 : World} {base : Nat} {e : TypeId} {size : Nat} {v : Value} {n b B : Nat} {xs : List Value} (h : BelowX b B w0 w) (hown : w.ownsRow base e size v n xs) (hb : B ≤ base) (hBw : B ≤ w.heap.size) (hg : w.grownBy w' v.ownBlock) : BelowX b B w0 w' :=
  ⟨hg.os.trans h.os, hg.tape.trans h.tape, hg.output.trans h.output, Nat.le_trans h.size hg.size, fun k hk hkb => (hg.block k (by omega) (fun e => by have := hown.lt k e.symm; omega)).trans (h.block k hk hkb)⟩
theorem PointOf_y (n : Int) (b m : Nat) (w : World) (hm : m < 100000000) (hn : 0 ≤ n) (hn2 : n ≤ 1000000000) (h : RingM w b m) :
    Calls Try.prog 43 #[.pointer (some ⟨b, 0, none⟩), .int .i64 n] w (fun e w' => ∃ (y : RExt w b) (v : V2), e = .returned (.agg #[.int .i64 v.x, .int .i64 v.y]) ∧ ((-n ≤ v.x ∧ v.x ≤ n) ∧ -n ≤ v.y ∧ v.y ≤ n) ∧ w' = y.now ∧ RingM y.now b (m + 2)) := by
  have hl := h.lt
  have hne : w.heap.size ≠ b := by omega
  go_enter Try.func43, Try.ntmps43
  go_wp2_with (first | ((first | with_reducible refine wp_region_ext2 (by kernel_rfl) (by kernel_rfl) ?_ | with_reducible refine wp_region_ext (by kernel_rfl) (by kernel_rfl) ?_); (repeat (first | go_big_quiet_step ((first | fail)) | quiet_step ((first | fail)))); refine wpQuiet_nil ?_; rintro _ ⟨yr, rfl⟩; have syr := Ext.size yr; (repeat (first | rw [World.size_alloc] at syr | rw [World.size_setCell] at syr | rw [World.size_drew] at syr)); have : b < yr.now.heap.size := (by omega); have : b ≤ yr.now.heap.size := (by omega); have : b < yr.now.heap.size + 1 + 1 := (by omega); have : w.heap.size < yr.now.heap.size := (by omega); have : w.heap.size ≤ yr.now.heap.size := (by omega); have : w.heap.size < yr.now.heap.size + 1 + 1 := (by omega)) | (go_at_call 22; (with_reducible refine Calls.mono (Next_y (2 * n + 1) b m _ (by omega) (by omega) (by omega) ?_) ?_); (focus ((repeat (first | (with_reducible assumption) | (with_reducible refine RingM.alloc ?_ _) | (with_reducible refine RingM.drew ?_) | (with_reducible refine RingM.ext ?_ _) | (with_reducible refine RingM.set ?_ _ (by omega)))); done)); (rintro _ _ ⟨yx1, vx1, rfl, hvx1, rfl, rgx1⟩); have syx1 := RExt.size yx1; (repeat (first | rw [World.size_alloc] at syx1 | rw [World.size_setCell] at syx1 | rw [World.size_drew] at syx1)); have : b < yx1.now.heap.size := (by omega); have : b ≤ yx1.now.heap.size := (by omega); have : b < yx1.now.heap.size + 1 + 1 := (by omega); have : w.heap.size < yx1.now.heap.size := (by omega); have : w.heap.size ≤ yx1.now.heap.size := (by omega); have : w.heap.size < yx1.now.heap.size + 1 + 1 := (by omega)) | (go_at_call 22; (with_reducible refine Calls.mono (Next_y (2 * n + 1) b (m + 1) _ (by omega) (by omega) (by omega) ?_) ?_); (focus ((repeat (first | (with_reducible assumption) | (with_reducible refine RingM.alloc ?_ _) | (with_reducible refine RingM.drew ?_) | (with_reducible refine RingM.ext ?_ _) | (with_reducible refine RingM.set ?_ _ (by omega)))); done)); (rintro _ _ ⟨yx2, vx2, rfl, hvx2, rfl, rgx2⟩); have syx2 := RExt.size yx2; (repeat (first | rw [World.size_alloc] at syx2 | rw [World.size_setCell] at syx2 | rw [World.size_drew] at syx2)); have : b < yx2.now.heap.size := (by omega); have : b ≤ yx2.now.heap.size := (by omega); have : b < yx2.now.heap.size + 1 + 1 := (by omega); have : w.heap.size < yx2.now.heap.size := (by omega); have : w.heap.size ≤ yx2.now.heap.size := (by omega); have : w.heap.size < yx2.now.heap.size + 1 + 1 := (by omega)))
  have l : ∀ o, yx2.now.cell? ⟨w.heap.size, o, none⟩ = (w.alloc (.cells #[.int .i64 0, .int .i64 0] 45)).cell? ⟨w.heap.size, o, none⟩ := fun o => by
    rw [yx2.cell (by omega) hne, yx1.cell (by simp) hne]
  have l0 : yx2.now.cell? ⟨w.heap.size, 0, none⟩ = some (.int .i64 0) := by rw [l]; simp [go_sem]
  have l1 : yx2.now.cell? ⟨w.heap.size, 1, none⟩ = some (.int .i64 0) := by rw [l]; simp [go_sem]
  refine bodyPost_ret (v := .agg #[.int .i64 (vx1 - n), .int .i64 (vx2 - n)]) (by simp [results, Try.results43, go_sem, l0, l1]) rfl ?_
  refine ⟨⟨(yx2.now.setCell ⟨w.heap.size, 0, none⟩ (.int .i64 (vx1 - n))).setCell ⟨w.heap.size, 1, none⟩ (.int .i64 (vx2 - n)), ?_⟩, ⟨vx1 - n, vx2 - n⟩, rfl, ⟨⟨by simp only; omega, by simp only; omega⟩, by simp only; omega, by simp only; omega⟩, rfl, (rgx2.set _ (by omega)).set _ (by omega)⟩
  repeat' (first | (with_reducible exact BelowX.refl _ _ _) | (with_reducible assumption) | (with_reducible refine RExt.belowX _ ?_ ?_) | (with_reducible refine Ext.belowX _ ?_ ?_) | (with_reducible refine BelowX.alloc ?_ ?_ _) | (with_reducible refine BelowX.drew ?_) | (with_reducible refine BelowX.setCell ?_ ?_ _) | (with_reducible exact Nat.le_refl _) | omega | (simp; done) | (simp [go_sem]; done) | (simp at *; omega))
end Go.Proofs.Ytgoilmiiegpnoaa

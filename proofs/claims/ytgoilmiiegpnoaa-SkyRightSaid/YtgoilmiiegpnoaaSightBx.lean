/- The box of a sight that is being made. No condition. -/
import Derived.Test.YtgoilmiiegpnoaaRingX
namespace Go.Proofs.Ytgoilmiiegpnoaa
open Go.RowKit Go.Shelf
structure SightBox (W : World) (B : Nat) (v0 v1 v2 v3 v4 v5 v6 v7 v8 : Int) : Prop where
  c0 : W.cell? ⟨B, 0, none⟩ = some (.int .i64 v0)
  c1 : W.cell? ⟨B, 1, none⟩ = some (.int .i64 v1)
  c2 : W.cell? ⟨B, 2, none⟩ = some (.int .i64 v2)
  c3 : W.cell? ⟨B, 3, none⟩ = some (.int .i64 v3)
  c4 : W.cell? ⟨B, 4, none⟩ = some (.int .i64 v4)
  c5 : W.cell? ⟨B, 5, none⟩ = some (.int .i64 v5)
  c6 : W.cell? ⟨B, 6, none⟩ = some (.int .i64 v6)
  c7 : W.cell? ⟨B, 7, none⟩ = some (.int .i64 v7)
  c8 : W.cell? ⟨B, 8, none⟩ = some (.int .i64 v8)
  f0 : W.frozen? ⟨B, 0, none⟩ = false
  f1 : W.frozen? ⟨B, 1, none⟩ = false
  f2 : W.frozen? ⟨B, 2, none⟩ = false
  f3 : W.frozen? ⟨B, 3, none⟩ = false
  f4 : W.frozen? ⟨B, 4, none⟩ = false
  f5 : W.frozen? ⟨B, 5, none⟩ = false
  f6 : W.frozen? ⟨B, 6, none⟩ = false
  f7 : W.frozen? ⟨B, 7, none⟩ = false
  f8 : W.frozen? ⟨B, 8, none⟩ = false
  lt : B < W.heap.size
theorem SightBox.keep {W : World} {B : Nat} {v0 v1 v2 v3 v4 v5 v6 v7 v8 : Int} (h : SightBox W B v0 v1 v2 v3 v4 v5 v6 v7 v8) {W' : World} (hc : ∀ o, W'.cell? ⟨B, o, none⟩ = W.cell? ⟨B, o, none⟩) (hf : ∀ o, W'.frozen? ⟨B, o, none⟩ = W.frozen? ⟨B, o, none⟩) (hs : W.heap.size ≤ W'.heap.size) : SightBox W' B v0 v1 v2 v3 v4 v5 v6 v7 v8 :=
  ⟨(hc 0).trans h.c0, (hc 1).trans h.c1, (hc 2).trans h.c2, (hc 3).trans h.c3, (hc 4).trans h.c4, (hc 5).trans h.c5, (hc 6).trans h.c6, (hc 7).trans h.c7, (hc 8).trans h.c8, (hf 0).trans h.f0, (hf 1).trans h.f1, (hf 2).trans h.f2, (hf 3).trans h.f3, (hf 4).trans h.f4, (hf 5).trans h.f5, (hf 6).trans h.f6, (hf 7).trans h.f7, (hf 8).trans h.f8, Nat.lt_of_lt_of_le h.lt hs⟩
theorem SightBox.rext {W : World} {B : Nat} {v0 v1 v2 v3 v4 v5 v6 v7 v8 : Int} (h : SightBox W B v0 v1 v2 v3 v4 v5 v6 v7 v8) {b : Nat} (hb : B ≠ b) (x : RExt W b) : SightBox x.now B v0 v1 v2 v3 v4 v5 v6 v7 v8 := h.keep (fun _ => x.cell h.lt hb) (fun _ => x.frozen h.lt hb) x.size
theorem SightBox.ext {W : World} {B : Nat} {v0 v1 v2 v3 v4 v5 v6 v7 v8 : Int} (h : SightBox W B v0 v1 v2 v3 v4 v5 v6 v7 v8) (x : Ext W) : SightBox x.now B v0 v1 v2 v3 v4 v5 v6 v7 v8 := h.keep (fun _ => x.cell h.lt) (fun _ => x.frozen h.lt) x.size
theorem SightBox.alloc {W : World} {B : Nat} {v0 v1 v2 v3 v4 v5 v6 v7 v8 : Int} (h : SightBox W B v0 v1 v2 v3 v4 v5 v6 v7 v8) (o : Obj) : SightBox (W.alloc o) B v0 v1 v2 v3 v4 v5 v6 v7 v8 := h.ext ⟨W.alloc o, (Below.refl _ _).alloc (Nat.le_refl _) _⟩
theorem SightBox.drew {W : World} {B : Nat} {v0 v1 v2 v3 v4 v5 v6 v7 v8 : Int} (h : SightBox W B v0 v1 v2 v3 v4 v5 v6 v7 v8) : SightBox W.drew B v0 v1 v2 v3 v4 v5 v6 v7 v8 := h.ext ⟨W.drew, (Below.refl _ _).drew⟩
theorem SightBox.new (W : World) (T : TypeId) : SightBox (W.alloc (.cells #[.int .i64 0, .int .i64 0, .int .i64 0, .int .i64 0, .int .i64 0, .int .i64 0, .int .i64 0, .int .i64 0, .int .i64 0] T)) W.heap.size 0 0 0 0 0 0 0 0 0 := by
  constructor <;> simp [go_sem]
theorem SightBox.new' (W : World) (T : TypeId) {B : Nat} (hB : B = W.heap.size) : SightBox (W.alloc (.cells #[.int .i64 0, .int .i64 0, .int .i64 0, .int .i64 0, .int .i64 0, .int .i64 0, .int .i64 0, .int .i64 0, .int .i64 0] T)) B 0 0 0 0 0 0 0 0 0 := hB ▸ SightBox.new W T
theorem SightBox.set0 {W : World} {B : Nat} {v0 v1 v2 v3 v4 v5 v6 v7 v8 : Int} (h : SightBox W B v0 v1 v2 v3 v4 v5 v6 v7 v8) (u : Int) : SightBox (W.setCell ⟨B, 0, none⟩ (.int .i64 u)) B u v1 v2 v3 v4 v5 v6 v7 v8 := by
  obtain ⟨c0, c1, c2, c3, c4, c5, c6, c7, c8, f0, f1, f2, f3, f4, f5, f6, f7, f8, lt⟩ := h
  exact ⟨by simp [go_sem, *], by simp [go_sem, *], by simp [go_sem, *], by simp [go_sem, *], by simp [go_sem, *], by simp [go_sem, *], by simp [go_sem, *], by simp [go_sem, *], by simp [go_sem, *], by simp [go_sem, *], by simp [go_sem, *], by simp [go_sem, *], by simp [go_sem, *], by simp [go_sem, *], by simp [go_sem, *], by simp [go_sem, *], by simp [go_sem, *], by simp [go_sem, *], by simpa using lt⟩
theorem SightBox.set1 {W : World} {B : Nat} {v0 v1 v2 v3 v4 v5 v6 v7 v8 : Int} (h : SightBox W B v0 v1 v2 v3 v4 v5 v6 v7 v8) (u : Int) : SightBox (W.setCell ⟨B, 1, none⟩ (.int .i64 u)) B v0 u v2 v3 v4 v5 v6 v7 v8 := by
  obtain ⟨c0, c1, c2, c3, c4, c5, c6, c7, c8, f0, f1, f2, f3, f4, f5, f6, f7, f8, lt⟩ := h
  exact ⟨by simp [go_sem, *], by simp [go_sem, *], by simp [go_sem, *], by simp [go_sem, *], by simp [go_sem, *], by simp [go_sem, *], by simp [go_sem, *], by simp [go_sem, *], by simp [go_sem, *], by simp [go_sem, *], by simp [go_sem, *], by simp [go_sem, *], by simp [go_sem, *], by simp [go_sem, *], by simp [go_sem, *], by simp [go_sem, *], by simp [go_sem, *], by simp [go_sem, *], by simpa using lt⟩
theorem SightBox.set2 {W : World} {B : Nat} {v0 v1 v2 v3 v4 v5 v6 v7 v8 : Int} (h : SightBox W B v0 v1 v2 v3 v4 v5 v6 v7 v8) (u : Int) : SightBox (W.setCell ⟨B, 2, none⟩ (.int .i64 u)) B v0 v1 u v3 v4 v5 v6 v7 v8 := by
  obtain ⟨c0, c1, c2, c3, c4, c5, c6, c7, c8, f0, f1, f2, f3, f4, f5, f6, f7, f8, lt⟩ := h
  exact ⟨by simp [go_sem, *], by simp [go_sem, *], by simp [go_sem, *], by simp [go_sem, *], by simp [go_sem, *], by simp [go_sem, *], by simp [go_sem, *], by simp [go_sem, *], by simp [go_sem, *], by simp [go_sem, *], by simp [go_sem, *], by simp [go_sem, *], by simp [go_sem, *], by simp [go_sem, *], by simp [go_sem, *], by simp [go_sem, *], by simp [go_sem, *], by simp [go_sem, *], by simpa using lt⟩
theorem SightBox.set3 {W : World} {B : Nat} {v0 v1 v2 v3 v4 v5 v6 v7 v8 : Int} (h : SightBox W B v0 v1 v2 v3 v4 v5 v6 v7 v8) (u : Int) : SightBox (W.setCell ⟨B, 3, none⟩ (.int .i64 u)) B v0 v1 v2 u v4 v5 v6 v7 v8 := by
  obtain ⟨c0, c1, c2, c3, c4, c5, c6, c7, c8, f0, f1, f2, f3, f4, f5, f6, f7, f8, lt⟩ := h
  exact ⟨by simp [go_sem, *], by simp [go_sem, *], by simp [go_sem, *], by simp [go_sem, *], by simp [go_sem, *], by simp [go_sem, *], by simp [go_sem, *], by simp [go_sem, *], by simp [go_sem, *], by simp [go_sem, *], by simp [go_sem, *], by simp [go_sem, *], by simp [go_sem, *], by simp [go_sem, *], by simp [go_sem, *], by simp [go_sem, *], by simp [go_sem, *], by simp [go_sem, *], by simpa using lt⟩
theorem SightBox.set4 {W : World} {B : Nat} {v0 v1 v2 v3 v4 v5 v6 v7 v8 : Int} (h : SightBox W B v0 v1 v2 v3 v4 v5 v6 v7 v8) (u : Int) : SightBox (W.setCell ⟨B, 4, none⟩ (.int .i64 u)) B v0 v1 v2 v3 u v5 v6 v7 v8 := by
  obtain ⟨c0, c1, c2, c3, c4, c5, c6, c7, c8, f0, f1, f2, f3, f4, f5, f6, f7, f8, lt⟩ := h
  exact ⟨by simp [go_sem, *], by simp [go_sem, *], by simp [go_sem, *], by simp [go_sem, *], by simp [go_sem, *], by simp [go_sem, *], by simp [go_sem, *], by simp [go_sem, *], by simp [go_sem, *], by simp [go_sem, *], by simp [go_sem, *], by simp [go_sem, *], by simp [go_sem, *], by simp [go_sem, *], by simp [go_sem, *], by simp [go_sem, *], by simp [go_sem, *], by simp [go_sem, *], by simpa using lt⟩
theorem SightBox.set5 {W : World} {B : Nat} {v0 v1 v2 v3 v4 v5 v6 v7 v8 : Int} (h : SightBox W B v0 v1 v2 v3 v4 v5 v6 v7 v8) (u : Int) : SightBox (W.setCell ⟨B, 5, none⟩ (.int .i64 u)) B v0 v1 v2 v3 v4 u v6 v7 v8 := by
  obtain ⟨c0, c1, c2, c3, c4, c5, c6, c7, c8, f0, f1, f2, f3, f4, f5, f6, f7, f8, lt⟩ := h
  exact ⟨by simp [go_sem, *], by simp [go_sem, *], by simp [go_sem, *], by simp [go_sem, *], by simp [go_sem, *], by simp [go_sem, *], by simp [go_sem, *], by simp [go_sem, *], by simp [go_sem, *], by simp [go_sem, *], by simp [go_sem, *], by simp [go_sem, *], by simp [go_sem, *], by simp [go_sem, *], by simp [go_sem, *], by simp [go_sem, *], by simp [go_sem, *], by simp [go_sem, *], by simpa using lt⟩
theorem SightBox.set6 {W : World} {B : Nat} {v0 v1 v2 v3 v4 v5 v6 v7 v8 : Int} (h : SightBox W B v0 v1 v2 v3 v4 v5 v6 v7 v8) (u : Int) : SightBox (W.setCell ⟨B, 6, none⟩ (.int .i64 u)) B v0 v1 v2 v3 v4 v5 u v7 v8 := by
  obtain ⟨c0, c1, c2, c3, c4, c5, c6, c7, c8, f0, f1, f2, f3, f4, f5, f6, f7, f8, lt⟩ := h
  exact ⟨by simp [go_sem, *], by simp [go_sem, *], by simp [go_sem, *], by simp [go_sem, *], by simp [go_sem, *], by simp [go_sem, *], by simp [go_sem, *], by simp [go_sem, *], by simp [go_sem, *], by simp [go_sem, *], by simp [go_sem, *], by simp [go_sem, *], by simp [go_sem, *], by simp [go_sem, *], by simp [go_sem, *], by simp [go_sem, *], by simp [go_sem, *], by simp [go_sem, *], by simpa using lt⟩
theorem SightBox.set7 {W : World} {B : Nat} {v0 v1 v2 v3 v4 v5 v6 v7 v8 : Int} (h : SightBox W B v0 v1 v2 v3 v4 v5 v6 v7 v8) (u : Int) : SightBox (W.setCell ⟨B, 7, none⟩ (.int .i64 u)) B v0 v1 v2 v3 v4 v5 v6 u v8 := by
  obtain ⟨c0, c1, c2, c3, c4, c5, c6, c7, c8, f0, f1, f2, f3, f4, f5, f6, f7, f8, lt⟩ := h
  exact ⟨by simp [go_sem, *], by simp [go_sem, *], by simp [go_sem, *], by simp [go_sem, *], by simp [go_sem, *], by simp [go_sem, *], by simp [go_sem, *], by simp [go_sem, *], by simp [go_sem, *], by simp [go_sem, *], by simp [go_sem, *], by simp [go_sem, *], by simp [go_sem, *], by simp [go_sem, *], by simp [go_sem, *], by simp [go_sem, *], by simp [go_sem, *], by simp [go_sem, *], by simpa using lt⟩
theorem SightBox.set8 {W : World} {B : Nat} {v0 v1 v2 v3 v4 v5 v6 v7 v8 : Int} (h : SightBox W B v0 v1 v2 v3 v4 v5 v6 v7 v8) (u : Int) : SightBox (W.setCell ⟨B, 8, none⟩ (.int .i64 u)) B v0 v1 v2 v3 v4 v5 v6 v7 u := by
  obtain ⟨c0, c1, c2, c3, c4, c5, c6, c7, c8, f0, f1, f2, f3, f4, f5, f6, f7, f8, lt⟩ := h
  exact ⟨by simp [go_sem, *], by simp [go_sem, *], by simp [go_sem, *], by simp [go_sem, *], by simp [go_sem, *], by simp [go_sem, *], by simp [go_sem, *], by simp [go_sem, *], by simp [go_sem, *], by simp [go_sem, *], by simp [go_sem, *], by simp [go_sem, *], by simp [go_sem, *], by simp [go_sem, *], by simp [go_sem, *], by simp [go_sem, *], by simp [go_sem, *], by simp [go_sem, *], by simpa using lt⟩
theorem SightBox.store {W : World} {B : Nat} {v0 v1 v2 v3 v4 v5 v6 v7 v8 : Int} (h : SightBox W B v0 v1 v2 v3 v4 v5 v6 v7 v8) (u0 u1 u2 u3 u4 u5 u6 u7 u8 : Int) : SightBox (((((((((W.setCell ⟨B, 0, none⟩ (.int .i64 u0)).setCell ⟨B, 1, none⟩ (.int .i64 u1)).setCell ⟨B, 2, none⟩ (.int .i64 u2)).setCell ⟨B, 3, none⟩ (.int .i64 u3)).setCell ⟨B, 4, none⟩ (.int .i64 u4)).setCell ⟨B, 5, none⟩ (.int .i64 u5)).setCell ⟨B, 6, none⟩ (.int .i64 u6)).setCell ⟨B, 7, none⟩ (.int .i64 u7)).setCell ⟨B, 8, none⟩ (.int .i64 u8)) B u0 u1 u2 u3 u4 u5 u6 u7 u8 :=
  (((((((((h.set0 u0).set1 u1).set2 u2).set3 u3).set4 u4).set5 u5).set6 u6).set7 u7).set8 u8)
end Go.Proofs.Ytgoilmiiegpnoaa

/- Of of the program: whether a stone is one of a rock with a fall. Written by gen_of.py. Condition: the table of limits stands as it was laid. Rows of three stones, of three rocks, of three falls, each row in one block. Written by gen_three.py. No condition. Rows of layers that a call has made. No condition. -/
import Derived.Test.YtfjieblihbnmjaaDoorFreeAG
import Derived.Test.YtfjieblihbnmjaaDoorBlE
import Derived.Test.YtfjieblihbnmjaaDoorRingXG
import Derived.OwnWalk
namespace Go.Proofs.YtfjieblihbnmjaaDoor
open Go.RowKit Go.Shelf
attribute [local go_sem] Option.isSome_some Ext.cell Ext.frozen Ext.lt Ext.le Ext.lt_add Ext.le_add Ext.ne Ext.ne' lt2 lt3 lt4 lt5 le2 le3 le4
theorem rows7 {W : World} {B : Nat} (k : RockR) (f : FallR) (h0 : W.cell? ⟨B, 0, none⟩ = some (.int .i64 k.size.x)) (h1 : W.cell? ⟨B, 1, none⟩ = some (.int .i64 k.size.y)) (h2 : W.cell? ⟨B, 2, none⟩ = some (.int .i64 k.dens.x)) (h3 : W.cell? ⟨B, 3, none⟩ = some (.int .i64 k.dens.y)) (h4 : W.cell? ⟨B, 4, none⟩ = some (.int .i64 k.strong.x)) (h5 : W.cell? ⟨B, 5, none⟩ = some (.int .i64 k.strong.y)) (h6 : W.cell? ⟨B, 6, none⟩ = some (.int .i64 k.spin.x)) (h7 : W.cell? ⟨B, 7, none⟩ = some (.int .i64 k.spin.y)) (h8 : W.cell? ⟨B, 8, none⟩ = some (.int .i64 k.shape.x)) (h9 : W.cell? ⟨B, 9, none⟩ = some (.int .i64 k.shape.y)) (h10 : W.cell? ⟨B, 10, none⟩ = some (.int .i64 f.speed.x)) (h11 : W.cell? ⟨B, 11, none⟩ = some (.int .i64 f.speed.y)) (h12 : W.cell? ⟨B, 12, none⟩ = some (.int .i64 f.slope.x)) (h13 : W.cell? ⟨B, 13, none⟩ = some (.int .i64 f.slope.y)) : ∀ (i : Nat) (h : i < (spansL k f).length), W.cell? ⟨B, i * 2, none⟩ = some (.int .i64 (spansL k f)[i].x) ∧ W.cell? ⟨B, i * 2 + 1, none⟩ = some (.int .i64 (spansL k f)[i].y) := by
  intro i hi
  have hi7 : i < 7 := hi
  rcases (show i = 0 ∨ i = 1 ∨ i = 2 ∨ i = 3 ∨ i = 4 ∨ i = 5 ∨ i = 6 by omega) with rfl | rfl | rfl | rfl | rfl | rfl | rfl
  · exact ⟨h0, h1⟩
  · exact ⟨h2, h3⟩
  · exact ⟨h4, h5⟩
  · exact ⟨h6, h7⟩
  · exact ⟨h8, h9⟩
  · exact ⟨h10, h11⟩
  · exact ⟨h12, h13⟩
end Go.Proofs.YtfjieblihbnmjaaDoor
namespace Go.Proofs.YtfjieblihbnmjaaDoor
open Go.RowKit Go.Shelf
def stones3At (W : World) (G : Nat) (l : List StoneR) : Prop := G < W.heap.size ∧ ∀ i (h : i < l.length), W.cell? ⟨G, i * 8, none⟩ = some (.int .i64 l[i].size) ∧ W.cell? ⟨G, i * 8 + 1, none⟩ = some (.int .i64 l[i].dens) ∧ W.cell? ⟨G, i * 8 + 2, none⟩ = some (.int .i64 l[i].strong) ∧ W.cell? ⟨G, i * 8 + 3, none⟩ = some (.int .i64 l[i].spin) ∧ W.cell? ⟨G, i * 8 + 4, none⟩ = some (.int .i64 l[i].shape) ∧ W.cell? ⟨G, i * 8 + 5, none⟩ = some (.bool l[i].pile) ∧ W.cell? ⟨G, i * 8 + 6, none⟩ = some (.int .i64 l[i].speed) ∧ W.cell? ⟨G, i * 8 + 7, none⟩ = some (.int .i64 l[i].slope)
theorem stones3_row {W : World} {G : Nat} {T : TypeId} (a b c : StoneR) (h : W.heap[G]? = some (.cells #[.int .i64 a.size, .int .i64 a.dens, .int .i64 a.strong, .int .i64 a.spin, .int .i64 a.shape, .bool a.pile, .int .i64 a.speed, .int .i64 a.slope, .int .i64 b.size, .int .i64 b.dens, .int .i64 b.strong, .int .i64 b.spin, .int .i64 b.shape, .bool b.pile, .int .i64 b.speed, .int .i64 b.slope, .int .i64 c.size, .int .i64 c.dens, .int .i64 c.strong, .int .i64 c.spin, .int .i64 c.shape, .bool c.pile, .int .i64 c.speed, .int .i64 c.slope] T (0, 0))) : stones3At W G [a, b, c] := by
  refine ⟨row_lt h, fun i hi => ?_⟩
  have hi3 : i < 3 := hi
  rcases (show i = 0 ∨ i = 1 ∨ i = 2 by omega) with rfl | rfl | rfl
  all_goals exact ⟨(cell_of_row W _ _ _ _ _ h).trans rfl, (cell_of_row W _ _ _ _ _ h).trans rfl, (cell_of_row W _ _ _ _ _ h).trans rfl, (cell_of_row W _ _ _ _ _ h).trans rfl, (cell_of_row W _ _ _ _ _ h).trans rfl, (cell_of_row W _ _ _ _ _ h).trans rfl, (cell_of_row W _ _ _ _ _ h).trans rfl, (cell_of_row W _ _ _ _ _ h).trans rfl⟩
theorem stones3At.on {W W' : World} {G : Nat} {l : List StoneR} (h : stones3At W G l) (b : Below W.heap.size W W') : stones3At W' G l := ⟨Nat.lt_of_lt_of_le h.1 b.size, fun i hi => by
  obtain ⟨h0, h1, h2, h3, h4, h5, h6, h7⟩ := h.2 i hi
  exact ⟨(b.cell (p := ⟨G, i * 8, none⟩) h.1).trans h0, (b.cell (p := ⟨G, i * 8 + 1, none⟩) h.1).trans h1, (b.cell (p := ⟨G, i * 8 + 2, none⟩) h.1).trans h2, (b.cell (p := ⟨G, i * 8 + 3, none⟩) h.1).trans h3, (b.cell (p := ⟨G, i * 8 + 4, none⟩) h.1).trans h4, (b.cell (p := ⟨G, i * 8 + 5, none⟩) h.1).trans h5, (b.cell (p := ⟨G, i * 8 + 6, none⟩) h.1).trans h6, (b.cell (p := ⟨G, i * 8 + 7, none⟩) h.1).trans h7⟩⟩
def rocks3At (W : World) (G : Nat) (l : List RockR) : Prop := G < W.heap.size ∧ ∀ i (h : i < l.length), W.cell? ⟨G, i * 11, none⟩ = some (.int .i64 l[i].size.x) ∧ W.cell? ⟨G, i * 11 + 1, none⟩ = some (.int .i64 l[i].size.y) ∧ W.cell? ⟨G, i * 11 + 2, none⟩ = some (.int .i64 l[i].dens.x) ∧ W.cell? ⟨G, i * 11 + 3, none⟩ = some (.int .i64 l[i].dens.y) ∧ W.cell? ⟨G, i * 11 + 4, none⟩ = some (.int .i64 l[i].strong.x) ∧ W.cell? ⟨G, i * 11 + 5, none⟩ = some (.int .i64 l[i].strong.y) ∧ W.cell? ⟨G, i * 11 + 6, none⟩ = some (.int .i64 l[i].spin.x) ∧ W.cell? ⟨G, i * 11 + 7, none⟩ = some (.int .i64 l[i].spin.y) ∧ W.cell? ⟨G, i * 11 + 8, none⟩ = some (.int .i64 l[i].shape.x) ∧ W.cell? ⟨G, i * 11 + 9, none⟩ = some (.int .i64 l[i].shape.y) ∧ W.cell? ⟨G, i * 11 + 10, none⟩ = some (.bool l[i].pile)
theorem rocks3_row {W : World} {G : Nat} {T : TypeId} (a b c : RockR) (h : W.heap[G]? = some (.cells #[.int .i64 a.size.x, .int .i64 a.size.y, .int .i64 a.dens.x, .int .i64 a.dens.y, .int .i64 a.strong.x, .int .i64 a.strong.y, .int .i64 a.spin.x, .int .i64 a.spin.y, .int .i64 a.shape.x, .int .i64 a.shape.y, .bool a.pile, .int .i64 b.size.x, .int .i64 b.size.y, .int .i64 b.dens.x, .int .i64 b.dens.y, .int .i64 b.strong.x, .int .i64 b.strong.y, .int .i64 b.spin.x, .int .i64 b.spin.y, .int .i64 b.shape.x, .int .i64 b.shape.y, .bool b.pile, .int .i64 c.size.x, .int .i64 c.size.y, .int .i64 c.dens.x, .int .i64 c.dens.y, .int .i64 c.strong.x, .int .i64 c.strong.y, .int .i64 c.spin.x, .int .i64 c.spin.y, .int .i64 c.shape.x, .int .i64 c.shape.y, .bool c.pile] T (0, 0))) : rocks3At W G [a, b, c] := by
  refine ⟨row_lt h, fun i hi => ?_⟩
  have hi3 : i < 3 := hi
  rcases (show i = 0 ∨ i = 1 ∨ i = 2 by omega) with rfl | rfl | rfl
  all_goals exact ⟨(cell_of_row W _ _ _ _ _ h).trans rfl, (cell_of_row W _ _ _ _ _ h).trans rfl, (cell_of_row W _ _ _ _ _ h).trans rfl, (cell_of_row W _ _ _ _ _ h).trans rfl, (cell_of_row W _ _ _ _ _ h).trans rfl, (cell_of_row W _ _ _ _ _ h).trans rfl, (cell_of_row W _ _ _ _ _ h).trans rfl, (cell_of_row W _ _ _ _ _ h).trans rfl, (cell_of_row W _ _ _ _ _ h).trans rfl, (cell_of_row W _ _ _ _ _ h).trans rfl, (cell_of_row W _ _ _ _ _ h).trans rfl⟩
theorem rocks3At.on {W W' : World} {G : Nat} {l : List RockR} (h : rocks3At W G l) (b : Below W.heap.size W W') : rocks3At W' G l := ⟨Nat.lt_of_lt_of_le h.1 b.size, fun i hi => by
  obtain ⟨h0, h1, h2, h3, h4, h5, h6, h7, h8, h9, h10⟩ := h.2 i hi
  exact ⟨(b.cell (p := ⟨G, i * 11, none⟩) h.1).trans h0, (b.cell (p := ⟨G, i * 11 + 1, none⟩) h.1).trans h1, (b.cell (p := ⟨G, i * 11 + 2, none⟩) h.1).trans h2, (b.cell (p := ⟨G, i * 11 + 3, none⟩) h.1).trans h3, (b.cell (p := ⟨G, i * 11 + 4, none⟩) h.1).trans h4, (b.cell (p := ⟨G, i * 11 + 5, none⟩) h.1).trans h5, (b.cell (p := ⟨G, i * 11 + 6, none⟩) h.1).trans h6, (b.cell (p := ⟨G, i * 11 + 7, none⟩) h.1).trans h7, (b.cell (p := ⟨G, i * 11 + 8, none⟩) h.1).trans h8, (b.cell (p := ⟨G, i * 11 + 9, none⟩) h.1).trans h9, (b.cell (p := ⟨G, i * 11 + 10, none⟩) h.1).trans h10⟩⟩
def falls3At (W : World) (G : Nat) (l : List FallR) : Prop := G < W.heap.size ∧ ∀ i (h : i < l.length), W.cell? ⟨G, i * 4, none⟩ = some (.int .i64 l[i].speed.x) ∧ W.cell? ⟨G, i * 4 + 1, none⟩ = some (.int .i64 l[i].speed.y) ∧ W.cell? ⟨G, i * 4 + 2, none⟩ = some (.int .i64 l[i].slope.x) ∧ W.cell? ⟨G, i * 4 + 3, none⟩ = some (.int .i64 l[i].slope.y)
theorem falls3_row {W : World} {G : Nat} {T : TypeId} (a b c : FallR) (h : W.heap[G]? = some (.cells #[.int .i64 a.speed.x, .int .i64 a.speed.y, .int .i64 a.slope.x, .int .i64 a.slope.y, .int .i64 b.speed.x, .int .i64 b.speed.y, .int .i64 b.slope.x, .int .i64 b.slope.y, .int .i64 c.speed.x, .int .i64 c.speed.y, .int .i64 c.slope.x, .int .i64 c.slope.y] T (0, 0))) : falls3At W G [a, b, c] := by
  refine ⟨row_lt h, fun i hi => ?_⟩
  have hi3 : i < 3 := hi
  rcases (show i = 0 ∨ i = 1 ∨ i = 2 by omega) with rfl | rfl | rfl
  all_goals exact ⟨(cell_of_row W _ _ _ _ _ h).trans rfl, (cell_of_row W _ _ _ _ _ h).trans rfl, (cell_of_row W _ _ _ _ _ h).trans rfl, (cell_of_row W _ _ _ _ _ h).trans rfl⟩
theorem falls3At.on {W W' : World} {G : Nat} {l : List FallR} (h : falls3At W G l) (b : Below W.heap.size W W') : falls3At W' G l := ⟨Nat.lt_of_lt_of_le h.1 b.size, fun i hi => by
  obtain ⟨h0, h1, h2, h3⟩ := h.2 i hi
  exact ⟨(b.cell (p := ⟨G, i * 4, none⟩) h.1).trans h0, (b.cell (p := ⟨G, i * 4 + 1, none⟩) h.1).trans h1, (b.cell (p := ⟨G, i * 4 + 2, none⟩) h.1).trans h2, (b.cell (p := ⟨G, i * 4 + 3, none⟩) h.1).trans h3⟩⟩
end Go.Proofs.YtfjieblihbnmjaaDoor
namespace Go.Proofs.YtfjieblihbnmjaaDoor
open Go.RowKit Go.Shelf
def vrows (l : List V2) : List Value := l.flatMap fun v => [.int .i64 v.x, .int .i64 v.y]
theorem vrows_add (l : List V2) (v : V2) : vrows (l ++ [v]) = vrows l ++ [.int .i64 v.x, .int .i64 v.y] := by unfold vrows; rw [List.flatMap_append]; simp
theorem vrows_length (l : List V2) : (vrows l).length = l.length * 2 := by
  unfold vrows; induction l with
  | nil => rfl
  | cons k l ih => rw [List.flatMap_cons, List.length_append, ih, List.length_cons]; simp; omega
theorem flat_get {α : Type} (f : α → List Value) (k : Nat) (hk : ∀ a, (f a).length = k) : ∀ (l : List α) j (hj : j < l.length) i u, (f l[j])[i]? = some u → (l.flatMap f)[j * k + i]? = some u := by
  intro l
  induction l with
  | nil => intro j hj; simp at hj
  | cons a l ih =>
    intro j hj i u h
    rw [List.flatMap_cons]
    cases j with
    | zero =>
      have hi : i < (f a).length := (List.getElem?_eq_some_iff.1 h).1
      rw [Nat.zero_mul, Nat.zero_add, List.getElem?_append_left hi]; exact h
    | succ j =>
      have h1 := ih j (by simpa using hj) i u h
      rw [List.getElem?_append_right (by rw [hk, Nat.succ_mul]; omega), hk]
      rw [show (j + 1) * k + i - k = j * k + i by rw [Nat.succ_mul]; omega]
      exact h1
theorem owns_at {α : Type} (f : α → List Value) (k : Nat) (hk : ∀ a, (f a).length = k) {w : World} {base : Nat} {e : TypeId} {v : Value} (l : List α) (h : w.ownsRow base e k v l.length (l.flatMap f)) :
    ∃ p c, v = .slice p l.length c ∧ ∀ j (hj : j < l.length), ∃ B o, p = some ⟨B, o, none⟩ ∧ base ≤ B ∧ B < w.heap.size ∧ ∀ i u, (f l[j])[i]? = some u → w.cell? ⟨B, o + j * k + i, none⟩ = some u := by
  rcases owns_slice h with ⟨rfl, h0⟩ | ⟨g, c, rfl, hb, hg, hc⟩
  · exact ⟨none, 0, by rw [h0], fun j hj => by omega⟩
  · exact ⟨_, c, rfl, fun j hj => ⟨g, 0, rfl, hb, hg, fun i u hu => by rw [Nat.zero_add]; exact hc _ u (flat_get f k hk l j hj i u hu)⟩⟩
theorem cells2_new (w : World) (v0 v1 : Value) (T : TypeId) : ∀ j u, [v0, v1][j]? = some u → (w.alloc (.cells #[v0, v1] T)).cell? ((⟨w.heap.size, 0, none⟩ : Addr).add j) = some u := by
  intro j u hj
  have hl : j < 2 := by simpa using (List.getElem?_eq_some_iff.1 hj).1
  have hadd : (⟨w.heap.size, 0, none⟩ : Addr).add j = ⟨w.heap.size, j, none⟩ := by unfold Addr.add; split <;> simp_all
  rw [hadd]
  rcases (show j = 0 ∨ j = 1 by omega) with rfl | rfl <;> (simp at hj; subst hj; simp [go_sem])
theorem layer_info : (Tryd.prog.info? 85).map (fun i => (i.zero, i.size, i.bytes)) = some (some (.agg #[.int .i64 0, .int .i64 0]), 2, 16) := by kernel_rfl
theorem vecs_of {W : World} {base : Nat} {e : TypeId} {v : Value} {l : List V2} (h : W.ownsRow base e 2 v l.length (vrows l)) : ∃ p c, v = .slice p l.length c ∧ VecsAt W p l ∧ ∀ A o, l.length ≠ 0 → p = some ⟨A, o, none⟩ → base ≤ A := by
  obtain ⟨p, c, rfl, hc⟩ := owns_at (fun v : V2 => [.int .i64 v.x, .int .i64 v.y]) 2 (fun _ => rfl) l h
  refine ⟨p, c, rfl, fun j hj => ?_, fun A o h0 hp => ?_⟩
  · obtain ⟨B, o, hp, hb, hB, hv⟩ := hc j hj
    exact ⟨B, o, hp, hB, hv 0 _ rfl, hv 1 _ rfl⟩
  · obtain ⟨B, q, hp2, hb, -⟩ := hc 0 (by omega)
    rw [hp] at hp2
    injection hp2 with hp2
    injection hp2 with h1 h2
    omega
end Go.Proofs.YtfjieblihbnmjaaDoor

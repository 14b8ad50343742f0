/- Rows of layers that a call has made. No condition. -/
import Derived.Test.YtpiacndnjehbiaaDoorBlE
import Derived.Test.YtpiacndnjehbiaaDoorOwns
import Derived.OwnWalk
namespace Go.Proofs.YtpiacndnjehbiaaDoor
open Go.RowKit Go.Shelf
def vrows (l : List V2) : List Value := l.flatMap fun v => [.int .i64 v.x, .int .i64 v.y]
theorem vrows_add (l : List V2) (v : V2) : vrows (l ++ [v]) = vrows l ++ [.int .i64 v.x, .int .i64 v.y] := by unfold vrows; rw [List.flatMap_append]; simp
theorem vrows_length (l : List V2) : (vrows l).length = l.length * 2 := by
  unfold vrows; induction l with
  | nil => rfl
  | cons k l ih => rw [List.flatMap_cons, List.length_append, ih, List.length_cons]; simp; omega
theorem flat_get {α : Type} (f : α → List Value) (k : Nat) (hk : ∀ a, (f a).length = k) : ∀ (l : List α) j (hj : j < l.length) i u, (f l[j])[i]? = some u → (l.flatMap f)[j * k + i]? = some u := by
  intro l
  induction l with
  | nil => intro j hj; simp at hj
  | cons a l ih =>
    intro j hj i u h
    rw [List.flatMap_cons]
    cases j with
    | zero =>
      have hi : i < (f a).length := (List.getElem?_eq_some_iff.1 h).1
      rw [Nat.zero_mul, Nat.zero_add, List.getElem?_append_left hi]; exact h
    | succ j =>
      have h1 := ih j (by simpa using hj) i u h
      rw [List.getElem?_append_right (by rw [hk, Nat.succ_mul]; omega), hk]
      rw [show (j + 1) * k + i - k = j * k + i by rw [Nat.succ_mul]; omega]
      exact h1
theorem owns_at {α : Type} (f : α → List Value) (k : Nat) (hk : ∀ a, (f a).length = k) {w : World} {base : Nat} {e : TypeId} {v : Value} (l : List α) (h : w.ownsRow base e k v l.length (l.flatMap f)) :
    ∃ p c, v = .slice p l.length c ∧ ∀ j (hj : j < l.length), ∃ B o, p = some ⟨B, o, none⟩ ∧ base ≤ B ∧ B < w.heap.size ∧ ∀ i u, (f l[j])[i]? = some u → w.cell? ⟨B, o + j * k + i, none⟩ = some u := by
  rcases owns_slice h with ⟨rfl, h0⟩ | ⟨g, c, rfl, hb, hg, hc⟩
  · exact ⟨none, 0, by rw [h0], fun j hj => by omega⟩
  · exact ⟨_, c, rfl, fun j hj => ⟨g, 0, rfl, hb, hg, fun i u hu => by rw [Nat.zero_add]; exact hc _ u (flat_get f k hk l j hj i u hu)⟩⟩
theorem cells2_new (w : World) (v0 v1 : Value) (T : TypeId) : ∀ j u, [v0, v1][j]? = some u → (w.alloc (.cells #[v0, v1] T)).cell? ((⟨w.heap.size, 0, none⟩ : Addr).add j) = some u := by
  intro j u hj
  have hl : j < 2 := by simpa using (List.getElem?_eq_some_iff.1 hj).1
  have hadd : (⟨w.heap.size, 0, none⟩ : Addr).add j = ⟨w.heap.size, j, none⟩ := by unfold Addr.add; split <;> simp_all
  rw [hadd]
  rcases (show j = 0 ∨ j = 1 by omega) with rfl | rfl <;> (simp at hj; subst hj; simp [go_sem])
theorem layer_info : (Tryd.prog.info? 62).map (fun i => (i.zero, i.size, i.bytes)) = some (some (.agg #[.int .i64 0, .int .i64 0]), 2, 16) := by kernel_rfl
theorem vecs_of {W : World} {base : Nat} {e : TypeId} {v : Value} {l : List V2} (h : W.ownsRow base e 2 v l.length (vrows l)) : ∃ p c, v = .slice p l.length c ∧ VecsAt W p l ∧ ∀ A o, l.length ≠ 0 → p = some ⟨A, o, none⟩ → base ≤ A := by
  obtain ⟨p, c, rfl, hc⟩ := owns_at (fun v : V2 => [.int .i64 v.x, .int .i64 v.y]) 2 (fun _ => rfl) l h
  refine ⟨p, c, rfl, fun j hj => ?_, fun A o h0 hp => ?_⟩
  · obtain ⟨B, o, hp, hb, hB, hv⟩ := hc j hj
    exact ⟨B, o, hp, hB, hv 0 _ rfl, hv 1 _ rfl⟩
  · obtain ⟨B, q, hp2, hb, -⟩ := hc 0 (by omega)
    rw [hp] at hp2
    injection hp2 with hp2
    injection hp2 with h1 h2
    omega
end Go.Proofs.YtpiacndnjehbiaaDoor

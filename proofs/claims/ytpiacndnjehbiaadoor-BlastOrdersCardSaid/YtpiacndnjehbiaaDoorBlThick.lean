/- Rows of layers that are written in place. No condition. -/
import Derived.Test.YtpiacndnjehbiaaDoorBlSet
import Derived.Test.YtpiacndnjehbiaaDoorBlAp
namespace Go.Proofs.YtpiacndnjehbiaaDoor
open Go.RowKit Go.Shelf
theorem vrows_set : ∀ (l : List V2) (i : Nat) (h : i < l.length) (u : Int), (vrows l).set (i * 2) (.int .i64 u) = vrows (l.set i ⟨u, l[i].y⟩)
  | [], i, h, u => by simp at h
  | v :: l, 0, h, u => by simp [vrows]
  | v :: l, i + 1, h, u => by
    have ih := vrows_set l i (by simpa using h) u
    unfold vrows at *
    simp only [List.flatMap_cons, List.set_cons_succ, List.getElem_cons_succ]
    rw [show (i + 1) * 2 = i * 2 + 1 + 1 by omega]
    simp only [List.cons_append, List.nil_append, List.set_cons_succ]
    rw [ih]
theorem vrows_at {l : List V2} {i : Nat} (h : i < l.length) : (vrows l)[i * 2]? = some (.int .i64 l[i].x) := by
  have := flat_get (fun v : V2 => [.int .i64 v.x, .int .i64 v.y]) 2 (fun _ => rfl) l i h 0 (.int .i64 l[i].x) rfl
  rw [Nat.add_zero] at this
  exact this
/-- Some layers have been made thicker. -/
structure Thicker (n : Int) (ls l : List V2) (i : Nat) : Prop where
  le : i ≤ ls.length
  len : l.length = ls.length
  old : ∀ j (h : j < ls.length), i ≤ j → l[j]'(by omega) = ls[j]
  new : ∀ j (h : j < ls.length), j < i → l[j]'(by omega) = thickL n ls[j]
theorem Thicker.start (n : Int) (ls : List V2) : Thicker n ls ls 0 := ⟨Nat.zero_le _, rfl, fun _ _ _ => rfl, fun _ _ h => by omega⟩
theorem Thicker.next {n : Int} {ls l : List V2} {i : Nat} (h : Thicker n ls l i) (hi : i < ls.length) : Thicker n ls (l.set i ⟨ls[i].x + n, (l[i]'(by have := h.len; omega)).y⟩) (i + 1) := by
  have hl := h.len
  refine ⟨hi, by rw [List.length_set]; exact hl, fun j hj hij => ?_, fun j hj hij => ?_⟩
  · rw [List.getElem_set_ne (by omega)]; exact h.old j hj (by omega)
  · by_cases e : j = i
    · subst e; rw [List.getElem_set_self, h.old j hj (Nat.le_refl _)]; rfl
    · rw [List.getElem_set_ne (by omega)]; exact h.new j hj (by omega)
theorem Thicker.all {n : Int} {ls l : List V2} {i : Nat} (h : Thicker n ls l i) (hi : ¬ i < ls.length) : l = ls.map (thickL n) := by
  refine List.ext_getElem (by rw [h.len, List.length_map]) fun j h1 h2 => ?_
  rw [List.getElem_map]
  exact h.new j (by have := h.len; omega) (by have := h.len; omega)
end Go.Proofs.YtpiacndnjehbiaaDoor

/- Rows of sights in memory. No condition. -/
import Derived.Test.YtgoilmiiegpnoaaSkyV
import Derived.Test.YtgoilmiiegpnoaaSkyOa
namespace Go.Proofs.Ytgoilmiiegpnoaa
open Go.RowKit Go.Shelf
def cellsX (x : SightR) : List Value := [.int .i64 x.kind, .int .i64 x.st, .int .i64 x.cat, .int .i64 x.tick, .int .i64 x.dir.x, .int .i64 x.dir.y, .int .i64 x.err, .int .i64 x.lo, .int .i64 x.hi]
def rowsX (l : List SightR) : List Value := l.flatMap cellsX
theorem rowsX_cons (x : SightR) (l : List SightR) : rowsX (x :: l) = cellsX x ++ rowsX l := by unfold rowsX; rw [List.flatMap_cons]
theorem rowsX_append (l m : List SightR) : rowsX (l ++ m) = rowsX l ++ rowsX m := by unfold rowsX; rw [List.flatMap_append]
theorem rowsX_length (l : List SightR) : (rowsX l).length = l.length * 9 := by
  induction l with
  | nil => rfl
  | cons k l ih => rw [rowsX_cons, List.length_append, ih, List.length_cons]; simp [cellsX]; omega
theorem rowsX_one (l : List SightR) : ∀ u ∈ rowsX l, u.oneCell' = true := by
  intro u hu
  obtain ⟨k, -, hk⟩ := List.mem_flatMap.1 hu
  simp only [cellsX, List.mem_cons, List.not_mem_nil, or_false] at hk
  rcases hk with rfl | rfl | rfl | rfl | rfl | rfl | rfl | rfl | rfl <;> rfl
theorem addr_add (B o j : Nat) : (⟨B, o, none⟩ : Addr).add j = ⟨B, o + j, none⟩ := by unfold Addr.add; split <;> simp_all
theorem sights_cells {W : World} {B : Nat} : ∀ {l : List SightR} {o : Nat}, SightsAt W (some ⟨B, o, none⟩) l → ∀ j u, (rowsX l)[j]? = some u → W.cell? ((⟨B, o, none⟩ : Addr).add j) = some u := by
  intro l
  induction l with
  | nil => intro o _ j u h; simp [rowsX] at h
  | cons x l ih =>
    intro o h j u hj
    rw [rowsX_cons] at hj
    by_cases h9 : j < 9
    · rw [List.getElem?_append_left (by simpa [cellsX] using h9)] at hj
      obtain ⟨B', o', e, hB, q0, q1, q2, q3, q4, q5, q6, q7, q8⟩ := h 0 (by simp)
      injection e with e
      injection e with e1 e2
      subst e1 e2
      simp only [Nat.zero_mul, Nat.add_zero, List.getElem_cons_zero] at q0 q1 q2 q3 q4 q5 q6 q7 q8
      rw [addr_add]
      rcases (show j = 0 ∨ j = 1 ∨ j = 2 ∨ j = 3 ∨ j = 4 ∨ j = 5 ∨ j = 6 ∨ j = 7 ∨ j = 8 by omega) with rfl | rfl | rfl | rfl | rfl | rfl | rfl | rfl | rfl <;> (simp [cellsX] at hj; subst hj; simpa using by assumption)
    · rw [List.getElem?_append_right (by simp [cellsX]; omega)] at hj
      have h2 : SightsAt W (some ⟨B, o + 9, none⟩) l := fun i hi => by
        obtain ⟨B', o', e, hB, q⟩ := h (i + 1) (by simpa using hi)
        injection e with e
        injection e with e1 e2
        subst e1 e2
        refine ⟨B, o + 9, rfl, hB, ?_⟩
        have e : o + (i + 1) * 9 = o + 9 + i * 9 := by omega
        rw [e] at q
        simpa using q
      have := ih h2 (j - (cellsX x).length) u hj
      rw [addr_add] at this ⊢
      rw [← this]
      congr 2
      simp [cellsX]; omega
theorem owns_sights {w : World} {base : Nat} {v : Value} {l : List SightR} (h : w.ownsRow base 47 9 v l.length (rowsX l)) : ∃ p c, v = .slice p l.length c ∧ SightsAt w p l := by
  obtain ⟨p, c, e, hc⟩ := owns_at cellsX 9 (fun _ => rfl) l h
  refine ⟨p, c, e, fun j hj => ?_⟩
  obtain ⟨B, o, hp, _, hB, hv⟩ := hc j hj
  exact ⟨B, o, hp, hB, hv 0 _ rfl, hv 1 _ rfl, hv 2 _ rfl, hv 3 _ rfl, hv 4 _ rfl, hv 5 _ rfl, hv 6 _ rfl, hv 7 _ rfl, hv 8 _ rfl⟩
theorem sight_info : (Try.prog.info? 47).map (fun i => (i.zero, i.size, i.bytes)) = some (some (.agg #[.int .i64 0, .int .i64 0, .int .i64 0, .int .i64 0, .int .i64 0, .int .i64 0, .int .i64 0, .int .i64 0, .int .i64 0]), 9, 72) := by kernel_rfl
end Go.Proofs.Ytgoilmiiegpnoaa

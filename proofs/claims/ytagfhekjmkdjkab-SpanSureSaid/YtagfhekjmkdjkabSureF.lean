/- An append of four pairs behind four pairs, in a region that draws its order. No condition. -/
import Derived.Test.YtagfhekjmkdjkabSureB
import Derived.Deep.RegionLawGrows
namespace Go.Proofs.Ytagfhekjmkdjkab
open Go.RowKit Go.Shelf
def p8 (X Y : Nat → Int) (j : Nat) : Int := if j < 4 then X j else Y (j - 4)
/-- The cells of four pairs. -/
def row4 (X Y : Nat → Int) : List Value := [.int .i64 (X 0), .int .i64 (Y 0), .int .i64 (X 1), .int .i64 (Y 1), .int .i64 (X 2), .int .i64 (Y 2), .int .i64 (X 3), .int .i64 (Y 3)]
theorem row4_at {W : World} {B : Nat} {X Y : Nat → Int} (h : PairsAt W B 4 X Y) : ∀ j u, (row4 X Y)[j]? = some u → W.cell? ((⟨B, 0, none⟩ : Addr).add j) = some u := by
  intro j u hj
  have h0 := h 0 (by decide); have h1 := h 1 (by decide); have h2 := h 2 (by decide); have h3 := h 3 (by decide)
  have hl : j < 8 := by
    have := (List.getElem?_eq_some_iff.1 hj).1
    simpa [row4] using this
  rcases (show j = 0 ∨ j = 1 ∨ j = 2 ∨ j = 3 ∨ j = 4 ∨ j = 5 ∨ j = 6 ∨ j = 7 by omega) with rfl | rfl | rfl | rfl | rfl | rfl | rfl | rfl <;> (simp [row4] at hj; subst hj; rw [Addr.add_lit])
  · exact h0.1
  · exact h0.2
  · exact h1.1
  · exact h1.2
  · exact h2.1
  · exact h2.2
  · exact h3.1
  · exact h3.2
theorem step_append8 {ops : Array Oper} {o : Oper} {a : Act} {w : World} {K : Act → World → Prop} {Q : Exit → Act → World → Prop} {E : Prop} {X Y X2 Y2 : Nat → Int} (B1 B2 : Nat)
    (hg : o.guard = none) (s x : Operand) (hop : o.op = Op.call { callee := Callee.builtin Builtin.append, args := #[s, x], argTypes := #[37, 37] })
    (hs : a.eval s = .slice (some ⟨B1, 0, none⟩) 4 4) (hx : a.eval x = .slice (some ⟨B2, 0, none⟩) 4 4) (h1 : PairsAt w B1 4 X Y) (h2 : PairsAt w B2 4 X2 Y2)
    (hK : ∀ (y : Ext w) (B c : Nat), w.heap.size ≤ B → B < y.now.heap.size → PairsAt y.now B 8 (p8 X X2) (p8 Y Y2) → K (a.put o.dst (.slice (some ⟨B, 0, none⟩) 8 c)) y.now) :
    if Region.wanted o (yielded ops a.tmps) = true then Oper.wp Try.prog o a w K Q else E := by
  have e1 : (Try.prog.info? 31).map (·.size) = some 2 := by kernel_rfl
  have e2 : (Try.prog.info? 31).map (·.bytes) = some 16 := by kernel_rfl
  have e3 : (Try.prog.info? 31).bind (·.zero) = some (.agg #[.int .i64 0, .int .i64 0]) := by kernel_rfl
  cases hi : Try.prog.info? 31 with
  | none => rw [hi] at e1; cases e1
  | some i =>
    rw [hi] at e1 e2 e3
    simp only [Option.map_some, Option.some.injEq, Option.bind_some] at e1 e2 e3
    refine step_append_grows hg s x 37 hop 31 i _ 2 16 Try.underlying37 hi e3 e1 e2 rfl (by decide) (some ⟨B1, 0, none⟩) 4 4 (row4 X Y) hs (by intro h; cases h) rfl (by rintro b hb; cases hb; exact row4_at h1) ⟨B2, 0, none⟩ 4 4 (row4 X2 Y2) hx rfl (row4_at h2) (by simp [row4, Value.oneCell']) (by decide) (by decide) (by decide) ?_
    rintro v' w' ⟨hl, hv⟩ hgr
    rcases hv with ⟨_, h0⟩ | ⟨g, cap, cur, rfl, hb, hc, hcap, hcap2, hsz, htake⟩
    · cases h0
    · have hget : ∀ k v, (row4 X Y ++ row4 X2 Y2)[k]? = some v → w'.cell? ⟨g, k, none⟩ = some v := fun k v hk => by
        rw [cell_of_row w' g k _ _ _ hc]
        rw [← htake, List.getElem?_take] at hk
        split at hk
        · simpa using hk
        · cases hk
      refine hK ⟨w', ⟨hgr.os, hgr.tape, hgr.output, hgr.size, fun k hk => hgr.block k hk (by simp)⟩⟩ g cap hb (Array.getElem?_eq_some_iff.1 hc).1 ?_
      intro j hj
      rcases (show j = 0 ∨ j = 1 ∨ j = 2 ∨ j = 3 ∨ j = 4 ∨ j = 5 ∨ j = 6 ∨ j = 7 by omega) with rfl | rfl | rfl | rfl | rfl | rfl | rfl | rfl <;> exact ⟨hget _ _ rfl, hget _ _ rfl⟩
end Go.Proofs.Ytagfhekjmkdjkab

/- A list of whole numbers that came in, as the ring wants it. -/
import Derived.Test.YtpiacndnjehbiaaDoorLaw
import Derived.Test.YtpiacndnjehbiaaDoorRingN
import Derived.ChangeSlices
namespace Go.Proofs.YtpiacndnjehbiaaDoor
open Go.ChangeShapes Go.WideShapes Go.ChangeAt Go.RowKit Go.Joins
theorem add_none {a : Addr} (h : a.spot = none) (i : Nat) : a.add i = ⟨a.block, a.off + i, none⟩ := by
  unfold Addr.add
  split
  · rename_i h0; subst h0; cases a; simp_all
  · rfl
theorem spot_of_cell {w : World} {a : Addr} {v : Value} (h : w.cell? a = some v) : a.spot = none := by
  unfold World.cell? at h
  split at h
  · split at h
    · cases h
    · rename_i hs; simpa using hs
  · cases h
theorem open_list {H : Type} {enc : TypeId × Value → H} {P : Program} {W : World} {t e : TypeId} {v : Value} {d : DataW H} {ps : List MemPlace} (ht : P.underlying t = some (.slice e)) (he : P.underlying e = some (.int .i64)) (hc : P.cellsOf e = 1)
    {r : Reach} {b : Nat} (hval : Value.okWide P W r b t v) (h : DataW.Trod enc P W 0 (fun _ => true) true t v d ps) : ∃ p len cap z, v = .slice p len cap ∧ ListIn W p len z := by
  have hv : v.cells = #[v] := by
    simp only [Value.okWide, ht, Cell.okWide, Cell.ok] at hval
    cases v <;> first | rfl | (simp at hval; done) | skip
  unfold DataW.Trod at h
  obtain ⟨fuel, h⟩ := h
  rcases open_ints ht he hc h with ⟨hcs, _⟩ | ⟨a, len, cap, zs, hcs, _, hl, hm, hz, _, hi, hw⟩
  · rw [hv] at hcs
    simp only [List.cons.injEq, and_true] at hcs
    exact ⟨none, 0, 0, fun _ => 0, hcs, by decide, fun h => absurd rfl h⟩
  · rw [hv] at hcs
    simp only [List.cons.injEq, and_true] at hcs
    simp only [if_true] at hz
    refine ⟨some a, len, cap, fun i => zs.getD i 0, hcs, by unfold maxLen at hm; omega, fun h0 => ?_⟩
    have h1 := hi 0 (by omega)
    have hs : a.spot = none := by
      have := spot_of_cell h1
      simpa [Addr.add] using this
    refine ⟨a.block, a.off, by cases a; simp_all, ?_, fun i hil => ⟨?_, ?_⟩⟩
    · have := World.block_lt_of_cell? W _ h1
      simpa [Addr.add] using this
    · have := hi i (by omega)
      rwa [add_none hs] at this
    · have hmem : zs.getD i 0 ∈ zs := by
        have hh : i < zs.length := by omega
        simp [List.getD, hh]
      have := hw _ hmem
      unfold I64
      simp [Lit.wf, IntKind.min, IntKind.max, IntKind.signed, IntKind.bits] at this
      simp [List.getD]
      omega
end Go.Proofs.YtpiacndnjehbiaaDoor

/- From a law's contract ('it returns true, and nothing that was there has turned') to what its statement asks of one call. -/
import Derived.Test.YtpiacndnjehbiaaDoorRows
import Derived.Test.YtpiacndnjehbiaaDoorBase
import Derived.WalkKit
import Derived.ProofKit
import Derived.OpenShut
import Derived.Carry
import Derived.JoinedOf
import Derived.JoinedAt
import Derived.RowKit3
import Derived.Lib.SmallJoins
namespace Go.Proofs.YtpiacndnjehbiaaDoor
open Go.ChangeShapes Go.WideShapes Go.ChangeAt Go.RowKit Go.Joins
section
variable {H : Type} {enc : TypeId × Value → H} {P : Program}
theorem trodAll_kept (hl : laidOutB P = true) {W W' : World} {sp : Nat → Bool} : ∀ {ts : List TypeId} {vs : List Value} {ds : List (DataW H)} {ps : List MemPlace}, (∀ t ∈ ts, P.readableRec t = true ∧ t < P.types.size) →
    DataW.TrodAll enc P W 0 (fun _ => true) true ts vs ds ps → Below W.heap.size W W' → (∀ p ∈ ps, p.block < W.heap.size) → (∀ p ∈ ps, sp p.block = true) → DataW.TrodAll enc P W' 0 sp true ts vs ds ps
  | [], _, _, _, _, h, _, _, _ => by
    obtain ⟨rfl, rfl, rfl⟩ := trodAll_nil h
    exact trodAll_mk0
  | t :: ts, _, _, _, hr, h, hb, hlt, hsp => by
    obtain ⟨v, vs, d, ds, p, q, rfl, rfl, rfl, h0, h1⟩ := trodAll_cons h
    have ht := hr t (by simp)
    exact trodAll_cons_mk (WideElems.Trod_stays hl ht.1 ht.2 h0 (fun x hx => hb.same (hlt x (by simp [hx]))) (fun x hx => hsp x (by simp [hx])))
      (trodAll_kept hl (fun t ht => hr t (by simp [ht])) h1 hb (fun x hx => hlt x (by simp [hx])) (fun x hx => hsp x (by simp [hx])))
theorem law_post {f : Func} {s : ChangeSpec} {W W' : World} {args : Array Value} {ds : List (DataW H)} {before : List MemPlace} {t : TypeId} {e : Ending}
    (hl : laidOutB P = true) (hread : ∀ t ∈ f.params.toList, P.readableRec t = true ∧ t < P.types.size) (hv : s.vars = []) (hr : f.resultTypes = #[t]) (ht : P.underlying t = some .bool)
    (hW : DataW.Whole enc P f.params.toList s.vars false W args.toList ds [] before) (hs : s.fn H (ds ++ []) = { results := [.lit (.bool true)], args := ds }) (hb : Gives (.bool true) W e W') :
    ∃ v, e = .returned v ∧ s.post enc P f false true false false W args v W' := by
  obtain ⟨rfl, hb⟩ := hb
  refine ⟨_, rfl, ds, [], before, [], before, [], hW, ?_, ?_, ?_, ?_, fun h => by cases h⟩
  · rw [hs, hr]
    exact trodAll_mk1 (shut_bool ht true)
  · rw [hs]
    have hlt := fun p hp => hW.lt p hp
    obtain ⟨p, q, hA, hV, rfl, _, _⟩ := hW
    rw [hv] at hV
    obtain ⟨_, rfl⟩ := trodVars_none hV
    rw [List.append_nil] at hlt ⊢
    exact trodAll_kept hl hread hA hb hlt (fun x hx => by simpa using hlt x hx)
  · rw [hs, hv]
    exact rfl
  · exact World.keptBut_mono (fun p hp => ⟨hp, .inr (.inl hp)⟩) (hb.frame (· ∈ before))
end
section
variable {P : Program} {W : World} {r : Reach} {b : Nat}
/-- A struct of whole numbers by value, its inner structs laid flat: its numbers, each within its kind. -/
theorem open_nums {t : TypeId} {fs : Array Field} {ts : List TypeId} {v : Value} (hs : P.underlying t = some (.struct fs)) (hct : P.cellTypes P.depth t = some ts) (hall : ts.all (fun u => match P.underlying u with | some (.int .i64) => true | _ => false) = true)
    (h : Value.okWide P W r b t v) : ∃ l : List Int, v = .agg (l.map (Value.int .i64)).toArray ∧ l.length = P.cellsOf t ∧ ∀ x ∈ l, I64 x := by
  simp only [Value.okWide, hs] at h
  obtain ⟨⟨cs⟩, rfl, hsz, ts', hct', _, hc⟩ := h
  obtain rfl : ts = ts' := Option.some.inj (hct.symm.trans hct')
  have key : ∀ v ∈ cs, ∃ x : Int, v = .int .i64 x ∧ I64 x := by
    intro v hv
    obtain ⟨i, hi, rfl⟩ := List.getElem_of_mem hv
    obtain ⟨u, hu, hok⟩ := hc i cs[i] (by simp [hi])
    have hm := List.all_eq_true.1 hall u (List.mem_of_getElem? hu)
    split at hm
    · rename_i hu'
      simp only [Cell.okWide, Cell.ok, hu'] at hok
      cases hcs : cs[i] <;> rw [hcs] at hok <;> simp only [] at hok
      obtain ⟨rfl, hh⟩ := hok
      exact ⟨_, rfl, by unfold I64; simp [IntKind.has, IntKind.min, IntKind.max, IntKind.signed, IntKind.bits] at hh; omega⟩
    · cases hm
  clear hc hct hct' hall
  have hl : ∀ cs : List Value, (∀ v ∈ cs, ∃ x : Int, v = .int .i64 x ∧ I64 x) → ∃ l : List Int, cs = l.map (Value.int .i64) ∧ ∀ x ∈ l, I64 x := by
    intro cs
    induction cs with
    | nil => exact fun _ => ⟨[], rfl, by simp⟩
    | cons v cs ih =>
      intro h
      obtain ⟨x, rfl, hx⟩ := h v (by simp)
      obtain ⟨l, rfl, hl⟩ := ih (fun v hv => h v (by simp [hv]))
      exact ⟨x :: l, rfl, by simpa using ⟨hx, hl⟩⟩
  obtain ⟨l, rfl, hl⟩ := hl cs key
  exact ⟨l, rfl, by simpa using hsz, hl⟩
theorem open_num {t : TypeId} {v : Value} (hs : P.underlying t = some (.int .i64)) (h : Value.okWide P W r b t v) : ∃ x : Int, v = .int .i64 x ∧ I64 x := by
  simp only [Value.okWide, hs, Cell.okWide, Cell.ok] at h
  cases v <;> simp only [] at h
  obtain ⟨rfl, hh⟩ := h
  exact ⟨_, rfl, by unfold I64; simp [IntKind.has, IntKind.min, IntKind.max, IntKind.signed, IntKind.bits] at hh; omega⟩
theorem list2 {α : Type} {l : List α} (h : l.length = 2) : ∃ a b, l = [a, b] := by
  match l, h with
  | [a, b], _ => exact ⟨a, b, rfl⟩
theorem list4 {α : Type} {l : List α} (h : l.length = 4) : ∃ a b c d, l = [a, b, c, d] := by
  match l, h with
  | [a, b, c, d], _ => exact ⟨a, b, c, d, rfl⟩
end
theorem own : ownKnob Tryd.prog.godebug = none := by kernel_rfl
theorem Tryd.cells24 : Tryd.prog.cellsOf 24 = 2 := by kernel_rfl
theorem laid_out : laidOutB Tryd.prog = true := by kernel_rfl
end Go.Proofs.YtpiacndnjehbiaaDoor

/- Stones, rocks, falls and rows of layers that came in as arguments, as Lean values. Written by gen_openers.py. Conditions: what the statement's reader says of an argument. Grades and lands that came in as arguments, as Lean values. Conditions: what the statement's reader says of an argument. -/
import Derived.Test.YtlmhbggigbmeaaaDoorSpansG
import Derived.Deep.Slices
import Derived.Test.YtlmhbggigbmeaaaDoorBlOG
namespace Go.Proofs.YtlmhbggigbmeaaaDoor
open Go.ChangeShapes Go.WideShapes Go.ChangeAt Go.RowKit Go.Joins Go.Deep
section
variable {H : Type} {enc : TypeId × Value → H} {P : Program} {w : World} {base : Nat} {spare : Nat → Bool} {held : Bool}
theorem btrod_field {t : TypeId} {fs : Array Field} {n : Nat} {cs : List Value} {x : DataW H × List MemPlace} (ht : P.underlying t = some (.struct fs)) (h : DataW.trod enc P w base spare held n t cs = some x) (j : Nat) (f : Field) (hj : fs[j]? = some f) :
    ∃ m y, DataW.trod enc P w base spare held m f.type ((cs.drop f.offset).take (P.cellsOf f.type)) = some y := by
  obtain ⟨xs, m, _, _, _, hlen, hf⟩ := DataW.trod_struct ht h
  have hjl : j < fs.size := (Array.getElem?_eq_some_iff.1 hj).1
  exact ⟨m, _, (hf j f hj).trans (List.getElem?_eq_getElem (by omega))⟩
theorem btrod_len {t : TypeId} {fs : Array Field} {n : Nat} {cs : List Value} {x : DataW H × List MemPlace} (ht : P.underlying t = some (.struct fs)) (h : DataW.trod enc P w base spare held n t cs = some x) : cs.length = P.cellsOf t := by
  obtain ⟨xs, m, _, _, hl, _⟩ := DataW.trod_struct ht h
  exact hl
theorem btrod_i64 {t : TypeId} {n : Nat} {cs : List Value} {x : DataW H × List MemPlace} (ht : P.underlying t = some (.int .i64)) (h : DataW.trod enc P w base spare held n t cs = some x) : ∃ a : Int, cs = [.int .i64 a] ∧ I64 a := by
  obtain ⟨a, rfl, _, hw⟩ := DataW.trod_int ht h
  exact ⟨a, rfl, by unfold I64; simp [Lit.wf, IntKind.min, IntKind.max, IntKind.signed, IntKind.bits] at hw; omega⟩
/-- A slice opened: its elements as a list. -/
theorem bopen_rows {α : Type} {t e : TypeId} {n k : Nat} {cs : List Value} {x : DataW H × List MemPlace} (enc' : α → List Value) (good : α → Prop) (ht : P.underlying t = some (.slice e)) (hk : P.cellsOf e = k)
    (hne : ∀ r, enc' r ≠ []) (hel : ∀ m cs y, DataW.trod enc P w base spare held m e cs = some y → ∃ r, cs = enc' r ∧ good r) (h : DataW.trod enc P w base spare held n t cs = some x) :
    ∃ p cap, ∃ l : List α, cs = [.slice p l.length cap] ∧ l.length < 9223372036854775808 ∧ (∀ r ∈ l, good r) ∧ ∀ j (hj : j < l.length), ∃ B o, p = some ⟨B, o, none⟩ ∧ B < w.heap.size ∧ ∀ i v, (enc' l[j])[i]? = some v → w.cell? ⟨B, o + j * k + i, none⟩ = some v := by
  rcases open_slice ht h with ⟨rfl, _⟩ | ⟨a, len, cap, m, n', D, Pl, rfl, _, hl, hm, hmm, _, hi⟩
  · exact ⟨none, 0, [], rfl, by simp, by simp, by simp⟩
  · have each : ∀ i : Fin len, ∃ r, w.cells? base (a.add (i * k)) k = some (enc' r) ∧ good r := by
      intro ⟨i, hil⟩
      obtain ⟨cs', h1, h2⟩ := hi i (by rw [hmm]; split <;> omega)
      rw [hk] at h1
      obtain ⟨r, rfl, hr⟩ := hel _ _ _ h2
      exact ⟨r, h1, hr⟩
    classical
    let f : Fin len → α := fun i => Classical.choose (each i)
    have hf : ∀ i : Fin len, w.cells? base (a.add (i * k)) k = some (enc' (f i)) ∧ good (f i) := fun i => Classical.choose_spec (each i)
    refine ⟨some a, cap, List.ofFn f, by simp, by unfold maxLen at hm; simp; omega, ?_, ?_⟩
    · intro r hr
      obtain ⟨i, rfl⟩ := List.mem_ofFn.1 hr
      exact (hf i).2
    · intro j hj
      simp only [List.length_ofFn] at hj
      obtain ⟨hc, _⟩ := hf ⟨j, hj⟩
      obtain ⟨_, hlen, hat⟩ := World.cells?_some hc
      have hcell : ∀ i v, (enc' (f ⟨j, hj⟩))[i]? = some v → w.cell? ((a.add (j * k)).add i) = some v := by
        intro i v hv
        have hik : i < k := by have := (List.getElem?_eq_some_iff.1 hv).1; omega
        exact (hat i hik).trans hv
      have h0 : 0 < (enc' (f ⟨j, hj⟩)).length := List.length_pos_iff.2 (hne _)
      have hs0 := hcell 0 _ (List.getElem?_eq_getElem h0)
      have hs : a.spot = none := by
        obtain ⟨hc0, _⟩ := hf ⟨0, by omega⟩
        obtain ⟨_, hlen0, hat0⟩ := World.cells?_some hc0
        have h00 : 0 < (enc' (f ⟨0, by omega⟩)).length := List.length_pos_iff.2 (hne _)
        have := spot_of_cell ((hat0 0 (by omega)).trans (List.getElem?_eq_getElem h00))
        simpa [Addr.add] using this
      refine ⟨a.block, a.off, by cases a; simp_all, ?_, ?_⟩
      · have := World.block_lt_of_cell? w _ hs0
        simpa [block_add] using this
      · intro i v hv
        have := hcell i v (by simpa using hv)
        rw [add_none hs, add_none rfl] at this
        exact this
end
section
variable {H : Type} {enc : TypeId × Value → H} {P : Program} {w : World} {base : Nat} {spare : Nat → Bool} {held : Bool}
theorem btrod_at {t : TypeId} {fs : Array Field} {n : Nat} {cs : List Value} {x : DataW H × List MemPlace} (ht : P.underlying t = some (.struct fs)) (h : DataW.trod enc P w base spare held n t cs = some x) (j : Nat) (T : TypeId) (o k : Nat)
    (hj : (fs[j]?).map (fun f => (f.type, f.offset)) = some (T, o)) (hk : P.cellsOf T = k) : ∃ m y, DataW.trod enc P w base spare held m T ((cs.drop o).take k) = some y := by
  cases hf : fs[j]? with
  | none => rw [hf] at hj; cases hj
  | some f =>
    rw [hf] at hj
    simp only [Option.map_some, Option.some.injEq, Prod.mk.injEq] at hj
    obtain ⟨rfl, rfl⟩ := hj
    subst hk
    exact btrod_field ht h j f hf
end
section
variable {H : Type} {enc : TypeId × Value → H} {w : World} {n : Nat} {cs : List Value} {x : DataW H × List MemPlace}
theorem btrod_len2 {P : Program} {t : TypeId} {k : Nat} (hs : (match P.underlying t with | some (.struct _) => true | _ => false) = true) (hk : P.cellsOf t = k) (h : DataW.trod enc P w 0 (fun _ => true) true n t cs = some x) : cs.length = k := by
  cases hu : P.underlying t with
  | none => rw [hu] at hs; cases hs
  | some u =>
    cases u <;> rw [hu] at hs <;> first | (cases hs; done) | exact (btrod_len hu h).trans hk
theorem btrod_b {t : TypeId} {cs : List Value} {P : Program} {x : DataW H × List MemPlace} (ht : P.underlying t = some .bool) (h : DataW.trod enc P w 0 (fun _ => true) true n t cs = some x) : ∃ b : Bool, cs = [.bool b] := by
  obtain ⟨b, hb, _⟩ := DataW.trod_bool ht h
  exact ⟨b, hb⟩
theorem open_spanC (h : DataW.trod enc Tryd.prog w 0 (fun _ => true) true n 29 cs = some x) : ∃ r : V2, cs = [.int .i64 r.x, .int .i64 r.y] := by
  have hl := btrod_len2 (by kernel_rfl) (by kernel_rfl : Tryd.prog.cellsOf 29 = 2) h
  obtain ⟨_, _, h0⟩ := btrod_at Tryd.underlying29 h 0 2 0 1 (by kernel_rfl) (by kernel_rfl)
  obtain ⟨a0, e0, _⟩ := btrod_i64 Tryd.underlying2 h0
  obtain ⟨_, _, h1⟩ := btrod_at Tryd.underlying29 h 1 2 1 1 (by kernel_rfl) (by kernel_rfl)
  obtain ⟨a1, e1, _⟩ := btrod_i64 Tryd.underlying2 h1
  match cs, hl with
  | [c0, c1], _ =>
    simp only [List.drop_zero, List.drop_succ_cons, List.take_succ_cons, List.take_zero, List.cons.injEq, and_true] at e0 e1
    refine ⟨⟨a0, a1⟩, ?_⟩
    simp [*]
theorem open_layerC (h : DataW.trod enc Tryd.prog w 0 (fun _ => true) true n 90 cs = some x) : ∃ r : V2, cs = [.int .i64 r.x, .int .i64 r.y] := by
  have hl := btrod_len2 (by kernel_rfl) (by kernel_rfl : Tryd.prog.cellsOf 90 = 2) h
  obtain ⟨_, _, h0⟩ := btrod_at Tryd.underlying90 h 0 2 0 1 (by kernel_rfl) (by kernel_rfl)
  obtain ⟨a0, e0, _⟩ := btrod_i64 Tryd.underlying2 h0
  obtain ⟨_, _, h1⟩ := btrod_at Tryd.underlying90 h 1 2 1 1 (by kernel_rfl) (by kernel_rfl)
  obtain ⟨a1, e1, _⟩ := btrod_i64 Tryd.underlying2 h1
  match cs, hl with
  | [c0, c1], _ =>
    simp only [List.drop_zero, List.drop_succ_cons, List.take_succ_cons, List.take_zero, List.cons.injEq, and_true] at e0 e1
    refine ⟨⟨a0, a1⟩, ?_⟩
    simp [*]
theorem open_stoneC (h : DataW.trod enc Tryd.prog w 0 (fun _ => true) true n 57 cs = some x) : ∃ r : StoneR, cs = [.int .i64 r.size, .int .i64 r.dens, .int .i64 r.strong, .int .i64 r.spin, .int .i64 r.shape, .bool r.pile, .int .i64 r.speed, .int .i64 r.slope] := by
  have hl := btrod_len2 (by kernel_rfl) (by kernel_rfl : Tryd.prog.cellsOf 57 = 8) h
  obtain ⟨_, _, h0⟩ := btrod_at Tryd.underlying57 h 0 2 0 1 (by kernel_rfl) (by kernel_rfl)
  obtain ⟨a0, e0, _⟩ := btrod_i64 Tryd.underlying2 h0
  obtain ⟨_, _, h1⟩ := btrod_at Tryd.underlying57 h 1 2 1 1 (by kernel_rfl) (by kernel_rfl)
  obtain ⟨a1, e1, _⟩ := btrod_i64 Tryd.underlying2 h1
  obtain ⟨_, _, h2⟩ := btrod_at Tryd.underlying57 h 2 2 2 1 (by kernel_rfl) (by kernel_rfl)
  obtain ⟨a2, e2, _⟩ := btrod_i64 Tryd.underlying2 h2
  obtain ⟨_, _, h3⟩ := btrod_at Tryd.underlying57 h 3 2 3 1 (by kernel_rfl) (by kernel_rfl)
  obtain ⟨a3, e3, _⟩ := btrod_i64 Tryd.underlying2 h3
  obtain ⟨_, _, h4⟩ := btrod_at Tryd.underlying57 h 4 2 4 1 (by kernel_rfl) (by kernel_rfl)
  obtain ⟨a4, e4, _⟩ := btrod_i64 Tryd.underlying2 h4
  obtain ⟨_, _, h5⟩ := btrod_at Tryd.underlying57 h 5 4 5 1 (by kernel_rfl) (by kernel_rfl)
  obtain ⟨a5, e5⟩ := btrod_b Tryd.underlying4 h5
  obtain ⟨_, _, h6⟩ := btrod_at Tryd.underlying57 h 6 2 6 1 (by kernel_rfl) (by kernel_rfl)
  obtain ⟨a6, e6, _⟩ := btrod_i64 Tryd.underlying2 h6
  obtain ⟨_, _, h7⟩ := btrod_at Tryd.underlying57 h 7 2 7 1 (by kernel_rfl) (by kernel_rfl)
  obtain ⟨a7, e7, _⟩ := btrod_i64 Tryd.underlying2 h7
  match cs, hl with
  | [c0, c1, c2, c3, c4, c5, c6, c7], _ =>
    simp only [List.drop_zero, List.drop_succ_cons, List.take_succ_cons, List.take_zero, List.cons.injEq, and_true] at e0 e1 e2 e3 e4 e5 e6 e7
    refine ⟨⟨a0, a1, a2, a3, a4, a5, a6, a7⟩, ?_⟩
    simp [*]
theorem open_rockC (h : DataW.trod enc Tryd.prog w 0 (fun _ => true) true n 31 cs = some x) : ∃ r : RockR, cs = [.int .i64 r.size.x, .int .i64 r.size.y, .int .i64 r.dens.x, .int .i64 r.dens.y, .int .i64 r.strong.x, .int .i64 r.strong.y, .int .i64 r.spin.x, .int .i64 r.spin.y, .int .i64 r.shape.x, .int .i64 r.shape.y, .bool r.pile] := by
  have hl := btrod_len2 (by kernel_rfl) (by kernel_rfl : Tryd.prog.cellsOf 31 = 11) h
  obtain ⟨_, _, h0⟩ := btrod_at Tryd.underlying31 h 0 29 0 2 (by kernel_rfl) (by kernel_rfl)
  obtain ⟨a0, e0⟩ := open_spanC h0
  obtain ⟨_, _, h1⟩ := btrod_at Tryd.underlying31 h 1 29 2 2 (by kernel_rfl) (by kernel_rfl)
  obtain ⟨a1, e1⟩ := open_spanC h1
  obtain ⟨_, _, h2⟩ := btrod_at Tryd.underlying31 h 2 29 4 2 (by kernel_rfl) (by kernel_rfl)
  obtain ⟨a2, e2⟩ := open_spanC h2
  obtain ⟨_, _, h3⟩ := btrod_at Tryd.underlying31 h 3 29 6 2 (by kernel_rfl) (by kernel_rfl)
  obtain ⟨a3, e3⟩ := open_spanC h3
  obtain ⟨_, _, h4⟩ := btrod_at Tryd.underlying31 h 4 29 8 2 (by kernel_rfl) (by kernel_rfl)
  obtain ⟨a4, e4⟩ := open_spanC h4
  obtain ⟨_, _, h5⟩ := btrod_at Tryd.underlying31 h 5 4 10 1 (by kernel_rfl) (by kernel_rfl)
  obtain ⟨a5, e5⟩ := btrod_b Tryd.underlying4 h5
  match cs, hl with
  | [c0, c1, c2, c3, c4, c5, c6, c7, c8, c9, c10], _ =>
    simp only [List.drop_zero, List.drop_succ_cons, List.take_succ_cons, List.take_zero, List.cons.injEq, and_true] at e0 e1 e2 e3 e4 e5
    refine ⟨⟨a0, a1, a2, a3, a4, a5⟩, ?_⟩
    simp [*]
theorem open_fallC (h : DataW.trod enc Tryd.prog w 0 (fun _ => true) true n 33 cs = some x) : ∃ r : FallR, cs = [.int .i64 r.speed.x, .int .i64 r.speed.y, .int .i64 r.slope.x, .int .i64 r.slope.y] := by
  have hl := btrod_len2 (by kernel_rfl) (by kernel_rfl : Tryd.prog.cellsOf 33 = 4) h
  obtain ⟨_, _, h0⟩ := btrod_at Tryd.underlying33 h 0 29 0 2 (by kernel_rfl) (by kernel_rfl)
  obtain ⟨a0, e0⟩ := open_spanC h0
  obtain ⟨_, _, h1⟩ := btrod_at Tryd.underlying33 h 1 29 2 2 (by kernel_rfl) (by kernel_rfl)
  obtain ⟨a1, e1⟩ := open_spanC h1
  match cs, hl with
  | [c0, c1, c2, c3], _ =>
    simp only [List.drop_zero, List.drop_succ_cons, List.take_succ_cons, List.take_zero, List.cons.injEq, and_true] at e0 e1
    refine ⟨⟨a0, a1⟩, ?_⟩
    simp [*]
theorem open_layersC (h : DataW.trod enc Tryd.prog w 0 (fun _ => true) true n 22 cs = some x) : ∃ p c, ∃ l : List V2, cs = [.slice p l.length c] ∧ l.length < 9223372036854775808 ∧ VecsAt w p l := by
  obtain ⟨p, c, l, rfl, hl, hg, hc⟩ := bopen_rows (fun r : V2 => [.int .i64 r.x, .int .i64 r.y]) (fun _ => True) Tryd.underlying22 (by kernel_rfl : Tryd.prog.cellsOf 90 = 2) (by intro r; simp) (fun m cs y h => by obtain ⟨r, hr⟩ := open_layerC h; exact ⟨r, hr, trivial⟩) h
  refine ⟨p, c, l, rfl, hl, fun j hj => ?_⟩
  obtain ⟨B, o, rfl, hB, hv⟩ := hc j hj
  exact ⟨B, o, rfl, hB, hv 0 _ rfl, hv 1 _ rfl⟩
end
section
variable {H : Type} {enc : TypeId × Value → H} {W : World} {r : Reach} {b : Nat} {v : Value} {d : DataW H} {ps : List MemPlace}
theorem bslice_cells {P : Program} {t e : TypeId} (ht : P.underlying t = some (.slice e)) (hval : Value.okWide P W r b t v) : v.cells = #[v] := by
  simp only [Value.okWide, ht, Cell.okWide, Cell.ok] at hval
  cases v <;> first | rfl | (simp at hval; done) | skip
set_option maxRecDepth 100000 in
theorem open_stoneV (hval : Value.okWide Tryd.prog W r b 57 v) (h : DataW.Trod enc Tryd.prog W 0 (fun _ => true) true 57 v d ps) : ∃ s : StoneR, v = s.val := by
  obtain ⟨cs, rfl, _⟩ := okWide_struct Tryd.underlying57 hval
  obtain ⟨n, h⟩ := h
  obtain ⟨s, hs⟩ := open_stoneC h
  exact ⟨s, congrArg Value.agg (Array.ext' hs)⟩
set_option maxRecDepth 100000 in
theorem open_rockV (hval : Value.okWide Tryd.prog W r b 31 v) (h : DataW.Trod enc Tryd.prog W 0 (fun _ => true) true 31 v d ps) : ∃ s : RockR, v = s.val := by
  obtain ⟨cs, rfl, _⟩ := okWide_struct Tryd.underlying31 hval
  obtain ⟨n, h⟩ := h
  obtain ⟨s, hs⟩ := open_rockC h
  exact ⟨s, congrArg Value.agg (Array.ext' hs)⟩
set_option maxRecDepth 100000 in
theorem open_fallV (hval : Value.okWide Tryd.prog W r b 33 v) (h : DataW.Trod enc Tryd.prog W 0 (fun _ => true) true 33 v d ps) : ∃ s : FallR, v = s.val := by
  obtain ⟨cs, rfl, _⟩ := okWide_struct Tryd.underlying33 hval
  obtain ⟨n, h⟩ := h
  obtain ⟨s, hs⟩ := open_fallC h
  exact ⟨s, congrArg Value.agg (Array.ext' hs)⟩
set_option maxRecDepth 100000 in
theorem open_layersV (hval : Value.okWide Tryd.prog W r b 22 v) (h : DataW.Trod enc Tryd.prog W 0 (fun _ => true) true 22 v d ps) : ∃ p c, ∃ l : List V2, v = .slice p l.length c ∧ l.length < 9223372036854775808 ∧ VecsAt W p l := by
  have hc := bslice_cells Tryd.underlying22 hval
  obtain ⟨n, h⟩ := h
  rw [hc] at h
  obtain ⟨p, c, l, hs, h1, h2⟩ := open_layersC h
  exact ⟨p, c, l, by simpa using hs, h1, h2⟩
end
end Go.Proofs.YtlmhbggigbmeaaaDoor
namespace Go.Proofs.YtlmhbggigbmeaaaDoor
open Go.ChangeShapes Go.WideShapes Go.ChangeAt Go.RowKit Go.Joins Go.Deep
section
variable {H : Type} {enc : TypeId × Value → H} {P : Program} {w : World} {base : Nat} {spare : Nat → Bool} {held : Bool}
theorem bopen_cap {t e : TypeId} {n len cap : Nat} {p : Option Addr} {cs : List Value} {x : DataW H × List MemPlace} (ht : P.underlying t = some (.slice e)) (h : DataW.trod enc P w base spare held n t cs = some x) (he : cs = [.slice p len cap]) : len ≤ cap := by
  rcases open_slice ht h with ⟨e2, _⟩ | ⟨a, len', cap', _, _, _, _, e2, _, hl, _⟩
  · rw [he] at e2
    simp only [List.cons.injEq, Value.slice.injEq, and_true] at e2
    omega
  · rw [he] at e2
    simp only [List.cons.injEq, Value.slice.injEq, and_true] at e2
    omega
end
section
variable {H : Type} {enc : TypeId × Value → H} {w : World} {n : Nat} {cs : List Value} {x : DataW H × List MemPlace}
theorem open_gradeC (h : DataW.trod enc Tryd.prog w 0 (fun _ => true) true n 92 cs = some x) : ∃ r : V2, cs = [.int .i64 r.x, .int .i64 r.y] := by
  have hl := btrod_len2 (by kernel_rfl) (by kernel_rfl : Tryd.prog.cellsOf 92 = 2) h
  obtain ⟨_, _, h0⟩ := btrod_at Tryd.underlying92 h 0 2 0 1 (by kernel_rfl) (by kernel_rfl)
  obtain ⟨a0, e0, _⟩ := btrod_i64 Tryd.underlying2 h0
  obtain ⟨_, _, h1⟩ := btrod_at Tryd.underlying92 h 1 2 1 1 (by kernel_rfl) (by kernel_rfl)
  obtain ⟨a1, e1, _⟩ := btrod_i64 Tryd.underlying2 h1
  match cs, hl with
  | [c0, c1], _ =>
    simp only [List.drop_zero, List.drop_succ_cons, List.take_succ_cons, List.take_zero, List.cons.injEq, and_true] at e0 e1
    refine ⟨⟨a0, a1⟩, ?_⟩
    simp [*]
theorem open_gradesC (h : DataW.trod enc Tryd.prog w 0 (fun _ => true) true n 23 cs = some x) : ∃ p c, ∃ l : List V2, cs = [.slice p l.length c] ∧ l.length < 9223372036854775808 ∧ VecsAt w p l := by
  obtain ⟨p, c, l, rfl, hl, hg, hc⟩ := bopen_rows (fun r : V2 => [.int .i64 r.x, .int .i64 r.y]) (fun _ => True) Tryd.underlying23 (by kernel_rfl : Tryd.prog.cellsOf 92 = 2) (by intro r; simp) (fun m cs y h => by obtain ⟨r, hr⟩ := open_gradeC h; exact ⟨r, hr, trivial⟩) h
  refine ⟨p, c, l, rfl, hl, fun j hj => ?_⟩
  obtain ⟨B, o, rfl, hB, hv⟩ := hc j hj
  exact ⟨B, o, rfl, hB, hv 0 _ rfl, hv 1 _ rfl⟩
theorem open_numsC (h : DataW.trod enc Tryd.prog w 0 (fun _ => true) true n 24 cs = some x) : ∃ p c, ∃ l : List Int, cs = [.slice p l.length c] ∧ l.length < 9223372036854775808 ∧ l.length ≤ c ∧ NumsAt w p l := by
  obtain ⟨p, c, l, rfl, hl, hg, hc⟩ := bopen_rows (fun r : Int => [.int .i64 r]) (fun _ => True) Tryd.underlying24 (by kernel_rfl : Tryd.prog.cellsOf 2 = 1) (by intro r; simp) (fun m cs y h => by obtain ⟨r, hr, _⟩ := btrod_i64 Tryd.underlying2 h; exact ⟨r, hr, trivial⟩) h
  refine ⟨p, c, l, rfl, hl, bopen_cap Tryd.underlying24 h rfl, fun j hj => ?_⟩
  obtain ⟨B, o, rfl, hB, hv⟩ := hc j hj
  exact ⟨B, o, rfl, hB, by simpa using hv 0 _ rfl⟩
theorem open_boolsC (h : DataW.trod enc Tryd.prog w 0 (fun _ => true) true n 25 cs = some x) : ∃ p c, ∃ l : List Bool, cs = [.slice p l.length c] ∧ l.length < 9223372036854775808 ∧ BoolsAt w p l := by
  obtain ⟨p, c, l, rfl, hl, hg, hc⟩ := bopen_rows (fun r : Bool => [.bool r]) (fun _ => True) Tryd.underlying25 (by kernel_rfl : Tryd.prog.cellsOf 4 = 1) (by intro r; simp) (fun m cs y h => by obtain ⟨r, hr⟩ := btrod_b Tryd.underlying4 h; exact ⟨r, hr, trivial⟩) h
  refine ⟨p, c, l, rfl, hl, fun j hj => ?_⟩
  obtain ⟨B, o, rfl, hB, hv⟩ := hc j hj
  exact ⟨B, o, rfl, hB, by simpa using hv 0 _ rfl⟩
theorem open_landC (h : DataW.trod enc Tryd.prog w 0 (fun _ => true) true n 27 cs = some x) : ∃ y : LandR, cs = [.slice y.pp y.pl.length y.pc, .slice y.wp y.wl.length y.wc] ∧ y.At w ∧ y.pl.length < 9223372036854775808 ∧ y.wl.length < 9223372036854775808 := by
  have hl := btrod_len2 (by kernel_rfl) (by kernel_rfl : Tryd.prog.cellsOf 27 = 2) h
  obtain ⟨_, _, h0⟩ := btrod_at Tryd.underlying27 h 0 24 0 1 (by kernel_rfl) (by kernel_rfl)
  obtain ⟨p, c, l, e0, h1, h2, h3⟩ := open_numsC h0
  obtain ⟨_, _, h1'⟩ := btrod_at Tryd.underlying27 h 1 25 1 1 (by kernel_rfl) (by kernel_rfl)
  obtain ⟨q, d, m, e1, h4, h5⟩ := open_boolsC h1'
  match cs, hl with
  | [c0, c1], _ =>
    simp only [List.drop_zero, List.drop_succ_cons, List.take_succ_cons, List.take_zero, List.cons.injEq, and_true] at e0 e1
    refine ⟨⟨p, c, l, q, d, m⟩, ?_, ⟨h3, h5, h2⟩, h1, h4⟩
    simp [*]
end
section
variable {H : Type} {enc : TypeId × Value → H} {W : World} {r : Reach} {b : Nat} {v : Value} {d : DataW H} {ps : List MemPlace}
set_option maxRecDepth 100000 in
theorem open_gradesV (hval : Value.okWide Tryd.prog W r b 23 v) (h : DataW.Trod enc Tryd.prog W 0 (fun _ => true) true 23 v d ps) : ∃ p c, ∃ l : List V2, v = .slice p l.length c ∧ l.length < 9223372036854775808 ∧ VecsAt W p l := by
  have hc := bslice_cells Tryd.underlying23 hval
  obtain ⟨n, h⟩ := h
  rw [hc] at h
  obtain ⟨p, c, l, hs, h1, h2⟩ := open_gradesC h
  exact ⟨p, c, l, by simpa using hs, h1, h2⟩
set_option maxRecDepth 100000 in
theorem open_landV (hval : Value.okWide Tryd.prog W r b 27 v) (h : DataW.Trod enc Tryd.prog W 0 (fun _ => true) true 27 v d ps) : ∃ y : LandR, v = y.val ∧ y.At W ∧ y.pl.length < 9223372036854775808 ∧ y.wl.length < 9223372036854775808 := by
  obtain ⟨cs, rfl, _⟩ := okWide_struct Tryd.underlying27 hval
  obtain ⟨n, h⟩ := h
  obtain ⟨y, hs, h1⟩ := open_landC h
  exact ⟨y, congrArg Value.agg (Array.ext' hs), h1⟩
end
end Go.Proofs.YtlmhbggigbmeaaaDoor

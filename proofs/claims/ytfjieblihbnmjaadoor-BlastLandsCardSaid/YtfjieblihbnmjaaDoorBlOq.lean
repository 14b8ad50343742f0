/- Grades and lands that came in as arguments, as Lean values. Conditions: what the statement's reader says of an argument. -/
import Derived.Test.YtfjieblihbnmjaaDoorBlOp
import Derived.Test.YtfjieblihbnmjaaDoorBlL
namespace Go.Proofs.YtfjieblihbnmjaaDoor
open Go.ChangeShapes Go.WideShapes Go.ChangeAt Go.RowKit Go.Joins Go.Deep
section
variable {H : Type} {enc : TypeId × Value → H} {P : Program} {w : World} {base : Nat} {spare : Nat → Bool} {held : Bool}
theorem bopen_cap {t e : TypeId} {n len cap : Nat} {p : Option Addr} {cs : List Value} {x : DataW H × List MemPlace} (ht : P.underlying t = some (.slice e)) (h : DataW.trod enc P w base spare held n t cs = some x) (he : cs = [.slice p len cap]) : len ≤ cap := by
  rcases open_slice ht h with ⟨e2, _⟩ | ⟨a, len', cap', _, _, _, _, e2, _, hl, _⟩
  · rw [he] at e2
    simp only [List.cons.injEq, Value.slice.injEq, and_true] at e2
    omega
  · rw [he] at e2
    simp only [List.cons.injEq, Value.slice.injEq, and_true] at e2
    omega
end
section
variable {H : Type} {enc : TypeId × Value → H} {w : World} {n : Nat} {cs : List Value} {x : DataW H × List MemPlace}
theorem open_gradeC (h : DataW.trod enc Tryd.prog w 0 (fun _ => true) true n 102 cs = some x) : ∃ r : V2, cs = [.int .i64 r.x, .int .i64 r.y] := by
  have hl := btrod_len2 (by kernel_rfl) (by kernel_rfl : Tryd.prog.cellsOf 102 = 2) h
  obtain ⟨_, _, h0⟩ := btrod_at Tryd.underlying102 h 0 2 0 1 (by kernel_rfl) (by kernel_rfl)
  obtain ⟨a0, e0, _⟩ := btrod_i64 Tryd.underlying2 h0
  obtain ⟨_, _, h1⟩ := btrod_at Tryd.underlying102 h 1 2 1 1 (by kernel_rfl) (by kernel_rfl)
  obtain ⟨a1, e1, _⟩ := btrod_i64 Tryd.underlying2 h1
  match cs, hl with
  | [c0, c1], _ =>
    simp only [List.drop_zero, List.drop_succ_cons, List.take_succ_cons, List.take_zero, List.cons.injEq, and_true] at e0 e1
    refine ⟨⟨a0, a1⟩, ?_⟩
    simp [*]
theorem open_gradesC (h : DataW.trod enc Tryd.prog w 0 (fun _ => true) true n 51 cs = some x) : ∃ p c, ∃ l : List V2, cs = [.slice p l.length c] ∧ l.length < 9223372036854775808 ∧ VecsAt w p l := by
  obtain ⟨p, c, l, rfl, hl, hg, hc⟩ := bopen_rows (fun r : V2 => [.int .i64 r.x, .int .i64 r.y]) (fun _ => True) Tryd.underlying51 (by kernel_rfl : Tryd.prog.cellsOf 102 = 2) (by intro r; simp) (fun m cs y h => by obtain ⟨r, hr⟩ := open_gradeC h; exact ⟨r, hr, trivial⟩) h
  refine ⟨p, c, l, rfl, hl, fun j hj => ?_⟩
  obtain ⟨B, o, rfl, hB, hv⟩ := hc j hj
  exact ⟨B, o, rfl, hB, hv 0 _ rfl, hv 1 _ rfl⟩
theorem open_numsC (h : DataW.trod enc Tryd.prog w 0 (fun _ => true) true n 52 cs = some x) : ∃ p c, ∃ l : List Int, cs = [.slice p l.length c] ∧ l.length < 9223372036854775808 ∧ l.length ≤ c ∧ NumsAt w p l := by
  obtain ⟨p, c, l, rfl, hl, hg, hc⟩ := bopen_rows (fun r : Int => [.int .i64 r]) (fun _ => True) Tryd.underlying52 (by kernel_rfl : Tryd.prog.cellsOf 2 = 1) (by intro r; simp) (fun m cs y h => by obtain ⟨r, hr, _⟩ := btrod_i64 Tryd.underlying2 h; exact ⟨r, hr, trivial⟩) h
  refine ⟨p, c, l, rfl, hl, bopen_cap Tryd.underlying52 h rfl, fun j hj => ?_⟩
  obtain ⟨B, o, rfl, hB, hv⟩ := hc j hj
  exact ⟨B, o, rfl, hB, by simpa using hv 0 _ rfl⟩
theorem open_boolsC (h : DataW.trod enc Tryd.prog w 0 (fun _ => true) true n 53 cs = some x) : ∃ p c, ∃ l : List Bool, cs = [.slice p l.length c] ∧ l.length < 9223372036854775808 ∧ BoolsAt w p l := by
  obtain ⟨p, c, l, rfl, hl, hg, hc⟩ := bopen_rows (fun r : Bool => [.bool r]) (fun _ => True) Tryd.underlying53 (by kernel_rfl : Tryd.prog.cellsOf 4 = 1) (by intro r; simp) (fun m cs y h => by obtain ⟨r, hr⟩ := btrod_b Tryd.underlying4 h; exact ⟨r, hr, trivial⟩) h
  refine ⟨p, c, l, rfl, hl, fun j hj => ?_⟩
  obtain ⟨B, o, rfl, hB, hv⟩ := hc j hj
  exact ⟨B, o, rfl, hB, by simpa using hv 0 _ rfl⟩
theorem open_landC (h : DataW.trod enc Tryd.prog w 0 (fun _ => true) true n 55 cs = some x) : ∃ y : LandR, cs = [.slice y.pp y.pl.length y.pc, .slice y.wp y.wl.length y.wc] ∧ y.At w ∧ y.pl.length < 9223372036854775808 ∧ y.wl.length < 9223372036854775808 := by
  have hl := btrod_len2 (by kernel_rfl) (by kernel_rfl : Tryd.prog.cellsOf 55 = 2) h
  obtain ⟨_, _, h0⟩ := btrod_at Tryd.underlying55 h 0 52 0 1 (by kernel_rfl) (by kernel_rfl)
  obtain ⟨p, c, l, e0, h1, h2, h3⟩ := open_numsC h0
  obtain ⟨_, _, h1'⟩ := btrod_at Tryd.underlying55 h 1 53 1 1 (by kernel_rfl) (by kernel_rfl)
  obtain ⟨q, d, m, e1, h4, h5⟩ := open_boolsC h1'
  match cs, hl with
  | [c0, c1], _ =>
    simp only [List.drop_zero, List.drop_succ_cons, List.take_succ_cons, List.take_zero, List.cons.injEq, and_true] at e0 e1
    refine ⟨⟨p, c, l, q, d, m⟩, ?_, ⟨h3, h5, h2⟩, h1, h4⟩
    simp [*]
end
section
variable {H : Type} {enc : TypeId × Value → H} {W : World} {r : Reach} {b : Nat} {v : Value} {d : DataW H} {ps : List MemPlace}
set_option maxRecDepth 100000 in
theorem open_gradesV (hval : Value.okWide Tryd.prog W r b 51 v) (h : DataW.Trod enc Tryd.prog W 0 (fun _ => true) true 51 v d ps) : ∃ p c, ∃ l : List V2, v = .slice p l.length c ∧ l.length < 9223372036854775808 ∧ VecsAt W p l := by
  have hc := bslice_cells Tryd.underlying51 hval
  obtain ⟨n, h⟩ := h
  rw [hc] at h
  obtain ⟨p, c, l, hs, h1, h2⟩ := open_gradesC h
  exact ⟨p, c, l, by simpa using hs, h1, h2⟩
set_option maxRecDepth 100000 in
theorem open_landV (hval : Value.okWide Tryd.prog W r b 55 v) (h : DataW.Trod enc Tryd.prog W 0 (fun _ => true) true 55 v d ps) : ∃ y : LandR, v = y.val ∧ y.At W ∧ y.pl.length < 9223372036854775808 ∧ y.wl.length < 9223372036854775808 := by
  obtain ⟨cs, rfl, _⟩ := okWide_struct Tryd.underlying55 hval
  obtain ⟨n, h⟩ := h
  obtain ⟨y, hs, h1⟩ := open_landC h
  exact ⟨y, congrArg Value.agg (Array.ext' hs), h1⟩
end
end Go.Proofs.YtfjieblihbnmjaaDoor

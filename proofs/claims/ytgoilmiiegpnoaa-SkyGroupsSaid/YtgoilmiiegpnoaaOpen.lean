/- Worlds, skies, sights and lists of them that came in, as Lean lists. Conditions: what the statement's reader says of an argument. -/
import Derived.Test.YtgoilmiiegpnoaaSkyI
import Derived.Test.YtgoilmiiegpnoaaLawList
import Derived.Test.YtgoilmiiegpnoaaSkyV
import Derived.Deep.Slices
namespace Go.Proofs.Ytgoilmiiegpnoaa
open Go.ChangeShapes Go.WideShapes Go.ChangeAt Go.RowKit Go.Joins Go.Deep
section
variable {H : Type} {enc : TypeId × Value → H} {P : Program} {w : World} {base : Nat} {spare : Nat → Bool} {held : Bool}
theorem trod_field {t : TypeId} {fs : Array Field} {n : Nat} {cs : List Value} {x : DataW H × List MemPlace} (ht : P.underlying t = some (.struct fs)) (h : DataW.trod enc P w base spare held n t cs = some x) (j : Nat) (f : Field) (hj : fs[j]? = some f) :
    ∃ m y, DataW.trod enc P w base spare held m f.type ((cs.drop f.offset).take (P.cellsOf f.type)) = some y := by
  obtain ⟨xs, m, _, _, _, hlen, hf⟩ := DataW.trod_struct ht h
  have hjl : j < fs.size := (Array.getElem?_eq_some_iff.1 hj).1
  exact ⟨m, _, (hf j f hj).trans (List.getElem?_eq_getElem (by omega))⟩
theorem trod_len {t : TypeId} {fs : Array Field} {n : Nat} {cs : List Value} {x : DataW H × List MemPlace} (ht : P.underlying t = some (.struct fs)) (h : DataW.trod enc P w base spare held n t cs = some x) : cs.length = P.cellsOf t := by
  obtain ⟨xs, m, _, _, hl, _⟩ := DataW.trod_struct ht h
  exact hl
theorem trod_i64 {t : TypeId} {n : Nat} {cs : List Value} {x : DataW H × List MemPlace} (ht : P.underlying t = some (.int .i64)) (h : DataW.trod enc P w base spare held n t cs = some x) : ∃ a : Int, cs = [.int .i64 a] ∧ I64 a := by
  obtain ⟨a, rfl, _, hw⟩ := DataW.trod_int ht h
  exact ⟨a, rfl, by unfold I64; simp [Lit.wf, IntKind.min, IntKind.max, IntKind.signed, IntKind.bits] at hw; omega⟩
/-- A slice opened: its elements as a list. -/
theorem open_rows {α : Type} {t e : TypeId} {n k : Nat} {cs : List Value} {x : DataW H × List MemPlace} (enc' : α → List Value) (good : α → Prop) (ht : P.underlying t = some (.slice e)) (hk : P.cellsOf e = k)
    (hne : ∀ r, enc' r ≠ []) (hel : ∀ m cs y, DataW.trod enc P w base spare held m e cs = some y → ∃ r, cs = enc' r ∧ good r) (h : DataW.trod enc P w base spare held n t cs = some x) :
    ∃ p cap, ∃ l : List α, cs = [.slice p l.length cap] ∧ l.length < 9223372036854775808 ∧ (∀ r ∈ l, good r) ∧ ∀ j (hj : j < l.length), ∃ B o, p = some ⟨B, o, none⟩ ∧ B < w.heap.size ∧ ∀ i v, (enc' l[j])[i]? = some v → w.cell? ⟨B, o + j * k + i, none⟩ = some v := by
  rcases open_slice ht h with ⟨rfl, _⟩ | ⟨a, len, cap, m, n', D, Pl, rfl, _, hl, hm, hmm, _, hi⟩
  · exact ⟨none, 0, [], rfl, by simp, by simp, by simp⟩
  · have each : ∀ i : Fin len, ∃ r, w.cells? base (a.add (i * k)) k = some (enc' r) ∧ good r := by
      intro ⟨i, hil⟩
      obtain ⟨cs', h1, h2⟩ := hi i (by rw [hmm]; split <;> omega)
      rw [hk] at h1
      obtain ⟨r, rfl, hr⟩ := hel _ _ _ h2
      exact ⟨r, h1, hr⟩
    classical
    let f : Fin len → α := fun i => Classical.choose (each i)
    have hf : ∀ i : Fin len, w.cells? base (a.add (i * k)) k = some (enc' (f i)) ∧ good (f i) := fun i => Classical.choose_spec (each i)
    refine ⟨some a, cap, List.ofFn f, by simp, by unfold maxLen at hm; simp; omega, ?_, ?_⟩
    · intro r hr
      obtain ⟨i, rfl⟩ := List.mem_ofFn.1 hr
      exact (hf i).2
    · intro j hj
      simp only [List.length_ofFn] at hj
      obtain ⟨hc, _⟩ := hf ⟨j, hj⟩
      obtain ⟨_, hlen, hat⟩ := World.cells?_some hc
      have hcell : ∀ i v, (enc' (f ⟨j, hj⟩))[i]? = some v → w.cell? ((a.add (j * k)).add i) = some v := by
        intro i v hv
        have hik : i < k := by have := (List.getElem?_eq_some_iff.1 hv).1; omega
        exact (hat i hik).trans hv
      have h0 : 0 < (enc' (f ⟨j, hj⟩)).length := List.length_pos_iff.2 (hne _)
      have hs0 := hcell 0 _ (List.getElem?_eq_getElem h0)
      have hs : a.spot = none := by
        obtain ⟨hc0, _⟩ := hf ⟨0, by omega⟩
        obtain ⟨_, hlen0, hat0⟩ := World.cells?_some hc0
        have h00 : 0 < (enc' (f ⟨0, by omega⟩)).length := List.length_pos_iff.2 (hne _)
        have := spot_of_cell ((hat0 0 (by omega)).trans (List.getElem?_eq_getElem h00))
        simpa [Addr.add] using this
      refine ⟨a.block, a.off, by cases a; simp_all, ?_, ?_⟩
      · have := World.block_lt_of_cell? w _ hs0
        simpa [block_add] using this
      · intro i v hv
        have := hcell i v (by simpa using hv)
        rw [add_none hs, add_none rfl] at this
        exact this
end
section
variable {H : Type} {enc : TypeId × Value → H} {P : Program} {w : World} {base : Nat} {spare : Nat → Bool} {held : Bool}
theorem trod_at {t : TypeId} {fs : Array Field} {n : Nat} {cs : List Value} {x : DataW H × List MemPlace} (ht : P.underlying t = some (.struct fs)) (h : DataW.trod enc P w base spare held n t cs = some x) (j : Nat) (T : TypeId) (o k : Nat)
    (hj : (fs[j]?).map (fun f => (f.type, f.offset)) = some (T, o)) (hk : P.cellsOf T = k) : ∃ m y, DataW.trod enc P w base spare held m T ((cs.drop o).take k) = some y := by
  cases hf : fs[j]? with
  | none => rw [hf] at hj; cases hj
  | some f =>
    rw [hf] at hj
    simp only [Option.map_some, Option.some.injEq, Prod.mk.injEq] at hj
    obtain ⟨rfl, rfl⟩ := hj
    subst hk
    exact trod_field ht h j f hf
end
section
variable {H : Type} {enc : TypeId × Value → H} {w : World} {n : Nat} {cs : List Value} {x : DataW H × List MemPlace}
theorem trod_len2 {P : Program} {t : TypeId} {k : Nat} (hs : (match P.underlying t with | some (.struct _) => true | _ => false) = true) (hk : P.cellsOf t = k) (h : DataW.trod enc P w 0 (fun _ => true) true n t cs = some x) : cs.length = k := by
  cases hu : P.underlying t with
  | none => rw [hu] at hs; cases hs
  | some u =>
    cases u <;> rw [hu] at hs <;> first | (cases hs; done) | exact (trod_len hu h).trans hk
def encV (v : V2) : List Value := [.int .i64 v.x, .int .i64 v.y]
def encS (v : V2) : List Value := [.int .i64 v.x, .int .i64 v.y]
def encSt (o : StR) : List Value := [.int .i64 o.id, .int .i64 o.off.x, .int .i64 o.off.y]
def encCat (c : CatR) : List Value := [.int .i64 c.ver, .int .i64 c.lo, .int .i64 c.hi]
def encState (g : StateR) : List Value := [.int .i64 g.x, .int .i64 g.y, .int .i64 g.u, .int .i64 g.v]
def encSight (x : SightR) : List Value := [.int .i64 x.kind, .int .i64 x.st, .int .i64 x.cat, .int .i64 x.tick, .int .i64 x.dir.x, .int .i64 x.dir.y, .int .i64 x.err, .int .i64 x.lo, .int .i64 x.hi]
def encBody (b : BodyR) : List Value := [.int .i64 b.mu, .int .i64 b.rad, .slice b.tp b.track.length b.tc]
def encTr (b : TrR) : List Value := [.slice b.p b.l.length b.c]
theorem open_vec (h : DataW.trod enc Try.prog w 0 (fun _ => true) true n 45 cs = some x) : ∃ r : V2, cs = encV r := by
  have hl := trod_len2 (by kernel_rfl) (by kernel_rfl : Try.prog.cellsOf 45 = 2) h
  obtain ⟨_, _, h0⟩ := trod_at Try.underlying45 h 0 2 0 1 (by kernel_rfl) (by kernel_rfl)
  obtain ⟨a0, e0, _⟩ := trod_i64 Try.underlying2 h0
  obtain ⟨_, _, h1⟩ := trod_at Try.underlying45 h 1 2 1 1 (by kernel_rfl) (by kernel_rfl)
  obtain ⟨a1, e1, _⟩ := trod_i64 Try.underlying2 h1
  match cs, hl with
  | [c0, c1], _ =>
    simp only [List.drop_zero, List.drop_succ_cons, List.take_succ_cons, List.take_zero, List.cons.injEq, and_true] at e0 e1
    refine ⟨⟨a0, a1⟩, ?_⟩
    unfold encV; simp [*]
theorem open_span (h : DataW.trod enc Try.prog w 0 (fun _ => true) true n 94 cs = some x) : ∃ r : V2, cs = encS r := by
  have hl := trod_len2 (by kernel_rfl) (by kernel_rfl : Try.prog.cellsOf 94 = 2) h
  obtain ⟨_, _, h0⟩ := trod_at Try.underlying94 h 0 2 0 1 (by kernel_rfl) (by kernel_rfl)
  obtain ⟨a0, e0, _⟩ := trod_i64 Try.underlying2 h0
  obtain ⟨_, _, h1⟩ := trod_at Try.underlying94 h 1 2 1 1 (by kernel_rfl) (by kernel_rfl)
  obtain ⟨a1, e1, _⟩ := trod_i64 Try.underlying2 h1
  match cs, hl with
  | [c0, c1], _ =>
    simp only [List.drop_zero, List.drop_succ_cons, List.take_succ_cons, List.take_zero, List.cons.injEq, and_true] at e0 e1
    refine ⟨⟨a0, a1⟩, ?_⟩
    unfold encS; simp [*]
theorem open_st (h : DataW.trod enc Try.prog w 0 (fun _ => true) true n 92 cs = some x) : ∃ r : StR, cs = encSt r := by
  have hl := trod_len2 (by kernel_rfl) (by kernel_rfl : Try.prog.cellsOf 92 = 3) h
  obtain ⟨_, _, h0⟩ := trod_at Try.underlying92 h 0 3 0 1 (by kernel_rfl) (by kernel_rfl)
  obtain ⟨a0, e0, _⟩ := trod_i64 Try.underlying3 h0
  obtain ⟨_, _, h1⟩ := trod_at Try.underlying92 h 1 45 1 2 (by kernel_rfl) (by kernel_rfl)
  obtain ⟨a1, e1⟩ := open_vec h1
  match cs, hl with
  | [c0, c1, c2], _ =>
    simp only [List.drop_zero, List.drop_succ_cons, List.take_succ_cons, List.take_zero, encV, List.cons.injEq, and_true] at e0 e1
    refine ⟨⟨a0, a1⟩, ?_⟩
    unfold encSt; simp [*]
theorem open_cat (h : DataW.trod enc Try.prog w 0 (fun _ => true) true n 96 cs = some x) : ∃ r : CatR, cs = encCat r := by
  have hl := trod_len2 (by kernel_rfl) (by kernel_rfl : Try.prog.cellsOf 96 = 3) h
  obtain ⟨_, _, h0⟩ := trod_at Try.underlying96 h 0 3 0 1 (by kernel_rfl) (by kernel_rfl)
  obtain ⟨a0, e0, _⟩ := trod_i64 Try.underlying3 h0
  obtain ⟨_, _, h1⟩ := trod_at Try.underlying96 h 1 94 1 2 (by kernel_rfl) (by kernel_rfl)
  obtain ⟨a1, e1⟩ := open_span h1
  match cs, hl with
  | [c0, c1, c2], _ =>
    simp only [List.drop_zero, List.drop_succ_cons, List.take_succ_cons, List.take_zero, encS, List.cons.injEq, and_true] at e0 e1
    refine ⟨⟨a0, a1.x, a1.y⟩, ?_⟩
    unfold encCat; simp [*]
theorem open_state (h : DataW.trod enc Try.prog w 0 (fun _ => true) true n 41 cs = some x) : ∃ r : StateR, cs = encState r := by
  have hl := trod_len2 (by kernel_rfl) (by kernel_rfl : Try.prog.cellsOf 41 = 4) h
  obtain ⟨_, _, h0⟩ := trod_at Try.underlying41 h 0 2 0 1 (by kernel_rfl) (by kernel_rfl)
  obtain ⟨a0, e0, _⟩ := trod_i64 Try.underlying2 h0
  obtain ⟨_, _, h1⟩ := trod_at Try.underlying41 h 1 2 1 1 (by kernel_rfl) (by kernel_rfl)
  obtain ⟨a1, e1, _⟩ := trod_i64 Try.underlying2 h1
  obtain ⟨_, _, h2⟩ := trod_at Try.underlying41 h 2 2 2 1 (by kernel_rfl) (by kernel_rfl)
  obtain ⟨a2, e2, _⟩ := trod_i64 Try.underlying2 h2
  obtain ⟨_, _, h3⟩ := trod_at Try.underlying41 h 3 2 3 1 (by kernel_rfl) (by kernel_rfl)
  obtain ⟨a3, e3, _⟩ := trod_i64 Try.underlying2 h3
  match cs, hl with
  | [c0, c1, c2, c3], _ =>
    simp only [List.drop_zero, List.drop_succ_cons, List.take_succ_cons, List.take_zero, List.cons.injEq, and_true] at e0 e1 e2 e3
    refine ⟨⟨a0, a1, a2, a3⟩, ?_⟩
    unfold encState; simp [*]
theorem open_sight (h : DataW.trod enc Try.prog w 0 (fun _ => true) true n 47 cs = some x) : ∃ r : SightR, cs = encSight r := by
  have hl := trod_len2 (by kernel_rfl) (by kernel_rfl : Try.prog.cellsOf 47 = 9) h
  obtain ⟨_, _, h0⟩ := trod_at Try.underlying47 h 0 3 0 1 (by kernel_rfl) (by kernel_rfl)
  obtain ⟨a0, e0, _⟩ := trod_i64 Try.underlying3 h0
  obtain ⟨_, _, h1⟩ := trod_at Try.underlying47 h 1 3 1 1 (by kernel_rfl) (by kernel_rfl)
  obtain ⟨a1, e1, _⟩ := trod_i64 Try.underlying3 h1
  obtain ⟨_, _, h2⟩ := trod_at Try.underlying47 h 2 3 2 1 (by kernel_rfl) (by kernel_rfl)
  obtain ⟨a2, e2, _⟩ := trod_i64 Try.underlying3 h2
  obtain ⟨_, _, h3⟩ := trod_at Try.underlying47 h 3 2 3 1 (by kernel_rfl) (by kernel_rfl)
  obtain ⟨a3, e3, _⟩ := trod_i64 Try.underlying2 h3
  obtain ⟨_, _, h4⟩ := trod_at Try.underlying47 h 4 45 4 2 (by kernel_rfl) (by kernel_rfl)
  obtain ⟨a4, e4⟩ := open_vec h4
  obtain ⟨_, _, h5⟩ := trod_at Try.underlying47 h 5 2 6 1 (by kernel_rfl) (by kernel_rfl)
  obtain ⟨a5, e5, _⟩ := trod_i64 Try.underlying2 h5
  obtain ⟨_, _, h6⟩ := trod_at Try.underlying47 h 6 2 7 1 (by kernel_rfl) (by kernel_rfl)
  obtain ⟨a6, e6, _⟩ := trod_i64 Try.underlying2 h6
  obtain ⟨_, _, h7⟩ := trod_at Try.underlying47 h 7 2 8 1 (by kernel_rfl) (by kernel_rfl)
  obtain ⟨a7, e7, _⟩ := trod_i64 Try.underlying2 h7
  match cs, hl with
  | [c0, c1, c2, c3, c4, c5, c6, c7, c8], _ =>
    simp only [List.drop_zero, List.drop_succ_cons, List.take_succ_cons, List.take_zero, encV, List.cons.injEq, and_true] at e0 e1 e2 e3 e4 e5 e6 e7
    refine ⟨⟨a0, a1, a2, a3, a4, a5, a6, a7⟩, ?_⟩
    unfold encSight; simp [*]
theorem open_vecs (h : DataW.trod enc Try.prog w 0 (fun _ => true) true n 87 cs = some x) : ∃ p c, ∃ l : List V2, cs = [.slice p l.length c] ∧ l.length < 9223372036854775808 ∧ VecsAt w p l := by
  obtain ⟨p, c, l, rfl, hl, hg, hc⟩ := open_rows encV (fun _ => True) Try.underlying87 (by kernel_rfl : Try.prog.cellsOf 45 = 2) (by intro r; unfold encV; simp) (fun m cs y h => by obtain ⟨r, hr⟩ := open_vec h; exact ⟨r, hr, trivial⟩) h
  refine ⟨p, c, l, rfl, hl, fun j hj => ?_⟩
  obtain ⟨B, o, rfl, hB, hv⟩ := hc j hj
  exact ⟨B, o, rfl, hB, hv 0 _ rfl, hv 1 _ rfl⟩
theorem open_sts (h : DataW.trod enc Try.prog w 0 (fun _ => true) true n 26 cs = some x) : ∃ p c, ∃ l : List StR, cs = [.slice p l.length c] ∧ l.length < 9223372036854775808 ∧ StsAt w p l := by
  obtain ⟨p, c, l, rfl, hl, hg, hc⟩ := open_rows encSt (fun _ => True) Try.underlying26 (by kernel_rfl : Try.prog.cellsOf 92 = 3) (by intro r; unfold encSt; simp) (fun m cs y h => by obtain ⟨r, hr⟩ := open_st h; exact ⟨r, hr, trivial⟩) h
  refine ⟨p, c, l, rfl, hl, fun j hj => ?_⟩
  obtain ⟨B, o, rfl, hB, hv⟩ := hc j hj
  exact ⟨B, o, rfl, hB, hv 0 _ rfl, hv 1 _ rfl, hv 2 _ rfl⟩
theorem open_cats (h : DataW.trod enc Try.prog w 0 (fun _ => true) true n 27 cs = some x) : ∃ p c, ∃ l : List CatR, cs = [.slice p l.length c] ∧ l.length < 9223372036854775808 ∧ CatsAt w p l := by
  obtain ⟨p, c, l, rfl, hl, hg, hc⟩ := open_rows encCat (fun _ => True) Try.underlying27 (by kernel_rfl : Try.prog.cellsOf 96 = 3) (by intro r; unfold encCat; simp) (fun m cs y h => by obtain ⟨r, hr⟩ := open_cat h; exact ⟨r, hr, trivial⟩) h
  refine ⟨p, c, l, rfl, hl, fun j hj => ?_⟩
  obtain ⟨B, o, rfl, hB, hv⟩ := hc j hj
  exact ⟨B, o, rfl, hB, hv 0 _ rfl, hv 1 _ rfl, hv 2 _ rfl⟩
theorem open_states (h : DataW.trod enc Try.prog w 0 (fun _ => true) true n 31 cs = some x) : ∃ p c, ∃ l : List StateR, cs = [.slice p l.length c] ∧ l.length < 9223372036854775808 ∧ StatesAt w p l := by
  obtain ⟨p, c, l, rfl, hl, hg, hc⟩ := open_rows encState (fun _ => True) Try.underlying31 (by kernel_rfl : Try.prog.cellsOf 41 = 4) (by intro r; unfold encState; simp) (fun m cs y h => by obtain ⟨r, hr⟩ := open_state h; exact ⟨r, hr, trivial⟩) h
  refine ⟨p, c, l, rfl, hl, fun j hj => ?_⟩
  obtain ⟨B, o, rfl, hB, hv⟩ := hc j hj
  exact ⟨B, o, rfl, hB, hv 0 _ rfl, hv 1 _ rfl, hv 2 _ rfl, hv 3 _ rfl⟩
theorem open_sights (h : DataW.trod enc Try.prog w 0 (fun _ => true) true n 34 cs = some x) : ∃ p c, ∃ l : List SightR, cs = [.slice p l.length c] ∧ l.length < 9223372036854775808 ∧ SightsAt w p l := by
  obtain ⟨p, c, l, rfl, hl, hg, hc⟩ := open_rows encSight (fun _ => True) Try.underlying34 (by kernel_rfl : Try.prog.cellsOf 47 = 9) (by intro r; unfold encSight; simp) (fun m cs y h => by obtain ⟨r, hr⟩ := open_sight h; exact ⟨r, hr, trivial⟩) h
  refine ⟨p, c, l, rfl, hl, fun j hj => ?_⟩
  obtain ⟨B, o, rfl, hB, hv⟩ := hc j hj
  exact ⟨B, o, rfl, hB, hv 0 _ rfl, hv 1 _ rfl, hv 2 _ rfl, hv 3 _ rfl, hv 4 _ rfl, hv 5 _ rfl, hv 6 _ rfl, hv 7 _ rfl, hv 8 _ rfl⟩
theorem open_body (h : DataW.trod enc Try.prog w 0 (fun _ => true) true n 89 cs = some x) : ∃ r : BodyR, cs = encBody r ∧ VecsAt w r.tp r.track ∧ r.track.length < 9223372036854775808 := by
  have hl := trod_len2 (by kernel_rfl) (by kernel_rfl : Try.prog.cellsOf 89 = 3) h
  obtain ⟨_, _, h0⟩ := trod_at Try.underlying89 h 0 2 0 1 (by kernel_rfl) (by kernel_rfl)
  obtain ⟨a0, e0, _⟩ := trod_i64 Try.underlying2 h0
  obtain ⟨_, _, h1⟩ := trod_at Try.underlying89 h 1 2 1 1 (by kernel_rfl) (by kernel_rfl)
  obtain ⟨a1, e1, _⟩ := trod_i64 Try.underlying2 h1
  obtain ⟨_, _, h2⟩ := trod_at Try.underlying89 h 2 87 2 1 (by kernel_rfl) (by kernel_rfl)
  obtain ⟨p, c, l, e2, hln, hv⟩ := open_vecs h2
  match cs, hl with
  | [c0, c1, c2], _ =>
    simp only [List.drop_zero, List.drop_succ_cons, List.take_succ_cons, List.take_zero, List.cons.injEq, and_true] at e0 e1 e2
    exact ⟨⟨a0, a1, p, c, l⟩, by unfold encBody; simp [*], hv, hln⟩
theorem open_bodies (h : DataW.trod enc Try.prog w 0 (fun _ => true) true n 23 cs = some x) : ∃ p c, ∃ l : List BodyR, cs = [.slice p l.length c] ∧ l.length < 9223372036854775808 ∧ BodiesAt w p l ∧ (∀ b ∈ l, b.track.length < 9223372036854775808) := by
  obtain ⟨p, c, l, rfl, hl, hg, hc⟩ := open_rows encBody (fun r => VecsAt w r.tp r.track ∧ r.track.length < 9223372036854775808) Try.underlying23 (by kernel_rfl : Try.prog.cellsOf 89 = 3) (by intro r; unfold encBody; simp) (fun m cs y h => by exact open_body h) h
  refine ⟨p, c, l, rfl, hl, fun j hj => ?_, fun b hb => (hg b hb).2⟩
  obtain ⟨B, o, rfl, hB, hv⟩ := hc j hj
  exact ⟨(hg _ (List.getElem_mem hj)).1, B, o, rfl, hB, hv 0 _ rfl, hv 1 _ rfl, hv 2 _ rfl⟩
theorem open_tr (h : DataW.trod enc Try.prog w 0 (fun _ => true) true n 34 cs = some x) : ∃ r : TrR, cs = encTr r ∧ SightsAt w r.p r.l ∧ r.l.length < 9223372036854775808 := by
  obtain ⟨p, c, l, rfl, hl, hs⟩ := open_sights h
  exact ⟨⟨p, c, l⟩, rfl, hs, hl⟩
theorem open_trs (h : DataW.trod enc Try.prog w 0 (fun _ => true) true n 30 cs = some x) : ∃ p c, ∃ l : List TrR, cs = [.slice p l.length c] ∧ l.length < 9223372036854775808 ∧ TracksAt w p l ∧ (∀ b ∈ l, b.l.length < 9223372036854775808) := by
  obtain ⟨p, c, l, rfl, hl, hg, hc⟩ := open_rows encTr (fun r => SightsAt w r.p r.l ∧ r.l.length < 9223372036854775808) Try.underlying30 (by kernel_rfl : Try.prog.cellsOf 34 = 1) (by intro r; unfold encTr; simp) (fun m cs y h => by exact open_tr h) h
  refine ⟨p, c, l, rfl, hl, fun j hj => ?_, fun b hb => (hg b hb).2⟩
  obtain ⟨B, o, rfl, hB, hv⟩ := hc j hj
  exact ⟨(hg _ (List.getElem_mem hj)).1, B, o, rfl, hB, by simpa using hv 0 _ rfl⟩
/-- What came in is no longer than lists are. -/
structure SkyR.Fits (s : SkyR) : Prop where
  fb : s.bodies.length < 9223372036854775808
  ft : ∀ b ∈ s.bodies, b.track.length < 9223372036854775808
  fs : s.sts.length < 9223372036854775808
  fc : s.cats.length < 9223372036854775808
theorem open_world (h : DataW.trod enc Try.prog w 0 (fun _ => true) true n 25 cs = some x) : ∃ p c, ∃ l : List BodyR, ∃ hm : Int, cs = [.slice p l.length c, .int .i64 hm] ∧ l.length < 9223372036854775808 ∧ BodiesAt w p l ∧ (∀ b ∈ l, b.track.length < 9223372036854775808) := by
  have hl := trod_len2 (by kernel_rfl) (by kernel_rfl : Try.prog.cellsOf 25 = 2) h
  obtain ⟨_, _, h0⟩ := trod_at Try.underlying25 h 0 23 0 1 (by kernel_rfl) (by kernel_rfl)
  obtain ⟨p, c, l, e0, hln, hv, ht⟩ := open_bodies h0
  obtain ⟨_, _, h1⟩ := trod_at Try.underlying25 h 1 3 1 1 (by kernel_rfl) (by kernel_rfl)
  obtain ⟨a1, e1, _⟩ := trod_i64 Try.underlying3 h1
  match cs, hl with
  | [c0, c1], _ =>
    simp only [List.drop_zero, List.drop_succ_cons, List.take_succ_cons, List.take_zero, List.cons.injEq, and_true] at e0 e1
    exact ⟨p, c, l, a1, by simp [*], hln, hv, ht⟩
theorem open_skyC (h : DataW.trod enc Try.prog w 0 (fun _ => true) true n 29 cs = some x) : ∃ s : SkyR, cs = [.slice s.bp s.bodies.length s.bc, .int .i64 s.home, .slice s.sp s.sts.length s.sc, .slice s.cp s.cats.length s.cc] ∧ s.At w ∧ s.Fits := by
  have hl := trod_len2 (by kernel_rfl) (by kernel_rfl : Try.prog.cellsOf 29 = 4) h
  obtain ⟨_, _, h0⟩ := trod_at Try.underlying29 h 0 25 0 2 (by kernel_rfl) (by kernel_rfl)
  obtain ⟨p, c, l, hm, e0, hln, hv, ht⟩ := open_world h0
  obtain ⟨_, _, h1⟩ := trod_at Try.underlying29 h 1 26 2 1 (by kernel_rfl) (by kernel_rfl)
  obtain ⟨p1, c1, l1, e1, hln1, hv1⟩ := open_sts h1
  obtain ⟨_, _, h2⟩ := trod_at Try.underlying29 h 2 27 3 1 (by kernel_rfl) (by kernel_rfl)
  obtain ⟨p2, c2, l2, e2, hln2, hv2⟩ := open_cats h2
  match cs, hl with
  | [d0, d1, d2, d3], _ =>
    simp only [List.drop_zero, List.drop_succ_cons, List.take_succ_cons, List.take_zero, List.cons.injEq, and_true] at e0 e1 e2
    exact ⟨⟨p, c, l, hm, p1, c1, l1, p2, c2, l2⟩, by simp [*], ⟨hv, hv1, hv2⟩, ⟨hln, ht, hln1, hln2⟩⟩
end
section
variable {H : Type} {enc : TypeId × Value → H} {W : World} {r : Reach} {b : Nat} {v : Value} {d : DataW H} {ps : List MemPlace}
theorem slice_cells {P : Program} {t e : TypeId} (ht : P.underlying t = some (.slice e)) (hval : Value.okWide P W r b t v) : v.cells = #[v] := by
  simp only [Value.okWide, ht, Cell.okWide, Cell.ok] at hval
  cases v <;> first | rfl | (simp at hval; done) | skip
set_option maxRecDepth 100000 in
theorem open_sky (hval : Value.okWide Try.prog W r b 29 v) (h : DataW.Trod enc Try.prog W 0 (fun _ => true) true 29 v d ps) : ∃ s : SkyR, v = s.val ∧ s.At W ∧ s.Fits := by
  obtain ⟨cs, rfl, _⟩ := okWide_struct Try.underlying29 hval
  obtain ⟨n, h⟩ := h
  obtain ⟨s, hs, hA, hF⟩ := open_skyC h
  exact ⟨s, congrArg Value.agg (Array.ext' hs), hA, hF⟩
set_option maxRecDepth 100000 in
theorem open_worldV (hval : Value.okWide Try.prog W r b 25 v) (h : DataW.Trod enc Try.prog W 0 (fun _ => true) true 25 v d ps) : ∃ p c, ∃ l : List BodyR, ∃ hm : Int, v = wval p l.length c hm ∧ l.length < 9223372036854775808 ∧ BodiesAt W p l ∧ (∀ b ∈ l, b.track.length < 9223372036854775808) := by
  obtain ⟨cs, rfl, _⟩ := okWide_struct Try.underlying25 hval
  obtain ⟨n, h⟩ := h
  obtain ⟨p, c, l, hm, hs, h1, h2, h3⟩ := open_world h
  exact ⟨p, c, l, hm, congrArg Value.agg (Array.ext' hs), h1, h2, h3⟩
set_option maxRecDepth 100000 in
theorem open_sightsV (hval : Value.okWide Try.prog W r b 34 v) (h : DataW.Trod enc Try.prog W 0 (fun _ => true) true 34 v d ps) : ∃ t : TrR, v = .slice t.p t.l.length t.c ∧ t.l.length < 9223372036854775808 ∧ SightsAt W t.p t.l := by
  have hc := slice_cells Try.underlying34 hval
  obtain ⟨n, h⟩ := h
  rw [hc] at h
  obtain ⟨p, c, l, hs, h1, h2⟩ := open_sights h
  exact ⟨⟨p, c, l⟩, by simpa using hs, h1, h2⟩
set_option maxRecDepth 100000 in
theorem open_statesV (hval : Value.okWide Try.prog W r b 31 v) (h : DataW.Trod enc Try.prog W 0 (fun _ => true) true 31 v d ps) : ∃ p c, ∃ l : List StateR, v = .slice p l.length c ∧ l.length < 9223372036854775808 ∧ StatesAt W p l := by
  have hc := slice_cells Try.underlying31 hval
  obtain ⟨n, h⟩ := h
  rw [hc] at h
  obtain ⟨p, c, l, hs, h1, h2⟩ := open_states h
  exact ⟨p, c, l, by simpa using hs, h1, h2⟩
set_option maxRecDepth 100000 in
theorem open_trsV (hval : Value.okWide Try.prog W r b 30 v) (h : DataW.Trod enc Try.prog W 0 (fun _ => true) true 30 v d ps) : ∃ p c, ∃ l : List TrR, v = .slice p l.length c ∧ l.length < 9223372036854775808 ∧ TracksAt W p l ∧ (∀ b ∈ l, b.l.length < 9223372036854775808) := by
  have hc := slice_cells Try.underlying30 hval
  obtain ⟨n, h⟩ := h
  rw [hc] at h
  obtain ⟨p, c, l, hs, h1, h2, h3⟩ := open_trs h
  exact ⟨p, c, l, by simpa using hs, h1, h2, h3⟩
end
end Go.Proofs.Ytgoilmiiegpnoaa

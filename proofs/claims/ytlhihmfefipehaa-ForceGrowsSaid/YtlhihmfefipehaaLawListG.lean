/- A world, a drift and an area that a statement of layer 3 makes of a ring, in boxes; what the questions about them return. Condition: none. From a law's contract ('it returns true, and nothing that was there has turned') to what its statement asks of one call. A list of whole numbers that came in, as the ring wants it. -/
import Derived.Test.YtlhihmfefipehaaFoQ
import Derived.Test.YtlhihmfefipehaaFoR
import Derived.Test.YtlhihmfefipehaaSkyOf
import Derived.Test.YtlhihmfefipehaaRows
import Derived.Test.YtlhihmfefipehaaBase
import Derived.WalkKit
import Derived.ProofKit
import Derived.OpenShut
import Derived.Carry
import Derived.JoinedOf
import Derived.JoinedAt
import Derived.RowKit3
import Derived.Lib.SmallJoins
import Derived.Test.YtlhihmfefipehaaSkyMG
import Derived.ChangeSlices
namespace Go.Proofs.Ytlhihmfefipehaa
open Go.RowKit Go.Shelf
def WorldP (s : SkyR) : World → Prop := fun W' => BodiesAt W' s.bp s.bodies
/-- A world, a drift and an area in boxes from WB on, made of the ring in block b; a sum in block SB. -/
structure Made3 (b : Nat) (w0 W : World) (WB m : Nat) (s : SkyR) (d : DriftR) (a1 a2 a3 a4 : Int) (lo hi : Nat) : Prop where
  held : Held (WorldP s) lo hi W
  blo : b < lo
  bW : b < WB
  hiW : hi ≤ WB
  lw : w0.heap.size ≤ b
  rw_ : W.heap[WB]? = some (.cells #[.slice s.bp s.bodies.length s.bc, .int .i64 s.home] 25 (0, 0))
  rd : W.heap[WB + 1]? = some (.cells #[.int .i64 d.ll, .int .i64 d.lh, .int .i64 d.hl, .int .i64 d.hh, .int .i64 d.gas] 31 (0, 0))
  ra : W.heap[WB + 1 + 1]? = some (.cells #[.int .i64 a1, .int .i64 a2, .int .i64 a3, .int .i64 a4] 33 (0, 0))
  ring : RingM W b m
  bel : BelowX b w0.heap.size w0 W
section
variable {b WB m lo hi : Nat} {w0 W : World} {s : SkyR} {d : DriftR} {a1 a2 a3 a4 : Int}
theorem Made3.ext (h : Made3 b w0 W WB m s d a1 a2 a3 a4 lo hi) (y : Ext W) : Made3 b w0 y.now WB m s d a1 a2 a3 a4 lo hi :=
  ⟨h.held.ext y, h.blo, h.bW, h.hiW, h.lw, (y.grew.block _ (row_ltQ h.rw_)).trans h.rw_, (y.grew.block _ (row_ltQ h.rd)).trans h.rd, (y.grew.block _ (row_ltQ h.ra)).trans h.ra, h.ring.ext y, h.bel.trans (.of (y.grew.mono h.bel.size))⟩
theorem Made3.on {W' : World} (h : Made3 b w0 W WB m s d a1 a2 a3 a4 lo hi) (y : Below W.heap.size W W') : Made3 b w0 W' WB m s d a1 a2 a3 a4 lo hi := h.ext ⟨W', y⟩
theorem Made3.alloc (h : Made3 b w0 W WB m s d a1 a2 a3 a4 lo hi) (o : Obj) : Made3 b w0 (W.alloc o) WB m s d a1 a2 a3 a4 lo hi := h.on ((Below.refl _ _).alloc (Nat.le_refl _) o)
theorem Made3.rext {m' : Nat} (h : Made3 b w0 W WB m s d a1 a2 a3 a4 lo hi) (y : RExt W b) (hr : RingM y.now b m') : Made3 b w0 y.now WB m' s d a1 a2 a3 a4 lo hi := by
  have h1 := h.bW
  exact ⟨h.held.rext h.blo y, h.blo, h.bW, h.hiW, h.lw, (y.grew.block _ (row_ltQ h.rw_) (by omega)).trans h.rw_, (y.grew.block _ (row_ltQ h.rd) (by omega)).trans h.rd, (y.grew.block _ (row_ltQ h.ra) (by omega)).trans h.ra, hr, h.bel.trans (y.grew.mono h.bel.size)⟩
/-- A box above is written. -/
theorem Made3.set {g : Nat} (h : Made3 b w0 W WB m s d a1 a2 a3 a4 lo hi) (hg : WB + 1 + 1 < g) (o : Nat) (v : Value) : Made3 b w0 (W.setCell ⟨g, o, none⟩ v) WB m s d a1 a2 a3 a4 lo hi := by
  have h1 := h.bW
  have h2 := h.hiW
  have h3 := h.lw
  exact ⟨h.held.set (.inr (by omega)) o v, h.blo, h.bW, h.hiW, h.lw, (heap_setCellQ (by omega) v).trans h.rw_, (heap_setCellQ (by omega) v).trans h.rd, (heap_setCellQ (by omega) v).trans h.ra, h.ring.set v (by omega), h.bel.setCell (show w0.heap.size ≤ g by omega) v⟩
theorem Made3.set4 {g : Nat} (h : Made3 b w0 W WB m s d a1 a2 a3 a4 lo hi) (hg : WB + 1 + 1 < g) (u : A4) : Made3 b w0 (set4 W g u) WB m s d a1 a2 a3 a4 lo hi := (((h.set hg 0 _).set hg 1 _).set hg 2 _).set hg 3 _
/-- The boxes, made behind calls that took of the ring. -/
theorem made3_of {X WS WT : World} (hB : BelowX b w0.heap.size w0 X) (hb : b < X.heap.size) (hlw : w0.heap.size ≤ b) (hS : Held (WorldP s) X.heap.size WS.heap.size WS) (y : BelowX b WS.heap.size WS WT) (y0 : BelowX b X.heap.size X WT) (hr : RingM WT b m) :
    Made3 b w0 (((WT.alloc (.cells #[.slice s.bp s.bodies.length s.bc, .int .i64 s.home] 25)).alloc (.cells #[.int .i64 d.ll, .int .i64 d.lh, .int .i64 d.hl, .int .i64 d.hh, .int .i64 d.gas] 31)).alloc (.cells #[.int .i64 a1, .int .i64 a2, .int .i64 a3, .int .i64 a4] 33)) WT.heap.size m s d a1 a2 a3 a4 X.heap.size WS.heap.size := by
  have s1 := y.size
  have s0 := y0.size
  have hT : Held (WorldP s) X.heap.size WS.heap.size WT := hS.on (by omega) fun B o h1 h2 => y.cell h2 (by omega)
  refine ⟨((hT.alloc _).alloc _).alloc _, hb, by omega, s1, hlw, (heap_alloc_old _ _ (by simp only [World.size_alloc]; omega)).trans ((heap_alloc_old _ _ (by simp only [World.size_alloc]; omega)).trans (heap_alloc_new _ _)), (heap_alloc_old _ _ (by simp only [World.size_alloc]; omega)).trans ?_, ?_, ((hr.alloc _).alloc _).alloc _, ?_⟩
  · have h9 := heap_alloc_new (WT.alloc (.cells #[.slice s.bp s.bodies.length s.bc, .int .i64 s.home] 25)) (.cells #[.int .i64 d.ll, .int .i64 d.lh, .int .i64 d.hl, .int .i64 d.hh, .int .i64 d.gas] 31)
    simpa only [World.size_alloc] using h9
  · have h9 := heap_alloc_new ((WT.alloc (.cells #[.slice s.bp s.bodies.length s.bc, .int .i64 s.home] 25)).alloc (.cells #[.int .i64 d.ll, .int .i64 d.lh, .int .i64 d.hl, .int .i64 d.hh, .int .i64 d.gas] 31)) (.cells #[.int .i64 a1, .int .i64 a2, .int .i64 a3, .int .i64 a4] 33)
    simpa only [World.size_alloc] using h9
  · exact (((hB.trans (y0.mono hB.size)).alloc (by have := hB.size; omega) _).alloc (by have := hB.size; simp only [World.size_alloc]; omega) _).alloc (by have := hB.size; simp only [World.size_alloc]; omega) _
end
/-- A right question has no error. -/
theorem ask_make {l : List BodyR} {h e t a b c d : Int} (hw : worldE l h = 0) (he : e = 0) (ht : 0 ≤ t ∧ t ≤ 1073741824) (ha : ArIn a b c d 33554432) : askE l h e t a b c d = 0 := by
  obtain ⟨x0, x1, x2, y0, y1, y2⟩ := ha
  have h1 : chkA a b c d = 0 := by
    unfold chkA chkB farB
    rw [if_pos ((chk_ok a b).2 ⟨by omega, by omega, x1⟩), if_pos ((chk_ok c d).2 ⟨by omega, by omega, y1⟩), if_pos (by simp; omega)]
  have h2 : placeB a b c d = true := by
    unfold placeB insideB
    rw [chkB_num (by omega) (by omega) x1 (by omega) (by omega) (by omega), chkB_num (by omega) (by omega) y1 (by omega) (by omega) (by omega)]
    simp; omega
  unfold askE
  rw [if_pos hw, if_pos he, if_pos (tickB_out.2 ht), if_pos h1, if_pos h2]
end Go.Proofs.Ytlhihmfefipehaa
namespace Go.Proofs.Ytlhihmfefipehaa
open Go.ChangeShapes Go.WideShapes Go.ChangeAt Go.RowKit Go.Joins
section
variable {H : Type} {enc : TypeId × Value → H} {P : Program}
theorem trodAll_kept (hl : laidOutB P = true) {W W' : World} {sp : Nat → Bool} : ∀ {ts : List TypeId} {vs : List Value} {ds : List (DataW H)} {ps : List MemPlace}, (∀ t ∈ ts, P.readableRec t = true ∧ t < P.types.size) →
    DataW.TrodAll enc P W 0 (fun _ => true) true ts vs ds ps → Below W.heap.size W W' → (∀ p ∈ ps, p.block < W.heap.size) → (∀ p ∈ ps, sp p.block = true) → DataW.TrodAll enc P W' 0 sp true ts vs ds ps
  | [], _, _, _, _, h, _, _, _ => by
    obtain ⟨rfl, rfl, rfl⟩ := trodAll_nil h
    exact trodAll_mk0
  | t :: ts, _, _, _, hr, h, hb, hlt, hsp => by
    obtain ⟨v, vs, d, ds, p, q, rfl, rfl, rfl, h0, h1⟩ := trodAll_cons h
    have ht := hr t (by simp)
    exact trodAll_cons_mk (WideElems.Trod_stays hl ht.1 ht.2 h0 (fun x hx => hb.same (hlt x (by simp [hx]))) (fun x hx => hsp x (by simp [hx])))
      (trodAll_kept hl (fun t ht => hr t (by simp [ht])) h1 hb (fun x hx => hlt x (by simp [hx])) (fun x hx => hsp x (by simp [hx])))
theorem law_post {f : Func} {s : ChangeSpec} {W W' : World} {args : Array Value} {ds : List (DataW H)} {before : List MemPlace} {t : TypeId} {e : Ending}
    (hl : laidOutB P = true) (hread : ∀ t ∈ f.params.toList, P.readableRec t = true ∧ t < P.types.size) (hv : s.vars = []) (hr : f.resultTypes = #[t]) (ht : P.underlying t = some .bool)
    (hW : DataW.Whole enc P f.params.toList s.vars false W args.toList ds [] before) (hs : s.fn H (ds ++ []) = { results := [.lit (.bool true)], args := ds }) (hb : Gives (.bool true) W e W') :
    ∃ v, e = .returned v ∧ s.post enc P f false true false false W args v W' := by
  obtain ⟨rfl, hb⟩ := hb
  refine ⟨_, rfl, ds, [], before, [], before, [], hW, ?_, ?_, ?_, ?_, fun h => by cases h⟩
  · rw [hs, hr]
    exact trodAll_mk1 (shut_bool ht true)
  · rw [hs]
    have hlt := fun p hp => hW.lt p hp
    obtain ⟨p, q, hA, hV, rfl, _, _⟩ := hW
    rw [hv] at hV
    obtain ⟨_, rfl⟩ := trodVars_none hV
    rw [List.append_nil] at hlt ⊢
    exact trodAll_kept hl hread hA hb hlt (fun x hx => by simpa using hlt x hx)
  · rw [hs, hv]
    exact rfl
  · exact World.keptBut_mono (fun p hp => ⟨hp, .inr (.inl hp)⟩) (hb.frame (· ∈ before))
end
section
variable {P : Program} {W : World} {r : Reach} {b : Nat}
/-- A struct of whole numbers by value, its inner structs laid flat: its numbers, each within its kind. -/
theorem open_nums {t : TypeId} {fs : Array Field} {ts : List TypeId} {v : Value} (hs : P.underlying t = some (.struct fs)) (hct : P.cellTypes P.depth t = some ts) (hall : ts.all (fun u => match P.underlying u with | some (.int .i64) => true | _ => false) = true)
    (h : Value.okWide P W r b t v) : ∃ l : List Int, v = .agg (l.map (Value.int .i64)).toArray ∧ l.length = P.cellsOf t ∧ ∀ x ∈ l, I64 x := by
  simp only [Value.okWide, hs] at h
  obtain ⟨⟨cs⟩, rfl, hsz, ts', hct', _, hc⟩ := h
  obtain rfl : ts = ts' := Option.some.inj (hct.symm.trans hct')
  have key : ∀ v ∈ cs, ∃ x : Int, v = .int .i64 x ∧ I64 x := by
    intro v hv
    obtain ⟨i, hi, rfl⟩ := List.getElem_of_mem hv
    obtain ⟨u, hu, hok⟩ := hc i cs[i] (by simp [hi])
    have hm := List.all_eq_true.1 hall u (List.mem_of_getElem? hu)
    split at hm
    · rename_i hu'
      simp only [Cell.okWide, Cell.ok, hu'] at hok
      cases hcs : cs[i] <;> rw [hcs] at hok <;> simp only [] at hok
      obtain ⟨rfl, hh⟩ := hok
      exact ⟨_, rfl, by unfold I64; simp [IntKind.has, IntKind.min, IntKind.max, IntKind.signed, IntKind.bits] at hh; omega⟩
    · cases hm
  clear hc hct hct' hall
  have hl : ∀ cs : List Value, (∀ v ∈ cs, ∃ x : Int, v = .int .i64 x ∧ I64 x) → ∃ l : List Int, cs = l.map (Value.int .i64) ∧ ∀ x ∈ l, I64 x := by
    intro cs
    induction cs with
    | nil => exact fun _ => ⟨[], rfl, by simp⟩
    | cons v cs ih =>
      intro h
      obtain ⟨x, rfl, hx⟩ := h v (by simp)
      obtain ⟨l, rfl, hl⟩ := ih (fun v hv => h v (by simp [hv]))
      exact ⟨x :: l, rfl, by simpa using ⟨hx, hl⟩⟩
  obtain ⟨l, rfl, hl⟩ := hl cs key
  exact ⟨l, rfl, by simpa using hsz, hl⟩
theorem open_num {t : TypeId} {v : Value} (hs : P.underlying t = some (.int .i64)) (h : Value.okWide P W r b t v) : ∃ x : Int, v = .int .i64 x ∧ I64 x := by
  simp only [Value.okWide, hs, Cell.okWide, Cell.ok] at h
  cases v <;> simp only [] at h
  obtain ⟨rfl, hh⟩ := h
  exact ⟨_, rfl, by unfold I64; simp [IntKind.has, IntKind.min, IntKind.max, IntKind.signed, IntKind.bits] at hh; omega⟩
theorem list2 {α : Type} {l : List α} (h : l.length = 2) : ∃ a b, l = [a, b] := by
  match l, h with
  | [a, b], _ => exact ⟨a, b, rfl⟩
theorem list4 {α : Type} {l : List α} (h : l.length = 4) : ∃ a b c d, l = [a, b, c, d] := by
  match l, h with
  | [a, b, c, d], _ => exact ⟨a, b, c, d, rfl⟩
end
theorem own : ownKnob Try.prog.godebug = none := by kernel_rfl
theorem Try.cells43 : Try.prog.cellsOf 43 = 2 := by kernel_rfl
theorem Try.cells28 : Try.prog.cellsOf 28 = 2 := by kernel_rfl
theorem Try.cells33 : Try.prog.cellsOf 33 = 4 := by kernel_rfl
theorem laid_out : laidOutB Try.prog = true := by kernel_rfl
end Go.Proofs.Ytlhihmfefipehaa
namespace Go.Proofs.Ytlhihmfefipehaa
open Go.ChangeShapes Go.WideShapes Go.ChangeAt Go.RowKit Go.Joins
theorem add_none {a : Addr} (h : a.spot = none) (i : Nat) : a.add i = ⟨a.block, a.off + i, none⟩ := by
  unfold Addr.add
  split
  · rename_i h0; subst h0; cases a; simp_all
  · rfl
theorem spot_of_cell {w : World} {a : Addr} {v : Value} (h : w.cell? a = some v) : a.spot = none := by
  unfold World.cell? at h
  split at h
  · split at h
    · cases h
    · rename_i hs; simpa using hs
  · cases h
theorem open_list {H : Type} {enc : TypeId × Value → H} {P : Program} {W : World} {t e : TypeId} {v : Value} {d : DataW H} {ps : List MemPlace} (ht : P.underlying t = some (.slice e)) (he : P.underlying e = some (.int .i64)) (hc : P.cellsOf e = 1)
    {r : Reach} {b : Nat} (hval : Value.okWide P W r b t v) (h : DataW.Trod enc P W 0 (fun _ => true) true t v d ps) : ∃ p len cap z, v = .slice p len cap ∧ ListIn W p len z := by
  have hv : v.cells = #[v] := by
    simp only [Value.okWide, ht, Cell.okWide, Cell.ok] at hval
    cases v <;> first | rfl | (simp at hval; done) | skip
  unfold DataW.Trod at h
  obtain ⟨fuel, h⟩ := h
  rcases open_ints ht he hc h with ⟨hcs, _⟩ | ⟨a, len, cap, zs, hcs, _, hl, hm, hz, _, hi, hw⟩
  · rw [hv] at hcs
    simp only [List.cons.injEq, and_true] at hcs
    exact ⟨none, 0, 0, fun _ => 0, hcs, by decide, fun h => absurd rfl h⟩
  · rw [hv] at hcs
    simp only [List.cons.injEq, and_true] at hcs
    simp only [if_true] at hz
    refine ⟨some a, len, cap, fun i => zs.getD i 0, hcs, by unfold maxLen at hm; omega, fun h0 => ?_⟩
    have h1 := hi 0 (by omega)
    have hs : a.spot = none := by
      have := spot_of_cell h1
      simpa [Addr.add] using this
    refine ⟨a.block, a.off, by cases a; simp_all, ?_, fun i hil => ⟨?_, ?_⟩⟩
    · have := World.block_lt_of_cell? W _ h1
      simpa [Addr.add] using this
    · have := hi i (by omega)
      rwa [add_none hs] at this
    · have hmem : zs.getD i 0 ∈ zs := by
        have hh : i < zs.length := by omega
        simp [List.getD, hh]
      have := hw _ hmem
      unfold I64
      simp [Lit.wf, IntKind.min, IntKind.max, IntKind.signed, IntKind.bits] at this
      simp [List.getD]
      omega
end Go.Proofs.Ytlhihmfefipehaa

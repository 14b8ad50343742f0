/- From a law's contract ('it returns true, and nothing that was there has turned') to what its statement asks of one call. A list of whole numbers that came in, as the ring wants it. The table of the numbers that a stone may have, as the rows lay it, read as cells. Condition: the row's own. Contracts of package span's areas: their errors, their corners. No condition. -/
import Derived.Test.YtfjieblihbnmjaaDoorRows
import Derived.Test.YtfjieblihbnmjaaDoorBase
import Derived.WalkKit
import Derived.ProofKit
import Derived.OpenShut
import Derived.Carry
import Derived.JoinedOf
import Derived.JoinedAt
import Derived.RowKit3
import Derived.Lib.SmallJoins
import Derived.Test.YtfjieblihbnmjaaDoorRingXG
import Derived.ChangeSlices
import Derived.Test.YtfjieblihbnmjaaDoorBlM
import Derived.Test.YtfjieblihbnmjaaDoorTie
import Derived.LaidHandle
import Derived.LaidLaws
import Derived.Test.YtfjieblihbnmjaaDoorKitG
import Derived.LoopN
namespace Go.Proofs.YtfjieblihbnmjaaDoor
open Go.ChangeShapes Go.WideShapes Go.ChangeAt Go.RowKit Go.Joins
section
variable {H : Type} {enc : TypeId × Value → H} {P : Program}
theorem trodAll_kept (hl : laidOutB P = true) {W W' : World} {sp : Nat → Bool} : ∀ {ts : List TypeId} {vs : List Value} {ds : List (DataW H)} {ps : List MemPlace}, (∀ t ∈ ts, P.readableRec t = true ∧ t < P.types.size) →
    DataW.TrodAll enc P W 0 (fun _ => true) true ts vs ds ps → Below W.heap.size W W' → (∀ p ∈ ps, p.block < W.heap.size) → (∀ p ∈ ps, sp p.block = true) → DataW.TrodAll enc P W' 0 sp true ts vs ds ps
  | [], _, _, _, _, h, _, _, _ => by
    obtain ⟨rfl, rfl, rfl⟩ := trodAll_nil h
    exact trodAll_mk0
  | t :: ts, _, _, _, hr, h, hb, hlt, hsp => by
    obtain ⟨v, vs, d, ds, p, q, rfl, rfl, rfl, h0, h1⟩ := trodAll_cons h
    have ht := hr t (by simp)
    exact trodAll_cons_mk (WideElems.Trod_stays hl ht.1 ht.2 h0 (fun x hx => hb.same (hlt x (by simp [hx]))) (fun x hx => hsp x (by simp [hx])))
      (trodAll_kept hl (fun t ht => hr t (by simp [ht])) h1 hb (fun x hx => hlt x (by simp [hx])) (fun x hx => hsp x (by simp [hx])))
theorem law_post {f : Func} {s : ChangeSpec} {W W' : World} {args : Array Value} {ds : List (DataW H)} {before : List MemPlace} {t : TypeId} {e : Ending}
    (hl : laidOutB P = true) (hread : ∀ t ∈ f.params.toList, P.readableRec t = true ∧ t < P.types.size) (hv : s.vars = []) (hr : f.resultTypes = #[t]) (ht : P.underlying t = some .bool)
    (hW : DataW.Whole enc P f.params.toList s.vars false W args.toList ds [] before) (hs : s.fn H (ds ++ []) = { results := [.lit (.bool true)], args := ds }) (hb : Gives (.bool true) W e W') :
    ∃ v, e = .returned v ∧ s.post enc P f false true false false W args v W' := by
  obtain ⟨rfl, hb⟩ := hb
  refine ⟨_, rfl, ds, [], before, [], before, [], hW, ?_, ?_, ?_, ?_, fun h => by cases h⟩
  · rw [hs, hr]
    exact trodAll_mk1 (shut_bool ht true)
  · rw [hs]
    have hlt := fun p hp => hW.lt p hp
    obtain ⟨p, q, hA, hV, rfl, _, _⟩ := hW
    rw [hv] at hV
    obtain ⟨_, rfl⟩ := trodVars_none hV
    rw [List.append_nil] at hlt ⊢
    exact trodAll_kept hl hread hA hb hlt (fun x hx => by simpa using hlt x hx)
  · rw [hs, hv]
    exact rfl
  · exact World.keptBut_mono (fun p hp => ⟨hp, .inr (.inl hp)⟩) (hb.frame (· ∈ before))
end
section
variable {P : Program} {W : World} {r : Reach} {b : Nat}
/-- A struct of whole numbers by value, its inner structs laid flat: its numbers, each within its kind. -/
theorem open_nums {t : TypeId} {fs : Array Field} {ts : List TypeId} {v : Value} (hs : P.underlying t = some (.struct fs)) (hct : P.cellTypes P.depth t = some ts) (hall : ts.all (fun u => match P.underlying u with | some (.int .i64) => true | _ => false) = true)
    (h : Value.okWide P W r b t v) : ∃ l : List Int, v = .agg (l.map (Value.int .i64)).toArray ∧ l.length = P.cellsOf t ∧ ∀ x ∈ l, I64 x := by
  simp only [Value.okWide, hs] at h
  obtain ⟨⟨cs⟩, rfl, hsz, ts', hct', _, hc⟩ := h
  obtain rfl : ts = ts' := Option.some.inj (hct.symm.trans hct')
  have key : ∀ v ∈ cs, ∃ x : Int, v = .int .i64 x ∧ I64 x := by
    intro v hv
    obtain ⟨i, hi, rfl⟩ := List.getElem_of_mem hv
    obtain ⟨u, hu, hok⟩ := hc i cs[i] (by simp [hi])
    have hm := List.all_eq_true.1 hall u (List.mem_of_getElem? hu)
    split at hm
    · rename_i hu'
      simp only [Cell.okWide, Cell.ok, hu'] at hok
      cases hcs : cs[i] <;> rw [hcs] at hok <;> simp only [] at hok
      obtain ⟨rfl, hh⟩ := hok
      exact ⟨_, rfl, by unfold I64; simp [IntKind.has, IntKind.min, IntKind.max, IntKind.signed, IntKind.bits] at hh; omega⟩
    · cases hm
  clear hc hct hct' hall
  have hl : ∀ cs : List Value, (∀ v ∈ cs, ∃ x : Int, v = .int .i64 x ∧ I64 x) → ∃ l : List Int, cs = l.map (Value.int .i64) ∧ ∀ x ∈ l, I64 x := by
    intro cs
    induction cs with
    | nil => exact fun _ => ⟨[], rfl, by simp⟩
    | cons v cs ih =>
      intro h
      obtain ⟨x, rfl, hx⟩ := h v (by simp)
      obtain ⟨l, rfl, hl⟩ := ih (fun v hv => h v (by simp [hv]))
      exact ⟨x :: l, rfl, by simpa using ⟨hx, hl⟩⟩
  obtain ⟨l, rfl, hl⟩ := hl cs key
  exact ⟨l, rfl, by simpa using hsz, hl⟩
theorem open_num {t : TypeId} {v : Value} (hs : P.underlying t = some (.int .i64)) (h : Value.okWide P W r b t v) : ∃ x : Int, v = .int .i64 x ∧ I64 x := by
  simp only [Value.okWide, hs, Cell.okWide, Cell.ok] at h
  cases v <;> simp only [] at h
  obtain ⟨rfl, hh⟩ := h
  exact ⟨_, rfl, by unfold I64; simp [IntKind.has, IntKind.min, IntKind.max, IntKind.signed, IntKind.bits] at hh; omega⟩
theorem list2 {α : Type} {l : List α} (h : l.length = 2) : ∃ a b, l = [a, b] := by
  match l, h with
  | [a, b], _ => exact ⟨a, b, rfl⟩
theorem list4 {α : Type} {l : List α} (h : l.length = 4) : ∃ a b c d, l = [a, b, c, d] := by
  match l, h with
  | [a, b, c, d], _ => exact ⟨a, b, c, d, rfl⟩
end
theorem own : ownKnob Tryd.prog.godebug = none := by kernel_rfl
theorem Tryd.cells24 : Tryd.prog.cellsOf 24 = 2 := by kernel_rfl
theorem laid_out : laidOutB Tryd.prog = true := by kernel_rfl
end Go.Proofs.YtfjieblihbnmjaaDoor
namespace Go.Proofs.YtfjieblihbnmjaaDoor
open Go.ChangeShapes Go.WideShapes Go.ChangeAt Go.RowKit Go.Joins
theorem add_none {a : Addr} (h : a.spot = none) (i : Nat) : a.add i = ⟨a.block, a.off + i, none⟩ := by
  unfold Addr.add
  split
  · rename_i h0; subst h0; cases a; simp_all
  · rfl
theorem spot_of_cell {w : World} {a : Addr} {v : Value} (h : w.cell? a = some v) : a.spot = none := by
  unfold World.cell? at h
  split at h
  · split at h
    · cases h
    · rename_i hs; simpa using hs
  · cases h
theorem open_list {H : Type} {enc : TypeId × Value → H} {P : Program} {W : World} {t e : TypeId} {v : Value} {d : DataW H} {ps : List MemPlace} (ht : P.underlying t = some (.slice e)) (he : P.underlying e = some (.int .i64)) (hc : P.cellsOf e = 1)
    {r : Reach} {b : Nat} (hval : Value.okWide P W r b t v) (h : DataW.Trod enc P W 0 (fun _ => true) true t v d ps) : ∃ p len cap z, v = .slice p len cap ∧ ListIn W p len z := by
  have hv : v.cells = #[v] := by
    simp only [Value.okWide, ht, Cell.okWide, Cell.ok] at hval
    cases v <;> first | rfl | (simp at hval; done) | skip
  unfold DataW.Trod at h
  obtain ⟨fuel, h⟩ := h
  rcases open_ints ht he hc h with ⟨hcs, _⟩ | ⟨a, len, cap, zs, hcs, _, hl, hm, hz, _, hi, hw⟩
  · rw [hv] at hcs
    simp only [List.cons.injEq, and_true] at hcs
    exact ⟨none, 0, 0, fun _ => 0, hcs, by decide, fun h => absurd rfl h⟩
  · rw [hv] at hcs
    simp only [List.cons.injEq, and_true] at hcs
    simp only [if_true] at hz
    refine ⟨some a, len, cap, fun i => zs.getD i 0, hcs, by unfold maxLen at hm; omega, fun h0 => ?_⟩
    have h1 := hi 0 (by omega)
    have hs : a.spot = none := by
      have := spot_of_cell h1
      simpa [Addr.add] using this
    refine ⟨a.block, a.off, by cases a; simp_all, ?_, fun i hil => ⟨?_, ?_⟩⟩
    · have := World.block_lt_of_cell? W _ h1
      simpa [Addr.add] using this
    · have := hi i (by omega)
      rwa [add_none hs] at this
    · have hmem : zs.getD i 0 ∈ zs := by
        have hh : i < zs.length := by omega
        simp [List.getD, hh]
      have := hw _ hmem
      unfold I64
      simp [Lit.wf, IntKind.min, IntKind.max, IntKind.signed, IntKind.bits] at this
      simp [List.getD]
      omega
end Go.Proofs.YtfjieblihbnmjaaDoor
namespace Go.Proofs.YtfjieblihbnmjaaDoor
open Go.ChangeShapes Go.WideShapes Go.ChangeAt Go.RowKit Go.Joins
def limL : List Int := [1, 1000, 1, 9000, 0, 1099511627776, 0, 1000, 500, 2000, 1, 8000, 1, 1000]
/-- The table stands where it was laid. -/
structure LimAt (W : World) : Prop where
  lt : 0 < W.heap.size
  cell : ∀ i, i < 14 → W.cell? ⟨0, i, none⟩ = some (.int .i64 (limL.getD i 0))
theorem LimAt.on {W W' : World} (h : LimAt W) (b : Below W.heap.size W W') : LimAt W' := ⟨Nat.lt_of_lt_of_le h.lt b.size, fun i hi => (b.cell (p := ⟨0, i, none⟩) h.lt).trans (h.cell i hi)⟩
theorem LimAt.ext {W : World} (h : LimAt W) (x : Ext W) : LimAt x.now := h.on x.grew
theorem LimAt.rext {W : World} {b : Nat} (h : LimAt W) (hb : 0 ≠ b) (x : RExt W b) : LimAt x.now := ⟨Nat.lt_of_lt_of_le h.lt x.size, fun i hi => (x.cell h.lt hb).trans (h.cell i hi)⟩
theorem LimAt.alloc {W : World} (h : LimAt W) (o : Obj) : LimAt (W.alloc o) := h.on ((Below.refl _ _).alloc (Nat.le_refl _) _)
theorem LimAt.drew {W : World} (h : LimAt W) : LimAt W.drew := h.on (Below.refl _ _).drew
theorem LimAt.set {W : World} {B o : Nat} (h : LimAt W) (hb : 0 < B) (v : Value) : LimAt (W.setCell ⟨B, o, none⟩ v) := by
  exact ⟨by simpa using h.lt, fun i hi => by have := h.cell i hi; simp [go_sem, this]⟩
/-- A struct's parts, each by its type and place. -/
theorem struct_parts {H : Type} {enc : TypeId × Value → H} {P : Program} {w : World} {base n : Nat} {sp : Nat → Bool} {held : Bool} {t : TypeId} {fs : Array Field} {cs : List Value} {x : DataW H × List MemPlace} (ht : P.underlying t = some (.struct fs)) (h : DataW.trod enc P w base sp held n t cs = some x) :
    ∃ (xs : List (DataW H × List MemPlace)) (m : Nat), x.1 = .agg (xs.map (·.1)) ∧ cs.length = P.cellsOf t ∧ xs.length = fs.size ∧
      ∀ (j : Nat) (T : TypeId) (o k : Nat), (fs[j]?).map (fun f => (f.type, f.offset)) = some (T, o) → P.cellsOf T = k → DataW.trod enc P w base sp held m T ((cs.drop o).take k) = xs[j]? := by
  obtain ⟨xs, m, _, hx, hlen, hxl, hf⟩ := DataW.trod_struct ht h
  refine ⟨xs, m, by rw [hx], hlen, hxl, fun j T o k hj hk => ?_⟩
  cases hfj : fs[j]? with
  | none => rw [hfj] at hj; cases hj
  | some f =>
    rw [hfj] at hj
    simp only [Option.map_some, Option.some.injEq, Prod.mk.injEq] at hj
    obtain ⟨rfl, rfl⟩ := hj
    subst hk
    exact hf j f hfj
theorem span_of_trod {H : Type} {enc : TypeId × Value → H} {w : World} {base n : Nat} {sp : Nat → Bool} {held : Bool} {cs : List Value} {x : DataW H × List MemPlace} (h : DataW.trod enc Tryd.prog w base sp held n 24 cs = some x) :
    ∃ a b : Int, cs = [.int .i64 a, .int .i64 b] ∧ x.1 = .agg [.lit (.int .i64 a), .lit (.int .i64 b)] := by
  obtain ⟨xs, m, hx, hlen, hxl, hf⟩ := struct_parts Tryd.underlying24 h
  have hl : cs.length = 2 := hlen.trans (by kernel_rfl)
  have h0 := hf 0 2 0 1 (by kernel_rfl) (by kernel_rfl)
  have h1 := hf 1 2 1 1 (by kernel_rfl) (by kernel_rfl)
  have hxl2 : xs.length = 2 := hxl
  match cs, hl with
  | [u, v], _ =>
    match xs, hxl2 with
    | [x0, x1], _ =>
      simp only [List.drop_zero, List.drop_succ_cons, List.take_succ_cons, List.take_zero, List.getElem?_cons_zero, List.getElem?_cons_succ] at h0 h1
      obtain ⟨a, e1, e2, _⟩ := DataW.trod_int Tryd.underlying2 h0
      obtain ⟨b, e3, e4, _⟩ := DataW.trod_int Tryd.underlying2 h1
      simp only [List.cons.injEq, and_true] at e1 e3
      refine ⟨a, b, by rw [e1, e3], ?_⟩
      rw [hx, e2, e4]
      rfl
set_option maxRecDepth 100000 in
theorem lim_of_laid {W : World} (h : laidMetH Tryd.prog [("bolide/blast.limits", Rows.laid_bolide_blast_limits)] W) : LimAt W := by
  have h' : laidMet Tryd.prog [("bolide/blast.limits", Rows.laid_bolide_blast_limits)] W := h
  obtain ⟨ps, ⟨g, t, cs, fuel, p, q, hg, ht, hv, hd, _⟩, _⟩ := h'
  obtain rfl := Option.some.inj ((show Tryd.prog.globalNamed "bolide/blast.limits" = some 0 by kernel_rfl).symm.trans hg)
  obtain rfl := Option.some.inj ((show (Tryd.prog.globals[0]?).map (·.type) = some 120 by kernel_rfl).symm.trans ht)
  obtain ⟨xs, m, _, hx, hlen, hxl, hel⟩ := DataW.trod_array Tryd.underlying120 hd
  have hl : cs.toList.length = 14 := hlen.trans (by kernel_rfl)
  have c2 : Tryd.prog.cellsOf 24 = 2 := by kernel_rfl
  obtain ⟨l⟩ := cs
  have hcell := fun off => World.var?_cell hg hv off
  match l, hl with
  | [c0, c1, c2', c3, c4, c5, c6, c7, c8, c9, c10, c11, c12, c13], _ =>
    match xs, hxl with
    | [x0, x1, x2, x3, x4, x5, x6], _ =>
      have k0 := hel 0 (by decide)
      have k1 := hel 1 (by decide)
      have k2 := hel 2 (by decide)
      have k3 := hel 3 (by decide)
      have k4 := hel 4 (by decide)
      have k5 := hel 5 (by decide)
      have k6 := hel 6 (by decide)
      simp only [c2, Nat.reduceMul, List.drop_zero, List.drop_succ_cons, List.take_succ_cons, List.take_zero, List.getElem?_cons_zero, List.getElem?_cons_succ] at k0 k1 k2 k3 k4 k5 k6
      obtain ⟨a0, b0, e0, f0⟩ := span_of_trod k0
      obtain ⟨a1, b1, e1, f1⟩ := span_of_trod k1
      obtain ⟨a2, b2, e2, f2⟩ := span_of_trod k2
      obtain ⟨a3, b3, e3, f3⟩ := span_of_trod k3
      obtain ⟨a4, b4, e4, f4⟩ := span_of_trod k4
      obtain ⟨a5, b5, e5, f5⟩ := span_of_trod k5
      obtain ⟨a6, b6, e6, f6⟩ := span_of_trod k6
      simp only [List.map_cons, List.map_nil, f0, f1, f2, f3, f4, f5, f6, Rows.laid_bolide_blast_limits, Prod.mk.injEq, DataW.agg.injEq, List.cons.injEq, DataW.lit.injEq, Lit.int.injEq, and_true, true_and] at hx
      simp only [List.cons.injEq, and_true] at e0 e1 e2 e3 e4 e5 e6
      refine ⟨World.block_lt_of_cell? W ⟨0, 0, none⟩ (hcell 0), fun i hi => ?_⟩
      rw [hcell i]
      rcases (show i = 0 ∨ i = 1 ∨ i = 2 ∨ i = 3 ∨ i = 4 ∨ i = 5 ∨ i = 6 ∨ i = 7 ∨ i = 8 ∨ i = 9 ∨ i = 10 ∨ i = 11 ∨ i = 12 ∨ i = 13 by omega) with rfl | rfl | rfl | rfl | rfl | rfl | rfl | rfl | rfl | rfl | rfl | rfl | rfl | rfl <;> simp [limL, *] <;> omega
end Go.Proofs.YtfjieblihbnmjaaDoor
namespace Go.Proofs.YtfjieblihbnmjaaDoor
open Go.RowKit Go.Shelf
attribute [local go_sem] Ext.cell Ext.frozen Ext.lt Ext.le Ext.lt_add Ext.le_add Ext.ne Ext.ne' lt2 lt3 lt4 lt5 le2 le3 le4
/-- The error of two spans. -/
def chkB (a b c d : Int) : Int := if chk a b = 0 then chk c d else chk a b
theorem checkBoth_any (a b c d : Int) (w : World) : Calls Tryd.prog 97 #[.agg #[.int .i64 a, .int .i64 b], .agg #[.int .i64 c, .int .i64 d]] w (Gives (.int .i64 (chkB a b c d)) w) := by
  unfold chkB
  by_cases h : chk a b = 0
  · rw [if_pos h]
    go_enter Tryd.func97, Tryd.ntmps97
    go_wp2_with (first | ((first | with_reducible refine wp_region_ext2 (by kernel_rfl) (by kernel_rfl) ?_ | with_reducible refine wp_region_ext (by kernel_rfl) (by kernel_rfl) ?_); (repeat (first | go_big_quiet_step ((first | (go_at_call 98; with_reducible exact Calls.ext (Check_any _ _ _)))) | quiet_step ((first | (go_at_call 98; with_reducible exact Calls.ext (Check_any _ _ _)))))); refine wpQuiet_nil ?_; rintro _ ⟨yr, rfl⟩; have syr := Ext.size yr; (repeat (first | rw [World.size_alloc] at syr | rw [World.size_setCell] at syr | rw [World.size_drew] at syr))) | (go_at_call 98; (first | with_reducible refine (Calls.giv2 (Check_any _ _ _)).mono ?_ | with_reducible refine (Calls.giv (Check_any _ _ _)).mono ?_); rintro _ _ ⟨y1, rfl, rfl⟩; have sy1 := Ext.size y1; (repeat (first | rw [World.size_alloc] at sy1 | rw [World.size_setCell] at sy1 | rw [World.size_drew] at sy1))))
    go_returns
    refine ⟨rfl, ?_⟩
    repeat' (first | (with_reducible exact Below.refl _ _) | (with_reducible assumption) | (with_reducible refine Ext.below _ ?_ ?_) | (with_reducible refine Below.on ?_ (by with_reducible assumption) ?_) | (with_reducible refine Below.alloc ?_ ?_ _) | (with_reducible refine Below.drew ?_) | (with_reducible refine Below.setCell ?_ ?_ _) | (with_reducible exact Nat.le_refl _) | omega | (simp; done) | (simp [go_sem]; done) | (simp at *; omega))
  · rw [if_neg h]
    have h' : (chk a b != 0) = true := by simpa using h
    go_enter Tryd.func97, Tryd.ntmps97
    go_wp2_with (first | ((first | with_reducible refine wp_region_ext2 (by kernel_rfl) (by kernel_rfl) ?_ | with_reducible refine wp_region_ext (by kernel_rfl) (by kernel_rfl) ?_); (repeat (first | go_big_quiet_step ((first | (go_at_call 98; with_reducible exact Calls.ext (Check_any _ _ _)))) | quiet_step ((first | (go_at_call 98; with_reducible exact Calls.ext (Check_any _ _ _)))))); refine wpQuiet_nil ?_; rintro _ ⟨yr, rfl⟩; have syr := Ext.size yr; (repeat (first | rw [World.size_alloc] at syr | rw [World.size_setCell] at syr | rw [World.size_drew] at syr))) | (go_at_call 98; (first | with_reducible refine (Calls.giv2 (Check_any _ _ _)).mono ?_ | with_reducible refine (Calls.giv (Check_any _ _ _)).mono ?_); rintro _ _ ⟨y1, rfl, rfl⟩; have sy1 := Ext.size y1; (repeat (first | rw [World.size_alloc] at sy1 | rw [World.size_setCell] at sy1 | rw [World.size_drew] at sy1))))
    go_returns
    refine ⟨rfl, ?_⟩
    repeat' (first | (with_reducible exact Below.refl _ _) | (with_reducible assumption) | (with_reducible refine Ext.below _ ?_ ?_) | (with_reducible refine Below.on ?_ (by with_reducible assumption) ?_) | (with_reducible refine Below.alloc ?_ ?_ _) | (with_reducible refine Below.drew ?_) | (with_reducible refine Below.setCell ?_ ?_ _) | (with_reducible exact Nat.le_refl _) | omega | (simp; done) | (simp [go_sem]; done) | (simp at *; omega))

/-- The error of an area. -/
def chkA (a b c d : Int) : Int := if chkB a b c d = 0 then (if farB a c && farB b c && farB b d && farB a d then 0 else 2) else chkB a b c d
/-- What Hits and Clear can answer. -/
def canB (a b c d e f g h r : Int) : Bool := chkA a b c d == 0 && chkA e f g h == 0 && radB r
end Go.Proofs.YtfjieblihbnmjaaDoor

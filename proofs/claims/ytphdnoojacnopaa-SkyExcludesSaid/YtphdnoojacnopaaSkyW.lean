/- Contract of looksOf: the looks of a tracklet, or its first error. Condition: a valid sky and the tracklet in memory. -/
import Derived.Test.YtphdnoojacnopaaSkyV
namespace Go.Proofs.Ytphdnoojacnopaa
open Go.RowKit Go.Shelf
attribute [local go_sem] Option.isSome_some Ext.cell Ext.frozen Ext.lt Ext.le Ext.lt_add Ext.le_add Ext.ne Ext.ne' lt2 lt3 lt4 lt5 le2 le3 le4
def SightsAt (W : World) (p : Option Addr) (l : List SightR) : Prop := ∀ j (h : j < l.length), ∃ B o, p = some ⟨B, o, none⟩ ∧ B < W.heap.size ∧ W.cell? ⟨B, o + j * 9, none⟩ = some (.int .i64 l[j].kind) ∧ W.cell? ⟨B, o + j * 9 + 1, none⟩ = some (.int .i64 l[j].st) ∧ W.cell? ⟨B, o + j * 9 + 2, none⟩ = some (.int .i64 l[j].cat) ∧ W.cell? ⟨B, o + j * 9 + 3, none⟩ = some (.int .i64 l[j].tick) ∧ W.cell? ⟨B, o + j * 9 + 4, none⟩ = some (.int .i64 l[j].dir.x) ∧ W.cell? ⟨B, o + j * 9 + 5, none⟩ = some (.int .i64 l[j].dir.y) ∧ W.cell? ⟨B, o + j * 9 + 6, none⟩ = some (.int .i64 l[j].err) ∧ W.cell? ⟨B, o + j * 9 + 7, none⟩ = some (.int .i64 l[j].lo) ∧ W.cell? ⟨B, o + j * 9 + 8, none⟩ = some (.int .i64 l[j].hi)
theorem SightsAt.ext {W : World} {p : Option Addr} {l : List SightR} (h : SightsAt W p l) (x : Ext W) : SightsAt x.now p l := fun j hj => by
  obtain ⟨B, o, rfl, hB, h1, h2, h3, h4, h5, h6, h7, h8, h9⟩ := h j hj
  exact ⟨B, o, rfl, x.lt hB, (x.cell hB).trans h1, (x.cell hB).trans h2, (x.cell hB).trans h3, (x.cell hB).trans h4, (x.cell hB).trans h5, (x.cell hB).trans h6, (x.cell hB).trans h7, (x.cell hB).trans h8, (x.cell hB).trans h9⟩
theorem SightsAt.on {W W' : World} {p : Option Addr} {l : List SightR} (h : SightsAt W p l) (b : Below W.heap.size W W') : SightsAt W' p l := h.ext ⟨W', b⟩
def LookR.cells (k : LookR) : List Value := [.int .i64 k.tick, .int .i64 k.frm.x, .int .i64 k.frm.y, k.says.val]
def lateB (prev : Option Int) (t : Int) : Bool := match prev with
  | some u => decide (t < u)
  | none => false
def looksA (s : SkyR) : List LookR → Option Int → List SightR → Except Int (List LookR)
  | acc, _, [] => .ok acc
  | acc, prev, x :: l => match lookR s x with
    | .error e => .error e
    | .ok k => if lateB prev x.tick then .error 11 else looksA s (acc ++ [k]) (some x.tick) l
def looksR (s : SkyR) (l : List SightR) : Except Int (List LookR) := if cntE l.length 1 64 = 0 then looksA s [] none l else .error (cntE l.length 1 64)
def prevT (l : List SightR) (i : Nat) : Option Int := if i = 0 then none else (l[i - 1]?).map (·.tick)
theorem prevT_succ {l : List SightR} {i : Nat} (h : i < l.length) : prevT l (i + 1) = some l[i].tick := by
  unfold prevT
  rw [if_neg (by omega), Nat.add_sub_cancel, List.getElem?_eq_getElem h]; rfl
def rowsOf (l : List LookR) : List Value := l.flatMap LookR.cells
theorem rowsOf_add (l : List LookR) (k : LookR) : rowsOf (l ++ [k]) = rowsOf l ++ [.int .i64 k.tick, .int .i64 k.frm.x, .int .i64 k.frm.y, k.says.val] := by
  unfold rowsOf; rw [List.flatMap_append]; simp [LookR.cells]
/-- What a list of looks, or an error, is handed back as. -/
def LooksPost (w : World) (r : Except Int (List LookR)) : Ending → World → Prop := fun e w' => Below w.heap.size w w' ∧ match r with
  | .error n => e = .returned (.tuple #[.slice none 0 0, .int .i64 n])
  | .ok ks => ∃ v, e = .returned (.tuple #[v, .int .i64 0]) ∧ w'.ownsRow w.heap.size 77 4 v ks.length (rowsOf ks)
theorem cells4_new (w : World) (v0 v1 v2 v3 : Value) (T : TypeId) : ∀ j u, [v0, v1, v2, v3][j]? = some u → (w.alloc (.cells #[v0, v1, v2, v3] T)).cell? ((⟨w.heap.size, 0, none⟩ : Addr).add j) = some u := by
  intro j u hj
  have hl : j < 4 := by simpa using (List.getElem?_eq_some_iff.1 hj).1
  have hadd : (⟨w.heap.size, 0, none⟩ : Addr).add j = ⟨w.heap.size, j, none⟩ := by unfold Addr.add; split <;> simp_all
  rw [hadd]
  rcases (show j = 0 ∨ j = 1 ∨ j = 2 ∨ j = 3 by omega) with rfl | rfl | rfl | rfl <;> (simp at hj; subst hj; simp [go_sem])
theorem look_info : (Try.prog.info? 77).map (fun i => (i.zero, i.size, i.bytes)) = some (some (.agg #[.int .i64 0, .int .i64 0, .int .i64 0, .nilIface]), 4, 40) := by kernel_rfl
end Go.Proofs.Ytphdnoojacnopaa

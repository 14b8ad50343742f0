/- Contract of misses: with which looks a guess does not agree. Condition: looks in memory, a valid guess. -/
import Derived.Test.YtphdnoojacnopaaSkyW
namespace Go.Proofs.Ytphdnoojacnopaa
open Go.RowKit Go.Shelf
attribute [local go_sem] Option.isSome_some Ext.cell Ext.frozen Ext.lt Ext.le Ext.lt_add Ext.le_add Ext.ne Ext.ne' lt2 lt3 lt4 lt5 le2 le3 le4
def LooksAt (W : World) (p : Option Addr) (l : List LookR) : Prop := ∀ j (h : j < l.length), ∃ B o, p = some ⟨B, o, none⟩ ∧ B < W.heap.size ∧ W.cell? ⟨B, o + j * 4, none⟩ = some (.int .i64 l[j].tick) ∧ W.cell? ⟨B, o + j * 4 + 1, none⟩ = some (.int .i64 l[j].frm.x) ∧ W.cell? ⟨B, o + j * 4 + 2, none⟩ = some (.int .i64 l[j].frm.y) ∧ W.cell? ⟨B, o + j * 4 + 3, none⟩ = some l[j].says.val
theorem LooksAt.ext {W : World} {p : Option Addr} {l : List LookR} (h : LooksAt W p l) (x : Ext W) : LooksAt x.now p l := fun j hj => by
  obtain ⟨B, o, rfl, hB, h1, h2, h3, h4⟩ := h j hj
  exact ⟨B, o, rfl, x.lt hB, (x.cell hB).trans h1, (x.cell hB).trans h2, (x.cell hB).trans h3, (x.cell hB).trans h4⟩
theorem LooksAt.on {W W' : World} {p : Option Addr} {l : List LookR} (h : LooksAt W p l) (b : Below W.heap.size W W') : LooksAt W' p l := h.ext ⟨W', b⟩
theorem rowsOf_get (l : List LookR) : ∀ j (h : j < l.length) i u, (LookR.cells l[j])[i]? = some u → (rowsOf l)[j * 4 + i]? = some u := by
  induction l with
  | nil => intro j h; simp at h
  | cons k l ih =>
    intro j h i u hu
    have hi : i < 4 := by simpa [LookR.cells] using (List.getElem?_eq_some_iff.1 hu).1
    have hr : rowsOf (k :: l) = LookR.cells k ++ rowsOf l := by unfold rowsOf; rw [List.flatMap_cons]
    rw [hr]
    cases j with
    | zero => rw [Nat.zero_mul, Nat.zero_add, List.getElem?_append_left (by simp [LookR.cells]; omega)]; exact hu
    | succ j =>
      rw [List.getElem?_append_right (by simp [LookR.cells]; omega)]
      have := ih j (by simpa using h) i u (by simpa using hu)
      rw [← this]
      congr 1
      simp [LookR.cells]; omega
theorem owns_looks {w : World} {base : Nat} {v : Value} {l : List LookR} (h : w.ownsRow base 77 4 v l.length (rowsOf l)) : ∃ p c, v = .slice p l.length c ∧ LooksAt w p l := by
  rcases owns_slice h with ⟨rfl, h0⟩ | ⟨g, cap, rfl, -, hg, hc⟩
  · exact ⟨none, 0, by rw [h0], fun j hj => by omega⟩
  · refine ⟨_, _, rfl, fun j hj => ⟨g, 0, rfl, hg, ?_, ?_, ?_, ?_⟩⟩
    · rw [Nat.zero_add]; exact hc _ _ (rowsOf_get l j hj 0 _ rfl)
    · rw [Nat.zero_add]; exact hc _ _ (rowsOf_get l j hj 1 _ rfl)
    · rw [Nat.zero_add]; exact hc _ _ (rowsOf_get l j hj 2 _ rfl)
    · rw [Nat.zero_add]; exact hc _ _ (rowsOf_get l j hj 3 _ rfl)
/-- A look of a valid sight. -/
def LookR.Fit (k : LookR) : Prop := k.Ok ∧ tickB k.tick = true
theorem lookR_fit {s : SkyR} {x : SightR} {k : LookR} (hE : skyE s = 0) (h : lookR s x = .ok k) : k.Fit := by
  refine ⟨lookR_ok hE h, ?_⟩
  unfold lookR at h
  split at h
  · cases h
  split at h
  · cases h
  rename_i ht
  split at h
  · cases h
  cases hg : wordR s.cats x with
  | error e => rw [hg] at h; cases h
  | ok g => rw [hg] at h; injection h with h; rw [← h]; simpa using ht
def missB (g : StateR) (t : Int) (k : LookR) : Bool := !(k.agrees (strV g (k.tick - t)))
def missA (g : StateR) (t : Int) : List Int → Nat → List LookR → List Int
  | acc, _, [] => acc
  | acc, i, k :: l => missA g t (if missB g t k then acc ++ [(i : Int)] else acc) (i + 1) l
def missL (g : StateR) (t : Int) (l : List LookR) : List Int := missA g t [] 0 l
def intsOf (l : List Int) : List Value := l.map (Value.int .i64)
theorem intsOf_add (l : List Int) (i : Int) : intsOf (l ++ [i]) = intsOf l ++ [.int .i64 i] := by unfold intsOf; simp
/-- A list of numbers that is handed back. -/
def IntsPost (w : World) (l : List Int) : Ending → World → Prop := fun e w' => Below w.heap.size w w' ∧ ∃ v, e = .returned v ∧ w'.ownsRow w.heap.size 3 1 v l.length (intsOf l)
theorem cells1_new (w : World) (v0 : Value) (T : TypeId) : ∀ j u, [v0][j]? = some u → (w.alloc (.cells #[v0] T)).cell? ((⟨w.heap.size, 0, none⟩ : Addr).add j) = some u := by
  intro j u hj
  have hl : j < 1 := by simpa using (List.getElem?_eq_some_iff.1 hj).1
  obtain rfl : j = 0 := by omega
  have hadd : (⟨w.heap.size, 0, none⟩ : Addr).add 0 = ⟨w.heap.size, 0, none⟩ := by unfold Addr.add; split <;> simp_all
  rw [hadd]
  simp at hj; subst hj; simp [go_sem]
theorem int_info : (Try.prog.info? 3).map (fun i => (i.zero, i.size, i.bytes)) = some (some (.int .i64 0), 1, 8) := by kernel_rfl
end Go.Proofs.Ytphdnoojacnopaa

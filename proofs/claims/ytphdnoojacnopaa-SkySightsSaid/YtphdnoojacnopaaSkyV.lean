/- Guesses and rows that a call has made; contracts of isGuess, straight, checkGuesses. Conditions: the cells that are read. -/
import Derived.Test.YtphdnoojacnopaaSkyU
import Derived.Test.YtphdnoojacnopaaOwns
import Derived.OwnWalk
namespace Go.Proofs.Ytphdnoojacnopaa
open Go.RowKit Go.Shelf
attribute [local go_sem] Option.isSome_some Ext.cell Ext.frozen Ext.lt Ext.le Ext.lt_add Ext.le_add Ext.ne Ext.ne' lt2 lt3 lt4 lt5 le2 le3 le4
structure StateR where
  x : Int
  y : Int
  u : Int
  v : Int
def StateR.val (g : StateR) : Value := .agg #[.int .i64 g.x, .int .i64 g.y, .int .i64 g.u, .int .i64 g.v]
def StatesAt (W : World) (p : Option Addr) (l : List StateR) : Prop := ∀ j (h : j < l.length), ∃ B o, p = some ⟨B, o, none⟩ ∧ B < W.heap.size ∧ W.cell? ⟨B, o + j * 4, none⟩ = some (.int .i64 l[j].x) ∧ W.cell? ⟨B, o + j * 4 + 1, none⟩ = some (.int .i64 l[j].y) ∧ W.cell? ⟨B, o + j * 4 + 2, none⟩ = some (.int .i64 l[j].u) ∧ W.cell? ⟨B, o + j * 4 + 3, none⟩ = some (.int .i64 l[j].v)
theorem StatesAt.ext {W : World} {p : Option Addr} {l : List StateR} (h : StatesAt W p l) (x : Ext W) : StatesAt x.now p l := fun j hj => by
  obtain ⟨B, o, rfl, hB, h1, h2, h3, h4⟩ := h j hj
  exact ⟨B, o, rfl, x.lt hB, (x.cell hB).trans h1, (x.cell hB).trans h2, (x.cell hB).trans h3, (x.cell hB).trans h4⟩
theorem StatesAt.on {W W' : World} {p : Option Addr} {l : List StateR} (h : StatesAt W p l) (b : Below W.heap.size W W') : StatesAt W' p l := h.ext ⟨W', b⟩
def guessB (g : StateR) : Bool := vwinB ⟨g.x, g.y⟩ 33554432 && vwinB ⟨g.u, g.v⟩ 1048576
def strV (g : StateR) (n : Int) : V2 := ⟨g.x + g.u * n, g.y + g.v * n⟩
def guessesL : List StateR → Int
  | [] => 0
  | g :: l => if guessB g then guessesL l else 2
def guessesE (l : List StateR) (t : Int) : Int := if 64 < l.length then 8 else if tickB t then guessesL l else 2
theorem guessesL_zero {l : List StateR} (h : guessesL l = 0) : ∀ j (hj : j < l.length), guessB l[j] = true := by
  induction l with
  | nil => intro j hj; simp at hj
  | cons v l ih =>
    rw [guessesL] at h
    by_cases hv : guessB v = true
    · rw [if_pos hv] at h
      intro j hj
      cases j with
      | zero => exact hv
      | succ j => exact ih h j (by simpa using hj)
    · rw [if_neg hv] at h; cases h
theorem guessesE_zero {l : List StateR} {t : Int} (h : guessesE l t = 0) : l.length ≤ 64 ∧ tickB t = true ∧ ∀ j (hj : j < l.length), guessB l[j] = true := by
  unfold guessesE at h
  by_cases h1 : 64 < l.length
  · rw [if_pos h1] at h; cases h
  · rw [if_neg h1] at h
    by_cases h2 : tickB t = true
    · rw [if_pos h2] at h; exact ⟨by omega, h2, guessesL_zero h⟩
    · rw [if_neg h2] at h; cases h
end Go.Proofs.Ytphdnoojacnopaa

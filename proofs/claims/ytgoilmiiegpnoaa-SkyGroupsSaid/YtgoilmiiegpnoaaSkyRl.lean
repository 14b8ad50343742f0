/- Contract of the reference's Link of layer 2: the first guess that misses no sight of two tracklets, or the reasons. Condition: a sky, the tracklets and the guesses in memory. -/
import Derived.Test.YtgoilmiiegpnoaaSkyRows
import Derived.Test.YtgoilmiiegpnoaaSkyRj
import Derived.Test.YtgoilmiiegpnoaaSkyAb
import Derived.Test.YtgoilmiiegpnoaaSkyOa
namespace Go.Proofs.Ytgoilmiiegpnoaa
open Go.RowKit Go.Shelf
attribute [local go_sem] Option.isSome_some Ext.cell Ext.frozen Ext.lt Ext.le Ext.lt_add Ext.le_add Ext.ne Ext.ne' lt2 lt3 lt4 lt5 le2 le3 le4
/-- What the reference says of links. -/
def linkS (s : SkyR) (t : Int) (all : List SightR) : List Int → Nat → List StateR → Int × List Int
  | acc, _, [] => (-1, acc)
  | acc, i, g :: l => if fmS s g t 0 all < 0 then (i, []) else linkS s t all (acc ++ [fmS s g t 0 all]) (i + 1) l
theorem linkS_A {s : SkyR} {t : Int} {all : List SightR} {ks : List LookR} (h : Looked s all ks) : ∀ (gs : List StateR) (acc : List Int) (i : Nat), linkA t ks acc i gs = linkS s t all acc i gs := by
  intro gs
  induction gs with
  | nil => intro acc i; rfl
  | cons g gs ih =>
    intro acc i
    rw [linkA, linkS]
    have h1 := h.first g t 0
    have h2 := fun m hm => missA_in g t ks 0 m hm
    unfold missL
    cases hm : missA g t [] 0 ks with
    | nil =>
      rw [hm] at h1
      rw [← h1, if_pos (by decide)]
    | cons m ms =>
      rw [hm] at h1
      have := h2 m (by rw [hm]; simp)
      rw [← h1, if_neg (by simp only [headV]; omega)]
      exact ih _ _
theorem linkR_eq (s : SkyR) (a b : List SightR) (gs : List StateR) (t : Int) : linkR s a b gs t = if trackE s a = 0 then (if trackE s b = 0 then (if guessesE gs t = 0 then ⟨(linkS s t (a ++ b) [] 0 gs).1, (linkS s t (a ++ b) [] 0 gs).2, 0⟩ else ⟨0, [], guessesE gs t⟩) else ⟨0, [], trackE s b⟩) else ⟨0, [], trackE s a⟩ := by
  unfold linkR allR trackE
  by_cases hE : skyE s = 0
  · simp only [if_pos hE]
    rw [allA]
    cases hx : looksR s a with
    | error e =>
      have e0 : ¬ (errOf (Except.error e : Except Int (List LookR)) = 0) := looksR_err hx
      rw [if_neg e0]; rfl
    | ok x =>
      rw [if_pos (show errOf (Except.ok x : Except Int (List LookR)) = 0 from rfl)]
      simp only [allA]
      cases hy : looksR s b with
      | error e =>
        have e0 : ¬ (errOf (Except.error e : Except Int (List LookR)) = 0) := looksR_err hy
        rw [if_neg e0]; rfl
      | ok y =>
        rw [if_pos (show errOf (Except.ok y : Except Int (List LookR)) = 0 from rfl)]
        simp only [List.nil_append, List.cons_append]
        rw [linkS_A ((looksR_looked hx).append (looksR_looked hy))]
  · simp only [if_neg hE]
end Go.Proofs.Ytgoilmiiegpnoaa

/- Contract of allLooks: the looks of each tracklet, or the first error. Condition: a sky and the tracklets in memory. -/
import Derived.Test.YtphdnoojacnopaaSkyX
namespace Go.Proofs.Ytphdnoojacnopaa
open Go.RowKit Go.Shelf
attribute [local go_sem] Option.isSome_some Ext.cell Ext.frozen Ext.lt Ext.le Ext.lt_add Ext.le_add Ext.ne Ext.ne' lt2 lt3 lt4 lt5 le2 le3 le4
structure TrR where
  p : Option Addr
  c : Nat
  l : List SightR
def TracksAt (W : World) (p : Option Addr) (ts : List TrR) : Prop := ∀ j (h : j < ts.length), SightsAt W ts[j].p ts[j].l ∧ ∃ B o, p = some ⟨B, o, none⟩ ∧ B < W.heap.size ∧ W.cell? ⟨B, o + j, none⟩ = some (.slice ts[j].p ts[j].l.length ts[j].c)
theorem TracksAt.ext {W : World} {p : Option Addr} {l : List TrR} (h : TracksAt W p l) (x : Ext W) : TracksAt x.now p l := fun j hj => by
  obtain ⟨hs, B, o, rfl, hB, h1⟩ := h j hj
  exact ⟨hs.ext x, B, o, rfl, x.lt hB, (x.cell hB).trans h1⟩
theorem TracksAt.on {W W' : World} {p : Option Addr} {l : List TrR} (h : TracksAt W p l) (b : Below W.heap.size W W') : TracksAt W' p l := h.ext ⟨W', b⟩
/-- Lists of looks in a list. -/
def InnerAt (W : World) (base : Nat) : List Value → List (List LookR) → Prop
  | [], [] => True
  | u :: vs, ks :: kss => W.ownsRow base 77 4 u ks.length (rowsOf ks) ∧ InnerAt W base vs kss
  | _, _ => False
theorem InnerAt.map {W W' : World} {base : Nat} : ∀ {vs : List Value} {kss : List (List LookR)}, InnerAt W base vs kss → (∀ v n xs, W.ownsRow base 77 4 v n xs → W'.ownsRow base 77 4 v n xs) → InnerAt W' base vs kss
  | [], [], _, _ => trivial
  | _ :: _, _ :: _, h, f => ⟨f _ _ _ h.1, InnerAt.map h.2 f⟩
  | [], _ :: _, h, _ => h.elim
  | _ :: _, [], h, _ => h.elim
theorem InnerAt.base {W : World} {b b' : Nat} (hb : b' ≤ b) : ∀ {vs : List Value} {kss : List (List LookR)}, InnerAt W b vs kss → InnerAt W b' vs kss
  | [], [], _ => trivial
  | _ :: _, _ :: _, h => ⟨owns_base h.1 hb, InnerAt.base hb h.2⟩
  | [], _ :: _, h => h.elim
  | _ :: _, [], h => h.elim
theorem InnerAt.snoc {W : World} {base : Nat} {u : Value} {ks : List LookR} (h2 : W.ownsRow base 77 4 u ks.length (rowsOf ks)) : ∀ {vs : List Value} {kss : List (List LookR)}, InnerAt W base vs kss → InnerAt W base (vs ++ [u]) (kss ++ [ks])
  | [], [], _ => ⟨h2, trivial⟩
  | _ :: _, _ :: _, h => ⟨h.1, InnerAt.snoc h2 h.2⟩
  | [], _ :: _, h => h.elim
  | _ :: _, [], h => h.elim
theorem InnerAt.length {W : World} {base : Nat} : ∀ {vs : List Value} {kss : List (List LookR)}, InnerAt W base vs kss → vs.length = kss.length
  | [], [], _ => rfl
  | _ :: _, _ :: _, h => by simp [InnerAt.length h.2]
  | [], _ :: _, h => h.elim
  | _ :: _, [], h => h.elim
theorem InnerAt.below {W W' : World} {base : Nat} {vs : List Value} {kss : List (List LookR)} (h : InnerAt W base vs kss) (b : Below W.heap.size W W') : InnerAt W' base vs kss := h.map fun _ _ _ g => owns_below g b
theorem InnerAt.alloc {W : World} {base : Nat} {vs : List Value} {kss : List (List LookR)} (h : InnerAt W base vs kss) (o : Obj) : InnerAt (W.alloc o) base vs kss := h.map fun _ _ _ g => g.alloc o
theorem owns_apart {w : World} {b b' : Nat} {e e' : TypeId} {s s' : Nat} {v v' : Value} {n n' : Nat} {xs xs' : List Value} (h : w.ownsRow b e s v n xs) (h' : w.ownsRow b' e' s' v' n' xs') (he : e ≠ e') : v.ownBlock = none ∨ v.ownBlock ≠ v'.ownBlock := by
  rcases h.2 with ⟨rfl, _⟩ | ⟨g, cap, cur, rfl, _, hg, _⟩
  · exact .inl rfl
  · rcases h'.2 with ⟨rfl, _⟩ | ⟨g', cap', cur', rfl, _, hg', _⟩
    · exact .inr (by simp [Value.ownBlock])
    · refine .inr fun hh => ?_
      simp only [Value.ownBlock, Option.some.injEq] at hh
      subst hh
      rw [hg] at hg'
      simp only [Option.some.injEq, Obj.cells.injEq] at hg'
      exact he hg'.2.1
def allA (s : SkyR) : List (List LookR) → List TrR → Except Int (List (List LookR))
  | acc, [] => .ok acc
  | acc, t :: ts => match looksR s t.l with
    | .error e => .error e
    | .ok ks => allA s (acc ++ [ks]) ts
def allR (s : SkyR) (ts : List TrR) : Except Int (List (List LookR)) := if skyE s = 0 then allA s [] ts else .error (skyE s)
theorem looksA_err {s : SkyR} : ∀ {l : List SightR} {acc : List LookR} {prev : Option Int} {e : Int}, looksA s acc prev l = .error e → e ≠ 0 := by
  intro l
  induction l with
  | nil => intro acc prev e h; cases h
  | cons x l ih =>
    intro acc prev e h
    rw [looksA] at h
    cases hr : lookR s x with
    | error e' => rw [hr] at h; injection h with h; rw [← h]; exact lookR_err hr
    | ok k =>
      rw [hr] at h
      simp only at h
      split at h
      · injection h; omega
      · exact ih h
theorem looksR_err {s : SkyR} {l : List SightR} {e : Int} (h : looksR s l = .error e) : e ≠ 0 := by
  unfold looksR at h
  by_cases h1 : cntE l.length 1 64 = 0
  · rw [if_pos h1] at h; exact looksA_err h
  · rw [if_neg h1] at h; injection h with h; rw [← h]; exact h1
theorem owns_isSlice {w : World} {b : Nat} {e : TypeId} {s : Nat} {v : Value} {n : Nat} {xs : List Value} (h : w.ownsRow b e s v n xs) : ∃ p n c, v = .slice p n c := by
  rcases h.2 with ⟨rfl, _⟩ | ⟨g, cap, cur, rfl, _⟩
  · exact ⟨_, _, _, rfl⟩
  · exact ⟨_, _, _, rfl⟩
end Go.Proofs.Ytphdnoojacnopaa

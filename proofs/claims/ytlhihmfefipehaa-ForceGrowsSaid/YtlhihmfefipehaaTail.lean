/- A region that draws its order: its first n operations are quiet in a class of worlds, the others come behind all of them: the first n are walked once, in the text's order. -/
import Derived.Test.YtlhihmfefipehaaBase
import Derived.Deep.Quiet
import Derived.RegionTactic
namespace Go.Proofs.Ytlhihmfefipehaa
open Go.RowKit
section
variable {P : Program} {ops : Array Oper} {md : Region.Mode} {C : World → Prop} {n : Nat} {L : Act → Prop}
/-- Whatever order of the first n operations is picked from here on. -/
def Heads (P : Program) (md : Region.Mode) (ops : Array Oper) (C : World → Prop) (n : Nat) (L : Act → Prop) : Nat → Array Bool → Act → Prop
  | 0, listed, a => (∀ i ∈ Region.ready md ops listed, n ≤ i) ∧ L a
  | f + 1, listed, a => (∃ i ∈ Region.ready md ops listed, i < n) ∧ ∀ i ∈ Region.ready md ops listed, i < n → qOp P ops C i (Heads P md ops C n L f (listed.setIfInBounds i true)) a
theorem Heads_first {i : Nat} {oi : Oper} {v : Value} (hi : ops[i]? = some oi) (hin : i < n) (hsel : ∀ (j : Nat) (o : Oper) cs b, ops[j]? = some o → o.op ≠ .select cs b) :
    ∀ (f : Nat) (listed : Array Bool) (a : Act), (∀ j oj, ops[j]? = some oj → j ≠ i → listed.getD j true = false → (∀ e ∈ oj.after, Region.binds md e = true → e.on ≠ i) → oi.apart ops oj = true) →
      i ∈ Region.ready md ops listed → YieldsIn P ops C oi v a → Heads P md ops C n L f (listed.setIfInBounds i true) (a.put oi.dst v) → Heads P md ops C n L (f + 1) listed a := by
  intro f
  induction f with
  | zero =>
    intro listed a _ hr hy H
    refine ⟨⟨i, hr, hin⟩, fun j hj hjn => ?_⟩
    by_cases hji : j = i
    · subst hji; exact hy.qOp hi H
    · have := H.1 j (ready_mono hj hji); omega
  | succ f ih =>
    intro listed a hfree hr hy H
    refine ⟨⟨i, hr, hin⟩, fun j hj hjn => ?_⟩
    by_cases hji : j = i
    · subst hji; exact hy.qOp hi H
    · have h1 := H.2 j (ready_mono hj hji) hjn
      obtain ⟨hjun, oj, hoj, hall⟩ := mem_ready.1 hj
      have hun := (mem_ready.1 hr).1
      have hnot : ∀ e ∈ oj.after, Region.binds md e = true → e.on ≠ i := fun e he hb heq => by
        have h1 := hall e he hb
        rw [heq] at h1
        rcases Nat.lt_or_ge i listed.size with h' | h'
        · simp [h'] at hun h1; rw [hun] at h1; cases h1
        · simp [Array.getElem?_eq_none h'] at h1
      have h2 := qOp_put hoj (hfree j oj hoj hji hjun hnot) (fun cs b => hsel i oi cs b hi) (fun cs b => hsel j oj cs b hoj) hy h1
      refine qOp_mono (fun a' h3 => ih (listed.setIfInBounds j true) a' (fun k ok hk hki hun' hno => hfree k ok hk hki ?_ hno) (ready_mono hr (Ne.symm hji)) h3.1 ?_) h2
      · by_cases hjk : j = k
        · subst hjk; exact hjun
        · rw [getD_set_ne true hjk] at hun'; exact hun'
      · rw [Array.setIfInBounds_comm _ _ hji]
        exact h3.2
/-- The text's order is one of them, and each operation may be taken where it stands. -/
def lexHeads (md : Region.Mode) (ops : Array Oper) (n : Nat) : Nat → Nat → Array Bool → Bool
  | 0, _, listed => (Region.ready md ops listed).all fun i => decide (n ≤ i)
  | f + 1, k, listed => (Region.ready md ops listed).contains k && Region.free md ops listed k && lexHeads md ops n f (k + 1) (listed.setIfInBounds k true)
theorem Heads_lex (hs : Region.noSelect ops = true) : ∀ (l : List Oper) (k : Nat) (listed : Array Bool) (a : Act), (∀ j, j < l.length → l[j]? = ops[k + j]?) → k + l.length = n →
    lexHeads md ops n l.length k listed = true → wpQuiet P ops C L l a → Heads P md ops C n L l.length listed a
  | [], _, _, _, _, _, hB, h => ⟨by simpa [lexHeads] using hB, h⟩
  | o :: l, k, listed, a, hl, hk, hB, h => by
    have h0 : ops[k]? = some o := by simpa using (hl 0 (by simp)).symm
    simp only [List.length_cons, lexHeads, Bool.and_eq_true] at hB
    obtain ⟨⟨hr, hf⟩, hB'⟩ := hB
    have hst : qOp P ops C k (wpQuiet P ops C L l) a := by unfold qOp; simp only [h0]; exact h
    obtain ⟨v, hy, hK⟩ := yieldsIn_of_qOp h0 hst
    simp only [List.length_cons] at hk
    exact Heads_first h0 (by omega) (Region.noSelect_spec hs) l.length listed a (Region.free_spec h0 hf) (by simpa using hr) hy
      (Heads_lex hs l (k + 1) _ _ (fun j hj => by have := hl (j + 1) (by simp; omega); simpa [Nat.add_assoc, Nat.add_comm 1 j] using this) (by omega) hB' hK)
/-- Each later operation comes behind each of the first n; these wait for earlier ones alone. -/
def reaches (md : Region.Mode) (ops : Array Oper) : Nat → Nat → Nat → Bool
  | 0, _, _ => false
  | f + 1, t, i => match ops[t]? with
    | none => false
    | some o => o.after.any fun e => Region.binds md e && (e.on == i || reaches md ops f e.on i)
def Closed (md : Region.Mode) (ops : Array Oper) (listed : Array Bool) : Prop := ∀ j o, ops[j]? = some o → listed.getD j false = true → ∀ e ∈ o.after, Region.binds md e = true → listed.getD e.on false = true
theorem reaches_listed {listed : Array Bool} (hc : Closed md ops listed) : ∀ (f t i : Nat), (∀ o, ops[t]? = some o → ∀ e ∈ o.after, Region.binds md e = true → listed.getD e.on false = true) → reaches md ops f t i = true → listed.getD i false = true
  | 0, _, _, _, h => by cases h
  | f + 1, t, i, ht, h => by
    unfold reaches at h
    split at h
    · cases h
    · rename_i o ho
      obtain ⟨e, he, hb⟩ := Array.any_eq_true'.1 h
      simp only [Bool.and_eq_true, Bool.or_eq_true, beq_iff_eq] at hb
      have h1 := ht o ho e he hb.1
      rcases hb.2 with h2 | h2
      · rw [← h2]; exact h1
      · exact reaches_listed hc f e.on i (fun o' ho' => hc e.on o' ho' h1) h2
theorem Closed.set {i : Nat} {listed : Array Bool} (hc : Closed md ops listed) (hi : i ∈ Region.ready md ops listed) : Closed md ops (listed.setIfInBounds i true) := by
  intro j o ho hl e he hb
  obtain ⟨_, oi, hoi, hall⟩ := mem_ready.1 hi
  by_cases hij : i = j
  · subst hij
    obtain rfl : o = oi := Option.some.inj (ho.symm.trans hoi)
    exact getD_set_true (hall e he hb)
  · rw [getD_set_ne false hij] at hl
    exact getD_set_true (hc j o ho hl e he hb)
def tailOk (md : Region.Mode) (ops : Array Oper) (n : Nat) : Bool :=
  (List.range ops.size).all fun t => match ops[t]? with
    | none => true
    | some o => if t < n then o.after.all fun e => !Region.binds md e || decide (e.on < t) else (List.range n).all fun i => reaches md ops 5 t i
def headsDone (n g : Nat) : Array Bool := (List.replicate n true ++ List.replicate g false).toArray
theorem wpAny_of_heads {g : Nat} {Q : Exit → Act → World → Prop} (hT : tailOk md ops n = true) (hg : ops.size = n + g) (hL : ∀ a w, C w → L a → wpAny P md ops Q g (headsDone n g) a w) :
    ∀ (f : Nat) (listed : Array Bool) (a : Act) (w : World), C w → Closed md ops listed → listed.size = ops.size → (∀ t, n ≤ t → t < ops.size → listed.getD t true = false) → Heads P md ops C n L f listed a → wpAny P md ops Q (f + g) listed a w
  | 0, listed, a, w, hw, _, hsz, htl, h => by
    have hall : ∀ i, i < n → listed.getD i false = true := by
      intro i
      induction i using Nat.strongRecOn with
      | ind i ih =>
        intro hin
        by_cases hh : listed.getD i false = true
        · exact hh
        · exfalso
          have hi : i < ops.size := by omega
          have ho : ops[i]? = some ops[i] := Array.getElem?_eq_getElem hi
          have hm : i ∈ Region.ready md ops listed := by
            rw [mem_ready]
            refine ⟨?_, ops[i], ho, fun e he hb => ?_⟩
            · have : i < listed.size := by omega
              simp [this] at hh ⊢
              exact hh
            · have h1 := List.all_eq_true.1 hT i (by simpa using hi)
              simp only [ho, hin, if_true, Array.all_eq_true'] at h1
              have h2 := h1 e he
              simp only [hb, Bool.not_true, Bool.false_or, decide_eq_true_eq] at h2
              exact ih e.on h2 (by omega)
          have := h.1 i hm
          omega
    have heq : listed = headsDone n g := by
      unfold headsDone
      apply Array.ext
      · simp; omega
      · intro i h1 h2
        by_cases hin : i < n
        · have := hall i hin
          simp [h1] at this
          simp [this, hin]
        · have := htl i (by omega) (by omega)
          simp [h1] at this
          simp [this, List.getElem_append, hin]
    rw [Nat.zero_add, heq]
    exact hL a w hw h.2
  | f + 1, listed, a, w, hw, hcl, hsz, htl, h => by
    obtain ⟨⟨i0, hi0, hi0n⟩, h⟩ := h
    rw [show f + 1 + g = (f + g) + 1 by omega]
    refine ⟨fun h0 => (by rw [h0] at hi0; cases hi0), fun i hi => ?_⟩
    have hin : i < n := by
      rcases Nat.lt_or_ge i n with h' | h'
      · exact h'
      · exfalso
        obtain ⟨_, o, ho, hall⟩ := mem_ready.1 hi
        have hlt : i < ops.size := (Array.getElem?_eq_some_iff.1 ho).1
        have h1 := List.all_eq_true.1 hT i (by simpa using hlt)
        simp only [ho, show ¬ i < n by omega, if_false, List.all_eq_true, List.mem_range] at h1
        have h2 := reaches_listed hcl 5 i i0 (fun o' ho' => (by obtain rfl := Option.some.inj (ho.symm.trans ho'); exact hall)) (h1 i0 hi0n)
        have h3 := (mem_ready.1 hi0).1
        rcases Nat.lt_or_ge i0 listed.size with h'' | h''
        · simp [h''] at h2 h3; rw [h2] at h3; cases h3
        · simp [Array.getElem?_eq_none h''] at h2
    exact wpOp_of_qOp hw (fun a' w' hw' h' => wpAny_of_heads hT hg hL f _ a' w' hw' (hcl.set hi) (by simpa using hsz) (fun t ht ht' => by rw [getD_set_ne true (by omega)]; exact htl t ht ht') h') (h i hi hin)
theorem wp_region_heads {id : Nat} {Q : Exit → Act → World → Prop} {a : Act} {w : World} {l : List Oper} (n : Nat) (hm : P.follows .mixedOrders = true)
    (hB : (Region.noSelect l.toArray && decide (n ≤ l.length) && tailOk .any l.toArray n && lexHeads .any l.toArray n n 0 (Array.replicate l.length false)) = true)
    (hC : C w.drew) (h : wpQuiet P l.toArray C (fun a' => ∀ w', C w' → wpAny P .any l.toArray Q (l.length - n) (headsDone n (l.length - n)) a' w') (l.take n) a) : (Code.region id l.toArray true).wp P Q a w := by
  simp only [Bool.and_eq_true, decide_eq_true_eq] at hB
  obtain ⟨⟨⟨hs, hn⟩, hT⟩, hlex⟩ := hB
  have htl : (l.take n).length = n := by simp; omega
  have H := Heads_lex (md := .any) (n := n) (C := C) hs (l.take n) 0 (Array.replicate l.length false) a (fun j hj => by
    have hj' : j < n := by rw [htl] at hj; exact hj
    simp [hj']) (by simpa using htl) (by rw [htl]; exact hlex) h
  refine wp_region_any hm ?_
  have := wpAny_of_heads (Q := Q) (g := l.length - n) hT (by simp; omega) (fun a w hw h => h w hw) _ _ _ _ hC (fun j o _ hl => (by rcases Nat.lt_or_ge j l.length with h' | h' <;> simp [h'] at hl)) (by simp) (fun t ht ht' => by have : t < l.length := (by simpa using ht'); simp [this]) H
  rw [htl, show n + (l.length - n) = l.toArray.size by simp; omega] at this
  simpa using this
end
theorem wp_region_ext_heads {P : Program} {id : Nat} {Q : Exit → Act → World → Prop} {a : Act} {w : World} {l : List Oper} (n : Nat) (hm : P.follows .mixedOrders = true)
    (hB : (Region.noSelect l.toArray && decide (n ≤ l.length) && tailOk .any l.toArray n && lexHeads .any l.toArray n n 0 (Array.replicate l.length false)) = true)
    (h : wpQuiet P l.toArray (fun W => ∃ x : Ext w, W = x.now) (fun a' => ∀ W, (∃ x : Ext w, W = x.now) → wpAny P .any l.toArray Q (l.length - n) (headsDone n (l.length - n)) a' W) (l.take n) a) : (Code.region id l.toArray true).wp P Q a w :=
  wp_region_heads (C := fun W => ∃ x : Ext w, W = x.now) n hm hB ⟨⟨w.drew, (Below.refl _ _).drew⟩, rfl⟩ h
theorem wp_region_ext2_heads {P : Program} {id : Nat} {Q : Exit → Act → World → Prop} {a : Act} {w : World} {y : Ext w} {l : List Oper} (n : Nat) (hm : P.follows .mixedOrders = true)
    (hB : (Region.noSelect l.toArray && decide (n ≤ l.length) && tailOk .any l.toArray n && lexHeads .any l.toArray n n 0 (Array.replicate l.length false)) = true)
    (h : wpQuiet P l.toArray (fun W => ∃ x : Ext w, W = x.now) (fun a' => ∀ W, (∃ x : Ext w, W = x.now) → wpAny P .any l.toArray Q (l.length - n) (headsDone n (l.length - n)) a' W) (l.take n) a) : (Code.region id l.toArray true).wp P Q a y.now :=
  wp_region_heads (C := fun W => ∃ x : Ext w, W = x.now) n hm hB ⟨⟨y.now.drew, y.grew.drew⟩, rfl⟩ h
end Go.Proofs.Ytlhihmfefipehaa

/- A region that draws its order: its first n operations are quiet, one allocation comes up whenever it likes, one store comes behind all of them: the first n are walked once, in the text's order. -/
import Derived.Test.YtlhihmfefipehaaFree
namespace Go.Proofs.Ytlhihmfefipehaa
open Go.RowKit
section
variable {P : Program} {ops : Array Oper} {md : Region.Mode} {n : Nat}
def tailOk1 (md : Region.Mode) (ops : Array Oper) (n : Nat) : Bool :=
  (List.range ops.size).all fun t => match ops[t]? with
    | none => true
    | some o => if t < n then o.after.all fun e => !Region.binds md e || decide (e.on < t) else if t = n then o.after.all fun e => !Region.binds md e
      else ((List.range (n + 1)).all fun i => reaches md ops 5 t i)
theorem flag1_get {l : Array Bool} {b : Bool} {j : Nat} (d : Bool) (h1 : j ≠ n) : (l.setIfInBounds n b).getD j d = l.getD j d := by
  simp [Array.getElem?_setIfInBounds_ne (Ne.symm h1)]
theorem flag1_at {l : Array Bool} {b : Bool} (h : n < l.size) (d : Bool) : (l.setIfInBounds n b).getD n d = b := by
  simp [h]
theorem free1_any {Q : Exit → Act → World → Prop} {F : Act} {w : World} {d1 x1 : Nat} {O1 : Obj} {o1 : Oper} {z1 c1 : Array Value} {t1 : TypeId} (hsel : Region.noSelect ops = true) (hT : tailOk1 md ops n = true) (hown : ownDst ops n = true)
    (ha1 : asideB ops n d1 = true) (hsz : ops.size = n + 2) (ho1 : ops[n]? = some o1)
    (hal1 : ∀ (a : Act) (W : World) (K : Act → World → Prop), K (a.put (some d1) (.pointer (some ⟨W.heap.size, 0, none⟩))) (W.alloc O1) → wpOp P ops Q n K a W)
    (hE1 : O1 = .cells z1 t1 (0, 0)) (hx1 : x1 ≠ d1)
    (hs1 : ∀ (a : Act) (W : World) (K : Act → World → Prop) (B : Nat), a.eval (.tmp d1) = .pointer (some ⟨B, 0, none⟩) → a.eval (.tmp x1) = F.eval (.tmp x1) → W.heap[B]? = some (.cells z1 t1 (0, 0)) → K a (W.setRow B c1) → wpOp P ops Q (n + 1) K a W)
    (hr0 : Region.ready md ops (headsDone (n + 1) 1) = [n + 1]) (hr2 : Region.ready md ops (headsDone (n + 2) 0) = []) (hfs : d1 < F.tmps.size)
    (hQ : ∀ (y : Ext w) (B1 : Nat), w.heap.size ≤ B1 → B1 < y.now.heap.size → y.now.heap[B1]? = some (.cells c1 t1 (0, 0)) → Q .normal (F.put (some d1) (.pointer (some ⟨B1, 0, none⟩))) y.now) :
    ∀ (k f : Nat) (l : Array Bool) (b1 : Bool) (a0 : Act) (p1 : Value) (B1 : Nat) (y : Ext w), k = f + (if b1 then 0 else 1) → l.size = ops.size → Closed md ops (l.setIfInBounds n b1) →
      (∀ t, n ≤ t → t < ops.size → l.getD t true = false) → (∀ z : Ext w, Heads P md ops (fun W => ∃ x : Ext z.now, W = x.now) n (fun a' => a' = F) f l a0) →
      Alloced w y.now b1 p1 B1 O1 → wpAny P md ops Q (k + 1) (l.setIfInBounds n b1) (a0.put (some d1) p1) y.now := by
  have hdeps : ∀ i o, i < n → ops[i]? = some o → ∀ e ∈ o.after, Region.binds md e = true → e.on < i := by
    intro i o hin ho e he hb
    have h1 := List.all_eq_true.1 hT i (List.mem_range.2 (by omega))
    simp only [ho, hin, if_true, Array.all_eq_true'] at h1
    have h2 := h1 e he
    simpa [hb] using h2
  have hnone : ∀ o, ops[n]? = some o → ∀ e ∈ o.after, Region.binds md e = true → False := by
    intro o ho e he hb
    have h1 := List.all_eq_true.1 hT n (List.mem_range.2 (by omega))
    simp only [ho, show ¬ n < n by omega, if_false, if_true, Array.all_eq_true'] at h1
    have h2 := h1 e he
    simp [hb] at h2
  have hready : ∀ (l : Array Bool) (b1 : Bool) (i : Nat), i < n → (i ∈ Region.ready md ops (l.setIfInBounds n b1) ↔ i ∈ Region.ready md ops l) := by
    intro l b1 i hin
    rw [mem_ready, mem_ready, flag1_get true (by omega)]
    constructor
    · rintro ⟨h1, o, ho, h2⟩
      exact ⟨h1, o, ho, fun e he hb => by have h3 := h2 e he hb; have := hdeps i o hin ho e he hb; rwa [flag1_get false (by omega)] at h3⟩
    · rintro ⟨h1, o, ho, h2⟩
      exact ⟨h1, o, ho, fun e he hb => by have := hdeps i o hin ho e he hb; rw [flag1_get false (by omega)]; exact h2 e he hb⟩
  intro k
  induction k with
  | zero =>
    intro f l b1 a0 p1 B1 y hk hl hc ht hH hA1
    have hf : f = 0 := by omega
    have hb1 : b1 = true := by
      cases b1
      · simp only [Bool.false_eq_true, if_false] at hk; omega
      · rfl
    subst hf hb1
    obtain ⟨hr, rfl⟩ := hH y
    obtain ⟨rfl, h1, h2, h3⟩ := hA1.is rfl
    have hall : ∀ i, i < n → l.getD i false = true := by
      intro i
      induction i using Nat.strongRecOn with
      | ind i ih =>
        intro hin
        by_cases hh : l.getD i false = true
        · exact hh
        · exfalso
          have hio : i < ops.size := by omega
          have ho : ops[i]? = some ops[i] := Array.getElem?_eq_getElem hio
          have hm : i ∈ Region.ready md ops l := by
            rw [mem_ready]
            refine ⟨?_, ops[i], ho, fun e he hb => ih e.on (hdeps i _ hin ho e he hb) (by have := hdeps i _ hin ho e he hb; omega)⟩
            have : i < l.size := by omega
            simp [this] at hh ⊢
            exact hh
          have := hr i hm
          omega
    have heq : l.setIfInBounds n true = headsDone (n + 1) 1 := by
      unfold headsDone
      apply Array.ext
      · simp; omega
      · intro i h7 h8
        have hil : i < l.size := by simpa using h7
        have e1 : (l.setIfInBounds n true)[i] = (l.setIfInBounds n true).getD i false := by simp only [Array.getD_eq_getD_getElem?, Array.getElem?_eq_getElem h7, Option.getD_some]
        rw [e1]
        by_cases hi1 : i = n
        · subst hi1; rw [flag1_at hil]; simp
        · rw [flag1_get false hi1]
          by_cases hin : i < n
          · rw [hall i hin]; simp [show i < n + 1 by omega]
          · have := ht i (by omega) (by omega)
            rw [show l.getD i false = false by simp [hil] at this ⊢; exact this]
            obtain rfl : i = n + 1 := by omega
            simp
    rw [Nat.zero_add, heq]
    refine ⟨fun h0 => (by rw [hr0] at h0; cases h0), fun i hi => ?_⟩
    rw [hr0] at hi
    obtain rfl : i = n + 1 := by simpa using hi
    refine hs1 _ _ _ B1 ?_ ?_ (h3.trans (by rw [hE1])) ?_
    · simp [Act.eval, Act.put, hfs]
    · rw [Act.eval_put (fun d e h => by cases e; cases h; exact hx1 rfl)]
    · have e : (headsDone (n + 1) 1).setIfInBounds (n + 1) true = headsDone (n + 2) 0 := by
        unfold headsDone
        apply Array.ext
        · simp
        · intro i h1 h2
          have : i < n + 2 := by simpa using h2
          rw [Array.getElem_setIfInBounds (by simp; omega)]
          simp only [List.getElem_toArray, List.getElem_append, List.length_replicate, List.getElem_replicate]
          split
          · rename_i e; subst e; simp
          · simp [show i < n + 1 by omega]
      rw [e]
      exact ⟨hr2, hQ ⟨y.now.setRow B1 c1, below_setRow y.grew h1 c1⟩ B1 h1 (by simpa using h2) (setRow_heap _ _ z1 _ _ _ (h3.trans (by rw [hE1])))⟩
  | succ k ih =>
    intro f l b1 a0 p1 B1 y hk hl hc ht hH hA1
    have hn1' : n < l.size := by omega
    refine ⟨fun h0 => ?_, fun i hi => ?_⟩
    · exfalso
      cases b1 with
      | false =>
        have : n ∈ Region.ready md ops (l.setIfInBounds n false) := mem_ready.2 ⟨flag1_at hn1' _, o1, ho1, fun e he hb => (hnone o1 ho1 e he hb).elim⟩
        rw [h0] at this; cases this
      | true =>
        obtain ⟨f', rfl⟩ : ∃ f', f = f' + 1 := ⟨f - 1, by simp at hk; omega⟩
        obtain ⟨⟨i, hr, hin⟩, _⟩ := hH y
        have := (hready l true i hin).2 hr
        rw [h0] at this; cases this
    · by_cases hin : i < n
      · have hi0 := (hready l b1 i hin).1 hi
        cases f with
        | zero => have := (hH y).1 i hi0; omega
        | succ f =>
          obtain ⟨hun, o, ho, hdep⟩ := mem_ready.1 hi0
          obtain ⟨v, hy, hKv⟩ := yieldsIn_of_qOp ho ((hH y).2 i hi0 hin)
          have hall : ∀ z : Ext w, Heads P md ops (fun W => ∃ x : Ext z.now, W = x.now) n (fun a' => a' = F) f (l.setIfInBounds i true) (a0.put o.dst v) := fun z => by
            obtain ⟨u, _, hu⟩ := yieldsIn_of_qOp ho ((hH z).2 i hi0 hin)
            rw [heads_value hown hin ho (by omega) hKv hu]; exact hu
          have q0 : qOp P ops (fun W => ∃ x : Ext y.now, W = x.now) i (fun a' => a' = a0.put o.dst v) a0 := hy.qOp ho rfl
          have s1 := asideB_at ha1 hin ho
          have q1 := qOp_aside (u := p1) ho (fun cs b => Region.noSelect_spec hsel i o cs b ho) s1.1 s1.2 q0
          refine wpOp_of_qOp (C := fun W => ∃ x : Ext y.now, W = x.now) ⟨⟨y.now, Below.refl _ _⟩, rfl⟩ ?_ q1
          rintro a' w' ⟨x, rfl⟩ ⟨_, rfl, rfl⟩
          have hc2 := hc.set hi
          rw [Array.setIfInBounds_comm _ _ (show n ≠ i by omega)] at hc2 ⊢
          exact ih f (l.setIfInBounds i true) b1 (a0.put o.dst v) p1 B1 ⟨x.now, y.grew.trans (x.grew.mono y.size)⟩ (by omega) (by simpa using hl) hc2
            (fun t h1 h2 => by rw [getD_set_ne true (by omega)]; exact ht t h1 h2) hall (hA1.ext x)
      · by_cases hi1 : i = n
        · subst hi1
          have hb : b1 = false := by
            have := (mem_ready.1 hi).1
            rwa [flag1_at hn1'] at this
          subst hb
          refine hal1 _ _ _ ?_
          have hc2 := hc.set hi
          rw [Array.setIfInBounds_setIfInBounds] at hc2 ⊢
          rw [put_twice]
          exact ih f l true a0 _ y.now.heap.size ⟨y.now.alloc O1, y.grew.alloc y.size _⟩ (by simp at hk ⊢; omega) hl hc2 ht hH
            ⟨fun _ => ⟨rfl, y.size, by simp, heap_alloc_new y.now O1⟩⟩
        · exfalso
          obtain ⟨hun, o, ho, hall⟩ := mem_ready.1 hi
          have hlt : i < ops.size := (Array.getElem?_eq_some_iff.1 ho).1
          have h1 := List.all_eq_true.1 hT i (List.mem_range.2 hlt)
          have hre : ∀ j, reaches md ops 5 i j = true → (l.setIfInBounds n b1).getD j false = true := fun j hj => reaches_listed hc 5 i j (fun o' ho' => (by obtain rfl := Option.some.inj (ho.symm.trans ho'); exact hall)) hj
          simp only [ho, hin, hi1, if_false, List.all_eq_true, List.mem_range] at h1
          have hb : b1 = true := by
            have := hre n (h1 n (by omega))
            rwa [flag1_at hn1'] at this
          subst hb
          obtain ⟨f', rfl⟩ : ∃ f', f = f' + 1 := ⟨f - 1, by simp at hk; omega⟩
          obtain ⟨⟨j, hr, hjn⟩, _⟩ := hH y
          have h2 := (mem_ready.1 hr).1
          have h3 := hre j (h1 j (by omega))
          rw [flag1_get false (by omega)] at h3
          have : j < l.size := by omega
          simp [this] at h2 h3
          rw [h3] at h2; cases h2
end
/-- The checks of the region's form, closed facts. -/
def freeOk1 (l : List Oper) (n d1 x1 : Nat) : Bool :=
  Region.noSelect l.toArray && decide (l.length = n + 2) && tailOk1 .any l.toArray n && ownDst l.toArray n && asideB l.toArray n d1 && lexHeads .any l.toArray n n 0 (Array.replicate l.length false) && (x1 != d1) &&
  (Region.ready .any l.toArray (headsDone (n + 1) 1) == [n + 1]) && (Region.ready .any l.toArray (headsDone (n + 2) 0) == [])
theorem wp_region_free1 {P : Program} {id : Nat} {Q : Exit → Act → World → Prop} {a F : Act} {w : World} {l : List Oper} (n d1 x1 : Nat) (z1 c1 : Array Value) (t1 : TypeId) (hm : P.follows .mixedOrders = true) (hB : freeOk1 l n d1 x1 = true)
    (hal1 : ∀ (a : Act) (W : World) (K : Act → World → Prop), K (a.put (some d1) (.pointer (some ⟨W.heap.size, 0, none⟩))) (W.alloc (.cells z1 t1 (0, 0))) → wpOp P l.toArray Q n K a W)
    (h : ∀ z : Ext w, wpQuiet P l.toArray (fun W => ∃ x : Ext z.now, W = x.now) (fun a' => a' = F) (l.take n) a)
    (hfs : d1 < F.tmps.size)
    (hs1 : ∀ (a : Act) (W : World) (K : Act → World → Prop) (B : Nat), a.eval (.tmp d1) = .pointer (some ⟨B, 0, none⟩) → a.eval (.tmp x1) = F.eval (.tmp x1) → W.heap[B]? = some (.cells z1 t1 (0, 0)) → K a (W.setRow B c1) → wpOp P l.toArray Q (n + 1) K a W)
    (hQ : ∀ (y : Ext w) (B1 : Nat), w.heap.size ≤ B1 → B1 < y.now.heap.size → y.now.heap[B1]? = some (.cells c1 t1 (0, 0)) → Q .normal (F.put (some d1) (.pointer (some ⟨B1, 0, none⟩))) y.now) :
    (Code.region id l.toArray true).wp P Q a w := by
  unfold freeOk1 at hB
  simp only [Bool.and_eq_true, decide_eq_true_eq, bne_iff_ne, beq_iff_eq] at hB
  obtain ⟨⟨⟨⟨⟨⟨⟨⟨hs, hn⟩, hT⟩, hown⟩, ha1⟩, hlex⟩, hx11⟩, hr0⟩, hr2⟩ := hB
  have htl : (l.take n).length = n := by simp; omega
  have H : ∀ z : Ext w, Heads P .any l.toArray (fun W => ∃ x : Ext z.now, W = x.now) n (fun a' => a' = F) n (Array.replicate l.length false) a := fun z => by
    have := Heads_lex (md := .any) (n := n) (C := fun W => ∃ x : Ext z.now, W = x.now) hs (l.take n) 0 (Array.replicate l.length false) a (fun j hj => by
      have hj' : j < n := by rw [htl] at hj; exact hj
      simp [hj']) (by simpa using htl) (by rw [htl]; exact hlex) (h z)
    rwa [htl] at this
  refine wp_region_any hm ?_
  have hfl : (Array.replicate l.length false).setIfInBounds n false = Array.replicate l.length false := by
    apply Array.ext
    · simp
    · intro i h1 h2
      have hi : i < l.length := by simpa using h2
      simp only [Array.getElem_setIfInBounds, Array.getElem_replicate, ite_self, Array.size_replicate, hi]
  have e : a.put (some d1) (a.eval (.tmp d1)) = a := put_self a d1
  have key := free1_any (md := .any) (Q := Q) (F := F) (w := w) (o1 := l[n]'(by omega)) hs hT hown ha1 (by simp; omega) (by simp) hal1 rfl hx11 hs1 hr0 hr2 hfs hQ
    (n + 1) n (Array.replicate l.length false) false a (a.eval (.tmp d1)) 0 ⟨w.drew, (Below.refl _ _).drew⟩ (by simp) (by simp)
    (by rw [hfl]; exact fun j o _ hl => (by rcases Nat.lt_or_ge j l.length with h' | h' <;> simp [h'] at hl))
    (fun t _ ht' => by have : t < l.length := (by simpa using ht'); simp [this]) H ⟨fun hb => by cases hb⟩
  rw [hfl, e, show n + 1 + 1 = l.toArray.size by simp; omega] at key
  simpa using key
theorem one_row {W : World} (y : Ext W) {B1 : Nat} {c1 : Array Value} {t1 : TypeId} (h1 : y.now.heap[B1]? = some (.cells c1 t1 (0, 0))) :
    ∀ o, y.now.cell? ⟨B1, o, none⟩ = c1[o]? := fun o => cell_of_row _ B1 o c1 t1 _ h1
end Go.Proofs.Ytlhihmfefipehaa

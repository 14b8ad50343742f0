/- A region that draws its order: its first n operations are quiet, two allocations come up whenever they like, the others come behind all of them: the first n are walked once, in the text's order. -/
import Derived.Test.YtlhihmfefipehaaTail
import Derived.Test.YtlhihmfefipehaaInv
namespace Go.Proofs.Ytlhihmfefipehaa
open Go.RowKit
section
variable {P : Program} {ops : Array Oper} {md : Region.Mode} {C : World → Prop} {n : Nat} {L : Act → Prop}
/-- A slot that no one of the first n operations reads or writes. -/
def asideB (ops : Array Oper) (n d : Nat) : Bool := (List.range n).all fun i => match ops[i]? with
  | some o => !(o.looksAt ops).contains d && (o.dst != some d)
  | none => true
theorem asideB_at {d i : Nat} {o : Oper} (h : asideB ops n d = true) (hin : i < n) (ho : ops[i]? = some o) : d ∉ o.looksAt ops ∧ o.dst ≠ some d := by
  have := List.all_eq_true.1 h i (List.mem_range.2 hin)
  simp only [ho, Bool.and_eq_true, Bool.not_eq_true', bne_iff_ne] at this
  exact ⟨by simpa using this.1, this.2⟩
theorem qOp_aside {i d : Nat} {o : Oper} {u : Value} {K : Act → Prop} {a : Act} (hi : ops[i]? = some o) (hs : ∀ cs b, o.op ≠ .select cs b) (h1 : d ∉ o.looksAt ops) (h2 : o.dst ≠ some d) (h : qOp P ops C i K a) :
    qOp P ops C i (fun a' => ∃ a0, a' = a0.put (some d) u ∧ K a0) (a.put (some d) u) := by
  have h3 : ∀ d', some d = some d' → d' ∉ o.looksAt ops := fun d' e => by cases e; exact h1
  have h4 : ∀ d', some d = some d' → o.dst ≠ some d' := fun d' e => by cases e; exact h2
  unfold qOp at *
  simp only [hi] at *
  rw [wanted_put o a (some d) u h3]
  split
  · rename_i hw
    simp only [hw, if_true] at h
    obtain ⟨v, hv, hk⟩ := h
    refine ⟨v, fun w hw' => ?_, a.put o.dst v, Act.put_comm a u v h4, hk⟩
    have := hv w hw'
    unfold Oper.quietAt at *
    rw [execOp_put o hs a (some d) u h3]
    exact this
  · rename_i hw
    simp only [hw] at h
    exact ⟨a.put o.dst undef, Act.put_comm a u undef h4, h⟩
theorem put_slot {a : Act} {d : Nat} {v u : Value} (h : (a.put (some d) v).tmps[d]? = (a.put (some d) u).tmps[d]?) : a.put (some d) v = a.put (some d) u := by
  simp only [Act.put] at h ⊢
  by_cases hd : d < a.tmps.size
  · simp [hd] at h; rw [h]
  · rw [Array.setIfInBounds_eq_of_size_le (by omega), Array.setIfInBounds_eq_of_size_le (by omega)]
theorem put_self (a : Act) (d : Nat) : a.put (some d) (a.eval (.tmp d)) = a := by
  simp only [Act.put, Act.eval]
  have : a.tmps.setIfInBounds d (a.tmps.getD d undef) = a.tmps := by
    apply Array.ext
    · simp
    · intro i h1 h2
      rw [Array.getElem_setIfInBounds h2]
      split
      · rename_i e; subst e; simp [h2]
      · rfl
  rw [this]
theorem put_twice (a : Act) (d : Nat) (u v : Value) : (a.put (some d) u).put (some d) v = a.put (some d) v := by
  simp only [Act.put, Array.setIfInBounds_setIfInBounds]
/-- Each of the first n operations writes a slot of its own. -/
def ownDst (ops : Array Oper) (n : Nat) : Bool := (List.range n).all fun i => (List.range n).all fun j => i == j || (match ops[i]?, ops[j]? with
  | some x, some y => x.dst == none || x.dst != y.dst
  | _, _ => true)
theorem ownDst_at {i j : Nat} {x y : Oper} {d : Nat} (h : ownDst ops n = true) (hi : i < n) (hj : j < n) (hij : i ≠ j) (hx : ops[i]? = some x) (hy : ops[j]? = some y) (hd : x.dst = some d) : y.dst ≠ some d := by
  have := List.all_eq_true.1 (List.all_eq_true.1 h i (List.mem_range.2 hi)) j (List.mem_range.2 hj)
  have hne : (i == j) = false := by simpa using hij
  simp only [hx, hy, hne, Bool.false_or, Bool.or_eq_true, hd] at this
  rcases this with h1 | h1
  · cases h1
  · intro h2; rw [h2] at h1; simp at h1
/-- What is told of the end is told of each slot that is no longer written. -/
theorem heads_slot {F : Act} : ∀ (f : Nat) (listed : Array Bool) (a : Act), Heads P md ops C n (fun a' => a' = F) f listed a → ∀ d, (∀ i o, i < n → ops[i]? = some o → listed.getD i true = false → o.dst ≠ some d) → a.tmps[d]? = F.tmps[d]?
  | 0, _, _, h, d, _ => by rw [h.2]
  | f + 1, listed, a, h, d, hd => by
    obtain ⟨⟨i, hr, hin⟩, hall⟩ := h
    obtain ⟨hun, o, ho, _⟩ := mem_ready.1 hr
    obtain ⟨v, _, hK⟩ := yieldsIn_of_qOp ho (hall i hr hin)
    have h1 := heads_slot f _ _ hK d (fun j o' hj ho' hl => hd j o' hj ho' (by
      by_cases hij : i = j
      · subst hij; exact hun
      · rwa [getD_set_ne true hij] at hl))
    rw [← h1]
    have hne := hd i o hin ho hun
    cases ho' : o.dst with
    | none => rfl
    | some d' =>
      have : d' ≠ d := fun e => hne (by rw [ho', e])
      simp only [Act.put]
      rw [Array.getElem?_setIfInBounds_ne this]
theorem heads_value {F : Act} {C' : World → Prop} {f : Nat} {listed : Array Bool} {a : Act} {i : Nat} {o : Oper} {v u : Value} (hown : ownDst ops n = true) (hin : i < n) (ho : ops[i]? = some o) (hsz : i < listed.size)
    (h1 : Heads P md ops C n (fun a' => a' = F) f (listed.setIfInBounds i true) (a.put o.dst v)) (h2 : Heads P md ops C' n (fun a' => a' = F) f (listed.setIfInBounds i true) (a.put o.dst u)) : a.put o.dst v = a.put o.dst u := by
  cases hd : o.dst with
  | none => rfl
  | some d =>
    rw [hd] at h1 h2
    have hun : ∀ j o', j < n → ops[j]? = some o' → (listed.setIfInBounds i true).getD j true = false → o'.dst ≠ some d := fun j o' hj ho' hl => by
      by_cases hij : i = j
      · subst hij; simp [hsz] at hl
      · exact ownDst_at hown hin hj hij ho ho' hd
    exact put_slot ((heads_slot f _ _ h1 d hun).trans (heads_slot f _ _ h2 d hun).symm)
/-- The flags of the two allocations. -/
def flags (n : Nat) (l : Array Bool) (b1 b2 : Bool) : Array Bool := (l.setIfInBounds n b1).setIfInBounds (n + 1) b2
theorem flags_get {l : Array Bool} {b1 b2 : Bool} {j : Nat} (d : Bool) (h1 : j ≠ n) (h2 : j ≠ n + 1) : (flags n l b1 b2).getD j d = l.getD j d := by
  unfold flags; simp [Array.getElem?_setIfInBounds_ne (Ne.symm h1), Array.getElem?_setIfInBounds_ne (Ne.symm h2)]
theorem flags_set {l : Array Bool} {b1 b2 : Bool} {i : Nat} (h : i < n) : (flags n l b1 b2).setIfInBounds i true = flags n (l.setIfInBounds i true) b1 b2 := by
  unfold flags
  rw [Array.setIfInBounds_comm _ _ (show n + 1 ≠ i by omega), Array.setIfInBounds_comm _ _ (show n ≠ i by omega)]
theorem flags_1 {l : Array Bool} {b1 b2 : Bool} : (flags n l b1 b2).setIfInBounds n true = flags n l true b2 := by
  unfold flags
  rw [Array.setIfInBounds_comm _ _ (show n + 1 ≠ n by omega), Array.setIfInBounds_setIfInBounds]
theorem flags_2 {l : Array Bool} {b1 b2 : Bool} : (flags n l b1 b2).setIfInBounds (n + 1) true = flags n l b1 true := by
  unfold flags
  rw [Array.setIfInBounds_setIfInBounds]
theorem flags_at1 {l : Array Bool} {b1 b2 : Bool} (h : n < l.size) (d : Bool) : (flags n l b1 b2).getD n d = b1 := by
  unfold flags; simp [h]
theorem flags_at2 {l : Array Bool} {b1 b2 : Bool} (h : n + 1 < l.size) (d : Bool) : (flags n l b1 b2).getD (n + 1) d = b2 := by
  unfold flags; simp [h]
/-- The first n wait for earlier ones alone, the two allocations for none, the first store for all of these but perhaps the last of the n, the second store for all. -/
def tailOk2 (md : Region.Mode) (ops : Array Oper) (n : Nat) : Bool :=
  (List.range ops.size).all fun t => match ops[t]? with
    | none => true
    | some o => if t < n then o.after.all fun e => !Region.binds md e || decide (e.on < t) else if t < n + 2 then o.after.all fun e => !Region.binds md e
      else if t = n + 2 then ((List.range (n - 1)).all fun i => reaches md ops 5 t i) && reaches md ops 5 t n && reaches md ops 5 t (n + 1) else reaches md ops 5 t (n + 2)
/-- All are done but the n-th and what comes behind. -/
def lateDone (n : Nat) (b : Bool) : Array Bool := (List.replicate (n - 1) true ++ [false, true, true, b, false]).toArray
structure Alloced (w W : World) (b : Bool) (p : Value) (B : Nat) (O : Obj) : Prop where
  is : b = true → p = .pointer (some ⟨B, 0, none⟩) ∧ w.heap.size ≤ B ∧ B < W.heap.size ∧ W.heap[B]? = some O
theorem Alloced.ext {w W : World} {b : Bool} {p : Value} {B : Nat} {O : Obj} (h : Alloced w W b p B O) (x : Ext W) : Alloced w x.now b p B O :=
  ⟨fun hb => by
    obtain ⟨h1, h2, h3, h4⟩ := h.is hb
    exact ⟨h1, h2, Nat.lt_of_lt_of_le h3 x.size, (x.grew.block B h3).trans h4⟩⟩
theorem free_any {Q : Exit → Act → World → Prop} {F : Act} {w : World} {d1 d2 : Nat} {O1 O2 : Obj} {o1 o2 : Oper} {x1 x2 : Nat} {z1 z2 c1 c2 : Array Value} {t1 t2 : TypeId} (hsel : Region.noSelect ops = true) (hT : tailOk2 md ops n = true) (hown : ownDst ops n = true)
    (ha1 : asideB ops n d1 = true) (ha2 : asideB ops n d2 = true) (hd : d1 ≠ d2) (hsz : ops.size = n + 2 + 2) (ho1 : ops[n]? = some o1) (ho2 : ops[n + 1]? = some o2)
    (hal1 : ∀ (a : Act) (W : World) (K : Act → World → Prop), K (a.put (some d1) (.pointer (some ⟨W.heap.size, 0, none⟩))) (W.alloc O1) → wpOp P ops Q n K a W)
    (hal2 : ∀ (a : Act) (W : World) (K : Act → World → Prop), K (a.put (some d2) (.pointer (some ⟨W.heap.size, 0, none⟩))) (W.alloc O2) → wpOp P ops Q (n + 1) K a W)
    (hn1 : 1 ≤ n) (hE1 : O1 = .cells z1 t1 (0, 0)) (hE2 : O2 = .cells z2 t2 (0, 0)) (hx1 : x1 ≠ d1 ∧ x1 ≠ d2 ∧ ∀ o, ops[n - 1]? = some o → o.dst ≠ some x1 ∧ o.dst ≠ some d1 ∧ o.dst ≠ some d2) (hx2 : x2 ≠ d1 ∧ x2 ≠ d2)
    (hs1 : ∀ (a : Act) (W : World) (K : Act → World → Prop) (B : Nat), a.eval (.tmp d1) = .pointer (some ⟨B, 0, none⟩) → a.eval (.tmp x1) = F.eval (.tmp x1) → W.heap[B]? = some (.cells z1 t1 (0, 0)) → K a (W.setRow B c1) → wpOp P ops Q (n + 2) K a W)
    (hs2 : ∀ (a : Act) (W : World) (K : Act → World → Prop) (B : Nat), a.eval (.tmp d2) = .pointer (some ⟨B, 0, none⟩) → a.eval (.tmp x2) = F.eval (.tmp x2) → W.heap[B]? = some (.cells z2 t2 (0, 0)) → K a (W.setRow B c2) → wpOp P ops Q (n + 3) K a W)
    (hr0 : Region.ready md ops (headsDone (n + 2) 2) = [n + 2]) (hr1 : Region.ready md ops (headsDone (n + 3) 1) = [n + 3]) (hr2 : Region.ready md ops (headsDone (n + 4) 0) = []) (hr3 : Region.ready md ops (lateDone n true) = [n - 1])
    (hfs : d1 < F.tmps.size ∧ d2 < F.tmps.size)
    (hQ : ∀ (y : Ext w) (B1 B2 : Nat), w.heap.size ≤ B1 → w.heap.size ≤ B2 → B1 < y.now.heap.size → B2 < y.now.heap.size → B1 ≠ B2 → y.now.heap[B1]? = some (.cells c1 t1 (0, 0)) → y.now.heap[B2]? = some (.cells c2 t2 (0, 0)) →
      Q .normal ((F.put (some d1) (.pointer (some ⟨B1, 0, none⟩))).put (some d2) (.pointer (some ⟨B2, 0, none⟩))) y.now) :
    ∀ (k f : Nat) (l : Array Bool) (b1 b2 : Bool) (a0 : Act) (p1 p2 : Value) (B1 B2 : Nat) (y : Ext w), k = f + (if b1 then 0 else 1) + (if b2 then 0 else 1) → l.size = ops.size → Closed md ops (flags n l b1 b2) →
      (∀ t, n ≤ t → t < ops.size → l.getD t true = false) → (∀ z : Ext w, Heads P md ops (fun W => ∃ x : Ext z.now, W = x.now) n (fun a' => a' = F) f l a0) →
      Alloced w y.now b1 p1 B1 O1 → Alloced w y.now b2 p2 B2 O2 → (b1 = true → b2 = true → B1 ≠ B2) →
      wpAny P md ops Q (k + 2) (flags n l b1 b2) ((a0.put (some d1) p1).put (some d2) p2) y.now := by
  have hdeps : ∀ i o, i < n → ops[i]? = some o → ∀ e ∈ o.after, Region.binds md e = true → e.on < i := by
    intro i o hin ho e he hb
    have h1 := List.all_eq_true.1 hT i (List.mem_range.2 (by omega))
    simp only [ho, hin, if_true, Array.all_eq_true'] at h1
    have h2 := h1 e he
    simpa [hb] using h2
  have hnone : ∀ j o, (j = n ∨ j = n + 1) → ops[j]? = some o → ∀ e ∈ o.after, Region.binds md e = true → False := by
    intro j o hj ho e he hb
    have h1 := List.all_eq_true.1 hT j (List.mem_range.2 (by omega))
    simp only [ho, show ¬ j < n by omega, show j < n + 2 by omega, if_false, if_true, Array.all_eq_true'] at h1
    have h2 := h1 e he
    simp [hb] at h2
  have hready : ∀ (l : Array Bool) (b1 b2 : Bool) (i : Nat), i < n → (i ∈ Region.ready md ops (flags n l b1 b2) ↔ i ∈ Region.ready md ops l) := by
    intro l b1 b2 i hin
    rw [mem_ready, mem_ready, flags_get true (by omega) (by omega)]
    constructor
    · rintro ⟨h1, o, ho, h2⟩
      exact ⟨h1, o, ho, fun e he hb => by have h3 := h2 e he hb; have := hdeps i o hin ho e he hb; rwa [flags_get false (by omega) (by omega)] at h3⟩
    · rintro ⟨h1, o, ho, h2⟩
      exact ⟨h1, o, ho, fun e he hb => by have := hdeps i o hin ho e he hb; rw [flags_get false (by omega) (by omega)]; exact h2 e he hb⟩
  have hend : ∀ (y : Ext w) (B1 B2 : Nat), w.heap.size ≤ B1 → w.heap.size ≤ B2 → B1 < y.now.heap.size → B2 < y.now.heap.size → B1 ≠ B2 → y.now.heap[B1]? = some (.cells c1 t1 (0, 0)) → y.now.heap[B2]? = some O2 →
      wpAny P md ops Q 1 (headsDone (n + 3) 1) ((F.put (some d1) (.pointer (some ⟨B1, 0, none⟩))).put (some d2) (.pointer (some ⟨B2, 0, none⟩))) y.now := by
    intro y B1 B2 g1 g2 g3 g4 g5 g6 g7
    refine ⟨fun h0 => (by rw [hr1] at h0; cases h0), fun i hi => ?_⟩
    rw [hr1] at hi
    obtain rfl : i = n + 3 := by simpa using hi
    refine hs2 _ _ _ B2 ?_ ?_ (g7.trans (by rw [hE2])) ?_
    · simp [Act.eval, Act.put, hfs.2]
    · rw [Act.eval_put (fun d e h => by cases e; cases h; exact hx2.2 rfl), Act.eval_put (fun d e h => by cases e; cases h; exact hx2.1 rfl)]
    · have e : (headsDone (n + 3) 1).setIfInBounds (n + 3) true = headsDone (n + 4) 0 := by
        unfold headsDone
        apply Array.ext
        · simp
        · intro i h1 h2
          have : i < n + 4 := by simpa using h2
          rw [Array.getElem_setIfInBounds (by simp; omega)]
          simp only [List.getElem_toArray, List.getElem_append, List.length_replicate, List.getElem_replicate]
          split
          · rename_i e; subst e; simp
          · simp [show i < n + 3 by omega]
      rw [e]
      refine ⟨hr2, hQ ⟨y.now.setRow B2 c2, below_setRow y.grew g2 c2⟩ B1 B2 g1 g2 (by simpa using g3) (by simpa using g4) g5 ((setRow_other _ _ _ _ g5).trans g6) (setRow_heap _ _ z2 _ _ _ (g7.trans (by rw [hE2])))⟩
  intro k
  induction k with
  | zero =>
    intro f l b1 b2 a0 p1 p2 B1 B2 y hk hl hc ht hH hA1 hA2 hne
    have hf : f = 0 := by omega
    have hb1 : b1 = true := by
      cases b1
      · simp only [Bool.false_eq_true, if_false] at hk; omega
      · rfl
    have hb2 : b2 = true := by
      cases b2
      · simp only [Bool.false_eq_true, if_false] at hk; omega
      · rfl
    subst hf hb1 hb2
    have h0 := hH y
    obtain ⟨hr, rfl⟩ := h0
    obtain ⟨rfl, h1, h2, h3⟩ := hA1.is rfl
    obtain ⟨rfl, h4, h5, h6⟩ := hA2.is rfl
    have hall : ∀ i, i < n → l.getD i false = true := by
      intro i
      induction i using Nat.strongRecOn with
      | ind i ih =>
        intro hin
        by_cases hh : l.getD i false = true
        · exact hh
        · exfalso
          have hio : i < ops.size := by omega
          have ho : ops[i]? = some ops[i] := Array.getElem?_eq_getElem hio
          have hm : i ∈ Region.ready md ops l := by
            rw [mem_ready]
            refine ⟨?_, ops[i], ho, fun e he hb => ih e.on (hdeps i _ hin ho e he hb) (by have := hdeps i _ hin ho e he hb; omega)⟩
            have : i < l.size := by omega
            simp [this] at hh ⊢
            exact hh
          have := hr i hm
          omega
    have heq : flags n l true true = headsDone (n + 2) 2 := by
      unfold headsDone
      apply Array.ext
      · simp [flags]; omega
      · intro i h7 h8
        have hil : i < l.size := by simpa [flags] using h7
        have e1 : (flags n l true true)[i] = (flags n l true true).getD i false := by simp [h7]
        rw [e1]
        by_cases hi1 : i = n
        · subst hi1; rw [flags_at1 hil]; simp
        · by_cases hi2 : i = n + 1
          · subst hi2; rw [flags_at2 hil]; simp
          · rw [flags_get false hi1 hi2]
            by_cases hin : i < n
            · rw [hall i hin]; simp [show i < n + 2 by omega]
            · have := ht i (by omega) (by omega)
              rw [show l.getD i false = false by simp [hil] at this ⊢; exact this]
              rcases (show i = n + 2 ∨ i = n + 3 by omega) with q | q <;> subst q <;> simp
    rw [Nat.zero_add, heq]
    refine ⟨fun h0 => (by rw [hr0] at h0; cases h0), fun i hi => ?_⟩
    rw [hr0] at hi
    obtain rfl : i = n + 2 := by simpa using hi
    refine hs1 _ _ _ B1 ?_ ?_ (h3.trans (by rw [hE1])) ?_
    · rw [Act.put_comm _ (x := some d1) (y := some d2) _ _ (fun d e => by cases e; intro h; cases h; exact hd rfl)]
      simp [Act.eval, Act.put, hfs.1]
    · rw [Act.eval_put (fun d e h => by cases e; cases h; exact hx1.2.1 rfl), Act.eval_put (fun d e h => by cases e; cases h; exact hx1.1 rfl)]
    · have e : (headsDone (n + 2) 2).setIfInBounds (n + 2) true = headsDone (n + 3) 1 := by
        unfold headsDone
        apply Array.ext
        · simp
        · intro i h1 h2
          have : i < n + 4 := by simpa using h2
          rw [Array.getElem_setIfInBounds (by simp; omega)]
          simp only [List.getElem_toArray, List.getElem_append, List.length_replicate, List.getElem_replicate]
          split
          · rename_i e; subst e; simp
          · by_cases h8 : i < n + 2
            · simp [h8, show i < n + 3 by omega]
            · simp [show i = n + 3 by omega]
      rw [e]
      exact hend ⟨y.now.setRow B1 c1, below_setRow y.grew h1 c1⟩ B1 B2 h1 h4 (by simpa using h2) (by simpa using h5) (hne rfl rfl) (setRow_heap _ _ z1 _ _ _ (h3.trans (by rw [hE1]))) ((setRow_other _ _ _ _ (Ne.symm (hne rfl rfl))).trans h6)
  | succ k ih =>
    intro f l b1 b2 a0 p1 p2 B1 B2 y hk hl hc ht hH hA1 hA2 hne
    have hn1' : n < l.size := by omega
    have hn2 : n + 1 < l.size := by omega
    rw [show k + 1 + 2 = (k + 2) + 1 by omega]
    refine ⟨fun h0 => ?_, fun i hi => ?_⟩
    · exfalso
      cases b1 with
      | false =>
        have : n ∈ Region.ready md ops (flags n l false b2) := mem_ready.2 ⟨flags_at1 hn1' _, o1, ho1, fun e he hb => (hnone n o1 (.inl rfl) ho1 e he hb).elim⟩
        rw [h0] at this; cases this
      | true =>
        cases b2 with
        | false =>
          have : n + 1 ∈ Region.ready md ops (flags n l true false) := mem_ready.2 ⟨flags_at2 hn2 _, o2, ho2, fun e he hb => (hnone (n + 1) o2 (.inr rfl) ho2 e he hb).elim⟩
          rw [h0] at this; cases this
        | true =>
          obtain ⟨f', rfl⟩ : ∃ f', f = f' + 1 := ⟨f - 1, by simp at hk; omega⟩
          obtain ⟨⟨i, hr, hin⟩, _⟩ := hH y
          have := (hready l true true i hin).2 hr
          rw [h0] at this; cases this
    · by_cases hin : i < n
      · have hi0 := (hready l b1 b2 i hin).1 hi
        cases f with
        | zero => have := (hH y).1 i hi0; omega
        | succ f =>
          obtain ⟨hun, o, ho, hdep⟩ := mem_ready.1 hi0
          obtain ⟨v, hy, hKv⟩ := yieldsIn_of_qOp ho ((hH y).2 i hi0 hin)
          have hall : ∀ z : Ext w, Heads P md ops (fun W => ∃ x : Ext z.now, W = x.now) n (fun a' => a' = F) f (l.setIfInBounds i true) (a0.put o.dst v) := fun z => by
            obtain ⟨u, _, hu⟩ := yieldsIn_of_qOp ho ((hH z).2 i hi0 hin)
            rw [heads_value hown hin ho (by omega) hKv hu]; exact hu
          have q0 : qOp P ops (fun W => ∃ x : Ext y.now, W = x.now) i (fun a' => a' = a0.put o.dst v) a0 := hy.qOp ho rfl
          have s1 := asideB_at ha1 hin ho
          have s2 := asideB_at ha2 hin ho
          have q1 := qOp_aside (u := p1) ho (fun cs b => Region.noSelect_spec hsel i o cs b ho) s1.1 s1.2 q0
          have q2 := qOp_aside (u := p2) ho (fun cs b => Region.noSelect_spec hsel i o cs b ho) s2.1 s2.2 q1
          refine wpOp_of_qOp (C := fun W => ∃ x : Ext y.now, W = x.now) ⟨⟨y.now, Below.refl _ _⟩, rfl⟩ ?_ q2
          rintro a' w' ⟨x, rfl⟩ ⟨_, rfl, _, rfl, rfl⟩
          have hc2 := hc.set hi
          rw [flags_set hin] at hc2 ⊢
          exact ih f (l.setIfInBounds i true) b1 b2 (a0.put o.dst v) p1 p2 B1 B2 ⟨x.now, y.grew.trans (x.grew.mono y.size)⟩ (by omega) (by simpa using hl) hc2
            (fun t h1 h2 => by rw [getD_set_ne true (by omega)]; exact ht t h1 h2) hall (hA1.ext x) (hA2.ext x) hne
      · by_cases hi1 : i = n
        · subst hi1
          have hb : b1 = false := by
            have := (mem_ready.1 hi).1
            rwa [flags_at1 hn1'] at this
          subst hb
          refine hal1 _ _ _ ?_
          have hc2 := hc.set hi
          rw [flags_1] at hc2 ⊢
          rw [Act.put_comm (a0.put (some d1) p1) (x := some d2) (y := some d1) p2 _ (fun d e => by cases e; intro h; cases h; exact hd rfl), put_twice]
          exact ih f l true b2 a0 _ p2 y.now.heap.size B2 ⟨y.now.alloc O1, y.grew.alloc y.size _⟩ (by simp at hk ⊢; omega) hl hc2 ht hH
            ⟨fun _ => ⟨rfl, y.size, by simp, heap_alloc_new y.now O1⟩⟩ (hA2.ext ⟨y.now.alloc O1, (Below.refl _ _).alloc (Nat.le_refl _) _⟩) (fun _ h2 => by have := (hA2.is h2).2.2.1; omega)
        · by_cases hi2 : i = n + 1
          · subst hi2
            have hb : b2 = false := by
              have := (mem_ready.1 hi).1
              rwa [flags_at2 hn2] at this
            subst hb
            refine hal2 _ _ _ ?_
            have hc2 := hc.set hi
            rw [flags_2] at hc2 ⊢
            rw [put_twice]
            exact ih f l b1 true a0 p1 _ B1 y.now.heap.size ⟨y.now.alloc O2, y.grew.alloc y.size _⟩ (by simp at hk ⊢; omega) hl hc2 ht hH
              (hA1.ext ⟨y.now.alloc O2, (Below.refl _ _).alloc (Nat.le_refl _) _⟩) ⟨fun _ => ⟨rfl, y.size, by simp, heap_alloc_new y.now O2⟩⟩ (fun h1 _ => by have := (hA1.is h1).2.2.1; omega)
          · obtain ⟨hun, o, ho, hall⟩ := mem_ready.1 hi
            have hlt : i < ops.size := (Array.getElem?_eq_some_iff.1 ho).1
            have h1 := List.all_eq_true.1 hT i (List.mem_range.2 hlt)
            have hre : ∀ j, reaches md ops 5 i j = true → (flags n l b1 b2).getD j false = true := fun j hj => reaches_listed hc 5 i j (fun o' ho' => (by obtain rfl := Option.some.inj (ho.symm.trans ho'); exact hall)) hj
            by_cases hi3 : i = n + 2
            · subst hi3
              simp only [ho, show ¬ n + 2 < n by omega, show ¬ n + 2 < n + 2 by omega, if_false, if_true, Bool.and_eq_true, List.all_eq_true, List.mem_range] at h1
              obtain ⟨⟨h2, h3⟩, h4⟩ := h1
              have e1 := hre n h3; rw [flags_at1 hn1'] at e1
              have e2 := hre (n + 1) h4; rw [flags_at2 hn2] at e2
              subst e1 e2
              obtain ⟨f', rfl⟩ : ∃ f', f = f' + 1 := ⟨f - 1, by simp at hk; omega⟩
              -- the one that is left is the n-th
              have hlast : ∀ i0, i0 < n → i0 ∈ Region.ready md ops l → i0 = n - 1 := fun i0 hi0 hr => by
                rcases Nat.lt_or_ge i0 (n - 1) with h5 | h5
                · exfalso
                  have e3 := hre i0 (h2 i0 h5)
                  rw [flags_get false (by omega) (by omega)] at e3
                  have e4 := (mem_ready.1 hr).1
                  have hl0 : i0 < l.size := by omega
                  simp [hl0] at e3 e4
                  rw [e3] at e4; cases e4
                · omega
              obtain ⟨⟨i0, hr0', hin0⟩, _⟩ := hH y
              obtain rfl := hlast i0 hin0 hr0'
              obtain ⟨hun0, oc, hoc, _⟩ := mem_ready.1 hr0'
              obtain ⟨hx3, hx4, hx5⟩ := hx1.2.2 oc hoc
              have hall0 : ∀ i0, i0 < n - 1 → l.getD i0 false = true := fun i0 h5 => by
                have e3 := hre i0 (h2 i0 h5)
                rwa [flags_get false (by omega) (by omega)] at e3
              -- behind it all are done
              have hF1 : ∀ (z : Ext w) (v : Value), Heads P md ops (fun W => ∃ x : Ext z.now, W = x.now) n (fun a' => a' = F) f' (l.setIfInBounds (n - 1) true) (a0.put oc.dst v) → a0.put oc.dst v = F := fun z v hh => by
                cases f' with
                | zero => exact hh.2
                | succ f' =>
                  obtain ⟨⟨i1, hr1', hin1⟩, _⟩ := hh
                  obtain ⟨hun1, _⟩ := mem_ready.1 hr1'
                  exfalso
                  by_cases h6 : i1 = n - 1
                  · subst h6
                    have : n - 1 < l.size := by omega
                    simp [this] at hun1
                  · have h7 := hall0 i1 (by omega)
                    rw [getD_set_ne true (by omega)] at hun1
                    have hl0 : i1 < l.size := by omega
                    simp [hl0] at h7 hun1
                    rw [h7] at hun1; cases hun1
              obtain ⟨v, hy, hKv⟩ := yieldsIn_of_qOp hoc ((hH y).2 (n - 1) hr0' hin0)
              have hFv := hF1 y v hKv
              have hfa : d1 < a0.tmps.size ∧ d2 < a0.tmps.size := by
                have : F.tmps.size = a0.tmps.size := by rw [← hFv]; cases oc.dst <;> simp [Act.put]
                rw [← this]; exact hfs
              obtain ⟨rfl, g1, g2, g3⟩ := hA1.is rfl
              obtain ⟨rfl, g4, g5, g6⟩ := hA2.is rfl
              have hne' := hne rfl rfl
              have hex : a0.eval (.tmp x1) = F.eval (.tmp x1) := by
                rw [← hFv, Act.eval_put (fun d e h => by cases h; exact hx3 e)]
              refine hs1 _ _ _ B1 ?_ ?_ (g3.trans (by rw [hE1])) ?_
              · rw [Act.put_comm a0 (x := some d1) (y := some d2) _ _ (fun d e => by cases e; intro h; cases h; exact hd rfl)]
                simp [Act.eval, Act.put, hfa.1]
              · rw [Act.eval_put (fun d e h => by cases e; cases h; exact hx1.2.1 rfl), Act.eval_put (fun d e h => by cases e; cases h; exact hx1.1 rfl)]
                exact hex
              · have hk0 : k + 2 = 1 + 1 := by
                  have : f' = 0 := by
                    cases f' with
                    | zero => rfl
                    | succ f' =>
                      exfalso
                      obtain ⟨⟨i1, hr1', hin1⟩, _⟩ := hKv
                      obtain ⟨hun1, _⟩ := mem_ready.1 hr1'
                      by_cases h6 : i1 = n - 1
                      · subst h6
                        have : n - 1 < l.size := by omega
                        simp [this] at hun1
                      · have h7 := hall0 i1 (by omega)
                        rw [getD_set_ne true (by omega)] at hun1
                        have hl0 : i1 < l.size := by omega
                        simp [hl0] at h7 hun1
                        rw [h7] at hun1; cases hun1
                  simp at hk; omega
                have hunl : l.getD (n - 1) false = false := by
                  have : n - 1 < l.size := by omega
                  simp [this] at hun0 ⊢; exact hun0
                have eL : (flags n l true true).setIfInBounds (n + 2) true = lateDone n true := by
                  unfold lateDone
                  apply Array.ext
                  · simp [flags]; omega
                  · intro i h7 h8
                    have hil : i < l.size := by simpa [flags] using h7
                    have hi4 : i < n + 4 := by omega
                    have e9 : ((flags n l true true).setIfInBounds (n + 2) true)[i] = ((flags n l true true).setIfInBounds (n + 2) true).getD i false := by simp only [Array.getD_eq_getD_getElem?, Array.getElem?_eq_getElem h7, Option.getD_some]
                    rw [e9]
                    by_cases q2 : i = n + 2
                    · subst q2
                      have : n + 2 < l.size := hil
                      simp [flags, this, List.getElem_append, show ¬ n + 2 < n - 1 by omega, show n + 2 - (n - 1) = 3 by omega]
                    · rw [getD_set_ne false (Ne.symm q2)]
                      by_cases q0 : i = n
                      · subst q0; rw [flags_at1 hil]; simp [show i - (i - 1) = 1 by omega]
                      · by_cases q1 : i = n + 1
                        · subst q1; rw [flags_at2 hil]; simp [List.getElem_append, show ¬ n + 1 < n - 1 by omega, show n + 1 - (n - 1) = 2 by omega]
                        · rw [flags_get false q0 q1]
                          by_cases q3 : i < n - 1
                          · rw [hall0 i q3]; simp [q3]
                          · by_cases q4 : i = n - 1
                            · subst q4; rw [hunl]; simp
                            · have := ht i (by omega) (by omega)
                              simp [hil] at this
                              simp [hil, this, List.getElem_append, show ¬ i < n - 1 by omega, show i - (n - 1) = 4 by omega]
                rw [eL, hk0]
                refine ⟨fun h0 => (by rw [hr3] at h0; cases h0), fun i hi5 => ?_⟩
                rw [hr3] at hi5
                obtain rfl : i = n - 1 := by simpa using hi5
                have bz := below_setRow y.grew g1 c1
                obtain ⟨u, hyu, hKu⟩ := yieldsIn_of_qOp hoc ((hH ⟨y.now.setRow B1 c1, bz⟩).2 (n - 1) hr0' hin0)
                have hFu := hF1 _ u hKu
                have q0 : qOp P ops (fun W => ∃ x : Ext (y.now.setRow B1 c1), W = x.now) (n - 1) (fun a' => a' = F) a0 := hyu.qOp hoc hFu
                have s1 := asideB_at ha1 hin0 hoc
                have s2 := asideB_at ha2 hin0 hoc
                have q1 := qOp_aside (u := .pointer (some ⟨B1, 0, none⟩)) hoc (fun cs b => Region.noSelect_spec hsel _ oc cs b hoc) s1.1 s1.2 q0
                have q2 := qOp_aside (u := .pointer (some ⟨B2, 0, none⟩)) hoc (fun cs b => Region.noSelect_spec hsel _ oc cs b hoc) s2.1 s2.2 q1
                refine wpOp_of_qOp (C := fun W => ∃ x : Ext (y.now.setRow B1 c1), W = x.now) ⟨⟨_, Below.refl _ _⟩, rfl⟩ ?_ q2
                rintro a' w' ⟨x, rfl⟩ ⟨_, rfl, _, rfl, rfl⟩
                have eM : (lateDone n true).setIfInBounds (n - 1) true = headsDone (n + 3) 1 := by
                  unfold lateDone headsDone
                  apply Array.ext
                  · simp; omega
                  · intro i h7 h8
                    have hi4 : i < n + 4 := by simpa using h8
                    rw [Array.getElem_setIfInBounds (by simp; omega)]
                    simp only [List.getElem_toArray, List.getElem_append, List.length_replicate, List.getElem_replicate]
                    split
                    · rename_i e; subst e; simp [show n - 1 < n + 3 by omega]
                    · rename_i e
                      by_cases q3 : i < n - 1
                      · simp [q3, show i < n + 3 by omega]
                      · rcases (show i = n ∨ i = n + 1 ∨ i = n + 2 ∨ i = n + 3 by omega) with q | q | q | q
                        · subst q; simp [show ¬ i < i - 1 by omega, show i - (i - 1) = 1 by omega]
                        · subst q; simp [show ¬ n + 1 < n - 1 by omega, show n + 1 - (n - 1) = 2 by omega]
                        · subst q; simp [show ¬ n + 2 < n - 1 by omega, show n + 2 - (n - 1) = 3 by omega]
                        · subst q; simp [show ¬ n + 3 < n - 1 by omega, show n + 3 - (n - 1) = 4 by omega]
                rw [eM]
                have xs := x.size
                simp only [size_setRow] at xs
                exact hend ⟨x.now, bz.trans (x.grew.mono (by simpa using y.size))⟩ B1 B2 g1 g4 (Nat.lt_of_lt_of_le g2 xs) (Nat.lt_of_lt_of_le g5 xs) hne'
                  ((x.grew.block B1 (by simpa using g2)).trans (setRow_heap _ _ z1 _ _ _ (g3.trans (by rw [hE1])))) ((x.grew.block B2 (by simpa using g5)).trans ((setRow_other _ _ _ _ (Ne.symm hne')).trans g6))
            · exfalso
              simp only [ho, hin, show ¬ i < n + 2 by omega, hi3, if_false] at h1
              have e1 := hre (n + 2) h1
              rw [flags_get false (by omega) (by omega)] at e1
              have e2 := ht (n + 2) (by omega) (by omega)
              have : n + 2 < l.size := by omega
              simp [this] at e1 e2
              rw [e1] at e2; cases e2
end
/-- The checks of the region's form, closed facts. -/
def freeOk (l : List Oper) (n d1 d2 x1 x2 : Nat) : Bool :=
  Region.noSelect l.toArray && decide (l.length = n + 2 + 2) && tailOk2 .any l.toArray n && ownDst l.toArray n && asideB l.toArray n d1 && asideB l.toArray n d2 && (d1 != d2) && lexHeads .any l.toArray n n 0 (Array.replicate l.length false) &&
  decide (1 ≤ n) && (x1 != d1) && (x1 != d2) && (x2 != d1) && (x2 != d2) && (match l.toArray[n - 1]? with | some o => o.dst != some x1 && o.dst != some d1 && o.dst != some d2 | none => true) &&
  (Region.ready .any l.toArray (headsDone (n + 2) 2) == [n + 2]) && (Region.ready .any l.toArray (headsDone (n + 3) 1) == [n + 3]) && (Region.ready .any l.toArray (headsDone (n + 4) 0) == []) && (Region.ready .any l.toArray (lateDone n true) == [n - 1])
theorem wp_region_free {P : Program} {id : Nat} {Q : Exit → Act → World → Prop} {a F : Act} {w : World} {l : List Oper} (n d1 d2 x1 x2 : Nat) (z1 z2 c1 c2 : Array Value) (t1 t2 : TypeId) (hm : P.follows .mixedOrders = true) (hB : freeOk l n d1 d2 x1 x2 = true)
    (hal1 : ∀ (a : Act) (W : World) (K : Act → World → Prop), K (a.put (some d1) (.pointer (some ⟨W.heap.size, 0, none⟩))) (W.alloc (.cells z1 t1 (0, 0))) → wpOp P l.toArray Q n K a W)
    (hal2 : ∀ (a : Act) (W : World) (K : Act → World → Prop), K (a.put (some d2) (.pointer (some ⟨W.heap.size, 0, none⟩))) (W.alloc (.cells z2 t2 (0, 0))) → wpOp P l.toArray Q (n + 1) K a W)
    (h : ∀ z : Ext w, wpQuiet P l.toArray (fun W => ∃ x : Ext z.now, W = x.now) (fun a' => a' = F) (l.take n) a)
    (hfs : d1 < F.tmps.size ∧ d2 < F.tmps.size)
    (hs1 : ∀ (a : Act) (W : World) (K : Act → World → Prop) (B : Nat), a.eval (.tmp d1) = .pointer (some ⟨B, 0, none⟩) → a.eval (.tmp x1) = F.eval (.tmp x1) → W.heap[B]? = some (.cells z1 t1 (0, 0)) → K a (W.setRow B c1) → wpOp P l.toArray Q (n + 2) K a W)
    (hs2 : ∀ (a : Act) (W : World) (K : Act → World → Prop) (B : Nat), a.eval (.tmp d2) = .pointer (some ⟨B, 0, none⟩) → a.eval (.tmp x2) = F.eval (.tmp x2) → W.heap[B]? = some (.cells z2 t2 (0, 0)) → K a (W.setRow B c2) → wpOp P l.toArray Q (n + 3) K a W)
    (hQ : ∀ (y : Ext w) (B1 B2 : Nat), w.heap.size ≤ B1 → w.heap.size ≤ B2 → B1 < y.now.heap.size → B2 < y.now.heap.size → B1 ≠ B2 → y.now.heap[B1]? = some (.cells c1 t1 (0, 0)) → y.now.heap[B2]? = some (.cells c2 t2 (0, 0)) →
      Q .normal ((F.put (some d1) (.pointer (some ⟨B1, 0, none⟩))).put (some d2) (.pointer (some ⟨B2, 0, none⟩))) y.now) :
    (Code.region id l.toArray true).wp P Q a w := by
  unfold freeOk at hB
  simp only [Bool.and_eq_true, decide_eq_true_eq, bne_iff_ne, beq_iff_eq] at hB
  obtain ⟨⟨⟨⟨⟨⟨⟨⟨⟨⟨⟨⟨⟨⟨⟨⟨⟨hs, hn⟩, hT⟩, hown⟩, ha1⟩, ha2⟩, hd⟩, hlex⟩, hn1⟩, hx11⟩, hx12⟩, hx21⟩, hx22⟩, hxc⟩, hr0⟩, hr1⟩, hr2⟩, hr3⟩ := hB
  have htl : (l.take n).length = n := by simp; omega
  have H : ∀ z : Ext w, Heads P .any l.toArray (fun W => ∃ x : Ext z.now, W = x.now) n (fun a' => a' = F) n (Array.replicate l.length false) a := fun z => by
    have := Heads_lex (md := .any) (n := n) (C := fun W => ∃ x : Ext z.now, W = x.now) hs (l.take n) 0 (Array.replicate l.length false) a (fun j hj => by
      have hj' : j < n := by rw [htl] at hj; exact hj
      simp [hj']) (by simpa using htl) (by rw [htl]; exact hlex) (h z)
    rwa [htl] at this
  refine wp_region_any hm ?_
  have hfl : flags n (Array.replicate l.length false) false false = Array.replicate l.length false := by
    unfold flags
    apply Array.ext
    · simp
    · intro i h1 h2
      have hi : i < l.length := by simpa using h2
      simp only [Array.getElem_setIfInBounds, Array.getElem_replicate, ite_self, Array.size_setIfInBounds, Array.size_replicate, hi]
  have e : (a.put (some d1) (a.eval (.tmp d1))).put (some d2) ((a.put (some d1) (a.eval (.tmp d1))).eval (.tmp d2)) = a := by rw [put_self (a.put (some d1) (a.eval (.tmp d1))) d2, put_self a d1]
  have hxc' : ∀ o, l.toArray[n - 1]? = some o → o.dst ≠ some x1 ∧ o.dst ≠ some d1 ∧ o.dst ≠ some d2 := fun o ho => by
    rw [ho] at hxc
    simp only [Bool.and_eq_true, bne_iff_ne] at hxc
    exact ⟨hxc.1.1, hxc.1.2, hxc.2⟩
  have key := free_any (md := .any) (Q := Q) (F := F) (w := w) (o1 := l[n]'(by omega)) (o2 := l[n + 1]'(by omega)) hs hT hown ha1 ha2 hd (by simp; omega) (by simp) (by simp) hal1 hal2 hn1 rfl rfl ⟨hx11, hx12, hxc'⟩ ⟨hx21, hx22⟩ hs1 hs2 hr0 hr1 hr2 hr3 hfs hQ
    (n + 2) n (Array.replicate l.length false) false false a (a.eval (.tmp d1)) ((a.put (some d1) (a.eval (.tmp d1))).eval (.tmp d2)) 0 0 ⟨w.drew, (Below.refl _ _).drew⟩ (by simp) (by simp)
    (by rw [hfl]; exact fun j o _ hl => (by rcases Nat.lt_or_ge j l.length with h' | h' <;> simp [h'] at hl))
    (fun t _ ht' => by have : t < l.length := (by simpa using ht'); simp [this]) H ⟨fun hb => by cases hb⟩ ⟨fun hb => by cases hb⟩ (fun hb => by cases hb)
  rw [hfl, e, show n + 2 + 2 = l.toArray.size by simp; omega] at key
  simpa using key
/-- A whole row stored into a block. -/
theorem store_op {P : Program} {o : Oper} {a : Act} {w : World} {K : Act → World → Prop} {Q : Exit → Act → World → Prop} (ty : TypeId) (x y : Operand) (ho : o.op = .store ty x y)
    (g : Nat) (cells : Array Value) (hx : a.eval x = .pointer (some ⟨g, 0, none⟩)) (hy : a.eval y = .agg cells)
    (t : TypeId) (old : Array Value) (hg : w.heap[g]? = some (.cells old t (0, 0))) (hi : (P.info? ty).map (·.size) = some cells.size)
    (hsz : old.size = cells.size) (h1 : cells.all (·.oneCell') = true) (h : K (a.put o.dst undef) (w.setRow g cells)) : o.wp P a w K Q := by
  unfold Oper.wp
  unfold execOp
  simp only [ho, hx, hy, Instr.storeAt, Instr.sureAddr, Sem.run_bind, Sem.run_pure, Result.andThen_ok, run_storeVar_row w g t ty old cells hg hi hsz h1]
  exact h
/-- Two new rows, written. -/
theorem two_rows {W : World} (y : Ext W) {B1 B2 : Nat} {z1 z2 c1 c2 : Array Value} {t1 t2 : TypeId} (l1 : W.heap.size ≤ B1) (l2 : W.heap.size ≤ B2) (hne : B1 ≠ B2) (h1 : y.now.heap[B1]? = some (.cells z1 t1 (0, 0))) (h2 : y.now.heap[B2]? = some (.cells z2 t2 (0, 0))) :
    Below W.heap.size W ((y.now.setRow B1 c1).setRow B2 c2) ∧ ((y.now.setRow B1 c1).setRow B2 c2).heap.size = y.now.heap.size ∧ (∀ o, ((y.now.setRow B1 c1).setRow B2 c2).cell? ⟨B1, o, none⟩ = c1[o]?) ∧ (∀ o, ((y.now.setRow B1 c1).setRow B2 c2).cell? ⟨B2, o, none⟩ = c2[o]?) := by
  have k1 := setRow_heap y.now B1 z1 c1 t1 _ h1
  have k2 : (y.now.setRow B1 c1).heap[B2]? = some (.cells z2 t2 (0, 0)) := (setRow_other y.now B1 B2 c1 (Ne.symm hne)).trans h2
  have k3 := setRow_heap (y.now.setRow B1 c1) B2 z2 c2 t2 _ k2
  have k4 : ((y.now.setRow B1 c1).setRow B2 c2).heap[B1]? = some (.cells c1 t1 (0, 0)) := (setRow_other (y.now.setRow B1 c1) B2 B1 c2 hne).trans k1
  refine ⟨below_setRow (below_setRow y.grew l1 c1) l2 c2, by simp, fun o => cell_of_row _ B1 o c1 t1 _ k4, fun o => cell_of_row _ B2 o c2 t2 _ k3⟩
end Go.Proofs.Ytlhihmfefipehaa

/- A region that draws its order: n quiet operations, one allocation that comes up whenever it likes, one store that waits for the allocation and for those that give its value (others of the n may come behind it), and one assignment behind all: the n are walked once, in the text's order. -/
import Derived.Test.YtlhihmfefipehaaFreeA
namespace Go.Proofs.Ytlhihmfefipehaa
open Go.RowKit
section
variable {P : Program} {ops : Array Oper} {md : Region.Mode} {n : Nat}
def tailOk1s (md : Region.Mode) (ops : Array Oper) (n x1 : Nat) : Bool :=
  (List.range ops.size).all fun t => match ops[t]? with
    | none => true
    | some o => if t < n then o.after.all fun e => !Region.binds md e || decide (e.on < t) else if t = n then o.after.all fun e => !Region.binds md e
      else if t = n + 1 then reaches md ops 5 t n && (o.after.all fun e => !Region.binds md e || decide (e.on ≤ n)) && ((List.range n).all fun i => match ops[i]? with | none => true | some p => (p.dst != some x1) || reaches md ops 5 t i)
      else (List.range (n + 2)).all fun i => reaches md ops 5 t i
def fl2 (n : Nat) (l : Array Bool) (b c : Bool) : Array Bool := (l.setIfInBounds n b).setIfInBounds (n + 1) c
theorem fl2_get {l : Array Bool} {b c : Bool} {j : Nat} (d : Bool) (h1 : j ≠ n) (h2 : j ≠ n + 1) : (fl2 n l b c).getD j d = l.getD j d := by
  unfold fl2
  simp [Array.getElem?_setIfInBounds_ne (Ne.symm h1), Array.getElem?_setIfInBounds_ne (Ne.symm h2)]
theorem fl2_at {l : Array Bool} {b c : Bool} (h : n < l.size) (d : Bool) : (fl2 n l b c).getD n d = b := by
  unfold fl2
  simp [h]
theorem fl2_at' {l : Array Bool} {b c : Bool} (h : n + 1 < l.size) (d : Bool) : (fl2 n l b c).getD (n + 1) d = c := by
  unfold fl2
  simp [h]
theorem fl2_size (l : Array Bool) (b c : Bool) : (fl2 n l b c).size = l.size := by unfold fl2; simp
theorem fl2_set {l : Array Bool} {b c : Bool} {i : Nat} (h1 : i ≠ n) (h2 : i ≠ n + 1) : (fl2 n l b c).setIfInBounds i true = fl2 n (l.setIfInBounds i true) b c := by
  unfold fl2
  rw [Array.setIfInBounds_comm _ _ (Ne.symm h2), Array.setIfInBounds_comm _ _ (Ne.symm h1)]
theorem fl2_alloc {l : Array Bool} {b c : Bool} : (fl2 n l b c).setIfInBounds n true = fl2 n l true c := by
  unfold fl2
  rw [Array.setIfInBounds_comm _ _ (show n + 1 ≠ n by omega), Array.setIfInBounds_setIfInBounds]
theorem fl2_store {l : Array Bool} {b c : Bool} : (fl2 n l b c).setIfInBounds (n + 1) true = fl2 n l b true := by
  unfold fl2
  rw [Array.setIfInBounds_setIfInBounds]
theorem heads_keep {C : World → Prop} {F : Act} {x1 : Nat} : ∀ (f : Nat) (l : Array Bool) (a0 : Act), Heads P md ops C n (fun a' => a' = F) f l a0 → (∀ i o, i < n → ops[i]? = some o → l.getD i false = false → o.dst ≠ some x1) → a0.eval (.tmp x1) = F.eval (.tmp x1)
  | 0, l, a0, h, _ => by rw [h.2]
  | f + 1, l, a0, h, hd => by
    obtain ⟨⟨i, hr, hin⟩, hstep⟩ := h
    obtain ⟨hun, o, ho, -⟩ := mem_ready.1 hr
    obtain ⟨v, -, hKv⟩ := yieldsIn_of_qOp ho (hstep i hr hin)
    have hne : o.dst ≠ some x1 := hd i o hin ho (by
      cases hb : l.getD i false
      · rfl
      · rcases Nat.lt_or_ge i l.size with h' | h' <;> simp [h'] at hb hun
        rw [hb] at hun; cases hun)
    have ih := heads_keep f _ _ hKv (fun j p hj hp hf => hd j p hj hp (by
      by_cases e : j = i
      · subst e
        rcases Nat.lt_or_ge j l.size with h' | h' <;> simp [h'] at hf ⊢
      · rwa [getD_set_ne false (Ne.symm e)] at hf))
    rwa [Act.eval_put (fun d e h => hne (by rw [e]; cases h; rfl))] at ih
theorem heads_size {C : World → Prop} {F : Act} : ∀ (f : Nat) (l : Array Bool) (a0 : Act), Heads P md ops C n (fun a' => a' = F) f l a0 → a0.tmps.size = F.tmps.size
  | 0, l, a0, h => by rw [h.2]
  | f + 1, l, a0, h => by
    obtain ⟨⟨i, hr, hin⟩, hstep⟩ := h
    obtain ⟨hun, o, ho, -⟩ := mem_ready.1 hr
    obtain ⟨v, -, hKv⟩ := yieldsIn_of_qOp ho (hstep i hr hin)
    have ih := heads_size f _ _ hKv
    rw [← ih]
    cases o.dst <;> simp [Act.put]
theorem free1s_any {Q : Exit → Act → World → Prop} {F : Act} {w : World} {d1 x1 d2 x2 : Nat} {O1 : Obj} {o1 o3 : Oper} {z1 c1 : Array Value} {t1 : TypeId} (hsel : Region.noSelect ops = true) (hT : tailOk1s md ops n x1 = true) (hown : ownDst ops n = true)
    (ha1 : asideB ops n d1 = true) (hsz : ops.size = n + 3) (ho1 : ops[n]? = some o1) (ho3 : ops[n + 1]? = some o3)
    (hal1 : ∀ (a : Act) (W : World) (K : Act → World → Prop), K (a.put (some d1) (.pointer (some ⟨W.heap.size, 0, none⟩))) (W.alloc O1) → wpOp P ops Q n K a W)
    (hE1 : O1 = .cells z1 t1 (0, 0)) (hx1 : x1 ≠ d1)
    (hs1 : ∀ (a : Act) (W : World) (K : Act → World → Prop) (B : Nat), a.eval (.tmp d1) = .pointer (some ⟨B, 0, none⟩) → a.eval (.tmp x1) = F.eval (.tmp x1) → W.heap[B]? = some (.cells z1 t1 (0, 0)) → K a (W.setRow B c1) → wpOp P ops Q (n + 1) K a W)
    (hx2 : x2 ≠ d1) (hs2 : ∀ (a : Act) (W : World) (K : Act → World → Prop), a.eval (.tmp x2) = F.eval (.tmp x2) → K (a.put (some d2) (F.eval (.tmp x2))) W → wpOp P ops Q (n + 2) K a W)
    (hr2 : Region.ready md ops (headsDone (n + 2) 1) = [n + 2]) (hr3 : Region.ready md ops (headsDone (n + 3) 0) = []) (hfs : d1 < F.tmps.size)
    (hQ : ∀ (y : Ext w) (B1 : Nat), w.heap.size ≤ B1 → B1 < y.now.heap.size → y.now.heap[B1]? = some (.cells c1 t1 (0, 0)) → Q .normal ((F.put (some d1) (.pointer (some ⟨B1, 0, none⟩))).put (some d2) (F.eval (.tmp x2))) y.now) :
    ∀ (k f : Nat) (l : Array Bool) (b1 b2 : Bool) (a0 : Act) (p1 : Value) (B1 : Nat) (y : Ext w), k = f + (if b1 then 0 else 1) + (if b2 then 0 else 1) → l.size = ops.size → Closed md ops (fl2 n l b1 b2) →
      (∀ t, n ≤ t → t < ops.size → l.getD t true = false) → (∀ z : Ext w, Heads P md ops (fun W => ∃ x : Ext z.now, W = x.now) n (fun a' => a' = F) f l a0) →
      Alloced w y.now b1 p1 B1 (if b2 then .cells c1 t1 (0, 0) else O1) → (b2 = true → b1 = true) → wpAny P md ops Q (k + 1) (fl2 n l b1 b2) (a0.put (some d1) p1) y.now := by
  have hdeps : ∀ i o, i < n → ops[i]? = some o → ∀ e ∈ o.after, Region.binds md e = true → e.on < i := by
    intro i o hin ho e he hb
    have h1 := List.all_eq_true.1 hT i (List.mem_range.2 (by omega))
    simp only [ho, hin, if_true, Array.all_eq_true'] at h1
    have h2 := h1 e he
    simpa [hb] using h2
  have hnone : ∀ o, ops[n]? = some o → ∀ e ∈ o.after, Region.binds md e = true → False := by
    intro o ho e he hb
    have h1 := List.all_eq_true.1 hT n (List.mem_range.2 (by omega))
    simp only [ho, show ¬ n < n by omega, if_false, if_true, Array.all_eq_true'] at h1
    have h2 := h1 e he
    simp [hb] at h2
  have hsto := List.all_eq_true.1 hT (n + 1) (List.mem_range.2 (by omega))
  simp only [ho3, show ¬ n + 1 < n by omega, show ¬ n + 1 = n by omega, if_false, if_true, Bool.and_eq_true, Array.all_eq_true', List.all_eq_true, List.mem_range] at hsto
  obtain ⟨⟨hst1, hst2⟩, hst3⟩ := hsto
  have hready : ∀ (l : Array Bool) (b1 b2 : Bool) (i : Nat), i < n → (i ∈ Region.ready md ops (fl2 n l b1 b2) ↔ i ∈ Region.ready md ops l) := by
    intro l b1 b2 i hin
    rw [mem_ready, mem_ready, fl2_get true (by omega) (by omega)]
    constructor
    · rintro ⟨h1, o, ho, h2⟩
      exact ⟨h1, o, ho, fun e he hb => by have h3 := h2 e he hb; have := hdeps i o hin ho e he hb; rwa [fl2_get false (by omega) (by omega)] at h3⟩
    · rintro ⟨h1, o, ho, h2⟩
      exact ⟨h1, o, ho, fun e he hb => by have := hdeps i o hin ho e he hb; rw [fl2_get false (by omega) (by omega)]; exact h2 e he hb⟩
  have hallof : ∀ (l : Array Bool) (a0 : Act) (y : Ext w), l.size = ops.size → Heads P md ops (fun W => ∃ x : Ext y.now, W = x.now) n (fun a' => a' = F) 0 l a0 → ∀ i, i < n → l.getD i false = true := by
    intro l a0 y hl hH i
    obtain ⟨hr, -⟩ := hH
    induction i using Nat.strongRecOn with
    | ind i ih =>
      intro hin
      by_cases hh : l.getD i false = true
      · exact hh
      · exfalso
        have hio : i < ops.size := by omega
        have ho : ops[i]? = some ops[i] := Array.getElem?_eq_getElem hio
        have hm : i ∈ Region.ready md ops l := by
          rw [mem_ready]
          refine ⟨?_, ops[i], ho, fun e he hb => ih e.on (hdeps i _ hin ho e he hb) (by have := hdeps i _ hin ho e he hb; omega)⟩
          have : i < l.size := by omega
          simp [this] at hh ⊢
          exact hh
        have := hr i hm
        omega
  intro k
  induction k with
  | zero =>
    intro f l b1 b2 a0 p1 B1 y hk hl hc ht hH hA1 hbb
    have hf : f = 0 := by omega
    have hb1 : b1 = true := by
      cases b1
      · simp only [Bool.false_eq_true, if_false] at hk; omega
      · rfl
    have hb2 : b2 = true := by
      cases b2
      · simp only [Bool.false_eq_true, if_false] at hk; omega
      · rfl
    subst hf hb1 hb2
    have hall := hallof l a0 y hl (hH y)
    obtain ⟨hr, rfl⟩ := hH y
    obtain ⟨rfl, h1, h2, h3⟩ := hA1.is rfl
    have heq : fl2 n l true true = headsDone (n + 2) 1 := by
      unfold headsDone
      apply Array.ext
      · rw [fl2_size]; simp; omega
      · intro i h7 h8
        have hil : i < l.size := by rwa [fl2_size] at h7
        have e1 : (fl2 n l true true)[i] = (fl2 n l true true).getD i false := by simp only [Array.getD_eq_getD_getElem?, Array.getElem?_eq_getElem h7, Option.getD_some]
        rw [e1]
        by_cases hi1 : i = n
        · subst hi1; rw [fl2_at hil]; simp
        · by_cases hi2 : i = n + 1
          · subst hi2; rw [fl2_at' hil]; simp
          · rw [fl2_get false hi1 hi2]
            by_cases hin : i < n
            · rw [hall i hin]; simp [show i < n + 2 by omega]
            · have := ht i (by omega) (by omega)
              rw [show l.getD i false = false by simp [hil] at this ⊢; exact this]
              obtain rfl : i = n + 2 := by omega
              simp
    have e : ∀ (u v : Nat), (headsDone u (v + 1)).setIfInBounds u true = headsDone (u + 1) v := by
      intro u v
      unfold headsDone
      apply Array.ext
      · simp; omega
      · intro i h1 h2
        have : i < u + 1 + v := by simpa using h2
        rw [Array.getElem_setIfInBounds (by simp; omega)]
        simp only [List.getElem_toArray, List.getElem_append, List.length_replicate, List.getElem_replicate]
        by_cases q : u = i
        · subst q; simp
        · rw [if_neg q]
          by_cases q2 : i < u
          · rw [dif_pos q2, dif_pos (by omega)]
          · rw [dif_neg q2, dif_neg (by omega)]
    rw [Nat.zero_add, heq]
    refine ⟨fun h0 => (by rw [hr2] at h0; cases h0), fun i hi => ?_⟩
    rw [hr2] at hi
    obtain rfl : i = n + 2 := by simpa using hi
    refine hs2 _ _ _ ?_ ?_
    · rw [Act.eval_put (fun d e h => by cases e; cases h; exact hx2 rfl)]
    · rw [e (n + 2) 0]
      exact ⟨hr3, hQ y B1 h1 h2 (h3.trans (by simp))⟩
  | succ k ih =>
    intro f l b1 b2 a0 p1 B1 y hk hl hc ht hH hA1 hbb
    have hn1' : n < l.size := by omega
    have hn2' : n + 1 < l.size := by omega
    refine ⟨fun h0 => ?_, fun i hi => ?_⟩
    · exfalso
      cases b1 with
      | false =>
        have : n ∈ Region.ready md ops (fl2 n l false b2) := mem_ready.2 ⟨fl2_at hn1' _, o1, ho1, fun e he hb => (hnone o1 ho1 e he hb).elim⟩
        rw [h0] at this; cases this
      | true =>
        cases f with
        | zero =>
          cases b2 with
          | true => simp at hk
          | false =>
            have hall := hallof l a0 y hl (hH y)
            have : n + 1 ∈ Region.ready md ops (fl2 n l true false) := mem_ready.2 ⟨fl2_at' hn2' _, o3, ho3, fun e he hb => by
              have h9 := hst2 e he
              simp [hb] at h9
              by_cases q : e.on = n
              · rw [q]; exact fl2_at hn1' _
              · rw [fl2_get false q (by omega)]; exact hall _ (by omega)⟩
            rw [h0] at this; cases this
        | succ f =>
          obtain ⟨⟨i, hr, hin⟩, _⟩ := hH y
          have := (hready l true b2 i hin).2 hr
          rw [h0] at this; cases this
    · by_cases hin : i < n
      · have hi0 := (hready l b1 b2 i hin).1 hi
        cases f with
        | zero => have := (hH y).1 i hi0; omega
        | succ f =>
          obtain ⟨hun, o, ho, hdep⟩ := mem_ready.1 hi0
          obtain ⟨v, hy, hKv⟩ := yieldsIn_of_qOp ho ((hH y).2 i hi0 hin)
          have hall : ∀ z : Ext w, Heads P md ops (fun W => ∃ x : Ext z.now, W = x.now) n (fun a' => a' = F) f (l.setIfInBounds i true) (a0.put o.dst v) := fun z => by
            obtain ⟨u, _, hu⟩ := yieldsIn_of_qOp ho ((hH z).2 i hi0 hin)
            rw [heads_value hown hin ho (by omega) hKv hu]; exact hu
          have q0 : qOp P ops (fun W => ∃ x : Ext y.now, W = x.now) i (fun a' => a' = a0.put o.dst v) a0 := hy.qOp ho rfl
          have s1 := asideB_at ha1 hin ho
          have q1 := qOp_aside (u := p1) ho (fun cs b => Region.noSelect_spec hsel i o cs b ho) s1.1 s1.2 q0
          refine wpOp_of_qOp (C := fun W => ∃ x : Ext y.now, W = x.now) ⟨⟨y.now, Below.refl _ _⟩, rfl⟩ ?_ q1
          rintro a' w' ⟨x, rfl⟩ ⟨_, rfl, rfl⟩
          have hc2 := hc.set hi
          rw [fl2_set (by omega) (by omega)] at hc2 ⊢
          exact ih f (l.setIfInBounds i true) b1 b2 (a0.put o.dst v) p1 B1 ⟨x.now, y.grew.trans (x.grew.mono y.size)⟩ (by omega) (by simpa using hl) hc2
            (fun t h1 h2 => by rw [getD_set_ne true (by omega)]; exact ht t h1 h2) hall (hA1.ext x) hbb
      · by_cases hi1 : i = n
        · subst hi1
          have hb : b1 = false := by
            have := (mem_ready.1 hi).1
            rwa [fl2_at hn1'] at this
          subst hb
          have hb2 : b2 = false := by
            cases b2
            · rfl
            · exact absurd (hbb rfl) (by decide)
          subst hb2
          refine hal1 _ _ _ ?_
          have hc2 := hc.set hi
          rw [fl2_alloc] at hc2 ⊢
          rw [put_twice]
          exact ih f l true false a0 _ y.now.heap.size ⟨y.now.alloc O1, y.grew.alloc y.size _⟩ (by simp at hk ⊢; omega) hl hc2 ht hH
            ⟨fun _ => ⟨rfl, y.size, by simp, (heap_alloc_new y.now O1).trans (by simp)⟩⟩ (fun h => by cases h)
        · by_cases hi2 : i = n + 1
          · subst hi2
            have hb : b2 = false := by
              have := (mem_ready.1 hi).1
              rwa [fl2_at' hn2'] at this
            subst hb
            obtain ⟨hun, o, ho, hall⟩ := mem_ready.1 hi
            obtain rfl := Option.some.inj (ho3.symm.trans ho)
            have hre : ∀ j, reaches md ops 5 (n + 1) j = true → (fl2 n l b1 false).getD j false = true := fun j hj => reaches_listed hc 5 (n + 1) j (fun o' ho' => (by obtain rfl := Option.some.inj (ho.symm.trans ho'); exact hall)) hj
            have hb : b1 = true := by
              have := hre n hst1
              rwa [fl2_at hn1'] at this
            subst hb
            obtain ⟨rfl, h1, h2, h3⟩ := hA1.is rfl
            have hx : a0.eval (.tmp x1) = F.eval (.tmp x1) := heads_keep f l a0 (hH y) (fun j p hj hp hf e => by
              have h9 := hst3 j hj
              simp only [hp, e, bne_self_eq_false, Bool.false_or] at h9
              have := hre j h9
              rw [fl2_get false (by omega) (by omega), hf] at this
              cases this)
            refine hs1 _ _ _ B1 ?_ ?_ (h3.trans (by rw [if_neg (by simp), hE1])) ?_
            · have hsz0 : d1 < a0.tmps.size := by rw [heads_size f l a0 (hH y)]; exact hfs
              simp [Act.eval, Act.put, hsz0]
            · rw [Act.eval_put (fun d e h => by cases e; cases h; exact hx1 rfl)]
              exact hx
            · have hc2 := hc.set hi
              rw [fl2_store] at hc2 ⊢
              exact ih f l true true a0 _ B1 ⟨y.now.setRow B1 c1, below_setRow y.grew h1 c1⟩ (by simp at hk ⊢; omega) hl hc2 ht hH
                ⟨fun _ => ⟨rfl, h1, by simpa using h2, (setRow_heap _ _ z1 _ _ _ (h3.trans (by rw [if_neg (by simp), hE1]))).trans (by simp)⟩⟩ (fun _ => rfl)
          · exfalso
            obtain ⟨hun, o, ho, hall⟩ := mem_ready.1 hi
            have hlt : i < ops.size := (Array.getElem?_eq_some_iff.1 ho).1
            have h1 := List.all_eq_true.1 hT i (List.mem_range.2 hlt)
            have hre : ∀ j, reaches md ops 5 i j = true → (fl2 n l b1 b2).getD j false = true := fun j hj => reaches_listed hc 5 i j (fun o' ho' => (by obtain rfl := Option.some.inj (ho.symm.trans ho'); exact hall)) hj
            simp only [ho, hin, hi1, hi2, if_false, List.all_eq_true, List.mem_range] at h1
            have hb : b1 = true := by
              have := hre n (h1 n (by omega))
              rwa [fl2_at hn1'] at this
            have hb2 : b2 = true := by
              have := hre (n + 1) (h1 (n + 1) (by omega))
              rwa [fl2_at' hn2'] at this
            subst hb hb2
            obtain ⟨f', rfl⟩ : ∃ f', f = f' + 1 := ⟨f - 1, by simp at hk; omega⟩
            obtain ⟨⟨j, hr, hjn⟩, _⟩ := hH y
            have h2 := (mem_ready.1 hr).1
            have h3 := hre j (h1 j (by omega))
            rw [fl2_get false (by omega) (by omega)] at h3
            have : j < l.size := by omega
            simp [this] at h2 h3
            rw [h3] at h2; cases h2
end
/-- The checks of the region's form, closed facts. -/
def freeOk1s (l : List Oper) (n d1 x1 x2 : Nat) : Bool :=
  Region.noSelect l.toArray && decide (l.length = n + 3) && tailOk1s .any l.toArray n x1 && ownDst l.toArray n && asideB l.toArray n d1 && lexHeads .any l.toArray n n 0 (Array.replicate l.length false) && (x1 != d1) &&
  (x2 != d1) && (Region.ready .any l.toArray (headsDone (n + 2) 1) == [n + 2]) && (Region.ready .any l.toArray (headsDone (n + 3) 0) == [])
theorem wp_region_free1s {P : Program} {id : Nat} {Q : Exit → Act → World → Prop} {a F : Act} {w : World} {l : List Oper} (n d1 x1 d2 x2 : Nat) (z1 c1 : Array Value) (t1 : TypeId) (hm : P.follows .mixedOrders = true) (hB : freeOk1s l n d1 x1 x2 = true)
    (hal1 : ∀ (a : Act) (W : World) (K : Act → World → Prop), K (a.put (some d1) (.pointer (some ⟨W.heap.size, 0, none⟩))) (W.alloc (.cells z1 t1 (0, 0))) → wpOp P l.toArray Q n K a W)
    (h : ∀ z : Ext w, wpQuiet P l.toArray (fun W => ∃ x : Ext z.now, W = x.now) (fun a' => a' = F) (l.take n) a)
    (hfs : d1 < F.tmps.size)
    (hs1 : ∀ (a : Act) (W : World) (K : Act → World → Prop) (B : Nat), a.eval (.tmp d1) = .pointer (some ⟨B, 0, none⟩) → a.eval (.tmp x1) = F.eval (.tmp x1) → W.heap[B]? = some (.cells z1 t1 (0, 0)) → K a (W.setRow B c1) → wpOp P l.toArray Q (n + 1) K a W)
    (hs2 : ∀ (a : Act) (W : World) (K : Act → World → Prop), a.eval (.tmp x2) = F.eval (.tmp x2) → K (a.put (some d2) (F.eval (.tmp x2))) W → wpOp P l.toArray Q (n + 2) K a W)
    (hQ : ∀ (y : Ext w) (B1 : Nat), w.heap.size ≤ B1 → B1 < y.now.heap.size → y.now.heap[B1]? = some (.cells c1 t1 (0, 0)) → Q .normal ((F.put (some d1) (.pointer (some ⟨B1, 0, none⟩))).put (some d2) (F.eval (.tmp x2))) y.now) :
    (Code.region id l.toArray true).wp P Q a w := by
  unfold freeOk1s at hB
  simp only [Bool.and_eq_true, decide_eq_true_eq, bne_iff_ne, beq_iff_eq] at hB
  obtain ⟨⟨⟨⟨⟨⟨⟨⟨⟨hs, hn⟩, hT⟩, hown⟩, ha1⟩, hlex⟩, hx11⟩, hx22⟩, hr2⟩, hr3⟩ := hB
  have htl : (l.take n).length = n := by simp; omega
  have H : ∀ z : Ext w, Heads P .any l.toArray (fun W => ∃ x : Ext z.now, W = x.now) n (fun a' => a' = F) n (Array.replicate l.length false) a := fun z => by
    have := Heads_lex (md := .any) (n := n) (C := fun W => ∃ x : Ext z.now, W = x.now) hs (l.take n) 0 (Array.replicate l.length false) a (fun j hj => by
      have hj' : j < n := by rw [htl] at hj; exact hj
      simp [hj']) (by simpa using htl) (by rw [htl]; exact hlex) (h z)
    rwa [htl] at this
  refine wp_region_any hm ?_
  have hfl : fl2 n (Array.replicate l.length false) false false = Array.replicate l.length false := by
    unfold fl2
    apply Array.ext
    · simp
    · intro i h1 h2
      have hi : i < l.length := by simpa using h2
      simp only [Array.getElem_setIfInBounds, Array.getElem_replicate, ite_self, Array.size_replicate, Array.size_setIfInBounds, hi]
  have e : a.put (some d1) (a.eval (.tmp d1)) = a := put_self a d1
  have key := free1s_any (md := .any) (Q := Q) (F := F) (w := w) (o1 := l[n]'(by omega)) (o3 := l[n + 1]'(by omega)) hs hT hown ha1 (by simp; omega) (by simp) (by simp) hal1 rfl hx11 hs1 hx22 hs2 hr2 hr3 hfs hQ
    (n + 1 + 1) n (Array.replicate l.length false) false false a (a.eval (.tmp d1)) 0 ⟨w.drew, (Below.refl _ _).drew⟩ (by simp) (by simp)
    (by rw [hfl]; exact fun j o _ hl => (by rcases Nat.lt_or_ge j l.length with h' | h' <;> simp [h'] at hl))
    (fun t _ ht' => by have : t < l.length := (by simpa using ht'); simp [this]) H ⟨fun hb => by cases hb⟩ (fun h => by cases h)
  rw [hfl, e, show n + 1 + 1 + 1 = l.toArray.size by simp; omega] at key
  simpa using key
end Go.Proofs.Ytlhihmfefipehaa

/- Contracts of package span's numbers. No condition. Contracts of package span's plane: near, within, and the least radius. Conditions: the places' numbers lie within their limits. A region that draws its order: its first n operations are quiet in a class of worlds, the others come behind all of them: the first n are walked once, in the text's order. Contracts of the numbers that statements bring into range. -/
import Derived.Test.YtlmhbggigbmeaaaDoorBase
import Derived.LoopTactic
import Derived.Deep.Quiet
import Derived.RegionTactic
namespace Go.Proofs.YtlmhbggigbmeaaaDoor
open Go.RowKit Go.Shelf
attribute [local go_sem] Ext.cell Ext.frozen Ext.lt Ext.le Ext.lt_add Ext.le_add Ext.ne Ext.ne' lt2 lt3 lt4 lt5 le2 le3 le4
/-- The error of a span. -/
def chk (lo hi : Int) : Int := if numB lo && numB hi then (if lo ≤ hi then 0 else 11) else 2
theorem chk_ok (lo hi : Int) : chk lo hi = 0 ↔ -1152921504606846976 ≤ lo ∧ hi ≤ 1152921504606846976 ∧ lo ≤ hi := by
  unfold chk numB
  repeat' split
  all_goals (simp at *; omega)
theorem Check_any (lo hi : Int) (w : World) : Calls Tryd.prog 87 #[.agg #[.int .i64 lo, .int .i64 hi]] w (Gives (.int .i64 (chk lo hi)) w) := by
  unfold chk
  cases h1 : numB lo <;> cases h2 : numB hi <;> by_cases h5 : lo ≤ hi
  all_goals
    simp only [h5, Bool.and_self, Bool.and_true, Bool.and_false, if_true, if_false, Bool.false_eq_true]
    go_enter Tryd.func87, Tryd.ntmps87
    go_wp2_with (first | ((first | with_reducible refine wrx2 ?_ | with_reducible refine wrx ?_); (repeat (first | go_big_quiet_step ((first | (go_at_call 101; with_reducible exact Calls.ext (inNumbers_any _ _)))) | quiet_step ((first | (go_at_call 101; with_reducible exact Calls.ext (inNumbers_any _ _)))))); refine wpQuiet_nil ?_; rintro _ ⟨yr, rfl⟩; have syr := Ext.size yr; (repeat (first | rw [World.size_alloc] at syr | rw [World.size_setCell] at syr | rw [World.size_drew] at syr))) | (go_at_call 101; (first | with_reducible refine (Calls.giv2 (inNumbers_any _ _)).mono ?_ | with_reducible refine (Calls.giv (inNumbers_any _ _)).mono ?_); rintro _ _ ⟨y1, rfl, rfl⟩; have sy1 := Ext.size y1; (repeat (first | rw [World.size_alloc] at sy1 | rw [World.size_setCell] at sy1 | rw [World.size_drew] at sy1))))
    go_returns
    refine ⟨rfl, ?_⟩
    repeat' (first | (with_reducible exact Below.refl _ _) | (with_reducible assumption) | (with_reducible refine Ext.below _ ?_ ?_) | (with_reducible refine Below.on ?_ (by with_reducible assumption) ?_) | (with_reducible refine Below.alloc ?_ ?_ _) | (with_reducible refine Below.drew ?_) | (with_reducible refine Below.setCell ?_ ?_ _) | (with_reducible exact Nat.le_refl _) | omega | (simp; done) | (simp [go_sem]; done) | (simp at *; omega))

/-- Both numbers of a place are from -MaxFar to MaxFar; a radius is from 0 to MaxFar. -/
def farB (x y : Int) : Bool := decide (-268435456 ≤ x ∧ x ≤ 268435456 ∧ -268435456 ≤ y ∧ y ≤ 268435456)
def radB (r : Int) : Bool := decide (0 ≤ r ∧ r ≤ 268435456)
def sgn (n : Int) : Int := if n < 0 then -1 else if 0 < n then 1 else 0
theorem cmpw_sgn (m n : Int) : cmpw (whi m) (wlo m) (whi n) (wlo n) = sgn (m - n) := by
  unfold whi wlo; rw [cmpw_at]; unfold sgn
  repeat' split
  all_goals first | rfl | omega
theorem neg_I64 {a b : Int} (ha : I64 a) (hb : I64 b) : I64 (whi (-(a * b))) := by
  have := prod_bounds ha hb
  unfold I64 whi; omega
end Go.Proofs.YtlmhbggigbmeaaaDoor
namespace Go.Proofs.YtlmhbggigbmeaaaDoor
open Go.RowKit Go.Shelf
attribute [local go_sem] Ext.cell Ext.frozen Ext.lt Ext.le Ext.lt_add Ext.le_add Ext.ne Ext.ne' lt2 lt3 lt4 lt5 le2 le3 le4
/-- Numbers with which no square overflows. -/
def S40 (n : Int) : Prop := -1099511627776 ≤ n ∧ n ≤ 1099511627776
theorem S40.i64 {n : Int} (h : S40 n) : I64 n := by unfold S40 I64 at *; omega
theorem sq_bounds {x : Int} {B : Int} (h1 : -B ≤ x) (h2 : x ≤ B) : 0 ≤ x * x ∧ x * x ≤ B * B := by
  constructor
  · rcases Int.le_total 0 x with h | h
    · exact Int.mul_nonneg h h
    · exact Int.mul_nonneg_of_nonpos_of_nonpos h h
  · have a := Int.mul_nonneg (show 0 ≤ B - x by omega) (show 0 ≤ B + x by omega)
    simp only [Int.sub_mul, Int.mul_add] at a
    have c : x * B = B * x := Int.mul_comm _ _
    omega
theorem mul_bounds {x y : Int} {B : Int} (h1 : -B ≤ x) (h2 : x ≤ B) (h3 : -B ≤ y) (h4 : y ≤ B) : -(B * B) ≤ x * y ∧ x * y ≤ B * B := by
  have a := Int.mul_nonneg (show 0 ≤ B - x by omega) (show 0 ≤ B + y by omega)
  have b := Int.mul_nonneg (show 0 ≤ B + x by omega) (show 0 ≤ B - y by omega)
  have c := Int.mul_nonneg (show 0 ≤ B - x by omega) (show 0 ≤ B - y by omega)
  have d := Int.mul_nonneg (show 0 ≤ B + x by omega) (show 0 ≤ B + y by omega)
  simp only [Int.sub_mul, Int.mul_sub, Int.add_mul, Int.mul_add] at a b c d
  have e : x * B = B * x := Int.mul_comm _ _
  constructor <;> omega
/-- A place is within r of the origin. -/
def nearB (x y r : Int) : Bool := decide (x * x + y * y ≤ r * r)
theorem sgn_nonneg (n : Int) : 0 ≤ sgn n ↔ 0 ≤ n := by unfold sgn; split <;> (try split) <;> omega
theorem sgn_nonpos (n : Int) : sgn n ≤ 0 ↔ n ≤ 0 := by unfold sgn; split <;> (try split) <;> omega
/-- A segment comes within r of the origin. -/
def withinB (px py qx qy r : Int) : Bool :=
  if 0 ≤ px * (qx - px) + py * (qy - py) then nearB px py r
  else if qx * (qx - px) + qy * (qy - py) ≤ 0 then nearB qx qy r
  else decide ((px * qy - py * qx) * (px * qy - py * qx) ≤ r * r * ((qx - px) * (qx - px) + (qy - py) * (qy - py)))
def Far (n : Int) : Prop := -268435456 ≤ n ∧ n ≤ 268435456
theorem S40.of_far {x y : Int} (h : farB x y = true) : S40 x ∧ S40 y := by unfold farB at h; unfold S40; simp at h; omega
theorem Far.of_far {x y : Int} (h : farB x y = true) : Far x ∧ Far y := by unfold farB at h; unfold Far; simp at h; omega
theorem S40.of_rad {x : Int} (h : radB x = true) : S40 x := by unfold radB at h; unfold S40; simp at h; omega
/-- The search by halves. -/
def bs (p : Int → Bool) : Nat → Int → Int → Int
  | 0, i, _ => i
  | f + 1, i, j => if i < j then (if p ((i + j) / 2) then bs p f i ((i + j) / 2) else bs p f ((i + j) / 2 + 1) j) else i
theorem bs_end (p : Int → Bool) (f : Nat) (i j : Int) (h : ¬ i < j) : bs p f i j = i := by cases f <;> simp [bs, h]
theorem bs_yes (p : Int → Bool) (f : Nat) (i j : Int) (h : i < j) (h2 : p ((i + j) / 2) = true) : bs p (f + 1) i j = bs p f i ((i + j) / 2) := by simp [bs, h, h2]
theorem bs_no (p : Int → Bool) (f : Nat) (i j : Int) (h : i < j) (h2 : p ((i + j) / 2) = false) : bs p (f + 1) i j = bs p f ((i + j) / 2 + 1) j := by simp [bs, h, h2]
/-- How near a segment comes. -/
def missI (px py qx qy : Int) : Int := if farB px py && farB qx qy then bs (withinB px py qx qy) 30 0 536870912 else -1
end Go.Proofs.YtlmhbggigbmeaaaDoor
namespace Go.Proofs.YtlmhbggigbmeaaaDoor
open Go.RowKit
section
variable {P : Program} {ops : Array Oper} {md : Region.Mode} {C : World → Prop} {n : Nat} {L : Act → Prop}
/-- Whatever order of the first n operations is picked from here on. -/
def Heads (P : Program) (md : Region.Mode) (ops : Array Oper) (C : World → Prop) (n : Nat) (L : Act → Prop) : Nat → Array Bool → Act → Prop
  | 0, listed, a => (∀ i ∈ Region.ready md ops listed, n ≤ i) ∧ L a
  | f + 1, listed, a => (∃ i ∈ Region.ready md ops listed, i < n) ∧ ∀ i ∈ Region.ready md ops listed, i < n → qOp P ops C i (Heads P md ops C n L f (listed.setIfInBounds i true)) a
theorem Heads_first {i : Nat} {oi : Oper} {v : Value} (hi : ops[i]? = some oi) (hin : i < n) (hsel : ∀ (j : Nat) (o : Oper) cs b, ops[j]? = some o → o.op ≠ .select cs b) :
    ∀ (f : Nat) (listed : Array Bool) (a : Act), (∀ j oj, ops[j]? = some oj → j ≠ i → listed.getD j true = false → (∀ e ∈ oj.after, Region.binds md e = true → e.on ≠ i) → oi.apart ops oj = true) →
      i ∈ Region.ready md ops listed → YieldsIn P ops C oi v a → Heads P md ops C n L f (listed.setIfInBounds i true) (a.put oi.dst v) → Heads P md ops C n L (f + 1) listed a := by
  intro f
  induction f with
  | zero =>
    intro listed a _ hr hy H
    refine ⟨⟨i, hr, hin⟩, fun j hj hjn => ?_⟩
    by_cases hji : j = i
    · subst hji; exact hy.qOp hi H
    · have := H.1 j (ready_mono hj hji); omega
  | succ f ih =>
    intro listed a hfree hr hy H
    refine ⟨⟨i, hr, hin⟩, fun j hj hjn => ?_⟩
    by_cases hji : j = i
    · subst hji; exact hy.qOp hi H
    · have h1 := H.2 j (ready_mono hj hji) hjn
      obtain ⟨hjun, oj, hoj, hall⟩ := mem_ready.1 hj
      have hun := (mem_ready.1 hr).1
      have hnot : ∀ e ∈ oj.after, Region.binds md e = true → e.on ≠ i := fun e he hb heq => by
        have h1 := hall e he hb
        rw [heq] at h1
        rcases Nat.lt_or_ge i listed.size with h' | h'
        · simp [h'] at hun h1; rw [hun] at h1; cases h1
        · simp [Array.getElem?_eq_none h'] at h1
      have h2 := qOp_put hoj (hfree j oj hoj hji hjun hnot) (fun cs b => hsel i oi cs b hi) (fun cs b => hsel j oj cs b hoj) hy h1
      refine qOp_mono (fun a' h3 => ih (listed.setIfInBounds j true) a' (fun k ok hk hki hun' hno => hfree k ok hk hki ?_ hno) (ready_mono hr (Ne.symm hji)) h3.1 ?_) h2
      · by_cases hjk : j = k
        · subst hjk; exact hjun
        · rw [getD_set_ne true hjk] at hun'; exact hun'
      · rw [Array.setIfInBounds_comm _ _ hji]
        exact h3.2
/-- The text's order is one of them, and each operation may be taken where it stands. -/
def lexHeads (md : Region.Mode) (ops : Array Oper) (n : Nat) : Nat → Nat → Array Bool → Bool
  | 0, _, listed => (Region.ready md ops listed).all fun i => decide (n ≤ i)
  | f + 1, k, listed => (Region.ready md ops listed).contains k && Region.free md ops listed k && lexHeads md ops n f (k + 1) (listed.setIfInBounds k true)
theorem Heads_lex (hs : Region.noSelect ops = true) : ∀ (l : List Oper) (k : Nat) (listed : Array Bool) (a : Act), (∀ j, j < l.length → l[j]? = ops[k + j]?) → k + l.length = n →
    lexHeads md ops n l.length k listed = true → wpQuiet P ops C L l a → Heads P md ops C n L l.length listed a
  | [], _, _, _, _, _, hB, h => ⟨by simpa [lexHeads] using hB, h⟩
  | o :: l, k, listed, a, hl, hk, hB, h => by
    have h0 : ops[k]? = some o := by simpa using (hl 0 (by simp)).symm
    simp only [List.length_cons, lexHeads, Bool.and_eq_true] at hB
    obtain ⟨⟨hr, hf⟩, hB'⟩ := hB
    have hst : qOp P ops C k (wpQuiet P ops C L l) a := by unfold qOp; simp only [h0]; exact h
    obtain ⟨v, hy, hK⟩ := yieldsIn_of_qOp h0 hst
    simp only [List.length_cons] at hk
    exact Heads_first h0 (by omega) (Region.noSelect_spec hs) l.length listed a (Region.free_spec h0 hf) (by simpa using hr) hy
      (Heads_lex hs l (k + 1) _ _ (fun j hj => by have := hl (j + 1) (by simp; omega); simpa [Nat.add_assoc, Nat.add_comm 1 j] using this) (by omega) hB' hK)
/-- Each later operation comes behind each of the first n; these wait for earlier ones alone. -/
def reaches (md : Region.Mode) (ops : Array Oper) : Nat → Nat → Nat → Bool
  | 0, _, _ => false
  | f + 1, t, i => match ops[t]? with
    | none => false
    | some o => o.after.any fun e => Region.binds md e && (e.on == i || reaches md ops f e.on i)
def Closed (md : Region.Mode) (ops : Array Oper) (listed : Array Bool) : Prop := ∀ j o, ops[j]? = some o → listed.getD j false = true → ∀ e ∈ o.after, Region.binds md e = true → listed.getD e.on false = true
theorem reaches_listed {listed : Array Bool} (hc : Closed md ops listed) : ∀ (f t i : Nat), (∀ o, ops[t]? = some o → ∀ e ∈ o.after, Region.binds md e = true → listed.getD e.on false = true) → reaches md ops f t i = true → listed.getD i false = true
  | 0, _, _, _, h => by cases h
  | f + 1, t, i, ht, h => by
    unfold reaches at h
    split at h
    · cases h
    · rename_i o ho
      obtain ⟨e, he, hb⟩ := Array.any_eq_true'.1 h
      simp only [Bool.and_eq_true, Bool.or_eq_true, beq_iff_eq] at hb
      have h1 := ht o ho e he hb.1
      rcases hb.2 with h2 | h2
      · rw [← h2]; exact h1
      · exact reaches_listed hc f e.on i (fun o' ho' => hc e.on o' ho' h1) h2
theorem Closed.set {i : Nat} {listed : Array Bool} (hc : Closed md ops listed) (hi : i ∈ Region.ready md ops listed) : Closed md ops (listed.setIfInBounds i true) := by
  intro j o ho hl e he hb
  obtain ⟨_, oi, hoi, hall⟩ := mem_ready.1 hi
  by_cases hij : i = j
  · subst hij
    obtain rfl : o = oi := Option.some.inj (ho.symm.trans hoi)
    exact getD_set_true (hall e he hb)
  · rw [getD_set_ne false hij] at hl
    exact getD_set_true (hc j o ho hl e he hb)
def tailOk (md : Region.Mode) (ops : Array Oper) (n : Nat) : Bool :=
  (List.range ops.size).all fun t => match ops[t]? with
    | none => true
    | some o => if t < n then o.after.all fun e => !Region.binds md e || decide (e.on < t) else (List.range n).all fun i => reaches md ops 5 t i
def headsDone (n g : Nat) : Array Bool := (List.replicate n true ++ List.replicate g false).toArray
theorem wpAny_of_heads {g : Nat} {Q : Exit → Act → World → Prop} (hT : tailOk md ops n = true) (hg : ops.size = n + g) (hL : ∀ a w, C w → L a → wpAny P md ops Q g (headsDone n g) a w) :
    ∀ (f : Nat) (listed : Array Bool) (a : Act) (w : World), C w → Closed md ops listed → listed.size = ops.size → (∀ t, n ≤ t → t < ops.size → listed.getD t true = false) → Heads P md ops C n L f listed a → wpAny P md ops Q (f + g) listed a w
  | 0, listed, a, w, hw, _, hsz, htl, h => by
    have hall : ∀ i, i < n → listed.getD i false = true := by
      intro i
      induction i using Nat.strongRecOn with
      | ind i ih =>
        intro hin
        by_cases hh : listed.getD i false = true
        · exact hh
        · exfalso
          have hi : i < ops.size := by omega
          have ho : ops[i]? = some ops[i] := Array.getElem?_eq_getElem hi
          have hm : i ∈ Region.ready md ops listed := by
            rw [mem_ready]
            refine ⟨?_, ops[i], ho, fun e he hb => ?_⟩
            · have : i < listed.size := by omega
              simp [this] at hh ⊢
              exact hh
            · have h1 := List.all_eq_true.1 hT i (by simpa using hi)
              simp only [ho, hin, if_true, Array.all_eq_true'] at h1
              have h2 := h1 e he
              simp only [hb, Bool.not_true, Bool.false_or, decide_eq_true_eq] at h2
              exact ih e.on h2 (by omega)
          have := h.1 i hm
          omega
    have heq : listed = headsDone n g := by
      unfold headsDone
      apply Array.ext
      · simp; omega
      · intro i h1 h2
        by_cases hin : i < n
        · have := hall i hin
          simp [h1] at this
          simp [this, hin]
        · have := htl i (by omega) (by omega)
          simp [h1] at this
          simp [this, List.getElem_append, hin]
    rw [Nat.zero_add, heq]
    exact hL a w hw h.2
  | f + 1, listed, a, w, hw, hcl, hsz, htl, h => by
    obtain ⟨⟨i0, hi0, hi0n⟩, h⟩ := h
    rw [show f + 1 + g = (f + g) + 1 by omega]
    refine ⟨fun h0 => (by rw [h0] at hi0; cases hi0), fun i hi => ?_⟩
    have hin : i < n := by
      rcases Nat.lt_or_ge i n with h' | h'
      · exact h'
      · exfalso
        obtain ⟨_, o, ho, hall⟩ := mem_ready.1 hi
        have hlt : i < ops.size := (Array.getElem?_eq_some_iff.1 ho).1
        have h1 := List.all_eq_true.1 hT i (by simpa using hlt)
        simp only [ho, show ¬ i < n by omega, if_false, List.all_eq_true, List.mem_range] at h1
        have h2 := reaches_listed hcl 5 i i0 (fun o' ho' => (by obtain rfl := Option.some.inj (ho.symm.trans ho'); exact hall)) (h1 i0 hi0n)
        have h3 := (mem_ready.1 hi0).1
        rcases Nat.lt_or_ge i0 listed.size with h'' | h''
        · simp [h''] at h2 h3; rw [h2] at h3; cases h3
        · simp [Array.getElem?_eq_none h''] at h2
    exact wpOp_of_qOp hw (fun a' w' hw' h' => wpAny_of_heads hT hg hL f _ a' w' hw' (hcl.set hi) (by simpa using hsz) (fun t ht ht' => by rw [getD_set_ne true (by omega)]; exact htl t ht ht') h') (h i hi hin)
theorem wp_region_heads {id : Nat} {Q : Exit → Act → World → Prop} {a : Act} {w : World} {l : List Oper} (n : Nat) (hm : P.follows .mixedOrders = true)
    (hB : (Region.noSelect l.toArray && decide (n ≤ l.length) && tailOk .any l.toArray n && lexHeads .any l.toArray n n 0 (Array.replicate l.length false)) = true)
    (hC : C w.drew) (h : wpQuiet P l.toArray C (fun a' => ∀ w', C w' → wpAny P .any l.toArray Q (l.length - n) (headsDone n (l.length - n)) a' w') (l.take n) a) : (Code.region id l.toArray true).wp P Q a w := by
  simp only [Bool.and_eq_true, decide_eq_true_eq] at hB
  obtain ⟨⟨⟨hs, hn⟩, hT⟩, hlex⟩ := hB
  have htl : (l.take n).length = n := by simp; omega
  have H := Heads_lex (md := .any) (n := n) (C := C) hs (l.take n) 0 (Array.replicate l.length false) a (fun j hj => by
    have hj' : j < n := by rw [htl] at hj; exact hj
    simp [hj']) (by simpa using htl) (by rw [htl]; exact hlex) h
  refine wp_region_any hm ?_
  have := wpAny_of_heads (Q := Q) (g := l.length - n) hT (by simp; omega) (fun a w hw h => h w hw) _ _ _ _ hC (fun j o _ hl => (by rcases Nat.lt_or_ge j l.length with h' | h' <;> simp [h'] at hl)) (by simp) (fun t ht ht' => by have : t < l.length := (by simpa using ht'); simp [this]) H
  rw [htl, show n + (l.length - n) = l.toArray.size by simp; omega] at this
  simpa using this
end
theorem wp_region_ext_heads {P : Program} {id : Nat} {Q : Exit → Act → World → Prop} {a : Act} {w : World} {l : List Oper} (n : Nat) (hm : P.follows .mixedOrders = true)
    (hB : (Region.noSelect l.toArray && decide (n ≤ l.length) && tailOk .any l.toArray n && lexHeads .any l.toArray n n 0 (Array.replicate l.length false)) = true)
    (h : wpQuiet P l.toArray (fun W => ∃ x : Ext w, W = x.now) (fun a' => ∀ W, (∃ x : Ext w, W = x.now) → wpAny P .any l.toArray Q (l.length - n) (headsDone n (l.length - n)) a' W) (l.take n) a) : (Code.region id l.toArray true).wp P Q a w :=
  wp_region_heads (C := fun W => ∃ x : Ext w, W = x.now) n hm hB ⟨⟨w.drew, (Below.refl _ _).drew⟩, rfl⟩ h
theorem wp_region_ext2_heads {P : Program} {id : Nat} {Q : Exit → Act → World → Prop} {a : Act} {w : World} {y : Ext w} {l : List Oper} (n : Nat) (hm : P.follows .mixedOrders = true)
    (hB : (Region.noSelect l.toArray && decide (n ≤ l.length) && tailOk .any l.toArray n && lexHeads .any l.toArray n n 0 (Array.replicate l.length false)) = true)
    (h : wpQuiet P l.toArray (fun W => ∃ x : Ext w, W = x.now) (fun a' => ∀ W, (∃ x : Ext w, W = x.now) → wpAny P .any l.toArray Q (l.length - n) (headsDone n (l.length - n)) a' W) (l.take n) a) : (Code.region id l.toArray true).wp P Q a y.now :=
  wp_region_heads (C := fun W => ∃ x : Ext w, W = x.now) n hm hB ⟨⟨y.now.drew, y.grew.drew⟩, rfl⟩ h
end Go.Proofs.YtlmhbggigbmeaaaDoor
namespace Go.Proofs.YtlmhbggigbmeaaaDoor
open Go.RowKit Go.Shelf
attribute [local go_sem] Ext.cell Ext.frozen Ext.lt Ext.le Ext.lt_add Ext.le_add Ext.ne Ext.ne' lt2 lt3 lt4 lt5 le2 le3 le4
theorem tmod_pos {n m : Int} (h : 0 ≤ n) : n.tmod m = n % m := Int.tmod_eq_emod_of_nonneg h
theorem tmod_neg0 {n m : Int} (_h : n < 0) (_hm : 0 < m) (h2 : ¬ n.tmod m < 0) : n.tmod m = n % m := by
  have h3 := Int.tmod_eq_emod (a := n) (b := m)
  split at h3
  · omega
  · have := Int.emod_lt_of_pos n (b := m) _hm
    have : (m.natAbs : Int) = m := by omega
    omega
theorem tmod_neg1 {n m : Int} (_h : n < 0) (hm : 0 < m) (h2 : n.tmod m < 0) : n.tmod m + m = n % m := by
  have h3 := Int.tmod_eq_emod (a := n) (b := m)
  split at h3
  · have := Int.emod_nonneg n (b := m) (by omega)
    omega
  · have : (m.natAbs : Int) = m := by omega
    omega
theorem tmod_bounds (n m : Int) (hm : 0 < m) : -m ≤ n.tmod m ∧ n.tmod m < m := by
  rcases Int.lt_or_le n 0 with h | h
  · by_cases h2 : n.tmod m < 0
    · have := tmod_neg1 h hm h2; have := Int.emod_nonneg n (b := m) (by omega); omega
    · have := tmod_neg0 h hm h2; have := Int.emod_lt_of_pos n hm; omega
  · have := tmod_pos (m := m) h; have := Int.emod_nonneg n (b := m) (by omega); have := Int.emod_lt_of_pos n hm; omega
end Go.Proofs.YtlmhbggigbmeaaaDoor

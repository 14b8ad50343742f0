/- The reference's toll as mathematics: what it keeps while it goes through cells and blows, and that this is the least, the greatest and the first worst of the tolls. No condition. -/
import Derived.Test.YtlmhbggigbmeaaaDoorBlV7
namespace Go.Proofs.YtlmhbggigbmeaaaDoor
open Go.RowKit Go.Shelf
/-- What the reference's toll keeps. -/
structure TollSt where
  lo : Int
  hi : Int
  worst : Int
  first : Bool
def TollSt.next (st : TollSt) (s : SceneR) (a : Int) (b : V3) : TollSt := ⟨if st.first = true ∨ s.lo a b < st.lo then s.lo a b else st.lo, if st.first = true ∨ st.hi < s.hi a b then s.hi a b else st.hi, if st.first = true ∨ st.hi < s.hi a b then a else st.worst, false⟩
def TollSt.blows (s : SceneR) (a : Int) : TollSt → List V3 → TollSt
  | st, [] => st
  | st, b :: r => TollSt.blows s a (st.next s a b) r
/-- After so many cells. -/
def TollSt.cells (s : SceneR) (L : List V3) (a : Int) : Nat → TollSt
  | 0 => ⟨0, 0, a, true⟩
  | n + 1 => TollSt.blows s (a + n) (TollSt.cells s L a n) L
theorem blows_later (s : SceneR) (a : Int) : ∀ (r : List V3) (m h w : Int), TollSt.blows s a ⟨m, h, w, false⟩ r = ⟨s.lowsF a m r, s.highsF a h r, if h < s.highsF a h r then a else w, false⟩
  | [], m, h, w => by simp [TollSt.blows, SceneR.lowsF, SceneR.highsF]
  | b :: r, m, h, w => by
    have hge : ∀ (r : List V3) (k : Int), k ≤ s.highsF a k r := by
      intro r
      induction r with
      | nil => intro k; exact Int.le_refl _
      | cons c r ih => intro k; rw [SceneR.highsF]; have := ih (max k (s.hi a c)); omega
    rw [TollSt.blows, SceneR.lowsF, SceneR.highsF]
    have e1 : (TollSt.mk m h w false).next s a b = ⟨min m (s.lo a b), max h (s.hi a b), if h < s.hi a b then a else w, false⟩ := by
      unfold TollSt.next
      simp only [Bool.false_eq_true, false_or]
      congr 1
      · split <;> omega
      · split <;> omega
    rw [e1, blows_later s a r]
    have h1 := hge r (max h (s.hi a b))
    congr 1
    by_cases q : h < s.hi a b
    · rw [if_pos q, if_pos (show h < s.highsF a (max h (s.hi a b)) r by omega)]
      split <;> rfl
    · rw [if_neg q, show max h (s.hi a b) = h by omega]
theorem blows_first (s : SceneR) (a : Int) (b : V3) (r : List V3) (m h w : Int) : TollSt.blows s a ⟨m, h, w, true⟩ (b :: r) = ⟨s.lows a (b :: r), s.highs a (b :: r), a, false⟩ := by
  rw [TollSt.blows, SceneR.lows, SceneR.highs]
  have e1 : (TollSt.mk m h w true).next s a b = ⟨s.lo a b, s.hi a b, a, false⟩ := by
    unfold TollSt.next
    simp
  rw [e1, blows_later]
  congr 1
  split <;> rfl
theorem lowsF_min (s : SceneR) (a : Int) : ∀ (r : List V3) (m k : Int), s.lowsF a (min m k) r = min m (s.lowsF a k r)
  | [], m, k => rfl
  | b :: r, m, k => by
    rw [SceneR.lowsF, SceneR.lowsF, ← lowsF_min s a r m (min k (s.lo a b))]
    congr 1
    omega
theorem highsF_max (s : SceneR) (a : Int) : ∀ (r : List V3) (m k : Int), s.highsF a (max m k) r = max m (s.highsF a k r)
  | [], m, k => rfl
  | b :: r, m, k => by
    rw [SceneR.highsF, SceneR.highsF, ← highsF_max s a r m (max k (s.hi a b))]
    congr 1
    omega
theorem minsF_add : ∀ (l : List V2) (m : Int) (v : V2), minsF m (l ++ [v]) = min (minsF m l) v.x
  | [], _, _ => rfl
  | u :: l, m, v => by rw [List.cons_append, minsF, minsF, minsF_add l]
theorem maxsF_add : ∀ (l : List V2) (m : Int) (v : V2), maxsF m (l ++ [v]) = max (maxsF m l) v.y
  | [], _, _ => rfl
  | u :: l, m, v => by rw [List.cons_append, maxsF, maxsF, maxsF_add l]
theorem bestI_pre (l : List V2) (v : V2) : ∀ n, n ≤ l.length → bestI (l ++ [v]) n = bestI l n
  | 0, _ => rfl
  | n + 1, h => by
    have hb := bestI_le l n
    rw [bestI, bestI, bestI_pre l v n (by omega)]
    have g : ∀ k, k < l.length → (l ++ [v]).getD k ⟨0, 0⟩ = l.getD k ⟨0, 0⟩ := fun k hk => by simp [List.getD, List.getElem?_append_left hk]
    rw [g n (by omega), g _ (by omega)]
theorem tollsL_add (s : SceneR) (L : List V3) : ∀ (n : Nat) (a : Int), s.tollsL L a (n + 1) = s.tollsL L a n ++ [⟨s.lows (a + n) L, s.highs (a + n) L⟩]
  | 0, a => by simp [SceneR.tollsL]
  | n + 1, a => by
    rw [SceneR.tollsL, tollsL_add s L n (a + 1)]
    rw [show s.tollsL L a (n + 1) = ⟨s.lows a L, s.highs a L⟩ :: s.tollsL L (a + 1) n from rfl, List.cons_append, show a + 1 + (n : Int) = a + ((n + 1 : Nat) : Int) by omega]
theorem cells_toll (s : SceneR) (b : V3) (r : List V3) (a : Int) : ∀ n : Nat, TollSt.cells s (b :: r) a (n + 1) = ⟨minsV (s.tollsL (b :: r) a (n + 1)), maxsV (s.tollsL (b :: r) a (n + 1)), a + bestI (s.tollsL (b :: r) a (n + 1)) (n + 1), false⟩ ∧ ((s.tollsL (b :: r) a (n + 1)).getD (bestI (s.tollsL (b :: r) a (n + 1)) (n + 1)) ⟨0, 0⟩).y = maxsV (s.tollsL (b :: r) a (n + 1))
  | 0 => by
    rw [TollSt.cells, TollSt.cells, blows_first]
    simp [SceneR.tollsL, minsV, maxsV, minsF, maxsF, bestI]
  | n + 1 => by
    obtain ⟨i1, i2⟩ := cells_toll s b r a n
    have hlen := tollsL_len s (b :: r) (n + 1) a
    rw [TollSt.cells, i1, blows_later, tollsL_add s (b :: r) (n + 1) a]
    generalize s.tollsL (b :: r) a (n + 1) = T at *
    have hb := bestI_lt T (by omega) (n + 1) (by omega)
    have hl : s.lowsF (a + ((n + 1 : Nat) : Int)) (minsV T) (b :: r) = min (minsV T) (s.lows (a + ((n + 1 : Nat) : Int)) (b :: r)) := by
      rw [SceneR.lowsF, SceneR.lows, ← lowsF_min]
    have hh : s.highsF (a + ((n + 1 : Nat) : Int)) (maxsV T) (b :: r) = max (maxsV T) (s.highs (a + ((n + 1 : Nat) : Int)) (b :: r)) := by
      rw [SceneR.highsF, SceneR.highs, ← highsF_max]
    rw [hl, hh]
    generalize s.lows (a + ((n + 1 : Nat) : Int)) (b :: r) = lo at *
    generalize s.highs (a + ((n + 1 : Nat) : Int)) (b :: r) = hi at *
    have e1 : minsV (T ++ [⟨lo, hi⟩]) = min (minsV T) lo := by
      cases T with
      | nil => simp at hlen
      | cons v q => rw [List.cons_append, minsV, minsV, minsF_add]
    have e2 : maxsV (T ++ [⟨lo, hi⟩]) = max (maxsV T) hi := by
      cases T with
      | nil => simp at hlen
      | cons v q => rw [List.cons_append, maxsV, maxsV, maxsF_add]
    have e3 : (T ++ [(⟨lo, hi⟩ : V2)]).getD (n + 1) ⟨0, 0⟩ = ⟨lo, hi⟩ := by
      rw [show n + 1 = T.length by omega]
      simp [List.getD]
    have e4 : ∀ k, k < T.length → (T ++ [(⟨lo, hi⟩ : V2)]).getD k ⟨0, 0⟩ = T.getD k ⟨0, 0⟩ := fun k hk => by simp [List.getD, List.getElem?_append_left hk]
    have e5 : bestI (T ++ [⟨lo, hi⟩]) (n + 1 + 1) = if maxsV T < hi then n + 1 else bestI T (n + 1) := by
      rw [bestI, bestI_pre T _ (n + 1) (by omega), e3, e4 _ hb, i2]
    rw [e1, e2, e5]
    by_cases q : maxsV T < hi
    · rw [if_pos q, if_pos (show maxsV T < max (maxsV T) hi by omega), e3]
      exact ⟨rfl, by simp only; omega⟩
    · rw [if_neg q, if_neg (show ¬ maxsV T < max (maxsV T) hi by omega), e4 _ hb, i2]
      exact ⟨rfl, by omega⟩
end Go.Proofs.YtlmhbggigbmeaaaDoor

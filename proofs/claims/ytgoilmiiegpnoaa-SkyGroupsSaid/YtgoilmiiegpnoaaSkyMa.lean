/- Skies that grow at their ends: what has no error, has none with one more. No condition. -/
import Derived.Test.YtgoilmiiegpnoaaSkyI
namespace Go.Proofs.Ytgoilmiiegpnoaa
open Go.RowKit Go.Shelf
theorem placesE_snoc {l : List V2} {v : V2} (h : placesE l = 0) (hv : vwinB v 33554432 = true) : placesE (l ++ [v]) = 0 := by
  induction l with
  | nil => rw [List.nil_append, placesE, if_pos hv]; rfl
  | cons a l ih =>
    rw [placesE] at h
    rw [List.cons_append, placesE]
    by_cases ha : vwinB a 33554432 = true
    · rw [if_pos ha] at h ⊢; exact ih h
    · rw [if_neg ha] at h; cases h
theorem bodiesE_snoc {l : List BodyR} {b : BodyR} (h : bodiesE l = 0) (hb : bodyE b = 0) : bodiesE (l ++ [b]) = 0 := by
  induction l with
  | nil => rw [List.nil_append, bodiesE, if_pos hb]; rfl
  | cons a l ih =>
    rw [bodiesE] at h
    rw [List.cons_append, bodiesE]
    by_cases ha : bodyE a = 0
    · rw [if_pos ha] at h ⊢; exact ih h
    · rw [if_neg ha] at h; exact absurd h ha
def lastSt (z : Int) (l : List StR) : Int := match l.getLast? with
  | some o => o.id
  | none => z
theorem lastSt_snoc (z : Int) (l : List StR) (o : StR) : lastSt z (l ++ [o]) = o.id := by unfold lastSt; rw [List.getLast?_append]; simp
theorem lastSt_cons (z : Int) (a : StR) (l : List StR) : lastSt z (a :: l) = lastSt a.id l := by
  cases l with
  | nil => rfl
  | cons b l => unfold lastSt; rw [List.getLast?_cons_cons]; cases hq : (b :: l).getLast? with
    | none => simp at hq
    | some o => rfl
theorem stsE_snoc {o : StR} {l : List StR} : ∀ {z : Int}, stsE z l = 0 → lastSt z l < o.id → vwinB o.off 1048576 = true → stsE z (l ++ [o]) = 0 := by
  induction l with
  | nil =>
    intro z _ h hv
    rw [List.nil_append, stsE, if_neg (by simp only [lastSt, List.getLast?_nil] at h; omega), if_pos hv]; rfl
  | cons a l ih =>
    intro z h hl hv
    rw [stsE] at h
    rw [List.cons_append, stsE]
    by_cases h1 : a.id ≤ z
    · rw [if_pos h1] at h; cases h
    · rw [if_neg h1] at h ⊢
      by_cases h2 : vwinB a.off 1048576 = true
      · rw [if_pos h2] at h ⊢
        rw [lastSt_cons] at hl
        exact ih h hl hv
      · rw [if_neg h2] at h; cases h
def lastCt (z : Int) (l : List CatR) : Int := match l.getLast? with
  | some o => o.ver
  | none => z
theorem lastCt_snoc (z : Int) (l : List CatR) (o : CatR) : lastCt z (l ++ [o]) = o.ver := by unfold lastCt; rw [List.getLast?_append]; simp
theorem lastCt_cons (z : Int) (a : CatR) (l : List CatR) : lastCt z (a :: l) = lastCt a.ver l := by
  cases l with
  | nil => rfl
  | cons b l => unfold lastCt; rw [List.getLast?_cons_cons]; cases hq : (b :: l).getLast? with
    | none => simp at hq
    | some o => rfl
theorem ctsE_snoc {c : CatR} {l : List CatR} : ∀ {z : Int}, ctsE z l = 0 → lastCt z l < c.ver → (winB c.lo 500000 && winB c.hi 500000 && decide (c.lo ≤ c.hi)) = true → ctsE z (l ++ [c]) = 0 := by
  induction l with
  | nil =>
    intro z _ h hv
    rw [List.nil_append, ctsE, if_neg (by simp only [lastCt, List.getLast?_nil] at h; omega), if_pos hv]; rfl
  | cons a l ih =>
    intro z h hl hv
    rw [ctsE] at h
    rw [List.cons_append, ctsE]
    by_cases h1 : a.ver ≤ z
    · rw [if_pos h1] at h; cases h
    · rw [if_neg h1] at h ⊢
      by_cases h2 : (winB a.lo 500000 && winB a.hi 500000 && decide (a.lo ≤ a.hi)) = true
      · rw [if_pos h2] at h ⊢
        rw [lastCt_cons] at hl
        exact ih h hl hv
      · rw [if_neg h2] at h; cases h
/-- A station that is in the list is found. -/
theorem whereL_found {h : V2} {id : Int} {l : List StR} (hm : ∃ o ∈ l, o.id = id) : (whereL h id l).2 = true := by
  induction l with
  | nil => obtain ⟨o, ho, _⟩ := hm; cases ho
  | cons a l ih =>
    rw [whereL]
    by_cases ha : a.id = id
    · rw [if_pos ha]
    · rw [if_neg ha]
      obtain ⟨o, ho, hi⟩ := hm
      rcases List.mem_cons.1 ho with rfl | ho
      · exact absurd hi ha
      · exact ih ⟨o, ho, hi⟩
theorem biasL_found {id : Int} {l : List CatR} (hm : ∃ c ∈ l, c.ver = id) : (biasL id l).2 = true := by
  induction l with
  | nil => obtain ⟨o, ho, _⟩ := hm; cases ho
  | cons a l ih =>
    rw [biasL]
    by_cases ha : a.ver = id
    · rw [if_pos ha]
    · rw [if_neg ha]
      obtain ⟨o, ho, hi⟩ := hm
      rcases List.mem_cons.1 ho with rfl | ho
      · exact absurd hi ha
      · exact ih ⟨o, ho, hi⟩
end Go.Proofs.Ytgoilmiiegpnoaa

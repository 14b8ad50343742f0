/- What an angle and an empty look in the same direction say of one place. Condition: a valid sky, a valid cone. -/
import Derived.Test.YtfflbiojcoehmabSkyMa
import Derived.Test.YtfflbiojcoehmabSkyN
namespace Go.Proofs.Ytfflbiojcoehmab
open Go.RowKit Go.Shelf
theorem coneR_kind (cats : List CatR) (x : SightR) (a : Int) : coneR cats { x with kind := a } = coneR cats x := rfl
theorem look_angle {s : SkyR} {x : SightR} {c : ConeR} {q : V2} (hE : skyE s = 0) (ht : tickB x.tick = true) (hw : (whereL (homeAt s x.tick) x.st s.sts).2 = true) (hc : coneR s.cats x = .ok c) (hq : vwinB q 33554432 = true) :
    agreesV s { x with kind := 1 } q = hasB c (q.x - (whereL (homeAt s x.tick) x.st s.sts).1.x) (q.y - (whereL (homeAt s x.tick) x.st s.sts).1.y) := by
  have e : checkedR s { x with kind := 1 } = .ok ⟨x.tick, (whereL (homeAt s x.tick) x.st s.sts).1, .angle c⟩ := by
    unfold checkedR lookR wordR
    rw [if_pos hE, if_neg (by simp), if_neg (by simp [ht]), if_neg (by simp [hw]), if_neg (by simp), coneR_kind, hc]
    simp
  unfold agreesV
  rw [e]
  simp only [LookR.agrees, hq, Bool.true_and, WordR.agrees]
theorem look_empty {s : SkyR} {x : SightR} {c : ConeR} {q : V2} (hE : skyE s = 0) (ht : tickB x.tick = true) (hw : (whereL (homeAt s x.tick) x.st s.sts).2 = true) (hc : coneR s.cats x = .ok c) (hh : 1 ≤ x.hi ∧ x.hi ≤ 134217728) (hq : vwinB q 33554432 = true) :
    agreesV s { x with kind := 3 } q = !blocksB c x.hi (q.x - (whereL (homeAt s x.tick) x.st s.sts).1.x) (q.y - (whereL (homeAt s x.tick) x.st s.sts).1.y) := by
  have e : checkedR s { x with kind := 3 } = .ok ⟨x.tick, (whereL (homeAt s x.tick) x.st s.sts).1, .empty c x.hi⟩ := by
    unfold checkedR lookR wordR
    rw [if_pos hE, if_neg (by simp), if_neg (by simp [ht]), if_neg (by simp [hw]), if_neg (by simp), coneR_kind, hc]
    have h3 : ¬ (x.hi < 1 ∨ 134217728 < x.hi) := by omega
    simp [h3]
  unfold agreesV
  rw [e]
  simp only [LookR.agrees, hq, Bool.true_and, WordR.agrees]
end Go.Proofs.Ytfflbiojcoehmab

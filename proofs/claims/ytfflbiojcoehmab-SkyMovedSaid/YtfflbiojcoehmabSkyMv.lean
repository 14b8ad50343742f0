/- What a sight says of a world that is moved with its stations, in a longer direction: plain mathematics. Condition: a small valid sky, a valid sight of it. -/
import Derived.Test.YtfflbiojcoehmabSkyOt
import Derived.Test.YtfflbiojcoehmabSkyMa
import Derived.Test.YtfflbiojcoehmabOwnW
import Derived.Test.YtfflbiojcoehmabSightOf
namespace Go.Proofs.Ytfflbiojcoehmab
open Go.RowKit Go.Shelf
def mvV (mx my : Int) (v : V2) : V2 := ⟨v.x + mx, v.y + my⟩
/-- A sky with the tracks of another one, moved. -/
structure Moved (s t : SkyR) (mx my : Int) : Prop where
  b : t.bodies.map BodyR.bare = s.bodies.map fun b => (b.mu, b.rad, b.track.map (mvV mx my))
  h : t.home = s.home
  es : t.sts = s.sts
  ec : t.cats = s.cats
theorem Moved.len {s t : SkyR} {mx my : Int} (h : Moved s t mx my) : t.bodies.length = s.bodies.length := by
  have := congrArg List.length h.b
  simpa using this
theorem Moved.get {s t : SkyR} {mx my : Int} (h : Moved s t mx my) {j : Nat} (hj : j < t.bodies.length) (hj' : j < s.bodies.length) : t.bodies[j].mu = s.bodies[j].mu ∧ t.bodies[j].rad = s.bodies[j].rad ∧ t.bodies[j].track = s.bodies[j].track.map (mvV mx my) := by
  have h1 : (t.bodies.map BodyR.bare)[j]? = (s.bodies.map fun b => (b.mu, b.rad, b.track.map (mvV mx my)))[j]? := by rw [h.b]
  rw [List.getElem?_map, List.getElem?_map, List.getElem?_eq_getElem hj, List.getElem?_eq_getElem hj'] at h1
  simp only [Option.map_some, Option.some.injEq, BodyR.bare, Prod.mk.injEq] at h1
  exact h1
theorem placesE_all : ∀ {l : List V2}, (∀ v ∈ l, vwinB v 33554432 = true) → placesE l = 0
  | [], _ => rfl
  | v :: l, h => by rw [placesE, if_pos (h v (by simp))]; exact placesE_all fun u hu => h u (by simp [hu])
theorem bodiesE_all : ∀ {l : List BodyR}, (∀ b ∈ l, bodyE b = 0) → bodiesE l = 0
  | [], _ => rfl
  | b :: l, h => by rw [bodiesE, if_pos (h b (by simp))]; exact bodiesE_all fun u hu => h u (by simp [hu])
theorem bodyE_of {b : BodyR} (h1 : 0 ≤ b.mu) (h2 : b.mu ≤ 1125899906842624) (h3 : 0 ≤ b.rad) (h4 : b.rad ≤ 1048576) (h5 : 1 ≤ b.track.length) (h6 : b.track.length ≤ 4096) (h7 : placesE b.track = 0) : bodyE b = 0 := by
  unfold bodyE cntE
  rw [if_neg (by omega), if_neg (show ¬ ((b.track.length : Int) < 1) by omega), if_neg (show ¬ ((4096 : Int) < b.track.length) by omega), if_pos rfl]
  exact h7
section
variable {s t : SkyR} {mx my : Int} (hm : Moved s t mx my) (hs : SmallSky s) (m0 : 0 ≤ mx) (m1 : mx < 100000) (n0 : 0 ≤ my) (n1 : my < 100000)
include hm hs m0 m1 n0 n1
theorem moved_world : worldE t.bodies t.home = 0 := by
  obtain ⟨e1, -, -⟩ := skyE_zero hs.e
  obtain ⟨wb, c1, c2, h0, h1⟩ := worldE_zero e1
  have hl := hm.len
  have hb : bodiesE t.bodies = 0 := by
    refine bodiesE_all fun b hb => ?_
    obtain ⟨j, hj, rfl⟩ := List.getElem_of_mem hb
    have hj' : j < s.bodies.length := by omega
    obtain ⟨g1, g2, g3⟩ := hm.get hj hj'
    obtain ⟨z1, z2, z3, z4, z5, z6, -⟩ := bodyE_zero (wb j hj')
    refine bodyE_of (by omega) (by omega) (by omega) (by omega) ?_ ?_ ?_
    · rw [g3, List.length_map]; exact z5
    · rw [g3, List.length_map]; exact z6
    · rw [g3]
      refine placesE_all fun v hv => ?_
      obtain ⟨u, hu, rfl⟩ := List.mem_map.1 hv
      have := hs.t _ (List.getElem_mem hj') u hu
      unfold vwinB winB mvV
      simp only [Bool.and_eq_true, decide_eq_true_eq]
      omega
  have hc : cntE t.bodies.length 1 8 = 0 := by unfold cntE; rw [if_neg (by omega), if_neg (by omega)]
  unfold worldE
  rw [if_pos hc, if_pos hb, hm.h, if_pos (by omega)]
theorem moved_sky : skyE t = 0 := by
  obtain ⟨-, e2, e3⟩ := skyE_zero hs.e
  unfold skyE
  rw [moved_world hm hs m0 m1 n0 n1, hm.es, hm.ec, if_pos rfl, if_pos e2, e3]
end
theorem moved_home {s t : SkyR} {mx my : Int} (hm : Moved s t mx my) (hs : SmallSky s) (tk : Int) : homeAt t tk = mvV mx my (homeAt s tk) := by
  obtain ⟨e1, -, -⟩ := skyE_zero hs.e
  obtain ⟨wb, c1, c2, h0, h1⟩ := worldE_zero e1
  obtain ⟨k, hk⟩ := Int.eq_ofNat_of_zero_le h0
  have hl := hm.len
  have hk1 : k < s.bodies.length := by omega
  have hk2 : k < t.bodies.length := by omega
  unfold homeAt
  rw [hm.h, hk, bodyAt_get hk1, bodyAt_get hk2, (hm.get hk2 hk1).2.2]
  obtain ⟨-, -, -, -, z5, -, -⟩ := bodyE_zero (wb k hk1)
  generalize s.bodies[k].track = tr at z5
  unfold trackAt
  rw [List.length_map]
  have hq0 := Int.emod_nonneg tk (b := (tr.length : Int)) (by omega)
  have hq1 := Int.emod_lt_of_pos tk (b := (tr.length : Int)) (by omega)
  have hq : (tk % (tr.length : Int)).toNat < tr.length := by omega
  rw [List.getD_eq_getElem?_getD, List.getD_eq_getElem?_getD, List.getElem?_map, List.getElem?_eq_getElem hq]
  rfl
theorem whereL_moved {h : V2} {id mx my : Int} : ∀ {l : List StR}, (whereL h id l).2 = true → whereL (mvV mx my h) id l = (mvV mx my (whereL h id l).1, true)
  | [], e => by cases e
  | o :: l, e => by
    rw [whereL] at e ⊢
    rw [whereL]
    by_cases ho : o.id = id
    · rw [if_pos ho, if_pos ho]
      unfold mvV
      simp only
      congr 2 <;> omega
    · rw [if_neg ho, if_neg ho]
      rw [if_neg ho] at e
      exact whereL_moved e
def ConeR.scale (f : Int) (k : ConeR) : ConeR := ⟨k.dx * f, k.dy * f, k.lo, k.hi⟩
theorem scale_left (f : Int) (k : ConeR) (x y : Int) : leftV (k.scale f) x y = leftV k x y * f := by unfold leftV ConeR.scale; grind
theorem scale_ahead (f : Int) (k : ConeR) (x y : Int) : aheadV (k.scale f) x y = aheadV k x y * f := by unfold aheadV ConeR.scale; grind
theorem mul_le_zero {a f : Int} (hf : 1 ≤ f) : a * f ≤ 0 ↔ a ≤ 0 := by
  constructor
  · intro h
    rcases Int.lt_or_le 0 a with h1 | h1
    · have := Int.mul_pos h1 (show 0 < f by omega); omega
    · exact h1
  · intro h
    exact Int.mul_nonpos_of_nonpos_of_nonneg h (by omega)
theorem mul_lt {a b f : Int} (hf : 1 ≤ f) : a * f < b * f ↔ a < b := Int.mul_lt_mul_right (by omega)
section
variable {f : Int} (hf : 1 ≤ f) (k : ConeR)
include hf
theorem scale_behind : behindB (k.scale f) = behindB k := by
  funext x y
  unfold behindB
  rw [scale_ahead, Bool.eq_iff_iff, decide_eq_true_eq, decide_eq_true_eq]
  exact mul_le_zero hf
theorem scale_right : rightB (k.scale f) = rightB k := by
  funext x y
  unfold rightB
  rw [scale_ahead, scale_left, Bool.eq_iff_iff, decide_eq_true_eq, decide_eq_true_eq]
  rw [← Int.mul_assoc, ← Int.mul_assoc]
  exact mul_lt hf
theorem scale_leftB : leftB2 (k.scale f) = leftB2 k := by
  funext x y
  unfold leftB2
  rw [scale_ahead, scale_left, Bool.eq_iff_iff, decide_eq_true_eq, decide_eq_true_eq]
  rw [← Int.mul_assoc, ← Int.mul_assoc]
  exact mul_lt hf
theorem scale_has : hasB (k.scale f) = hasB k := by
  funext x y
  unfold hasB
  rw [scale_behind hf, scale_right hf, scale_leftB hf]
theorem scale_blocks (hi : Int) : blocksB (k.scale f) hi = blocksB k hi := by
  funext x y
  unfold blocksB
  rw [scale_has hf]
end
def WordR.scale (f : Int) : WordR → WordR
  | .angle k => .angle (k.scale f)
  | .ring lo hi => .ring lo hi
  | .empty k hi => .empty (k.scale f) hi
theorem scale_agrees {f : Int} (hf : 1 ≤ f) (g : WordR) (x y : Int) : (g.scale f).agrees x y = g.agrees x y := by
  cases g with
  | angle k => simp only [WordR.scale, WordR.agrees, scale_has hf]
  | ring lo hi => rfl
  | empty k hi => simp only [WordR.scale, WordR.agrees, scale_blocks hf]
theorem scale_excl {f : Int} (hf : 1 ≤ f) (g : WordR) (a b c d : Int) : excl (g.scale f) a b c d = excl g a b c d := by
  cases g with
  | angle k => simp only [WordR.scale, excl, scale_behind hf, scale_right hf, scale_leftB hf]
  | ring lo hi => rfl
  | empty k hi => simp only [WordR.scale, excl, scale_blocks hf]
def SightR.longer (x : SightR) (f : Int) : SightR := { x with dir := ⟨x.dir.x * f, x.dir.y * f⟩ }
/-- The looks of a sight in a sky, and of the longer one in the moved sky. -/
theorem moved_look {s t : SkyR} {mx my tk f : Int} {x : SightR} (hm : Moved s t mx my) (hs : SmallSky s) (m0 : 0 ≤ mx) (m1 : mx < 100000) (n0 : 0 ≤ my) (n1 : my < 100000) (hok : SightOk s tk x) (ht0 : 0 ≤ tk) (ht1 : tk < 9) (hf : 1 ≤ f) (hd : (-4096 ≤ x.dir.x * f ∧ x.dir.x * f ≤ 4096) ∧ -4096 ≤ x.dir.y * f ∧ x.dir.y * f ≤ 4096) :
    ∃ k : LookR, checkedR s x = .ok k ∧ checkedR t (x.longer f) = .ok ⟨k.tick, mvV mx my k.frm, k.says.scale f⟩ := by
  have ht : tickB x.tick = true := by rw [hok.ot]; unfold tickB; simp; omega
  have hw := whereL_found (h := homeAt s x.tick) hok.os
  have hk := hok.ok
  have h1 := hok.ol
  have h2 := hok.oh
  have h3 := hok.orr
  have hc : ∃ c, coneR s.cats x = .ok c ∧ coneR s.cats (x.longer f) = .ok (c.scale f) := by
    have e1 := hok.od
    have e2 := hok.on
    have e3 := hok.oe
    have e4 : ¬ (x.dir.x * f = 0 ∧ x.dir.y * f = 0) := fun e => e2 ⟨(Int.mul_eq_zero.1 e.1).resolve_right (by omega), (Int.mul_eq_zero.1 e.2).resolve_right (by omega)⟩
    unfold coneR SightR.longer
    simp only
    have u1 : ¬ (vwinB x.dir 4096 = false ∨ (x.dir.x = 0 ∧ x.dir.y = 0) ∨ x.err < 0 ∨ 500000 < x.err) := by
      unfold vwinB winB
      simp only [Bool.and_eq_false_iff, decide_eq_false_iff_not]
      omega
    have u2 : ¬ (vwinB ⟨x.dir.x * f, x.dir.y * f⟩ 4096 = false ∨ (x.dir.x * f = 0 ∧ x.dir.y * f = 0) ∨ x.err < 0 ∨ 500000 < x.err) := by
      unfold vwinB winB
      simp only [Bool.and_eq_false_iff, decide_eq_false_iff_not]
      omega
    rw [if_pos (biasL_found hok.oc), if_neg u1, if_pos (biasL_found hok.oc), if_neg u2]
    exact ⟨_, rfl, rfl⟩
  obtain ⟨c, hc1, hc2⟩ := hc
  have hg : ∃ g, wordR s.cats x = .ok g ∧ wordR s.cats (x.longer f) = .ok (g.scale f) := by
    unfold wordR
    have k1 : (x.longer f).kind = x.kind := rfl
    have k2 : (x.longer f).lo = x.lo := rfl
    have k3 : (x.longer f).hi = x.hi := rfl
    rw [k1, k2, k3]
    by_cases e2 : x.kind = 2
    · rw [if_pos e2, if_pos e2, if_neg (by omega)]; exact ⟨_, rfl, rfl⟩
    · rw [if_neg e2, if_neg e2, hc1, hc2]
      simp only
      by_cases e1 : x.kind = 1
      · rw [if_pos e1, if_pos e1]; exact ⟨_, rfl, rfl⟩
      · rw [if_neg e1, if_neg e1, if_neg (by omega), if_neg (by omega)]; exact ⟨_, rfl, rfl⟩
  obtain ⟨g, hg1, hg2⟩ := hg
  have hwm := whereL_moved (mx := mx) (my := my) hw
  unfold checkedR lookR
  rw [moved_sky hm hs m0 m1 n0 n1, hs.e, if_pos rfl, if_pos rfl]
  have k1 : (x.longer f).kind = x.kind := rfl
  have k2 : (x.longer f).tick = x.tick := rfl
  have k3 : (x.longer f).st = x.st := rfl
  rw [k1, k2, k3, hm.es, hm.ec, moved_home hm hs, hwm, if_neg (by omega), if_neg (by simp [ht]), if_neg (by simp [hw]), hg1, if_neg (by omega), if_neg (by simp [ht]), if_neg (by simp), hg2]
  exact ⟨_, rfl, rfl⟩
theorem moved_say {s t : SkyR} {mx my tk f qx qy : Int} {x : SightR} (hm : Moved s t mx my) (hs : SmallSky s) (m0 : 0 ≤ mx) (m1 : mx < 100000) (n0 : 0 ≤ my) (n1 : my < 100000) (hok : SightOk s tk x) (ht0 : 0 ≤ tk) (ht1 : tk < 9) (hf : 1 ≤ f) (hd : (-4096 ≤ x.dir.x * f ∧ x.dir.x * f ≤ 4096) ∧ -4096 ≤ x.dir.y * f ∧ x.dir.y * f ≤ 4096) (hq : (-20000 ≤ qx ∧ qx ≤ 20000) ∧ -20000 ≤ qy ∧ qy ≤ 20000) :
    agreesV t (x.longer f) ⟨qx + mx, qy + my⟩ = agreesV s x ⟨qx, qy⟩ ∧ ∀ u v, 0 ≤ u → u ≤ 600 → 0 ≤ v → v ≤ 600 → excludesV t (x.longer f) (qx + mx - u) (qx + mx + u) (qy + my - v) (qy + my + v) = excludesV s x (qx - u) (qx + u) (qy - v) (qy + v) := by
  obtain ⟨k, hk1, hk2⟩ := moved_look hm hs m0 m1 n0 n1 hok ht0 ht1 hf hd
  unfold agreesV excludesV
  rw [hk1, hk2]
  refine ⟨?_, fun u v u0 u1 v0 v1 => ?_⟩
  · simp only [LookR.agrees, scale_agrees hf, mvV]
    have e1 : vwinB ⟨qx + mx, qy + my⟩ 33554432 = true := by unfold vwinB winB; simp only [Bool.and_eq_true, decide_eq_true_eq]; omega
    have e2 : vwinB ⟨qx, qy⟩ 33554432 = true := by unfold vwinB winB; simp only [Bool.and_eq_true, decide_eq_true_eq]; omega
    rw [e1, e2, show qx + mx - (k.frm.x + mx) = qx - k.frm.x by omega, show qy + my - (k.frm.y + my) = qy - k.frm.y by omega]
  · simp only [scale_excl hf, mvV]
    have pp : ∀ a b : Int, -200000 ≤ a → a ≤ b → b ≤ 200000 → partB a b = true := fun a b e1 e2 e3 => by unfold partB; simp only [Bool.and_eq_true, decide_eq_true_eq]; omega
    rw [pp (qx + mx - u) _ (by omega) (by omega) (by omega), pp (qy + my - v) _ (by omega) (by omega) (by omega), pp (qx - u) _ (by omega) (by omega) (by omega), pp (qy - v) _ (by omega) (by omega) (by omega)]
    rw [show qx + mx - u - (k.frm.x + mx) = qx - u - k.frm.x by omega, show qx + mx + u - (k.frm.x + mx) = qx + u - k.frm.x by omega, show qy + my - v - (k.frm.y + my) = qy - v - k.frm.y by omega, show qy + my + v - (k.frm.y + my) = qy + v - k.frm.y by omega]
end Go.Proofs.Ytfflbiojcoehmab

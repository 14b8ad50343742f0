/- Contract of SkyOf: a valid sky of the call's own, made of a ring's numbers. Condition: the ring's block is as NewRing made it. -/
import Derived.Test.YtlhihmfefipehaaSkyOaG
import Derived.OwnWalk
import Derived.Deep.RegionLawGrows
namespace Go.Proofs.Ytlhihmfefipehaa
open Go.RowKit Go.Shelf
attribute [local go_sem] Ext.cell Ext.frozen Ext.lt Ext.le Ext.lt_add Ext.le_add Ext.ne Ext.ne' lt2 lt3 lt4 lt5 le2 le3 le4
attribute [local go_sem] RExt.cell RExt.frozen RExt.lt RExt.le RExt.lt_add RExt.le_add RExt.ne RExt.ne'
structure SmallSky (s : SkyR) : Prop where
  e : skyE s = 0
  t : ∀ b ∈ s.bodies, ∀ v ∈ b.track, (-2000 ≤ v.x ∧ v.x ≤ 2000) ∧ -2000 ≤ v.y ∧ v.y ≤ 2000
  tl : ∀ b ∈ s.bodies, b.track.length ≤ 4
  bl : s.bodies.length ≤ 3
  mu : ∀ b ∈ s.bodies, b.mu < 1048576 ∧ b.rad < 50
  sl : 1 ≤ s.sts.length ∧ s.sts.length ≤ 3
  so : ∀ o ∈ s.sts, (-40 ≤ o.off.x ∧ o.off.x ≤ 40) ∧ -40 ≤ o.off.y ∧ o.off.y ≤ 40
  cl : 1 ≤ s.cats.length ∧ s.cats.length ≤ 3
  cb : ∀ c ∈ s.cats, -10000 ≤ c.lo ∧ c.lo ≤ c.hi ∧ c.hi ≤ 20000
  id : ∀ o ∈ s.sts, 1 ≤ o.id ∧ o.id ≤ 9
  ve : ∀ c ∈ s.cats, 1 ≤ c.ver ∧ c.ver ≤ 9
/-- As SkyPost: and the rows lie in new blocks, within their capacity. -/
def SkyPostZ (w : World) (b m : Nat) : Ending → World → Prop := fun e w' => ∃ (y : RExt w b) (s : SkyR), e = .returned s.val ∧ SmallSky s ∧ w' = y.now ∧ s.AtX w.heap.size y.now ∧ s.bodies.length ≤ s.bc ∧ RingM y.now b (m + 80)
def SkyPost (w : World) (b m : Nat) : Ending → World → Prop := fun e w' => ∃ (y : RExt w b) (s : SkyR), e = .returned s.val ∧ SmallSky s ∧ w' = y.now ∧ s.AtX (b + 1) y.now ∧ RingM y.now b (m + 80)
/-- The boxes of the result and of the sky that is being made. -/
structure SkyBox (W : World) (R : Nat) (v0 v1 v2 v3 : Value) : Prop where
  r0 : W.cell? ⟨R, 0, none⟩ = some (.slice none 0 0)
  r1 : W.cell? ⟨R, 1, none⟩ = some (.int .i64 0)
  r2 : W.cell? ⟨R, 2, none⟩ = some (.slice none 0 0)
  r3 : W.cell? ⟨R, 3, none⟩ = some (.slice none 0 0)
  g0 : W.frozen? ⟨R, 0, none⟩ = false
  g1 : W.frozen? ⟨R, 1, none⟩ = false
  g2 : W.frozen? ⟨R, 2, none⟩ = false
  g3 : W.frozen? ⟨R, 3, none⟩ = false
  c0 : W.cell? ⟨R + 1, 0, none⟩ = some v0
  c1 : W.cell? ⟨R + 1, 1, none⟩ = some v1
  c2 : W.cell? ⟨R + 1, 2, none⟩ = some v2
  c3 : W.cell? ⟨R + 1, 3, none⟩ = some v3
  f0 : W.frozen? ⟨R + 1, 0, none⟩ = false
  f1 : W.frozen? ⟨R + 1, 1, none⟩ = false
  f2 : W.frozen? ⟨R + 1, 2, none⟩ = false
  f3 : W.frozen? ⟨R + 1, 3, none⟩ = false
  lt : R + 1 < W.heap.size
theorem SkyBox.keep {W W' : World} {R : Nat} {v0 v1 v2 v3 : Value} (h : SkyBox W R v0 v1 v2 v3) (hc : ∀ o, W'.cell? ⟨R, o, none⟩ = W.cell? ⟨R, o, none⟩) (hf : ∀ o, W'.frozen? ⟨R, o, none⟩ = W.frozen? ⟨R, o, none⟩) (hc' : ∀ o, W'.cell? ⟨R + 1, o, none⟩ = W.cell? ⟨R + 1, o, none⟩) (hf' : ∀ o, W'.frozen? ⟨R + 1, o, none⟩ = W.frozen? ⟨R + 1, o, none⟩) (hs : W.heap.size ≤ W'.heap.size) : SkyBox W' R v0 v1 v2 v3 :=
  ⟨(hc 0).trans h.r0, (hc 1).trans h.r1, (hc 2).trans h.r2, (hc 3).trans h.r3, (hf 0).trans h.g0, (hf 1).trans h.g1, (hf 2).trans h.g2, (hf 3).trans h.g3, (hc' 0).trans h.c0, (hc' 1).trans h.c1, (hc' 2).trans h.c2, (hc' 3).trans h.c3, (hf' 0).trans h.f0, (hf' 1).trans h.f1, (hf' 2).trans h.f2, (hf' 3).trans h.f3, Nat.lt_of_lt_of_le h.lt hs⟩
theorem SkyBox.rext {W : World} {R b : Nat} {v0 v1 v2 v3 : Value} (h : SkyBox W R v0 v1 v2 v3) (hb : b < R) (x : RExt W b) : SkyBox x.now R v0 v1 v2 v3 := by
  have := h.lt
  exact h.keep (fun o => x.cell (by omega) (by omega)) (fun o => x.frozen (by omega) (by omega)) (fun o => x.cell (by omega) (by omega)) (fun o => x.frozen (by omega) (by omega)) x.size
theorem SkyBox.alloc {W : World} {R : Nat} {v0 v1 v2 v3 : Value} (h : SkyBox W R v0 v1 v2 v3) (o : Obj) : SkyBox (W.alloc o) R v0 v1 v2 v3 := by
  have := h.lt
  let x : Ext W := ⟨W.alloc o, (Below.refl _ _).alloc (Nat.le_refl _) _⟩
  exact h.keep (fun o => x.cell (by omega)) (fun o => x.frozen (by omega)) (fun o => x.cell (by omega)) (fun o => x.frozen (by omega)) x.size
theorem SkyBox.drew {W : World} {R : Nat} {v0 v1 v2 v3 : Value} (h : SkyBox W R v0 v1 v2 v3) : SkyBox W.drew R v0 v1 v2 v3 := by
  have := h.lt
  let x : Ext W := ⟨W.drew, (Below.refl _ _).drew⟩
  exact h.keep (fun o => x.cell (by omega)) (fun o => x.frozen (by omega)) (fun o => x.cell (by omega)) (fun o => x.frozen (by omega)) x.size
theorem SkyBox.set0 {W : World} {R : Nat} {v0 v1 v2 v3 : Value} (h : SkyBox W R v0 v1 v2 v3) (u : Value) : SkyBox (W.setCell ⟨R + 1, 0, none⟩ u) R u v1 v2 v3 := by
  obtain ⟨r0, r1, r2, r3, g0, g1, g2, g3, c0, c1, c2, c3, f0, f1, f2, f3, lt⟩ := h
  constructor <;> first | (simp [go_sem, *]; done) | (simpa using lt)
theorem SkyBox.set1 {W : World} {R : Nat} {v0 v1 v2 v3 : Value} (h : SkyBox W R v0 v1 v2 v3) (u : Value) : SkyBox (W.setCell ⟨R + 1, 1, none⟩ u) R v0 u v2 v3 := by
  obtain ⟨r0, r1, r2, r3, g0, g1, g2, g3, c0, c1, c2, c3, f0, f1, f2, f3, lt⟩ := h
  constructor <;> first | (simp [go_sem, *]; done) | (simpa using lt)
theorem SkyBox.set2 {W : World} {R : Nat} {v0 v1 v2 v3 : Value} (h : SkyBox W R v0 v1 v2 v3) (u : Value) : SkyBox (W.setCell ⟨R + 1, 2, none⟩ u) R v0 v1 u v3 := by
  obtain ⟨r0, r1, r2, r3, g0, g1, g2, g3, c0, c1, c2, c3, f0, f1, f2, f3, lt⟩ := h
  constructor <;> first | (simp [go_sem, *]; done) | (simpa using lt)
theorem SkyBox.set3 {W : World} {R : Nat} {v0 v1 v2 v3 : Value} (h : SkyBox W R v0 v1 v2 v3) (u : Value) : SkyBox (W.setCell ⟨R + 1, 3, none⟩ u) R v0 v1 v2 u := by
  obtain ⟨r0, r1, r2, r3, g0, g1, g2, g3, c0, c1, c2, c3, f0, f1, f2, f3, lt⟩ := h
  constructor <;> first | (simp [go_sem, *]; done) | (simpa using lt)
theorem SkyBox.put {W : World} {R B : Nat} {v0 v1 v2 v3 : Value} (h : SkyBox W R v0 v1 v2 v3) (hB : R + 1 < B) (o : Nat) (u : Value) : SkyBox (W.setCell ⟨B, o, none⟩ u) R v0 v1 v2 v3 := by
  have h1 : R ≠ B := by omega
  have h2 : R + 1 ≠ B := by omega
  have h3 : B ≠ R := by omega
  have h4 : B ≠ R + 1 := by omega
  obtain ⟨r0, r1, r2, r3, g0, g1, g2, g3, c0, c1, c2, c3, f0, f1, f2, f3, lt⟩ := h
  constructor <;> first | (simp [go_sem, *]; done) | (simpa using lt)
theorem SkyBox.grown {W W' : World} {R base e k n : Nat} {v0 v1 v2 v3 v : Value} {xs : List Value} (h : SkyBox W R v0 v1 v2 v3) (hown : W.ownsRow base e k v n xs) (hb : R + 1 < base) (hg : W.grownBy W' v.ownBlock) : SkyBox W' R v0 v1 v2 v3 := by
  have := h.lt
  have hs : ∀ B, B ≤ R + 1 → W'.heap[B]? = W.heap[B]? := fun B hB => hg.block B (by omega) (fun e => by have := (hown.lt B e.symm).1; omega)
  exact h.keep (fun o => World.cell?_of_block (a := ⟨R, o, none⟩) (hs R (by omega))) (fun o => World.frozen?_of_block (a := ⟨R, o, none⟩) (hs R (by omega))) (fun o => World.cell?_of_block (a := ⟨R + 1, o, none⟩) (hs (R + 1) (Nat.le_refl _))) (fun o => World.frozen?_of_block (a := ⟨R + 1, o, none⟩) (hs (R + 1) (Nat.le_refl _))) hg.size
def bodyOk (b : BodyR) : Prop := bodyE b = 0 ∧ (∀ v ∈ b.track, (-2000 ≤ v.x ∧ v.x ≤ 2000) ∧ -2000 ≤ v.y ∧ v.y ≤ 2000) ∧ b.track.length ≤ 4 ∧ b.mu < 1048576 ∧ b.rad < 50
def bodiesOk (l : List BodyR) : Prop := bodiesE l = 0 ∧ ∀ b ∈ l, bodyOk b
/-- Bodies and their tracks, rows of the call's own. -/
structure Rows1 (W : World) (base : Nat) (v : Value) (l : List BodyR) : Prop where
  b : W.ownsRow base 52 3 v l.length (brows l)
  t : TrOwn W base l
theorem Rows1.belowX {W W' : World} {base b : Nat} {v : Value} {l : List BodyR} (h : Rows1 W base v l) (hb : b < base) (y : BelowX b W.heap.size W W') : Rows1 W' base v l := ⟨owns_belowX h.b hb y, h.t.belowX hb y⟩
theorem Rows1.drew {W : World} {base : Nat} {v : Value} {l : List BodyR} (h : Rows1 W base v l) : Rows1 W.drew base v l := ⟨World.ownsRow.drew h.b, h.t.map fun _ _ _ g => World.ownsRow.drew g⟩
theorem Rows1.alloc {W : World} {base : Nat} {v : Value} {l : List BodyR} (h : Rows1 W base v l) (o : Obj) : Rows1 (W.alloc o) base v l := ⟨h.b.alloc o, h.t.alloc o⟩
theorem Rows1.put {W : World} {base : Nat} {v : Value} {l : List BodyR} (h : Rows1 W base v l) {B : Nat} (hB : B < base) (o : Nat) (u : Value) : Rows1 (W.setCell ⟨B, o, none⟩ u) base v l := ⟨owns_put h.b hB o u, h.t.put hB o u⟩
theorem Rows1.grown {W W' : World} {base base' k n : Nat} {e : TypeId} {v u : Value} {l : List BodyR} {xs : List Value} (h : Rows1 W base v l) (hown : W.ownsRow base' e k u n xs) (h1 : 52 ≠ e) (h2 : 43 ≠ e) (hg : W.grownBy W' u.ownBlock) : Rows1 W' base v l :=
  ⟨h.b.kept hg (owns_apart2 h.b hown h1), h.t.grown hown h2 hg⟩
/-- Stations besides. -/
structure Rows2 (W : World) (base : Nat) (v : Value) (l : List BodyR) (u : Value) (st : List StR) : Prop where
  r : Rows1 W base v l
  s : W.ownsRow base 107 3 u st.length (srows st)
theorem Rows2.belowX {W W' : World} {base b : Nat} {v u : Value} {l : List BodyR} {st : List StR} (h : Rows2 W base v l u st) (hb : b < base) (y : BelowX b W.heap.size W W') : Rows2 W' base v l u st := ⟨h.r.belowX hb y, owns_belowX h.s hb y⟩
theorem Rows2.drew {W : World} {base : Nat} {v u : Value} {l : List BodyR} {st : List StR} (h : Rows2 W base v l u st) : Rows2 W.drew base v l u st := ⟨h.r.drew, World.ownsRow.drew h.s⟩
theorem Rows2.alloc {W : World} {base : Nat} {v u : Value} {l : List BodyR} {st : List StR} (h : Rows2 W base v l u st) (o : Obj) : Rows2 (W.alloc o) base v l u st := ⟨h.r.alloc o, h.s.alloc o⟩
theorem Rows2.put {W : World} {base : Nat} {v u : Value} {l : List BodyR} {st : List StR} (h : Rows2 W base v l u st) {B : Nat} (hB : B < base) (o : Nat) (x : Value) : Rows2 (W.setCell ⟨B, o, none⟩ x) base v l u st := ⟨h.r.put hB o x, owns_put h.s hB o x⟩
theorem Rows2.grown {W W' : World} {base base' k n : Nat} {e : TypeId} {v u x : Value} {l : List BodyR} {st : List StR} {xs : List Value} (h : Rows2 W base v l u st) (hown : W.ownsRow base' e k x n xs) (h1 : 52 ≠ e) (h2 : 43 ≠ e) (h3 : 107 ≠ e) (hg : W.grownBy W' x.ownBlock) : Rows2 W' base v l u st :=
  ⟨h.r.grown hown h1 h2 hg, h.s.kept hg (owns_apart2 h.s hown h3)⟩
def stsOk (st : List StR) : Prop := stsE 0 st = 0 ∧ lastSt 0 st ≤ 3 * st.length ∧ 0 ≤ lastSt 0 st ∧ ∀ o ∈ st, ((-40 ≤ o.off.x ∧ o.off.x ≤ 40) ∧ -40 ≤ o.off.y ∧ o.off.y ≤ 40) ∧ 1 ≤ o.id ∧ o.id ≤ 9
def ctsOk (ct : List CatR) : Prop := ctsE 0 ct = 0 ∧ lastCt 0 ct ≤ 3 * ct.length ∧ 0 ≤ lastCt 0 ct ∧ ∀ c ∈ ct, (-10000 ≤ c.lo ∧ c.lo ≤ c.hi ∧ c.hi ≤ 20000) ∧ 1 ≤ c.ver ∧ c.ver ≤ 9
theorem stsOk.add {st : List StR} (h : stsOk st) {o : StR} (hl : st.length ≤ 2) (h1 : lastSt 0 st < o.id) (h2 : o.id ≤ lastSt 0 st + 3) (h3 : (-40 ≤ o.off.x ∧ o.off.x ≤ 40) ∧ -40 ≤ o.off.y ∧ o.off.y ≤ 40) : stsOk (st ++ [o]) := by
  obtain ⟨a, b, c, d⟩ := h
  refine ⟨stsE_snoc a h1 (by unfold vwinB winB; simp only [Bool.and_eq_true, decide_eq_true_eq]; omega), by rw [lastSt_snoc]; simp; omega, by rw [lastSt_snoc]; omega, fun x hx => ?_⟩
  rcases List.mem_append.1 hx with h4 | h4
  · exact d x h4
  · rw [List.mem_singleton.1 h4]; exact ⟨h3, by omega, by omega⟩
theorem ctsOk.add {ct : List CatR} (h : ctsOk ct) {o : CatR} (hl : ct.length ≤ 2) (h1 : lastCt 0 ct < o.ver) (h2 : o.ver ≤ lastCt 0 ct + 3) (h3 : -10000 ≤ o.lo ∧ o.lo ≤ o.hi ∧ o.hi ≤ 20000) : ctsOk (ct ++ [o]) := by
  obtain ⟨a, b, c, d⟩ := h
  refine ⟨ctsE_snoc a h1 (by unfold winB; simp only [Bool.and_eq_true, decide_eq_true_eq]; omega), by rw [lastCt_snoc]; simp; omega, by rw [lastCt_snoc]; omega, fun x hx => ?_⟩
  rcases List.mem_append.1 hx with h4 | h4
  · exact d x h4
  · rw [List.mem_singleton.1 h4]; exact ⟨h3, by omega, by omega⟩
theorem made_small {l : List BodyR} {st : List StR} {ct : List CatR} {home : Int} {bp sp cp : Option Addr} {bc sc cc : Nat} (hb : bodiesOk l) (hl : 1 ≤ l.length ∧ l.length ≤ 3) (h0 : 0 ≤ home) (h1 : home < l.length) (hs : stsOk st) (hsl : 1 ≤ st.length ∧ st.length ≤ 3) (hc : ctsOk ct) (hcl : 1 ≤ ct.length ∧ ct.length ≤ 3) :
    SmallSky ⟨bp, bc, l, home, sp, sc, st, cp, cc, ct⟩ := by
  have w0 : worldE l home = 0 := by
    have : cntE (l.length : Int) 1 8 = 0 := by unfold cntE; rw [if_neg (by omega), if_neg (by omega)]
    unfold worldE
    rw [if_pos this, if_pos hb.1, if_pos ⟨h0, h1⟩]
  have s0 : stationsE st = 0 := by unfold stationsE; rw [if_neg (by omega)]; exact hs.1
  have c0 : catalogsE ct = 0 := by unfold catalogsE; rw [if_neg (by omega)]; exact hc.1
  refine ⟨?_, fun b h => (hb.2 b h).2.1, fun b h => (hb.2 b h).2.2.1, hl.2, fun b h => (hb.2 b h).2.2.2, hsl, fun o h => (hs.2.2.2 o h).1, hcl, fun c h => (hc.2.2.2 c h).1, fun o h => (hs.2.2.2 o h).2, fun c h => (hc.2.2.2 c h).2⟩
  unfold skyE
  simp only [w0, s0, c0, if_true]
theorem owns_cap {w : World} {base : Nat} {e : TypeId} {size n n' c : Nat} {p : Option Addr} {xs : List Value} (h : w.ownsRow base e size (.slice p n' c) n xs) : n' ≤ c := by
  rcases h.2 with ⟨h1, h2⟩ | ⟨g, cap, cur, h1, hg, hgg, hc, rest⟩
  · injection h1 with h1 h3 h4; omega
  · injection h1 with h1 h3 h4; omega
theorem SkyR.AtX.down {s : SkyR} {base lo : Nat} {W : World} (h : s.AtX base W) (hl : lo ≤ base) : s.AtX lo W where
  bs := fun j hj => by
    obtain ⟨h1, B, o, hp, h2, hB, c⟩ := h.bs j hj
    exact ⟨fun i hi => by obtain ⟨B, o, hp, h2, hB, c⟩ := h1 i hi; exact ⟨B, o, hp, by omega, hB, c⟩, B, o, hp, by omega, hB, c⟩
  ss := fun j hj => by obtain ⟨B, o, hp, h2, hB, c⟩ := h.ss j hj; exact ⟨B, o, hp, by omega, hB, c⟩
  cs := fun j hj => by obtain ⟨B, o, hp, h2, hB, c⟩ := h.cs j hj; exact ⟨B, o, hp, by omega, hB, c⟩
theorem made_at {W : World} {base lo : Nat} {l : List BodyR} {st : List StR} {ct : List CatR} {home : Int} {bp sp cp : Option Addr} {bc sc cc : Nat} (hR : Rows2 W base (.slice bp l.length bc) l (.slice sp st.length sc) st) (hC : W.ownsRow base 109 3 (.slice cp ct.length cc) ct.length (crows ct)) (hb : lo ≤ base) :
    SkyR.AtX ⟨bp, bc, l, home, sp, sc, st, cp, cc, ct⟩ lo W := by
  refine ⟨fun j hj => ⟨fun i hi => ?_, ?_⟩, fun j hj => ?_, fun j hj => ?_⟩
  · obtain ⟨p, c, e, h⟩ := owns_at (fun v : V2 => [.int .i64 v.x, .int .i64 v.y]) 2 (fun _ => rfl) l[j].track (hR.r.t l[j] (List.getElem_mem hj))
    injection e with e1 e2 e3
    obtain ⟨B, o, hp, hB, hB2, hv⟩ := h i hi
    exact ⟨B, o, e1.trans hp, by omega, hB2, hv 0 _ rfl, hv 1 _ rfl⟩
  · obtain ⟨p, c, e, h⟩ := owns_at (fun b : BodyR => [.int .i64 b.mu, .int .i64 b.rad, .slice b.tp b.track.length b.tc]) 3 (fun _ => rfl) l hR.r.b
    injection e with e1 e2 e3
    obtain ⟨B, o, hp, hB, hB2, hv⟩ := h j hj
    exact ⟨B, o, e1.trans hp, by omega, hB2, hv 0 _ rfl, hv 1 _ rfl, hv 2 _ rfl⟩
  · obtain ⟨p, c, e, h⟩ := owns_at (fun o : StR => [.int .i64 o.id, .int .i64 o.off.x, .int .i64 o.off.y]) 3 (fun _ => rfl) st hR.s
    injection e with e1 e2 e3
    obtain ⟨B, o, hp, hB, hB2, hv⟩ := h j hj
    exact ⟨B, o, e1.trans hp, by omega, hB2, hv 0 _ rfl, hv 1 _ rfl, hv 2 _ rfl⟩
  · obtain ⟨p, c, e, h⟩ := owns_at (fun c : CatR => [.int .i64 c.ver, .int .i64 c.lo, .int .i64 c.hi]) 3 (fun _ => rfl) ct hC
    injection e with e1 e2 e3
    obtain ⟨B, o, hp, hB, hB2, hv⟩ := h j hj
    exact ⟨B, o, e1.trans hp, by omega, hB2, hv 0 _ rfl, hv 1 _ rfl, hv 2 _ rfl⟩
set_option maxRecDepth 100000 in
set_option maxHeartbeats 16000000 in
theorem SkyOf_z (b m : Nat) (w : World) (hm : m < 1000) (h : RingM w b m) : Calls Try.prog 28 #[.pointer (some ⟨b, 0, none⟩)] w (SkyPostZ w b m) := by
  have hl := h.lt
  have hne : w.heap.size ≠ b := by omega
  have hne1 : w.heap.size + 1 ≠ b := by omega
  go_enter Try.func28, Try.ntmps28
  go_wp2_with (first | ((first | with_reducible refine wrx2 ?_ | with_reducible refine wrx ?_); (repeat (first | go_big_quiet_step ((first | fail)) | quiet_step ((first | fail)))); refine wpQuiet_nil ?_; rintro _ ⟨yr, rfl⟩; have syr := Ext.size yr; (repeat (first | rw [World.size_alloc] at syr | rw [World.size_setCell] at syr | rw [World.size_drew] at syr)); have : b < yr.now.heap.size := (by omega); have : b ≤ yr.now.heap.size := (by omega); have : b < yr.now.heap.size + 1 + 1 := (by omega); have : w.heap.size < yr.now.heap.size := (by omega); have : w.heap.size ≤ yr.now.heap.size := (by omega); have : w.heap.size < yr.now.heap.size + 1 + 1 := (by omega); have : w.heap.size + 1 < yr.now.heap.size := (by omega); have : w.heap.size + 1 ≤ yr.now.heap.size := (by omega); have : w.heap.size + 1 < yr.now.heap.size + 1 + 1 := (by omega)) | (go_at_call 59; (with_reducible refine Calls.mono (Next_y 3 b m _ (by omega) (by omega) (by omega) ?_) ?_); (focus ((repeat (first | (with_reducible assumption) | (with_reducible refine RingM.alloc ?_ _) | (with_reducible refine RingM.drew ?_) | (with_reducible refine RingM.ext ?_ _) | (with_reducible refine RingM.set ?_ _ (by omega)))); done)); (rintro _ _ ⟨yx1, vx1, rfl, hvx1, rfl, rgx1⟩); have syx1 := RExt.size yx1; (repeat (first | rw [World.size_alloc] at syx1 | rw [World.size_setCell] at syx1 | rw [World.size_drew] at syx1)); have : b < yx1.now.heap.size := (by omega); have : b ≤ yx1.now.heap.size := (by omega); have : b < yx1.now.heap.size + 1 + 1 := (by omega); have : w.heap.size < yx1.now.heap.size := (by omega); have : w.heap.size ≤ yx1.now.heap.size := (by omega); have : w.heap.size < yx1.now.heap.size + 1 + 1 := (by omega); have : w.heap.size + 1 < yx1.now.heap.size := (by omega); have : w.heap.size + 1 ≤ yx1.now.heap.size := (by omega); have : w.heap.size + 1 < yx1.now.heap.size + 1 + 1 := (by omega)))
  have hbox : SkyBox yx1.now w.heap.size (.slice none 0 0) (.int .i64 0) (.slice none 0 0) (.slice none 0 0) := by
    refine SkyBox.rext ?_ hl yx1
    constructor <;> simp [go_sem]
  have hBX : BelowX b w.heap.size w yx1.now := by repeat' (first | (with_reducible exact BelowX.refl _ _ _) | (with_reducible assumption) | (with_reducible refine RExt.belowX _ ?_ ?_) | (with_reducible refine Ext.belowX _ ?_ ?_) | (with_reducible refine BelowX.alloc ?_ ?_ _) | (with_reducible refine BelowX.drew ?_) | (with_reducible refine BelowX.setCell ?_ ?_ _) | (with_reducible exact Nat.le_refl _) | omega | (simp; done) | (simp [go_sem]; done) | (simp at *; omega))
  obtain ⟨hv0, hv1⟩ := hvx1
  generalize yx1.now = W0 at *
  clear syx1
  clear yx1
  obtain ⟨k0, hk0⟩ := Int.eq_ofNat_of_zero_le (show 0 ≤ 1 + vx1 by omega)
  rw [hk0]
  have hkk : 1 ≤ k0 ∧ k0 ≤ 3 := by omega
  clear hk0 hv0 hv1
  go_loopw [4] (fun t W => ∃ (k mm : Nat) (x : RExt w b) (l : List BodyR) (v : Value), t = .int .i64 k ∧ W = x.now ∧ SkyBox x.now w.heap.size v (.int .i64 0) (.slice none 0 0) (.slice none 0 0) ∧ x.now.ownsRow (w.heap.size + 1 + 1) 52 3 v l.length (brows l) ∧ RingM x.now b mm ∧ Hid (TrOwn x.now (w.heap.size + 1 + 1) l ∧ l.length + k ≤ 3 ∧ 1 ≤ l.length + k ∧ mm + 11 * k ≤ m + 34 ∧ bodiesOk l)) (fun t _ => (intOf t).toNat)
  case atStart => exact ⟨k0, m + 1, ⟨W0, hBX⟩, [], _, rfl, rfl, hbox, World.ownsRow_nil _ _ _ _, rgx1, Go.Lib.hid ⟨fun _ h => by simp at h, by simp; omega, by simp; omega, by omega, rfl, fun _ h => by simp at h⟩⟩
  case round =>
    obtain ⟨k, mm, x, l, v, rfl, rfl, hbx, hown, hrg, hi⟩ := hrel
    have xs := x.size
    have hmm : mm + 11 * k ≤ m + 34 := hi.out.2.2.2.1
    have hls := hbx.lt
    have hb1 : b < x.now.heap.size := by omega
    by_cases hk : k = 0
    · subst hk
      obtain ⟨p1, p2, p3, p4, p5⟩ := hi.out
      obtain ⟨bp, bc, rfl⟩ := owns_form hown
      have hb2 : b < w.heap.size + 1 + 1 := by omega
      have xc0 := hbx.c0
      have xc1 := hbx.c1
      have xf1 := hbx.f1
      have hRw := Go.Lib.hid (Rows1.mk hown p1)
      have hbx0 := Go.Lib.hid hbx
      have hbod := Go.Lib.hid (And.intro p5 (show 1 ≤ l.length ∧ l.length ≤ 3 by omega))
      have hln : 0 < (l.length : Int) := by omega
      have hln3 : (l.length : Int) ≤ 3 := by omega
      have hmm34 : mm ≤ m + 34 := by omega
      clear hbx hown hi p1 p2 p3 p4 p5
      go_wp2_with (first | ((first | with_reducible refine wrx2 ?_ | with_reducible refine wrx ?_); (repeat (first | go_big_quiet_step ((first | fail)) | quiet_step ((first | fail)))); refine wpQuiet_nil ?_; rintro _ ⟨yr, rfl⟩; have syr := Ext.size yr; (repeat (first | rw [World.size_alloc] at syr | rw [World.size_setCell] at syr | rw [World.size_drew] at syr)); have : b < yr.now.heap.size := (by omega); have : b ≤ yr.now.heap.size := (by omega); have : b < yr.now.heap.size + 1 + 1 := (by omega); have : w.heap.size < yr.now.heap.size := (by omega); have : w.heap.size ≤ yr.now.heap.size := (by omega); have : w.heap.size < yr.now.heap.size + 1 + 1 := (by omega); have : w.heap.size + 1 < yr.now.heap.size := (by omega); have : w.heap.size + 1 ≤ yr.now.heap.size := (by omega); have : w.heap.size + 1 < yr.now.heap.size + 1 + 1 := (by omega)) | (go_at_call 59; (with_reducible refine Calls.mono (Next_y l.length b mm _ (by omega) (by omega) (by omega) ?_) ?_); (focus ((repeat (first | (with_reducible assumption) | (with_reducible refine RingM.alloc ?_ _) | (with_reducible refine RingM.drew ?_) | (with_reducible refine RingM.ext ?_ _) | (with_reducible refine RingM.set ?_ _ (by omega)))); done)); (rintro _ _ ⟨yx1, vx1, rfl, hvx1, rfl, rgx1⟩); have syx1 := RExt.size yx1; (repeat (first | rw [World.size_alloc] at syx1 | rw [World.size_setCell] at syx1 | rw [World.size_drew] at syx1)); have : b < yx1.now.heap.size := (by omega); have : b ≤ yx1.now.heap.size := (by omega); have : b < yx1.now.heap.size + 1 + 1 := (by omega); have : w.heap.size < yx1.now.heap.size := (by omega); have : w.heap.size ≤ yx1.now.heap.size := (by omega); have : w.heap.size < yx1.now.heap.size + 1 + 1 := (by omega); have : w.heap.size + 1 < yx1.now.heap.size := (by omega); have : w.heap.size + 1 ≤ yx1.now.heap.size := (by omega); have : w.heap.size + 1 < yx1.now.heap.size + 1 + 1 := (by omega)) | (go_at_call 59; (with_reducible refine Calls.mono (Next_y 3 b (mm + 1) _ (by omega) (by omega) (by omega) ?_) ?_); (focus ((repeat (first | (with_reducible assumption) | (with_reducible refine RingM.alloc ?_ _) | (with_reducible refine RingM.drew ?_) | (with_reducible refine RingM.ext ?_ _) | (with_reducible refine RingM.set ?_ _ (by omega)))); done)); (rintro _ _ ⟨yx2, vx2, rfl, hvx2, rfl, rgx2⟩); have syx2 := RExt.size yx2; (repeat (first | rw [World.size_alloc] at syx2 | rw [World.size_setCell] at syx2 | rw [World.size_drew] at syx2)); have : b < yx2.now.heap.size := (by omega); have : b ≤ yx2.now.heap.size := (by omega); have : b < yx2.now.heap.size + 1 + 1 := (by omega); have : w.heap.size < yx2.now.heap.size := (by omega); have : w.heap.size ≤ yx2.now.heap.size := (by omega); have : w.heap.size < yx2.now.heap.size + 1 + 1 := (by omega); have : w.heap.size + 1 < yx2.now.heap.size := (by omega); have : w.heap.size + 1 ≤ yx2.now.heap.size := (by omega); have : w.heap.size + 1 < yx2.now.heap.size + 1 + 1 := (by omega)))
      obtain ⟨hh0, hh1⟩ := hvx1
      obtain ⟨hv0, hv1⟩ := hvx2
      have hbx2 := ((hbx0.out.rext hl yx1).set1 (.int .i64 vx1)).rext hl yx2
      have hRw2 := ((hRw.out.belowX hb2 yx1.grew).put (show w.heap.size + 1 < w.heap.size + 1 + 1 by omega) 1 (.int .i64 vx1)).belowX hb2 yx2.grew
      have hBX2 : BelowX b w.heap.size w yx2.now := ((x.grew.trans (yx1.grew.mono (by omega))).setCell (by simp) _).trans (yx2.grew.mono (by simp; omega))
      generalize yx2.now = W2 at *
      clear yx2
      generalize yx1.now = Wz at *
      clear yx1 rgx1 hbx0 hRw
      clear xc0 xc1 xf1
      generalize x.now = Wx at *
      clear x
      generalize vx1 = home at *
      obtain ⟨k0, hk0⟩ := Int.eq_ofNat_of_zero_le (show 0 ≤ 1 + vx2 by omega)
      rw [hk0]
      have hkk : 1 ≤ k0 ∧ k0 ≤ 3 := by omega
      clear hk0 hv0 hv1
      go_loopw [7, 8] (fun t7 t8 W => ∃ (k mm : Nat) (x : RExt w b) (st : List StR) (v : Value), t7 = .int .i64 (lastSt 0 st) ∧ t8 = .int .i64 k ∧ W = x.now ∧ SkyBox x.now w.heap.size (.slice bp l.length bc) (.int .i64 home) v (.slice none 0 0) ∧ RingM x.now b mm ∧ Hid (Rows2 x.now (w.heap.size + 1 + 1) (.slice bp l.length bc) l v st ∧ st.length + k ≤ 3 ∧ 1 ≤ st.length + k ∧ mm + 3 * k ≤ m + 48 ∧ stsOk st)) (fun _ t _ => (intOf t).toNat)
      case atStart => exact ⟨k0, mm + 1 + 1, ⟨W2, hBX2⟩, [], _, rfl, rfl, rfl, hbx2, rgx2, Go.Lib.hid ⟨⟨hRw2, World.ownsRow_nil _ _ _ _⟩, by simp; omega, by simp; omega, by omega, rfl, by decide, by decide, fun _ h => by simp at h⟩⟩
      case round =>
        clear hbx2 hRw2 hBX2
        obtain ⟨k, mm, x, st, v, rfl, rfl, rfl, hbx, hrg, hi⟩ := hrel
        have xs := x.size
        have hmm : mm + 3 * k ≤ m + 48 := hi.out.2.2.2.1
        have hls := hbx.lt
        have hb1 : b < x.now.heap.size := by omega
        by_cases hk : k = 0
        · subst hk
          obtain ⟨sp, sc, rfl⟩ := owns_form hi.out.1.s
          obtain ⟨p2, p3, p4, p5⟩ := hi.out.2
          have hR2 := Go.Lib.hid hi.out.1
          have hsts := Go.Lib.hid (And.intro p5 (show 1 ≤ st.length ∧ st.length ≤ 3 by omega))
          have hbx0 := Go.Lib.hid hbx
          have hmm48 : mm ≤ m + 48 := by omega
          clear hbx hi p2 p3 p4 p5
          generalize lastSt 0 st = lastid at *
          go_wp2_with (first | ((first | with_reducible refine wrx2 ?_ | with_reducible refine wrx ?_); (repeat (first | go_big_quiet_step ((first | fail)) | quiet_step ((first | fail)))); refine wpQuiet_nil ?_; rintro _ ⟨yr, rfl⟩; have syr := Ext.size yr; (repeat (first | rw [World.size_alloc] at syr | rw [World.size_setCell] at syr | rw [World.size_drew] at syr)); have : b < yr.now.heap.size := (by omega); have : b ≤ yr.now.heap.size := (by omega); have : b < yr.now.heap.size + 1 + 1 := (by omega); have : w.heap.size < yr.now.heap.size := (by omega); have : w.heap.size ≤ yr.now.heap.size := (by omega); have : w.heap.size < yr.now.heap.size + 1 + 1 := (by omega); have : w.heap.size + 1 < yr.now.heap.size := (by omega); have : w.heap.size + 1 ≤ yr.now.heap.size := (by omega); have : w.heap.size + 1 < yr.now.heap.size + 1 + 1 := (by omega)) | (go_at_call 59; (with_reducible refine Calls.mono (Next_y 3 b mm _ (by omega) (by omega) (by omega) ?_) ?_); (focus ((repeat (first | (with_reducible assumption) | (with_reducible refine RingM.alloc ?_ _) | (with_reducible refine RingM.drew ?_) | (with_reducible refine RingM.ext ?_ _) | (with_reducible refine RingM.set ?_ _ (by omega)))); done)); (rintro _ _ ⟨yx1, vx1, rfl, hvx1, rfl, rgx1⟩); have syx1 := RExt.size yx1; (repeat (first | rw [World.size_alloc] at syx1 | rw [World.size_setCell] at syx1 | rw [World.size_drew] at syx1)); have : b < yx1.now.heap.size := (by omega); have : b ≤ yx1.now.heap.size := (by omega); have : b < yx1.now.heap.size + 1 + 1 := (by omega); have : w.heap.size < yx1.now.heap.size := (by omega); have : w.heap.size ≤ yx1.now.heap.size := (by omega); have : w.heap.size < yx1.now.heap.size + 1 + 1 := (by omega); have : w.heap.size + 1 < yx1.now.heap.size := (by omega); have : w.heap.size + 1 ≤ yx1.now.heap.size := (by omega); have : w.heap.size + 1 < yx1.now.heap.size + 1 + 1 := (by omega)))
          have hbx2 := hbx0.out.rext hl yx1
          have hRw2 := hR2.out.belowX hb2 yx1.grew
          have hBX2 : BelowX b w.heap.size w yx1.now := x.grew.trans (yx1.grew.mono (by omega))
          obtain ⟨hv0, hv1⟩ := hvx1
          generalize yx1.now = W5 at *
          clear yx1 hbx0 hR2
          generalize x.now = Wx' at *
          clear x
          obtain ⟨k0, hk0⟩ := Int.eq_ofNat_of_zero_le (show 0 ≤ 1 + vx1 by omega)
          rw [hk0]
          have hkk : 1 ≤ k0 ∧ k0 ≤ 3 := by omega
          clear hk0 hv0 hv1
          go_loopw [9, 10] (fun t9 t10 W => ∃ (k mm : Nat) (x : RExt w b) (ct : List CatR) (v : Value), t9 = .int .i64 (lastCt 0 ct) ∧ t10 = .int .i64 k ∧ W = x.now ∧ SkyBox x.now w.heap.size (.slice bp l.length bc) (.int .i64 home) (.slice sp st.length sc) v ∧ RingM x.now b mm ∧ Hid (Rows2 x.now (w.heap.size + 1 + 1) (.slice bp l.length bc) l (.slice sp st.length sc) st ∧ x.now.ownsRow (w.heap.size + 1 + 1) 109 3 v ct.length (crows ct) ∧ ct.length + k ≤ 3 ∧ 1 ≤ ct.length + k ∧ mm + 4 * k ≤ m + 64 ∧ ctsOk ct)) (fun _ t _ => (intOf t).toNat)
          case atStart => exact ⟨k0, mm + 1, ⟨W5, hBX2⟩, [], _, rfl, rfl, rfl, hbx2, rgx1, Go.Lib.hid ⟨hRw2, World.ownsRow_nil _ _ _ _, by simp; omega, by simp; omega, by omega, rfl, by decide, by decide, fun _ h => by simp at h⟩⟩
          case round =>
            clear hbx2 hRw2 hBX2 rgx1
            obtain ⟨k, mm, x, ct, v, rfl, rfl, rfl, hbx, hrg, hi⟩ := hrel
            have xs := x.size
            have hmm : mm + 4 * k ≤ m + 64 := hi.out.2.2.2.2.1
            have hls := hbx.lt
            have hb1 : b < x.now.heap.size := by omega
            by_cases hk : k = 0
            · subst hk
              obtain ⟨cp, cc, rfl⟩ := owns_form hi.out.2.1
              have hall := Go.Lib.hid hi.out
              obtain ⟨z0, z1, z2, z3, z4, z5, z6, z7, z8, z9, z10, z11, z12, z13, z14, z15, zl⟩ := hbx
              clear hi
              generalize lastCt 0 ct = lastcv at *
              go_wp2_with (first | ((first | with_reducible refine wrx2 ?_ | with_reducible refine wrx ?_); (repeat (first | go_big_quiet_step ((first | fail)) | quiet_step ((first | fail)))); refine wpQuiet_nil ?_; rintro _ ⟨yr, rfl⟩; have syr := Ext.size yr; (repeat (first | rw [World.size_alloc] at syr | rw [World.size_setCell] at syr | rw [World.size_drew] at syr)); have : w.heap.size < yr.now.heap.size := (by omega); have : w.heap.size ≤ yr.now.heap.size := (by omega); have : w.heap.size < yr.now.heap.size + 1 + 1 := (by omega); have : w.heap.size + 1 < yr.now.heap.size := (by omega); have : w.heap.size + 1 ≤ yr.now.heap.size := (by omega); have : w.heap.size + 1 < yr.now.heap.size + 1 + 1 := (by omega)))
              obtain ⟨p1, p2, p3, p4, p5, p6⟩ := hall.out
              have hF : BelowX b w.heap.size w ((((x.now.setCell ⟨w.heap.size, 0, none⟩ (.slice bp l.length bc)).setCell ⟨w.heap.size, 1, none⟩ (.int .i64 home)).setCell ⟨w.heap.size, 2, none⟩ (.slice sp st.length sc)).setCell ⟨w.heap.size, 3, none⟩ (.slice cp ct.length cc)) := (((x.grew.setCell (Nat.le_refl _) _).setCell (Nat.le_refl _) _).setCell (Nat.le_refl _) _).setCell (Nat.le_refl _) _
              have hR := (((p1.put (show w.heap.size < w.heap.size + 1 + 1 by omega) 0 (.slice bp l.length bc)).put (show w.heap.size < w.heap.size + 1 + 1 by omega) 1 (.int .i64 home)).put (show w.heap.size < w.heap.size + 1 + 1 by omega) 2 (.slice sp st.length sc)).put (show w.heap.size < w.heap.size + 1 + 1 by omega) 3 (.slice cp ct.length cc)
              have hC := owns_put (owns_put (owns_put (owns_put p2 (show w.heap.size < w.heap.size + 1 + 1 by omega) 0 (.slice bp l.length bc)) (show w.heap.size < w.heap.size + 1 + 1 by omega) 1 (.int .i64 home)) (show w.heap.size < w.heap.size + 1 + 1 by omega) 2 (.slice sp st.length sc)) (show w.heap.size < w.heap.size + 1 + 1 by omega) 3 (.slice cp ct.length cc)
              have hG := (((hrg.set (o := 0) (.slice bp l.length bc) hl).set (o := 1) (.int .i64 home) hl).set (o := 2) (.slice sp st.length sc) hl).set (o := 3) (.slice cp ct.length cc) hl
              refine bodyPost_ret (v := (⟨bp, bc, l, home, sp, sc, st, cp, cc, ct⟩ : SkyR).val) (by unfold SkyR.val; simp (maxDischargeDepth := 9) [results, Try.results28, go_sem, *]) rfl ?_
              generalize ((((x.now.setCell ⟨w.heap.size, 0, none⟩ (.slice bp l.length bc)).setCell ⟨w.heap.size, 1, none⟩ (.int .i64 home)).setCell ⟨w.heap.size, 2, none⟩ (.slice sp st.length sc)).setCell ⟨w.heap.size, 3, none⟩ (.slice cp ct.length cc)) = WF at *
              exact ⟨⟨WF, hF⟩, _, rfl, made_small hbod.out.1 hbod.out.2 hh0 hh1 hsts.out.1 hsts.out.2 p6 (by omega), rfl, made_at hR hC (by omega), owns_cap hR.r.b, hG.mono (by omega)⟩
            · obtain ⟨k, rfl⟩ := Nat.exists_eq_succ_of_ne_zero hk
              simp only [Nat.succ_eq_add_one] at *
              have hkp : (0 : Int) < ((k + 1 : Nat) : Int) := by omega
              obtain ⟨cp, cc, rfl⟩ := owns_form hi.out.2.1
              have hct3 : ct.length ≤ 2 := by have := hi.out.2.2.1; omega
              have hlb : 0 ≤ lastCt 0 ct ∧ lastCt 0 ct ≤ 9 := by have := hi.out.2.2.2.2.2; unfold ctsOk at this; omega
              obtain ⟨hlb0, hlb1⟩ := hlb
              obtain ⟨la, hla⟩ : ∃ a, lastCt 0 ct = a := ⟨_, rfl⟩
              rw [hla] at hlb0 hlb1 ⊢
              have hla := Go.Lib.hid hla
              have hbx0 := Go.Lib.hid hbx
              clear hbx hk
              go_wp2_with (first | ((first | with_reducible refine wrx2 ?_ | with_reducible refine wrx ?_); (repeat (first | go_big_quiet_step ((first | fail)) | quiet_step ((first | fail)))); refine wpQuiet_nil ?_; rintro _ ⟨yr, rfl⟩; have syr := Ext.size yr; (repeat (first | rw [World.size_alloc] at syr | rw [World.size_setCell] at syr | rw [World.size_drew] at syr)); have : b < yr.now.heap.size := (by omega); have : b ≤ yr.now.heap.size := (by omega); have : b < yr.now.heap.size + 1 + 1 := (by omega); have : w.heap.size < yr.now.heap.size := (by omega); have : w.heap.size ≤ yr.now.heap.size := (by omega); have : w.heap.size < yr.now.heap.size + 1 + 1 := (by omega); have : w.heap.size + 1 < yr.now.heap.size := (by omega); have : w.heap.size + 1 ≤ yr.now.heap.size := (by omega); have : w.heap.size + 1 < yr.now.heap.size + 1 + 1 := (by omega)) | (go_at_call 59; (with_reducible refine Calls.mono (Next_y 3 b mm _ (by omega) (by omega) (by omega) ?_) ?_); (focus ((repeat (first | (with_reducible assumption) | (with_reducible refine RingM.alloc ?_ _) | (with_reducible refine RingM.drew ?_) | (with_reducible refine RingM.ext ?_ _) | (with_reducible refine RingM.set ?_ _ (by omega)))); done)); (rintro _ _ ⟨yx1, vx1, rfl, hvx1, rfl, rgx1⟩); have syx1 := RExt.size yx1; (repeat (first | rw [World.size_alloc] at syx1 | rw [World.size_setCell] at syx1 | rw [World.size_drew] at syx1)); have : b < yx1.now.heap.size := (by omega); have : b ≤ yx1.now.heap.size := (by omega); have : b < yx1.now.heap.size + 1 + 1 := (by omega); have : w.heap.size < yx1.now.heap.size := (by omega); have : w.heap.size ≤ yx1.now.heap.size := (by omega); have : w.heap.size < yx1.now.heap.size + 1 + 1 := (by omega); have : w.heap.size + 1 < yx1.now.heap.size := (by omega); have : w.heap.size + 1 ≤ yx1.now.heap.size := (by omega); have : w.heap.size + 1 < yx1.now.heap.size + 1 + 1 := (by omega)) | (go_at_call 59; (with_reducible refine Calls.mono (Next_y 20001 b (mm + 1) _ (by omega) (by omega) (by omega) ?_) ?_); (focus ((repeat (first | (with_reducible assumption) | (with_reducible refine RingM.alloc ?_ _) | (with_reducible refine RingM.drew ?_) | (with_reducible refine RingM.ext ?_ _) | (with_reducible refine RingM.set ?_ _ (by omega)))); done)); (rintro _ _ ⟨yx2, vx2, rfl, hvx2, rfl, rgx2⟩); have syx2 := RExt.size yx2; (repeat (first | rw [World.size_alloc] at syx2 | rw [World.size_setCell] at syx2 | rw [World.size_drew] at syx2)); have : b < yx2.now.heap.size := (by omega); have : b ≤ yx2.now.heap.size := (by omega); have : b < yx2.now.heap.size + 1 + 1 := (by omega); have : w.heap.size < yx2.now.heap.size := (by omega); have : w.heap.size ≤ yx2.now.heap.size := (by omega); have : w.heap.size < yx2.now.heap.size + 1 + 1 := (by omega); have : w.heap.size + 1 < yx2.now.heap.size := (by omega); have : w.heap.size + 1 ≤ yx2.now.heap.size := (by omega); have : w.heap.size + 1 < yx2.now.heap.size + 1 + 1 := (by omega)))
              have hbn := (hbx0.out.rext hl yx1).rext hl yx2
              have hRn := Go.Lib.hid ((hi.out.1.belowX hb2 yx1.grew).belowX hb2 yx2.grew)
              have hon := Go.Lib.hid (owns_belowX (owns_belowX hi.out.2.1 hb2 yx1.grew) hb2 yx2.grew)
              have hBn : BelowX b w.heap.size w yx2.now := (x.grew.trans (yx1.grew.mono (by omega))).trans (yx2.grew.mono (by omega))
              have n2 := hbn.c3
              have nf2 := hbn.f3
              obtain ⟨hv0, hv1⟩ := hvx1
              obtain ⟨hu0, hu1⟩ := hvx2
              generalize yx2.now = Wn at *
              clear yx2
              generalize yx1.now = Wz at *
              clear yx1
              have hls2 := hbn.lt
              have hbn := Go.Lib.hid hbn
              clear hbx0
              obtain ⟨i0, hi0, hz0, hz1, hz2⟩ := info_parts cat_info
              go_wp2_with fail
              go_region_law (first
                  | (go_simp; go_at_call 59; (with_reducible refine Calls.mono (Next_y 3 b (mm + 1 + 1) _ (by omega) (by omega) (by omega) ?_) ?_); (focus ((repeat (first | (with_reducible assumption) | (with_reducible refine RingM.alloc ?_ _) | (with_reducible refine RingM.drew ?_))); done)); (rintro _ _ ⟨ya, va, rfl, ⟨hva0, hva1⟩, rfl, rga⟩); have sya := RExt.size ya; (repeat (first | rw [World.size_alloc] at sya | rw [World.size_drew] at sya)); have : w.heap.size + 1 < ya.now.heap.size := (by omega); have hba := SkyBox.rext (SkyBox.drew hbn.out) hl ya; have a2 := hba.c3; have hba := Go.Lib.hid hba; have hRa := Go.Lib.hid (Rows2.belowX (Rows2.drew hRn.out) hb2 ya.grew); have hoa := Go.Lib.hid (owns_belowX (World.ownsRow.drew hon.out) hb2 ya.grew); have hyA : BelowX b w.heap.size w ya.now := (hBn.drew).trans (ya.grew.mono (by (try simp only [World.size_drew]); omega)))
                  | (go_simp; go_at_call 59; have := hyA; (with_reducible refine Calls.mono (Next_y 5000 b (mm + 1 + 1 + 1) _ (by omega) (by omega) (by omega) ?_) ?_); (focus ((repeat (first | (with_reducible assumption) | (with_reducible refine RingM.alloc ?_ _) | (with_reducible refine RingM.drew ?_))); done)); (rintro _ _ ⟨yb, vb, rfl, ⟨hvb0, hvb1⟩, rfl, rgb⟩); have syb := RExt.size yb; (repeat (first | rw [World.size_alloc] at syb | rw [World.size_drew] at syb)); have : w.heap.size + 1 < yb.now.heap.size := (by omega); have hpr0 : 0 ≤ va * vb := Int.mul_nonneg hva0 hvb0; have hpr1 : va * vb ≤ 9998 := (by have h9 := Int.mul_le_mul (show va ≤ 2 by omega) (show vb ≤ 4999 by omega) hvb0 (by omega); omega); have hby := SkyBox.rext hba.out hl yb; have y2 := hby.c3; have yf2 := hby.f3; have hby := Go.Lib.hid hby; have hRy := Go.Lib.hid (Rows2.belowX hRa.out hb2 yb.grew); have hoy := Go.Lib.hid (owns_belowX hoa.out hb2 yb.grew); have hyB : BelowX b w.heap.size w yb.now := hyA.trans (yb.grew.mono (by omega)); have hw2 : IntKind.i64.wrap (vx2 - 10000 + va * vb) = vx2 - 10000 + va * vb := IntWalk.i64_in _ (by omega); have hw1 : IntKind.i64.wrap (va * vb) = va * vb := IntWalk.i64_in _ (by omega))
                  | (clear hw1 hw2; refine Eq.mpr (if_pos rfl) ?_; (refine wp_append_own _ _ _ 63 rfl (w.heap.size + 1 + 1) 109 i0 _ 3 24 Try.underlying63 hi0 hz0 hz1 hz2 rfl (by decide) _ ct.length (crows ct) rfl (hoy.out.alloc _) _ 1 1 _ rfl rfl (cells3_new _ _ _ _ _) (by intro u hu; simp only [List.mem_cons, List.not_mem_nil, or_false] at hu; rcases hu with rfl | rfl | rfl <;> rfl) (by unfold maxLen; omega) (by omega) (by simp only [World.size_alloc]; omega) ?_); intro v' W4 hown' hgrow _; obtain ⟨np, nc, rfl⟩ := owns_form hown'; have hozA := hoy.out.alloc (.cells #[.int .i64 (la + 1 + vx1), .int .i64 (vx2 - 10000), .int .i64 (vx2 - 10000 + va * vb)] 109); have hbg := SkyBox.grown (hby.out.alloc (.cells #[.int .i64 (la + 1 + vx1), .int .i64 (vx2 - 10000), .int .i64 (vx2 - 10000 + va * vb)] 109)) hozA (by omega) hgrow; have hkf := hbg.f3; have hkc := hbg.c3; have hbg := Go.Lib.hid hbg; have hrw4 := Go.Lib.hid (Rows2.grown (hRy.out.alloc (.cells #[.int .i64 (la + 1 + vx1), .int .i64 (vx2 - 10000), .int .i64 (vx2 - 10000 + va * vb)] 109)) hozA (by decide) (by decide) (by decide) hgrow); have hrg2 := RingM.grown (rgb.alloc (.cells #[.int .i64 (la + 1 + vx1), .int .i64 (vx2 - 10000), .int .i64 (vx2 - 10000 + va * vb)] 109)) hozA (by omega) hgrow; have hkB : BelowX b w.heap.size w W4 := belowX_grown (hyB.alloc (by omega) _) hozA (by omega) (by simp only [World.size_alloc]; omega) hgrow; have hown' := Go.Lib.hid hown'; clear hozA hgrow))
              all_goals
                have hkown : W4.ownsRow (w.heap.size + 1 + 1) 109 3 (.slice np (ct.length + 1) nc) (ct ++ [(⟨la + 1 + vx1, vx2 - 10000, vx2 - 10000 + va * vb⟩ : CatR)]).length (crows (ct ++ [⟨la + 1 + vx1, vx2 - 10000, vx2 - 10000 + va * vb⟩])) := by
                  rw [crows_add, List.length_append]; exact hown'.out
                have hkey : Hid ((ct ++ [(⟨la + 1 + vx1, vx2 - 10000, vx2 - 10000 + va * vb⟩ : CatR)]).length + k ≤ 3 ∧ 1 ≤ (ct ++ [(⟨la + 1 + vx1, vx2 - 10000, vx2 - 10000 + va * vb⟩ : CatR)]).length + k ∧ mm + 1 + 1 + 1 + 1 + 4 * k ≤ m + 64 ∧ ctsOk (ct ++ [⟨la + 1 + vx1, vx2 - 10000, vx2 - 10000 + va * vb⟩]) ∧ lastCt 0 (ct ++ [⟨la + 1 + vx1, vx2 - 10000, vx2 - 10000 + va * vb⟩]) = la + 1 + vx1) :=
                  Go.Lib.hid ⟨by have := hi.out.2.2.1; simp; omega, by simp; omega, by omega, hi.out.2.2.2.2.2.add hct3 (by rw [hla.out]; simp only; omega) (by rw [hla.out]; simp only; omega) (by simp only; omega), lastCt_snoc _ _ _⟩
                have hkown := Go.Lib.hid hkown
                clear hown' hi hyB hyA y2 yf2 a2 rga rgb n2 nf2 hla hbn hby hba hRn hRy hRa hoa hoy hon hBn
                go_wp2_with (first | ((first | with_reducible refine wrx2 ?_ | with_reducible refine wrx ?_); (repeat (first | go_big_quiet_step ((first | fail)) | quiet_step ((first | fail)))); refine wpQuiet_nil ?_; rintro _ ⟨yr, rfl⟩; have syr := Ext.size yr; (repeat (first | rw [World.size_alloc] at syr | rw [World.size_setCell] at syr | rw [World.size_drew] at syr))))
                refine ⟨⟨k, mm + 1 + 1 + 1 + 1, ⟨W4.setCell ⟨w.heap.size + 1, 3, none⟩ (.slice np (ct.length + 1) nc), hkB.setCell (by simp) _⟩, ct ++ [⟨la + 1 + vx1, vx2 - 10000, vx2 - 10000 + va * vb⟩], .slice np (ct.length + 1) nc, by rw [hkey.out.2.2.2.2], by simp, rfl, hbg.out.set3 _, hrg2.set _ (by omega), Go.Lib.hid ⟨hrw4.out.put (by omega) _ _, owns_put hkown.out (by omega) _ _, hkey.out.1, hkey.out.2.1, hkey.out.2.2.1, hkey.out.2.2.2.1⟩⟩, by simp [intOf]⟩
        · obtain ⟨k, rfl⟩ := Nat.exists_eq_succ_of_ne_zero hk
          simp only [Nat.succ_eq_add_one] at *
          have hkp : (0 : Int) < ((k + 1 : Nat) : Int) := by omega
          obtain ⟨sp, sc, rfl⟩ := owns_form hi.out.1.s
          have hst3 : st.length ≤ 2 := by have := hi.out.2.1; omega
          have hlb : 0 ≤ lastSt 0 st ∧ lastSt 0 st ≤ 9 := by have := hi.out.2.2.2.2; unfold stsOk at this; omega
          obtain ⟨hlb0, hlb1⟩ := hlb
          obtain ⟨la, hla⟩ : ∃ a, lastSt 0 st = a := ⟨_, rfl⟩
          rw [hla] at hlb0 hlb1 ⊢
          have hla := Go.Lib.hid hla
          have hbx0 := Go.Lib.hid hbx
          clear hbx hk
          go_wp2_with (first | ((first | with_reducible refine wrx2 ?_ | with_reducible refine wrx ?_); (repeat (first | go_big_quiet_step ((first | fail)) | quiet_step ((first | fail)))); refine wpQuiet_nil ?_; rintro _ ⟨yr, rfl⟩; have syr := Ext.size yr; (repeat (first | rw [World.size_alloc] at syr | rw [World.size_setCell] at syr | rw [World.size_drew] at syr)); have : b < yr.now.heap.size := (by omega); have : b ≤ yr.now.heap.size := (by omega); have : b < yr.now.heap.size + 1 + 1 := (by omega); have : w.heap.size < yr.now.heap.size := (by omega); have : w.heap.size ≤ yr.now.heap.size := (by omega); have : w.heap.size < yr.now.heap.size + 1 + 1 := (by omega); have : w.heap.size + 1 < yr.now.heap.size := (by omega); have : w.heap.size + 1 ≤ yr.now.heap.size := (by omega); have : w.heap.size + 1 < yr.now.heap.size + 1 + 1 := (by omega)) | (go_at_call 59; (with_reducible refine Calls.mono (Next_y 3 b mm _ (by omega) (by omega) (by omega) ?_) ?_); (focus ((repeat (first | (with_reducible assumption) | (with_reducible refine RingM.alloc ?_ _) | (with_reducible refine RingM.drew ?_) | (with_reducible refine RingM.ext ?_ _) | (with_reducible refine RingM.set ?_ _ (by omega)))); done)); (rintro _ _ ⟨yx1, vx1, rfl, hvx1, rfl, rgx1⟩); have syx1 := RExt.size yx1; (repeat (first | rw [World.size_alloc] at syx1 | rw [World.size_setCell] at syx1 | rw [World.size_drew] at syx1)); have : b < yx1.now.heap.size := (by omega); have : b ≤ yx1.now.heap.size := (by omega); have : b < yx1.now.heap.size + 1 + 1 := (by omega); have : w.heap.size < yx1.now.heap.size := (by omega); have : w.heap.size ≤ yx1.now.heap.size := (by omega); have : w.heap.size < yx1.now.heap.size + 1 + 1 := (by omega); have : w.heap.size + 1 < yx1.now.heap.size := (by omega); have : w.heap.size + 1 ≤ yx1.now.heap.size := (by omega); have : w.heap.size + 1 < yx1.now.heap.size + 1 + 1 := (by omega)))
          have hbn := hbx0.out.rext hl yx1
          have hRn := Go.Lib.hid (hi.out.1.belowX hb2 yx1.grew)
          have hBn : BelowX b w.heap.size w yx1.now := x.grew.trans (yx1.grew.mono (by omega))
          have n2 := hbn.c2
          have nf2 := hbn.f2
          obtain ⟨hv0, hv1⟩ := hvx1
          generalize yx1.now = Wn at *
          clear yx1
          have hls2 := hbn.lt
          have hbn := Go.Lib.hid hbn
          clear hbx0
          obtain ⟨i0, hi0, hz0, hz1, hz2⟩ := info_parts st_info
          go_wp2_with fail
          go_region_law (first
              | (go_simp; go_at_call 24; (with_reducible refine Calls.mono (PointOf_y 40 b (mm + 1) _ (by omega) (by omega) (by omega) ?_) ?_); (focus ((repeat (first | (with_reducible assumption) | (with_reducible refine RingM.alloc ?_ _) | (with_reducible refine RingM.drew ?_))); done)); (rintro _ _ ⟨ya, pv, rfl, hpv, rfl, rga⟩); have sya := RExt.size ya; (repeat (first | rw [World.size_alloc] at sya | rw [World.size_drew] at sya)); have : w.heap.size + 1 < ya.now.heap.size := (by omega); have hby := SkyBox.rext (SkyBox.drew hbn.out) hl ya; have y2 := hby.c2; have yf2 := hby.f2; have hby := Go.Lib.hid hby; have hRy := Go.Lib.hid (Rows2.belowX (Rows2.drew hRn.out) hb2 ya.grew); have hyB : BelowX b w.heap.size w ya.now := (hBn.drew).trans (ya.grew.mono (by (try simp only [World.size_drew]); omega)))
              | (refine Eq.mpr (if_pos rfl) ?_; (refine wp_append_own _ _ _ 62 rfl (w.heap.size + 1 + 1) 107 i0 _ 3 24 Try.underlying62 hi0 hz0 hz1 hz2 rfl (by decide) _ st.length (srows st) rfl (hRy.out.s.alloc _) _ 1 1 _ rfl rfl (cells3_new _ _ _ _ _) (by intro u hu; simp only [List.mem_cons, List.not_mem_nil, or_false] at hu; rcases hu with rfl | rfl | rfl <;> rfl) (by unfold maxLen; omega) (by omega) (by simp only [World.size_alloc]; omega) ?_); intro v' W4 hown' hgrow _; obtain ⟨np, nc, rfl⟩ := owns_form hown'; have hozA := hRy.out.s.alloc (.cells #[.int .i64 (la + 1 + vx1), .int .i64 pv.x, .int .i64 pv.y] 107); have hbg := SkyBox.grown (hby.out.alloc (.cells #[.int .i64 (la + 1 + vx1), .int .i64 pv.x, .int .i64 pv.y] 107)) hozA (by omega) hgrow; have hkf := hbg.f2; have hkc := hbg.c2; have hbg := Go.Lib.hid hbg; have hrw4 := Go.Lib.hid (Rows1.grown (hRy.out.r.alloc (.cells #[.int .i64 (la + 1 + vx1), .int .i64 pv.x, .int .i64 pv.y] 107)) hozA (by decide) (by decide) hgrow); have hrg2 := RingM.grown (rga.alloc (.cells #[.int .i64 (la + 1 + vx1), .int .i64 pv.x, .int .i64 pv.y] 107)) hozA (by omega) hgrow; have hkB : BelowX b w.heap.size w W4 := belowX_grown (hyB.alloc (by omega) _) hozA (by omega) (by simp only [World.size_alloc]; omega) hgrow; have hown' := Go.Lib.hid hown'; clear hozA hgrow))
          all_goals
            have hkown : W4.ownsRow (w.heap.size + 1 + 1) 107 3 (.slice np (st.length + 1) nc) (st ++ [(⟨la + 1 + vx1, pv⟩ : StR)]).length (srows (st ++ [⟨la + 1 + vx1, pv⟩])) := by
              rw [srows_add, List.length_append]; exact hown'.out
            have hkey : Hid ((st ++ [(⟨la + 1 + vx1, pv⟩ : StR)]).length + k ≤ 3 ∧ 1 ≤ (st ++ [(⟨la + 1 + vx1, pv⟩ : StR)]).length + k ∧ mm + 1 + 2 + 3 * k ≤ m + 48 ∧ stsOk (st ++ [⟨la + 1 + vx1, pv⟩]) ∧ lastSt 0 (st ++ [⟨la + 1 + vx1, pv⟩]) = la + 1 + vx1) :=
              Go.Lib.hid ⟨by have := hi.out.2.1; simp; omega, by simp; omega, by omega, hi.out.2.2.2.2.add hst3 (by rw [hla.out]; simp only; omega) (by rw [hla.out]; simp only; omega) hpv, lastSt_snoc _ _ _⟩
            have hkown := Go.Lib.hid hkown
            clear hown' hi hyB y2 yf2 rga n2 nf2 hpv hla hbn hby hRn hRy hBn
            go_wp2_with (first | ((first | with_reducible refine wrx2 ?_ | with_reducible refine wrx ?_); (repeat (first | go_big_quiet_step ((first | fail)) | quiet_step ((first | fail)))); refine wpQuiet_nil ?_; rintro _ ⟨yr, rfl⟩; have syr := Ext.size yr; (repeat (first | rw [World.size_alloc] at syr | rw [World.size_setCell] at syr | rw [World.size_drew] at syr))))
            refine ⟨⟨k, mm + 1 + 2, ⟨W4.setCell ⟨w.heap.size + 1, 2, none⟩ (.slice np (st.length + 1) nc), hkB.setCell (by simp) _⟩, st ++ [⟨la + 1 + vx1, pv⟩], .slice np (st.length + 1) nc, by rw [hkey.out.2.2.2.2], by simp, rfl, hbg.out.set2 _, hrg2.set _ (by omega), Go.Lib.hid ⟨⟨hrw4.out.put (by omega) _ _, owns_put hkown.out (by omega) _ _⟩, hkey.out.1, hkey.out.2.1, hkey.out.2.2.1, hkey.out.2.2.2.1⟩⟩, by simp [intOf]⟩
    · have hkp : (0 : Int) < k := by omega
      have hbx0 := Go.Lib.hid hbx
      have hown0 := Go.Lib.hid hown
      clear hbx hown hk
      go_wp2_with (first | ((first | with_reducible refine wrx2 ?_ | with_reducible refine wrx ?_); (repeat (first | go_big_quiet_step ((first | fail)) | quiet_step ((first | fail)))); refine wpQuiet_nil ?_; rintro _ ⟨yr, rfl⟩; have syr := Ext.size yr; (repeat (first | rw [World.size_alloc] at syr | rw [World.size_setCell] at syr | rw [World.size_drew] at syr)); have : b < yr.now.heap.size := (by omega); have : b ≤ yr.now.heap.size := (by omega); have : b < yr.now.heap.size + 1 + 1 := (by omega); have : w.heap.size < yr.now.heap.size := (by omega); have : w.heap.size ≤ yr.now.heap.size := (by omega); have : w.heap.size < yr.now.heap.size + 1 + 1 := (by omega); have : w.heap.size + 1 < yr.now.heap.size := (by omega); have : w.heap.size + 1 ≤ yr.now.heap.size := (by omega); have : w.heap.size + 1 < yr.now.heap.size + 1 + 1 := (by omega)) | (go_at_call 59; (with_reducible refine Calls.mono (Next_y 1048576 b mm _ (by omega) (by omega) (by omega) ?_) ?_); (focus ((repeat (first | (with_reducible assumption) | (with_reducible refine RingM.alloc ?_ _) | (with_reducible refine RingM.drew ?_) | (with_reducible refine RingM.ext ?_ _) | (with_reducible refine RingM.set ?_ _ (by omega)))); done)); (rintro _ _ ⟨yx1, vx1, rfl, hvx1, rfl, rgx1⟩); have syx1 := RExt.size yx1; (repeat (first | rw [World.size_alloc] at syx1 | rw [World.size_setCell] at syx1 | rw [World.size_drew] at syx1)); have : b < yx1.now.heap.size := (by omega); have : b ≤ yx1.now.heap.size := (by omega); have : b < yx1.now.heap.size + 1 + 1 := (by omega); have : w.heap.size < yx1.now.heap.size := (by omega); have : w.heap.size ≤ yx1.now.heap.size := (by omega); have : w.heap.size < yx1.now.heap.size + 1 + 1 := (by omega); have : w.heap.size + 1 < yx1.now.heap.size := (by omega); have : w.heap.size + 1 ≤ yx1.now.heap.size := (by omega); have : w.heap.size + 1 < yx1.now.heap.size + 1 + 1 := (by omega)) | (go_at_call 59; (with_reducible refine Calls.mono (Next_y 50 b (mm + 1) _ (by omega) (by omega) (by omega) ?_) ?_); (focus ((repeat (first | (with_reducible assumption) | (with_reducible refine RingM.alloc ?_ _) | (with_reducible refine RingM.drew ?_) | (with_reducible refine RingM.ext ?_ _) | (with_reducible refine RingM.set ?_ _ (by omega)))); done)); (rintro _ _ ⟨yx2, vx2, rfl, hvx2, rfl, rgx2⟩); have syx2 := RExt.size yx2; (repeat (first | rw [World.size_alloc] at syx2 | rw [World.size_setCell] at syx2 | rw [World.size_drew] at syx2)); have : b < yx2.now.heap.size := (by omega); have : b ≤ yx2.now.heap.size := (by omega); have : b < yx2.now.heap.size + 1 + 1 := (by omega); have : w.heap.size < yx2.now.heap.size := (by omega); have : w.heap.size ≤ yx2.now.heap.size := (by omega); have : w.heap.size < yx2.now.heap.size + 1 + 1 := (by omega); have : w.heap.size + 1 < yx2.now.heap.size := (by omega); have : w.heap.size + 1 ≤ yx2.now.heap.size := (by omega); have : w.heap.size + 1 < yx2.now.heap.size + 1 + 1 := (by omega)) | (go_at_call 59; (with_reducible refine Calls.mono (Next_y 4 b (mm + 1 + 1) _ (by omega) (by omega) (by omega) ?_) ?_); (focus ((repeat (first | (with_reducible assumption) | (with_reducible refine RingM.alloc ?_ _) | (with_reducible refine RingM.drew ?_) | (with_reducible refine RingM.ext ?_ _) | (with_reducible refine RingM.set ?_ _ (by omega)))); done)); (rintro _ _ ⟨yx3, vx3, rfl, hvx3, rfl, rgx3⟩); have syx3 := RExt.size yx3; (repeat (first | rw [World.size_alloc] at syx3 | rw [World.size_setCell] at syx3 | rw [World.size_drew] at syx3)); have : b < yx3.now.heap.size := (by omega); have : b ≤ yx3.now.heap.size := (by omega); have : b < yx3.now.heap.size + 1 + 1 := (by omega); have : w.heap.size < yx3.now.heap.size := (by omega); have : w.heap.size ≤ yx3.now.heap.size := (by omega); have : w.heap.size < yx3.now.heap.size + 1 + 1 := (by omega); have : w.heap.size + 1 < yx3.now.heap.size := (by omega); have : w.heap.size + 1 ≤ yx3.now.heap.size := (by omega); have : w.heap.size + 1 < yx3.now.heap.size + 1 + 1 := (by omega)))
      have hb2 : b < w.heap.size + 1 + 1 := by omega
      have hbx1 := Go.Lib.hid ((hbx0.out.rext hl yx1).rext hl yx2)
      have hown1 := Go.Lib.hid (owns_belowX (owns_belowX hown0.out hb2 yx1.grew) hb2 yx2.grew)
      have htr1 := Go.Lib.hid ((hi.out.1.belowX hb2 yx1.grew).belowX hb2 yx2.grew)
      have hBX1 : BelowX b w.heap.size w yx2.now := (x.grew.trans (yx1.grew.mono (by omega))).trans (yx2.grew.mono (by omega))
      obtain ⟨hm0, hm1⟩ := hvx1
      obtain ⟨hr0, hr1⟩ := hvx2
      obtain ⟨hv0, hv1⟩ := hvx3
      have hbs : yx2.now.heap.size ≠ b := by omega
      have d0 : yx3.now.cell? ⟨yx2.now.heap.size, 0, none⟩ = some (.int .i64 vx1) := by rw [yx3.cell (by simp) hbs]; simp [go_sem]
      have d1 : yx3.now.cell? ⟨yx2.now.heap.size, 1, none⟩ = some (.int .i64 vx2) := by rw [yx3.cell (by simp) hbs]; simp [go_sem]
      have d2 : yx3.now.cell? ⟨yx2.now.heap.size, 2, none⟩ = some (.slice none 0 0) := by rw [yx3.cell (by simp) hbs]; simp [go_sem]
      have d3 : yx3.now.frozen? ⟨yx2.now.heap.size, 2, none⟩ = false := by rw [yx3.frozen (by simp) hbs]; simp [go_sem]
      have hBi : BelowX b yx2.now.heap.size yx2.now yx3.now := ((BelowX.refl _ _ _).alloc (Nat.le_refl _) _).trans (yx3.grew.mono (by simp))
      have hsz : w.heap.size + 1 < yx2.now.heap.size := by omega
      have hsz3 : yx2.now.heap.size < yx3.now.heap.size := by omega
      have hbW1 : b < yx2.now.heap.size := by omega
      generalize yx3.now = W3 at *
      clear hbx0 hown0 rgx1 rgx2
      clear yx3
      generalize yx2.now = W1 at *
      clear yx2
      generalize yx1.now = Wz at *
      clear yx1
      obtain ⟨j0, hj0⟩ := Int.eq_ofNat_of_zero_le (show 0 ≤ 1 + vx3 by omega)
      rw [hj0]
      have hjj0 : 1 ≤ j0 ∧ j0 ≤ 4 := by omega
      clear hj0 hv0 hv1
      go_loopw [6] (fun t W => ∃ (j m2 : Nat) (z : RExt W1 b) (tr : List V2) (u : Value), t = .int .i64 j ∧ W = z.now ∧ (z.now.cell? ⟨W1.heap.size, 0, none⟩ = some (.int .i64 vx1) ∧ z.now.cell? ⟨W1.heap.size, 1, none⟩ = some (.int .i64 vx2) ∧ z.now.cell? ⟨W1.heap.size, 2, none⟩ = some u ∧ z.now.frozen? ⟨W1.heap.size, 2, none⟩ = false ∧ W1.heap.size < z.now.heap.size) ∧ z.now.ownsRow (W1.heap.size + 1) 43 2 u tr.length (vrows tr) ∧ RingM z.now b m2 ∧ Hid (tr.length + j ≤ 4 ∧ 1 ≤ tr.length + j ∧ m2 + 2 * j ≤ mm + 11 ∧ placesE tr = 0 ∧ ∀ v ∈ tr, (-2000 ≤ v.x ∧ v.x ≤ 2000) ∧ -2000 ≤ v.y ∧ v.y ≤ 2000)) (fun t _ => (intOf t).toNat)
      case atStart => exact ⟨j0, mm + 1 + 1 + 1, ⟨W3, hBi⟩, [], _, rfl, rfl, ⟨d0, d1, d2, d3, hsz3⟩, World.ownsRow_nil _ _ _ _, rgx3, Go.Lib.hid ⟨by simp; omega, by simp; omega, by omega, rfl, fun _ h => by simp at h⟩⟩
      case round =>
        obtain ⟨j, m2, z, tr, u, rfl, rfl, ⟨e0, e1, e2, e3, e4⟩, hot, hrz, hj⟩ := hrel
        clear d0 d1 d2 d3
        have hjj := hj.out.2.2.1
        have hjl := hj.out.1
        by_cases hk : j = 0
        · subst hk
          obtain ⟨up, uc, rfl⟩ := owns_form hot
          obtain ⟨q1, q2, q3, q4, q5⟩ := hj.out
          have hbz := hbx1.out.rext hl z
          have hoz := owns_belowX hown1.out hb2 z.grew
          have htz := htr1.out.belowX hb2 z.grew
          obtain ⟨p2, p3, p4⟩ := hi.out.2
          obtain ⟨vp, vc, rfl⟩ := owns_form hoz
          have zc0 := hbz.c0
          have zf0 := hbz.f0
          have hzB : BelowX b w.heap.size w z.now := hBX1.trans (z.grew.mono (by omega))
          have hzs : w.heap.size + 1 < z.now.heap.size := hbz.lt
          have hnb : bodyOk ⟨vx1, vx2, up, uc, tr⟩ := ⟨by
            unfold bodyE
            rw [if_neg (by simp only; omega)]
            have : cntE (tr.length : Int) 1 4096 = 0 := by unfold cntE; rw [if_neg (by omega), if_neg (by omega)]
            simp only [this, if_true]
            exact q4, q5, by simp only; omega, hm1, hr1⟩
          have hkey : Hid ((l ++ [(⟨vx1, vx2, up, uc, tr⟩ : BodyR)]).length + (k - 1) ≤ 3 ∧ 1 ≤ (l ++ [(⟨vx1, vx2, up, uc, tr⟩ : BodyR)]).length + (k - 1) ∧ m2 + 11 * (k - 1) ≤ m + 34 ∧ bodiesOk (l ++ [⟨vx1, vx2, up, uc, tr⟩])) := by
            refine Go.Lib.hid ⟨by simp; omega, by simp; omega, by omega, bodiesE_snoc p4.2.1 hnb.1, fun c hc => ?_⟩
            rcases List.mem_append.1 hc with h1 | h1
            · exact p4.2.2 c h1
            · rw [List.mem_singleton.1 h1]; exact hnb
          have hbz := Go.Lib.hid hbz
          have hoz := Go.Lib.hid hoz
          have htz := Go.Lib.hid htz
          have hot := Go.Lib.hid hot
          have hl3 : l.length ≤ 3 := by omega
          have hkpos : 1 ≤ k := by omega
          clear q1 q2 q3 q4 q5 p2 p3 p4 hnb hj hi hbx1 hown1 htr1
          obtain ⟨i0, hi0, hz0, hz1, hz2⟩ := info_parts body_info
          go_wp2_with (first | ((first | with_reducible refine wrx2 ?_ | with_reducible refine wrx ?_); (repeat (first | go_big_quiet_step ((first | fail)) | quiet_step ((first | fail)))); refine wpQuiet_nil ?_; rintro _ ⟨yr, rfl⟩; have syr := Ext.size yr; (repeat (first | rw [World.size_alloc] at syr | rw [World.size_setCell] at syr | rw [World.size_drew] at syr))) | (at_builtin; go_loud (refine wpList_append_own _ rfl _ _ 23 rfl (w.heap.size + 1 + 1) 52 i0 _ 3 40 Try.underlying23 hi0 hz0 hz1 hz2 rfl (by decide) _ l.length (brows l) rfl (hoz.out.alloc _) _ 1 1 _ rfl rfl (cells3_new _ _ _ _ _) (by intro u hu; simp only [List.mem_cons, List.not_mem_nil, or_false] at hu; rcases hu with rfl | rfl | rfl <;> rfl) (by unfold maxLen; omega) (by omega) (by (try simp only [World.size_alloc]); omega) ?_); intro v' W2 hown' hgrow _; obtain ⟨np, nc, rfl⟩ := owns_form hown'; have hozA := hoz.out.alloc (.cells #[.int .i64 vx1, .int .i64 vx2, .slice up tr.length uc] 52); have hotA := hot.out.alloc (.cells #[.int .i64 vx1, .int .i64 vx2, .slice up tr.length uc] 52); have hbg := SkyBox.grown (hbz.out.alloc (.cells #[.int .i64 vx1, .int .i64 vx2, .slice up tr.length uc] 52)) hozA (by omega) hgrow; have hkf := hbg.f0; have hkc := hbg.c0; have hbg := Go.Lib.hid hbg; have htg := Go.Lib.hid (TrOwn.grown (htz.out.alloc (.cells #[.int .i64 vx1, .int .i64 vx2, .slice up tr.length uc] 52)) hozA (by decide) hgrow); have hrg2 := RingM.grown (hrz.alloc (.cells #[.int .i64 vx1, .int .i64 vx2, .slice up tr.length uc] 52)) hozA (by omega) hgrow; have htk := Go.Lib.hid (World.ownsRow.kept hotA hgrow (owns_apart2 hotA hozA (by decide))); have hkB : BelowX b w.heap.size w W2 := belowX_grown (hzB.alloc (by omega) _) hozA (by omega) (by simp only [World.size_alloc]; omega) hgrow; have hown' := Go.Lib.hid hown'; clear hozA hotA; clear hgrow))
          have hkown : W2.ownsRow (w.heap.size + 1 + 1) 52 3 (.slice np (l.length + 1) nc) (l ++ [(⟨vx1, vx2, up, uc, tr⟩ : BodyR)]).length (brows (l ++ [⟨vx1, vx2, up, uc, tr⟩])) := by
            rw [brows_add, List.length_append]; exact hown'.out
          have hktr : TrOwn W2 (w.heap.size + 1 + 1) (l ++ [⟨vx1, vx2, up, uc, tr⟩]) := htg.out.snoc (owns_base htk.out (by omega))
          refine ⟨⟨k - 1, m2, ⟨W2.setCell ⟨w.heap.size + 1, 0, none⟩ (.slice np (l.length + 1) nc), hkB.setCell (by simp) _⟩, l ++ [⟨vx1, vx2, up, uc, tr⟩], .slice np (l.length + 1) nc, by congr 1; omega, rfl, hbg.out.set0 _, owns_put hkown (by omega) _ _, hrg2.set _ (by omega), Go.Lib.hid ⟨hktr.put (by omega) _ _, hkey.out⟩⟩, by simp [intOf]; omega⟩
        · obtain ⟨j, rfl⟩ := Nat.exists_eq_succ_of_ne_zero hk
          simp only [Nat.succ_eq_add_one] at *
          have hjp : (0 : Int) < ((j + 1 : Nat) : Int) := by omega
          obtain ⟨up, uc, rfl⟩ := owns_form hot
          have hot0 := Go.Lib.hid hot
          clear hot hk
          obtain ⟨i0, hi0, hz0, hz1, hz2⟩ := info_parts vec_info
          go_wp2_with fail
          go_region_law (first
              | (go_simp; go_at_call 24; (with_reducible refine Calls.mono (PointOf_y 2000 b m2 _ (by omega) (by omega) (by omega) ?_) ?_); (focus ((repeat (first | (with_reducible assumption) | (with_reducible refine RingM.alloc ?_ _) | (with_reducible refine RingM.drew ?_))); done)); (rintro _ _ ⟨ya, pv, rfl, hpv, rfl, rga⟩); have sya := RExt.size ya; (repeat (first | rw [World.size_alloc] at sya | rw [World.size_drew] at sya)); have : W1.heap.size < ya.now.heap.size := (by omega); have hyc := fun o => (ya.cell (c := W1.heap.size) (o := o) (by (try simp only [World.size_drew]); omega) hbs); have hyf := (ya.frozen (c := W1.heap.size) (o := 2) (by (try simp only [World.size_drew]); omega) hbs); have hy0 : ya.now.cell? ⟨W1.heap.size, 0, none⟩ = some (.int .i64 vx1) := (hyc 0).trans (by simpa [go_sem] using e0); have hy1 : ya.now.cell? ⟨W1.heap.size, 1, none⟩ = some (.int .i64 vx2) := (hyc 1).trans (by simpa [go_sem] using e1); have hy2 : ya.now.cell? ⟨W1.heap.size, 2, none⟩ = some (.slice up tr.length uc) := (hyc 2).trans (by simpa [go_sem] using e2); have hy3 : ya.now.frozen? ⟨W1.heap.size, 2, none⟩ = false := hyf.trans (by simpa [go_sem] using e3); have hoy := Go.Lib.hid (owns_belowX (World.ownsRow.drew hot0.out) (by omega) ya.grew); have hyB : BelowX b W1.heap.size W1 ya.now := (z.grew.drew).trans (ya.grew.mono (by (try simp only [World.size_drew]); omega)); clear hyc hyf)
              | (refine Eq.mpr (if_pos rfl) ?_; (refine wp_append_own _ _ _ 50 rfl (W1.heap.size + 1) 43 i0 _ 2 16 Try.underlying50 hi0 hz0 hz1 hz2 rfl (by decide) _ tr.length (vrows tr) rfl (hoy.out.alloc _) _ 1 1 _ rfl rfl (cells2_new _ _ _ _) (by intro u hu; simp only [List.mem_cons, List.not_mem_nil, or_false] at hu; rcases hu with rfl | rfl <;> rfl) (by unfold maxLen; omega) (by omega) (by simp only [World.size_alloc]; omega) ?_); intro v' W2 hown' hgrow _; obtain ⟨vp, vc, rfl⟩ := owns_form hown'; have hbl : ∀ B, B ≤ W1.heap.size → W2.heap[B]? = (ya.now.alloc (.cells #[.int .i64 pv.x, .int .i64 pv.y] 43)).heap[B]? := (fun B hB => hgrow.block B (by simp only [World.size_alloc]; omega) (fun e => by have := (hoy.out.lt B e.symm).1; omega)); have hk0 : W2.cell? ⟨W1.heap.size, 0, none⟩ = some (.int .i64 vx1) := (World.cell?_of_block (a := ⟨W1.heap.size, 0, none⟩) (hbl _ (Nat.le_refl _))).trans (by simp [go_sem, *]); have hk1 : W2.cell? ⟨W1.heap.size, 1, none⟩ = some (.int .i64 vx2) := (World.cell?_of_block (a := ⟨W1.heap.size, 1, none⟩) (hbl _ (Nat.le_refl _))).trans (by simp [go_sem, *]); have hk2 : W2.cell? ⟨W1.heap.size, 2, none⟩ = some (.slice up tr.length uc) := (World.cell?_of_block (a := ⟨W1.heap.size, 2, none⟩) (hbl _ (Nat.le_refl _))).trans (by simp [go_sem, *]); have hk3 : W2.frozen? ⟨W1.heap.size, 2, none⟩ = false := (World.frozen?_of_block (a := ⟨W1.heap.size, 2, none⟩) (hbl _ (Nat.le_refl _))).trans (by simp [go_sem, *]); have hkB : BelowX b W1.heap.size W1 W2 := belowX_grown (hyB.alloc (by omega) _) (hoy.out.alloc _) (by omega) (by simp only [World.size_alloc]; omega) hgrow; have hkr := (rga.alloc (.cells #[.int .i64 pv.x, .int .i64 pv.y] 43)).grown (hoy.out.alloc _) (by omega) hgrow; have hks : W1.heap.size < W2.heap.size := (by have := hgrow.size; simp only [World.size_alloc] at this; omega); clear hbl))
          all_goals
            have hkey : Hid ((tr ++ [pv]).length + j ≤ 4 ∧ 1 ≤ (tr ++ [pv]).length + j ∧ m2 + 2 + 2 * j ≤ mm + 11 ∧ placesE (tr ++ [pv]) = 0 ∧ ∀ v ∈ (tr ++ [pv]), (-2000 ≤ v.x ∧ v.x ≤ 2000) ∧ -2000 ≤ v.y ∧ v.y ≤ 2000) := by
              have hq := hj.out.2.2.2
              refine Go.Lib.hid ⟨by simp; omega, by simp; omega, by omega, placesE_snoc hq.1 (by unfold vwinB winB; simp only [Bool.and_eq_true, decide_eq_true_eq]; omega), fun v hv => ?_⟩
              rcases List.mem_append.1 hv with h1 | h1
              · exact hq.2 v h1
              · rw [List.mem_singleton.1 h1]; exact hpv
            have hkown : W2.ownsRow (W1.heap.size + 1) 43 2 (.slice vp (tr.length + 1) vc) (tr ++ [pv]).length (vrows (tr ++ [pv])) := by
              rw [vrows_add, List.length_append]; exact hown'
            have hkown := Go.Lib.hid hkown
            clear hown' hgrow hoy hot0 hj hi hyB hy0 hy1 hy2 hy3 rga
            clear hpv
            go_wp2_with (first | ((first | with_reducible refine wrx2 ?_ | with_reducible refine wrx ?_); (repeat (first | go_big_quiet_step ((first | fail)) | quiet_step ((first | fail)))); refine wpQuiet_nil ?_; rintro _ ⟨yr, rfl⟩; have syr := Ext.size yr; (repeat (first | rw [World.size_alloc] at syr | rw [World.size_setCell] at syr | rw [World.size_drew] at syr))))
            refine ⟨⟨j, m2 + 2, ⟨W2.setCell ⟨W1.heap.size, 2, none⟩ (.slice vp (tr.length + 1) vc), hkB.setCell (Nat.le_refl _) _⟩, tr ++ [pv], .slice vp (tr.length + 1) vc, by simp, rfl, ⟨by simp [go_sem, *], by simp [go_sem, *], by simp [go_sem, *], by simp [go_sem, *], by simpa using hks⟩, owns_put hkown.out (by omega) _ _, hkr.set _ (by omega), hkey⟩, by simp [intOf]⟩
theorem SkyOf_y (b m : Nat) (w : World) (hm : m < 1000) (h : RingM w b m) : Calls Try.prog 28 #[.pointer (some ⟨b, 0, none⟩)] w (SkyPost w b m) :=
  (SkyOf_z b m w hm h).mono fun _ _ ⟨y, s, h1, h2, h3, h4, _, h6⟩ => ⟨y, s, h1, h2, h3, h4.down h.lt, h6⟩
end Go.Proofs.Ytlhihmfefipehaa

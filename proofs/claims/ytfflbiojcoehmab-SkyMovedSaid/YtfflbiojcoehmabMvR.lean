/- The region 't, y := bolidekit.OwnSky(s), x' of SkyMoved: what holds between its operations, and what it leaves. Condition: a sky in memory. -/
import Derived.Test.YtfflbiojcoehmabMvL
import Derived.Test.YtfflbiojcoehmabPair
import Derived.Test.YtfflbiojcoehmabCutB
import Derived.Test.YtfflbiojcoehmabFreeA
namespace Go.Proofs.Ytfflbiojcoehmab
open Go.RowKit Go.Shelf
def ownDeps : List (List Nat) := [[], [0], [], [], [], [3, 1], [4, 2, 5]]
/-- A row of a sky's rows in another world that has the same blocks. -/
theorem owns_same {w w' : World} {b0 base : Nat} {e : TypeId} {size : Nat} {v : Value} {n : Nat} {xs : List Value} (h : w.ownsRow base e size v n xs) (hb : b0 ≤ base) (hk : ∀ B, b0 ≤ B → B < w.heap.size → w'.heap[B]? = w.heap[B]?) : w'.ownsRow base e size v n xs := by
  refine ⟨h.1, ?_⟩
  rcases h.2 with h2 | ⟨g, cap, cur, hv, hg, hc, rest⟩
  · exact .inl h2
  · have hlt : g < w.heap.size := (Array.getElem?_eq_some_iff.1 hc).1
    exact .inr ⟨g, cap, cur, hv, hg, (hk g (by omega) hlt).trans hc, rest⟩
theorem OwnSkyAt.same {w w' : World} {base : Nat} {s s' : SkyR} (h : OwnSkyAt w base s s') (hk : ∀ B, base ≤ B → B < w.heap.size → w'.heap[B]? = w.heap[B]?) : OwnSkyAt w' base s s' :=
  ⟨⟨⟨owns_same h.wd.r.b (Nat.le_refl _) hk, fun b hb => owns_same (h.wd.r.t b hb) (Nat.le_refl _) hk⟩, h.wd.a, h.wd.e⟩, owns_same h.st (Nat.le_refl _) hk, owns_same h.ct (Nat.le_refl _) hk, h.h, h.es, h.ec⟩
theorem OwnSkyAt.blocks {w : World} {base : Nat} {s s' : SkyR} (h : OwnSkyAt w base s s') {B : Nat} (hB : B < base ∨ w.heap.size ≤ B) : ∀ b ∈ s'.bodies, b.tp ≠ some ⟨B, 0, none⟩ := by
  intro b hb e
  have h1 := h.wd.r.t b hb
  rw [e] at h1
  have := h1.lt B rfl
  omega
/-- What holds between the operations. -/
def OwnInv (s : SkyR) (x : SightR) (a0 : Act) (X : World) (l : List Bool) (fr : Act) (W : World) : Prop :=
  ∃ s17 s18 s48 s49 s50 : Value, fr = sets a0 [(17, s17), (18, s18), (48, s48), (49, s49), (50, s50)] ∧ Below X.heap.size X W ∧ (l.getD 3 false = true → l.getD 4 false = true → s17 ≠ s18) ∧ (l.getD 5 false = true → l.getD 3 false = true) ∧ (l.getD 6 false = true → l.getD 4 false = true) ∧ (l.getD 5 false = true → l.getD 1 false = true) ∧
    (l.getD 0 false = true → s48 = .agg #[.slice s.bp s.bodies.length s.bc, .int .i64 s.home, .slice s.sp s.sts.length s.sc, .slice s.cp s.cats.length s.cc]) ∧
    (l.getD 1 false = true → ∃ (s' : SkyR) (b0 : Nat) (W1 : World), s49 = .agg #[.slice s'.bp s'.bodies.length s'.bc, .int .i64 s'.home, .slice s'.sp s'.sts.length s'.sc, .slice s'.cp s'.cats.length s'.cc] ∧ OwnSkyAt W1 b0 s s' ∧ X.heap.size ≤ b0 ∧ W1.heap.size ≤ W.heap.size ∧ (∀ B, b0 ≤ B → B < W1.heap.size → W.heap[B]? = W1.heap[B]?) ∧ (l.getD 3 false = true → ∀ B, s17 = .pointer (some ⟨B, 0, none⟩) → B < b0 ∨ W1.heap.size ≤ B) ∧ (l.getD 4 false = true → ∀ B, s18 = .pointer (some ⟨B, 0, none⟩) → B < b0 ∨ W1.heap.size ≤ B)) ∧
    (l.getD 2 false = true → s50 = .agg #[.int .i64 x.kind, .int .i64 x.st, .int .i64 x.cat, .int .i64 x.tick, .int .i64 x.dir.x, .int .i64 x.dir.y, .int .i64 x.err, .int .i64 x.lo, .int .i64 x.hi]) ∧
    (l.getD 3 false = true → ∃ b : Nat, s17 = .pointer (some ⟨b, 0, none⟩) ∧ X.heap.size ≤ b ∧ b < W.heap.size ∧ ∃ cs, cs.size = 4 ∧ W.heap[b]? = some (.cells cs 28 (0, 0)) ∧ (l.getD 5 false = true → s49 = .agg cs)) ∧
    (l.getD 4 false = true → ∃ b : Nat, s18 = .pointer (some ⟨b, 0, none⟩) ∧ X.heap.size ≤ b ∧ b < W.heap.size ∧ ∃ cs, cs.size = 9 ∧ W.heap[b]? = some (.cells cs 44 (0, 0)) ∧ (l.getD 6 false = true → cs = #[.int .i64 x.kind, .int .i64 x.st, .int .i64 x.cat, .int .i64 x.tick, .int .i64 x.dir.x, .int .i64 x.dir.y, .int .i64 x.err, .int .i64 x.lo, .int .i64 x.hi]))
/-- What the region leaves. -/
def OwnTold (s : SkyR) (x : SightR) : Act → World → Act → World → Prop := fun a X a' W =>
  ∃ (TB YB base : Nat) (s' : SkyR) (y : Ext X), a' = sets a [(17, .pointer (some ⟨TB, 0, none⟩)), (18, .pointer (some ⟨YB, 0, none⟩)), (48, a'.tmps.getD 48 undef), (49, a'.tmps.getD 49 undef), (50, a'.tmps.getD 50 undef)] ∧ W = y.now ∧ X.heap.size ≤ base ∧ OwnSkyAt y.now base s s' ∧ (∀ b ∈ s'.bodies, b.tp ≠ some ⟨TB, 0, none⟩) ∧ (∀ b ∈ s'.bodies, b.tp ≠ some ⟨YB, 0, none⟩) ∧ TB ≠ YB ∧ X.heap.size ≤ TB ∧ X.heap.size ≤ YB ∧ TB < y.now.heap.size ∧ YB < y.now.heap.size ∧
    y.now.heap[TB]? = some (.cells #[.slice s'.bp s'.bodies.length s'.bc, .int .i64 s'.home, .slice s'.sp s'.sts.length s'.sc, .slice s'.cp s'.cats.length s'.cc] 28 (0, 0)) ∧ y.now.heap[YB]? = some (.cells #[.int .i64 x.kind, .int .i64 x.st, .int .i64 x.cat, .int .i64 x.tick, .int .i64 x.dir.x, .int .i64 x.dir.y, .int .i64 x.err, .int .i64 x.lo, .int .i64 x.hi] 44 (0, 0))
theorem OwnSkyAt.apartB {w : World} {base : Nat} {s s' : SkyR} (h : OwnSkyAt w base s s') {B o : Nat} (hb : s'.bp = some ⟨B, o, none⟩) : ∀ b ∈ s'.bodies, b.tp ≠ some ⟨B, 0, none⟩ := by
  intro b hm e
  have h1 := h.wd.r.t b hm
  have h2 := owns_apart2 h.wd.r.b h1 (by decide)
  rw [hb, e] at h2
  rcases h2 with h2 | h2
  · cases h2
  · exact h2 rfl
theorem OwnSkyAt.small {w : World} {base : Nat} {s s' : SkyR} (h : OwnSkyAt w base s s') (hs : SmallSky s) {i : Nat} (hi : i < s'.bodies.length) : s'.bodies[i].track.length ≤ 4 ∧ ∀ v ∈ s'.bodies[i].track, (-2000 ≤ v.x ∧ v.x ≤ 2000) ∧ -2000 ≤ v.y ∧ v.y ≤ 2000 := by
  have hj : i < s.bodies.length := by rw [← bare_len h.wd.e]; exact hi
  have e : s'.bodies[i].track = s.bodies[i].track := by
    have h1 : (s'.bodies.map BodyR.bare)[i]? = (s.bodies.map BodyR.bare)[i]? := by rw [h.wd.e]
    rw [List.getElem?_map, List.getElem?_map, List.getElem?_eq_getElem hi, List.getElem?_eq_getElem hj] at h1
    simp only [Option.map_some, Option.some.injEq] at h1
    exact (bare_eq h1).2.2
  rw [e]
  exact ⟨hs.tl _ (List.getElem_mem hj), hs.t _ (List.getElem_mem hj)⟩
theorem OwnSkyAt.apartS {w : World} {base : Nat} {s s' : SkyR} (h : OwnSkyAt w base s s') {B o : Nat} (hb : s'.sp = some ⟨B, o, none⟩) : ∀ b ∈ s'.bodies, b.tp ≠ some ⟨B, 0, none⟩ := by
  intro b hm e
  have h1 := h.wd.r.t b hm
  have h2 := owns_apart2 h.st h1 (by decide)
  rw [hb, e] at h2
  rcases h2 with h2 | h2
  · cases h2
  · exact h2 rfl
theorem OwnSkyAt.apartC {w : World} {base : Nat} {s s' : SkyR} (h : OwnSkyAt w base s s') {B o : Nat} (hb : s'.cp = some ⟨B, o, none⟩) : ∀ b ∈ s'.bodies, b.tp ≠ some ⟨B, 0, none⟩ := by
  intro b hm e
  have h1 := h.wd.r.t b hm
  have h2 := owns_apart2 h.ct h1 (by decide)
  rw [hb, e] at h2
  rcases h2 with h2 | h2
  · cases h2
  · exact h2 rfl
/-- The sky whose tracks have been moved. -/
def movedSky (s' : SkyR) (mx my : Int) : SkyR := { s' with bodies := s'.bodies.map fun b => { b with track := b.track.map (mvV mx my) } }
theorem blk_put (w : World) (a : Addr) (u : Value) (k : Nat) (h : k ≠ a.block) : (w.setCell a u).heap[k]? = w.heap[k]? := by
  simp only [World.setCell, Array.getElem?_modify]
  rw [if_neg (by omega)]
theorem owns_type {w : World} {base : Nat} {e T : TypeId} {size : Nat} {B o n c : Nat} {xs : List Value} {cs : Array Value} {f : Nat × Nat} (h : w.ownsRow base e size (.slice (some ⟨B, o, none⟩) n c) n xs) (hY : w.heap[B]? = some (.cells cs T f)) : T = e := by
  rcases h.2 with ⟨h2, _⟩ | ⟨g, cap, cur, hv, _, hc, _⟩
  · cases h2
  · injection hv with hv
    injection hv with hv
    injection hv with hv
    subst hv
    rw [hc] at hY
    simp only [Option.some.injEq, Obj.cells.injEq] at hY
    exact hY.2.1.symm
theorem moved_at {W5 W : World} {base YB : Nat} {s s' : SkyR} {mx my : Int} {cs : Array Value} (hO : OwnSkyAt W5 base s s')
    (htr : ∀ j (h : j < s'.bodies.length), W.ownsRow base 33 2 (.slice s'.bodies[j].tp s'.bodies[j].track.length s'.bodies[j].tc) s'.bodies[j].track.length (vrows (s'.bodies[j].track.map (mvV mx my))))
    (hkp : ∀ B, B < W5.heap.size → B ≠ YB → (∀ b ∈ s'.bodies, b.tp ≠ some ⟨B, 0, none⟩) → W.heap[B]? = W5.heap[B]?) (hsz : W5.heap.size ≤ W.heap.size) (hY : W5.heap[YB]? = some (.cells cs 44 (0, 0))) :
    (movedSky s' mx my).At W ∧ Moved s (movedSky s' mx my) mx my := by
  refine ⟨⟨fun j hj => ?_, fun j hj => ?_, fun j hj => ?_⟩, ?_, hO.h, hO.es, hO.ec⟩
  · have hj' : j < s'.bodies.length := by simpa [movedSky] using hj
    have e : (movedSky s' mx my).bodies[j] = { s'.bodies[j] with track := s'.bodies[j].track.map (mvV mx my) } := by simp [movedSky]
    rw [e]
    refine ⟨fun i hi => ?_, ?_⟩
    · have h1 := htr j hj'
      have hl : s'.bodies[j].track.length = (s'.bodies[j].track.map (mvV mx my)).length := by simp
      rw [hl] at h1
      obtain ⟨p, c, e', hv⟩ := owns_at (fun v : V2 => [.int .i64 v.x, .int .i64 v.y]) 2 (fun _ => rfl) _ h1
      injection e' with e1 e2 e3
      obtain ⟨B, o, hp, _, hB2, hc⟩ := hv i hi
      exact ⟨B, o, e1.trans hp, hB2, hc 0 _ rfl, hc 1 _ rfl⟩
    · obtain ⟨-, B, o, hbp, hB, r1, r2, r3⟩ := hO.at.bs j hj'
      have hne : B ≠ YB := fun e => by
        have h2 := hO.wd.r.b
        rw [hbp] at h2
        subst e
        exact absurd (owns_type h2 hY) (by decide)
      have hk := hkp B hB hne (hO.apartB hbp)
      refine ⟨B, o, hbp, Nat.lt_of_lt_of_le hB hsz, (World.cell?_of_block (a := ⟨B, o + j * 3, none⟩) hk).trans r1, (World.cell?_of_block (a := ⟨B, o + j * 3 + 1, none⟩) hk).trans r2, ?_⟩
      simp only [List.length_map]
      exact (World.cell?_of_block (a := ⟨B, o + j * 3 + 2, none⟩) hk).trans r3
  · obtain ⟨B, o, hbp, hB, r1, r2, r3⟩ := hO.at.ss j hj
    have hne : B ≠ YB := fun e => by
      have h2 := hO.st
      rw [hbp] at h2
      subst e
      exact absurd (owns_type h2 hY) (by decide)
    have hk := hkp B hB hne (hO.apartS hbp)
    exact ⟨B, o, hbp, Nat.lt_of_lt_of_le hB hsz, (World.cell?_of_block (a := ⟨B, o + j * 3, none⟩) hk).trans r1, (World.cell?_of_block (a := ⟨B, o + j * 3 + 1, none⟩) hk).trans r2, (World.cell?_of_block (a := ⟨B, o + j * 3 + 2, none⟩) hk).trans r3⟩
  · obtain ⟨B, o, hbp, hB, r1, r2, r3⟩ := hO.at.cs j hj
    have hne : B ≠ YB := fun e => by
      have h2 := hO.ct
      rw [hbp] at h2
      subst e
      exact absurd (owns_type h2 hY) (by decide)
    have hk := hkp B hB hne (hO.apartC hbp)
    exact ⟨B, o, hbp, Nat.lt_of_lt_of_le hB hsz, (World.cell?_of_block (a := ⟨B, o + j * 3, none⟩) hk).trans r1, (World.cell?_of_block (a := ⟨B, o + j * 3 + 1, none⟩) hk).trans r2, (World.cell?_of_block (a := ⟨B, o + j * 3 + 2, none⟩) hk).trans r3⟩
  · have e := congrArg (List.map fun q : Int × Int × List V2 => (q.1, q.2.1, q.2.2.map (mvV mx my))) hO.wd.e
    rw [List.map_map, List.map_map] at e
    unfold movedSky
    rw [List.map_map]
    exact e
/-- The worlds behind the loops, when a sight's box that is none of the sky's has been written. -/
theorem MvSt.behind {w0 W5 W W6 : World} {base YB : Nat} {s s' : SkyR} {mx my : Int} {cs : Array Value} {u v : Value} {O : Obj} (h : MvSt w0 W5 W base s'.bodies mx my s'.bodies.length 0) (hO : OwnSkyAt W5 base s s') (x : Ext W) (nY : ∀ b ∈ s'.bodies, b.tp ≠ some ⟨YB, 0, none⟩) (hY : W5.heap[YB]? = some (.cells cs 44 (0, 0)))
    (e : W6 = ((x.now.setCell ⟨YB, 4, none⟩ u).setCell ⟨YB, 5, none⟩ v).alloc O) : (movedSky s' mx my).At W6 ∧ Moved s (movedSky s' mx my) mx my := by
  subst e
  refine moved_at hO (fun j hj => ?_) (fun B hB hne hn => ?_) ?_ hY
  · have h1 := h.tr j hj
    have ht : trk mx my s'.bodies.length 0 j s'.bodies[j].track = s'.bodies[j].track.map (mvV mx my) := by unfold trk; rw [if_pos hj]
    rw [ht] at h1
    have hb' : (Value.slice s'.bodies[j].tp s'.bodies[j].track.length s'.bodies[j].tc).ownBlock ≠ some YB := by
      obtain ⟨g, hg⟩ := hO.wd.a.1 _ (List.getElem_mem hj)
      have h2 := nY _ (List.getElem_mem hj)
      rw [hg] at h2 ⊢
      intro e
      simp only [Value.ownBlock, Option.some.injEq] at e
      exact h2 (by rw [e])
    exact (ownsRow_setCell_other (ownsRow_setCell_other (owns_ext h1 x) hb' _) hb' _).alloc _
  · have h1 := h.keep B hB hn
    have h2 : B < W.heap.size := Nat.lt_of_lt_of_le hB h.size
    have h3 := x.grew.block B h2
    have h4 : B < x.now.heap.size := Nat.lt_of_lt_of_le h2 x.size
    rw [heap_alloc_old _ _ (by simpa using h4)]
    have k1 : ∀ (V : World) (o : Nat) (q : Value), (V.setCell ⟨YB, o, none⟩ q).heap[B]? = V.heap[B]? := fun V o q => blk_put V ⟨YB, o, none⟩ q B hne
    rw [k1, k1, h3, h1]
  · have := h.size
    have := x.size
    simp only [World.size_alloc, World.size_setCell]
    omega
def m2 (x y : Int) : Int := if y > x then y else x
theorem m2_spec (x y : Int) : x ≤ m2 x y ∧ y ≤ m2 x y ∧ (m2 x y = x ∨ m2 x y = y) := by unfold m2; split <;> omega
theorem run_max5 (P : Program) (a b c d e : Int) : ∃ m, (∀ ats ty w, (Builtin.max_ ats ty #[.int .i64 a, .int .i64 b, .int .i64 c, .int .i64 d, .int .i64 e]).run P w = .ok (.int .i64 m) w) ∧ a ≤ m ∧ b ≤ m ∧ c ≤ m ∧ d ≤ m ∧ e ≤ m ∧ (m = a ∨ m = b ∨ m = c ∨ m = d ∨ m = e) := by
  refine ⟨m2 (m2 (m2 (m2 a b) c) d) e, fun ats ty w => rfl, ?_⟩
  have h1 := m2_spec a b
  have h2 := m2_spec (m2 a b) c
  have h3 := m2_spec (m2 (m2 a b) c) d
  have h4 := m2_spec (m2 (m2 (m2 a b) c) d) e
  omega
/-- How much longer a direction may be made. -/
theorem longer_in {d big q f : Int} (hb : 1 ≤ big) (h1 : -big ≤ d) (h2 : d ≤ big) (hq : big * q ≤ 4096) (hf0 : 0 ≤ f) (hf : f ≤ q) : -4096 ≤ d * f ∧ d * f ≤ 4096 := by
  have a1 := Int.mul_le_mul_of_nonneg_right h2 hf0
  have a2 := Int.mul_le_mul_of_nonneg_right h1 hf0
  have a3 := Int.mul_le_mul_of_nonneg_left hf (show 0 ≤ big by omega)
  rw [Int.neg_mul] at a2
  omega
end Go.Proofs.Ytfflbiojcoehmab

/- Contracts of the cones, rings and empty looks of package sky. Conditions: the sizes of valid sights. Skies that grow at their ends: what has no error, has none with one more. No condition. Skies that a call makes: rows of bodies, stations, catalogs that it owns, and a sky in memory behind a block. No condition. -/
import Derived.Test.YtlhihmfefipehaaSkyF
import Derived.Test.YtlhihmfefipehaaPairG
import Derived.Below
namespace Go.Proofs.Ytlhihmfefipehaa
open Go.RowKit Go.Shelf
attribute [local go_sem] Ext.cell Ext.frozen Ext.lt Ext.le Ext.lt_add Ext.le_add Ext.ne Ext.ne' lt2 lt3 lt4 lt5 le2 le3 le4
def biasL (id : Int) : List CatR → V2 × Bool
  | [] => (⟨0, 0⟩, false)
  | c :: l => if c.ver = id then (⟨c.lo, c.hi⟩, true) else biasL id l
structure ConeR where
  dx : Int
  dy : Int
  lo : Int
  hi : Int
/-- The sizes of a valid cone, and of a place seen from a station. -/
structure ConeR.Ok (c : ConeR) : Prop where
  x0 : -4096 ≤ c.dx
  x1 : c.dx ≤ 4096
  y0 : -4096 ≤ c.dy
  y1 : c.dy ≤ 4096
  l0 : -1000000 ≤ c.lo
  l1 : c.lo ≤ 1000000
  h0 : -1000000 ≤ c.hi
  h1 : c.hi ≤ 1000000
def P27 (x : Int) : Prop := -134217728 ≤ x ∧ x ≤ 134217728
def ConeR.val (c : ConeR) : Value := .agg #[.int .i64 c.dx, .int .i64 c.dy, .int .i64 c.lo, .int .i64 c.hi]
def leftV (c : ConeR) (x y : Int) : Int := c.dx * y - c.dy * x
def aheadV (c : ConeR) (x y : Int) : Int := c.dx * x + c.dy * y
theorem mulb {a b A B : Int} (h1 : -A ≤ a) (h2 : a ≤ A) (h3 : -B ≤ b) (h4 : b ≤ B) : -(A * B) ≤ a * b ∧ a * b ≤ A * B := by
  have x1 := Int.mul_nonneg (show 0 ≤ A - a by omega) (show 0 ≤ B + b by omega)
  have x2 := Int.mul_nonneg (show 0 ≤ A + a by omega) (show 0 ≤ B - b by omega)
  have x3 := Int.mul_nonneg (show 0 ≤ A - a by omega) (show 0 ≤ B - b by omega)
  have x4 := Int.mul_nonneg (show 0 ≤ A + a by omega) (show 0 ≤ B + b by omega)
  simp only [Int.sub_mul, Int.mul_sub, Int.add_mul, Int.mul_add] at x1 x2 x3 x4
  constructor <;> omega
theorem ConeR.Ok.parts {c : ConeR} (h : c.Ok) {x y : Int} (hx : P27 x) (hy : P27 y) : (-549755813888 ≤ c.dx * y ∧ c.dx * y ≤ 549755813888) ∧ (-549755813888 ≤ c.dy * x ∧ c.dy * x ≤ 549755813888) ∧ (-549755813888 ≤ c.dx * x ∧ c.dx * x ≤ 549755813888) ∧ (-549755813888 ≤ c.dy * y ∧ c.dy * y ≤ 549755813888) := by
  obtain ⟨hx0, hx1⟩ := hx
  obtain ⟨hy0, hy1⟩ := hy
  have b1 := mulb (A := 4096) (B := 134217728) h.x0 h.x1 hy0 hy1
  have b2 := mulb (A := 4096) (B := 134217728) h.y0 h.y1 hx0 hx1
  have b3 := mulb (A := 4096) (B := 134217728) h.x0 h.x1 hx0 hx1
  have b4 := mulb (A := 4096) (B := 134217728) h.y0 h.y1 hy0 hy1
  refine ⟨⟨by omega, by omega⟩, ⟨by omega, by omega⟩, ⟨by omega, by omega⟩, by omega, by omega⟩
theorem ConeR.Ok.left {c : ConeR} (h : c.Ok) {x y : Int} (hx : P27 x) (hy : P27 y) : -1099511627776 ≤ leftV c x y ∧ leftV c x y ≤ 1099511627776 := by
  have := h.parts hx hy
  unfold leftV; omega
theorem ConeR.Ok.ahead {c : ConeR} (h : c.Ok) {x y : Int} (hx : P27 x) (hy : P27 y) : -1099511627776 ≤ aheadV c x y ∧ aheadV c x y ≤ 1099511627776 := by
  have := h.parts hx hy
  unfold aheadV; omega
def behindB (c : ConeR) (x y : Int) : Bool := decide (aheadV c x y ≤ 0)
def rightB (c : ConeR) (x y : Int) : Bool := decide (1000000 * leftV c x y < c.lo * aheadV c x y)
def leftB2 (c : ConeR) (x y : Int) : Bool := decide (c.hi * aheadV c x y < 1000000 * leftV c x y)
def hasB (c : ConeR) (x y : Int) : Bool := !behindB c x y && !rightB c x y && !leftB2 c x y
def sqV (x y : Int) : Int := x * x + y * y
theorem sqV_in {x y : Int} (hx : P27 x) (hy : P27 y) : 0 ≤ sqV x y ∧ sqV x y ≤ 36028797018963968 := by
  have b1 := sq_bounds (B := 134217728) hx.1 hx.2
  have b2 := sq_bounds (B := 134217728) hy.1 hy.2
  unfold sqV; omega
def ringB (lo hi x y : Int) : Bool := decide (lo * lo ≤ sqV x y) && decide (sqV x y ≤ hi * hi)
def blocksB (c : ConeR) (hi x y : Int) : Bool := hasB c x y && decide (sqV x y ≤ hi * hi)
end Go.Proofs.Ytlhihmfefipehaa
namespace Go.Proofs.Ytlhihmfefipehaa
open Go.RowKit Go.Shelf
theorem placesE_snoc {l : List V2} {v : V2} (h : placesE l = 0) (hv : vwinB v 33554432 = true) : placesE (l ++ [v]) = 0 := by
  induction l with
  | nil => rw [List.nil_append, placesE, if_pos hv]; rfl
  | cons a l ih =>
    rw [placesE] at h
    rw [List.cons_append, placesE]
    by_cases ha : vwinB a 33554432 = true
    · rw [if_pos ha] at h ⊢; exact ih h
    · rw [if_neg ha] at h; cases h
theorem bodiesE_snoc {l : List BodyR} {b : BodyR} (h : bodiesE l = 0) (hb : bodyE b = 0) : bodiesE (l ++ [b]) = 0 := by
  induction l with
  | nil => rw [List.nil_append, bodiesE, if_pos hb]; rfl
  | cons a l ih =>
    rw [bodiesE] at h
    rw [List.cons_append, bodiesE]
    by_cases ha : bodyE a = 0
    · rw [if_pos ha] at h ⊢; exact ih h
    · rw [if_neg ha] at h; exact absurd h ha
def lastSt (z : Int) (l : List StR) : Int := match l.getLast? with
  | some o => o.id
  | none => z
theorem lastSt_snoc (z : Int) (l : List StR) (o : StR) : lastSt z (l ++ [o]) = o.id := by unfold lastSt; rw [List.getLast?_append]; simp
theorem lastSt_cons (z : Int) (a : StR) (l : List StR) : lastSt z (a :: l) = lastSt a.id l := by
  cases l with
  | nil => rfl
  | cons b l => unfold lastSt; rw [List.getLast?_cons_cons]; cases hq : (b :: l).getLast? with
    | none => simp at hq
    | some o => rfl
theorem stsE_snoc {o : StR} {l : List StR} : ∀ {z : Int}, stsE z l = 0 → lastSt z l < o.id → vwinB o.off 1048576 = true → stsE z (l ++ [o]) = 0 := by
  induction l with
  | nil =>
    intro z _ h hv
    rw [List.nil_append, stsE, if_neg (by simp only [lastSt, List.getLast?_nil] at h; omega), if_pos hv]; rfl
  | cons a l ih =>
    intro z h hl hv
    rw [stsE] at h
    rw [List.cons_append, stsE]
    by_cases h1 : a.id ≤ z
    · rw [if_pos h1] at h; cases h
    · rw [if_neg h1] at h ⊢
      by_cases h2 : vwinB a.off 1048576 = true
      · rw [if_pos h2] at h ⊢
        rw [lastSt_cons] at hl
        exact ih h hl hv
      · rw [if_neg h2] at h; cases h
def lastCt (z : Int) (l : List CatR) : Int := match l.getLast? with
  | some o => o.ver
  | none => z
theorem lastCt_snoc (z : Int) (l : List CatR) (o : CatR) : lastCt z (l ++ [o]) = o.ver := by unfold lastCt; rw [List.getLast?_append]; simp
theorem lastCt_cons (z : Int) (a : CatR) (l : List CatR) : lastCt z (a :: l) = lastCt a.ver l := by
  cases l with
  | nil => rfl
  | cons b l => unfold lastCt; rw [List.getLast?_cons_cons]; cases hq : (b :: l).getLast? with
    | none => simp at hq
    | some o => rfl
theorem ctsE_snoc {c : CatR} {l : List CatR} : ∀ {z : Int}, ctsE z l = 0 → lastCt z l < c.ver → (winB c.lo 500000 && winB c.hi 500000 && decide (c.lo ≤ c.hi)) = true → ctsE z (l ++ [c]) = 0 := by
  induction l with
  | nil =>
    intro z _ h hv
    rw [List.nil_append, ctsE, if_neg (by simp only [lastCt, List.getLast?_nil] at h; omega), if_pos hv]; rfl
  | cons a l ih =>
    intro z h hl hv
    rw [ctsE] at h
    rw [List.cons_append, ctsE]
    by_cases h1 : a.ver ≤ z
    · rw [if_pos h1] at h; cases h
    · rw [if_neg h1] at h ⊢
      by_cases h2 : (winB a.lo 500000 && winB a.hi 500000 && decide (a.lo ≤ a.hi)) = true
      · rw [if_pos h2] at h ⊢
        rw [lastCt_cons] at hl
        exact ih h hl hv
      · rw [if_neg h2] at h; cases h
/-- A station that is in the list is found. -/
theorem whereL_found {h : V2} {id : Int} {l : List StR} (hm : ∃ o ∈ l, o.id = id) : (whereL h id l).2 = true := by
  induction l with
  | nil => obtain ⟨o, ho, _⟩ := hm; cases ho
  | cons a l ih =>
    rw [whereL]
    by_cases ha : a.id = id
    · rw [if_pos ha]
    · rw [if_neg ha]
      obtain ⟨o, ho, hi⟩ := hm
      rcases List.mem_cons.1 ho with rfl | ho
      · exact absurd hi ha
      · exact ih ⟨o, ho, hi⟩
theorem biasL_found {id : Int} {l : List CatR} (hm : ∃ c ∈ l, c.ver = id) : (biasL id l).2 = true := by
  induction l with
  | nil => obtain ⟨o, ho, _⟩ := hm; cases ho
  | cons a l ih =>
    rw [biasL]
    by_cases ha : a.ver = id
    · rw [if_pos ha]
    · rw [if_neg ha]
      obtain ⟨o, ho, hi⟩ := hm
      rcases List.mem_cons.1 ho with rfl | ho
      · exact absurd hi ha
      · exact ih ⟨o, ho, hi⟩
end Go.Proofs.Ytlhihmfefipehaa
namespace Go.Proofs.Ytlhihmfefipehaa
open Go.RowKit Go.Shelf
def vrows (l : List V2) : List Value := l.flatMap fun v => [.int .i64 v.x, .int .i64 v.y]
def brows (l : List BodyR) : List Value := l.flatMap fun b => [.int .i64 b.mu, .int .i64 b.rad, .slice b.tp b.track.length b.tc]
def srows (l : List StR) : List Value := l.flatMap fun o => [.int .i64 o.id, .int .i64 o.off.x, .int .i64 o.off.y]
def crows (l : List CatR) : List Value := l.flatMap fun c => [.int .i64 c.ver, .int .i64 c.lo, .int .i64 c.hi]
theorem vrows_add (l : List V2) (v : V2) : vrows (l ++ [v]) = vrows l ++ [.int .i64 v.x, .int .i64 v.y] := by unfold vrows; rw [List.flatMap_append]; simp
theorem brows_add (l : List BodyR) (b : BodyR) : brows (l ++ [b]) = brows l ++ [.int .i64 b.mu, .int .i64 b.rad, .slice b.tp b.track.length b.tc] := by unfold brows; rw [List.flatMap_append]; simp
theorem srows_add (l : List StR) (o : StR) : srows (l ++ [o]) = srows l ++ [.int .i64 o.id, .int .i64 o.off.x, .int .i64 o.off.y] := by unfold srows; rw [List.flatMap_append]; simp
theorem crows_add (l : List CatR) (c : CatR) : crows (l ++ [c]) = crows l ++ [.int .i64 c.ver, .int .i64 c.lo, .int .i64 c.hi] := by unfold crows; rw [List.flatMap_append]; simp
theorem flat_get {α : Type} (f : α → List Value) (k : Nat) (hk : ∀ a, (f a).length = k) : ∀ (l : List α) j (hj : j < l.length) i u, (f l[j])[i]? = some u → (l.flatMap f)[j * k + i]? = some u := by
  intro l
  induction l with
  | nil => intro j hj; simp at hj
  | cons a l ih =>
    intro j hj i u h
    rw [List.flatMap_cons]
    cases j with
    | zero =>
      have hi : i < (f a).length := (List.getElem?_eq_some_iff.1 h).1
      rw [Nat.zero_mul, Nat.zero_add, List.getElem?_append_left hi]; exact h
    | succ j =>
      have h1 := ih j (by simpa using hj) i u h
      rw [List.getElem?_append_right (by rw [hk, Nat.succ_mul]; omega), hk]
      rw [show (j + 1) * k + i - k = j * k + i by rw [Nat.succ_mul]; omega]
      exact h1
theorem owns_at {α : Type} (f : α → List Value) (k : Nat) (hk : ∀ a, (f a).length = k) {w : World} {base : Nat} {e : TypeId} {v : Value} (l : List α) (h : w.ownsRow base e k v l.length (l.flatMap f)) :
    ∃ p c, v = .slice p l.length c ∧ ∀ j (hj : j < l.length), ∃ B o, p = some ⟨B, o, none⟩ ∧ base ≤ B ∧ B < w.heap.size ∧ ∀ i u, (f l[j])[i]? = some u → w.cell? ⟨B, o + j * k + i, none⟩ = some u := by
  rcases owns_slice h with ⟨rfl, h0⟩ | ⟨g, c, rfl, hb, hg, hc⟩
  · exact ⟨none, 0, by rw [h0], fun j hj => by omega⟩
  · exact ⟨_, c, rfl, fun j hj => ⟨g, 0, rfl, hb, hg, fun i u hu => by rw [Nat.zero_add]; exact hc _ u (flat_get f k hk l j hj i u hu)⟩⟩
/-- A sky whose lists all lie in blocks from a base on. -/
structure SkyR.AtX (s : SkyR) (base : Nat) (W : World) : Prop where
  bs : ∀ j (h : j < s.bodies.length), (∀ i (hi : i < s.bodies[j].track.length), ∃ B o, s.bodies[j].tp = some ⟨B, o, none⟩ ∧ base ≤ B ∧ B < W.heap.size ∧ W.cell? ⟨B, o + i * 2, none⟩ = some (.int .i64 s.bodies[j].track[i].x) ∧ W.cell? ⟨B, o + i * 2 + 1, none⟩ = some (.int .i64 s.bodies[j].track[i].y)) ∧
    ∃ B o, s.bp = some ⟨B, o, none⟩ ∧ base ≤ B ∧ B < W.heap.size ∧ W.cell? ⟨B, o + j * 3, none⟩ = some (.int .i64 s.bodies[j].mu) ∧ W.cell? ⟨B, o + j * 3 + 1, none⟩ = some (.int .i64 s.bodies[j].rad) ∧ W.cell? ⟨B, o + j * 3 + 2, none⟩ = some (.slice s.bodies[j].tp s.bodies[j].track.length s.bodies[j].tc)
  ss : ∀ j (h : j < s.sts.length), ∃ B o, s.sp = some ⟨B, o, none⟩ ∧ base ≤ B ∧ B < W.heap.size ∧ W.cell? ⟨B, o + j * 3, none⟩ = some (.int .i64 s.sts[j].id) ∧ W.cell? ⟨B, o + j * 3 + 1, none⟩ = some (.int .i64 s.sts[j].off.x) ∧ W.cell? ⟨B, o + j * 3 + 2, none⟩ = some (.int .i64 s.sts[j].off.y)
  cs : ∀ j (h : j < s.cats.length), ∃ B o, s.cp = some ⟨B, o, none⟩ ∧ base ≤ B ∧ B < W.heap.size ∧ W.cell? ⟨B, o + j * 3, none⟩ = some (.int .i64 s.cats[j].ver) ∧ W.cell? ⟨B, o + j * 3 + 1, none⟩ = some (.int .i64 s.cats[j].lo) ∧ W.cell? ⟨B, o + j * 3 + 2, none⟩ = some (.int .i64 s.cats[j].hi)
theorem SkyR.AtX.at {s : SkyR} {base : Nat} {W : World} (h : s.AtX base W) : s.At W where
  bs := fun j hj => by
    obtain ⟨h1, B, o, hp, _, hB, c⟩ := h.bs j hj
    exact ⟨fun i hi => by obtain ⟨B, o, hp, _, hB, c⟩ := h1 i hi; exact ⟨B, o, hp, hB, c⟩, B, o, hp, hB, c⟩
  ss := fun j hj => by obtain ⟨B, o, hp, _, hB, c⟩ := h.ss j hj; exact ⟨B, o, hp, hB, c⟩
  cs := fun j hj => by obtain ⟨B, o, hp, _, hB, c⟩ := h.cs j hj; exact ⟨B, o, hp, hB, c⟩
theorem SkyR.AtX.keep {s : SkyR} {base : Nat} {W W' : World} (h : s.AtX base W) (hs : W.heap.size ≤ W'.heap.size) (hc : ∀ B o, base ≤ B → B < W.heap.size → W'.cell? ⟨B, o, none⟩ = W.cell? ⟨B, o, none⟩) : s.AtX base W' where
  bs := fun j hj => by
    obtain ⟨h1, B, o, hp, h2, hB, c1, c2, c3⟩ := h.bs j hj
    refine ⟨fun i hi => ?_, B, o, hp, h2, by omega, (hc _ _ h2 hB).trans c1, (hc _ _ h2 hB).trans c2, (hc _ _ h2 hB).trans c3⟩
    obtain ⟨B, o, hp, h2, hB, c1, c2⟩ := h1 i hi
    exact ⟨B, o, hp, h2, by omega, (hc _ _ h2 hB).trans c1, (hc _ _ h2 hB).trans c2⟩
  ss := fun j hj => by obtain ⟨B, o, hp, h2, hB, c1, c2, c3⟩ := h.ss j hj; exact ⟨B, o, hp, h2, by omega, (hc _ _ h2 hB).trans c1, (hc _ _ h2 hB).trans c2, (hc _ _ h2 hB).trans c3⟩
  cs := fun j hj => by obtain ⟨B, o, hp, h2, hB, c1, c2, c3⟩ := h.cs j hj; exact ⟨B, o, hp, h2, by omega, (hc _ _ h2 hB).trans c1, (hc _ _ h2 hB).trans c2, (hc _ _ h2 hB).trans c3⟩
theorem SkyR.AtX.rext {s : SkyR} {base b : Nat} {W : World} (h : s.AtX base W) (hb : b < base) (x : RExt W b) : s.AtX base x.now := h.keep x.size fun _ _ h1 h2 => x.cell h2 (by omega)
theorem SkyR.AtX.ext {s : SkyR} {base : Nat} {W : World} (h : s.AtX base W) (x : Ext W) : s.AtX base x.now := h.keep x.size fun _ _ _ h2 => x.cell h2
theorem SkyR.AtX.alloc {s : SkyR} {base : Nat} {W : World} (h : s.AtX base W) (o : Obj) : s.AtX base (W.alloc o) := h.ext ⟨W.alloc o, (Below.refl _ _).alloc (Nat.le_refl _) _⟩
theorem SkyR.AtX.drew {s : SkyR} {base : Nat} {W : World} (h : s.AtX base W) : s.AtX base W.drew := h.ext ⟨W.drew, (Below.refl _ _).drew⟩
/-- Bodies whose tracks are rows of the call's own. -/
def TrOwn (W : World) (base : Nat) (l : List BodyR) : Prop := ∀ b ∈ l, W.ownsRow base 43 2 (.slice b.tp b.track.length b.tc) b.track.length (vrows b.track)
theorem TrOwn.map {W W' : World} {base : Nat} {l : List BodyR} (h : TrOwn W base l) (f : ∀ v n xs, W.ownsRow base 43 2 v n xs → W'.ownsRow base 43 2 v n xs) : TrOwn W' base l := fun b hb => f _ _ _ (h b hb)
theorem owns_apart2 {w : World} {b b' : Nat} {e e' : TypeId} {s s' : Nat} {v v' : Value} {n n' : Nat} {xs xs' : List Value} (h : w.ownsRow b e s v n xs) (h' : w.ownsRow b' e' s' v' n' xs') (he : e ≠ e') : v.ownBlock = none ∨ v.ownBlock ≠ v'.ownBlock := by
  rcases h.2 with ⟨rfl, _⟩ | ⟨g, cap, cur, rfl, _, hg, _⟩
  · exact .inl rfl
  · rcases h'.2 with ⟨rfl, _⟩ | ⟨g', cap', cur', rfl, _, hg', _⟩
    · exact .inr (by simp [Value.ownBlock])
    · refine .inr fun hh => ?_
      simp only [Value.ownBlock, Option.some.injEq] at hh
      subst hh
      rw [hg] at hg'
      simp only [Option.some.injEq, Obj.cells.injEq] at hg'
      exact he hg'.2.1
theorem TrOwn.grown {W W' : World} {base base' k : Nat} {l : List BodyR} {e : TypeId} {v : Value} {n : Nat} {xs : List Value} (h : TrOwn W base l) (hown : W.ownsRow base' e k v n xs) (he : 43 ≠ e) (hg : W.grownBy W' v.ownBlock) : TrOwn W' base l :=
  h.map fun _ _ _ g => g.kept hg (owns_apart2 g hown he)
theorem TrOwn.belowX {W W' : World} {base b : Nat} {l : List BodyR} (h : TrOwn W base l) (hb : b < base) (y : BelowX b W.heap.size W W') : TrOwn W' base l := h.map fun _ _ _ g => owns_belowX g hb y
theorem TrOwn.alloc {W : World} {base : Nat} {l : List BodyR} (h : TrOwn W base l) (o : Obj) : TrOwn (W.alloc o) base l := h.map fun _ _ _ g => g.alloc o
theorem TrOwn.snoc {W : World} {base : Nat} {l : List BodyR} {b : BodyR} (h : TrOwn W base l) (hb : W.ownsRow base 43 2 (.slice b.tp b.track.length b.tc) b.track.length (vrows b.track)) : TrOwn W base (l ++ [b]) := by
  intro c hc
  rcases List.mem_append.1 hc with h1 | h1
  · exact h c h1
  · rw [List.mem_singleton.1 h1]; exact hb
theorem owns_put {w : World} {base : Nat} {e : TypeId} {size : Nat} {v : Value} {n : Nat} {xs : List Value} (h : w.ownsRow base e size v n xs) {B : Nat} (hB : B < base) (o : Nat) (u : Value) : (w.setCell ⟨B, o, none⟩ u).ownsRow base e size v n xs := ownsRow_setCell_below h (a := ⟨B, o, none⟩) hB u
theorem TrOwn.put {W : World} {base : Nat} {l : List BodyR} (h : TrOwn W base l) {B : Nat} (hB : B < base) (o : Nat) (u : Value) : TrOwn (W.setCell ⟨B, o, none⟩ u) base l := h.map fun _ _ _ g => owns_put g hB o u
theorem body_info : (Try.prog.info? 52).map (fun i => (i.zero, i.size, i.bytes)) = some (some (.agg #[.int .i64 0, .int .i64 0, .slice none 0 0]), 3, 40) := by kernel_rfl
theorem vec_info : (Try.prog.info? 43).map (fun i => (i.zero, i.size, i.bytes)) = some (some (.agg #[.int .i64 0, .int .i64 0]), 2, 16) := by kernel_rfl
theorem st_info : (Try.prog.info? 107).map (fun i => (i.zero, i.size, i.bytes)) = some (some (.agg #[.int .i64 0, .int .i64 0, .int .i64 0]), 3, 24) := by kernel_rfl
theorem cat_info : (Try.prog.info? 109).map (fun i => (i.zero, i.size, i.bytes)) = some (some (.agg #[.int .i64 0, .int .i64 0, .int .i64 0]), 3, 24) := by kernel_rfl
theorem cells2_new (w : World) (v0 v1 : Value) (T : TypeId) : ∀ j u, [v0, v1][j]? = some u → (w.alloc (.cells #[v0, v1] T)).cell? ((⟨w.heap.size, 0, none⟩ : Addr).add j) = some u := by
  intro j u hj
  have hl : j < 2 := by simpa using (List.getElem?_eq_some_iff.1 hj).1
  have hadd : (⟨w.heap.size, 0, none⟩ : Addr).add j = ⟨w.heap.size, j, none⟩ := by unfold Addr.add; split <;> simp_all
  rw [hadd]
  rcases (show j = 0 ∨ j = 1 by omega) with rfl | rfl <;> (simp at hj; subst hj; simp [go_sem])
theorem cells3_new (w : World) (v0 v1 v2 : Value) (T : TypeId) : ∀ j u, [v0, v1, v2][j]? = some u → (w.alloc (.cells #[v0, v1, v2] T)).cell? ((⟨w.heap.size, 0, none⟩ : Addr).add j) = some u := by
  intro j u hj
  have hl : j < 3 := by simpa using (List.getElem?_eq_some_iff.1 hj).1
  have hadd : (⟨w.heap.size, 0, none⟩ : Addr).add j = ⟨w.heap.size, j, none⟩ := by unfold Addr.add; split <;> simp_all
  rw [hadd]
  rcases (show j = 0 ∨ j = 1 ∨ j = 2 by omega) with rfl | rfl | rfl <;> (simp at hj; subst hj; simp [go_sem])
end Go.Proofs.Ytlhihmfefipehaa

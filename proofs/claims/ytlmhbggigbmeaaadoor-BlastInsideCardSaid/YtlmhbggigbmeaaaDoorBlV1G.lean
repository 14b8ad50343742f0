/- Rows of layers that a call has made. No condition. Rows of a call's own that stand apart from each other and from boxes. No condition. The blows of a rock with a fall as plain mathematics; rows of blows; blowsOf. No condition. The blows of a rock as the reference lists them: mathematics. The late stone bursts in no layer that the early one does not burst in. Condition: a valid rock and valid layers. Tolls as mathematics: more energy harms no fewer; the blows of a rock have energies in order. Condition: valid grades, land, air and rock. -/
import Derived.Test.YtlmhbggigbmeaaaDoorBlGrG
import Derived.Test.YtlmhbggigbmeaaaDoorBlMG
import Derived.OwnWalk
import Derived.OneCell
import Derived.Test.YtlmhbggigbmeaaaDoorBlIt
import Derived.Test.YtlmhbggigbmeaaaDoorBlCR
import Derived.Test.YtlmhbggigbmeaaaDoorBlBgG
import Derived.Test.YtlmhbggigbmeaaaDoorBlU1
namespace Go.Proofs.YtlmhbggigbmeaaaDoor
open Go.RowKit Go.Shelf
def vrows (l : List V2) : List Value := l.flatMap fun v => [.int .i64 v.x, .int .i64 v.y]
theorem vrows_add (l : List V2) (v : V2) : vrows (l ++ [v]) = vrows l ++ [.int .i64 v.x, .int .i64 v.y] := by unfold vrows; rw [List.flatMap_append]; simp
theorem vrows_length (l : List V2) : (vrows l).length = l.length * 2 := by
  unfold vrows; induction l with
  | nil => rfl
  | cons k l ih => rw [List.flatMap_cons, List.length_append, ih, List.length_cons]; simp; omega
theorem flat_get {α : Type} (f : α → List Value) (k : Nat) (hk : ∀ a, (f a).length = k) : ∀ (l : List α) j (hj : j < l.length) i u, (f l[j])[i]? = some u → (l.flatMap f)[j * k + i]? = some u := by
  intro l
  induction l with
  | nil => intro j hj; simp at hj
  | cons a l ih =>
    intro j hj i u h
    rw [List.flatMap_cons]
    cases j with
    | zero =>
      have hi : i < (f a).length := (List.getElem?_eq_some_iff.1 h).1
      rw [Nat.zero_mul, Nat.zero_add, List.getElem?_append_left hi]; exact h
    | succ j =>
      have h1 := ih j (by simpa using hj) i u h
      rw [List.getElem?_append_right (by rw [hk, Nat.succ_mul]; omega), hk]
      rw [show (j + 1) * k + i - k = j * k + i by rw [Nat.succ_mul]; omega]
      exact h1
theorem owns_at {α : Type} (f : α → List Value) (k : Nat) (hk : ∀ a, (f a).length = k) {w : World} {base : Nat} {e : TypeId} {v : Value} (l : List α) (h : w.ownsRow base e k v l.length (l.flatMap f)) :
    ∃ p c, v = .slice p l.length c ∧ ∀ j (hj : j < l.length), ∃ B o, p = some ⟨B, o, none⟩ ∧ base ≤ B ∧ B < w.heap.size ∧ ∀ i u, (f l[j])[i]? = some u → w.cell? ⟨B, o + j * k + i, none⟩ = some u := by
  rcases owns_slice h with ⟨rfl, h0⟩ | ⟨g, c, rfl, hb, hg, hc⟩
  · exact ⟨none, 0, by rw [h0], fun j hj => by omega⟩
  · exact ⟨_, c, rfl, fun j hj => ⟨g, 0, rfl, hb, hg, fun i u hu => by rw [Nat.zero_add]; exact hc _ u (flat_get f k hk l j hj i u hu)⟩⟩
theorem cells2_new (w : World) (v0 v1 : Value) (T : TypeId) : ∀ j u, [v0, v1][j]? = some u → (w.alloc (.cells #[v0, v1] T)).cell? ((⟨w.heap.size, 0, none⟩ : Addr).add j) = some u := by
  intro j u hj
  have hl : j < 2 := by simpa using (List.getElem?_eq_some_iff.1 hj).1
  have hadd : (⟨w.heap.size, 0, none⟩ : Addr).add j = ⟨w.heap.size, j, none⟩ := by unfold Addr.add; split <;> simp_all
  rw [hadd]
  rcases (show j = 0 ∨ j = 1 by omega) with rfl | rfl <;> (simp at hj; subst hj; simp [go_sem])
theorem layer_info : (Tryd.prog.info? 90).map (fun i => (i.zero, i.size, i.bytes)) = some (some (.agg #[.int .i64 0, .int .i64 0]), 2, 16) := by kernel_rfl
theorem vecs_of {W : World} {base : Nat} {e : TypeId} {v : Value} {l : List V2} (h : W.ownsRow base e 2 v l.length (vrows l)) : ∃ p c, v = .slice p l.length c ∧ VecsAt W p l ∧ ∀ A o, l.length ≠ 0 → p = some ⟨A, o, none⟩ → base ≤ A := by
  obtain ⟨p, c, rfl, hc⟩ := owns_at (fun v : V2 => [.int .i64 v.x, .int .i64 v.y]) 2 (fun _ => rfl) l h
  refine ⟨p, c, rfl, fun j hj => ?_, fun A o h0 hp => ?_⟩
  · obtain ⟨B, o, hp, hb, hB, hv⟩ := hc j hj
    exact ⟨B, o, hp, hB, hv 0 _ rfl, hv 1 _ rfl⟩
  · obtain ⟨B, q, hp2, hb, -⟩ := hc 0 (by omega)
    rw [hp] at hp2
    injection hp2 with hp2
    injection hp2 with h1 h2
    omega
end Go.Proofs.YtlmhbggigbmeaaaDoor
namespace Go.Proofs.YtlmhbggigbmeaaaDoor
open Go.RowKit Go.Shelf
theorem row_ne {w : World} {base : Nat} {e T : TypeId} {size B n : Nat} {v : Value} {xs : List Value} {cs : Array Value} {f : Nat × Nat} (h : w.ownsRow base e size v n xs) (hY : w.heap[B]? = some (.cells cs T f)) (hne : T ≠ e) : some B ≠ v.ownBlock := by
  rcases h.2 with ⟨rfl, _⟩ | ⟨g, cap, cur, rfl, _, hc, _⟩
  · intro e; cases e
  · intro e'
    simp only [Value.ownBlock, Option.some.injEq] at e'
    subst e'
    rw [hc] at hY
    simp only [Option.some.injEq, Obj.cells.injEq] at hY
    exact hne hY.2.1.symm
theorem row_apart {w : World} {b b' : Nat} {e e' : TypeId} {s s' : Nat} {v v' : Value} {n n' : Nat} {xs xs' : List Value} (h : w.ownsRow b e s v n xs) (h' : w.ownsRow b' e' s' v' n' xs') (he : e ≠ e') : v.ownBlock = none ∨ v.ownBlock ≠ v'.ownBlock := by
  rcases h.2 with ⟨rfl, _⟩ | ⟨g, cap, cur, rfl, _, hg, _⟩
  · exact .inl rfl
  · rcases h'.2 with ⟨rfl, _⟩ | ⟨g', cap', cur', rfl, _, hg', _⟩
    · exact .inr (by simp [Value.ownBlock])
    · refine .inr fun hh => ?_
      simp only [Value.ownBlock, Option.some.injEq] at hh
      subst hh
      rw [hg] at hg'
      simp only [Option.some.injEq, Obj.cells.injEq] at hg'
      exact he hg'.2.1
theorem row_put {w : World} {base : Nat} {e : TypeId} {size : Nat} {v : Value} {n : Nat} {xs : List Value} (h : w.ownsRow base e size v n xs) {B : Nat} (hB : B < base) (o : Nat) (u : Value) : (w.setCell ⟨B, o, none⟩ u).ownsRow base e size v n xs := ownsRow_setCell_below h (a := ⟨B, o, none⟩) hB u
theorem blk_set (w : World) (a : Addr) (u : Value) (k : Nat) (h : k ≠ a.block) : (w.setCell a u).heap[k]? = w.heap[k]? := by
  simp only [World.setCell, Array.getElem?_modify]
  rw [if_neg (by omega)]
end Go.Proofs.YtlmhbggigbmeaaaDoor
namespace Go.Proofs.YtlmhbggigbmeaaaDoor
open Go.RowKit Go.Shelf
attribute [local go_sem] Option.isSome_some Ext.cell Ext.frozen Ext.lt Ext.le Ext.lt_add Ext.le_add Ext.ne Ext.ne' lt2 lt3 lt4 lt5 le2 le3 le4
/-- Blows up to the first one by which all stones have ended. -/
def thru : List BlowR → List BlowR
  | [] => []
  | x :: r => if x.all = true then [x] else x :: thru r
theorem thru_of : ∀ (q : List BlowR) (x : BlowR) (L : List BlowR), (q ++ [x]) <+: L → (∀ y ∈ q, y.all = false) → x.all = true → thru L = q ++ [x]
  | [], x, L, h, _, hx => by
    obtain ⟨r, rfl⟩ := h
    simp [thru, hx]
  | y :: q, x, L, h, hq, hx => by
    obtain ⟨r, rfl⟩ := h
    have h1 := thru_of q x (q ++ [x] ++ r) ⟨r, rfl⟩ (fun z hz => hq z (by simp [hz])) hx
    have h2 := hq y (by simp)
    simp only [List.cons_append, thru, h2, Bool.false_eq_true, if_false]
    rw [h1]
theorem blowsL_last (s t : StoneR) : ∀ (l : List V2) (i : Nat) (we wl : Int), ∃ x ∈ blowsL s t l i we wl, x.all = true
  | [], i, we, wl => ⟨⟨i, massV t * wl, massV s * we, true⟩, by simp [blowsL], rfl⟩
  | v :: l, i, we, wl => by
    obtain ⟨x, hx, hb⟩ := blowsL_last s t l (i + 1) (stp we (kOf s v) (dOf s)) (stp wl (kOf t v) (dOf t))
    exact ⟨x, by unfold blowsL; exact List.mem_append.2 (.inr hx), hb⟩
theorem blowsL_len (s t : StoneR) : ∀ (l : List V2) (i : Nat) (we wl : Int), (blowsL s t l i we wl).length ≤ l.length + 1
  | [], i, we, wl => by simp [blowsL]
  | v :: l, i, we, wl => by
    have := blowsL_len s t l (i + 1) (stp we (kOf s v) (dOf s)) (stp wl (kOf t v) (dOf t))
    unfold blowsL
    rw [List.length_append, List.length_cons]
    split
    · simp only [List.length_cons, List.length_nil]; omega
    · simp only [List.length_nil]; omega
/-- The blows of a rock with a fall. -/
def blowsV (l : List V2) (k : RockR) (f : FallR) : List BlowR := thru (blowsL (firstS k f) (lastS k f) l 0 ((firstS k f).speed * (firstS k f).speed) ((lastS k f).speed * (lastS k f).speed))
def rowsB (l : List BlowR) : List Value := l.flatMap fun x => [.int .i64 x.n, .int .i64 x.lo, .int .i64 x.hi]
theorem rowsB_add (l : List BlowR) (x : BlowR) : rowsB (l ++ [x]) = rowsB l ++ [.int .i64 x.n, .int .i64 x.lo, .int .i64 x.hi] := by unfold rowsB; rw [List.flatMap_append]; simp
theorem rockE_ok {k : RockR} {f : FallR} (h : rockE k f = 0) : (firstS k f).Ok ∧ (lastS k f).Ok ∧ (k.size.x ≤ k.size.y ∧ k.dens.x ≤ k.dens.y ∧ k.strong.x ≤ k.strong.y ∧ k.spin.x ≤ k.spin.y ∧ k.shape.x ≤ k.shape.y ∧ f.speed.x ≤ f.speed.y ∧ f.slope.x ≤ f.slope.y) := by
  have e0 : ∀ v m : V2, spE v m = 0 → v.x ≤ v.y ∧ m.x ≤ v.x ∧ v.y ≤ m.y := fun v m h => by
    unfold spE at h
    split at h
    · cases h
    · split at h
      · omega
      · cases h
  unfold rockE spansL limsL at h
  simp only [firstE] at h
  split at h
  · rename_i h0
    split at h
    · rename_i h1
      split at h
      · rename_i h2
        split at h
        · rename_i h3
          split at h
          · rename_i h4
            split at h
            · rename_i h5
              split at h
              · rename_i h6
                have q0 := e0 _ _ h0
                have q1 := e0 _ _ h1
                have q2 := e0 _ _ h2
                have q3 := e0 _ _ h3
                have q4 := e0 _ _ h4
                have q5 := e0 _ _ h5
                have q6 := e0 _ _ h6
                simp only at q0 q1 q2 q3 q4 q5 q6
                exact ⟨⟨by simp only [firstS]; omega, by simp only [firstS]; omega, by simp only [firstS]; omega, by simp only [firstS]; omega, by simp only [firstS]; omega, by simp only [firstS]; omega, by simp only [firstS]; omega⟩, ⟨by simp only [lastS]; omega, by simp only [lastS]; omega, by simp only [lastS]; omega, by simp only [lastS]; omega, by simp only [lastS]; omega, by simp only [lastS]; omega, by simp only [lastS]; omega⟩, q0.1, q1.1, q2.1, q3.1, q4.1, q5.1, q6.1⟩
              · contradiction
            · contradiction
          · contradiction
        · contradiction
      · contradiction
    · contradiction
  · contradiction
theorem blowsOf_any (p : Option Addr) (n c : Nat) (k : RockR) (f : FallR) (w : World) : Calls Tryd.prog 54 #[.slice p n c, k.val, f.val] w fun e w' =>
    e = .returned (.func (.func 79) #[] #[.pointer (some ⟨w.heap.size, 0, none⟩), .pointer (some ⟨w.heap.size + 1, 0, none⟩), .pointer (some ⟨w.heap.size + 1 + 1, 0, none⟩)]) ∧
    w' = ((w.alloc (.cells #[.slice p n c] 22)).alloc (.cells #[.int .i64 k.size.x, .int .i64 k.size.y, .int .i64 k.dens.x, .int .i64 k.dens.y, .int .i64 k.strong.x, .int .i64 k.strong.y, .int .i64 k.spin.x, .int .i64 k.spin.y, .int .i64 k.shape.x, .int .i64 k.shape.y, .bool k.pile] 31)).alloc (.cells #[.int .i64 f.speed.x, .int .i64 f.speed.y, .int .i64 f.slope.x, .int .i64 f.slope.y] 33) := by
  unfold RockR.val FallR.val
  go_enter Tryd.func54, Tryd.ntmps54
  go_wp2_with (first | ((first | with_reducible refine wrx2 ?_ | with_reducible refine wrx ?_); (repeat (first | go_big_quiet_step ((first | fail)) | quiet_step ((first | fail)))); refine wpQuiet_nil ?_; rintro _ ⟨yr, rfl⟩; have syr := Ext.size yr; (repeat (first | rw [World.size_alloc] at syr | rw [World.size_setCell] at syr | rw [World.size_drew] at syr))))
  go_returns
  exact ⟨rfl, rfl⟩
theorem row_other {W W' : World} {base : Nat} {e : TypeId} {size : Nat} {v : Value} {n : Nat} {xs : List Value} {row : Option Nat} (h : W.ownsRow base e size v n xs) (hg : W.grownBy W' row) (hr : ∀ r, row = some r → ∃ o : Obj, W.heap[r]? = some o ∧ o.isCells = false) : W'.ownsRow base e size v n xs := by
  refine h.kept hg ?_
  rcases h.2 with ⟨rfl, _⟩ | ⟨g, cap, cur, rfl, _, hc, _⟩
  · exact .inl rfl
  · refine .inr fun e' => ?_
    obtain ⟨o, ho, hn⟩ := hr g e'.symm
    rw [hc] at ho
    injection ho with ho
    subst ho
    cases hn
theorem row_same {W W' : World} {base : Nat} {e : TypeId} {size : Nat} {v : Value} {n : Nat} {xs : List Value} (h : W.ownsRow base e size v n xs) (hk : ∀ k, base ≤ k → k < W.heap.size → W'.heap[k]? = W.heap[k]?) : W'.ownsRow base e size v n xs := by
  refine ⟨h.1, ?_⟩
  rcases h.2 with h2 | ⟨g, cap, cur, hv, hg, hc, rest⟩
  · exact .inl h2
  · exact .inr ⟨g, cap, cur, hv, hg, (hk g hg (Array.getElem?_eq_some_iff.1 hc).1).trans hc, rest⟩
theorem boxed_other {W W' : World} {B : Nat} {t : TypeId} {v : Value} {row : Option Nat} (h : Boxed W B t v) (hg : W.grownBy W' row) (hr : ∀ r, row = some r → ∃ o : Obj, W.heap[r]? = some o ∧ o.isCells = false) : Boxed W' B t v :=
  h.kept hg fun e => by
    obtain ⟨o, ho, hn⟩ := hr B e.symm
    rw [show W.heap[B]? = _ from h] at ho
    injection ho with ho
    subst ho
    cases hn
end Go.Proofs.YtlmhbggigbmeaaaDoor
namespace Go.Proofs.YtlmhbggigbmeaaaDoor
open Go.RowKit Go.Shelf
/-- The blows up to the layer in which the late stone bursts. -/
def rblL (s t : StoneR) : List V2 → Nat → Int → Int → List BlowR
  | [], i, we, wl => [⟨i, massV t * wl, massV s * we, true⟩]
  | v :: l, i, we, wl => (if burstB s v.y we = true then [⟨i, massV t * wl, massV s * we, burstB t v.y wl⟩] else []) ++ (if burstB t v.y wl = true then [] else rblL s t l (i + 1) (stp we (kOf s v) (dOf s)) (stp wl (kOf t v) (dOf t)))
theorem cei_at {n c q : Int} (hc : 0 < c) : cei n c ≤ q ↔ n ≤ q * c := by
  rw [← cei_way hc]
  constructor
  · intro h
    have h1 : (n + c - 1) / c < q + 1 := by omega
    have h2 := (Int.ediv_lt_iff_lt_mul hc).1 h1
    rw [Int.add_mul, Int.one_mul] at h2
    omega
  · intro h
    have h2 : n + c - 1 < (q + 1) * c := by rw [Int.add_mul, Int.one_mul]; omega
    have h1 := (Int.ediv_lt_iff_lt_mul hc).2 h2
    omega
theorem cei_anti {n c d : Int} (hc : 0 < c) (h : c ≤ d) (hn : 0 ≤ cei n c) : cei n d ≤ cei n c := by
  refine (cei_at (by omega)).2 ?_
  have h1 := (cei_at hc).1 (Int.le_refl (cei n c))
  have h2 := Int.mul_le_mul_of_nonneg_left h hn
  omega
/-- What two stones of a rock, the early and the late one, are to each other. -/
structure EarlyLate (s t : StoneR) : Prop where
  es : s.Ok
  lt : t.Ok
  holds : holdsV s ≤ holdsV t
  d : dOf t ≤ dOf s
  k : ∀ v : V2, (1 ≤ v.x ∧ v.x ≤ 1000) → (0 ≤ v.y ∧ v.y ≤ 1000) → kOf s v ≤ kOf t v
theorem early_late {k : RockR} {f : FallR} (h : rockE k f = 0) : EarlyLate (firstS k f) (lastS k f) := by
  obtain ⟨h1, h2, a0, a1, a2, a3, a4, a5, a6⟩ := rockE_ok h
  refine ⟨h1, h2, ?_, ?_, ?_⟩
  · unfold holdsV
    have e1 : (firstS k f).pile = k.pile := rfl
    have e2 : (lastS k f).pile = k.pile := rfl
    rw [e1, e2]
    split
    · have q1 := h1.strong
      have q2 := h2.strong
      have q3 := h1.spin
      have q4 := h2.spin
      simp only [firstS, lastS] at *
      exact Int.ediv_le_ediv (by omega) (Int.mul_le_mul a2 (by omega) (by omega) (by omega))
    · exact a2
  · have q1 := h1.dens
    have q2 := h2.dens
    have q3 := h1.size
    have q4 := h2.size
    unfold dOf
    simp only [firstS, lastS] at *
    have := Int.mul_le_mul a1 a0 (by omega) (by omega)
    omega
  · intro v hx hy
    have w1 := way_bounds h1 hx
    have w2 := way_bounds h2 hx
    have q1 := h1.slope
    have q2 := h2.slope
    have q3 := h1.shape
    have q4 := h2.shape
    unfold kOf
    simp only [firstS, lastS] at *
    have c1 := cei_anti (n := v.x * 1000) (c := f.slope.x) (d := f.slope.y) (by omega) a6 w2.1
    exact Int.mul_le_mul_of_nonneg_left (Int.mul_le_mul c1 a4 (by omega) w2.1) hy.1
theorem burst_late {s t : StoneR} (h : EarlyLate s t) {y we wl : Int} (hy : 0 ≤ y) (hw : wl ≤ we) (hb : burstB t y wl = true) : burstB s y we = true := by
  unfold burstB at *
  rw [decide_eq_true_eq] at *
  have h1 := h.holds
  have h2 := Int.mul_le_mul_of_nonneg_left hw hy
  omega
theorem stp_late {s t : StoneR} (h : EarlyLate s t) {v : V2} (hx : 1 ≤ v.x ∧ v.x ≤ 1000) (hy : 0 ≤ v.y ∧ v.y ≤ 1000) {we wl : Int} (h0 : 0 ≤ wl) (hw : wl ≤ we) : stp wl (kOf t v) (dOf t) ≤ stp we (kOf s v) (dOf s) :=
  stp_mono h0 hw (k_bounds h.es hx hy).2.2 (h.k v hx hy) (by have := (d_bounds h.lt).2; omega) h.d
theorem thru_rbl {s t : StoneR} (h : EarlyLate s t) : ∀ (l : List V2) (i : Nat) (we wl : Int), (∀ v ∈ l, (1 ≤ v.x ∧ v.x ≤ 1000) ∧ 0 ≤ v.y ∧ v.y ≤ 1000) → 0 ≤ wl → wl ≤ we → thru (blowsL s t l i we wl) = rblL s t l i we wl
  | [], i, we, wl, _, _, _ => by simp [blowsL, thru, rblL]
  | v :: l, i, we, wl, hl, h0, hw => by
    obtain ⟨hx, hy⟩ := hl v (by simp)
    have ih := thru_rbl h l (i + 1) (stp we (kOf s v) (dOf s)) (stp wl (kOf t v) (dOf t)) (fun u hu => hl u (by simp [hu])) (stp_nonneg _ _ _) (stp_late h hx hy h0 hw)
    unfold blowsL rblL
    rw [← ih]
    by_cases hb : burstB s v.y we = true
    · rw [if_pos hb]
      simp only [List.cons_append, List.nil_append, thru]
      split <;> rfl
    · rw [if_neg hb, if_neg (fun q => hb (burst_late h hy.1 hw q))]
      rfl
end Go.Proofs.YtlmhbggigbmeaaaDoor
namespace Go.Proofs.YtlmhbggigbmeaaaDoor
open Go.RowKit Go.Shelf
theorem GradesOk.pw' {l : List V2} (h : GradesOk l) : l.Pairwise (fun g h => g.y ≤ h.y) := by
  rw [List.pairwise_iff_getElem]
  intro i j hi hj hij
  have key : ∀ d, ∀ i (h1 : i < l.length) (h2 : i + d < l.length), l[i].y ≤ l[i + d].y := by
    intro d
    induction d with
    | zero => intro i h1 h2; exact Int.le_refl _
    | succ d ih => intro i h1 h2; exact Int.le_trans (ih i h1 (by omega)) (h.up (i + d) (by omega)).2
  have := key (j - i) i hi (by omega)
  simpa only [show i + (j - i) = j by omega] using this
theorem reachL_le {l : List V2} (h : GradesOk l) {e e' : Int} (he : e ≤ e') : reachL e l 0 ≤ reachL e' l 0 := reachL_mono he l 0 0 (Int.le_refl _) (fun g hg => (h.rng g hg).2.1) h.pw'
theorem harmV_le {x : LandR} (hok : x.Ok) {a r r' : Int} (h : r ≤ r') : harmV x a r ≤ harmV x a r' := seg_mono (fun n hn => (hok.num n hn).1) (by omega) (by omega)
theorem waveV_le {x : LandR} (hok : x.Ok) {a r r' : Int} (h0 : 0 ≤ a) (h1 : a < x.pl.length) (hr : 0 ≤ r) (h : r ≤ r') : waveV x a r ≤ waveV x a r' := by
  have e : r'.toNat = r.toNat + (r' - r).toNat := by omega
  unfold waveV
  rw [e]
  exact seg_mono (fun n hn => (hok.num n hn).1) (run_left_more _ _ _ _ h0) (run_right_more _ _ _ _ (by rw [hok.len]; exact h1))
theorem harmsV_le {n : Nat} {g : List V2} {x : LandR} (hg : GradesOk g) (hok : x.Ok) {layer e e' a : Int} (h0 : 0 ≤ a) (h1 : a < x.pl.length) (he : e ≤ e') : harmsV n g x layer e a ≤ harmsV n g x layer e' a := by
  have hR := reachL_in (e := e) g 0 (fun u hu => (hg.rng u hu).2) (by omega) (by omega)
  have hm := reachL_le hg he
  unfold harmsV reachW
  split
  · exact waveV_le hok h0 h1 hR.1 hm
  · exact harmV_le hok (by omega)
theorem seg_bound {x : LandR} (hok : x.Ok) (a b : Int) (h : a ≤ b + 1) : 0 ≤ seg x.pl a b ∧ seg x.pl a b ≤ 1717986918400 := by
  have hm := psum_mono (l := x.pl) (fun n hn => (hok.num n hn).1) h
  have h0 := psum_mono (l := x.pl) (fun n hn => (hok.num n hn).1) (show min a 0 ≤ a by omega)
  have hz := psum_zero (l := x.pl) (k := min a 0) (by omega)
  have h2 := psum_mono (l := x.pl) (fun n hn => (hok.num n hn).1) (show b + 1 ≤ max (b + 1) x.pl.length by omega)
  have h3 := psum_all (l := x.pl) (k := max (b + 1) x.pl.length) (by omega)
  have h4 := sum_bound hok.num
  have h5 := hok.le
  unfold seg
  omega
theorem harmsV_bound {n : Nat} {g : List V2} {x : LandR} (hg : GradesOk g) (hok : x.Ok) {layer e a : Int} (h0 : 0 ≤ a) (h1 : a < x.pl.length) : 0 ≤ harmsV n g x layer e a ∧ harmsV n g x layer e a ≤ 1717986918400 := by
  have hR := reachL_in (e := e) g 0 (fun u hu => (hg.rng u hu).2) (by omega) (by omega)
  unfold harmsV
  split
  · have a1 := run_left x.wl (reachL e g 0).toNat a h0
    have a2 := run_right x.wl (reachL e g 0).toNat a (by rw [hok.len]; exact h1)
    exact seg_bound hok _ _ (by omega)
  · have : 0 ≤ reachW n g layer e := by unfold reachW; omega
    exact seg_bound hok _ _ (by omega)
theorem massV_le {k : RockR} {f : FallR} (h : rockE k f = 0) : massV (lastS k f) ≤ massV (firstS k f) := by
  obtain ⟨h1, h2, a0, a1, -⟩ := rockE_ok h
  have q1 := h1.size
  have q2 := h2.size
  have q3 := h1.dens
  have q4 := h2.dens
  unfold massV
  simp only [firstS, lastS] at *
  have s1 := Int.mul_le_mul a0 a0 (by omega) (by omega)
  have s0 := Int.mul_nonneg (show 0 ≤ k.size.x by omega) (show 0 ≤ k.size.x by omega)
  have s0' := Int.mul_nonneg (show 0 ≤ k.size.y by omega) (show 0 ≤ k.size.y by omega)
  have s2 := Int.mul_le_mul s1 a0 (by omega) (by omega)
  have s3 := Int.mul_nonneg s0' (show 0 ≤ k.size.y by omega)
  exact Int.ediv_le_ediv (by omega) (Int.mul_le_mul s2 a1 (by omega) (by omega))
/-- The blows of a rock: their layers, and their energies in order. -/
structure BlowOk (n : Nat) (b : BlowR) : Prop where
  layer : b.n ≤ n
  le : b.lo ≤ b.hi
theorem rblL_ok {k : RockR} {f : FallR} (h : rockE k f = 0) (N : Nat) : ∀ (l : List V2) (i : Nat) (we wl : Int), (∀ v ∈ l, (1 ≤ v.x ∧ v.x ≤ 1000) ∧ 0 ≤ v.y ∧ v.y ≤ 1000) → i + l.length = N → 0 ≤ wl → wl ≤ we → ∀ b ∈ rblL (firstS k f) (lastS k f) l i we wl, BlowOk N b
  | [], i, we, wl, _, hi, h0, hw, b, hb => by
    have hm := massV_le h
    obtain ⟨h1, h2, -⟩ := rockE_ok h
    obtain ⟨-, -, m5, m6⟩ := mass_bounds h2
    have m0 : 0 ≤ massV (lastS k f) := by unfold massV; omega
    simp only [rblL, List.mem_singleton] at hb
    subst hb
    exact ⟨by simp at hi; simp only; omega, Int.mul_le_mul hm hw h0 (by omega)⟩
  | v :: l, i, we, wl, hl, hi, h0, hw, b, hb => by
    have hm := massV_le h
    obtain ⟨h1, h2, -⟩ := rockE_ok h
    obtain ⟨-, -, m5, m6⟩ := mass_bounds h2
    have m0 : 0 ≤ massV (lastS k f) := by unfold massV; omega
    obtain ⟨hx, hy⟩ := hl v (by simp)
    simp only [List.length_cons] at hi
    unfold rblL at hb
    rcases List.mem_append.1 hb with q | q
    · split at q
      · simp only [List.mem_singleton] at q
        subst q
        exact ⟨by simp only; omega, Int.mul_le_mul hm hw h0 (by omega)⟩
      · cases q
    · split at q
      · cases q
      · exact rblL_ok h N l (i + 1) _ _ (fun u hu => hl u (by simp [hu])) (by omega) (stp_nonneg _ _ _) (stp_late (early_late h) hx hy h0 hw) b q
theorem rblL_ne (s t : StoneR) : ∀ (l : List V2) (i : Nat) (we wl : Int), (∀ v ∈ l, 0 ≤ v.y) → wl ≤ we → EarlyLate s t → (∀ v ∈ l, (1 ≤ v.x ∧ v.x ≤ 1000) ∧ 0 ≤ v.y ∧ v.y ≤ 1000) → 0 ≤ wl → 0 < (rblL s t l i we wl).length
  | [], _, _, _, _, _, _, _, _ => by simp [rblL]
  | v :: l, i, we, wl, h, hw, el, hl, h0 => by
    obtain ⟨hx, hy⟩ := hl v (by simp)
    unfold rblL
    rw [List.length_append]
    by_cases q : burstB t v.y wl = true
    · rw [if_pos (burst_late el (h v (by simp)) hw q)]
      simp only [List.length_cons]
      omega
    · rw [if_neg q]
      have := rblL_ne s t l (i + 1) (stp we (kOf s v) (dOf s)) (stp wl (kOf t v) (dOf t)) (fun u hu => h u (by simp [hu])) (stp_late el hx hy h0 hw) el (fun u hu => hl u (by simp [hu])) (stp_nonneg _ _ _)
      omega
end Go.Proofs.YtlmhbggigbmeaaaDoor

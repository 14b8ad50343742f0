/- Rows of layers that a call has made. No condition. Rows of a call's own that stand apart from each other and from boxes. No condition. The blows of a rock with a fall as plain mathematics; rows of blows; blowsOf. No condition. -/
import Derived.Test.YtlmhbggigbmeaaaDoorBlGrG
import Derived.Test.YtlmhbggigbmeaaaDoorBlMG
import Derived.OwnWalk
import Derived.OneCell
import Derived.Test.YtlmhbggigbmeaaaDoorBlIt
import Derived.Test.YtlmhbggigbmeaaaDoorBlCR
namespace Go.Proofs.YtlmhbggigbmeaaaDoor
open Go.RowKit Go.Shelf
def vrows (l : List V2) : List Value := l.flatMap fun v => [.int .i64 v.x, .int .i64 v.y]
theorem vrows_add (l : List V2) (v : V2) : vrows (l ++ [v]) = vrows l ++ [.int .i64 v.x, .int .i64 v.y] := by unfold vrows; rw [List.flatMap_append]; simp
theorem vrows_length (l : List V2) : (vrows l).length = l.length * 2 := by
  unfold vrows; induction l with
  | nil => rfl
  | cons k l ih => rw [List.flatMap_cons, List.length_append, ih, List.length_cons]; simp; omega
theorem flat_get {α : Type} (f : α → List Value) (k : Nat) (hk : ∀ a, (f a).length = k) : ∀ (l : List α) j (hj : j < l.length) i u, (f l[j])[i]? = some u → (l.flatMap f)[j * k + i]? = some u := by
  intro l
  induction l with
  | nil => intro j hj; simp at hj
  | cons a l ih =>
    intro j hj i u h
    rw [List.flatMap_cons]
    cases j with
    | zero =>
      have hi : i < (f a).length := (List.getElem?_eq_some_iff.1 h).1
      rw [Nat.zero_mul, Nat.zero_add, List.getElem?_append_left hi]; exact h
    | succ j =>
      have h1 := ih j (by simpa using hj) i u h
      rw [List.getElem?_append_right (by rw [hk, Nat.succ_mul]; omega), hk]
      rw [show (j + 1) * k + i - k = j * k + i by rw [Nat.succ_mul]; omega]
      exact h1
theorem owns_at {α : Type} (f : α → List Value) (k : Nat) (hk : ∀ a, (f a).length = k) {w : World} {base : Nat} {e : TypeId} {v : Value} (l : List α) (h : w.ownsRow base e k v l.length (l.flatMap f)) :
    ∃ p c, v = .slice p l.length c ∧ ∀ j (hj : j < l.length), ∃ B o, p = some ⟨B, o, none⟩ ∧ base ≤ B ∧ B < w.heap.size ∧ ∀ i u, (f l[j])[i]? = some u → w.cell? ⟨B, o + j * k + i, none⟩ = some u := by
  rcases owns_slice h with ⟨rfl, h0⟩ | ⟨g, c, rfl, hb, hg, hc⟩
  · exact ⟨none, 0, by rw [h0], fun j hj => by omega⟩
  · exact ⟨_, c, rfl, fun j hj => ⟨g, 0, rfl, hb, hg, fun i u hu => by rw [Nat.zero_add]; exact hc _ u (flat_get f k hk l j hj i u hu)⟩⟩
theorem cells2_new (w : World) (v0 v1 : Value) (T : TypeId) : ∀ j u, [v0, v1][j]? = some u → (w.alloc (.cells #[v0, v1] T)).cell? ((⟨w.heap.size, 0, none⟩ : Addr).add j) = some u := by
  intro j u hj
  have hl : j < 2 := by simpa using (List.getElem?_eq_some_iff.1 hj).1
  have hadd : (⟨w.heap.size, 0, none⟩ : Addr).add j = ⟨w.heap.size, j, none⟩ := by unfold Addr.add; split <;> simp_all
  rw [hadd]
  rcases (show j = 0 ∨ j = 1 by omega) with rfl | rfl <;> (simp at hj; subst hj; simp [go_sem])
theorem layer_info : (Tryd.prog.info? 90).map (fun i => (i.zero, i.size, i.bytes)) = some (some (.agg #[.int .i64 0, .int .i64 0]), 2, 16) := by kernel_rfl
theorem vecs_of {W : World} {base : Nat} {e : TypeId} {v : Value} {l : List V2} (h : W.ownsRow base e 2 v l.length (vrows l)) : ∃ p c, v = .slice p l.length c ∧ VecsAt W p l ∧ ∀ A o, l.length ≠ 0 → p = some ⟨A, o, none⟩ → base ≤ A := by
  obtain ⟨p, c, rfl, hc⟩ := owns_at (fun v : V2 => [.int .i64 v.x, .int .i64 v.y]) 2 (fun _ => rfl) l h
  refine ⟨p, c, rfl, fun j hj => ?_, fun A o h0 hp => ?_⟩
  · obtain ⟨B, o, hp, hb, hB, hv⟩ := hc j hj
    exact ⟨B, o, hp, hB, hv 0 _ rfl, hv 1 _ rfl⟩
  · obtain ⟨B, q, hp2, hb, -⟩ := hc 0 (by omega)
    rw [hp] at hp2
    injection hp2 with hp2
    injection hp2 with h1 h2
    omega
end Go.Proofs.YtlmhbggigbmeaaaDoor
namespace Go.Proofs.YtlmhbggigbmeaaaDoor
open Go.RowKit Go.Shelf
theorem row_ne {w : World} {base : Nat} {e T : TypeId} {size B n : Nat} {v : Value} {xs : List Value} {cs : Array Value} {f : Nat × Nat} (h : w.ownsRow base e size v n xs) (hY : w.heap[B]? = some (.cells cs T f)) (hne : T ≠ e) : some B ≠ v.ownBlock := by
  rcases h.2 with ⟨rfl, _⟩ | ⟨g, cap, cur, rfl, _, hc, _⟩
  · intro e; cases e
  · intro e'
    simp only [Value.ownBlock, Option.some.injEq] at e'
    subst e'
    rw [hc] at hY
    simp only [Option.some.injEq, Obj.cells.injEq] at hY
    exact hne hY.2.1.symm
theorem row_apart {w : World} {b b' : Nat} {e e' : TypeId} {s s' : Nat} {v v' : Value} {n n' : Nat} {xs xs' : List Value} (h : w.ownsRow b e s v n xs) (h' : w.ownsRow b' e' s' v' n' xs') (he : e ≠ e') : v.ownBlock = none ∨ v.ownBlock ≠ v'.ownBlock := by
  rcases h.2 with ⟨rfl, _⟩ | ⟨g, cap, cur, rfl, _, hg, _⟩
  · exact .inl rfl
  · rcases h'.2 with ⟨rfl, _⟩ | ⟨g', cap', cur', rfl, _, hg', _⟩
    · exact .inr (by simp [Value.ownBlock])
    · refine .inr fun hh => ?_
      simp only [Value.ownBlock, Option.some.injEq] at hh
      subst hh
      rw [hg] at hg'
      simp only [Option.some.injEq, Obj.cells.injEq] at hg'
      exact he hg'.2.1
theorem row_put {w : World} {base : Nat} {e : TypeId} {size : Nat} {v : Value} {n : Nat} {xs : List Value} (h : w.ownsRow base e size v n xs) {B : Nat} (hB : B < base) (o : Nat) (u : Value) : (w.setCell ⟨B, o, none⟩ u).ownsRow base e size v n xs := ownsRow_setCell_below h (a := ⟨B, o, none⟩) hB u
theorem blk_set (w : World) (a : Addr) (u : Value) (k : Nat) (h : k ≠ a.block) : (w.setCell a u).heap[k]? = w.heap[k]? := by
  simp only [World.setCell, Array.getElem?_modify]
  rw [if_neg (by omega)]
end Go.Proofs.YtlmhbggigbmeaaaDoor
namespace Go.Proofs.YtlmhbggigbmeaaaDoor
open Go.RowKit Go.Shelf
attribute [local go_sem] Option.isSome_some Ext.cell Ext.frozen Ext.lt Ext.le Ext.lt_add Ext.le_add Ext.ne Ext.ne' lt2 lt3 lt4 lt5 le2 le3 le4
/-- Blows up to the first one by which all stones have ended. -/
def thru : List BlowR → List BlowR
  | [] => []
  | x :: r => if x.all = true then [x] else x :: thru r
theorem thru_of : ∀ (q : List BlowR) (x : BlowR) (L : List BlowR), (q ++ [x]) <+: L → (∀ y ∈ q, y.all = false) → x.all = true → thru L = q ++ [x]
  | [], x, L, h, _, hx => by
    obtain ⟨r, rfl⟩ := h
    simp [thru, hx]
  | y :: q, x, L, h, hq, hx => by
    obtain ⟨r, rfl⟩ := h
    have h1 := thru_of q x (q ++ [x] ++ r) ⟨r, rfl⟩ (fun z hz => hq z (by simp [hz])) hx
    have h2 := hq y (by simp)
    simp only [List.cons_append, thru, h2, Bool.false_eq_true, if_false]
    rw [h1]
theorem blowsL_last (s t : StoneR) : ∀ (l : List V2) (i : Nat) (we wl : Int), ∃ x ∈ blowsL s t l i we wl, x.all = true
  | [], i, we, wl => ⟨⟨i, massV t * wl, massV s * we, true⟩, by simp [blowsL], rfl⟩
  | v :: l, i, we, wl => by
    obtain ⟨x, hx, hb⟩ := blowsL_last s t l (i + 1) (stp we (kOf s v) (dOf s)) (stp wl (kOf t v) (dOf t))
    exact ⟨x, by unfold blowsL; exact List.mem_append.2 (.inr hx), hb⟩
theorem blowsL_len (s t : StoneR) : ∀ (l : List V2) (i : Nat) (we wl : Int), (blowsL s t l i we wl).length ≤ l.length + 1
  | [], i, we, wl => by simp [blowsL]
  | v :: l, i, we, wl => by
    have := blowsL_len s t l (i + 1) (stp we (kOf s v) (dOf s)) (stp wl (kOf t v) (dOf t))
    unfold blowsL
    rw [List.length_append, List.length_cons]
    split
    · simp only [List.length_cons, List.length_nil]; omega
    · simp only [List.length_nil]; omega
/-- The blows of a rock with a fall. -/
def blowsV (l : List V2) (k : RockR) (f : FallR) : List BlowR := thru (blowsL (firstS k f) (lastS k f) l 0 ((firstS k f).speed * (firstS k f).speed) ((lastS k f).speed * (lastS k f).speed))
def rowsB (l : List BlowR) : List Value := l.flatMap fun x => [.int .i64 x.n, .int .i64 x.lo, .int .i64 x.hi]
theorem rowsB_add (l : List BlowR) (x : BlowR) : rowsB (l ++ [x]) = rowsB l ++ [.int .i64 x.n, .int .i64 x.lo, .int .i64 x.hi] := by unfold rowsB; rw [List.flatMap_append]; simp
theorem rockE_ok {k : RockR} {f : FallR} (h : rockE k f = 0) : (firstS k f).Ok ∧ (lastS k f).Ok ∧ (k.size.x ≤ k.size.y ∧ k.dens.x ≤ k.dens.y ∧ k.strong.x ≤ k.strong.y ∧ k.spin.x ≤ k.spin.y ∧ k.shape.x ≤ k.shape.y ∧ f.speed.x ≤ f.speed.y ∧ f.slope.x ≤ f.slope.y) := by
  have e0 : ∀ v m : V2, spE v m = 0 → v.x ≤ v.y ∧ m.x ≤ v.x ∧ v.y ≤ m.y := fun v m h => by
    unfold spE at h
    split at h
    · cases h
    · split at h
      · omega
      · cases h
  unfold rockE spansL limsL at h
  simp only [firstE] at h
  split at h
  · rename_i h0
    split at h
    · rename_i h1
      split at h
      · rename_i h2
        split at h
        · rename_i h3
          split at h
          · rename_i h4
            split at h
            · rename_i h5
              split at h
              · rename_i h6
                have q0 := e0 _ _ h0
                have q1 := e0 _ _ h1
                have q2 := e0 _ _ h2
                have q3 := e0 _ _ h3
                have q4 := e0 _ _ h4
                have q5 := e0 _ _ h5
                have q6 := e0 _ _ h6
                simp only at q0 q1 q2 q3 q4 q5 q6
                exact ⟨⟨by simp only [firstS]; omega, by simp only [firstS]; omega, by simp only [firstS]; omega, by simp only [firstS]; omega, by simp only [firstS]; omega, by simp only [firstS]; omega, by simp only [firstS]; omega⟩, ⟨by simp only [lastS]; omega, by simp only [lastS]; omega, by simp only [lastS]; omega, by simp only [lastS]; omega, by simp only [lastS]; omega, by simp only [lastS]; omega, by simp only [lastS]; omega⟩, q0.1, q1.1, q2.1, q3.1, q4.1, q5.1, q6.1⟩
              · contradiction
            · contradiction
          · contradiction
        · contradiction
      · contradiction
    · contradiction
  · contradiction
theorem blowsOf_any (p : Option Addr) (n c : Nat) (k : RockR) (f : FallR) (w : World) : Calls Tryd.prog 54 #[.slice p n c, k.val, f.val] w fun e w' =>
    e = .returned (.func (.func 79) #[] #[.pointer (some ⟨w.heap.size, 0, none⟩), .pointer (some ⟨w.heap.size + 1, 0, none⟩), .pointer (some ⟨w.heap.size + 1 + 1, 0, none⟩)]) ∧
    w' = ((w.alloc (.cells #[.slice p n c] 22)).alloc (.cells #[.int .i64 k.size.x, .int .i64 k.size.y, .int .i64 k.dens.x, .int .i64 k.dens.y, .int .i64 k.strong.x, .int .i64 k.strong.y, .int .i64 k.spin.x, .int .i64 k.spin.y, .int .i64 k.shape.x, .int .i64 k.shape.y, .bool k.pile] 31)).alloc (.cells #[.int .i64 f.speed.x, .int .i64 f.speed.y, .int .i64 f.slope.x, .int .i64 f.slope.y] 33) := by
  unfold RockR.val FallR.val
  go_enter Tryd.func54, Tryd.ntmps54
  go_wp2_with (first | ((first | with_reducible refine wp_region_ext2 (by kernel_rfl) (by kernel_rfl) ?_ | with_reducible refine wp_region_ext (by kernel_rfl) (by kernel_rfl) ?_); (repeat (first | go_big_quiet_step ((first | fail)) | quiet_step ((first | fail)))); refine wpQuiet_nil ?_; rintro _ ⟨yr, rfl⟩; have syr := Ext.size yr; (repeat (first | rw [World.size_alloc] at syr | rw [World.size_setCell] at syr | rw [World.size_drew] at syr))))
  go_returns
  exact ⟨rfl, rfl⟩
theorem row_other {W W' : World} {base : Nat} {e : TypeId} {size : Nat} {v : Value} {n : Nat} {xs : List Value} {row : Option Nat} (h : W.ownsRow base e size v n xs) (hg : W.grownBy W' row) (hr : ∀ r, row = some r → ∃ o : Obj, W.heap[r]? = some o ∧ o.isCells = false) : W'.ownsRow base e size v n xs := by
  refine h.kept hg ?_
  rcases h.2 with ⟨rfl, _⟩ | ⟨g, cap, cur, rfl, _, hc, _⟩
  · exact .inl rfl
  · refine .inr fun e' => ?_
    obtain ⟨o, ho, hn⟩ := hr g e'.symm
    rw [hc] at ho
    injection ho with ho
    subst ho
    cases hn
theorem row_same {W W' : World} {base : Nat} {e : TypeId} {size : Nat} {v : Value} {n : Nat} {xs : List Value} (h : W.ownsRow base e size v n xs) (hk : ∀ k, base ≤ k → k < W.heap.size → W'.heap[k]? = W.heap[k]?) : W'.ownsRow base e size v n xs := by
  refine ⟨h.1, ?_⟩
  rcases h.2 with h2 | ⟨g, cap, cur, hv, hg, hc, rest⟩
  · exact .inl h2
  · exact .inr ⟨g, cap, cur, hv, hg, (hk g hg (Array.getElem?_eq_some_iff.1 hc).1).trans hc, rest⟩
theorem boxed_other {W W' : World} {B : Nat} {t : TypeId} {v : Value} {row : Option Nat} (h : Boxed W B t v) (hg : W.grownBy W' row) (hr : ∀ r, row = some r → ∃ o : Obj, W.heap[r]? = some o ∧ o.isCells = false) : Boxed W' B t v :=
  h.kept hg fun e => by
    obtain ⟨o, ho, hn⟩ := hr B e.symm
    rw [show W.heap[B]? = _ from h] at ho
    injection ho with ho
    subst ho
    cases hn
end Go.Proofs.YtlmhbggigbmeaaaDoor

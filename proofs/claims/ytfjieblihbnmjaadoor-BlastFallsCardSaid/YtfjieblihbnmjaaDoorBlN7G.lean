/- The blows of a rock with a fall as plain mathematics; rows of blows; blowsOf. No condition. The blows of a rock as the reference lists them: mathematics. The late stone bursts in no layer that the early one does not burst in. Condition: a valid rock and valid layers. -/
import Derived.Test.YtfjieblihbnmjaaDoorBlIt
import Derived.Test.YtfjieblihbnmjaaDoorBlCR
import Derived.Test.YtfjieblihbnmjaaDoorBlRwG
import Derived.Test.YtfjieblihbnmjaaDoorRefWideG
namespace Go.Proofs.YtfjieblihbnmjaaDoor
open Go.RowKit Go.Shelf
attribute [local go_sem] Option.isSome_some Ext.cell Ext.frozen Ext.lt Ext.le Ext.lt_add Ext.le_add Ext.ne Ext.ne' lt2 lt3 lt4 lt5 le2 le3 le4
/-- Blows up to the first one by which all stones have ended. -/
def thru : List BlowR → List BlowR
  | [] => []
  | x :: r => if x.all = true then [x] else x :: thru r
theorem thru_of : ∀ (q : List BlowR) (x : BlowR) (L : List BlowR), (q ++ [x]) <+: L → (∀ y ∈ q, y.all = false) → x.all = true → thru L = q ++ [x]
  | [], x, L, h, _, hx => by
    obtain ⟨r, rfl⟩ := h
    simp [thru, hx]
  | y :: q, x, L, h, hq, hx => by
    obtain ⟨r, rfl⟩ := h
    have h1 := thru_of q x (q ++ [x] ++ r) ⟨r, rfl⟩ (fun z hz => hq z (by simp [hz])) hx
    have h2 := hq y (by simp)
    simp only [List.cons_append, thru, h2, Bool.false_eq_true, if_false]
    rw [h1]
theorem blowsL_last (s t : StoneR) : ∀ (l : List V2) (i : Nat) (we wl : Int), ∃ x ∈ blowsL s t l i we wl, x.all = true
  | [], i, we, wl => ⟨⟨i, massV t * wl, massV s * we, true⟩, by simp [blowsL], rfl⟩
  | v :: l, i, we, wl => by
    obtain ⟨x, hx, hb⟩ := blowsL_last s t l (i + 1) (stp we (kOf s v) (dOf s)) (stp wl (kOf t v) (dOf t))
    exact ⟨x, by unfold blowsL; exact List.mem_append.2 (.inr hx), hb⟩
theorem blowsL_len (s t : StoneR) : ∀ (l : List V2) (i : Nat) (we wl : Int), (blowsL s t l i we wl).length ≤ l.length + 1
  | [], i, we, wl => by simp [blowsL]
  | v :: l, i, we, wl => by
    have := blowsL_len s t l (i + 1) (stp we (kOf s v) (dOf s)) (stp wl (kOf t v) (dOf t))
    unfold blowsL
    rw [List.length_append, List.length_cons]
    split
    · simp only [List.length_cons, List.length_nil]; omega
    · simp only [List.length_nil]; omega
/-- The blows of a rock with a fall. -/
def blowsV (l : List V2) (k : RockR) (f : FallR) : List BlowR := thru (blowsL (firstS k f) (lastS k f) l 0 ((firstS k f).speed * (firstS k f).speed) ((lastS k f).speed * (lastS k f).speed))
def rowsB (l : List BlowR) : List Value := l.flatMap fun x => [.int .i64 x.n, .int .i64 x.lo, .int .i64 x.hi]
theorem rowsB_add (l : List BlowR) (x : BlowR) : rowsB (l ++ [x]) = rowsB l ++ [.int .i64 x.n, .int .i64 x.lo, .int .i64 x.hi] := by unfold rowsB; rw [List.flatMap_append]; simp
theorem rockE_ok {k : RockR} {f : FallR} (h : rockE k f = 0) : (firstS k f).Ok ∧ (lastS k f).Ok ∧ (k.size.x ≤ k.size.y ∧ k.dens.x ≤ k.dens.y ∧ k.strong.x ≤ k.strong.y ∧ k.spin.x ≤ k.spin.y ∧ k.shape.x ≤ k.shape.y ∧ f.speed.x ≤ f.speed.y ∧ f.slope.x ≤ f.slope.y) := by
  have e0 : ∀ v m : V2, spE v m = 0 → v.x ≤ v.y ∧ m.x ≤ v.x ∧ v.y ≤ m.y := fun v m h => by
    unfold spE at h
    split at h
    · cases h
    · split at h
      · omega
      · cases h
  unfold rockE spansL limsL at h
  simp only [firstE] at h
  split at h
  · rename_i h0
    split at h
    · rename_i h1
      split at h
      · rename_i h2
        split at h
        · rename_i h3
          split at h
          · rename_i h4
            split at h
            · rename_i h5
              split at h
              · rename_i h6
                have q0 := e0 _ _ h0
                have q1 := e0 _ _ h1
                have q2 := e0 _ _ h2
                have q3 := e0 _ _ h3
                have q4 := e0 _ _ h4
                have q5 := e0 _ _ h5
                have q6 := e0 _ _ h6
                simp only at q0 q1 q2 q3 q4 q5 q6
                exact ⟨⟨by simp only [firstS]; omega, by simp only [firstS]; omega, by simp only [firstS]; omega, by simp only [firstS]; omega, by simp only [firstS]; omega, by simp only [firstS]; omega, by simp only [firstS]; omega⟩, ⟨by simp only [lastS]; omega, by simp only [lastS]; omega, by simp only [lastS]; omega, by simp only [lastS]; omega, by simp only [lastS]; omega, by simp only [lastS]; omega, by simp only [lastS]; omega⟩, q0.1, q1.1, q2.1, q3.1, q4.1, q5.1, q6.1⟩
              · contradiction
            · contradiction
          · contradiction
        · contradiction
      · contradiction
    · contradiction
  · contradiction
theorem blowsOf_any (p : Option Addr) (n c : Nat) (k : RockR) (f : FallR) (w : World) : Calls Tryd.prog 56 #[.slice p n c, k.val, f.val] w fun e w' =>
    e = .returned (.func (.func 87) #[] #[.pointer (some ⟨w.heap.size, 0, none⟩), .pointer (some ⟨w.heap.size + 1, 0, none⟩), .pointer (some ⟨w.heap.size + 1 + 1, 0, none⟩)]) ∧
    w' = ((w.alloc (.cells #[.slice p n c] 22)).alloc (.cells #[.int .i64 k.size.x, .int .i64 k.size.y, .int .i64 k.dens.x, .int .i64 k.dens.y, .int .i64 k.strong.x, .int .i64 k.strong.y, .int .i64 k.spin.x, .int .i64 k.spin.y, .int .i64 k.shape.x, .int .i64 k.shape.y, .bool k.pile] 26)).alloc (.cells #[.int .i64 f.speed.x, .int .i64 f.speed.y, .int .i64 f.slope.x, .int .i64 f.slope.y] 28) := by
  unfold RockR.val FallR.val
  go_enter Tryd.func56, Tryd.ntmps56
  go_wp2_with (first | ((first | with_reducible refine wp_region_ext2 (by kernel_rfl) (by kernel_rfl) ?_ | with_reducible refine wp_region_ext (by kernel_rfl) (by kernel_rfl) ?_); (repeat (first | go_big_quiet_step ((first | fail)) | quiet_step ((first | fail)))); refine wpQuiet_nil ?_; rintro _ ⟨yr, rfl⟩; have syr := Ext.size yr; (repeat (first | rw [World.size_alloc] at syr | rw [World.size_setCell] at syr | rw [World.size_drew] at syr))))
  go_returns
  exact ⟨rfl, rfl⟩
theorem row_other {W W' : World} {base : Nat} {e : TypeId} {size : Nat} {v : Value} {n : Nat} {xs : List Value} {row : Option Nat} (h : W.ownsRow base e size v n xs) (hg : W.grownBy W' row) (hr : ∀ r, row = some r → ∃ o : Obj, W.heap[r]? = some o ∧ o.isCells = false) : W'.ownsRow base e size v n xs := by
  refine h.kept hg ?_
  rcases h.2 with ⟨rfl, _⟩ | ⟨g, cap, cur, rfl, _, hc, _⟩
  · exact .inl rfl
  · refine .inr fun e' => ?_
    obtain ⟨o, ho, hn⟩ := hr g e'.symm
    rw [hc] at ho
    injection ho with ho
    subst ho
    cases hn
theorem row_same {W W' : World} {base : Nat} {e : TypeId} {size : Nat} {v : Value} {n : Nat} {xs : List Value} (h : W.ownsRow base e size v n xs) (hk : ∀ k, base ≤ k → k < W.heap.size → W'.heap[k]? = W.heap[k]?) : W'.ownsRow base e size v n xs := by
  refine ⟨h.1, ?_⟩
  rcases h.2 with h2 | ⟨g, cap, cur, hv, hg, hc, rest⟩
  · exact .inl h2
  · exact .inr ⟨g, cap, cur, hv, hg, (hk g hg (Array.getElem?_eq_some_iff.1 hc).1).trans hc, rest⟩
theorem boxed_other {W W' : World} {B : Nat} {t : TypeId} {v : Value} {row : Option Nat} (h : Boxed W B t v) (hg : W.grownBy W' row) (hr : ∀ r, row = some r → ∃ o : Obj, W.heap[r]? = some o ∧ o.isCells = false) : Boxed W' B t v :=
  h.kept hg fun e => by
    obtain ⟨o, ho, hn⟩ := hr B e.symm
    rw [show W.heap[B]? = _ from h] at ho
    injection ho with ho
    subst ho
    cases hn
end Go.Proofs.YtfjieblihbnmjaaDoor
namespace Go.Proofs.YtfjieblihbnmjaaDoor
open Go.RowKit Go.Shelf
/-- The blows up to the layer in which the late stone bursts. -/
def rblL (s t : StoneR) : List V2 → Nat → Int → Int → List BlowR
  | [], i, we, wl => [⟨i, massV t * wl, massV s * we, true⟩]
  | v :: l, i, we, wl => (if burstB s v.y we = true then [⟨i, massV t * wl, massV s * we, burstB t v.y wl⟩] else []) ++ (if burstB t v.y wl = true then [] else rblL s t l (i + 1) (stp we (kOf s v) (dOf s)) (stp wl (kOf t v) (dOf t)))
theorem cei_at {n c q : Int} (hc : 0 < c) : cei n c ≤ q ↔ n ≤ q * c := by
  rw [← cei_way hc]
  constructor
  · intro h
    have h1 : (n + c - 1) / c < q + 1 := by omega
    have h2 := (Int.ediv_lt_iff_lt_mul hc).1 h1
    rw [Int.add_mul, Int.one_mul] at h2
    omega
  · intro h
    have h2 : n + c - 1 < (q + 1) * c := by rw [Int.add_mul, Int.one_mul]; omega
    have h1 := (Int.ediv_lt_iff_lt_mul hc).2 h2
    omega
theorem cei_anti {n c d : Int} (hc : 0 < c) (h : c ≤ d) (hn : 0 ≤ cei n c) : cei n d ≤ cei n c := by
  refine (cei_at (by omega)).2 ?_
  have h1 := (cei_at hc).1 (Int.le_refl (cei n c))
  have h2 := Int.mul_le_mul_of_nonneg_left h hn
  omega
/-- What two stones of a rock, the early and the late one, are to each other. -/
structure EarlyLate (s t : StoneR) : Prop where
  es : s.Ok
  lt : t.Ok
  holds : holdsV s ≤ holdsV t
  d : dOf t ≤ dOf s
  k : ∀ v : V2, (1 ≤ v.x ∧ v.x ≤ 1000) → (0 ≤ v.y ∧ v.y ≤ 1000) → kOf s v ≤ kOf t v
theorem early_late {k : RockR} {f : FallR} (h : rockE k f = 0) : EarlyLate (firstS k f) (lastS k f) := by
  obtain ⟨h1, h2, a0, a1, a2, a3, a4, a5, a6⟩ := rockE_ok h
  refine ⟨h1, h2, ?_, ?_, ?_⟩
  · unfold holdsV
    have e1 : (firstS k f).pile = k.pile := rfl
    have e2 : (lastS k f).pile = k.pile := rfl
    rw [e1, e2]
    split
    · have q1 := h1.strong
      have q2 := h2.strong
      have q3 := h1.spin
      have q4 := h2.spin
      simp only [firstS, lastS] at *
      exact Int.ediv_le_ediv (by omega) (Int.mul_le_mul a2 (by omega) (by omega) (by omega))
    · exact a2
  · have q1 := h1.dens
    have q2 := h2.dens
    have q3 := h1.size
    have q4 := h2.size
    unfold dOf
    simp only [firstS, lastS] at *
    have := Int.mul_le_mul a1 a0 (by omega) (by omega)
    omega
  · intro v hx hy
    have w1 := way_bounds h1 hx
    have w2 := way_bounds h2 hx
    have q1 := h1.slope
    have q2 := h2.slope
    have q3 := h1.shape
    have q4 := h2.shape
    unfold kOf
    simp only [firstS, lastS] at *
    have c1 := cei_anti (n := v.x * 1000) (c := f.slope.x) (d := f.slope.y) (by omega) a6 w2.1
    exact Int.mul_le_mul_of_nonneg_left (Int.mul_le_mul c1 a4 (by omega) w2.1) hy.1
theorem burst_late {s t : StoneR} (h : EarlyLate s t) {y we wl : Int} (hy : 0 ≤ y) (hw : wl ≤ we) (hb : burstB t y wl = true) : burstB s y we = true := by
  unfold burstB at *
  rw [decide_eq_true_eq] at *
  have h1 := h.holds
  have h2 := Int.mul_le_mul_of_nonneg_left hw hy
  omega
theorem stp_late {s t : StoneR} (h : EarlyLate s t) {v : V2} (hx : 1 ≤ v.x ∧ v.x ≤ 1000) (hy : 0 ≤ v.y ∧ v.y ≤ 1000) {we wl : Int} (h0 : 0 ≤ wl) (hw : wl ≤ we) : stp wl (kOf t v) (dOf t) ≤ stp we (kOf s v) (dOf s) :=
  stp_mono h0 hw (k_bounds h.es hx hy).2.2 (h.k v hx hy) (by have := (d_bounds h.lt).2; omega) h.d
theorem thru_rbl {s t : StoneR} (h : EarlyLate s t) : ∀ (l : List V2) (i : Nat) (we wl : Int), (∀ v ∈ l, (1 ≤ v.x ∧ v.x ≤ 1000) ∧ 0 ≤ v.y ∧ v.y ≤ 1000) → 0 ≤ wl → wl ≤ we → thru (blowsL s t l i we wl) = rblL s t l i we wl
  | [], i, we, wl, _, _, _ => by simp [blowsL, thru, rblL]
  | v :: l, i, we, wl, hl, h0, hw => by
    obtain ⟨hx, hy⟩ := hl v (by simp)
    have ih := thru_rbl h l (i + 1) (stp we (kOf s v) (dOf s)) (stp wl (kOf t v) (dOf t)) (fun u hu => hl u (by simp [hu])) (stp_nonneg _ _ _) (stp_late h hx hy h0 hw)
    unfold blowsL rblL
    rw [← ih]
    by_cases hb : burstB s v.y we = true
    · rw [if_pos hb]
      simp only [List.cons_append, List.nil_append, thru]
      split <;> rfl
    · rw [if_neg hb, if_neg (fun q => hb (burst_late h hy.1 hw q))]
      rfl
end Go.Proofs.YtfjieblihbnmjaaDoor

/- Tracks of the call's own that are moved, place by place. No condition. -/
import Derived.Test.YtfflbiojcoehmabOwnS
import Derived.Test.YtfflbiojcoehmabSkyMv
import Derived.Laws.OwnMore
import Derived.OneCell
namespace Go.Proofs.Ytfflbiojcoehmab
open Go.RowKit Go.Shelf
/-- The track of body j when k places of the track of body i have been moved, and all of those before it. -/
def trk (mx my : Int) (i k j : Nat) (tr : List V2) : List V2 := if j < i then tr.map (mvV mx my) else if j = i then (tr.take k).map (mvV mx my) ++ tr.drop k else tr
theorem trk_length (mx my : Int) (i k j : Nat) (tr : List V2) : (trk mx my i k j tr).length = tr.length := by
  unfold trk
  split
  · simp
  · split
    · rw [List.length_append, List.length_map, ← List.length_append, List.take_append_drop]
    · rfl
theorem trk_start (mx my : Int) (j : Nat) (tr : List V2) : trk mx my 0 0 j tr = tr := by
  unfold trk
  rw [if_neg (by omega)]
  split <;> simp
theorem trk_next (mx my : Int) (i j : Nat) (tr tr' : List V2) (h : j = i → tr.length ≤ tr'.length) : trk mx my i tr'.length j tr = trk mx my (i + 1) 0 j tr := by
  unfold trk
  rcases Nat.lt_trichotomy j i with h1 | h1 | h1
  · rw [if_pos h1, if_pos (by omega)]
  · rw [if_neg (by omega), if_pos h1, if_pos (by omega), List.take_of_length_le (h h1), List.drop_of_length_le (h h1), List.append_nil]
  · rw [if_neg (by omega), if_neg (by omega), if_neg (by omega)]
    split <;> simp
theorem vrows_cons (v : V2) (l : List V2) : vrows (v :: l) = .int .i64 v.x :: .int .i64 v.y :: vrows l := by unfold vrows; rw [List.flatMap_cons]; rfl
theorem vrows_put (A : List V2) (v u : V2) (R : List V2) : ((vrows (A ++ v :: R)).set (A.length * 2) (.int .i64 u.x)).set (A.length * 2 + 1) (.int .i64 u.y) = vrows (A ++ u :: R) := by
  induction A with
  | nil => rw [List.nil_append, List.nil_append, vrows_cons, vrows_cons]; rfl
  | cons a A ih =>
    rw [List.cons_append, List.cons_append, vrows_cons, vrows_cons, List.length_cons]
    rw [show (A.length + 1) * 2 = A.length * 2 + 1 + 1 by omega, show A.length * 2 + 1 + 1 + 1 = (A.length * 2 + 1) + 1 + 1 by omega]
    simp only [List.set_cons_succ]
    rw [ih]
theorem trk_at (mx my : Int) (i k : Nat) (tr : List V2) (hk : k < tr.length) : trk mx my i k i tr = (tr.take k).map (mvV mx my) ++ tr[k] :: tr.drop (k + 1) := by
  unfold trk
  rw [if_neg (by omega), if_pos rfl, List.drop_eq_getElem_cons hk]
theorem trk_succ (mx my : Int) (i k : Nat) (tr : List V2) (hk : k < tr.length) : trk mx my i (k + 1) i tr = (tr.take k).map (mvV mx my) ++ mvV mx my tr[k] :: tr.drop (k + 1) := by
  unfold trk
  rw [if_neg (by omega), if_pos rfl, List.take_succ_eq_append_getElem hk, List.map_append, List.append_assoc]
  rfl
/-- The worlds between the rounds of the loops that move the tracks. -/
structure MvSt (w0 W4 W : World) (base : Nat) (l : List BodyR) (mx my : Int) (i k : Nat) : Prop where
  tr : ∀ j (h : j < l.length), W.ownsRow base 33 2 (.slice l[j].tp l[j].track.length l[j].tc) l[j].track.length (vrows (trk mx my i k j l[j].track))
  keep : ∀ B, B < W4.heap.size → (∀ b ∈ l, b.tp ≠ some ⟨B, 0, none⟩) → W.heap[B]? = W4.heap[B]?
  size : W4.heap.size ≤ W.heap.size
  bel : Below w0.heap.size w0 W
section
variable {w0 W4 W : World} {base : Nat} {l : List BodyR} {mx my : Int} {i k : Nat}
theorem MvSt.start (h : TrOwn W4 base l) (hb : Below w0.heap.size w0 W4) : MvSt w0 W4 W4 base l mx my 0 0 :=
  ⟨fun j hj => by rw [trk_start]; exact h _ (List.getElem_mem hj), fun _ _ _ => rfl, Nat.le_refl _, hb⟩
theorem MvSt.ext (h : MvSt w0 W4 W base l mx my i k) (h0 : w0.heap.size ≤ W.heap.size) (x : Ext W) : MvSt w0 W4 x.now base l mx my i k :=
  ⟨fun j hj => owns_ext (h.tr j hj) x, fun B hB hn => (x.grew.block B (Nat.lt_of_lt_of_le hB h.size)).trans (h.keep B hB hn), Nat.le_trans h.size x.size, Below.on h.bel x.grew h0⟩
theorem MvSt.next (h : MvSt w0 W4 W base l mx my i k) (hi : i < l.length) (hk : k = l[i].track.length) : MvSt w0 W4 W base l mx my (i + 1) 0 :=
  ⟨fun j hj => by
    have := h.tr j hj
    rw [hk, trk_next mx my i j l[j].track l[i].track (fun e => by subst e; exact Nat.le_refl _)] at this
    exact this, h.keep, h.size, h.bel⟩
theorem MvSt.read (h : MvSt w0 W4 W base l mx my i k) (hi : i < l.length) (hk : k < l[i].track.length) {g : Nat} (hg : l[i].tp = some ⟨g, 0, none⟩) :
    W.cell? ⟨g, k * 2, none⟩ = some (.int .i64 l[i].track[k].x) ∧ W.cell? ⟨g, k * 2 + 1, none⟩ = some (.int .i64 l[i].track[k].y) ∧ W.frozen? ⟨g, k * 2, none⟩ = false ∧ W.frozen? ⟨g, k * 2 + 1, none⟩ = false ∧ base ≤ g ∧ g < W.heap.size := by
  have h1 := h.tr i hi
  rw [hg] at h1
  have hl := h1.lt g rfl
  have e : vrows (trk mx my i k i l[i].track) = vrows ((l[i].track.take k).map (mvV mx my)) ++ .int .i64 l[i].track[k].x :: .int .i64 l[i].track[k].y :: vrows (l[i].track.drop (k + 1)) := by
    rw [trk_at _ _ _ _ _ hk, ← vrows_cons]
    unfold vrows
    rw [List.flatMap_append]
  have hlen : (vrows ((l[i].track.take k).map (mvV mx my))).length = k * 2 := by
    rw [vrows_length, List.length_map, List.length_take]
    omega
  refine ⟨?_, ?_, h1.frozenAt _, h1.frozenAt _, hl.1, hl.2⟩
  · rw [h1.cellAt _ (by omega), e, List.getElem?_append_right (by omega), hlen, Nat.sub_self]
    rfl
  · rw [h1.cellAt _ (by omega), e, List.getElem?_append_right (by omega), hlen, show k * 2 + 1 - k * 2 = 1 by omega]
    rfl
theorem MvSt.step (h : MvSt w0 W4 W base l mx my i k) (ha : Apart l) (hi : i < l.length) (hk : k < l[i].track.length) {g : Nat} (hg : l[i].tp = some ⟨g, 0, none⟩) (hb : w0.heap.size ≤ base) :
    MvSt w0 W4 ((W.setCell ⟨g, k * 2, none⟩ (.int .i64 (l[i].track[k].x + mx))).setCell ⟨g, k * 2 + 1, none⟩ (.int .i64 (l[i].track[k].y + my))) base l mx my i (k + 1) := by
  have h1 := h.tr i hi
  have hlt := h1.lt g (by rw [hg]; rfl)
  refine ⟨fun j hj => ?_, fun B hB hn => ?_, by simpa using h.size, ?_⟩
  · by_cases hji : j = i
    · subst hji
      have e := trk_succ mx my j k l[j].track hk
      rw [e, ← vrows_put ((l[j].track.take k).map (mvV mx my)) l[j].track[k] (mvV mx my l[j].track[k]) (l[j].track.drop (k + 1)), ← trk_at _ _ _ _ _ hk]
      have hlen : ((l[j].track.take k).map (mvV mx my)).length = k := by rw [List.length_map, List.length_take]; omega
      rw [hlen]
      rw [hg] at h1 ⊢
      exact ((h1.stored _ _).1.stored _ _).1
    · have hne : l[j].tp ≠ l[i].tp := by
        rcases Nat.lt_or_gt_of_ne hji with h2 | h2
        · exact List.pairwise_iff_getElem.1 ha.2 j i hj hi h2
        · exact fun e => List.pairwise_iff_getElem.1 ha.2 i j hi hj h2 e.symm
      have e : trk mx my i (k + 1) j l[j].track = trk mx my i k j l[j].track := by unfold trk; rw [if_neg hji, if_neg hji]
      rw [e]
      obtain ⟨g', hg'⟩ := ha.1 l[j] (List.getElem_mem hj)
      have hb' : (Value.slice l[j].tp l[j].track.length l[j].tc).ownBlock ≠ some g := by
        rw [hg']
        intro e
        simp only [Value.ownBlock, Option.some.injEq] at e
        exact hne (by rw [hg', hg, e])
      exact ownsRow_setCell_other (ownsRow_setCell_other (h.tr j hj) hb' _) hb' _
  · have hne : B ≠ g := fun e => hn l[i] (List.getElem_mem hi) (by rw [hg, e])
    have hB2 : B < W.heap.size := Nat.lt_of_lt_of_le hB h.size
    rw [hg] at h1
    have s1 := h1.stored (k * 2) (.int .i64 (l[i].track[k].x + mx))
    have s2 := s1.1.stored (k * 2 + 1) (.int .i64 (l[i].track[k].y + my))
    exact (s2.2.block B (by simpa using hB2) (by simpa using hne)).trans ((s1.2.block B hB2 (by simpa using hne)).trans (h.keep B hB hn))
  · exact (h.bel.setCell (by dsimp only; omega) _).setCell (by dsimp only; omega) _
end
end Go.Proofs.Ytfflbiojcoehmab

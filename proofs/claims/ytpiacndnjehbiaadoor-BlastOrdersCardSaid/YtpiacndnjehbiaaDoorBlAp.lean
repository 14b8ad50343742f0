/- Appending nothing, and all of a list, to a slice of the call's own (for seats without a sky). No condition. -/
import Derived.Test.YtpiacndnjehbiaaDoorBlRows
import Derived.OwnWalk
namespace Go.Proofs.YtpiacndnjehbiaaDoor
open Go.RowKit Go.Shelf
section
variable {P : Program}
theorem run_append_none (w : World) (t ty e : TypeId) (i : TypeInfo) (ht : P.underlying t = some (.slice e)) (hi : P.info? e = some i) (g : Nat) (n cap : Nat) (p : Option Addr) (c : Nat) (hn : n ≤ cap) :
    (Builtin.append_ #[t, t] ty #[.slice (some ⟨g, 0, none⟩) n cap, .slice p 0 c]).run P w = .ok (.slice (some ⟨g, 0, none⟩) n cap) w := by
  cases p with
  | none => simp [Builtin.append_, run_underlying ht, sizeOf, typeInfo, hi, Builtin.lenOf, hn, Builtin.firstCells, storeCells]
  | some a => simp [Builtin.append_, run_underlying ht, sizeOf, typeInfo, hi, Builtin.lenOf, hn, Builtin.firstCells, storeCells, loadCells, loadCellsFrom]
/-- Appending an empty list at an operation of the walk. -/
theorem wpList_append_none {ops : Array Oper} {rest : List Oper} {o : Oper} {a : Act} {w : World} {Q : Exit → Act → World → Prop} (hgd : o.guard = none) (s x : Operand) (t : TypeId)
    (ho : o.op = .call { callee := .builtin .append, args := #[s, x], argTypes := #[t, t] }) (e : TypeId) (i : TypeInfo) (ht : P.underlying t = some (.slice e)) (hi : P.info? e = some i)
    (g n cap : Nat) (p : Option Addr) (c : Nat) (hs : a.eval s = .slice (some ⟨g, 0, none⟩) n cap) (hx : a.eval x = .slice p 0 c) (hn : n ≤ cap)
    (h : wpList P ops Q rest (a.put o.dst (.slice (some ⟨g, 0, none⟩) n cap)) w) : wpList P ops Q (o :: rest) a w := by
  refine wpList_plain hgd fun K hK => ?_
  have hr := run_append_none (P := P) w t o.type e i ht hi g n cap p c hn
  unfold Oper.wp execOp
  simp only [ho, resolve, invoke, builtin, Sem.run_bind, Sem.run_pure, Result.andThen_ok, List.map_toArray, List.map_cons, List.map_nil, hs, hx, hr]
  exact hK _ _ h
theorem wpListW_named {P : Program} {ops : Array Oper} {rest : List Oper} {a : Act} {w : World} {Q : Exit → Act → World → Prop} (h : ∀ W, w = W → wpList P ops Q rest a W) : wpList P ops Q rest a w := h w rfl
theorem callsW_named {P : Program} {f : FuncId} {args : Array Value} {w : World} {Q : Ending → World → Prop} (h : ∀ W0, w = W0 → Calls P f args W0 Q) : Calls P f args w Q := h w rfl
/-- Appending all of a list, also of an empty one, to an empty slice of the call's own. -/
theorem wpList_append_copy {ops : Array Oper} {rest : List Oper} {o : Oper} {a : Act} {w : World} {Q : Exit → Act → World → Prop} (hgd : o.guard = none) (s x : Operand) (t : TypeId)
    (ho : o.op = .call { callee := .builtin .append, args := #[s, x], argTypes := #[t, t] }) (base : Nat) (e : TypeId) (i : TypeInfo) (z : Value) (size bytes : Nat) (ht : P.underlying t = some (.slice e)) (hi : P.info? e = some i) (hz : i.zero = some z)
    (hsize : i.size = size) (hby : i.bytes = bytes) (hzs : z.cells.size = size) (hsz : 0 < size) (g : Nat) (hs : a.eval s = .slice (some ⟨g, 0, none⟩) 0 0) (hown : w.ownsRow base e size (.slice (some ⟨g, 0, none⟩) 0 0) 0 [])
    (p : Option Addr) (m c : Nat) (news : List Value) (hx : a.eval x = .slice p m c) (hl : news.length = m * size) (hp : 0 < m → ∃ B o, p = some ⟨B, o, none⟩) (hnews : ∀ B o, p = some ⟨B, o, none⟩ → ∀ j u, news[j]? = some u → w.cell? ((⟨B, o, none⟩ : Addr).add j) = some u) (h1 : ∀ u ∈ news, u.oneCell' = true)
    (h63 : m ≤ maxLen) (hbytes : m * bytes ≤ 140737488355328) (hbase : base ≤ w.heap.size)
    (h : ∀ g' c' W', W'.ownsRow base e size (.slice (some ⟨g', 0, none⟩) m c') m news → base ≤ g' → w.grownBy W' (some g) → wpList P ops Q rest (a.put o.dst (.slice (some ⟨g', 0, none⟩) m c')) W') : wpList P ops Q (o :: rest) a w := by
  rcases Nat.eq_zero_or_pos m with rfl | hm
  · refine wpList_append_none hgd s x t ho e i ht hi g 0 0 p c hs hx (Nat.le_refl _) ?_
    have hn : news = [] := List.length_eq_zero_iff.1 (by rw [hl, Nat.zero_mul])
    subst hn
    exact h g 0 w hown (hown.lt g rfl).1 ⟨rfl, rfl, rfl, Nat.le_refl _, fun _ _ _ => rfl⟩
  · obtain ⟨B, o', rfl⟩ := hp hm
    refine wpList_append_own _ hgd s x t ho base e i z size bytes ht hi hz hsize hby hzs hsz _ 0 [] hs hown ⟨B, o', none⟩ m c news hx hl (hnews B o' rfl) h1 (by omega) (by rw [Nat.zero_add]; exact hbytes) hbase fun v' W' h2 h3 _ => ?_
    rw [Nat.zero_add, List.nil_append] at h2
    rcases owns_slice h2 with ⟨-, h0⟩ | ⟨g', c', rfl, hg, -, -⟩
    · omega
    · exact h g' c' W' h2 hg h3
end
theorem rows_cells {α : Type} (f : α → List Value) (k : Nat) (hk : ∀ a, (f a).length = k) {W : World} {B : Nat} : ∀ (l : List α) (o : Nat), (∀ j (h : j < l.length) i u, (f l[j])[i]? = some u → W.cell? ⟨B, o + j * k + i, none⟩ = some u) → ∀ j u, (l.flatMap f)[j]? = some u → W.cell? ((⟨B, o, none⟩ : Addr).add j) = some u := by
  intro l
  induction l with
  | nil => intro o _ j u h; simp at h
  | cons x l ih =>
    intro o h j u hj
    have hadd : ∀ q j : Nat, (⟨B, q, none⟩ : Addr).add j = ⟨B, q + j, none⟩ := fun q j => by unfold Addr.add; split <;> simp_all
    rw [hadd]
    rw [List.flatMap_cons] at hj
    by_cases hjk : j < k
    · rw [List.getElem?_append_left (by rw [hk]; exact hjk)] at hj
      have := h 0 (by simp) j u hj
      simpa using this
    · rw [List.getElem?_append_right (by rw [hk]; omega), hk] at hj
      have h2 : ∀ i (hi : i < l.length) q u, (f l[i])[q]? = some u → W.cell? ⟨B, o + k + i * k + q, none⟩ = some u := fun i hi q u hq => by
        have := h (i + 1) (by simpa using hi) q u (by simpa using hq)
        rw [← this]; congr 2; rw [Nat.succ_mul]; omega
      have := ih (o + k) h2 (j - k) u hj
      rw [hadd] at this
      rw [← this]; congr 2; omega
theorem vecs_cells {W : World} {B o : Nat} {l : List V2} (h : VecsAt W (some ⟨B, o, none⟩) l) : ∀ j u, (vrows l)[j]? = some u → W.cell? ((⟨B, o, none⟩ : Addr).add j) = some u := by
  refine rows_cells _ 2 (fun _ => rfl) l o fun j hj i u hu => ?_
  obtain ⟨B', o', e, _, h1, h2⟩ := h j hj
  injection e with e
  injection e with e1 e2
  subst e1 e2
  have hi : i < 2 := by simpa using (List.getElem?_eq_some_iff.1 hu).1
  rcases (show i = 0 ∨ i = 1 by omega) with rfl | rfl <;> (simp at hu; subst hu; simpa using by assumption)
theorem vrows_one (l : List V2) : ∀ u ∈ vrows l, u.oneCell' = true := by
  intro u hu
  obtain ⟨k, -, hk⟩ := List.mem_flatMap.1 hu
  simp only [List.mem_cons, List.not_mem_nil, or_false] at hk
  rcases hk with rfl | rfl <;> rfl
end Go.Proofs.YtpiacndnjehbiaaDoor

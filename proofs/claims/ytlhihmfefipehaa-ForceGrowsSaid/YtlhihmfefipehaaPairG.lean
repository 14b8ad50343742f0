/- A ring whose numbers are not told: contracts of what it hands out, by bounds alone. Condition: the ring's block is as NewRing made it. A region that draws its order, by what holds between its operations: what may come up is told by the edges alone, so that no order and no set of operations is walked through. -/
import Derived.Test.YtlhihmfefipehaaSkyMG
import Derived.Test.YtlhihmfefipehaaInv
namespace Go.Proofs.Ytlhihmfefipehaa
open Go.RowKit Go.Shelf
attribute [local go_sem] Ext.cell Ext.frozen Ext.lt Ext.le Ext.lt_add Ext.le_add Ext.ne Ext.ne' lt2 lt3 lt4 lt5 le2 le3 le4
attribute [local go_sem] RExt.cell RExt.frozen RExt.lt RExt.le RExt.lt_add RExt.le_add RExt.ne RExt.ne'
/-- A ring in block b that has handed out at most m numbers. -/
def RingM (w : World) (b m : Nat) : Prop := ∃ p len cap z k, RingAt w b p len cap z k ∧ k ≤ m
theorem RingM.lt {w : World} {b m : Nat} (h : RingM w b m) : b < w.heap.size := by obtain ⟨p, len, cap, z, k, h, _⟩ := h; exact h.lt
theorem RingM.alloc {w : World} {b m : Nat} (h : RingM w b m) (o : Obj) : RingM (w.alloc o) b m := by obtain ⟨p, len, cap, z, k, h, hk⟩ := h; exact ⟨p, len, cap, z, k, h.alloc o, hk⟩
theorem RingM.drew {w : World} {b m : Nat} (h : RingM w b m) : RingM w.drew b m := by obtain ⟨p, len, cap, z, k, h, hk⟩ := h; exact ⟨p, len, cap, z, k, h.drew, hk⟩
theorem RingM.ext {w : World} {b m : Nat} (h : RingM w b m) (x : Ext w) : RingM x.now b m := by obtain ⟨p, len, cap, z, k, h, hk⟩ := h; exact ⟨p, len, cap, z, k, h.ext x, hk⟩
theorem RingM.on {w w' : World} {b m : Nat} (h : RingM w b m) (y : Below w.heap.size w w') : RingM w' b m := h.ext ⟨w', y⟩
theorem RingM.set {w : World} {b m : Nat} (h : RingM w b m) {B o : Nat} (v : Value) (hB : b < B) : RingM (w.setCell ⟨B, o, none⟩ v) b m := by obtain ⟨p, len, cap, z, k, h, hk⟩ := h; exact ⟨p, len, cap, z, k, h.set v hB, hk⟩
theorem RingM.mono {w : World} {b m m' : Nat} (h : RingM w b m) (hm : m ≤ m') : RingM w b m' := by obtain ⟨p, len, cap, z, k, h, hk⟩ := h; exact ⟨p, len, cap, z, k, h, by omega⟩
/-- A write to a row that a call made behind the ring. -/
theorem RingM.grown {w w' : World} {b m base : Nat} {e : TypeId} {size n : Nat} {v : Value} {xs : List Value} (h : RingM w b m) (hown : w.ownsRow base e size v n xs) (hb : b < base) (hg : w.grownBy w' v.ownBlock) : RingM w' b m := by
  obtain ⟨p, len, cap, z, k, h, hk⟩ := h
  have hl := h.lt
  have hs : ∀ B, B ≤ b → w'.heap[B]? = w.heap[B]? := fun B hB => hg.block B (by omega) (fun e => by have := hown.lt B e.symm; omega)
  refine ⟨p, len, cap, z, k, ⟨?_, ?_, ?_, h.long, fun h0 => ?_⟩, hk⟩
  · exact (World.cell?_of_block (a := ⟨b, 0, none⟩) (hs b (Nat.le_refl _))).trans h.list
  · exact (World.cell?_of_block (a := ⟨b, 1, none⟩) (hs b (Nat.le_refl _))).trans h.count
  · exact (World.frozen?_of_block (a := ⟨b, 1, none⟩) (hs b (Nat.le_refl _))).trans h.free
  · obtain ⟨B, o, hp, hB, hi⟩ := h.some h0
    exact ⟨B, o, hp, hB, fun i hi' => ⟨(World.cell?_of_block (a := ⟨B, o + i, none⟩) (hs B (by omega))).trans (hi i hi').1, (hi i hi').2⟩⟩
theorem Next_y (n : Int) (b m : Nat) (w : World) (hm : m < 1000000000) (hn : 0 < n) (hn2 : n < 9223372036854775808) (h : RingM w b m) :
    Calls Try.prog 59 #[.pointer (some ⟨b, 0, none⟩), .int .i64 n] w (fun e w' => ∃ (y : RExt w b) (v : Int), e = .returned (.int .i64 v) ∧ (0 ≤ v ∧ v < n) ∧ w' = y.now ∧ RingM y.now b (m + 1)) := by
  obtain ⟨p, len, cap, z, k, h, hk⟩ := h
  refine (Next_r n b p len cap z k w (by omega) hn hn2 h).mono ?_
  rintro e w' ⟨rfl, hb, hr⟩
  exact ⟨⟨w', hb⟩, _, rfl, ⟨Int.emod_nonneg _ (by omega), Int.emod_lt_of_pos _ hn⟩, rfl, p, len, cap, z, k + 1, hr, by omega⟩
theorem owns_belowX {w w' : World} {base : Nat} {e : TypeId} {size : Nat} {v : Value} {n b : Nat} {xs : List Value} (h : w.ownsRow base e size v n xs) (hb : b < base) (y : BelowX b w.heap.size w w') : w'.ownsRow base e size v n xs := by
  refine ⟨h.1, ?_⟩
  rcases h.2 with h2 | ⟨g, cap, cur, rfl, hg, hgg, rest⟩
  · exact .inl h2
  · exact .inr ⟨g, cap, cur, rfl, hg, (y.block g (Array.getElem?_eq_some_iff.1 hgg).1 (by omega)).trans hgg, rest⟩
theorem belowX_grown {w w' w0 : World} {base : Nat} {e : TypeId} {size : Nat} {v : Value} {n b B : Nat} {xs : List Value} (h : BelowX b B w0 w) (hown : w.ownsRow base e size v n xs) (hb : B ≤ base) (hBw : B ≤ w.heap.size) (hg : w.grownBy w' v.ownBlock) : BelowX b B w0 w' :=
  ⟨hg.os.trans h.os, hg.tape.trans h.tape, hg.output.trans h.output, Nat.le_trans h.size hg.size, fun k hk hkb => (hg.block k (by omega) (fun e => by have := hown.lt k e.symm; omega)).trans (h.block k hk hkb)⟩
theorem PointOf_y (n : Int) (b m : Nat) (w : World) (hm : m < 100000000) (hn : 0 ≤ n) (hn2 : n ≤ 1000000000) (h : RingM w b m) :
    Calls Try.prog 24 #[.pointer (some ⟨b, 0, none⟩), .int .i64 n] w (fun e w' => ∃ (y : RExt w b) (v : V2), e = .returned (.agg #[.int .i64 v.x, .int .i64 v.y]) ∧ ((-n ≤ v.x ∧ v.x ≤ n) ∧ -n ≤ v.y ∧ v.y ≤ n) ∧ w' = y.now ∧ RingM y.now b (m + 2)) := by
  have hl := h.lt
  have hne : w.heap.size ≠ b := by omega
  go_enter Try.func24, Try.ntmps24
  go_wp2_with (first | ((first | with_reducible refine wrx2 ?_ | with_reducible refine wrx ?_); (repeat (first | go_big_quiet_step ((first | fail)) | quiet_step ((first | fail)))); refine wpQuiet_nil ?_; rintro _ ⟨yr, rfl⟩; have syr := Ext.size yr; (repeat (first | rw [World.size_alloc] at syr | rw [World.size_setCell] at syr | rw [World.size_drew] at syr)); have : b < yr.now.heap.size := (by omega); have : b ≤ yr.now.heap.size := (by omega); have : b < yr.now.heap.size + 1 + 1 := (by omega); have : w.heap.size < yr.now.heap.size := (by omega); have : w.heap.size ≤ yr.now.heap.size := (by omega); have : w.heap.size < yr.now.heap.size + 1 + 1 := (by omega)) | (go_at_call 59; (with_reducible refine Calls.mono (Next_y (2 * n + 1) b m _ (by omega) (by omega) (by omega) ?_) ?_); (focus ((repeat (first | (with_reducible assumption) | (with_reducible refine RingM.alloc ?_ _) | (with_reducible refine RingM.drew ?_) | (with_reducible refine RingM.ext ?_ _) | (with_reducible refine RingM.set ?_ _ (by omega)))); done)); (rintro _ _ ⟨yx1, vx1, rfl, hvx1, rfl, rgx1⟩); have syx1 := RExt.size yx1; (repeat (first | rw [World.size_alloc] at syx1 | rw [World.size_setCell] at syx1 | rw [World.size_drew] at syx1)); have : b < yx1.now.heap.size := (by omega); have : b ≤ yx1.now.heap.size := (by omega); have : b < yx1.now.heap.size + 1 + 1 := (by omega); have : w.heap.size < yx1.now.heap.size := (by omega); have : w.heap.size ≤ yx1.now.heap.size := (by omega); have : w.heap.size < yx1.now.heap.size + 1 + 1 := (by omega)) | (go_at_call 59; (with_reducible refine Calls.mono (Next_y (2 * n + 1) b (m + 1) _ (by omega) (by omega) (by omega) ?_) ?_); (focus ((repeat (first | (with_reducible assumption) | (with_reducible refine RingM.alloc ?_ _) | (with_reducible refine RingM.drew ?_) | (with_reducible refine RingM.ext ?_ _) | (with_reducible refine RingM.set ?_ _ (by omega)))); done)); (rintro _ _ ⟨yx2, vx2, rfl, hvx2, rfl, rgx2⟩); have syx2 := RExt.size yx2; (repeat (first | rw [World.size_alloc] at syx2 | rw [World.size_setCell] at syx2 | rw [World.size_drew] at syx2)); have : b < yx2.now.heap.size := (by omega); have : b ≤ yx2.now.heap.size := (by omega); have : b < yx2.now.heap.size + 1 + 1 := (by omega); have : w.heap.size < yx2.now.heap.size := (by omega); have : w.heap.size ≤ yx2.now.heap.size := (by omega); have : w.heap.size < yx2.now.heap.size + 1 + 1 := (by omega)))
  have l : ∀ o, yx2.now.cell? ⟨w.heap.size, o, none⟩ = (w.alloc (.cells #[.int .i64 0, .int .i64 0] 43)).cell? ⟨w.heap.size, o, none⟩ := fun o => by
    rw [yx2.cell (by omega) hne, yx1.cell (by simp) hne]
  have l0 : yx2.now.cell? ⟨w.heap.size, 0, none⟩ = some (.int .i64 0) := by rw [l]; simp [go_sem]
  have l1 : yx2.now.cell? ⟨w.heap.size, 1, none⟩ = some (.int .i64 0) := by rw [l]; simp [go_sem]
  refine bodyPost_ret (v := .agg #[.int .i64 (vx1 - n), .int .i64 (vx2 - n)]) (by simp [results, Try.results24, go_sem, l0, l1]) rfl ?_
  refine ⟨⟨(yx2.now.setCell ⟨w.heap.size, 0, none⟩ (.int .i64 (vx1 - n))).setCell ⟨w.heap.size, 1, none⟩ (.int .i64 (vx2 - n)), ?_⟩, ⟨vx1 - n, vx2 - n⟩, rfl, ⟨⟨by simp only; omega, by simp only; omega⟩, by simp only; omega, by simp only; omega⟩, rfl, (rgx2.set _ (by omega)).set _ (by omega)⟩
  repeat' (first | (with_reducible exact BelowX.refl _ _ _) | (with_reducible assumption) | (with_reducible refine RExt.belowX _ ?_ ?_) | (with_reducible refine Ext.belowX _ ?_ ?_) | (with_reducible refine BelowX.alloc ?_ ?_ _) | (with_reducible refine BelowX.drew ?_) | (with_reducible refine BelowX.setCell ?_ ?_ _) | (with_reducible exact Nat.le_refl _) | omega | (simp; done) | (simp [go_sem]; done) | (simp at *; omega))
end Go.Proofs.Ytlhihmfefipehaa
namespace Go.Proofs.Ytlhihmfefipehaa
open Go.RowKit
def depsOk (md : Region.Mode) (ops : Array Oper) (deps : List (List Nat)) : Bool :=
  (List.range ops.size).all fun i => match ops[i]? with
    | none => true
    | some o => (o.after.all fun e => !Region.binds md e || decide (e.on < i)) && (deps.getD i []).all fun j => o.after.any fun e => Region.binds md e && e.on == j
section
variable {P : Program} {ops : Array Oper} {Q : Exit → Act → World → Prop} {md : Region.Mode} {deps : List (List Nat)} {Inv : List Bool → Act → World → Prop}
theorem depsOk_at (hD : depsOk md ops deps = true) {i : Nat} {o : Oper} (ho : ops[i]? = some o) : (∀ e ∈ o.after, Region.binds md e = true → e.on < i) ∧ ∀ j ∈ deps.getD i [], ∃ e ∈ o.after, Region.binds md e = true ∧ e.on = j := by
  have h1 := List.all_eq_true.1 hD i (List.mem_range.2 (Array.getElem?_eq_some_iff.1 ho).1)
  simp only [ho, Bool.and_eq_true, Array.all_eq_true', List.all_eq_true] at h1
  refine ⟨fun e he hb => ?_, fun j hj => ?_⟩
  · have := h1.1 e he
    simpa [hb] using this
  · obtain ⟨e, he, hb⟩ := Array.any_eq_true'.1 (h1.2 j hj)
    simp only [Bool.and_eq_true, beq_iff_eq] at hb
    exact ⟨e, he, hb.1, hb.2⟩
theorem ready_dep (hD : depsOk md ops deps = true) {l : List Bool} (hl : l.length = ops.size) {i : Nat} (hi : i ∈ Region.ready md ops l.toArray) : ((deps.getD i []).all fun j => l.getD j false) = true ∧ l[i]? = some false := by
  obtain ⟨hu, o, ho, hall⟩ := mem_ready.1 hi
  have hlt : i < ops.size := (Array.getElem?_eq_some_iff.1 ho).1
  refine ⟨List.all_eq_true.2 fun j hj => ?_, ?_⟩
  · obtain ⟨e, he, hb, rfl⟩ := (depsOk_at hD ho).2 j hj
    simpa using hall e he hb
  · have h2 : i < l.length := by omega
    rw [List.getElem?_eq_getElem h2]
    simpa [h2] using hu
theorem ready_nil (hD : depsOk md ops deps = true) {l : List Bool} (hl : l.length = ops.size) (hr : Region.ready md ops l.toArray = []) : l.all id = true := by
  have key : ∀ i, i < ops.size → l.getD i false = true := by
    intro i
    induction i using Nat.strongRecOn with
    | ind i ih =>
      intro hi
      cases hb : l.getD i false with
      | true => rfl
      | false =>
        have hm : i ∈ Region.ready md ops l.toArray := by
          refine mem_ready.2 ⟨?_, ops[i], Array.getElem?_eq_getElem hi, fun e he hbn => ?_⟩
          · have h2 : i < l.length := by omega
            simpa [h2] using hb
          · have h1 := (depsOk_at hD (Array.getElem?_eq_getElem hi)).1 e he hbn
            simpa using ih e.on h1 (by omega)
        rw [hr] at hm
        cases hm
  refine List.all_eq_true.2 fun b hb => ?_
  obtain ⟨i, hi, rfl⟩ := List.getElem_of_mem hb
  have := key i (by omega)
  simpa [hi] using this
theorem wpAny_dep (hD : depsOk md ops deps = true)
    (hstep : ∀ l a w i, l.length = ops.size → Inv l a w → ((deps.getD i []).all fun j => l.getD j false) = true → l[i]? = some false → wpOp P ops Q i (Inv (l.set i true)) a w)
    (hend : ∀ l a w, l.length = ops.size → l.all id = true → Inv l a w → Q .normal a w) :
    ∀ (fuel : Nat) (l : List Bool) (a : Act) (w : World), l.length = ops.size → l.count false ≤ fuel → Inv l a w → wpAny P md ops Q fuel l.toArray a w
  | 0, l, a, w, hl, hc, hi => by
    have hall := all_of_count l (by omega)
    refine ⟨?_, hend l a w hl hall hi⟩
    refine List.eq_nil_iff_forall_not_mem.2 fun i hm => ?_
    obtain ⟨-, h2⟩ := ready_dep hD hl hm
    have := List.all_eq_true.1 hall false (List.mem_of_getElem? h2)
    cases this
  | fuel + 1, l, a, w, hl, hc, hi => by
    refine ⟨fun h => hend l a w hl (ready_nil hD hl h) hi, fun i hr => ?_⟩
    obtain ⟨h1, h2⟩ := ready_dep hD hl hr
    have := count_set l i h2
    rw [List.setIfInBounds_toArray]
    exact wpOp_mono (fun a w h => wpAny_dep hD hstep hend fuel (l.set i true) a w (by simpa using hl) (by omega) h) (hstep l a w i hl hi h1 h2)
theorem region_dep {rid : Nat} {a : Act} {w : World} (hm : P.follows .mixedOrders = true) (deps : List (List Nat)) (hD : depsOk .any ops deps = true) (Inv : Act → World → List Bool → Act → World → Prop)
    (h0 : Inv a w (List.replicate ops.size false) a w.drew)
    (hstep : ∀ l fr W i, l.length = ops.size → Inv a w l fr W → ((deps.getD i []).all fun j => l.getD j false) = true → l[i]? = some false → wpOp P ops Q i (Inv a w (l.set i true)) fr W)
    (hend : ∀ l fr W, l.length = ops.size → l.all id = true → Inv a w l fr W → Q .normal fr W) : (Code.region rid ops true).wp P Q a w := by
  refine wp_region_any hm ?_
  rw [← List.toArray_replicate]
  exact wpAny_dep (Inv := Inv a w) hD hstep hend ops.size _ _ _ (by simp) (by simp) h0
end
theorem list14 {α : Type} {l : List α} (h : l.length = 14) : ∃ b0 b1 b2 b3 b4 b5 b6 b7 b8 b9 b10 b11 b12 b13, l = [b0, b1, b2, b3, b4, b5, b6, b7, b8, b9, b10, b11, b12, b13] := by
  match l, h with
  | [b0, b1, b2, b3, b4, b5, b6, b7, b8, b9, b10, b11, b12, b13], _ => exact ⟨_, _, _, _, _, _, _, _, _, _, _, _, _, _, rfl⟩
end Go.Proofs.Ytlhihmfefipehaa

/- Contract of package span's iterator over the sides of a sweep. No condition but that the numbers are places'. -/
import Derived.Test.YtagfhekjmkdjkaaIter
namespace Go.Proofs.Ytagfhekjmkdjkaa
open Go.RowKit Go.Shelf
attribute [local go_sem] Oper.semAt_some
attribute [local go_sem] Ext.cell Ext.frozen Ext.lt Ext.le Ext.lt_add Ext.le_add Ext.ne Ext.ne' lt2 lt3 lt4 lt5 le2 le3 le4
section
variable {F : Fence} {n : Nat} {P : Program} {ops : Array Oper} {md : Region.Mode} {Q : Exit → Act → World → Prop}
/-- In this state and this world operation o yields v, and calls nothing. -/
def YieldsHere (P : Program) (ops : Array Oper) (o : Oper) (v : Value) (a : Act) (w : World) : Prop :=
  Region.wanted o (yielded ops a.tmps) = true ∧ (execOp a.eval o).run P w = .ok (.value v) w ∧ o.about P w a.eval = none
theorem YieldsHere.wpOpIn {i : Nat} {o : Oper} {v : Value} {a : Act} {K : Act → World → Prop} {w : World} (hro : F.round = none) (hi : ops[i]? = some o) (hy : YieldsHere P ops o v a w) (h : K (a.put o.dst v) w) :
    wpOpIn F n P ops Q i K a w := by
  unfold Go.wpOpIn
  simp only [hi]
  rw [if_pos hy.1]
  unfold Oper.wpIn
  rw [hro, Oper.semAt_none, hy.2.1]
  exact ⟨fun f hf => (by rw [hy.2.2] at hf; cases hf), h⟩
/-- An operation that may be taken first; where its value goes is named. -/
theorem take_put {i : Nat} {oi : Oper} {v : Value} {fuel : Nat} {listed : Array Bool} {a : Act} {w : World} (hro : F.round = none) (hi : ops[i]? = some oi) (d : Nat) (hd : oi.dst = some d)
    (hs : Region.noSelect ops = true) (hf : Region.free md ops listed i = true) (hr : (Region.ready md ops listed).contains i = true)
    (hQ : ∀ c a w, Q (.panic c) (a.put oi.dst v) w → Q (.panic c) a w) (hy : YieldsFenced P ops oi v a)
    (h : wpAnyIn F n P md ops Q fuel (listed.setIfInBounds i true) (a.put (some d) v) w) : wpAnyIn F n P md ops Q (fuel + 1) listed a w :=
  wpAnyIn_take hro hi hs hf hr hQ hy (hd ▸ h)
/-- Two operations that may come up in either order. -/
theorem wpAnyIn_two {i j : Nat} {oi oj : Oper} {vi vj : Value} {fuel : Nat} {listed : Array Bool} {a : Act} {w : World} (hro : F.round = none) (hr : Region.ready md ops listed = [i, j]) (hi : ops[i]? = some oi) (hj : ops[j]? = some oj)
    (hri : Region.ready md ops (listed.setIfInBounds i true) = [j]) (hrj : Region.ready md ops (listed.setIfInBounds j true) = [i]) (hij : i ≠ j) (di dj : Nat) (hdi : oi.dst = some di) (hdj : oj.dst = some dj) (hd : di ≠ dj)
    (y1 : YieldsHere P ops oi vi a w) (y2 : YieldsHere P ops oj vj a w) (y3 : YieldsHere P ops oi vi (a.put (some dj) vj) w) (y4 : YieldsHere P ops oj vj (a.put (some di) vi) w)
    (h : wpAnyIn F n P md ops Q fuel ((listed.setIfInBounds i true).setIfInBounds j true) ((a.put (some di) vi).put (some dj) vj) w) : wpAnyIn F n P md ops Q (fuel + 2) listed a w := by
  refine ⟨fun h0 => (by rw [hr] at h0; cases h0), fun k hk => ?_⟩
  rw [hr] at hk
  rcases List.mem_cons.1 hk with rfl | hk
  · refine y1.wpOpIn hro hi ⟨fun h0 => (by rw [hri] at h0; cases h0), fun k hk => ?_⟩
    rw [hri] at hk
    obtain rfl := List.mem_singleton.1 hk
    rw [hdi]
    refine y4.wpOpIn hro hj ?_
    rw [hdj]
    exact h
  · obtain rfl := List.mem_singleton.1 hk
    refine y2.wpOpIn hro hj ⟨fun h0 => (by rw [hrj] at h0; cases h0), fun k hk => ?_⟩
    rw [hrj] at hk
    obtain rfl := List.mem_singleton.1 hk
    rw [hdj]
    refine y3.wpOpIn hro hi ?_
    rw [hdi, Array.setIfInBounds_comm _ _ (Ne.symm hij), ← Act.put_comm a vi vj (fun d h1 h2 => hd (by cases h1; cases h2; rfl))]
    exact h
end
/-- The sides of the sweep of two rings, in their order. -/
def sidesL (p0 p1 p2 p3 q0 q1 q2 q3 : Pl) : List (Pl × Pl) := [(p0, p1), (q0, q1), (p0, q0), (p1, p2), (q1, q2), (p1, q1), (p2, p3), (q2, q3), (p2, q2), (p3, p0), (q3, q0), (p3, q3)]
set_option maxHeartbeats 8000000 in
set_option maxRecDepth 100000 in
theorem sides1_in (F : Fence) (n : Nat) (hF : F.fn 70) (hro : F.round = none) (hn : 1 ≤ n) (l Bn n₀ : Nat) (hBn : Bn < n₀) (p0 p1 p2 p3 q0 q1 q2 q3 : Pl) (J Jx : List (Pl × Pl) → World → Prop) (W : World)
    (hJ : AbidesFrom W.heap.size J)
    (hY : ∀ pre (x : Pl × Pl) W1, J pre W1 → pre.length < 12 → YieldAt F (n - 1) Try.prog l #[.agg #[.int .i64 x.1.x, .int .i64 x.1.y], .agg #[.int .i64 x.2.x, .int .i64 x.2.y]] W1 fun e W' =>
      (e = .returned (.bool true) ∧ J (pre ++ [x]) W' ∧ Below n₀ W1 W') ∨ (e = .returned (.bool false) ∧ Jx (pre ++ [x]) W'))
    (c0 : W.cell? ⟨Bn, 0, none⟩ = some (.int .i64 p0.x)) (c1 : W.cell? ⟨Bn, 1, none⟩ = some (.int .i64 p0.y))
    (c2 : W.cell? ⟨Bn, 2, none⟩ = some (.int .i64 p1.x)) (c3 : W.cell? ⟨Bn, 3, none⟩ = some (.int .i64 p1.y))
    (c4 : W.cell? ⟨Bn, 4, none⟩ = some (.int .i64 p2.x)) (c5 : W.cell? ⟨Bn, 5, none⟩ = some (.int .i64 p2.y))
    (c6 : W.cell? ⟨Bn, 6, none⟩ = some (.int .i64 p3.x)) (c7 : W.cell? ⟨Bn, 7, none⟩ = some (.int .i64 p3.y))
    (c8 : W.cell? ⟨Bn, 8, none⟩ = some (.int .i64 q0.x)) (c9 : W.cell? ⟨Bn, 9, none⟩ = some (.int .i64 q0.y))
    (c10 : W.cell? ⟨Bn, 10, none⟩ = some (.int .i64 q1.x)) (c11 : W.cell? ⟨Bn, 11, none⟩ = some (.int .i64 q1.y))
    (c12 : W.cell? ⟨Bn, 12, none⟩ = some (.int .i64 q2.x)) (c13 : W.cell? ⟨Bn, 13, none⟩ = some (.int .i64 q2.y))
    (c14 : W.cell? ⟨Bn, 14, none⟩ = some (.int .i64 q3.x)) (c15 : W.cell? ⟨Bn, 15, none⟩ = some (.int .i64 q3.y))
    (h0 : J [] W) :
    CallsIn F n Try.prog 70 #[.func (.yield l) #[] #[], .pointer (some ⟨Bn, 0, none⟩)] W fun e W' => (∃ v, e = .returned v) ∧
      ((∃ xs, xs = sidesL p0 p1 p2 p3 q0 q1 q2 q3 ∧ J xs W') ∨ (∃ pre, pre <+: sidesL p0 p1 p2 p3 q0 q1 q2 q3 ∧ Jx pre W')) := by
  refine callsIn_of_wp Try.func70 rfl hF ?_ hro
  simp only [Try.ntmps70, List.size_toArray, List.length_cons, List.length_nil, Nat.reduceAdd, Nat.reduceSub, Array.replicate_succ, Array.replicate_zero, List.push_toArray, List.append_toArray, List.nil_append, List.cons_append]
  gi_wp2
  gi_loopw [5] (fun s wr => ∃ i : Nat, i ≤ 4 ∧ s = .int .i64 i ∧ J ((sidesL p0 p1 p2 p3 q0 q1 q2 q3).take (3 * i)) wr ∧ Below n₀ W wr) (fun s _ => 4 - (intOf s).toNat)
  case atStart => exact ⟨0, by omega, rfl, h0, Below.refl _ _⟩
  case round =>
    obtain ⟨i, hi, rfl, hJs, hnx⟩ := hrel
    have r0 : ∀ o, wr.cell? ⟨Bn, o, none⟩ = W.cell? ⟨Bn, o, none⟩ := fun o => hnx.cell (p := ⟨Bn, o, none⟩) hBn
    have hJc : J _ wr.drew := hJ _ wr wr.drew none hJs ⟨rfl, rfl, rfl, Nat.le_refl _, fun _ _ _ => rfl⟩ (fun r e => by cases e)
    clear h0
    by_cases hlt : i < 4
    · clear hJs
      rcases (show i = 0 ∨ i = 1 ∨ i = 2 ∨ i = 3 by omega) with rfl | rfl | rfl | rfl
      · gi_wp2
        refine wpIn_region_any (by kernel_rfl) ?_
        change wpAnyIn _ _ _ _ _ _ _ _ _ (World.drew _)
        refine take_put (i := 0) (v := ?_) hro rfl 11 (by kernel_rfl) (by kernel_rfl) (by kernel_rfl) (by kernel_rfl) (fun _ _ _ h => h) ⟨Or.inl ⟨by kernel_rfl, ?_⟩, fun _ => by kernel_rfl⟩ ?_
        rotate_left
        · (intro w; go_simp; (try with_reducible rfl))
        refine take_put (i := 1) (v := ?_) hro rfl 12 (by kernel_rfl) (by kernel_rfl) (by kernel_rfl) (by kernel_rfl) (fun _ _ _ h => h) ⟨Or.inl ⟨by kernel_rfl, ?_⟩, fun _ => by kernel_rfl⟩ ?_
        rotate_left
        · (intro w; go_simp; (try with_reducible rfl))
        refine take_put (i := 2) (v := ?_) hro rfl 13 (by kernel_rfl) (by kernel_rfl) (by kernel_rfl) (by kernel_rfl) (fun _ _ _ h => h) ⟨Or.inl ⟨by kernel_rfl, ?_⟩, fun _ => by kernel_rfl⟩ ?_
        rotate_left
        · (intro w; go_simp; (try with_reducible rfl))
        refine take_put (i := 3) (v := ?_) hro rfl 14 (by kernel_rfl) (by kernel_rfl) (by kernel_rfl) (by kernel_rfl) (fun _ _ _ h => h) ⟨Or.inl ⟨by kernel_rfl, ?_⟩, fun _ => by kernel_rfl⟩ ?_
        rotate_left
        · (intro w; go_simp; (try with_reducible rfl))
        refine take_put (i := 5) (v := ?_) hro rfl 16 (by kernel_rfl) (by kernel_rfl) (by kernel_rfl) (by kernel_rfl) (fun _ _ _ h => h) ⟨Or.inl ⟨by kernel_rfl, ?_⟩, fun _ => by kernel_rfl⟩ ?_
        rotate_left
        · (intro w; go_simp; (try with_reducible rfl))
        refine take_put (i := 6) (v := ?_) hro rfl 17 (by kernel_rfl) (by kernel_rfl) (by kernel_rfl) (by kernel_rfl) (fun _ _ _ h => h) ⟨Or.inl ⟨by kernel_rfl, ?_⟩, fun _ => by kernel_rfl⟩ ?_
        rotate_left
        · (intro w; go_simp; (try with_reducible rfl))
        refine take_put (i := 7) (v := ?_) hro rfl 18 (by kernel_rfl) (by kernel_rfl) (by kernel_rfl) (by kernel_rfl) (fun _ _ _ h => h) ⟨Or.inl ⟨by kernel_rfl, ?_⟩, fun _ => by kernel_rfl⟩ ?_
        rotate_left
        · (intro w; go_simp; (try with_reducible rfl))
        refine wpAnyIn_two (i := 4) (j := 8) (vi := .agg #[.int .i64 p0.x, .int .i64 p0.y]) (vj := .agg #[.int .i64 p1.x, .int .i64 p1.y]) hro (by kernel_rfl) rfl rfl (by kernel_rfl) (by kernel_rfl) (by decide) 15 19 (by kernel_rfl) (by kernel_rfl) (by decide) ⟨by kernel_rfl, by go_simp, by kernel_rfl⟩ ⟨by kernel_rfl, by go_simp, by kernel_rfl⟩ ⟨by kernel_rfl, by go_simp, by kernel_rfl⟩ ⟨by kernel_rfl, by go_simp, by kernel_rfl⟩ ?_
        obtain ⟨fn, tmps, assign, body, hy, hR⟩ := hY _ (p0, p1) _ hJc (by simp [sidesL])
        dsimp only at hy
        clear hJc
        refine wpAnyIn_ready (rs := [9]) (by kernel_rfl) (by simp) ?_
        refine AllReadyIn.cons rfl (fun K hK => ?_) AllReadyIn.nil
        go_simp
        refine hR.mono ?_
        clear hR hy
        rintro e W1 (⟨rfl, hJc, hk1⟩ | ⟨rfl, hJx⟩)
        rotate_left
        · refine hK _ _ ?_
          clear hK K
          refine take_put (i := 10) (v := ?_) hro rfl 21 (by kernel_rfl) (by kernel_rfl) (by kernel_rfl) (by kernel_rfl) (fun _ _ _ h => h) ⟨Or.inl ⟨by kernel_rfl, ?_⟩, fun _ => by kernel_rfl⟩ ?_
          rotate_left
          · (intro w; go_simp; (try with_reducible rfl))
          refine take_put (i := 11) (v := ?_) hro rfl 22 (by kernel_rfl) (by kernel_rfl) (by kernel_rfl) (by kernel_rfl) (fun _ _ _ h => h) ⟨Or.inl ⟨by kernel_rfl, ?_⟩, fun _ => by kernel_rfl⟩ ?_
          rotate_left
          · (intro w; go_simp; (try with_reducible rfl))
          refine take_put (i := 12) (v := undef) hro rfl 23 (by kernel_rfl) (by kernel_rfl) (by kernel_rfl) (by kernel_rfl) (fun _ _ _ h => h) ⟨Or.inr ⟨by kernel_rfl, rfl⟩, fun _ => by kernel_rfl⟩ ?_
          refine take_put (i := 13) (v := undef) hro rfl 24 (by kernel_rfl) (by kernel_rfl) (by kernel_rfl) (by kernel_rfl) (fun _ _ _ h => h) ⟨Or.inr ⟨by kernel_rfl, rfl⟩, fun _ => by kernel_rfl⟩ ?_
          refine take_put (i := 14) (v := undef) hro rfl 25 (by kernel_rfl) (by kernel_rfl) (by kernel_rfl) (by kernel_rfl) (fun _ _ _ h => h) ⟨Or.inr ⟨by kernel_rfl, rfl⟩, fun _ => by kernel_rfl⟩ ?_
          refine take_put (i := 15) (v := undef) hro rfl 26 (by kernel_rfl) (by kernel_rfl) (by kernel_rfl) (by kernel_rfl) (fun _ _ _ h => h) ⟨Or.inr ⟨by kernel_rfl, rfl⟩, fun _ => by kernel_rfl⟩ ?_
          refine take_put (i := 16) (v := undef) hro rfl 27 (by kernel_rfl) (by kernel_rfl) (by kernel_rfl) (by kernel_rfl) (fun _ _ _ h => h) ⟨Or.inr ⟨by kernel_rfl, rfl⟩, fun _ => by kernel_rfl⟩ ?_
          refine take_put (i := 17) (v := undef) hro rfl 28 (by kernel_rfl) (by kernel_rfl) (by kernel_rfl) (by kernel_rfl) (fun _ _ _ h => h) ⟨Or.inr ⟨by kernel_rfl, rfl⟩, fun _ => by kernel_rfl⟩ ?_
          refine take_put (i := 18) (v := undef) hro rfl 29 (by kernel_rfl) (by kernel_rfl) (by kernel_rfl) (by kernel_rfl) (fun _ _ _ h => h) ⟨Or.inr ⟨by kernel_rfl, rfl⟩, fun _ => by kernel_rfl⟩ ?_
          refine take_put (i := 19) (v := undef) hro rfl 30 (by kernel_rfl) (by kernel_rfl) (by kernel_rfl) (by kernel_rfl) (fun _ _ _ h => h) ⟨Or.inr ⟨by kernel_rfl, rfl⟩, fun _ => by kernel_rfl⟩ ?_
          refine take_put (i := 20) (v := undef) hro rfl 31 (by kernel_rfl) (by kernel_rfl) (by kernel_rfl) (by kernel_rfl) (fun _ _ _ h => h) ⟨Or.inr ⟨by kernel_rfl, rfl⟩, fun _ => by kernel_rfl⟩ ?_
          refine take_put (i := 21) (v := undef) hro rfl 32 (by kernel_rfl) (by kernel_rfl) (by kernel_rfl) (by kernel_rfl) (fun _ _ _ h => h) ⟨Or.inr ⟨by kernel_rfl, rfl⟩, fun _ => by kernel_rfl⟩ ?_
          refine take_put (i := 22) (v := undef) hro rfl 33 (by kernel_rfl) (by kernel_rfl) (by kernel_rfl) (by kernel_rfl) (fun _ _ _ h => h) ⟨Or.inr ⟨by kernel_rfl, rfl⟩, fun _ => by kernel_rfl⟩ ?_
          refine take_put (i := 23) (v := ?_) hro rfl 34 (by kernel_rfl) (by kernel_rfl) (by kernel_rfl) (by kernel_rfl) (fun _ _ _ h => h) ⟨Or.inl ⟨by kernel_rfl, ?_⟩, fun _ => by kernel_rfl⟩ ?_
          rotate_left
          · (intro w; go_simp; (try with_reducible rfl))
          refine take_put (i := 24) (v := ?_) hro rfl 35 (by kernel_rfl) (by kernel_rfl) (by kernel_rfl) (by kernel_rfl) (fun _ _ _ h => h) ⟨Or.inl ⟨by kernel_rfl, ?_⟩, fun _ => by kernel_rfl⟩ ?_
          rotate_left
          · (intro w; go_simp; (try with_reducible rfl))
          refine take_put (i := 25) (v := undef) hro rfl 36 (by kernel_rfl) (by kernel_rfl) (by kernel_rfl) (by kernel_rfl) (fun _ _ _ h => h) ⟨Or.inr ⟨by kernel_rfl, rfl⟩, fun _ => by kernel_rfl⟩ ?_
          refine take_put (i := 26) (v := undef) hro rfl 37 (by kernel_rfl) (by kernel_rfl) (by kernel_rfl) (by kernel_rfl) (fun _ _ _ h => h) ⟨Or.inr ⟨by kernel_rfl, rfl⟩, fun _ => by kernel_rfl⟩ ?_
          refine take_put (i := 27) (v := undef) hro rfl 38 (by kernel_rfl) (by kernel_rfl) (by kernel_rfl) (by kernel_rfl) (fun _ _ _ h => h) ⟨Or.inr ⟨by kernel_rfl, rfl⟩, fun _ => by kernel_rfl⟩ ?_
          refine take_put (i := 28) (v := undef) hro rfl 39 (by kernel_rfl) (by kernel_rfl) (by kernel_rfl) (by kernel_rfl) (fun _ _ _ h => h) ⟨Or.inr ⟨by kernel_rfl, rfl⟩, fun _ => by kernel_rfl⟩ ?_
          refine take_put (i := 29) (v := undef) hro rfl 40 (by kernel_rfl) (by kernel_rfl) (by kernel_rfl) (by kernel_rfl) (fun _ _ _ h => h) ⟨Or.inr ⟨by kernel_rfl, rfl⟩, fun _ => by kernel_rfl⟩ ?_
          refine take_put (i := 30) (v := undef) hro rfl 41 (by kernel_rfl) (by kernel_rfl) (by kernel_rfl) (by kernel_rfl) (fun _ _ _ h => h) ⟨Or.inr ⟨by kernel_rfl, rfl⟩, fun _ => by kernel_rfl⟩ ?_
          refine take_put (i := 31) (v := undef) hro rfl 42 (by kernel_rfl) (by kernel_rfl) (by kernel_rfl) (by kernel_rfl) (fun _ _ _ h => h) ⟨Or.inr ⟨by kernel_rfl, rfl⟩, fun _ => by kernel_rfl⟩ ?_
          refine take_put (i := 32) (v := undef) hro rfl 43 (by kernel_rfl) (by kernel_rfl) (by kernel_rfl) (by kernel_rfl) (fun _ _ _ h => h) ⟨Or.inr ⟨by kernel_rfl, rfl⟩, fun _ => by kernel_rfl⟩ ?_
          refine take_put (i := 33) (v := undef) hro rfl 44 (by kernel_rfl) (by kernel_rfl) (by kernel_rfl) (by kernel_rfl) (fun _ _ _ h => h) ⟨Or.inr ⟨by kernel_rfl, rfl⟩, fun _ => by kernel_rfl⟩ ?_
          refine take_put (i := 34) (v := undef) hro rfl 45 (by kernel_rfl) (by kernel_rfl) (by kernel_rfl) (by kernel_rfl) (fun _ _ _ h => h) ⟨Or.inr ⟨by kernel_rfl, rfl⟩, fun _ => by kernel_rfl⟩ ?_
          refine take_put (i := 35) (v := undef) hro rfl 46 (by kernel_rfl) (by kernel_rfl) (by kernel_rfl) (by kernel_rfl) (fun _ _ _ h => h) ⟨Or.inr ⟨by kernel_rfl, rfl⟩, fun _ => by kernel_rfl⟩ ?_
          refine take_put (i := 36) (v := ?_) hro rfl 47 (by kernel_rfl) (by kernel_rfl) (by kernel_rfl) (by kernel_rfl) (fun _ _ _ h => h) ⟨Or.inl ⟨by kernel_rfl, ?_⟩, fun _ => by kernel_rfl⟩ ?_
          rotate_left
          · (intro w; go_simp; (try with_reducible rfl))
          refine wpAnyIn_done (by kernel_rfl) ?_ _
          simp only [Act.put, List.setIfInBounds_toArray, List.set_cons_succ, List.set_cons_zero]
          gi_wp2
          refine bodyPost_ret (results_none rfl _ _ _) rfl ?_
          exact ⟨⟨_, rfl⟩, .inr ⟨_, ⟨(sidesL p0 p1 p2 p3 q0 q1 q2 q3).drop 1, rfl⟩, hJx⟩⟩
        have r1 : ∀ o, W1.cell? ⟨Bn, o, none⟩ = W.cell? ⟨Bn, o, none⟩ := fun o => (hk1.cell (p := ⟨Bn, o, none⟩) hBn).trans (by simpa using r0 o)
        refine hK _ _ ?_
        clear hK K
        refine take_put (i := 10) (v := ?_) hro rfl 21 (by kernel_rfl) (by kernel_rfl) (by kernel_rfl) (by kernel_rfl) (fun _ _ _ h => h) ⟨Or.inl ⟨by kernel_rfl, ?_⟩, fun _ => by kernel_rfl⟩ ?_
        rotate_left
        · (intro w; go_simp; (try with_reducible rfl))
        refine take_put (i := 11) (v := ?_) hro rfl 22 (by kernel_rfl) (by kernel_rfl) (by kernel_rfl) (by kernel_rfl) (fun _ _ _ h => h) ⟨Or.inl ⟨by kernel_rfl, ?_⟩, fun _ => by kernel_rfl⟩ ?_
        rotate_left
        · (intro w; go_simp; (try with_reducible rfl))
        refine take_put (i := 12) (v := ?_) hro rfl 23 (by kernel_rfl) (by kernel_rfl) (by kernel_rfl) (by kernel_rfl) (fun _ _ _ h => h) ⟨Or.inl ⟨by kernel_rfl, ?_⟩, fun _ => by kernel_rfl⟩ ?_
        rotate_left
        · (intro w; go_simp; (try with_reducible rfl))
        refine take_put (i := 13) (v := ?_) hro rfl 24 (by kernel_rfl) (by kernel_rfl) (by kernel_rfl) (by kernel_rfl) (fun _ _ _ h => h) ⟨Or.inl ⟨by kernel_rfl, ?_⟩, fun _ => by kernel_rfl⟩ ?_
        rotate_left
        · (intro w; go_simp; (try with_reducible rfl))
        refine take_put (i := 14) (v := ?_) hro rfl 25 (by kernel_rfl) (by kernel_rfl) (by kernel_rfl) (by kernel_rfl) (fun _ _ _ h => h) ⟨Or.inl ⟨by kernel_rfl, ?_⟩, fun _ => by kernel_rfl⟩ ?_
        rotate_left
        · (intro w; go_simp; (try with_reducible rfl))
        refine take_put (i := 15) (v := ?_) hro rfl 26 (by kernel_rfl) (by kernel_rfl) (by kernel_rfl) (by kernel_rfl) (fun _ _ _ h => h) ⟨Or.inl ⟨by kernel_rfl, ?_⟩, fun _ => by kernel_rfl⟩ ?_
        rotate_left
        · (intro w; go_simp; (try with_reducible rfl))
        refine take_put (i := 17) (v := ?_) hro rfl 28 (by kernel_rfl) (by kernel_rfl) (by kernel_rfl) (by kernel_rfl) (fun _ _ _ h => h) ⟨Or.inl ⟨by kernel_rfl, ?_⟩, fun _ => by kernel_rfl⟩ ?_
        rotate_left
        · (intro w; go_simp; (try with_reducible rfl))
        refine take_put (i := 18) (v := ?_) hro rfl 29 (by kernel_rfl) (by kernel_rfl) (by kernel_rfl) (by kernel_rfl) (fun _ _ _ h => h) ⟨Or.inl ⟨by kernel_rfl, ?_⟩, fun _ => by kernel_rfl⟩ ?_
        rotate_left
        · (intro w; go_simp; (try with_reducible rfl))
        refine take_put (i := 19) (v := ?_) hro rfl 30 (by kernel_rfl) (by kernel_rfl) (by kernel_rfl) (by kernel_rfl) (fun _ _ _ h => h) ⟨Or.inl ⟨by kernel_rfl, ?_⟩, fun _ => by kernel_rfl⟩ ?_
        rotate_left
        · (intro w; go_simp; (try with_reducible rfl))
        refine wpAnyIn_two (i := 16) (j := 20) (vi := .agg #[.int .i64 q0.x, .int .i64 q0.y]) (vj := .agg #[.int .i64 q1.x, .int .i64 q1.y]) hro (by kernel_rfl) rfl rfl (by kernel_rfl) (by kernel_rfl) (by decide) 27 31 (by kernel_rfl) (by kernel_rfl) (by decide) ⟨by kernel_rfl, by go_simp, by kernel_rfl⟩ ⟨by kernel_rfl, by go_simp, by kernel_rfl⟩ ⟨by kernel_rfl, by go_simp, by kernel_rfl⟩ ⟨by kernel_rfl, by go_simp, by kernel_rfl⟩ ?_
        obtain ⟨fn, tmps, assign, body, hy, hR⟩ := hY _ (q0, q1) _ hJc (by simp [sidesL])
        dsimp only at hy
        clear hJc
        refine wpAnyIn_ready (rs := [21]) (by kernel_rfl) (by simp) ?_
        refine AllReadyIn.cons rfl (fun K hK => ?_) AllReadyIn.nil
        go_simp
        refine hR.mono ?_
        clear hR hy
        rintro e W2 (⟨rfl, hJc, hk2⟩ | ⟨rfl, hJx⟩)
        rotate_left
        · refine hK _ _ ?_
          clear hK K
          refine take_put (i := 22) (v := ?_) hro rfl 33 (by kernel_rfl) (by kernel_rfl) (by kernel_rfl) (by kernel_rfl) (fun _ _ _ h => h) ⟨Or.inl ⟨by kernel_rfl, ?_⟩, fun _ => by kernel_rfl⟩ ?_
          rotate_left
          · (intro w; go_simp; (try with_reducible rfl))
          refine take_put (i := 23) (v := ?_) hro rfl 34 (by kernel_rfl) (by kernel_rfl) (by kernel_rfl) (by kernel_rfl) (fun _ _ _ h => h) ⟨Or.inl ⟨by kernel_rfl, ?_⟩, fun _ => by kernel_rfl⟩ ?_
          rotate_left
          · (intro w; go_simp; (try with_reducible rfl))
          refine take_put (i := 24) (v := ?_) hro rfl 35 (by kernel_rfl) (by kernel_rfl) (by kernel_rfl) (by kernel_rfl) (fun _ _ _ h => h) ⟨Or.inl ⟨by kernel_rfl, ?_⟩, fun _ => by kernel_rfl⟩ ?_
          rotate_left
          · (intro w; go_simp; (try with_reducible rfl))
          refine take_put (i := 25) (v := undef) hro rfl 36 (by kernel_rfl) (by kernel_rfl) (by kernel_rfl) (by kernel_rfl) (fun _ _ _ h => h) ⟨Or.inr ⟨by kernel_rfl, rfl⟩, fun _ => by kernel_rfl⟩ ?_
          refine take_put (i := 26) (v := undef) hro rfl 37 (by kernel_rfl) (by kernel_rfl) (by kernel_rfl) (by kernel_rfl) (fun _ _ _ h => h) ⟨Or.inr ⟨by kernel_rfl, rfl⟩, fun _ => by kernel_rfl⟩ ?_
          refine take_put (i := 27) (v := undef) hro rfl 38 (by kernel_rfl) (by kernel_rfl) (by kernel_rfl) (by kernel_rfl) (fun _ _ _ h => h) ⟨Or.inr ⟨by kernel_rfl, rfl⟩, fun _ => by kernel_rfl⟩ ?_
          refine take_put (i := 28) (v := undef) hro rfl 39 (by kernel_rfl) (by kernel_rfl) (by kernel_rfl) (by kernel_rfl) (fun _ _ _ h => h) ⟨Or.inr ⟨by kernel_rfl, rfl⟩, fun _ => by kernel_rfl⟩ ?_
          refine take_put (i := 29) (v := undef) hro rfl 40 (by kernel_rfl) (by kernel_rfl) (by kernel_rfl) (by kernel_rfl) (fun _ _ _ h => h) ⟨Or.inr ⟨by kernel_rfl, rfl⟩, fun _ => by kernel_rfl⟩ ?_
          refine take_put (i := 30) (v := undef) hro rfl 41 (by kernel_rfl) (by kernel_rfl) (by kernel_rfl) (by kernel_rfl) (fun _ _ _ h => h) ⟨Or.inr ⟨by kernel_rfl, rfl⟩, fun _ => by kernel_rfl⟩ ?_
          refine take_put (i := 31) (v := undef) hro rfl 42 (by kernel_rfl) (by kernel_rfl) (by kernel_rfl) (by kernel_rfl) (fun _ _ _ h => h) ⟨Or.inr ⟨by kernel_rfl, rfl⟩, fun _ => by kernel_rfl⟩ ?_
          refine take_put (i := 32) (v := undef) hro rfl 43 (by kernel_rfl) (by kernel_rfl) (by kernel_rfl) (by kernel_rfl) (fun _ _ _ h => h) ⟨Or.inr ⟨by kernel_rfl, rfl⟩, fun _ => by kernel_rfl⟩ ?_
          refine take_put (i := 33) (v := undef) hro rfl 44 (by kernel_rfl) (by kernel_rfl) (by kernel_rfl) (by kernel_rfl) (fun _ _ _ h => h) ⟨Or.inr ⟨by kernel_rfl, rfl⟩, fun _ => by kernel_rfl⟩ ?_
          refine take_put (i := 34) (v := undef) hro rfl 45 (by kernel_rfl) (by kernel_rfl) (by kernel_rfl) (by kernel_rfl) (fun _ _ _ h => h) ⟨Or.inr ⟨by kernel_rfl, rfl⟩, fun _ => by kernel_rfl⟩ ?_
          refine take_put (i := 35) (v := undef) hro rfl 46 (by kernel_rfl) (by kernel_rfl) (by kernel_rfl) (by kernel_rfl) (fun _ _ _ h => h) ⟨Or.inr ⟨by kernel_rfl, rfl⟩, fun _ => by kernel_rfl⟩ ?_
          refine take_put (i := 36) (v := ?_) hro rfl 47 (by kernel_rfl) (by kernel_rfl) (by kernel_rfl) (by kernel_rfl) (fun _ _ _ h => h) ⟨Or.inl ⟨by kernel_rfl, ?_⟩, fun _ => by kernel_rfl⟩ ?_
          rotate_left
          · (intro w; go_simp; (try with_reducible rfl))
          refine wpAnyIn_done (by kernel_rfl) ?_ _
          simp only [Act.put, List.setIfInBounds_toArray, List.set_cons_succ, List.set_cons_zero]
          gi_wp2
          refine bodyPost_ret (results_none rfl _ _ _) rfl ?_
          exact ⟨⟨_, rfl⟩, .inr ⟨_, ⟨(sidesL p0 p1 p2 p3 q0 q1 q2 q3).drop 2, rfl⟩, hJx⟩⟩
        have r2 : ∀ o, W2.cell? ⟨Bn, o, none⟩ = W.cell? ⟨Bn, o, none⟩ := fun o => (hk2.cell (p := ⟨Bn, o, none⟩) hBn).trans (by simpa using r1 o)
        refine hK _ _ ?_
        clear hK K
        refine take_put (i := 22) (v := ?_) hro rfl 33 (by kernel_rfl) (by kernel_rfl) (by kernel_rfl) (by kernel_rfl) (fun _ _ _ h => h) ⟨Or.inl ⟨by kernel_rfl, ?_⟩, fun _ => by kernel_rfl⟩ ?_
        rotate_left
        · (intro w; go_simp; (try with_reducible rfl))
        refine take_put (i := 23) (v := ?_) hro rfl 34 (by kernel_rfl) (by kernel_rfl) (by kernel_rfl) (by kernel_rfl) (fun _ _ _ h => h) ⟨Or.inl ⟨by kernel_rfl, ?_⟩, fun _ => by kernel_rfl⟩ ?_
        rotate_left
        · (intro w; go_simp; (try with_reducible rfl))
        refine take_put (i := 24) (v := ?_) hro rfl 35 (by kernel_rfl) (by kernel_rfl) (by kernel_rfl) (by kernel_rfl) (fun _ _ _ h => h) ⟨Or.inl ⟨by kernel_rfl, ?_⟩, fun _ => by kernel_rfl⟩ ?_
        rotate_left
        · (intro w; go_simp; (try with_reducible rfl))
        refine take_put (i := 25) (v := ?_) hro rfl 36 (by kernel_rfl) (by kernel_rfl) (by kernel_rfl) (by kernel_rfl) (fun _ _ _ h => h) ⟨Or.inl ⟨by kernel_rfl, ?_⟩, fun _ => by kernel_rfl⟩ ?_
        rotate_left
        · (intro w; go_simp; (try with_reducible rfl))
        refine take_put (i := 26) (v := ?_) hro rfl 37 (by kernel_rfl) (by kernel_rfl) (by kernel_rfl) (by kernel_rfl) (fun _ _ _ h => h) ⟨Or.inl ⟨by kernel_rfl, ?_⟩, fun _ => by kernel_rfl⟩ ?_
        rotate_left
        · (intro w; go_simp; (try with_reducible rfl))
        refine take_put (i := 27) (v := ?_) hro rfl 38 (by kernel_rfl) (by kernel_rfl) (by kernel_rfl) (by kernel_rfl) (fun _ _ _ h => h) ⟨Or.inl ⟨by kernel_rfl, ?_⟩, fun _ => by kernel_rfl⟩ ?_
        rotate_left
        · (intro w; go_simp; (try with_reducible rfl))
        refine take_put (i := 28) (v := ?_) hro rfl 39 (by kernel_rfl) (by kernel_rfl) (by kernel_rfl) (by kernel_rfl) (fun _ _ _ h => h) ⟨Or.inl ⟨by kernel_rfl, ?_⟩, fun _ => by kernel_rfl⟩ ?_
        rotate_left
        · (intro w; go_simp; (try with_reducible rfl))
        refine take_put (i := 30) (v := ?_) hro rfl 41 (by kernel_rfl) (by kernel_rfl) (by kernel_rfl) (by kernel_rfl) (fun _ _ _ h => h) ⟨Or.inl ⟨by kernel_rfl, ?_⟩, fun _ => by kernel_rfl⟩ ?_
        rotate_left
        · (intro w; go_simp; (try with_reducible rfl))
        refine take_put (i := 31) (v := ?_) hro rfl 42 (by kernel_rfl) (by kernel_rfl) (by kernel_rfl) (by kernel_rfl) (fun _ _ _ h => h) ⟨Or.inl ⟨by kernel_rfl, ?_⟩, fun _ => by kernel_rfl⟩ ?_
        rotate_left
        · (intro w; go_simp; (try with_reducible rfl))
        refine take_put (i := 32) (v := ?_) hro rfl 43 (by kernel_rfl) (by kernel_rfl) (by kernel_rfl) (by kernel_rfl) (fun _ _ _ h => h) ⟨Or.inl ⟨by kernel_rfl, ?_⟩, fun _ => by kernel_rfl⟩ ?_
        rotate_left
        · (intro w; go_simp; (try with_reducible rfl))
        refine wpAnyIn_two (i := 29) (j := 33) (vi := .agg #[.int .i64 p0.x, .int .i64 p0.y]) (vj := .agg #[.int .i64 q0.x, .int .i64 q0.y]) hro (by kernel_rfl) rfl rfl (by kernel_rfl) (by kernel_rfl) (by decide) 40 44 (by kernel_rfl) (by kernel_rfl) (by decide) ⟨by kernel_rfl, by go_simp, by kernel_rfl⟩ ⟨by kernel_rfl, by go_simp, by kernel_rfl⟩ ⟨by kernel_rfl, by go_simp, by kernel_rfl⟩ ⟨by kernel_rfl, by go_simp, by kernel_rfl⟩ ?_
        obtain ⟨fn, tmps, assign, body, hy, hR⟩ := hY _ (p0, q0) _ hJc (by simp [sidesL])
        dsimp only at hy
        clear hJc
        refine wpAnyIn_ready (rs := [34]) (by kernel_rfl) (by simp) ?_
        refine AllReadyIn.cons rfl (fun K hK => ?_) AllReadyIn.nil
        go_simp
        refine hR.mono ?_
        clear hR hy
        rintro e W3 (⟨rfl, hJc, hk3⟩ | ⟨rfl, hJx⟩)
        rotate_left
        · refine hK _ _ ?_
          clear hK K
          refine take_put (i := 35) (v := ?_) hro rfl 46 (by kernel_rfl) (by kernel_rfl) (by kernel_rfl) (by kernel_rfl) (fun _ _ _ h => h) ⟨Or.inl ⟨by kernel_rfl, ?_⟩, fun _ => by kernel_rfl⟩ ?_
          rotate_left
          · (intro w; go_simp; (try with_reducible rfl))
          refine take_put (i := 36) (v := ?_) hro rfl 47 (by kernel_rfl) (by kernel_rfl) (by kernel_rfl) (by kernel_rfl) (fun _ _ _ h => h) ⟨Or.inl ⟨by kernel_rfl, ?_⟩, fun _ => by kernel_rfl⟩ ?_
          rotate_left
          · (intro w; go_simp; (try with_reducible rfl))
          refine wpAnyIn_done (by kernel_rfl) ?_ _
          simp only [Act.put, List.setIfInBounds_toArray, List.set_cons_succ, List.set_cons_zero]
          gi_wp2
          refine bodyPost_ret (results_none rfl _ _ _) rfl ?_
          exact ⟨⟨_, rfl⟩, .inr ⟨_, ⟨(sidesL p0 p1 p2 p3 q0 q1 q2 q3).drop 3, rfl⟩, hJx⟩⟩
        have r3 : ∀ o, W3.cell? ⟨Bn, o, none⟩ = W.cell? ⟨Bn, o, none⟩ := fun o => (hk3.cell (p := ⟨Bn, o, none⟩) hBn).trans (by simpa using r2 o)
        refine hK _ _ ?_
        clear hK K
        refine take_put (i := 35) (v := ?_) hro rfl 46 (by kernel_rfl) (by kernel_rfl) (by kernel_rfl) (by kernel_rfl) (fun _ _ _ h => h) ⟨Or.inl ⟨by kernel_rfl, ?_⟩, fun _ => by kernel_rfl⟩ ?_
        rotate_left
        · (intro w; go_simp; (try with_reducible rfl))
        refine take_put (i := 36) (v := ?_) hro rfl 47 (by kernel_rfl) (by kernel_rfl) (by kernel_rfl) (by kernel_rfl) (fun _ _ _ h => h) ⟨Or.inl ⟨by kernel_rfl, ?_⟩, fun _ => by kernel_rfl⟩ ?_
        rotate_left
        · (intro w; go_simp; (try with_reducible rfl))
        refine wpAnyIn_done (by kernel_rfl) ?_ _
        simp only [Act.put, List.setIfInBounds_toArray, List.set_cons_succ, List.set_cons_zero]
        gi_wp2
        go_roundw
        case rel => exact ⟨1, by omega, rfl, hJc, hnx.trans ((Below.drew (Below.refl _ _)).trans (hk1.trans (hk2.trans hk3)))⟩
        case measure => simp [intOf]
      · gi_wp2
        refine wpIn_region_any (by kernel_rfl) ?_
        change wpAnyIn _ _ _ _ _ _ _ _ _ (World.drew _)
        refine take_put (i := 0) (v := ?_) hro rfl 11 (by kernel_rfl) (by kernel_rfl) (by kernel_rfl) (by kernel_rfl) (fun _ _ _ h => h) ⟨Or.inl ⟨by kernel_rfl, ?_⟩, fun _ => by kernel_rfl⟩ ?_
        rotate_left
        · (intro w; go_simp; (try with_reducible rfl))
        refine take_put (i := 1) (v := ?_) hro rfl 12 (by kernel_rfl) (by kernel_rfl) (by kernel_rfl) (by kernel_rfl) (fun _ _ _ h => h) ⟨Or.inl ⟨by kernel_rfl, ?_⟩, fun _ => by kernel_rfl⟩ ?_
        rotate_left
        · (intro w; go_simp; (try with_reducible rfl))
        refine take_put (i := 2) (v := ?_) hro rfl 13 (by kernel_rfl) (by kernel_rfl) (by kernel_rfl) (by kernel_rfl) (fun _ _ _ h => h) ⟨Or.inl ⟨by kernel_rfl, ?_⟩, fun _ => by kernel_rfl⟩ ?_
        rotate_left
        · (intro w; go_simp; (try with_reducible rfl))
        refine take_put (i := 3) (v := ?_) hro rfl 14 (by kernel_rfl) (by kernel_rfl) (by kernel_rfl) (by kernel_rfl) (fun _ _ _ h => h) ⟨Or.inl ⟨by kernel_rfl, ?_⟩, fun _ => by kernel_rfl⟩ ?_
        rotate_left
        · (intro w; go_simp; (try with_reducible rfl))
        refine take_put (i := 5) (v := ?_) hro rfl 16 (by kernel_rfl) (by kernel_rfl) (by kernel_rfl) (by kernel_rfl) (fun _ _ _ h => h) ⟨Or.inl ⟨by kernel_rfl, ?_⟩, fun _ => by kernel_rfl⟩ ?_
        rotate_left
        · (intro w; go_simp; (try with_reducible rfl))
        refine take_put (i := 6) (v := ?_) hro rfl 17 (by kernel_rfl) (by kernel_rfl) (by kernel_rfl) (by kernel_rfl) (fun _ _ _ h => h) ⟨Or.inl ⟨by kernel_rfl, ?_⟩, fun _ => by kernel_rfl⟩ ?_
        rotate_left
        · (intro w; go_simp; (try with_reducible rfl))
        refine take_put (i := 7) (v := ?_) hro rfl 18 (by kernel_rfl) (by kernel_rfl) (by kernel_rfl) (by kernel_rfl) (fun _ _ _ h => h) ⟨Or.inl ⟨by kernel_rfl, ?_⟩, fun _ => by kernel_rfl⟩ ?_
        rotate_left
        · (intro w; go_simp; (try with_reducible rfl))
        refine wpAnyIn_two (i := 4) (j := 8) (vi := .agg #[.int .i64 p1.x, .int .i64 p1.y]) (vj := .agg #[.int .i64 p2.x, .int .i64 p2.y]) hro (by kernel_rfl) rfl rfl (by kernel_rfl) (by kernel_rfl) (by decide) 15 19 (by kernel_rfl) (by kernel_rfl) (by decide) ⟨by kernel_rfl, by go_simp, by kernel_rfl⟩ ⟨by kernel_rfl, by go_simp, by kernel_rfl⟩ ⟨by kernel_rfl, by go_simp, by kernel_rfl⟩ ⟨by kernel_rfl, by go_simp, by kernel_rfl⟩ ?_
        obtain ⟨fn, tmps, assign, body, hy, hR⟩ := hY _ (p1, p2) _ hJc (by simp [sidesL])
        dsimp only at hy
        clear hJc
        refine wpAnyIn_ready (rs := [9]) (by kernel_rfl) (by simp) ?_
        refine AllReadyIn.cons rfl (fun K hK => ?_) AllReadyIn.nil
        go_simp
        refine hR.mono ?_
        clear hR hy
        rintro e W1 (⟨rfl, hJc, hk1⟩ | ⟨rfl, hJx⟩)
        rotate_left
        · refine hK _ _ ?_
          clear hK K
          refine take_put (i := 10) (v := ?_) hro rfl 21 (by kernel_rfl) (by kernel_rfl) (by kernel_rfl) (by kernel_rfl) (fun _ _ _ h => h) ⟨Or.inl ⟨by kernel_rfl, ?_⟩, fun _ => by kernel_rfl⟩ ?_
          rotate_left
          · (intro w; go_simp; (try with_reducible rfl))
          refine take_put (i := 11) (v := ?_) hro rfl 22 (by kernel_rfl) (by kernel_rfl) (by kernel_rfl) (by kernel_rfl) (fun _ _ _ h => h) ⟨Or.inl ⟨by kernel_rfl, ?_⟩, fun _ => by kernel_rfl⟩ ?_
          rotate_left
          · (intro w; go_simp; (try with_reducible rfl))
          refine take_put (i := 12) (v := undef) hro rfl 23 (by kernel_rfl) (by kernel_rfl) (by kernel_rfl) (by kernel_rfl) (fun _ _ _ h => h) ⟨Or.inr ⟨by kernel_rfl, rfl⟩, fun _ => by kernel_rfl⟩ ?_
          refine take_put (i := 13) (v := undef) hro rfl 24 (by kernel_rfl) (by kernel_rfl) (by kernel_rfl) (by kernel_rfl) (fun _ _ _ h => h) ⟨Or.inr ⟨by kernel_rfl, rfl⟩, fun _ => by kernel_rfl⟩ ?_
          refine take_put (i := 14) (v := undef) hro rfl 25 (by kernel_rfl) (by kernel_rfl) (by kernel_rfl) (by kernel_rfl) (fun _ _ _ h => h) ⟨Or.inr ⟨by kernel_rfl, rfl⟩, fun _ => by kernel_rfl⟩ ?_
          refine take_put (i := 15) (v := undef) hro rfl 26 (by kernel_rfl) (by kernel_rfl) (by kernel_rfl) (by kernel_rfl) (fun _ _ _ h => h) ⟨Or.inr ⟨by kernel_rfl, rfl⟩, fun _ => by kernel_rfl⟩ ?_
          refine take_put (i := 16) (v := undef) hro rfl 27 (by kernel_rfl) (by kernel_rfl) (by kernel_rfl) (by kernel_rfl) (fun _ _ _ h => h) ⟨Or.inr ⟨by kernel_rfl, rfl⟩, fun _ => by kernel_rfl⟩ ?_
          refine take_put (i := 17) (v := undef) hro rfl 28 (by kernel_rfl) (by kernel_rfl) (by kernel_rfl) (by kernel_rfl) (fun _ _ _ h => h) ⟨Or.inr ⟨by kernel_rfl, rfl⟩, fun _ => by kernel_rfl⟩ ?_
          refine take_put (i := 18) (v := undef) hro rfl 29 (by kernel_rfl) (by kernel_rfl) (by kernel_rfl) (by kernel_rfl) (fun _ _ _ h => h) ⟨Or.inr ⟨by kernel_rfl, rfl⟩, fun _ => by kernel_rfl⟩ ?_
          refine take_put (i := 19) (v := undef) hro rfl 30 (by kernel_rfl) (by kernel_rfl) (by kernel_rfl) (by kernel_rfl) (fun _ _ _ h => h) ⟨Or.inr ⟨by kernel_rfl, rfl⟩, fun _ => by kernel_rfl⟩ ?_
          refine take_put (i := 20) (v := undef) hro rfl 31 (by kernel_rfl) (by kernel_rfl) (by kernel_rfl) (by kernel_rfl) (fun _ _ _ h => h) ⟨Or.inr ⟨by kernel_rfl, rfl⟩, fun _ => by kernel_rfl⟩ ?_
          refine take_put (i := 21) (v := undef) hro rfl 32 (by kernel_rfl) (by kernel_rfl) (by kernel_rfl) (by kernel_rfl) (fun _ _ _ h => h) ⟨Or.inr ⟨by kernel_rfl, rfl⟩, fun _ => by kernel_rfl⟩ ?_
          refine take_put (i := 22) (v := undef) hro rfl 33 (by kernel_rfl) (by kernel_rfl) (by kernel_rfl) (by kernel_rfl) (fun _ _ _ h => h) ⟨Or.inr ⟨by kernel_rfl, rfl⟩, fun _ => by kernel_rfl⟩ ?_
          refine take_put (i := 23) (v := ?_) hro rfl 34 (by kernel_rfl) (by kernel_rfl) (by kernel_rfl) (by kernel_rfl) (fun _ _ _ h => h) ⟨Or.inl ⟨by kernel_rfl, ?_⟩, fun _ => by kernel_rfl⟩ ?_
          rotate_left
          · (intro w; go_simp; (try with_reducible rfl))
          refine take_put (i := 24) (v := ?_) hro rfl 35 (by kernel_rfl) (by kernel_rfl) (by kernel_rfl) (by kernel_rfl) (fun _ _ _ h => h) ⟨Or.inl ⟨by kernel_rfl, ?_⟩, fun _ => by kernel_rfl⟩ ?_
          rotate_left
          · (intro w; go_simp; (try with_reducible rfl))
          refine take_put (i := 25) (v := undef) hro rfl 36 (by kernel_rfl) (by kernel_rfl) (by kernel_rfl) (by kernel_rfl) (fun _ _ _ h => h) ⟨Or.inr ⟨by kernel_rfl, rfl⟩, fun _ => by kernel_rfl⟩ ?_
          refine take_put (i := 26) (v := undef) hro rfl 37 (by kernel_rfl) (by kernel_rfl) (by kernel_rfl) (by kernel_rfl) (fun _ _ _ h => h) ⟨Or.inr ⟨by kernel_rfl, rfl⟩, fun _ => by kernel_rfl⟩ ?_
          refine take_put (i := 27) (v := undef) hro rfl 38 (by kernel_rfl) (by kernel_rfl) (by kernel_rfl) (by kernel_rfl) (fun _ _ _ h => h) ⟨Or.inr ⟨by kernel_rfl, rfl⟩, fun _ => by kernel_rfl⟩ ?_
          refine take_put (i := 28) (v := undef) hro rfl 39 (by kernel_rfl) (by kernel_rfl) (by kernel_rfl) (by kernel_rfl) (fun _ _ _ h => h) ⟨Or.inr ⟨by kernel_rfl, rfl⟩, fun _ => by kernel_rfl⟩ ?_
          refine take_put (i := 29) (v := undef) hro rfl 40 (by kernel_rfl) (by kernel_rfl) (by kernel_rfl) (by kernel_rfl) (fun _ _ _ h => h) ⟨Or.inr ⟨by kernel_rfl, rfl⟩, fun _ => by kernel_rfl⟩ ?_
          refine take_put (i := 30) (v := undef) hro rfl 41 (by kernel_rfl) (by kernel_rfl) (by kernel_rfl) (by kernel_rfl) (fun _ _ _ h => h) ⟨Or.inr ⟨by kernel_rfl, rfl⟩, fun _ => by kernel_rfl⟩ ?_
          refine take_put (i := 31) (v := undef) hro rfl 42 (by kernel_rfl) (by kernel_rfl) (by kernel_rfl) (by kernel_rfl) (fun _ _ _ h => h) ⟨Or.inr ⟨by kernel_rfl, rfl⟩, fun _ => by kernel_rfl⟩ ?_
          refine take_put (i := 32) (v := undef) hro rfl 43 (by kernel_rfl) (by kernel_rfl) (by kernel_rfl) (by kernel_rfl) (fun _ _ _ h => h) ⟨Or.inr ⟨by kernel_rfl, rfl⟩, fun _ => by kernel_rfl⟩ ?_
          refine take_put (i := 33) (v := undef) hro rfl 44 (by kernel_rfl) (by kernel_rfl) (by kernel_rfl) (by kernel_rfl) (fun _ _ _ h => h) ⟨Or.inr ⟨by kernel_rfl, rfl⟩, fun _ => by kernel_rfl⟩ ?_
          refine take_put (i := 34) (v := undef) hro rfl 45 (by kernel_rfl) (by kernel_rfl) (by kernel_rfl) (by kernel_rfl) (fun _ _ _ h => h) ⟨Or.inr ⟨by kernel_rfl, rfl⟩, fun _ => by kernel_rfl⟩ ?_
          refine take_put (i := 35) (v := undef) hro rfl 46 (by kernel_rfl) (by kernel_rfl) (by kernel_rfl) (by kernel_rfl) (fun _ _ _ h => h) ⟨Or.inr ⟨by kernel_rfl, rfl⟩, fun _ => by kernel_rfl⟩ ?_
          refine take_put (i := 36) (v := ?_) hro rfl 47 (by kernel_rfl) (by kernel_rfl) (by kernel_rfl) (by kernel_rfl) (fun _ _ _ h => h) ⟨Or.inl ⟨by kernel_rfl, ?_⟩, fun _ => by kernel_rfl⟩ ?_
          rotate_left
          · (intro w; go_simp; (try with_reducible rfl))
          refine wpAnyIn_done (by kernel_rfl) ?_ _
          simp only [Act.put, List.setIfInBounds_toArray, List.set_cons_succ, List.set_cons_zero]
          gi_wp2
          refine bodyPost_ret (results_none rfl _ _ _) rfl ?_
          exact ⟨⟨_, rfl⟩, .inr ⟨_, ⟨(sidesL p0 p1 p2 p3 q0 q1 q2 q3).drop 4, rfl⟩, hJx⟩⟩
        have r1 : ∀ o, W1.cell? ⟨Bn, o, none⟩ = W.cell? ⟨Bn, o, none⟩ := fun o => (hk1.cell (p := ⟨Bn, o, none⟩) hBn).trans (by simpa using r0 o)
        refine hK _ _ ?_
        clear hK K
        refine take_put (i := 10) (v := ?_) hro rfl 21 (by kernel_rfl) (by kernel_rfl) (by kernel_rfl) (by kernel_rfl) (fun _ _ _ h => h) ⟨Or.inl ⟨by kernel_rfl, ?_⟩, fun _ => by kernel_rfl⟩ ?_
        rotate_left
        · (intro w; go_simp; (try with_reducible rfl))
        refine take_put (i := 11) (v := ?_) hro rfl 22 (by kernel_rfl) (by kernel_rfl) (by kernel_rfl) (by kernel_rfl) (fun _ _ _ h => h) ⟨Or.inl ⟨by kernel_rfl, ?_⟩, fun _ => by kernel_rfl⟩ ?_
        rotate_left
        · (intro w; go_simp; (try with_reducible rfl))
        refine take_put (i := 12) (v := ?_) hro rfl 23 (by kernel_rfl) (by kernel_rfl) (by kernel_rfl) (by kernel_rfl) (fun _ _ _ h => h) ⟨Or.inl ⟨by kernel_rfl, ?_⟩, fun _ => by kernel_rfl⟩ ?_
        rotate_left
        · (intro w; go_simp; (try with_reducible rfl))
        refine take_put (i := 13) (v := ?_) hro rfl 24 (by kernel_rfl) (by kernel_rfl) (by kernel_rfl) (by kernel_rfl) (fun _ _ _ h => h) ⟨Or.inl ⟨by kernel_rfl, ?_⟩, fun _ => by kernel_rfl⟩ ?_
        rotate_left
        · (intro w; go_simp; (try with_reducible rfl))
        refine take_put (i := 14) (v := ?_) hro rfl 25 (by kernel_rfl) (by kernel_rfl) (by kernel_rfl) (by kernel_rfl) (fun _ _ _ h => h) ⟨Or.inl ⟨by kernel_rfl, ?_⟩, fun _ => by kernel_rfl⟩ ?_
        rotate_left
        · (intro w; go_simp; (try with_reducible rfl))
        refine take_put (i := 15) (v := ?_) hro rfl 26 (by kernel_rfl) (by kernel_rfl) (by kernel_rfl) (by kernel_rfl) (fun _ _ _ h => h) ⟨Or.inl ⟨by kernel_rfl, ?_⟩, fun _ => by kernel_rfl⟩ ?_
        rotate_left
        · (intro w; go_simp; (try with_reducible rfl))
        refine take_put (i := 17) (v := ?_) hro rfl 28 (by kernel_rfl) (by kernel_rfl) (by kernel_rfl) (by kernel_rfl) (fun _ _ _ h => h) ⟨Or.inl ⟨by kernel_rfl, ?_⟩, fun _ => by kernel_rfl⟩ ?_
        rotate_left
        · (intro w; go_simp; (try with_reducible rfl))
        refine take_put (i := 18) (v := ?_) hro rfl 29 (by kernel_rfl) (by kernel_rfl) (by kernel_rfl) (by kernel_rfl) (fun _ _ _ h => h) ⟨Or.inl ⟨by kernel_rfl, ?_⟩, fun _ => by kernel_rfl⟩ ?_
        rotate_left
        · (intro w; go_simp; (try with_reducible rfl))
        refine take_put (i := 19) (v := ?_) hro rfl 30 (by kernel_rfl) (by kernel_rfl) (by kernel_rfl) (by kernel_rfl) (fun _ _ _ h => h) ⟨Or.inl ⟨by kernel_rfl, ?_⟩, fun _ => by kernel_rfl⟩ ?_
        rotate_left
        · (intro w; go_simp; (try with_reducible rfl))
        refine wpAnyIn_two (i := 16) (j := 20) (vi := .agg #[.int .i64 q1.x, .int .i64 q1.y]) (vj := .agg #[.int .i64 q2.x, .int .i64 q2.y]) hro (by kernel_rfl) rfl rfl (by kernel_rfl) (by kernel_rfl) (by decide) 27 31 (by kernel_rfl) (by kernel_rfl) (by decide) ⟨by kernel_rfl, by go_simp, by kernel_rfl⟩ ⟨by kernel_rfl, by go_simp, by kernel_rfl⟩ ⟨by kernel_rfl, by go_simp, by kernel_rfl⟩ ⟨by kernel_rfl, by go_simp, by kernel_rfl⟩ ?_
        obtain ⟨fn, tmps, assign, body, hy, hR⟩ := hY _ (q1, q2) _ hJc (by simp [sidesL])
        dsimp only at hy
        clear hJc
        refine wpAnyIn_ready (rs := [21]) (by kernel_rfl) (by simp) ?_
        refine AllReadyIn.cons rfl (fun K hK => ?_) AllReadyIn.nil
        go_simp
        refine hR.mono ?_
        clear hR hy
        rintro e W2 (⟨rfl, hJc, hk2⟩ | ⟨rfl, hJx⟩)
        rotate_left
        · refine hK _ _ ?_
          clear hK K
          refine take_put (i := 22) (v := ?_) hro rfl 33 (by kernel_rfl) (by kernel_rfl) (by kernel_rfl) (by kernel_rfl) (fun _ _ _ h => h) ⟨Or.inl ⟨by kernel_rfl, ?_⟩, fun _ => by kernel_rfl⟩ ?_
          rotate_left
          · (intro w; go_simp; (try with_reducible rfl))
          refine take_put (i := 23) (v := ?_) hro rfl 34 (by kernel_rfl) (by kernel_rfl) (by kernel_rfl) (by kernel_rfl) (fun _ _ _ h => h) ⟨Or.inl ⟨by kernel_rfl, ?_⟩, fun _ => by kernel_rfl⟩ ?_
          rotate_left
          · (intro w; go_simp; (try with_reducible rfl))
          refine take_put (i := 24) (v := ?_) hro rfl 35 (by kernel_rfl) (by kernel_rfl) (by kernel_rfl) (by kernel_rfl) (fun _ _ _ h => h) ⟨Or.inl ⟨by kernel_rfl, ?_⟩, fun _ => by kernel_rfl⟩ ?_
          rotate_left
          · (intro w; go_simp; (try with_reducible rfl))
          refine take_put (i := 25) (v := undef) hro rfl 36 (by kernel_rfl) (by kernel_rfl) (by kernel_rfl) (by kernel_rfl) (fun _ _ _ h => h) ⟨Or.inr ⟨by kernel_rfl, rfl⟩, fun _ => by kernel_rfl⟩ ?_
          refine take_put (i := 26) (v := undef) hro rfl 37 (by kernel_rfl) (by kernel_rfl) (by kernel_rfl) (by kernel_rfl) (fun _ _ _ h => h) ⟨Or.inr ⟨by kernel_rfl, rfl⟩, fun _ => by kernel_rfl⟩ ?_
          refine take_put (i := 27) (v := undef) hro rfl 38 (by kernel_rfl) (by kernel_rfl) (by kernel_rfl) (by kernel_rfl) (fun _ _ _ h => h) ⟨Or.inr ⟨by kernel_rfl, rfl⟩, fun _ => by kernel_rfl⟩ ?_
          refine take_put (i := 28) (v := undef) hro rfl 39 (by kernel_rfl) (by kernel_rfl) (by kernel_rfl) (by kernel_rfl) (fun _ _ _ h => h) ⟨Or.inr ⟨by kernel_rfl, rfl⟩, fun _ => by kernel_rfl⟩ ?_
          refine take_put (i := 29) (v := undef) hro rfl 40 (by kernel_rfl) (by kernel_rfl) (by kernel_rfl) (by kernel_rfl) (fun _ _ _ h => h) ⟨Or.inr ⟨by kernel_rfl, rfl⟩, fun _ => by kernel_rfl⟩ ?_
          refine take_put (i := 30) (v := undef) hro rfl 41 (by kernel_rfl) (by kernel_rfl) (by kernel_rfl) (by kernel_rfl) (fun _ _ _ h => h) ⟨Or.inr ⟨by kernel_rfl, rfl⟩, fun _ => by kernel_rfl⟩ ?_
          refine take_put (i := 31) (v := undef) hro rfl 42 (by kernel_rfl) (by kernel_rfl) (by kernel_rfl) (by kernel_rfl) (fun _ _ _ h => h) ⟨Or.inr ⟨by kernel_rfl, rfl⟩, fun _ => by kernel_rfl⟩ ?_
          refine take_put (i := 32) (v := undef) hro rfl 43 (by kernel_rfl) (by kernel_rfl) (by kernel_rfl) (by kernel_rfl) (fun _ _ _ h => h) ⟨Or.inr ⟨by kernel_rfl, rfl⟩, fun _ => by kernel_rfl⟩ ?_
          refine take_put (i := 33) (v := undef) hro rfl 44 (by kernel_rfl) (by kernel_rfl) (by kernel_rfl) (by kernel_rfl) (fun _ _ _ h => h) ⟨Or.inr ⟨by kernel_rfl, rfl⟩, fun _ => by kernel_rfl⟩ ?_
          refine take_put (i := 34) (v := undef) hro rfl 45 (by kernel_rfl) (by kernel_rfl) (by kernel_rfl) (by kernel_rfl) (fun _ _ _ h => h) ⟨Or.inr ⟨by kernel_rfl, rfl⟩, fun _ => by kernel_rfl⟩ ?_
          refine take_put (i := 35) (v := undef) hro rfl 46 (by kernel_rfl) (by kernel_rfl) (by kernel_rfl) (by kernel_rfl) (fun _ _ _ h => h) ⟨Or.inr ⟨by kernel_rfl, rfl⟩, fun _ => by kernel_rfl⟩ ?_
          refine take_put (i := 36) (v := ?_) hro rfl 47 (by kernel_rfl) (by kernel_rfl) (by kernel_rfl) (by kernel_rfl) (fun _ _ _ h => h) ⟨Or.inl ⟨by kernel_rfl, ?_⟩, fun _ => by kernel_rfl⟩ ?_
          rotate_left
          · (intro w; go_simp; (try with_reducible rfl))
          refine wpAnyIn_done (by kernel_rfl) ?_ _
          simp only [Act.put, List.setIfInBounds_toArray, List.set_cons_succ, List.set_cons_zero]
          gi_wp2
          refine bodyPost_ret (results_none rfl _ _ _) rfl ?_
          exact ⟨⟨_, rfl⟩, .inr ⟨_, ⟨(sidesL p0 p1 p2 p3 q0 q1 q2 q3).drop 5, rfl⟩, hJx⟩⟩
        have r2 : ∀ o, W2.cell? ⟨Bn, o, none⟩ = W.cell? ⟨Bn, o, none⟩ := fun o => (hk2.cell (p := ⟨Bn, o, none⟩) hBn).trans (by simpa using r1 o)
        refine hK _ _ ?_
        clear hK K
        refine take_put (i := 22) (v := ?_) hro rfl 33 (by kernel_rfl) (by kernel_rfl) (by kernel_rfl) (by kernel_rfl) (fun _ _ _ h => h) ⟨Or.inl ⟨by kernel_rfl, ?_⟩, fun _ => by kernel_rfl⟩ ?_
        rotate_left
        · (intro w; go_simp; (try with_reducible rfl))
        refine take_put (i := 23) (v := ?_) hro rfl 34 (by kernel_rfl) (by kernel_rfl) (by kernel_rfl) (by kernel_rfl) (fun _ _ _ h => h) ⟨Or.inl ⟨by kernel_rfl, ?_⟩, fun _ => by kernel_rfl⟩ ?_
        rotate_left
        · (intro w; go_simp; (try with_reducible rfl))
        refine take_put (i := 24) (v := ?_) hro rfl 35 (by kernel_rfl) (by kernel_rfl) (by kernel_rfl) (by kernel_rfl) (fun _ _ _ h => h) ⟨Or.inl ⟨by kernel_rfl, ?_⟩, fun _ => by kernel_rfl⟩ ?_
        rotate_left
        · (intro w; go_simp; (try with_reducible rfl))
        refine take_put (i := 25) (v := ?_) hro rfl 36 (by kernel_rfl) (by kernel_rfl) (by kernel_rfl) (by kernel_rfl) (fun _ _ _ h => h) ⟨Or.inl ⟨by kernel_rfl, ?_⟩, fun _ => by kernel_rfl⟩ ?_
        rotate_left
        · (intro w; go_simp; (try with_reducible rfl))
        refine take_put (i := 26) (v := ?_) hro rfl 37 (by kernel_rfl) (by kernel_rfl) (by kernel_rfl) (by kernel_rfl) (fun _ _ _ h => h) ⟨Or.inl ⟨by kernel_rfl, ?_⟩, fun _ => by kernel_rfl⟩ ?_
        rotate_left
        · (intro w; go_simp; (try with_reducible rfl))
        refine take_put (i := 27) (v := ?_) hro rfl 38 (by kernel_rfl) (by kernel_rfl) (by kernel_rfl) (by kernel_rfl) (fun _ _ _ h => h) ⟨Or.inl ⟨by kernel_rfl, ?_⟩, fun _ => by kernel_rfl⟩ ?_
        rotate_left
        · (intro w; go_simp; (try with_reducible rfl))
        refine take_put (i := 28) (v := ?_) hro rfl 39 (by kernel_rfl) (by kernel_rfl) (by kernel_rfl) (by kernel_rfl) (fun _ _ _ h => h) ⟨Or.inl ⟨by kernel_rfl, ?_⟩, fun _ => by kernel_rfl⟩ ?_
        rotate_left
        · (intro w; go_simp; (try with_reducible rfl))
        refine take_put (i := 30) (v := ?_) hro rfl 41 (by kernel_rfl) (by kernel_rfl) (by kernel_rfl) (by kernel_rfl) (fun _ _ _ h => h) ⟨Or.inl ⟨by kernel_rfl, ?_⟩, fun _ => by kernel_rfl⟩ ?_
        rotate_left
        · (intro w; go_simp; (try with_reducible rfl))
        refine take_put (i := 31) (v := ?_) hro rfl 42 (by kernel_rfl) (by kernel_rfl) (by kernel_rfl) (by kernel_rfl) (fun _ _ _ h => h) ⟨Or.inl ⟨by kernel_rfl, ?_⟩, fun _ => by kernel_rfl⟩ ?_
        rotate_left
        · (intro w; go_simp; (try with_reducible rfl))
        refine take_put (i := 32) (v := ?_) hro rfl 43 (by kernel_rfl) (by kernel_rfl) (by kernel_rfl) (by kernel_rfl) (fun _ _ _ h => h) ⟨Or.inl ⟨by kernel_rfl, ?_⟩, fun _ => by kernel_rfl⟩ ?_
        rotate_left
        · (intro w; go_simp; (try with_reducible rfl))
        refine wpAnyIn_two (i := 29) (j := 33) (vi := .agg #[.int .i64 p1.x, .int .i64 p1.y]) (vj := .agg #[.int .i64 q1.x, .int .i64 q1.y]) hro (by kernel_rfl) rfl rfl (by kernel_rfl) (by kernel_rfl) (by decide) 40 44 (by kernel_rfl) (by kernel_rfl) (by decide) ⟨by kernel_rfl, by go_simp, by kernel_rfl⟩ ⟨by kernel_rfl, by go_simp, by kernel_rfl⟩ ⟨by kernel_rfl, by go_simp, by kernel_rfl⟩ ⟨by kernel_rfl, by go_simp, by kernel_rfl⟩ ?_
        obtain ⟨fn, tmps, assign, body, hy, hR⟩ := hY _ (p1, q1) _ hJc (by simp [sidesL])
        dsimp only at hy
        clear hJc
        refine wpAnyIn_ready (rs := [34]) (by kernel_rfl) (by simp) ?_
        refine AllReadyIn.cons rfl (fun K hK => ?_) AllReadyIn.nil
        go_simp
        refine hR.mono ?_
        clear hR hy
        rintro e W3 (⟨rfl, hJc, hk3⟩ | ⟨rfl, hJx⟩)
        rotate_left
        · refine hK _ _ ?_
          clear hK K
          refine take_put (i := 35) (v := ?_) hro rfl 46 (by kernel_rfl) (by kernel_rfl) (by kernel_rfl) (by kernel_rfl) (fun _ _ _ h => h) ⟨Or.inl ⟨by kernel_rfl, ?_⟩, fun _ => by kernel_rfl⟩ ?_
          rotate_left
          · (intro w; go_simp; (try with_reducible rfl))
          refine take_put (i := 36) (v := ?_) hro rfl 47 (by kernel_rfl) (by kernel_rfl) (by kernel_rfl) (by kernel_rfl) (fun _ _ _ h => h) ⟨Or.inl ⟨by kernel_rfl, ?_⟩, fun _ => by kernel_rfl⟩ ?_
          rotate_left
          · (intro w; go_simp; (try with_reducible rfl))
          refine wpAnyIn_done (by kernel_rfl) ?_ _
          simp only [Act.put, List.setIfInBounds_toArray, List.set_cons_succ, List.set_cons_zero]
          gi_wp2
          refine bodyPost_ret (results_none rfl _ _ _) rfl ?_
          exact ⟨⟨_, rfl⟩, .inr ⟨_, ⟨(sidesL p0 p1 p2 p3 q0 q1 q2 q3).drop 6, rfl⟩, hJx⟩⟩
        have r3 : ∀ o, W3.cell? ⟨Bn, o, none⟩ = W.cell? ⟨Bn, o, none⟩ := fun o => (hk3.cell (p := ⟨Bn, o, none⟩) hBn).trans (by simpa using r2 o)
        refine hK _ _ ?_
        clear hK K
        refine take_put (i := 35) (v := ?_) hro rfl 46 (by kernel_rfl) (by kernel_rfl) (by kernel_rfl) (by kernel_rfl) (fun _ _ _ h => h) ⟨Or.inl ⟨by kernel_rfl, ?_⟩, fun _ => by kernel_rfl⟩ ?_
        rotate_left
        · (intro w; go_simp; (try with_reducible rfl))
        refine take_put (i := 36) (v := ?_) hro rfl 47 (by kernel_rfl) (by kernel_rfl) (by kernel_rfl) (by kernel_rfl) (fun _ _ _ h => h) ⟨Or.inl ⟨by kernel_rfl, ?_⟩, fun _ => by kernel_rfl⟩ ?_
        rotate_left
        · (intro w; go_simp; (try with_reducible rfl))
        refine wpAnyIn_done (by kernel_rfl) ?_ _
        simp only [Act.put, List.setIfInBounds_toArray, List.set_cons_succ, List.set_cons_zero]
        gi_wp2
        go_roundw
        case rel => exact ⟨2, by omega, rfl, hJc, hnx.trans ((Below.drew (Below.refl _ _)).trans (hk1.trans (hk2.trans hk3)))⟩
        case measure => simp [intOf]
      · gi_wp2
        refine wpIn_region_any (by kernel_rfl) ?_
        change wpAnyIn _ _ _ _ _ _ _ _ _ (World.drew _)
        refine take_put (i := 0) (v := ?_) hro rfl 11 (by kernel_rfl) (by kernel_rfl) (by kernel_rfl) (by kernel_rfl) (fun _ _ _ h => h) ⟨Or.inl ⟨by kernel_rfl, ?_⟩, fun _ => by kernel_rfl⟩ ?_
        rotate_left
        · (intro w; go_simp; (try with_reducible rfl))
        refine take_put (i := 1) (v := ?_) hro rfl 12 (by kernel_rfl) (by kernel_rfl) (by kernel_rfl) (by kernel_rfl) (fun _ _ _ h => h) ⟨Or.inl ⟨by kernel_rfl, ?_⟩, fun _ => by kernel_rfl⟩ ?_
        rotate_left
        · (intro w; go_simp; (try with_reducible rfl))
        refine take_put (i := 2) (v := ?_) hro rfl 13 (by kernel_rfl) (by kernel_rfl) (by kernel_rfl) (by kernel_rfl) (fun _ _ _ h => h) ⟨Or.inl ⟨by kernel_rfl, ?_⟩, fun _ => by kernel_rfl⟩ ?_
        rotate_left
        · (intro w; go_simp; (try with_reducible rfl))
        refine take_put (i := 3) (v := ?_) hro rfl 14 (by kernel_rfl) (by kernel_rfl) (by kernel_rfl) (by kernel_rfl) (fun _ _ _ h => h) ⟨Or.inl ⟨by kernel_rfl, ?_⟩, fun _ => by kernel_rfl⟩ ?_
        rotate_left
        · (intro w; go_simp; (try with_reducible rfl))
        refine take_put (i := 5) (v := ?_) hro rfl 16 (by kernel_rfl) (by kernel_rfl) (by kernel_rfl) (by kernel_rfl) (fun _ _ _ h => h) ⟨Or.inl ⟨by kernel_rfl, ?_⟩, fun _ => by kernel_rfl⟩ ?_
        rotate_left
        · (intro w; go_simp; (try with_reducible rfl))
        refine take_put (i := 6) (v := ?_) hro rfl 17 (by kernel_rfl) (by kernel_rfl) (by kernel_rfl) (by kernel_rfl) (fun _ _ _ h => h) ⟨Or.inl ⟨by kernel_rfl, ?_⟩, fun _ => by kernel_rfl⟩ ?_
        rotate_left
        · (intro w; go_simp; (try with_reducible rfl))
        refine take_put (i := 7) (v := ?_) hro rfl 18 (by kernel_rfl) (by kernel_rfl) (by kernel_rfl) (by kernel_rfl) (fun _ _ _ h => h) ⟨Or.inl ⟨by kernel_rfl, ?_⟩, fun _ => by kernel_rfl⟩ ?_
        rotate_left
        · (intro w; go_simp; (try with_reducible rfl))
        refine wpAnyIn_two (i := 4) (j := 8) (vi := .agg #[.int .i64 p2.x, .int .i64 p2.y]) (vj := .agg #[.int .i64 p3.x, .int .i64 p3.y]) hro (by kernel_rfl) rfl rfl (by kernel_rfl) (by kernel_rfl) (by decide) 15 19 (by kernel_rfl) (by kernel_rfl) (by decide) ⟨by kernel_rfl, by go_simp, by kernel_rfl⟩ ⟨by kernel_rfl, by go_simp, by kernel_rfl⟩ ⟨by kernel_rfl, by go_simp, by kernel_rfl⟩ ⟨by kernel_rfl, by go_simp, by kernel_rfl⟩ ?_
        obtain ⟨fn, tmps, assign, body, hy, hR⟩ := hY _ (p2, p3) _ hJc (by simp [sidesL])
        dsimp only at hy
        clear hJc
        refine wpAnyIn_ready (rs := [9]) (by kernel_rfl) (by simp) ?_
        refine AllReadyIn.cons rfl (fun K hK => ?_) AllReadyIn.nil
        go_simp
        refine hR.mono ?_
        clear hR hy
        rintro e W1 (⟨rfl, hJc, hk1⟩ | ⟨rfl, hJx⟩)
        rotate_left
        · refine hK _ _ ?_
          clear hK K
          refine take_put (i := 10) (v := ?_) hro rfl 21 (by kernel_rfl) (by kernel_rfl) (by kernel_rfl) (by kernel_rfl) (fun _ _ _ h => h) ⟨Or.inl ⟨by kernel_rfl, ?_⟩, fun _ => by kernel_rfl⟩ ?_
          rotate_left
          · (intro w; go_simp; (try with_reducible rfl))
          refine take_put (i := 11) (v := ?_) hro rfl 22 (by kernel_rfl) (by kernel_rfl) (by kernel_rfl) (by kernel_rfl) (fun _ _ _ h => h) ⟨Or.inl ⟨by kernel_rfl, ?_⟩, fun _ => by kernel_rfl⟩ ?_
          rotate_left
          · (intro w; go_simp; (try with_reducible rfl))
          refine take_put (i := 12) (v := undef) hro rfl 23 (by kernel_rfl) (by kernel_rfl) (by kernel_rfl) (by kernel_rfl) (fun _ _ _ h => h) ⟨Or.inr ⟨by kernel_rfl, rfl⟩, fun _ => by kernel_rfl⟩ ?_
          refine take_put (i := 13) (v := undef) hro rfl 24 (by kernel_rfl) (by kernel_rfl) (by kernel_rfl) (by kernel_rfl) (fun _ _ _ h => h) ⟨Or.inr ⟨by kernel_rfl, rfl⟩, fun _ => by kernel_rfl⟩ ?_
          refine take_put (i := 14) (v := undef) hro rfl 25 (by kernel_rfl) (by kernel_rfl) (by kernel_rfl) (by kernel_rfl) (fun _ _ _ h => h) ⟨Or.inr ⟨by kernel_rfl, rfl⟩, fun _ => by kernel_rfl⟩ ?_
          refine take_put (i := 15) (v := undef) hro rfl 26 (by kernel_rfl) (by kernel_rfl) (by kernel_rfl) (by kernel_rfl) (fun _ _ _ h => h) ⟨Or.inr ⟨by kernel_rfl, rfl⟩, fun _ => by kernel_rfl⟩ ?_
          refine take_put (i := 16) (v := undef) hro rfl 27 (by kernel_rfl) (by kernel_rfl) (by kernel_rfl) (by kernel_rfl) (fun _ _ _ h => h) ⟨Or.inr ⟨by kernel_rfl, rfl⟩, fun _ => by kernel_rfl⟩ ?_
          refine take_put (i := 17) (v := undef) hro rfl 28 (by kernel_rfl) (by kernel_rfl) (by kernel_rfl) (by kernel_rfl) (fun _ _ _ h => h) ⟨Or.inr ⟨by kernel_rfl, rfl⟩, fun _ => by kernel_rfl⟩ ?_
          refine take_put (i := 18) (v := undef) hro rfl 29 (by kernel_rfl) (by kernel_rfl) (by kernel_rfl) (by kernel_rfl) (fun _ _ _ h => h) ⟨Or.inr ⟨by kernel_rfl, rfl⟩, fun _ => by kernel_rfl⟩ ?_
          refine take_put (i := 19) (v := undef) hro rfl 30 (by kernel_rfl) (by kernel_rfl) (by kernel_rfl) (by kernel_rfl) (fun _ _ _ h => h) ⟨Or.inr ⟨by kernel_rfl, rfl⟩, fun _ => by kernel_rfl⟩ ?_
          refine take_put (i := 20) (v := undef) hro rfl 31 (by kernel_rfl) (by kernel_rfl) (by kernel_rfl) (by kernel_rfl) (fun _ _ _ h => h) ⟨Or.inr ⟨by kernel_rfl, rfl⟩, fun _ => by kernel_rfl⟩ ?_
          refine take_put (i := 21) (v := undef) hro rfl 32 (by kernel_rfl) (by kernel_rfl) (by kernel_rfl) (by kernel_rfl) (fun _ _ _ h => h) ⟨Or.inr ⟨by kernel_rfl, rfl⟩, fun _ => by kernel_rfl⟩ ?_
          refine take_put (i := 22) (v := undef) hro rfl 33 (by kernel_rfl) (by kernel_rfl) (by kernel_rfl) (by kernel_rfl) (fun _ _ _ h => h) ⟨Or.inr ⟨by kernel_rfl, rfl⟩, fun _ => by kernel_rfl⟩ ?_
          refine take_put (i := 23) (v := ?_) hro rfl 34 (by kernel_rfl) (by kernel_rfl) (by kernel_rfl) (by kernel_rfl) (fun _ _ _ h => h) ⟨Or.inl ⟨by kernel_rfl, ?_⟩, fun _ => by kernel_rfl⟩ ?_
          rotate_left
          · (intro w; go_simp; (try with_reducible rfl))
          refine take_put (i := 24) (v := ?_) hro rfl 35 (by kernel_rfl) (by kernel_rfl) (by kernel_rfl) (by kernel_rfl) (fun _ _ _ h => h) ⟨Or.inl ⟨by kernel_rfl, ?_⟩, fun _ => by kernel_rfl⟩ ?_
          rotate_left
          · (intro w; go_simp; (try with_reducible rfl))
          refine take_put (i := 25) (v := undef) hro rfl 36 (by kernel_rfl) (by kernel_rfl) (by kernel_rfl) (by kernel_rfl) (fun _ _ _ h => h) ⟨Or.inr ⟨by kernel_rfl, rfl⟩, fun _ => by kernel_rfl⟩ ?_
          refine take_put (i := 26) (v := undef) hro rfl 37 (by kernel_rfl) (by kernel_rfl) (by kernel_rfl) (by kernel_rfl) (fun _ _ _ h => h) ⟨Or.inr ⟨by kernel_rfl, rfl⟩, fun _ => by kernel_rfl⟩ ?_
          refine take_put (i := 27) (v := undef) hro rfl 38 (by kernel_rfl) (by kernel_rfl) (by kernel_rfl) (by kernel_rfl) (fun _ _ _ h => h) ⟨Or.inr ⟨by kernel_rfl, rfl⟩, fun _ => by kernel_rfl⟩ ?_
          refine take_put (i := 28) (v := undef) hro rfl 39 (by kernel_rfl) (by kernel_rfl) (by kernel_rfl) (by kernel_rfl) (fun _ _ _ h => h) ⟨Or.inr ⟨by kernel_rfl, rfl⟩, fun _ => by kernel_rfl⟩ ?_
          refine take_put (i := 29) (v := undef) hro rfl 40 (by kernel_rfl) (by kernel_rfl) (by kernel_rfl) (by kernel_rfl) (fun _ _ _ h => h) ⟨Or.inr ⟨by kernel_rfl, rfl⟩, fun _ => by kernel_rfl⟩ ?_
          refine take_put (i := 30) (v := undef) hro rfl 41 (by kernel_rfl) (by kernel_rfl) (by kernel_rfl) (by kernel_rfl) (fun _ _ _ h => h) ⟨Or.inr ⟨by kernel_rfl, rfl⟩, fun _ => by kernel_rfl⟩ ?_
          refine take_put (i := 31) (v := undef) hro rfl 42 (by kernel_rfl) (by kernel_rfl) (by kernel_rfl) (by kernel_rfl) (fun _ _ _ h => h) ⟨Or.inr ⟨by kernel_rfl, rfl⟩, fun _ => by kernel_rfl⟩ ?_
          refine take_put (i := 32) (v := undef) hro rfl 43 (by kernel_rfl) (by kernel_rfl) (by kernel_rfl) (by kernel_rfl) (fun _ _ _ h => h) ⟨Or.inr ⟨by kernel_rfl, rfl⟩, fun _ => by kernel_rfl⟩ ?_
          refine take_put (i := 33) (v := undef) hro rfl 44 (by kernel_rfl) (by kernel_rfl) (by kernel_rfl) (by kernel_rfl) (fun _ _ _ h => h) ⟨Or.inr ⟨by kernel_rfl, rfl⟩, fun _ => by kernel_rfl⟩ ?_
          refine take_put (i := 34) (v := undef) hro rfl 45 (by kernel_rfl) (by kernel_rfl) (by kernel_rfl) (by kernel_rfl) (fun _ _ _ h => h) ⟨Or.inr ⟨by kernel_rfl, rfl⟩, fun _ => by kernel_rfl⟩ ?_
          refine take_put (i := 35) (v := undef) hro rfl 46 (by kernel_rfl) (by kernel_rfl) (by kernel_rfl) (by kernel_rfl) (fun _ _ _ h => h) ⟨Or.inr ⟨by kernel_rfl, rfl⟩, fun _ => by kernel_rfl⟩ ?_
          refine take_put (i := 36) (v := ?_) hro rfl 47 (by kernel_rfl) (by kernel_rfl) (by kernel_rfl) (by kernel_rfl) (fun _ _ _ h => h) ⟨Or.inl ⟨by kernel_rfl, ?_⟩, fun _ => by kernel_rfl⟩ ?_
          rotate_left
          · (intro w; go_simp; (try with_reducible rfl))
          refine wpAnyIn_done (by kernel_rfl) ?_ _
          simp only [Act.put, List.setIfInBounds_toArray, List.set_cons_succ, List.set_cons_zero]
          gi_wp2
          refine bodyPost_ret (results_none rfl _ _ _) rfl ?_
          exact ⟨⟨_, rfl⟩, .inr ⟨_, ⟨(sidesL p0 p1 p2 p3 q0 q1 q2 q3).drop 7, rfl⟩, hJx⟩⟩
        have r1 : ∀ o, W1.cell? ⟨Bn, o, none⟩ = W.cell? ⟨Bn, o, none⟩ := fun o => (hk1.cell (p := ⟨Bn, o, none⟩) hBn).trans (by simpa using r0 o)
        refine hK _ _ ?_
        clear hK K
        refine take_put (i := 10) (v := ?_) hro rfl 21 (by kernel_rfl) (by kernel_rfl) (by kernel_rfl) (by kernel_rfl) (fun _ _ _ h => h) ⟨Or.inl ⟨by kernel_rfl, ?_⟩, fun _ => by kernel_rfl⟩ ?_
        rotate_left
        · (intro w; go_simp; (try with_reducible rfl))
        refine take_put (i := 11) (v := ?_) hro rfl 22 (by kernel_rfl) (by kernel_rfl) (by kernel_rfl) (by kernel_rfl) (fun _ _ _ h => h) ⟨Or.inl ⟨by kernel_rfl, ?_⟩, fun _ => by kernel_rfl⟩ ?_
        rotate_left
        · (intro w; go_simp; (try with_reducible rfl))
        refine take_put (i := 12) (v := ?_) hro rfl 23 (by kernel_rfl) (by kernel_rfl) (by kernel_rfl) (by kernel_rfl) (fun _ _ _ h => h) ⟨Or.inl ⟨by kernel_rfl, ?_⟩, fun _ => by kernel_rfl⟩ ?_
        rotate_left
        · (intro w; go_simp; (try with_reducible rfl))
        refine take_put (i := 13) (v := ?_) hro rfl 24 (by kernel_rfl) (by kernel_rfl) (by kernel_rfl) (by kernel_rfl) (fun _ _ _ h => h) ⟨Or.inl ⟨by kernel_rfl, ?_⟩, fun _ => by kernel_rfl⟩ ?_
        rotate_left
        · (intro w; go_simp; (try with_reducible rfl))
        refine take_put (i := 14) (v := ?_) hro rfl 25 (by kernel_rfl) (by kernel_rfl) (by kernel_rfl) (by kernel_rfl) (fun _ _ _ h => h) ⟨Or.inl ⟨by kernel_rfl, ?_⟩, fun _ => by kernel_rfl⟩ ?_
        rotate_left
        · (intro w; go_simp; (try with_reducible rfl))
        refine take_put (i := 15) (v := ?_) hro rfl 26 (by kernel_rfl) (by kernel_rfl) (by kernel_rfl) (by kernel_rfl) (fun _ _ _ h => h) ⟨Or.inl ⟨by kernel_rfl, ?_⟩, fun _ => by kernel_rfl⟩ ?_
        rotate_left
        · (intro w; go_simp; (try with_reducible rfl))
        refine take_put (i := 17) (v := ?_) hro rfl 28 (by kernel_rfl) (by kernel_rfl) (by kernel_rfl) (by kernel_rfl) (fun _ _ _ h => h) ⟨Or.inl ⟨by kernel_rfl, ?_⟩, fun _ => by kernel_rfl⟩ ?_
        rotate_left
        · (intro w; go_simp; (try with_reducible rfl))
        refine take_put (i := 18) (v := ?_) hro rfl 29 (by kernel_rfl) (by kernel_rfl) (by kernel_rfl) (by kernel_rfl) (fun _ _ _ h => h) ⟨Or.inl ⟨by kernel_rfl, ?_⟩, fun _ => by kernel_rfl⟩ ?_
        rotate_left
        · (intro w; go_simp; (try with_reducible rfl))
        refine take_put (i := 19) (v := ?_) hro rfl 30 (by kernel_rfl) (by kernel_rfl) (by kernel_rfl) (by kernel_rfl) (fun _ _ _ h => h) ⟨Or.inl ⟨by kernel_rfl, ?_⟩, fun _ => by kernel_rfl⟩ ?_
        rotate_left
        · (intro w; go_simp; (try with_reducible rfl))
        refine wpAnyIn_two (i := 16) (j := 20) (vi := .agg #[.int .i64 q2.x, .int .i64 q2.y]) (vj := .agg #[.int .i64 q3.x, .int .i64 q3.y]) hro (by kernel_rfl) rfl rfl (by kernel_rfl) (by kernel_rfl) (by decide) 27 31 (by kernel_rfl) (by kernel_rfl) (by decide) ⟨by kernel_rfl, by go_simp, by kernel_rfl⟩ ⟨by kernel_rfl, by go_simp, by kernel_rfl⟩ ⟨by kernel_rfl, by go_simp, by kernel_rfl⟩ ⟨by kernel_rfl, by go_simp, by kernel_rfl⟩ ?_
        obtain ⟨fn, tmps, assign, body, hy, hR⟩ := hY _ (q2, q3) _ hJc (by simp [sidesL])
        dsimp only at hy
        clear hJc
        refine wpAnyIn_ready (rs := [21]) (by kernel_rfl) (by simp) ?_
        refine AllReadyIn.cons rfl (fun K hK => ?_) AllReadyIn.nil
        go_simp
        refine hR.mono ?_
        clear hR hy
        rintro e W2 (⟨rfl, hJc, hk2⟩ | ⟨rfl, hJx⟩)
        rotate_left
        · refine hK _ _ ?_
          clear hK K
          refine take_put (i := 22) (v := ?_) hro rfl 33 (by kernel_rfl) (by kernel_rfl) (by kernel_rfl) (by kernel_rfl) (fun _ _ _ h => h) ⟨Or.inl ⟨by kernel_rfl, ?_⟩, fun _ => by kernel_rfl⟩ ?_
          rotate_left
          · (intro w; go_simp; (try with_reducible rfl))
          refine take_put (i := 23) (v := ?_) hro rfl 34 (by kernel_rfl) (by kernel_rfl) (by kernel_rfl) (by kernel_rfl) (fun _ _ _ h => h) ⟨Or.inl ⟨by kernel_rfl, ?_⟩, fun _ => by kernel_rfl⟩ ?_
          rotate_left
          · (intro w; go_simp; (try with_reducible rfl))
          refine take_put (i := 24) (v := ?_) hro rfl 35 (by kernel_rfl) (by kernel_rfl) (by kernel_rfl) (by kernel_rfl) (fun _ _ _ h => h) ⟨Or.inl ⟨by kernel_rfl, ?_⟩, fun _ => by kernel_rfl⟩ ?_
          rotate_left
          · (intro w; go_simp; (try with_reducible rfl))
          refine take_put (i := 25) (v := undef) hro rfl 36 (by kernel_rfl) (by kernel_rfl) (by kernel_rfl) (by kernel_rfl) (fun _ _ _ h => h) ⟨Or.inr ⟨by kernel_rfl, rfl⟩, fun _ => by kernel_rfl⟩ ?_
          refine take_put (i := 26) (v := undef) hro rfl 37 (by kernel_rfl) (by kernel_rfl) (by kernel_rfl) (by kernel_rfl) (fun _ _ _ h => h) ⟨Or.inr ⟨by kernel_rfl, rfl⟩, fun _ => by kernel_rfl⟩ ?_
          refine take_put (i := 27) (v := undef) hro rfl 38 (by kernel_rfl) (by kernel_rfl) (by kernel_rfl) (by kernel_rfl) (fun _ _ _ h => h) ⟨Or.inr ⟨by kernel_rfl, rfl⟩, fun _ => by kernel_rfl⟩ ?_
          refine take_put (i := 28) (v := undef) hro rfl 39 (by kernel_rfl) (by kernel_rfl) (by kernel_rfl) (by kernel_rfl) (fun _ _ _ h => h) ⟨Or.inr ⟨by kernel_rfl, rfl⟩, fun _ => by kernel_rfl⟩ ?_
          refine take_put (i := 29) (v := undef) hro rfl 40 (by kernel_rfl) (by kernel_rfl) (by kernel_rfl) (by kernel_rfl) (fun _ _ _ h => h) ⟨Or.inr ⟨by kernel_rfl, rfl⟩, fun _ => by kernel_rfl⟩ ?_
          refine take_put (i := 30) (v := undef) hro rfl 41 (by kernel_rfl) (by kernel_rfl) (by kernel_rfl) (by kernel_rfl) (fun _ _ _ h => h) ⟨Or.inr ⟨by kernel_rfl, rfl⟩, fun _ => by kernel_rfl⟩ ?_
          refine take_put (i := 31) (v := undef) hro rfl 42 (by kernel_rfl) (by kernel_rfl) (by kernel_rfl) (by kernel_rfl) (fun _ _ _ h => h) ⟨Or.inr ⟨by kernel_rfl, rfl⟩, fun _ => by kernel_rfl⟩ ?_
          refine take_put (i := 32) (v := undef) hro rfl 43 (by kernel_rfl) (by kernel_rfl) (by kernel_rfl) (by kernel_rfl) (fun _ _ _ h => h) ⟨Or.inr ⟨by kernel_rfl, rfl⟩, fun _ => by kernel_rfl⟩ ?_
          refine take_put (i := 33) (v := undef) hro rfl 44 (by kernel_rfl) (by kernel_rfl) (by kernel_rfl) (by kernel_rfl) (fun _ _ _ h => h) ⟨Or.inr ⟨by kernel_rfl, rfl⟩, fun _ => by kernel_rfl⟩ ?_
          refine take_put (i := 34) (v := undef) hro rfl 45 (by kernel_rfl) (by kernel_rfl) (by kernel_rfl) (by kernel_rfl) (fun _ _ _ h => h) ⟨Or.inr ⟨by kernel_rfl, rfl⟩, fun _ => by kernel_rfl⟩ ?_
          refine take_put (i := 35) (v := undef) hro rfl 46 (by kernel_rfl) (by kernel_rfl) (by kernel_rfl) (by kernel_rfl) (fun _ _ _ h => h) ⟨Or.inr ⟨by kernel_rfl, rfl⟩, fun _ => by kernel_rfl⟩ ?_
          refine take_put (i := 36) (v := ?_) hro rfl 47 (by kernel_rfl) (by kernel_rfl) (by kernel_rfl) (by kernel_rfl) (fun _ _ _ h => h) ⟨Or.inl ⟨by kernel_rfl, ?_⟩, fun _ => by kernel_rfl⟩ ?_
          rotate_left
          · (intro w; go_simp; (try with_reducible rfl))
          refine wpAnyIn_done (by kernel_rfl) ?_ _
          simp only [Act.put, List.setIfInBounds_toArray, List.set_cons_succ, List.set_cons_zero]
          gi_wp2
          refine bodyPost_ret (results_none rfl _ _ _) rfl ?_
          exact ⟨⟨_, rfl⟩, .inr ⟨_, ⟨(sidesL p0 p1 p2 p3 q0 q1 q2 q3).drop 8, rfl⟩, hJx⟩⟩
        have r2 : ∀ o, W2.cell? ⟨Bn, o, none⟩ = W.cell? ⟨Bn, o, none⟩ := fun o => (hk2.cell (p := ⟨Bn, o, none⟩) hBn).trans (by simpa using r1 o)
        refine hK _ _ ?_
        clear hK K
        refine take_put (i := 22) (v := ?_) hro rfl 33 (by kernel_rfl) (by kernel_rfl) (by kernel_rfl) (by kernel_rfl) (fun _ _ _ h => h) ⟨Or.inl ⟨by kernel_rfl, ?_⟩, fun _ => by kernel_rfl⟩ ?_
        rotate_left
        · (intro w; go_simp; (try with_reducible rfl))
        refine take_put (i := 23) (v := ?_) hro rfl 34 (by kernel_rfl) (by kernel_rfl) (by kernel_rfl) (by kernel_rfl) (fun _ _ _ h => h) ⟨Or.inl ⟨by kernel_rfl, ?_⟩, fun _ => by kernel_rfl⟩ ?_
        rotate_left
        · (intro w; go_simp; (try with_reducible rfl))
        refine take_put (i := 24) (v := ?_) hro rfl 35 (by kernel_rfl) (by kernel_rfl) (by kernel_rfl) (by kernel_rfl) (fun _ _ _ h => h) ⟨Or.inl ⟨by kernel_rfl, ?_⟩, fun _ => by kernel_rfl⟩ ?_
        rotate_left
        · (intro w; go_simp; (try with_reducible rfl))
        refine take_put (i := 25) (v := ?_) hro rfl 36 (by kernel_rfl) (by kernel_rfl) (by kernel_rfl) (by kernel_rfl) (fun _ _ _ h => h) ⟨Or.inl ⟨by kernel_rfl, ?_⟩, fun _ => by kernel_rfl⟩ ?_
        rotate_left
        · (intro w; go_simp; (try with_reducible rfl))
        refine take_put (i := 26) (v := ?_) hro rfl 37 (by kernel_rfl) (by kernel_rfl) (by kernel_rfl) (by kernel_rfl) (fun _ _ _ h => h) ⟨Or.inl ⟨by kernel_rfl, ?_⟩, fun _ => by kernel_rfl⟩ ?_
        rotate_left
        · (intro w; go_simp; (try with_reducible rfl))
        refine take_put (i := 27) (v := ?_) hro rfl 38 (by kernel_rfl) (by kernel_rfl) (by kernel_rfl) (by kernel_rfl) (fun _ _ _ h => h) ⟨Or.inl ⟨by kernel_rfl, ?_⟩, fun _ => by kernel_rfl⟩ ?_
        rotate_left
        · (intro w; go_simp; (try with_reducible rfl))
        refine take_put (i := 28) (v := ?_) hro rfl 39 (by kernel_rfl) (by kernel_rfl) (by kernel_rfl) (by kernel_rfl) (fun _ _ _ h => h) ⟨Or.inl ⟨by kernel_rfl, ?_⟩, fun _ => by kernel_rfl⟩ ?_
        rotate_left
        · (intro w; go_simp; (try with_reducible rfl))
        refine take_put (i := 30) (v := ?_) hro rfl 41 (by kernel_rfl) (by kernel_rfl) (by kernel_rfl) (by kernel_rfl) (fun _ _ _ h => h) ⟨Or.inl ⟨by kernel_rfl, ?_⟩, fun _ => by kernel_rfl⟩ ?_
        rotate_left
        · (intro w; go_simp; (try with_reducible rfl))
        refine take_put (i := 31) (v := ?_) hro rfl 42 (by kernel_rfl) (by kernel_rfl) (by kernel_rfl) (by kernel_rfl) (fun _ _ _ h => h) ⟨Or.inl ⟨by kernel_rfl, ?_⟩, fun _ => by kernel_rfl⟩ ?_
        rotate_left
        · (intro w; go_simp; (try with_reducible rfl))
        refine take_put (i := 32) (v := ?_) hro rfl 43 (by kernel_rfl) (by kernel_rfl) (by kernel_rfl) (by kernel_rfl) (fun _ _ _ h => h) ⟨Or.inl ⟨by kernel_rfl, ?_⟩, fun _ => by kernel_rfl⟩ ?_
        rotate_left
        · (intro w; go_simp; (try with_reducible rfl))
        refine wpAnyIn_two (i := 29) (j := 33) (vi := .agg #[.int .i64 p2.x, .int .i64 p2.y]) (vj := .agg #[.int .i64 q2.x, .int .i64 q2.y]) hro (by kernel_rfl) rfl rfl (by kernel_rfl) (by kernel_rfl) (by decide) 40 44 (by kernel_rfl) (by kernel_rfl) (by decide) ⟨by kernel_rfl, by go_simp, by kernel_rfl⟩ ⟨by kernel_rfl, by go_simp, by kernel_rfl⟩ ⟨by kernel_rfl, by go_simp, by kernel_rfl⟩ ⟨by kernel_rfl, by go_simp, by kernel_rfl⟩ ?_
        obtain ⟨fn, tmps, assign, body, hy, hR⟩ := hY _ (p2, q2) _ hJc (by simp [sidesL])
        dsimp only at hy
        clear hJc
        refine wpAnyIn_ready (rs := [34]) (by kernel_rfl) (by simp) ?_
        refine AllReadyIn.cons rfl (fun K hK => ?_) AllReadyIn.nil
        go_simp
        refine hR.mono ?_
        clear hR hy
        rintro e W3 (⟨rfl, hJc, hk3⟩ | ⟨rfl, hJx⟩)
        rotate_left
        · refine hK _ _ ?_
          clear hK K
          refine take_put (i := 35) (v := ?_) hro rfl 46 (by kernel_rfl) (by kernel_rfl) (by kernel_rfl) (by kernel_rfl) (fun _ _ _ h => h) ⟨Or.inl ⟨by kernel_rfl, ?_⟩, fun _ => by kernel_rfl⟩ ?_
          rotate_left
          · (intro w; go_simp; (try with_reducible rfl))
          refine take_put (i := 36) (v := ?_) hro rfl 47 (by kernel_rfl) (by kernel_rfl) (by kernel_rfl) (by kernel_rfl) (fun _ _ _ h => h) ⟨Or.inl ⟨by kernel_rfl, ?_⟩, fun _ => by kernel_rfl⟩ ?_
          rotate_left
          · (intro w; go_simp; (try with_reducible rfl))
          refine wpAnyIn_done (by kernel_rfl) ?_ _
          simp only [Act.put, List.setIfInBounds_toArray, List.set_cons_succ, List.set_cons_zero]
          gi_wp2
          refine bodyPost_ret (results_none rfl _ _ _) rfl ?_
          exact ⟨⟨_, rfl⟩, .inr ⟨_, ⟨(sidesL p0 p1 p2 p3 q0 q1 q2 q3).drop 9, rfl⟩, hJx⟩⟩
        have r3 : ∀ o, W3.cell? ⟨Bn, o, none⟩ = W.cell? ⟨Bn, o, none⟩ := fun o => (hk3.cell (p := ⟨Bn, o, none⟩) hBn).trans (by simpa using r2 o)
        refine hK _ _ ?_
        clear hK K
        refine take_put (i := 35) (v := ?_) hro rfl 46 (by kernel_rfl) (by kernel_rfl) (by kernel_rfl) (by kernel_rfl) (fun _ _ _ h => h) ⟨Or.inl ⟨by kernel_rfl, ?_⟩, fun _ => by kernel_rfl⟩ ?_
        rotate_left
        · (intro w; go_simp; (try with_reducible rfl))
        refine take_put (i := 36) (v := ?_) hro rfl 47 (by kernel_rfl) (by kernel_rfl) (by kernel_rfl) (by kernel_rfl) (fun _ _ _ h => h) ⟨Or.inl ⟨by kernel_rfl, ?_⟩, fun _ => by kernel_rfl⟩ ?_
        rotate_left
        · (intro w; go_simp; (try with_reducible rfl))
        refine wpAnyIn_done (by kernel_rfl) ?_ _
        simp only [Act.put, List.setIfInBounds_toArray, List.set_cons_succ, List.set_cons_zero]
        gi_wp2
        go_roundw
        case rel => exact ⟨3, by omega, rfl, hJc, hnx.trans ((Below.drew (Below.refl _ _)).trans (hk1.trans (hk2.trans hk3)))⟩
        case measure => simp [intOf]
      · gi_wp2
        refine wpIn_region_any (by kernel_rfl) ?_
        change wpAnyIn _ _ _ _ _ _ _ _ _ (World.drew _)
        refine take_put (i := 0) (v := ?_) hro rfl 11 (by kernel_rfl) (by kernel_rfl) (by kernel_rfl) (by kernel_rfl) (fun _ _ _ h => h) ⟨Or.inl ⟨by kernel_rfl, ?_⟩, fun _ => by kernel_rfl⟩ ?_
        rotate_left
        · (intro w; go_simp; (try with_reducible rfl))
        refine take_put (i := 1) (v := ?_) hro rfl 12 (by kernel_rfl) (by kernel_rfl) (by kernel_rfl) (by kernel_rfl) (fun _ _ _ h => h) ⟨Or.inl ⟨by kernel_rfl, ?_⟩, fun _ => by kernel_rfl⟩ ?_
        rotate_left
        · (intro w; go_simp; (try with_reducible rfl))
        refine take_put (i := 2) (v := ?_) hro rfl 13 (by kernel_rfl) (by kernel_rfl) (by kernel_rfl) (by kernel_rfl) (fun _ _ _ h => h) ⟨Or.inl ⟨by kernel_rfl, ?_⟩, fun _ => by kernel_rfl⟩ ?_
        rotate_left
        · (intro w; go_simp; (try with_reducible rfl))
        refine take_put (i := 3) (v := ?_) hro rfl 14 (by kernel_rfl) (by kernel_rfl) (by kernel_rfl) (by kernel_rfl) (fun _ _ _ h => h) ⟨Or.inl ⟨by kernel_rfl, ?_⟩, fun _ => by kernel_rfl⟩ ?_
        rotate_left
        · (intro w; go_simp; (try with_reducible rfl))
        refine take_put (i := 5) (v := ?_) hro rfl 16 (by kernel_rfl) (by kernel_rfl) (by kernel_rfl) (by kernel_rfl) (fun _ _ _ h => h) ⟨Or.inl ⟨by kernel_rfl, ?_⟩, fun _ => by kernel_rfl⟩ ?_
        rotate_left
        · (intro w; go_simp; (try with_reducible rfl))
        refine take_put (i := 6) (v := ?_) hro rfl 17 (by kernel_rfl) (by kernel_rfl) (by kernel_rfl) (by kernel_rfl) (fun _ _ _ h => h) ⟨Or.inl ⟨by kernel_rfl, ?_⟩, fun _ => by kernel_rfl⟩ ?_
        rotate_left
        · (intro w; go_simp; (try with_reducible rfl))
        refine take_put (i := 7) (v := ?_) hro rfl 18 (by kernel_rfl) (by kernel_rfl) (by kernel_rfl) (by kernel_rfl) (fun _ _ _ h => h) ⟨Or.inl ⟨by kernel_rfl, ?_⟩, fun _ => by kernel_rfl⟩ ?_
        rotate_left
        · (intro w; go_simp; (try with_reducible rfl))
        refine wpAnyIn_two (i := 4) (j := 8) (vi := .agg #[.int .i64 p3.x, .int .i64 p3.y]) (vj := .agg #[.int .i64 p0.x, .int .i64 p0.y]) hro (by kernel_rfl) rfl rfl (by kernel_rfl) (by kernel_rfl) (by decide) 15 19 (by kernel_rfl) (by kernel_rfl) (by decide) ⟨by kernel_rfl, by go_simp, by kernel_rfl⟩ ⟨by kernel_rfl, by go_simp, by kernel_rfl⟩ ⟨by kernel_rfl, by go_simp, by kernel_rfl⟩ ⟨by kernel_rfl, by go_simp, by kernel_rfl⟩ ?_
        obtain ⟨fn, tmps, assign, body, hy, hR⟩ := hY _ (p3, p0) _ hJc (by simp [sidesL])
        dsimp only at hy
        clear hJc
        refine wpAnyIn_ready (rs := [9]) (by kernel_rfl) (by simp) ?_
        refine AllReadyIn.cons rfl (fun K hK => ?_) AllReadyIn.nil
        go_simp
        refine hR.mono ?_
        clear hR hy
        rintro e W1 (⟨rfl, hJc, hk1⟩ | ⟨rfl, hJx⟩)
        rotate_left
        · refine hK _ _ ?_
          clear hK K
          refine take_put (i := 10) (v := ?_) hro rfl 21 (by kernel_rfl) (by kernel_rfl) (by kernel_rfl) (by kernel_rfl) (fun _ _ _ h => h) ⟨Or.inl ⟨by kernel_rfl, ?_⟩, fun _ => by kernel_rfl⟩ ?_
          rotate_left
          · (intro w; go_simp; (try with_reducible rfl))
          refine take_put (i := 11) (v := ?_) hro rfl 22 (by kernel_rfl) (by kernel_rfl) (by kernel_rfl) (by kernel_rfl) (fun _ _ _ h => h) ⟨Or.inl ⟨by kernel_rfl, ?_⟩, fun _ => by kernel_rfl⟩ ?_
          rotate_left
          · (intro w; go_simp; (try with_reducible rfl))
          refine take_put (i := 12) (v := undef) hro rfl 23 (by kernel_rfl) (by kernel_rfl) (by kernel_rfl) (by kernel_rfl) (fun _ _ _ h => h) ⟨Or.inr ⟨by kernel_rfl, rfl⟩, fun _ => by kernel_rfl⟩ ?_
          refine take_put (i := 13) (v := undef) hro rfl 24 (by kernel_rfl) (by kernel_rfl) (by kernel_rfl) (by kernel_rfl) (fun _ _ _ h => h) ⟨Or.inr ⟨by kernel_rfl, rfl⟩, fun _ => by kernel_rfl⟩ ?_
          refine take_put (i := 14) (v := undef) hro rfl 25 (by kernel_rfl) (by kernel_rfl) (by kernel_rfl) (by kernel_rfl) (fun _ _ _ h => h) ⟨Or.inr ⟨by kernel_rfl, rfl⟩, fun _ => by kernel_rfl⟩ ?_
          refine take_put (i := 15) (v := undef) hro rfl 26 (by kernel_rfl) (by kernel_rfl) (by kernel_rfl) (by kernel_rfl) (fun _ _ _ h => h) ⟨Or.inr ⟨by kernel_rfl, rfl⟩, fun _ => by kernel_rfl⟩ ?_
          refine take_put (i := 16) (v := undef) hro rfl 27 (by kernel_rfl) (by kernel_rfl) (by kernel_rfl) (by kernel_rfl) (fun _ _ _ h => h) ⟨Or.inr ⟨by kernel_rfl, rfl⟩, fun _ => by kernel_rfl⟩ ?_
          refine take_put (i := 17) (v := undef) hro rfl 28 (by kernel_rfl) (by kernel_rfl) (by kernel_rfl) (by kernel_rfl) (fun _ _ _ h => h) ⟨Or.inr ⟨by kernel_rfl, rfl⟩, fun _ => by kernel_rfl⟩ ?_
          refine take_put (i := 18) (v := undef) hro rfl 29 (by kernel_rfl) (by kernel_rfl) (by kernel_rfl) (by kernel_rfl) (fun _ _ _ h => h) ⟨Or.inr ⟨by kernel_rfl, rfl⟩, fun _ => by kernel_rfl⟩ ?_
          refine take_put (i := 19) (v := undef) hro rfl 30 (by kernel_rfl) (by kernel_rfl) (by kernel_rfl) (by kernel_rfl) (fun _ _ _ h => h) ⟨Or.inr ⟨by kernel_rfl, rfl⟩, fun _ => by kernel_rfl⟩ ?_
          refine take_put (i := 20) (v := undef) hro rfl 31 (by kernel_rfl) (by kernel_rfl) (by kernel_rfl) (by kernel_rfl) (fun _ _ _ h => h) ⟨Or.inr ⟨by kernel_rfl, rfl⟩, fun _ => by kernel_rfl⟩ ?_
          refine take_put (i := 21) (v := undef) hro rfl 32 (by kernel_rfl) (by kernel_rfl) (by kernel_rfl) (by kernel_rfl) (fun _ _ _ h => h) ⟨Or.inr ⟨by kernel_rfl, rfl⟩, fun _ => by kernel_rfl⟩ ?_
          refine take_put (i := 22) (v := undef) hro rfl 33 (by kernel_rfl) (by kernel_rfl) (by kernel_rfl) (by kernel_rfl) (fun _ _ _ h => h) ⟨Or.inr ⟨by kernel_rfl, rfl⟩, fun _ => by kernel_rfl⟩ ?_
          refine take_put (i := 23) (v := ?_) hro rfl 34 (by kernel_rfl) (by kernel_rfl) (by kernel_rfl) (by kernel_rfl) (fun _ _ _ h => h) ⟨Or.inl ⟨by kernel_rfl, ?_⟩, fun _ => by kernel_rfl⟩ ?_
          rotate_left
          · (intro w; go_simp; (try with_reducible rfl))
          refine take_put (i := 24) (v := ?_) hro rfl 35 (by kernel_rfl) (by kernel_rfl) (by kernel_rfl) (by kernel_rfl) (fun _ _ _ h => h) ⟨Or.inl ⟨by kernel_rfl, ?_⟩, fun _ => by kernel_rfl⟩ ?_
          rotate_left
          · (intro w; go_simp; (try with_reducible rfl))
          refine take_put (i := 25) (v := undef) hro rfl 36 (by kernel_rfl) (by kernel_rfl) (by kernel_rfl) (by kernel_rfl) (fun _ _ _ h => h) ⟨Or.inr ⟨by kernel_rfl, rfl⟩, fun _ => by kernel_rfl⟩ ?_
          refine take_put (i := 26) (v := undef) hro rfl 37 (by kernel_rfl) (by kernel_rfl) (by kernel_rfl) (by kernel_rfl) (fun _ _ _ h => h) ⟨Or.inr ⟨by kernel_rfl, rfl⟩, fun _ => by kernel_rfl⟩ ?_
          refine take_put (i := 27) (v := undef) hro rfl 38 (by kernel_rfl) (by kernel_rfl) (by kernel_rfl) (by kernel_rfl) (fun _ _ _ h => h) ⟨Or.inr ⟨by kernel_rfl, rfl⟩, fun _ => by kernel_rfl⟩ ?_
          refine take_put (i := 28) (v := undef) hro rfl 39 (by kernel_rfl) (by kernel_rfl) (by kernel_rfl) (by kernel_rfl) (fun _ _ _ h => h) ⟨Or.inr ⟨by kernel_rfl, rfl⟩, fun _ => by kernel_rfl⟩ ?_
          refine take_put (i := 29) (v := undef) hro rfl 40 (by kernel_rfl) (by kernel_rfl) (by kernel_rfl) (by kernel_rfl) (fun _ _ _ h => h) ⟨Or.inr ⟨by kernel_rfl, rfl⟩, fun _ => by kernel_rfl⟩ ?_
          refine take_put (i := 30) (v := undef) hro rfl 41 (by kernel_rfl) (by kernel_rfl) (by kernel_rfl) (by kernel_rfl) (fun _ _ _ h => h) ⟨Or.inr ⟨by kernel_rfl, rfl⟩, fun _ => by kernel_rfl⟩ ?_
          refine take_put (i := 31) (v := undef) hro rfl 42 (by kernel_rfl) (by kernel_rfl) (by kernel_rfl) (by kernel_rfl) (fun _ _ _ h => h) ⟨Or.inr ⟨by kernel_rfl, rfl⟩, fun _ => by kernel_rfl⟩ ?_
          refine take_put (i := 32) (v := undef) hro rfl 43 (by kernel_rfl) (by kernel_rfl) (by kernel_rfl) (by kernel_rfl) (fun _ _ _ h => h) ⟨Or.inr ⟨by kernel_rfl, rfl⟩, fun _ => by kernel_rfl⟩ ?_
          refine take_put (i := 33) (v := undef) hro rfl 44 (by kernel_rfl) (by kernel_rfl) (by kernel_rfl) (by kernel_rfl) (fun _ _ _ h => h) ⟨Or.inr ⟨by kernel_rfl, rfl⟩, fun _ => by kernel_rfl⟩ ?_
          refine take_put (i := 34) (v := undef) hro rfl 45 (by kernel_rfl) (by kernel_rfl) (by kernel_rfl) (by kernel_rfl) (fun _ _ _ h => h) ⟨Or.inr ⟨by kernel_rfl, rfl⟩, fun _ => by kernel_rfl⟩ ?_
          refine take_put (i := 35) (v := undef) hro rfl 46 (by kernel_rfl) (by kernel_rfl) (by kernel_rfl) (by kernel_rfl) (fun _ _ _ h => h) ⟨Or.inr ⟨by kernel_rfl, rfl⟩, fun _ => by kernel_rfl⟩ ?_
          refine take_put (i := 36) (v := ?_) hro rfl 47 (by kernel_rfl) (by kernel_rfl) (by kernel_rfl) (by kernel_rfl) (fun _ _ _ h => h) ⟨Or.inl ⟨by kernel_rfl, ?_⟩, fun _ => by kernel_rfl⟩ ?_
          rotate_left
          · (intro w; go_simp; (try with_reducible rfl))
          refine wpAnyIn_done (by kernel_rfl) ?_ _
          simp only [Act.put, List.setIfInBounds_toArray, List.set_cons_succ, List.set_cons_zero]
          gi_wp2
          refine bodyPost_ret (results_none rfl _ _ _) rfl ?_
          exact ⟨⟨_, rfl⟩, .inr ⟨_, ⟨(sidesL p0 p1 p2 p3 q0 q1 q2 q3).drop 10, rfl⟩, hJx⟩⟩
        have r1 : ∀ o, W1.cell? ⟨Bn, o, none⟩ = W.cell? ⟨Bn, o, none⟩ := fun o => (hk1.cell (p := ⟨Bn, o, none⟩) hBn).trans (by simpa using r0 o)
        refine hK _ _ ?_
        clear hK K
        refine take_put (i := 10) (v := ?_) hro rfl 21 (by kernel_rfl) (by kernel_rfl) (by kernel_rfl) (by kernel_rfl) (fun _ _ _ h => h) ⟨Or.inl ⟨by kernel_rfl, ?_⟩, fun _ => by kernel_rfl⟩ ?_
        rotate_left
        · (intro w; go_simp; (try with_reducible rfl))
        refine take_put (i := 11) (v := ?_) hro rfl 22 (by kernel_rfl) (by kernel_rfl) (by kernel_rfl) (by kernel_rfl) (fun _ _ _ h => h) ⟨Or.inl ⟨by kernel_rfl, ?_⟩, fun _ => by kernel_rfl⟩ ?_
        rotate_left
        · (intro w; go_simp; (try with_reducible rfl))
        refine take_put (i := 12) (v := ?_) hro rfl 23 (by kernel_rfl) (by kernel_rfl) (by kernel_rfl) (by kernel_rfl) (fun _ _ _ h => h) ⟨Or.inl ⟨by kernel_rfl, ?_⟩, fun _ => by kernel_rfl⟩ ?_
        rotate_left
        · (intro w; go_simp; (try with_reducible rfl))
        refine take_put (i := 13) (v := ?_) hro rfl 24 (by kernel_rfl) (by kernel_rfl) (by kernel_rfl) (by kernel_rfl) (fun _ _ _ h => h) ⟨Or.inl ⟨by kernel_rfl, ?_⟩, fun _ => by kernel_rfl⟩ ?_
        rotate_left
        · (intro w; go_simp; (try with_reducible rfl))
        refine take_put (i := 14) (v := ?_) hro rfl 25 (by kernel_rfl) (by kernel_rfl) (by kernel_rfl) (by kernel_rfl) (fun _ _ _ h => h) ⟨Or.inl ⟨by kernel_rfl, ?_⟩, fun _ => by kernel_rfl⟩ ?_
        rotate_left
        · (intro w; go_simp; (try with_reducible rfl))
        refine take_put (i := 15) (v := ?_) hro rfl 26 (by kernel_rfl) (by kernel_rfl) (by kernel_rfl) (by kernel_rfl) (fun _ _ _ h => h) ⟨Or.inl ⟨by kernel_rfl, ?_⟩, fun _ => by kernel_rfl⟩ ?_
        rotate_left
        · (intro w; go_simp; (try with_reducible rfl))
        refine take_put (i := 17) (v := ?_) hro rfl 28 (by kernel_rfl) (by kernel_rfl) (by kernel_rfl) (by kernel_rfl) (fun _ _ _ h => h) ⟨Or.inl ⟨by kernel_rfl, ?_⟩, fun _ => by kernel_rfl⟩ ?_
        rotate_left
        · (intro w; go_simp; (try with_reducible rfl))
        refine take_put (i := 18) (v := ?_) hro rfl 29 (by kernel_rfl) (by kernel_rfl) (by kernel_rfl) (by kernel_rfl) (fun _ _ _ h => h) ⟨Or.inl ⟨by kernel_rfl, ?_⟩, fun _ => by kernel_rfl⟩ ?_
        rotate_left
        · (intro w; go_simp; (try with_reducible rfl))
        refine take_put (i := 19) (v := ?_) hro rfl 30 (by kernel_rfl) (by kernel_rfl) (by kernel_rfl) (by kernel_rfl) (fun _ _ _ h => h) ⟨Or.inl ⟨by kernel_rfl, ?_⟩, fun _ => by kernel_rfl⟩ ?_
        rotate_left
        · (intro w; go_simp; (try with_reducible rfl))
        refine wpAnyIn_two (i := 16) (j := 20) (vi := .agg #[.int .i64 q3.x, .int .i64 q3.y]) (vj := .agg #[.int .i64 q0.x, .int .i64 q0.y]) hro (by kernel_rfl) rfl rfl (by kernel_rfl) (by kernel_rfl) (by decide) 27 31 (by kernel_rfl) (by kernel_rfl) (by decide) ⟨by kernel_rfl, by go_simp, by kernel_rfl⟩ ⟨by kernel_rfl, by go_simp, by kernel_rfl⟩ ⟨by kernel_rfl, by go_simp, by kernel_rfl⟩ ⟨by kernel_rfl, by go_simp, by kernel_rfl⟩ ?_
        obtain ⟨fn, tmps, assign, body, hy, hR⟩ := hY _ (q3, q0) _ hJc (by simp [sidesL])
        dsimp only at hy
        clear hJc
        refine wpAnyIn_ready (rs := [21]) (by kernel_rfl) (by simp) ?_
        refine AllReadyIn.cons rfl (fun K hK => ?_) AllReadyIn.nil
        go_simp
        refine hR.mono ?_
        clear hR hy
        rintro e W2 (⟨rfl, hJc, hk2⟩ | ⟨rfl, hJx⟩)
        rotate_left
        · refine hK _ _ ?_
          clear hK K
          refine take_put (i := 22) (v := ?_) hro rfl 33 (by kernel_rfl) (by kernel_rfl) (by kernel_rfl) (by kernel_rfl) (fun _ _ _ h => h) ⟨Or.inl ⟨by kernel_rfl, ?_⟩, fun _ => by kernel_rfl⟩ ?_
          rotate_left
          · (intro w; go_simp; (try with_reducible rfl))
          refine take_put (i := 23) (v := ?_) hro rfl 34 (by kernel_rfl) (by kernel_rfl) (by kernel_rfl) (by kernel_rfl) (fun _ _ _ h => h) ⟨Or.inl ⟨by kernel_rfl, ?_⟩, fun _ => by kernel_rfl⟩ ?_
          rotate_left
          · (intro w; go_simp; (try with_reducible rfl))
          refine take_put (i := 24) (v := ?_) hro rfl 35 (by kernel_rfl) (by kernel_rfl) (by kernel_rfl) (by kernel_rfl) (fun _ _ _ h => h) ⟨Or.inl ⟨by kernel_rfl, ?_⟩, fun _ => by kernel_rfl⟩ ?_
          rotate_left
          · (intro w; go_simp; (try with_reducible rfl))
          refine take_put (i := 25) (v := undef) hro rfl 36 (by kernel_rfl) (by kernel_rfl) (by kernel_rfl) (by kernel_rfl) (fun _ _ _ h => h) ⟨Or.inr ⟨by kernel_rfl, rfl⟩, fun _ => by kernel_rfl⟩ ?_
          refine take_put (i := 26) (v := undef) hro rfl 37 (by kernel_rfl) (by kernel_rfl) (by kernel_rfl) (by kernel_rfl) (fun _ _ _ h => h) ⟨Or.inr ⟨by kernel_rfl, rfl⟩, fun _ => by kernel_rfl⟩ ?_
          refine take_put (i := 27) (v := undef) hro rfl 38 (by kernel_rfl) (by kernel_rfl) (by kernel_rfl) (by kernel_rfl) (fun _ _ _ h => h) ⟨Or.inr ⟨by kernel_rfl, rfl⟩, fun _ => by kernel_rfl⟩ ?_
          refine take_put (i := 28) (v := undef) hro rfl 39 (by kernel_rfl) (by kernel_rfl) (by kernel_rfl) (by kernel_rfl) (fun _ _ _ h => h) ⟨Or.inr ⟨by kernel_rfl, rfl⟩, fun _ => by kernel_rfl⟩ ?_
          refine take_put (i := 29) (v := undef) hro rfl 40 (by kernel_rfl) (by kernel_rfl) (by kernel_rfl) (by kernel_rfl) (fun _ _ _ h => h) ⟨Or.inr ⟨by kernel_rfl, rfl⟩, fun _ => by kernel_rfl⟩ ?_
          refine take_put (i := 30) (v := undef) hro rfl 41 (by kernel_rfl) (by kernel_rfl) (by kernel_rfl) (by kernel_rfl) (fun _ _ _ h => h) ⟨Or.inr ⟨by kernel_rfl, rfl⟩, fun _ => by kernel_rfl⟩ ?_
          refine take_put (i := 31) (v := undef) hro rfl 42 (by kernel_rfl) (by kernel_rfl) (by kernel_rfl) (by kernel_rfl) (fun _ _ _ h => h) ⟨Or.inr ⟨by kernel_rfl, rfl⟩, fun _ => by kernel_rfl⟩ ?_
          refine take_put (i := 32) (v := undef) hro rfl 43 (by kernel_rfl) (by kernel_rfl) (by kernel_rfl) (by kernel_rfl) (fun _ _ _ h => h) ⟨Or.inr ⟨by kernel_rfl, rfl⟩, fun _ => by kernel_rfl⟩ ?_
          refine take_put (i := 33) (v := undef) hro rfl 44 (by kernel_rfl) (by kernel_rfl) (by kernel_rfl) (by kernel_rfl) (fun _ _ _ h => h) ⟨Or.inr ⟨by kernel_rfl, rfl⟩, fun _ => by kernel_rfl⟩ ?_
          refine take_put (i := 34) (v := undef) hro rfl 45 (by kernel_rfl) (by kernel_rfl) (by kernel_rfl) (by kernel_rfl) (fun _ _ _ h => h) ⟨Or.inr ⟨by kernel_rfl, rfl⟩, fun _ => by kernel_rfl⟩ ?_
          refine take_put (i := 35) (v := undef) hro rfl 46 (by kernel_rfl) (by kernel_rfl) (by kernel_rfl) (by kernel_rfl) (fun _ _ _ h => h) ⟨Or.inr ⟨by kernel_rfl, rfl⟩, fun _ => by kernel_rfl⟩ ?_
          refine take_put (i := 36) (v := ?_) hro rfl 47 (by kernel_rfl) (by kernel_rfl) (by kernel_rfl) (by kernel_rfl) (fun _ _ _ h => h) ⟨Or.inl ⟨by kernel_rfl, ?_⟩, fun _ => by kernel_rfl⟩ ?_
          rotate_left
          · (intro w; go_simp; (try with_reducible rfl))
          refine wpAnyIn_done (by kernel_rfl) ?_ _
          simp only [Act.put, List.setIfInBounds_toArray, List.set_cons_succ, List.set_cons_zero]
          gi_wp2
          refine bodyPost_ret (results_none rfl _ _ _) rfl ?_
          exact ⟨⟨_, rfl⟩, .inr ⟨_, ⟨(sidesL p0 p1 p2 p3 q0 q1 q2 q3).drop 11, rfl⟩, hJx⟩⟩
        have r2 : ∀ o, W2.cell? ⟨Bn, o, none⟩ = W.cell? ⟨Bn, o, none⟩ := fun o => (hk2.cell (p := ⟨Bn, o, none⟩) hBn).trans (by simpa using r1 o)
        refine hK _ _ ?_
        clear hK K
        refine take_put (i := 22) (v := ?_) hro rfl 33 (by kernel_rfl) (by kernel_rfl) (by kernel_rfl) (by kernel_rfl) (fun _ _ _ h => h) ⟨Or.inl ⟨by kernel_rfl, ?_⟩, fun _ => by kernel_rfl⟩ ?_
        rotate_left
        · (intro w; go_simp; (try with_reducible rfl))
        refine take_put (i := 23) (v := ?_) hro rfl 34 (by kernel_rfl) (by kernel_rfl) (by kernel_rfl) (by kernel_rfl) (fun _ _ _ h => h) ⟨Or.inl ⟨by kernel_rfl, ?_⟩, fun _ => by kernel_rfl⟩ ?_
        rotate_left
        · (intro w; go_simp; (try with_reducible rfl))
        refine take_put (i := 24) (v := ?_) hro rfl 35 (by kernel_rfl) (by kernel_rfl) (by kernel_rfl) (by kernel_rfl) (fun _ _ _ h => h) ⟨Or.inl ⟨by kernel_rfl, ?_⟩, fun _ => by kernel_rfl⟩ ?_
        rotate_left
        · (intro w; go_simp; (try with_reducible rfl))
        refine take_put (i := 25) (v := ?_) hro rfl 36 (by kernel_rfl) (by kernel_rfl) (by kernel_rfl) (by kernel_rfl) (fun _ _ _ h => h) ⟨Or.inl ⟨by kernel_rfl, ?_⟩, fun _ => by kernel_rfl⟩ ?_
        rotate_left
        · (intro w; go_simp; (try with_reducible rfl))
        refine take_put (i := 26) (v := ?_) hro rfl 37 (by kernel_rfl) (by kernel_rfl) (by kernel_rfl) (by kernel_rfl) (fun _ _ _ h => h) ⟨Or.inl ⟨by kernel_rfl, ?_⟩, fun _ => by kernel_rfl⟩ ?_
        rotate_left
        · (intro w; go_simp; (try with_reducible rfl))
        refine take_put (i := 27) (v := ?_) hro rfl 38 (by kernel_rfl) (by kernel_rfl) (by kernel_rfl) (by kernel_rfl) (fun _ _ _ h => h) ⟨Or.inl ⟨by kernel_rfl, ?_⟩, fun _ => by kernel_rfl⟩ ?_
        rotate_left
        · (intro w; go_simp; (try with_reducible rfl))
        refine take_put (i := 28) (v := ?_) hro rfl 39 (by kernel_rfl) (by kernel_rfl) (by kernel_rfl) (by kernel_rfl) (fun _ _ _ h => h) ⟨Or.inl ⟨by kernel_rfl, ?_⟩, fun _ => by kernel_rfl⟩ ?_
        rotate_left
        · (intro w; go_simp; (try with_reducible rfl))
        refine take_put (i := 30) (v := ?_) hro rfl 41 (by kernel_rfl) (by kernel_rfl) (by kernel_rfl) (by kernel_rfl) (fun _ _ _ h => h) ⟨Or.inl ⟨by kernel_rfl, ?_⟩, fun _ => by kernel_rfl⟩ ?_
        rotate_left
        · (intro w; go_simp; (try with_reducible rfl))
        refine take_put (i := 31) (v := ?_) hro rfl 42 (by kernel_rfl) (by kernel_rfl) (by kernel_rfl) (by kernel_rfl) (fun _ _ _ h => h) ⟨Or.inl ⟨by kernel_rfl, ?_⟩, fun _ => by kernel_rfl⟩ ?_
        rotate_left
        · (intro w; go_simp; (try with_reducible rfl))
        refine take_put (i := 32) (v := ?_) hro rfl 43 (by kernel_rfl) (by kernel_rfl) (by kernel_rfl) (by kernel_rfl) (fun _ _ _ h => h) ⟨Or.inl ⟨by kernel_rfl, ?_⟩, fun _ => by kernel_rfl⟩ ?_
        rotate_left
        · (intro w; go_simp; (try with_reducible rfl))
        refine wpAnyIn_two (i := 29) (j := 33) (vi := .agg #[.int .i64 p3.x, .int .i64 p3.y]) (vj := .agg #[.int .i64 q3.x, .int .i64 q3.y]) hro (by kernel_rfl) rfl rfl (by kernel_rfl) (by kernel_rfl) (by decide) 40 44 (by kernel_rfl) (by kernel_rfl) (by decide) ⟨by kernel_rfl, by go_simp, by kernel_rfl⟩ ⟨by kernel_rfl, by go_simp, by kernel_rfl⟩ ⟨by kernel_rfl, by go_simp, by kernel_rfl⟩ ⟨by kernel_rfl, by go_simp, by kernel_rfl⟩ ?_
        obtain ⟨fn, tmps, assign, body, hy, hR⟩ := hY _ (p3, q3) _ hJc (by simp [sidesL])
        dsimp only at hy
        clear hJc
        refine wpAnyIn_ready (rs := [34]) (by kernel_rfl) (by simp) ?_
        refine AllReadyIn.cons rfl (fun K hK => ?_) AllReadyIn.nil
        go_simp
        refine hR.mono ?_
        clear hR hy
        rintro e W3 (⟨rfl, hJc, hk3⟩ | ⟨rfl, hJx⟩)
        rotate_left
        · refine hK _ _ ?_
          clear hK K
          refine take_put (i := 35) (v := ?_) hro rfl 46 (by kernel_rfl) (by kernel_rfl) (by kernel_rfl) (by kernel_rfl) (fun _ _ _ h => h) ⟨Or.inl ⟨by kernel_rfl, ?_⟩, fun _ => by kernel_rfl⟩ ?_
          rotate_left
          · (intro w; go_simp; (try with_reducible rfl))
          refine take_put (i := 36) (v := ?_) hro rfl 47 (by kernel_rfl) (by kernel_rfl) (by kernel_rfl) (by kernel_rfl) (fun _ _ _ h => h) ⟨Or.inl ⟨by kernel_rfl, ?_⟩, fun _ => by kernel_rfl⟩ ?_
          rotate_left
          · (intro w; go_simp; (try with_reducible rfl))
          refine wpAnyIn_done (by kernel_rfl) ?_ _
          simp only [Act.put, List.setIfInBounds_toArray, List.set_cons_succ, List.set_cons_zero]
          gi_wp2
          refine bodyPost_ret (results_none rfl _ _ _) rfl ?_
          exact ⟨⟨_, rfl⟩, .inr ⟨_, ⟨(sidesL p0 p1 p2 p3 q0 q1 q2 q3).drop 12, rfl⟩, hJx⟩⟩
        have r3 : ∀ o, W3.cell? ⟨Bn, o, none⟩ = W.cell? ⟨Bn, o, none⟩ := fun o => (hk3.cell (p := ⟨Bn, o, none⟩) hBn).trans (by simpa using r2 o)
        refine hK _ _ ?_
        clear hK K
        refine take_put (i := 35) (v := ?_) hro rfl 46 (by kernel_rfl) (by kernel_rfl) (by kernel_rfl) (by kernel_rfl) (fun _ _ _ h => h) ⟨Or.inl ⟨by kernel_rfl, ?_⟩, fun _ => by kernel_rfl⟩ ?_
        rotate_left
        · (intro w; go_simp; (try with_reducible rfl))
        refine take_put (i := 36) (v := ?_) hro rfl 47 (by kernel_rfl) (by kernel_rfl) (by kernel_rfl) (by kernel_rfl) (fun _ _ _ h => h) ⟨Or.inl ⟨by kernel_rfl, ?_⟩, fun _ => by kernel_rfl⟩ ?_
        rotate_left
        · (intro w; go_simp; (try with_reducible rfl))
        refine wpAnyIn_done (by kernel_rfl) ?_ _
        simp only [Act.put, List.setIfInBounds_toArray, List.set_cons_succ, List.set_cons_zero]
        gi_wp2
        go_roundw
        case rel => exact ⟨4, by omega, rfl, hJc, hnx.trans ((Below.drew (Below.refl _ _)).trans (hk1.trans (hk2.trans hk3)))⟩
        case measure => simp [intOf]
    · obtain rfl : i = 4 := by omega
      gi_wp2
      go_end0
      exact ⟨⟨_, rfl⟩, .inl ⟨_, rfl, hJs⟩⟩
end Go.Proofs.Ytagfhekjmkdjkaa

/- The iterator over the pulls of all bodies. Condition: a question that is right, the world's cells, a slice within its capacity. -/
import Derived.Test.YtlhihmfefipehaaFoI
import Derived.Test.YtlhihmfefipehaaTailInG
import Derived.Test.YtlhihmfefipehaaRing
namespace Go.Proofs.Ytlhihmfefipehaa
open Go.RowKit Go.Shelf
attribute [local go_sem] Oper.semAt_some
attribute [local go_sem] Option.isSome_some Ext.cell Ext.frozen Ext.lt Ext.le Ext.lt_add Ext.le_add Ext.ne Ext.ne' lt2 lt3 lt4 lt5 le2 le3 le4
set_option maxRecDepth 100000
set_option maxHeartbeats 4000000
/-- A body's number and its pull. -/
structure PullX where
  i : Nat
  r : A4
  ok : r.Ok
  le : i ≤ 8
def encP (x : PullX) : Array Value := #[.int .i64 x.i, .agg #[.int .i64 x.r.xl, .int .i64 x.r.xh, .int .i64 x.r.yl, .int .i64 x.r.yh]]
theorem zero_ok : (⟨0, 0, 0, 0⟩ : A4).Ok := ⟨by simp, by simp, by simp, by simp, by simp, by simp⟩
open Classical in
noncomputable def mkX (k : Nat) (r : A4) : PullX := if h : r.Ok ∧ k ≤ 8 then ⟨k, r, h.1, h.2⟩ else ⟨0, ⟨0, 0, 0, 0⟩, zero_ok, by omega⟩
theorem mkX_of {k : Nat} {r : A4} (h : r.Ok) (hk : k ≤ 8) : mkX k r = ⟨k, r, h, hk⟩ := by unfold mkX; rw [dif_pos ⟨h, hk⟩]
noncomputable def pullsL (l : List BodyR) (t a b c d : Int) : List PullX := (List.range l.length).map fun k => mkX k (bodyPull (nthB l k) t a b c d)
theorem pullsL_len (l : List BodyR) (t a b c d : Int) : (pullsL l t a b c d).length = l.length := by unfold pullsL; simp
theorem pullsL_take {l : List BodyR} {t a b c d : Int} {i : Nat} (h : i < l.length) : (pullsL l t a b c d).take (i + 1) = (pullsL l t a b c d).take i ++ [mkX i (bodyPull (nthB l i) t a b c d)] := by
  rw [List.take_succ_eq_append_getElem (by rw [pullsL_len]; exact h)]
  unfold pullsL
  simp
theorem wrap_succ {i : Nat} (h : i ≤ 100) : wrap64 ((i : Int) + 1) = ((i + 1 : Nat) : Int) := by
  rw [IntWalk.wrap64_in _ (by omega)]; rfl
theorem wrap_val {i : Nat} (h : i ≤ 100) : (Value.int .i64 (wrap64 ((i : Int) + 1))) = .int .i64 ((i + 1 : Nat) : Int) := by rw [wrap_succ h]
theorem measure_step {i n : Nat} (h : i < n) : n - (intOf (Value.int IntKind.i64 ((i + 1 : Nat) : Int))).toNat < n - (intOf (Value.int IntKind.i64 (i : Int))).toNat := by
  change n - (((i + 1 : Nat) : Int)).toNat < n - ((i : Int)).toNat
  rw [Int.toNat_natCast, Int.toNat_natCast]
  omega
theorem grown_below {w W : World} (h : Below w.heap.size w W) : w.grownBy W none := ⟨h.os, h.tape, h.output, h.size, fun k hk _ => h.block k hk⟩
theorem pulls_any (p : Option Addr) (n cp : Nat) (h t a b c d : Int) (w : World) : Calls Try.prog 46 #[.agg #[.slice p n cp, .int .i64 h], .int .i64 t, .agg #[.int .i64 a, .int .i64 b, .int .i64 c, .int .i64 d]] w fun e w' =>
    e = .returned (.func (.func 76) #[] #[.pointer (some ⟨w.heap.size, 0, none⟩), .pointer (some ⟨w.heap.size + 1, 0, none⟩), .pointer (some ⟨w.heap.size + 1 + 1, 0, none⟩)]) ∧ w' = ((w.alloc (.cells #[.slice p n cp, .int .i64 h] 25)).alloc (.cells #[.int .i64 t] 2)).alloc (.cells #[.int .i64 a, .int .i64 b, .int .i64 c, .int .i64 d] 33) := by
  go_enter Try.func46, Try.ntmps46
  go_wp2_with (first | ((first | with_reducible refine wrx2 ?_ | with_reducible refine wrx ?_); (repeat (first | go_big_quiet_step ((first | fail)) | quiet_step ((first | fail)))); refine wpQuiet_nil ?_; rintro _ ⟨yr, rfl⟩; have syr := Ext.size yr; (repeat (first | rw [World.size_alloc] at syr | rw [World.size_setCell] at syr | rw [World.size_drew] at syr))))
  go_returns
  exact ⟨rfl, rfl⟩
theorem pulls1_seq (nn : Nat) (hn : 1 ≤ nn) (AB BW BT BA : Nat) (p : Option Addr) (cp : Nat) (l : List BodyR) (h t a b c d : Int) (w : World) (hP : ∀ W', BelowX AB w.heap.size w W' → BodiesAt W' p l) (nW : BW ≠ AB) (nT : BT ≠ AB) (nA : BA ≠ AB) (hc : l.length ≤ cp) (ok : AskOk l h t a b c d)
    (w0 : w.cell? ⟨BW, 0, none⟩ = some (.slice p l.length cp)) (w1 : w.cell? ⟨BW, 1, none⟩ = some (.int .i64 h)) (t0 : w.cell? ⟨BT, 0, none⟩ = some (.int .i64 t))
    (a0 : w.cell? ⟨BA, 0, none⟩ = some (.int .i64 a)) (a1 : w.cell? ⟨BA, 1, none⟩ = some (.int .i64 b)) (a2 : w.cell? ⟨BA, 2, none⟩ = some (.int .i64 c)) (a3 : w.cell? ⟨BA, 3, none⟩ = some (.int .i64 d)) (hBW : BW < w.heap.size) (hBT : BT < w.heap.size) (hBA : BA < w.heap.size) :
    SeqStopsK Fence.wide nn Try.prog 76 #[.pointer (some ⟨BW, 0, none⟩), .pointer (some ⟨BT, 0, none⟩), .pointer (some ⟨BA, 0, none⟩)] encP (BelowX AB w.heap.size) (fun xs => xs = pullsL l t a b c d) (fun pre => pre <+: pullsL l t a b c d) l.length w := by
  intro lr J Jx W hW hJ _ hY h0
  refine callsIn_of_wp Try.func76 rfl trivial ?_ rfl
  simp only [Try.ntmps76, List.size_toArray, List.length_cons, List.length_nil, Nat.reduceAdd, Nat.reduceSub, Array.replicate_succ, Array.replicate_zero, List.push_toArray, List.append_toArray, List.nil_append, List.cons_append]
  have b0 := (hW.cell (p := ⟨BW, 0, none⟩) hBW).trans w0
  gi_wp2
  gi_loopw [9] (fun s wr => ∃ i : Nat, i ≤ l.length ∧ s = .int .i64 i ∧ J ((pullsL l t a b c d).take i) wr ∧ BelowX AB w.heap.size w wr ∧ W.heap.size ≤ wr.heap.size) (fun s _ => l.length - (intOf s).toNat)
  case atStart => exact ⟨0, by omega, rfl, h0, .of hW, Nat.le_refl _⟩
  case round =>
    obtain ⟨i, hi, rfl, hJs, hwr, hsz⟩ := hrel
    clear b0
    by_cases hlt : i < l.length
    · have hd : decide ((i : Int) < l.length) = true := by simp; omega
      have sr := hwr.size
      have q0 := (hwr.cell (o := 0) hBW nW).trans w0
      have q1 := (hwr.cell (o := 1) hBW nW).trans w1
      have q2 := (hwr.cell (o := 0) hBT nT).trans t0
      have q3 := (hwr.cell (o := 0) hBA nA).trans a0
      have q4 := (hwr.cell (o := 1) hBA nA).trans a1
      have q5 := (hwr.cell (o := 2) hBA nA).trans a2
      have q6 := (hwr.cell (o := 3) hBA nA).trans a3
      have hPr := hP _ hwr
      have l1 : BW < wr.heap.size := by omega
      have l2 : BT < wr.heap.size := by omega
      have l3 : BA < wr.heap.size := by omega
      have c1 := fun (W : World) (y : Below wr.heap.size wr W) => pullerOf_any p cp l h i t W (hPr.on y) hc ok.world hlt ok.tick
      have hp := ok.pull i hlt
      have htk := pullsL_take (t := t) (a := a) (b := b) (c := c) (d := d) hlt
      have h8 : l.length ≤ 8 := (worldE_zero ok.world).2.2.1
      have hx := mkX_of (k := i) (pullA_ok hp) (by omega)
      change mkX i (bodyPull (nthB l i) t a b c d) = _ at hx
      have hYi := hY ((pullsL l t a b c d).take i) (mkX i (bodyPull (nthB l i) t a b c d))
      have he : encP (mkX i (bodyPull (nthB l i) t a b c d)) = #[.int .i64 i, .agg #[.int .i64 (bodyPull (nthB l i) t a b c d).xl, .int .i64 (bodyPull (nthB l i) t a b c d).xh, .int .i64 (bodyPull (nthB l i) t a b c d).yl, .int .i64 (bodyPull (nthB l i) t a b c d).yh]] := by rw [hx]; rfl
      rw [he] at hYi
      clear he hx
      generalize mkX i (bodyPull (nthB l i) t a b c d) = X at *
      rw [nthB_get hlt] at hp hYi
      have c2 := fun (W : World) => pull_any l[i].mu l[i].rad l[i].tp l[i].track.length l[i].tc (trackAt l[i].track t).x (trackAt l[i].track t).y a b c d W hp
      change ∀ W, Calls _ _ _ _ (Gives (bodyPull l[i] t a b c d).val W) at c2
      unfold A4.val at c2
      generalize bodyPull l[i] t a b c d = r at *
      obtain ⟨r1, r2, r3, r4⟩ := r
      simp only at c2
      generalize (trackAt l[i].track t).x = ax at *
      generalize (trackAt l[i].track t).y = ay at *
      generalize l[i].mu = mu at *
      generalize l[i].rad = rad at *
      generalize l[i].tp = tp at *
      generalize l[i].track.length = tn at *
      generalize l[i].tc = tc at *
      replace h8 := Go.Lib.hid h8
      have hlen : ((pullsL l t a b c d).take i).length < l.length := by rw [List.length_take, pullsL_len]; omega
      have htk := Go.Lib.hid htk
      have hend := Go.Lib.hid (show (pullsL l t a b c d).take (i + 1) <+: pullsL l t a b c d from List.take_prefix _ _)
      generalize hT : (pullsL l t a b c d).take i = T at *
      generalize hT2 : (pullsL l t a b c d).take (i + 1) = T2 at *
      clear hp hY hPr hP ok hc h0 w0 w1 t0 a0 a1 a2 a3 hW hT
      replace hT2 := Go.Lib.hid hT2
      generalize hn0 : l.length = n at *
      replace hn0 := Go.Lib.hid hn0
      gi_wp2
      refine wpIn_region_ext_heads 8 (by kernel_rfl) (by kernel_rfl) (by kernel_rfl) ?_
      simp only [List.take_succ_cons, List.take_zero, List.length_cons, List.length_nil, Nat.reduceAdd, Nat.reduceSub]
      (repeat (first | go_big_quiet_step ((first | (go_at_call 43; with_reducible exact Calls.ext (c1 _ bcl)) | (go_at_call 44; with_reducible exact Calls.ext (c2 _)))) | quiet_step ((first | (go_at_call 43; with_reducible exact Calls.ext (c1 _ bcl)) | (go_at_call 44; with_reducible exact Calls.ext (c2 _))))))
      refine wpQuiet_nil ?_
      rintro _ ⟨yr, rfl⟩
      have syr := yr.size
      have hJy : J T yr.now := hJ _ _ _ none hJs (grown_below yr.grew) (fun r e => by cases e)
      obtain ⟨fn, tmps, assign, body, hy, hR⟩ := hYi _ hJy hlen
      refine wpAnyIn_ready (rs := [8]) (by kernel_rfl) (by simp) ?_
      refine AllReadyIn.cons rfl (fun K hK => ?_) AllReadyIn.nil
      go_simp
      refine hR.mono ?_
      clear hR hy
      rintro e W3 (⟨rfl, hJ3, hk3⟩ | ⟨rfl, hJx3⟩)
      · refine hK _ _ ?_
        clear hK K
        refine wpAnyIn_ready (rs := [9]) (by kernel_rfl) (by simp) ?_
        refine AllReadyIn.cons rfl (fun K hK => ?_) AllReadyIn.nil
        go_simp
        refine hK _ _ ?_
        clear hK K
        refine wpAnyIn_done (by kernel_rfl) ?_ _
        gi_wp2
        go_roundw
        case rel =>
          have e1 := hn0.out
          have e2 := h8.out
          refine ⟨i + 1, by omega, ?_, ?_, (hwr.trans (.of (yr.grew.mono hwr.size))).trans hk3, by have := hk3.size; omega⟩
          · exact wrap_val (by omega)
          · rw [hT2.out, htk.out]; exact hJ3
        case measure =>
          have e1 := hn0.out
          have e2 := h8.out
          have e3 := wrap_succ (i := i) (by omega)
          rw [e3]
          have e4 : i < n := hlt
          exact measure_step e4
      · refine hK _ _ ?_
        clear hK K
        refine wpAnyIn_ready (rs := [9]) (by kernel_rfl) (by simp) ?_
        refine AllReadyIn.cons rfl (fun K hK => ?_) AllReadyIn.nil
        go_simp
        refine hK _ _ ?_
        clear hK K
        refine wpAnyIn_done (by kernel_rfl) ?_ _
        gi_wp2
        refine bodyPost_ret (results_none rfl _ _ _) rfl ?_
        exact ⟨⟨_, rfl⟩, .inr ⟨T2, hend.out, by rw [htk.out]; exact hJx3⟩⟩
    · obtain rfl : i = l.length := by omega
      gi_wp2
      go_end0
      exact ⟨⟨_, rfl⟩, .inl ⟨_, rfl, by rw [← List.take_of_length_le (show (pullsL l t a b c d).length ≤ l.length by rw [pullsL_len]; exact Nat.le_refl _)]; exact hJs⟩⟩
end Go.Proofs.Ytlhihmfefipehaa

/- Contract of package sky's iterator of the corners of an area. No condition. -/
import Derived.Test.YtfflbiojcoehmabSkyH
import Derived.RangeFuncNested
import Derived.RangeFuncFrom
import Derived.RangeFuncBound
import Derived.RangeFuncCalls
import Derived.RangeFuncLeaves
import Derived.Shelf.Abstract
import Derived.Shelf.RegionOpen
import Derived.OwnWalkIn
import Derived.TacticsInMore
import Derived.LoopNIn
import Derived.LoopIn
namespace Go.Proofs.Ytfflbiojcoehmab
open Go.RowKit Go.Shelf
attribute [local go_sem] Oper.semAt_some
attribute [local go_sem] Ext.cell Ext.frozen Ext.lt Ext.le Ext.lt_add Ext.le_add Ext.ne Ext.ne' lt2 lt3 lt4 lt5 le2 le3 le4
/-- A place as seen from a station. -/
structure Sn where
  x : Int
  y : Int
  hx : P27 x
  hy : P27 y
/-- An area as seen from a station. -/
structure SnA where
  a : Int
  b : Int
  c : Int
  d : Int
  ha : P27 a
  hb : P27 b
  hc : P27 c
  hd : P27 d
def cornersV (s : SnA) : List Sn := [⟨s.a, s.c, s.ha, s.hc⟩, ⟨s.a, s.d, s.ha, s.hd⟩, ⟨s.b, s.c, s.hb, s.hc⟩, ⟨s.b, s.d, s.hb, s.hd⟩]
def one2 (i : Nat) (a b : Int) : Int := if i = 0 then a else b
theorem one2_in {i : Nat} {a b : Int} (ha : P27 a) (hb : P27 b) : P27 (one2 i a b) := by unfold one2; split <;> assumption
theorem pair_at (a b : Int) (i : Nat) (hi : i < 2) (w : World) : (Instr.index 123 (.agg #[.int .i64 a, .int .i64 b]) (.int .i64 i)).run Try.prog w = .ok (.int .i64 (one2 i a b)) w := by
  rcases (show i = 0 ∨ i = 1 by omega) with rfl | rfl
  · kernel_rfl
  · kernel_rfl
theorem take_cornersV (s : SnA) (i j : Nat) (hi : i < 2) (hj : j < 2) : (cornersV s).take (2 * i + (j + 1)) = (cornersV s).take (2 * i + j) ++ [⟨one2 i s.a s.b, one2 j s.c s.d, one2_in s.ha s.hb, one2_in s.hc s.hd⟩] := by
  rcases (show i = 0 ∨ i = 1 by omega) with rfl | rfl <;> rcases (show j = 0 ∨ j = 1 by omega) with rfl | rfl <;> rfl
/-- An area in memory. -/
def AreaAt (W : World) (B : Nat) (a b c d : Int) : Prop := W.cell? ⟨B, 0, none⟩ = some (.int .i64 a) ∧ W.cell? ⟨B, 1, none⟩ = some (.int .i64 b) ∧ W.cell? ⟨B, 2, none⟩ = some (.int .i64 c) ∧ W.cell? ⟨B, 3, none⟩ = some (.int .i64 d)
theorem AreaAt.below {W W' : World} {B n : Nat} {a b c d : Int} (h : AreaAt W B a b c d) (hb : Below n W W') (hB : B < n) : AreaAt W' B a b c d :=
  ⟨(hb.cell (p := ⟨B, 0, none⟩) hB).trans h.1, (hb.cell (p := ⟨B, 1, none⟩) hB).trans h.2.1, (hb.cell (p := ⟨B, 2, none⟩) hB).trans h.2.2.1, (hb.cell (p := ⟨B, 3, none⟩) hB).trans h.2.2.2⟩
set_option maxHeartbeats 1000000 in
theorem skyCorners1_in (F : Fence) (n : Nat) (hF : F.fn 71) (hro : F.round = none) (hn : 1 ≤ n) (l Bn n₀ : Nat) (s : SnA) (J Jx : List Sn → World → Prop) (W : World) (hBn : Bn < n₀)
    (hY : ∀ pre x W1, J pre W1 → pre.length < 4 → YieldAt F (n - 1) Try.prog l #[.agg #[.int .i64 x.x, .int .i64 x.y]] W1 fun e W' =>
      (e = .returned (.bool true) ∧ J (pre ++ [x]) W' ∧ Below n₀ W1 W') ∨ (e = .returned (.bool false) ∧ Jx (pre ++ [x]) W'))
    (hb : AreaAt W Bn s.a s.b s.c s.d) (h0 : J [] W) :
    CallsIn F n Try.prog 71 #[.func (.yield l) #[] #[], .pointer (some ⟨Bn, 0, none⟩)] W fun e W' => (∃ v, e = .returned v) ∧
      ((∃ xs, xs = cornersV s ∧ J xs W') ∨ (∃ pre, pre <+: cornersV s ∧ Jx pre W')) := by
  obtain ⟨a, b, c, d, ha, hb', hc, hd⟩ := s
  obtain ⟨c0, c1, c2, c3⟩ := hb
  simp only at c0 c1 c2 c3
  refine callsIn_of_wp Try.func71 rfl hF ?_ hro
  simp only [Try.ntmps71, List.size_toArray, List.length_cons, List.length_nil, Nat.reduceAdd, Nat.reduceSub, Array.replicate_succ, Array.replicate_zero, List.push_toArray, List.append_toArray, List.nil_append, List.cons_append]
  gi_wp2
  gi_loopw [14] (fun s wr => ∃ i : Nat, i ≤ 2 ∧ s = .int .i64 i ∧ J ((cornersV ⟨a, b, c, d, ha, hb', hc, hd⟩).take (2 * i)) wr ∧ AreaAt wr Bn a b c d) (fun s _ => 2 - (intOf s).toNat)
  case atStart => exact ⟨0, by omega, rfl, h0, c0, c1, c2, c3⟩
  case round =>
    obtain ⟨i, hi, rfl, hJs, d0, d1, d2, d3⟩ := hrel
    by_cases hlt : i < 2
    · have ii := pair_at a b i hlt
      have hdi : decide ((i : Int) < 2) = true := by simp; omega
      gi_wp2
      gi_loopw [24] (fun s wr => ∃ j : Nat, j ≤ 2 ∧ s = .int .i64 j ∧ J ((cornersV ⟨a, b, c, d, ha, hb', hc, hd⟩).take (2 * i + j)) wr ∧ AreaAt wr Bn a b c d) (fun s _ => 2 - (intOf s).toNat)
      case atStart => exact ⟨0, by omega, rfl, hJs, d0, d1, d2, d3⟩
      case round =>
        obtain ⟨j, hj, rfl, hJs2, e0, e1, e2, e3⟩ := hrel
        by_cases hlt2 : j < 2
        · have ij := pair_at c d j hlt2
          have hd2 : decide ((j : Int) < 2) = true := by simp; omega
          obtain ⟨fn, tmps, assign, body, hy, hR⟩ := hY _ ⟨one2 i a b, one2 j c d, one2_in ha hb', one2_in hc hd⟩ _ hJs2 (by simp [cornersV]; omega)
          dsimp only at hy
          have hlen := Go.Lib.hid (take_cornersV ⟨a, b, c, d, ha, hb', hc, hd⟩ i j hlt hlt2)
          clear hJs hJs2
          gi_wp2
          refine hR.mono ?_
          rintro e W3 (⟨rfl, hJ3, hk3⟩ | ⟨rfl, hJx3⟩)
          · gi_wp2
            go_roundw
            case rel => exact ⟨j + 1, by omega, by simp, by rw [hlen.out]; exact hJ3, AreaAt.below ⟨e0, e1, e2, e3⟩ hk3 hBn⟩
            case measure => simp [intOf]; omega
          · gi_wp2
            refine bodyPost_ret (results_none rfl _ _ _) rfl ?_
            exact ⟨⟨_, rfl⟩, .inr ⟨_, by rw [← hlen.out]; exact List.take_prefix _ _, hJx3⟩⟩
        · obtain rfl : j = 2 := by omega
          gi_wp2
          go_roundw
          case rel => exact ⟨i + 1, by omega, by simp, hJs2, e0, e1, e2, e3⟩
          case measure => simp [intOf]; omega
    · obtain rfl : i = 2 := by omega
      gi_wp2
      go_end0
      exact ⟨⟨_, rfl⟩, .inl ⟨_, rfl, hJs⟩⟩
theorem skyCorners_any (a b c d : Int) (w : World) : Calls Try.prog 67 #[.agg #[.int .i64 a, .int .i64 b, .int .i64 c, .int .i64 d]] w fun e w' =>
    e = .returned (.func (.func 71) #[] #[.pointer (some ⟨w.heap.size, 0, none⟩)]) ∧ w' = w.alloc (.cells #[.int .i64 a, .int .i64 b, .int .i64 c, .int .i64 d] 57) := by
  go_enter Try.func67, Try.ntmps67
  go_wp2_with (first | ((first | with_reducible refine wp_region_ext2 (by kernel_rfl) (by kernel_rfl) ?_ | with_reducible refine wp_region_ext (by kernel_rfl) (by kernel_rfl) ?_); (repeat (first | go_big_quiet_step ((first | fail)) | quiet_step ((first | fail)))); refine wpQuiet_nil ?_; rintro _ ⟨yr, rfl⟩; have syr := Ext.size yr; (repeat (first | rw [World.size_alloc] at syr | rw [World.size_setCell] at syr | rw [World.size_drew] at syr))))
  go_returns
  exact ⟨rfl, rfl⟩
theorem skyCorners_stops (F : Fence) (n : Nat) (hF : F.fn 71) (hro : F.round = none) (hn : 1 ≤ n) (Bn n₀ : Nat) (s : SnA) (w : World) (hB : Bn < w.heap.size) (hB2 : Bn < n₀) (hb : AreaAt w Bn s.a s.b s.c s.d) :
    SeqStopsK F n Try.prog 71 #[.pointer (some ⟨Bn, 0, none⟩)] (fun x : Sn => #[.agg #[.int .i64 x.x, .int .i64 x.y]]) (Below n₀) (fun xs => xs = cornersV s) (fun pre => pre <+: cornersV s) 4 w :=
  fun l J Jx W hW _ _ hY h0 => skyCorners1_in F n hF hro hn l Bn n₀ s J Jx W hB2 hY (hb.below hW hB) h0
end Go.Proofs.Ytfflbiojcoehmab

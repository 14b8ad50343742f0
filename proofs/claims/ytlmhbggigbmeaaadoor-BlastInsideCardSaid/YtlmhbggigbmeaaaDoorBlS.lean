/- Contracts of CheckStone, Mass and Holds. Condition: the table of limits stands as it was laid. -/
import Derived.Test.YtlmhbggigbmeaaaDoorSpansG
namespace Go.Proofs.YtlmhbggigbmeaaaDoor
open Go.RowKit Go.Shelf
attribute [local go_sem] Option.isSome_some Ext.cell Ext.frozen Ext.lt Ext.le Ext.lt_add Ext.le_add Ext.ne Ext.ne' lt2 lt3 lt4 lt5 le2 le3 le4
theorem numbersOf_any (a b c d e : Int) (p : Bool) (f g : Int) (w : World) : Calls Tryd.prog 66 #[.agg #[.int .i64 a, .int .i64 b, .int .i64 c, .int .i64 d, .int .i64 e, .bool p, .int .i64 f, .int .i64 g]] w (Gives (.agg #[.int .i64 a, .int .i64 b, .int .i64 c, .int .i64 d, .int .i64 e, .int .i64 f, .int .i64 g]) w) := by
  go_enter Tryd.func66, Tryd.ntmps66
  go_wp2_with (first | ((first | with_reducible refine wrx2 ?_ | with_reducible refine wrx ?_); (repeat (first | go_big_quiet_step ((first | fail)) | quiet_step ((first | fail)))); refine wpQuiet_nil ?_; rintro _ ⟨yr, rfl⟩; have syr := Ext.size yr; (repeat (first | rw [World.size_alloc] at syr | rw [World.size_setCell] at syr | rw [World.size_drew] at syr))))
  refine bodyPost_ret (v := .agg #[.int .i64 a, .int .i64 b, .int .i64 c, .int .i64 d, .int .i64 e, .int .i64 f, .int .i64 g]) (by simp (maxDischargeDepth := 9) [results, Tryd.results66, go_sem, *]) rfl ?_
  refine ⟨rfl, ?_⟩
  repeat' (first | (with_reducible exact Below.refl _ _) | (with_reducible assumption) | (with_reducible refine Ext.below _ ?_ ?_) | (with_reducible refine Below.on ?_ (by with_reducible assumption) ?_) | (with_reducible refine Below.alloc ?_ ?_ _) | (with_reducible refine Below.drew ?_) | (with_reducible refine Below.setCell ?_ ?_ _) | (with_reducible exact Nat.le_refl _) | omega | (simp; done) | (simp [go_sem]; done) | (simp at *; omega))
theorem n7_at0 (x0 x1 x2 x3 x4 x5 x6 : Value) (w : World) : (Instr.index 121 (.agg #[x0, x1, x2, x3, x4, x5, x6]) (.int .i64 0)).run Tryd.prog w = .ok x0 w := by kernel_rfl
theorem n7_at1 (x0 x1 x2 x3 x4 x5 x6 : Value) (w : World) : (Instr.index 121 (.agg #[x0, x1, x2, x3, x4, x5, x6]) (.int .i64 1)).run Tryd.prog w = .ok x1 w := by kernel_rfl
theorem n7_at2 (x0 x1 x2 x3 x4 x5 x6 : Value) (w : World) : (Instr.index 121 (.agg #[x0, x1, x2, x3, x4, x5, x6]) (.int .i64 2)).run Tryd.prog w = .ok x2 w := by kernel_rfl
theorem n7_at3 (x0 x1 x2 x3 x4 x5 x6 : Value) (w : World) : (Instr.index 121 (.agg #[x0, x1, x2, x3, x4, x5, x6]) (.int .i64 3)).run Tryd.prog w = .ok x3 w := by kernel_rfl
theorem n7_at4 (x0 x1 x2 x3 x4 x5 x6 : Value) (w : World) : (Instr.index 121 (.agg #[x0, x1, x2, x3, x4, x5, x6]) (.int .i64 4)).run Tryd.prog w = .ok x4 w := by kernel_rfl
theorem n7_at5 (x0 x1 x2 x3 x4 x5 x6 : Value) (w : World) : (Instr.index 121 (.agg #[x0, x1, x2, x3, x4, x5, x6]) (.int .i64 5)).run Tryd.prog w = .ok x5 w := by kernel_rfl
theorem n7_at6 (x0 x1 x2 x3 x4 x5 x6 : Value) (w : World) : (Instr.index 121 (.agg #[x0, x1, x2, x3, x4, x5, x6]) (.int .i64 6)).run Tryd.prog w = .ok x6 w := by kernel_rfl
attribute [local go_sem] n7_at0 n7_at1 n7_at2 n7_at3 n7_at4 n7_at5 n7_at6
theorem inB_lim (a b n : Int) (h1 : -1152921504606846976 ≤ a) (h2 : a ≤ b) (h3 : b ≤ 1152921504606846976) : inB a b n = decide (a ≤ n ∧ n ≤ b) := by
  have k1 : numB a = true := numB_true.2 (by omega)
  have k2 : numB b = true := numB_true.2 (by omega)
  have : chk a b = 0 := by unfold chk; simp [k1, k2]; omega
  unfold inB
  rw [this]
  by_cases q1 : a ≤ n <;> by_cases q2 : n ≤ b <;> simp [q1, q2]
set_option maxRecDepth 100000 in
set_option maxHeartbeats 4000000 in
theorem CheckStone_any (s : StoneR) (w : World) (hlim : LimAt w) : Calls Tryd.prog 47 #[s.val] w (Gives (.int .i64 (stoneE s)) w) := by
  obtain ⟨a, b, c, d, e, p, f, g⟩ := s
  have hl := hlim.lt
  have c0 := hlim.cell 0 (by decide)
  have c1 := hlim.cell 1 (by decide)
  have c2 := hlim.cell 2 (by decide)
  have c3 := hlim.cell 3 (by decide)
  have c4 := hlim.cell 4 (by decide)
  have c5 := hlim.cell 5 (by decide)
  have c6 := hlim.cell 6 (by decide)
  have c7 := hlim.cell 7 (by decide)
  have c8 := hlim.cell 8 (by decide)
  have c9 := hlim.cell 9 (by decide)
  have c10 := hlim.cell 10 (by decide)
  have c11 := hlim.cell 11 (by decide)
  have c12 := hlim.cell 12 (by decide)
  have c13 := hlim.cell 13 (by decide)
  simp only [limL, List.getD_cons_zero, List.getD_cons_succ] at c0 c1 c2 c3 c4 c5 c6 c7 c8 c9 c10 c11 c12 c13
  clear hlim
  have hE := Go.Lib.hid (show stoneE ⟨a, b, c, d, e, p, f, g⟩ = if (inB 1 1000 a && inB 1 9000 b && inB 0 1099511627776 c && inB 0 1000 d && inB 500 2000 e && inB 1 8000 f && inB 1 1000 g) = true then 0 else 2 by
    rw [inB_lim _ _ _ (by omega) (by omega) (by omega), inB_lim _ _ _ (by omega) (by omega) (by omega), inB_lim _ _ _ (by omega) (by omega) (by omega), inB_lim _ _ _ (by omega) (by omega) (by omega), inB_lim _ _ _ (by omega) (by omega) (by omega), inB_lim _ _ _ (by omega) (by omega) (by omega), inB_lim _ _ _ (by omega) (by omega) (by omega)]
    unfold stoneE stoneB
    simp only [Bool.and_eq_true, decide_eq_true_eq, and_assoc])
  generalize stoneE ⟨a, b, c, d, e, p, f, g⟩ = E at *
  unfold StoneR.val StoneR.vals
  have i0 := fun W => In_any 1 1000 a W
  have i1 := fun W => In_any 1 9000 b W
  have i2 := fun W => In_any 0 1099511627776 c W
  have i3 := fun W => In_any 0 1000 d W
  have i4 := fun W => In_any 500 2000 e W
  have i5 := fun W => In_any 1 8000 f W
  have i6 := fun W => In_any 1 1000 g W
  generalize inB 1 1000 a = k0 at *
  generalize inB 1 9000 b = k1 at *
  generalize inB 0 1099511627776 c = k2 at *
  generalize inB 0 1000 d = k3 at *
  generalize inB 500 2000 e = k4 at *
  generalize inB 1 8000 f = k5 at *
  generalize inB 1 1000 g = k6 at *
  go_enter Tryd.func47, Tryd.ntmps47
  go_wp2_with (first | ((first | with_reducible refine wrx2 ?_ | with_reducible refine wrx ?_); (repeat (first | go_big_quiet_step ((first | (go_at_call 66; with_reducible exact Calls.ext (numbersOf_any _ _ _ _ _ _ _ _ _)))) | quiet_step ((first | (go_at_call 66; with_reducible exact Calls.ext (numbersOf_any _ _ _ _ _ _ _ _ _)))))); refine wpQuiet_nil ?_; rintro _ ⟨yr, rfl⟩; have syr := Ext.size yr; (repeat (first | rw [World.size_alloc] at syr | rw [World.size_setCell] at syr | rw [World.size_drew] at syr))) | (go_at_call 66; (first | with_reducible refine (Calls.giv2 (numbersOf_any _ _ _ _ _ _ _ _ _)).mono ?_ | with_reducible refine (Calls.giv (numbersOf_any _ _ _ _ _ _ _ _ _)).mono ?_); rintro _ _ ⟨y1, rfl, rfl⟩; have sy1 := Ext.size y1; (repeat (first | rw [World.size_alloc] at sy1 | rw [World.size_setCell] at sy1 | rw [World.size_drew] at sy1))))
  refine wp_loop_rounds 8 ?_
  repeat any_goals (rw [rounds_succ]; go_wp2_with (first | ((first | with_reducible refine wrx2 ?_ | with_reducible refine wrx ?_); (repeat (first | go_big_quiet_step ((first | (go_at_call 67; with_reducible exact Calls.ext (i0 _)) | (go_at_call 67; with_reducible exact Calls.ext (i1 _)) | (go_at_call 67; with_reducible exact Calls.ext (i2 _)) | (go_at_call 67; with_reducible exact Calls.ext (i3 _)) | (go_at_call 67; with_reducible exact Calls.ext (i4 _)) | (go_at_call 67; with_reducible exact Calls.ext (i5 _)) | (go_at_call 67; with_reducible exact Calls.ext (i6 _)))) | quiet_step ((first | (go_at_call 67; with_reducible exact Calls.ext (i0 _)) | (go_at_call 67; with_reducible exact Calls.ext (i1 _)) | (go_at_call 67; with_reducible exact Calls.ext (i2 _)) | (go_at_call 67; with_reducible exact Calls.ext (i3 _)) | (go_at_call 67; with_reducible exact Calls.ext (i4 _)) | (go_at_call 67; with_reducible exact Calls.ext (i5 _)) | (go_at_call 67; with_reducible exact Calls.ext (i6 _)))))); refine wpQuiet_nil ?_; rintro _ ⟨yr, rfl⟩; have syr := Ext.size yr; (repeat (first | rw [World.size_alloc] at syr | rw [World.size_setCell] at syr | rw [World.size_drew] at syr))) | (go_at_call 67; (first | with_reducible refine (Calls.giv2 (i0 _)).mono ?_ | with_reducible refine (Calls.giv (i0 _)).mono ?_); rintro _ _ ⟨y1, rfl, rfl⟩; have sy1 := Ext.size y1; (repeat (first | rw [World.size_alloc] at sy1 | rw [World.size_setCell] at sy1 | rw [World.size_drew] at sy1))) | (go_at_call 67; (first | with_reducible refine (Calls.giv2 (i1 _)).mono ?_ | with_reducible refine (Calls.giv (i1 _)).mono ?_); rintro _ _ ⟨y2, rfl, rfl⟩; have sy2 := Ext.size y2; (repeat (first | rw [World.size_alloc] at sy2 | rw [World.size_setCell] at sy2 | rw [World.size_drew] at sy2))) | (go_at_call 67; (first | with_reducible refine (Calls.giv2 (i2 _)).mono ?_ | with_reducible refine (Calls.giv (i2 _)).mono ?_); rintro _ _ ⟨y3, rfl, rfl⟩; have sy3 := Ext.size y3; (repeat (first | rw [World.size_alloc] at sy3 | rw [World.size_setCell] at sy3 | rw [World.size_drew] at sy3))) | (go_at_call 67; (first | with_reducible refine (Calls.giv2 (i3 _)).mono ?_ | with_reducible refine (Calls.giv (i3 _)).mono ?_); rintro _ _ ⟨y4, rfl, rfl⟩; have sy4 := Ext.size y4; (repeat (first | rw [World.size_alloc] at sy4 | rw [World.size_setCell] at sy4 | rw [World.size_drew] at sy4))) | (go_at_call 67; (first | with_reducible refine (Calls.giv2 (i4 _)).mono ?_ | with_reducible refine (Calls.giv (i4 _)).mono ?_); rintro _ _ ⟨y5, rfl, rfl⟩; have sy5 := Ext.size y5; (repeat (first | rw [World.size_alloc] at sy5 | rw [World.size_setCell] at sy5 | rw [World.size_drew] at sy5))) | (go_at_call 67; (first | with_reducible refine (Calls.giv2 (i5 _)).mono ?_ | with_reducible refine (Calls.giv (i5 _)).mono ?_); rintro _ _ ⟨y6, rfl, rfl⟩; have sy6 := Ext.size y6; (repeat (first | rw [World.size_alloc] at sy6 | rw [World.size_setCell] at sy6 | rw [World.size_drew] at sy6))) | (go_at_call 67; (first | with_reducible refine (Calls.giv2 (i6 _)).mono ?_ | with_reducible refine (Calls.giv (i6 _)).mono ?_); rintro _ _ ⟨y7, rfl, rfl⟩; have sy7 := Ext.size y7; (repeat (first | rw [World.size_alloc] at sy7 | rw [World.size_setCell] at sy7 | rw [World.size_drew] at sy7)))))
  all_goals go_returns
  all_goals refine ⟨ret_int ?_, ?_⟩
  all_goals first
    | (refine (hE.out.trans (if_neg ?_)).symm; intro hc; simp only [Bool.and_eq_true] at hc; obtain ⟨⟨⟨⟨⟨⟨h0, h1⟩, h2⟩, h3⟩, h4⟩, h5⟩, h6⟩ := hc; subst h0 h1 h2 h3 h4 h5 h6; cases ‹(!true) = true›; done)
    | (refine (hE.out.trans (if_pos ?_)).symm; simp only [Bool.and_eq_true]; exact ⟨⟨⟨⟨⟨⟨by simpa using ‹(!k0) = false›, by simpa using ‹(!k1) = false›⟩, by simpa using ‹(!k2) = false›⟩, by simpa using ‹(!k3) = false›⟩, by simpa using ‹(!k4) = false›⟩, by simpa using ‹(!k5) = false›⟩, by simpa using ‹(!k6) = false›⟩; done)
    | ((repeat' (first | (with_reducible exact Below.refl _ _) | (with_reducible assumption) | (with_reducible refine Ext.below _ ?_ ?_) | (with_reducible refine Below.on ?_ (by with_reducible assumption) ?_) | (with_reducible refine Below.alloc ?_ ?_ _) | (with_reducible refine Below.drew ?_) | (with_reducible refine Below.setCell ?_ ?_ _) | (with_reducible exact Nat.le_refl _) | omega | (simp; done) | (simp [go_sem]; done) | (simp at *; omega))); done)
theorem mass_bounds {s : StoneR} (h : s.Ok) : (0 ≤ s.size * s.size ∧ s.size * s.size ≤ 1000000) ∧ (0 ≤ s.size * s.size * s.size ∧ s.size * s.size * s.size ≤ 1000000000) ∧ 0 ≤ s.size * s.size * s.size * s.dens ∧ s.size * s.size * s.size * s.dens ≤ 9000000000000 := by
  have a := h.size
  have d := h.dens
  have h1 := Int.mul_le_mul a.2 a.2 (by omega) (by omega)
  have h2 := Int.mul_nonneg (show 0 ≤ s.size by omega) (show 0 ≤ s.size by omega)
  have h3 := Int.mul_le_mul h1 a.2 (by omega) (by omega)
  have h4 := Int.mul_nonneg h2 (show 0 ≤ s.size by omega)
  have h5 := Int.mul_le_mul h3 d.2 (by omega) (by omega)
  have h6 := Int.mul_nonneg h4 (show 0 ≤ s.dens by omega)
  omega
set_option maxHeartbeats 2000000 in
theorem Mass_any (s : StoneR) (w : World) (hlim : LimAt w) : Calls Tryd.prog 21 #[s.val] w (Gives (.int .i64 (massI s)) w) := by
  have cs := fun (W : World) (y : LimAt W) => CheckStone_any s W y
  unfold massI
  cases hb : stoneB s
  · rw [show stoneE s = 2 by unfold stoneE; rw [hb]; rfl] at cs
    simp only [Bool.false_eq_true, if_false]
    unfold StoneR.val StoneR.vals at *
    clear hb
    go_enter Tryd.func21, Tryd.ntmps21
    go_wp2_with (first | ((first | with_reducible refine wrx2 ?_ | with_reducible refine wrx ?_); (repeat (first | go_big_quiet_step ((first | (go_at_call 47; with_reducible exact Calls.ext (cs _ (by repeat (first | exact hlim | (with_reducible refine LimAt.ext ?_ _) | (with_reducible refine LimAt.alloc ?_ _) | (with_reducible refine LimAt.drew ?_) | (with_reducible refine LimAt.rext ?_ (by omega) _) | (with_reducible refine LimAt.set ?_ (by omega) _))))))) | quiet_step ((first | (go_at_call 47; with_reducible exact Calls.ext (cs _ (by repeat (first | exact hlim | (with_reducible refine LimAt.ext ?_ _) | (with_reducible refine LimAt.alloc ?_ _) | (with_reducible refine LimAt.drew ?_) | (with_reducible refine LimAt.rext ?_ (by omega) _) | (with_reducible refine LimAt.set ?_ (by omega) _))))))))); refine wpQuiet_nil ?_; rintro _ ⟨yr, rfl⟩; have syr := Ext.size yr; (repeat (first | rw [World.size_alloc] at syr | rw [World.size_setCell] at syr | rw [World.size_drew] at syr))) | (go_at_call 47; (first | with_reducible refine (Calls.giv2 (cs _ (by repeat (first | exact hlim | (with_reducible refine LimAt.ext ?_ _) | (with_reducible refine LimAt.alloc ?_ _) | (with_reducible refine LimAt.drew ?_) | (with_reducible refine LimAt.rext ?_ (by omega) _) | (with_reducible refine LimAt.set ?_ (by omega) _))))).mono ?_ | with_reducible refine (Calls.giv (cs _ (by repeat (first | exact hlim | (with_reducible refine LimAt.ext ?_ _) | (with_reducible refine LimAt.alloc ?_ _) | (with_reducible refine LimAt.drew ?_) | (with_reducible refine LimAt.rext ?_ (by omega) _) | (with_reducible refine LimAt.set ?_ (by omega) _))))).mono ?_); rintro _ _ ⟨y1, rfl, rfl⟩; have sy1 := Ext.size y1; (repeat (first | rw [World.size_alloc] at sy1 | rw [World.size_setCell] at sy1 | rw [World.size_drew] at sy1))))
    go_returns
    refine ⟨rfl, ?_⟩
    repeat' (first | (with_reducible exact Below.refl _ _) | (with_reducible assumption) | (with_reducible refine Ext.below _ ?_ ?_) | (with_reducible refine Below.on ?_ (by with_reducible assumption) ?_) | (with_reducible refine Below.alloc ?_ ?_ _) | (with_reducible refine Below.drew ?_) | (with_reducible refine Below.setCell ?_ ?_ _) | (with_reducible exact Nat.le_refl _) | omega | (simp; done) | (simp [go_sem]; done) | (simp at *; omega))
  · rw [show stoneE s = 0 by unfold stoneE; rw [hb]; rfl] at cs
    obtain ⟨⟨b1, b2⟩, ⟨b3, b4⟩, b5, b6⟩ := mass_bounds (stoneB_ok.1 hb)
    simp only [if_true]
    unfold massV
    have q := Int.tdiv_eq_ediv_of_nonneg b5 (b := 1000)
    have r0 := Int.ediv_nonneg b5 (show (0 : Int) ≤ 1000 by decide)
    have r1 := Int.ediv_le_self 1000 b5
    unfold StoneR.val StoneR.vals at *
    clear hb
    obtain ⟨a, d, c, dd, e, p, f, g⟩ := s
    simp only at *
    have w4 : wrap64 ((wrap64 (wrap64 (wrap64 (a * a) * a) * d)).tdiv 1000) = a * a * a * d / 1000 := by
      rw [IntWalk.wrap64_in (a * a) (by omega), IntWalk.wrap64_in (a * a * a) (by omega), IntWalk.wrap64_in (a * a * a * d) (by omega), q]
      exact IntWalk.wrap64_in _ (by omega)
    replace w4 := Go.Lib.hid w4
    clear b1 b2 b3 b4 b5 b6 q r0 r1
    go_enter Tryd.func21, Tryd.ntmps21
    go_wp2_with (first | ((first | with_reducible refine wrx2 ?_ | with_reducible refine wrx ?_); (repeat (first | go_big_quiet_step ((first | (go_at_call 47; with_reducible exact Calls.ext (cs _ (by repeat (first | exact hlim | (with_reducible refine LimAt.ext ?_ _) | (with_reducible refine LimAt.alloc ?_ _) | (with_reducible refine LimAt.drew ?_) | (with_reducible refine LimAt.rext ?_ (by omega) _) | (with_reducible refine LimAt.set ?_ (by omega) _))))))) | quiet_step ((first | (go_at_call 47; with_reducible exact Calls.ext (cs _ (by repeat (first | exact hlim | (with_reducible refine LimAt.ext ?_ _) | (with_reducible refine LimAt.alloc ?_ _) | (with_reducible refine LimAt.drew ?_) | (with_reducible refine LimAt.rext ?_ (by omega) _) | (with_reducible refine LimAt.set ?_ (by omega) _))))))))); refine wpQuiet_nil ?_; rintro _ ⟨yr, rfl⟩; have syr := Ext.size yr; (repeat (first | rw [World.size_alloc] at syr | rw [World.size_setCell] at syr | rw [World.size_drew] at syr))) | (go_at_call 47; (first | with_reducible refine (Calls.giv2 (cs _ (by repeat (first | exact hlim | (with_reducible refine LimAt.ext ?_ _) | (with_reducible refine LimAt.alloc ?_ _) | (with_reducible refine LimAt.drew ?_) | (with_reducible refine LimAt.rext ?_ (by omega) _) | (with_reducible refine LimAt.set ?_ (by omega) _))))).mono ?_ | with_reducible refine (Calls.giv (cs _ (by repeat (first | exact hlim | (with_reducible refine LimAt.ext ?_ _) | (with_reducible refine LimAt.alloc ?_ _) | (with_reducible refine LimAt.drew ?_) | (with_reducible refine LimAt.rext ?_ (by omega) _) | (with_reducible refine LimAt.set ?_ (by omega) _))))).mono ?_); rintro _ _ ⟨y1, rfl, rfl⟩; have sy1 := Ext.size y1; (repeat (first | rw [World.size_alloc] at sy1 | rw [World.size_setCell] at sy1 | rw [World.size_drew] at sy1))))
    go_returns
    refine ⟨ret_int w4.out, ?_⟩
    repeat' (first | (with_reducible exact Below.refl _ _) | (with_reducible assumption) | (with_reducible refine Ext.below _ ?_ ?_) | (with_reducible refine Below.on ?_ (by with_reducible assumption) ?_) | (with_reducible refine Below.alloc ?_ ?_ _) | (with_reducible refine Below.drew ?_) | (with_reducible refine Below.setCell ?_ ?_ _) | (with_reducible exact Nat.le_refl _) | omega | (simp; done) | (simp [go_sem]; done) | (simp at *; omega))
theorem holds_bounds {s : StoneR} (h : s.Ok) : 0 ≤ s.strong * (1000 - s.spin) ∧ s.strong * (1000 - s.spin) ≤ 1099511627776000 := by
  have a := h.strong
  have d := h.spin
  have h1 := Int.mul_nonneg a.1 (show 0 ≤ 1000 - s.spin by omega)
  have h2 := Int.mul_le_mul a.2 (show 1000 - s.spin ≤ 1000 by omega) (by omega) (by omega)
  omega
set_option maxHeartbeats 2000000 in
theorem Holds_any (s : StoneR) (w : World) (hlim : LimAt w) : Calls Tryd.prog 22 #[s.val] w (Gives (.int .i64 (holdsI s)) w) := by
  have cs := fun (W : World) (y : LimAt W) => CheckStone_any s W y
  unfold holdsI
  cases hb : stoneB s
  · rw [show stoneE s = 2 by unfold stoneE; rw [hb]; rfl] at cs
    simp only [Bool.false_eq_true, if_false]
    unfold StoneR.val StoneR.vals at *
    clear hb
    go_enter Tryd.func22, Tryd.ntmps22
    go_wp2_with (first | ((first | with_reducible refine wrx2 ?_ | with_reducible refine wrx ?_); (repeat (first | go_big_quiet_step ((first | (go_at_call 47; with_reducible exact Calls.ext (cs _ (by repeat (first | exact hlim | (with_reducible refine LimAt.ext ?_ _) | (with_reducible refine LimAt.alloc ?_ _) | (with_reducible refine LimAt.drew ?_) | (with_reducible refine LimAt.rext ?_ (by omega) _) | (with_reducible refine LimAt.set ?_ (by omega) _))))))) | quiet_step ((first | (go_at_call 47; with_reducible exact Calls.ext (cs _ (by repeat (first | exact hlim | (with_reducible refine LimAt.ext ?_ _) | (with_reducible refine LimAt.alloc ?_ _) | (with_reducible refine LimAt.drew ?_) | (with_reducible refine LimAt.rext ?_ (by omega) _) | (with_reducible refine LimAt.set ?_ (by omega) _))))))))); refine wpQuiet_nil ?_; rintro _ ⟨yr, rfl⟩; have syr := Ext.size yr; (repeat (first | rw [World.size_alloc] at syr | rw [World.size_setCell] at syr | rw [World.size_drew] at syr))) | (go_at_call 47; (first | with_reducible refine (Calls.giv2 (cs _ (by repeat (first | exact hlim | (with_reducible refine LimAt.ext ?_ _) | (with_reducible refine LimAt.alloc ?_ _) | (with_reducible refine LimAt.drew ?_) | (with_reducible refine LimAt.rext ?_ (by omega) _) | (with_reducible refine LimAt.set ?_ (by omega) _))))).mono ?_ | with_reducible refine (Calls.giv (cs _ (by repeat (first | exact hlim | (with_reducible refine LimAt.ext ?_ _) | (with_reducible refine LimAt.alloc ?_ _) | (with_reducible refine LimAt.drew ?_) | (with_reducible refine LimAt.rext ?_ (by omega) _) | (with_reducible refine LimAt.set ?_ (by omega) _))))).mono ?_); rintro _ _ ⟨y1, rfl, rfl⟩; have sy1 := Ext.size y1; (repeat (first | rw [World.size_alloc] at sy1 | rw [World.size_setCell] at sy1 | rw [World.size_drew] at sy1))))
    go_returns
    refine ⟨rfl, ?_⟩
    repeat' (first | (with_reducible exact Below.refl _ _) | (with_reducible assumption) | (with_reducible refine Ext.below _ ?_ ?_) | (with_reducible refine Below.on ?_ (by with_reducible assumption) ?_) | (with_reducible refine Below.alloc ?_ ?_ _) | (with_reducible refine Below.drew ?_) | (with_reducible refine Below.setCell ?_ ?_ _) | (with_reducible exact Nat.le_refl _) | omega | (simp; done) | (simp [go_sem]; done) | (simp at *; omega))
  · rw [show stoneE s = 0 by unfold stoneE; rw [hb]; rfl] at cs
    obtain ⟨b1, b2⟩ := holds_bounds (stoneB_ok.1 hb)
    have b3 := (stoneB_ok.1 hb).spin
    simp only [if_true]
    unfold holdsV
    have q := Int.tdiv_eq_ediv_of_nonneg b1 (b := 1000)
    have r0 := Int.ediv_nonneg b1 (show (0 : Int) ≤ 1000 by decide)
    have r1 := Int.ediv_le_self 1000 b1
    unfold StoneR.val StoneR.vals at *
    clear hb
    obtain ⟨a, d, c, dd, e, p, f, g⟩ := s
    simp only at *
    obtain ⟨b4, b5⟩ := b3
    have w4 : wrap64 ((wrap64 (c * (1000 - dd))).tdiv 1000) = c * (1000 - dd) / 1000 := by
      rw [IntWalk.wrap64_in (c * (1000 - dd)) (by omega), q]
      exact IntWalk.wrap64_in _ (by omega)
    replace w4 := Go.Lib.hid w4
    clear b1 b2 q r0 r1
    cases p
    · simp only [Bool.false_eq_true, if_false]
      go_enter Tryd.func22, Tryd.ntmps22
      go_wp2_with (first | ((first | with_reducible refine wrx2 ?_ | with_reducible refine wrx ?_); (repeat (first | go_big_quiet_step ((first | (go_at_call 47; with_reducible exact Calls.ext (cs _ (by repeat (first | exact hlim | (with_reducible refine LimAt.ext ?_ _) | (with_reducible refine LimAt.alloc ?_ _) | (with_reducible refine LimAt.drew ?_) | (with_reducible refine LimAt.rext ?_ (by omega) _) | (with_reducible refine LimAt.set ?_ (by omega) _))))))) | quiet_step ((first | (go_at_call 47; with_reducible exact Calls.ext (cs _ (by repeat (first | exact hlim | (with_reducible refine LimAt.ext ?_ _) | (with_reducible refine LimAt.alloc ?_ _) | (with_reducible refine LimAt.drew ?_) | (with_reducible refine LimAt.rext ?_ (by omega) _) | (with_reducible refine LimAt.set ?_ (by omega) _))))))))); refine wpQuiet_nil ?_; rintro _ ⟨yr, rfl⟩; have syr := Ext.size yr; (repeat (first | rw [World.size_alloc] at syr | rw [World.size_setCell] at syr | rw [World.size_drew] at syr))) | (go_at_call 47; (first | with_reducible refine (Calls.giv2 (cs _ (by repeat (first | exact hlim | (with_reducible refine LimAt.ext ?_ _) | (with_reducible refine LimAt.alloc ?_ _) | (with_reducible refine LimAt.drew ?_) | (with_reducible refine LimAt.rext ?_ (by omega) _) | (with_reducible refine LimAt.set ?_ (by omega) _))))).mono ?_ | with_reducible refine (Calls.giv (cs _ (by repeat (first | exact hlim | (with_reducible refine LimAt.ext ?_ _) | (with_reducible refine LimAt.alloc ?_ _) | (with_reducible refine LimAt.drew ?_) | (with_reducible refine LimAt.rext ?_ (by omega) _) | (with_reducible refine LimAt.set ?_ (by omega) _))))).mono ?_); rintro _ _ ⟨y1, rfl, rfl⟩; have sy1 := Ext.size y1; (repeat (first | rw [World.size_alloc] at sy1 | rw [World.size_setCell] at sy1 | rw [World.size_drew] at sy1))))
      go_returns
      refine ⟨rfl, ?_⟩
      repeat' (first | (with_reducible exact Below.refl _ _) | (with_reducible assumption) | (with_reducible refine Ext.below _ ?_ ?_) | (with_reducible refine Below.on ?_ (by with_reducible assumption) ?_) | (with_reducible refine Below.alloc ?_ ?_ _) | (with_reducible refine Below.drew ?_) | (with_reducible refine Below.setCell ?_ ?_ _) | (with_reducible exact Nat.le_refl _) | omega | (simp; done) | (simp [go_sem]; done) | (simp at *; omega))
    · simp only [if_true]
      go_enter Tryd.func22, Tryd.ntmps22
      go_wp2_with (first | ((first | with_reducible refine wrx2 ?_ | with_reducible refine wrx ?_); (repeat (first | go_big_quiet_step ((first | (go_at_call 47; with_reducible exact Calls.ext (cs _ (by repeat (first | exact hlim | (with_reducible refine LimAt.ext ?_ _) | (with_reducible refine LimAt.alloc ?_ _) | (with_reducible refine LimAt.drew ?_) | (with_reducible refine LimAt.rext ?_ (by omega) _) | (with_reducible refine LimAt.set ?_ (by omega) _))))))) | quiet_step ((first | (go_at_call 47; with_reducible exact Calls.ext (cs _ (by repeat (first | exact hlim | (with_reducible refine LimAt.ext ?_ _) | (with_reducible refine LimAt.alloc ?_ _) | (with_reducible refine LimAt.drew ?_) | (with_reducible refine LimAt.rext ?_ (by omega) _) | (with_reducible refine LimAt.set ?_ (by omega) _))))))))); refine wpQuiet_nil ?_; rintro _ ⟨yr, rfl⟩; have syr := Ext.size yr; (repeat (first | rw [World.size_alloc] at syr | rw [World.size_setCell] at syr | rw [World.size_drew] at syr))) | (go_at_call 47; (first | with_reducible refine (Calls.giv2 (cs _ (by repeat (first | exact hlim | (with_reducible refine LimAt.ext ?_ _) | (with_reducible refine LimAt.alloc ?_ _) | (with_reducible refine LimAt.drew ?_) | (with_reducible refine LimAt.rext ?_ (by omega) _) | (with_reducible refine LimAt.set ?_ (by omega) _))))).mono ?_ | with_reducible refine (Calls.giv (cs _ (by repeat (first | exact hlim | (with_reducible refine LimAt.ext ?_ _) | (with_reducible refine LimAt.alloc ?_ _) | (with_reducible refine LimAt.drew ?_) | (with_reducible refine LimAt.rext ?_ (by omega) _) | (with_reducible refine LimAt.set ?_ (by omega) _))))).mono ?_); rintro _ _ ⟨y1, rfl, rfl⟩; have sy1 := Ext.size y1; (repeat (first | rw [World.size_alloc] at sy1 | rw [World.size_setCell] at sy1 | rw [World.size_drew] at sy1))))
      go_returns
      refine ⟨ret_int w4.out, ?_⟩
      repeat' (first | (with_reducible exact Below.refl _ _) | (with_reducible assumption) | (with_reducible refine Ext.below _ ?_ ?_) | (with_reducible refine Below.on ?_ (by with_reducible assumption) ?_) | (with_reducible refine Below.alloc ?_ ?_ _) | (with_reducible refine Below.drew ?_) | (with_reducible refine Below.setCell ?_ ?_ _) | (with_reducible exact Nat.le_refl _) | omega | (simp; done) | (simp [go_sem]; done) | (simp at *; omega))
end Go.Proofs.YtlmhbggigbmeaaaDoor

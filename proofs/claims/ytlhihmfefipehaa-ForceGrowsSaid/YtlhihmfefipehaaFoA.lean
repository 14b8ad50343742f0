/- The small functions of package force: known, only, placeAlone, limited, quotient. No condition. -/
import Derived.Test.YtlhihmfefipehaaMulDiv
namespace Go.Proofs.Ytlhihmfefipehaa
open Go.RowKit Go.Shelf
attribute [local go_sem] Option.isSome_some Ext.cell Ext.frozen Ext.lt Ext.le Ext.lt_add Ext.le_add Ext.ne Ext.ne' lt2 lt3 lt4 lt5 le2 le3 le4
theorem known_any (a b e : Int) (w : World) : Calls Try.prog 53 #[.agg #[.int .i64 a, .int .i64 b], .int .i64 e] w (Gives (.agg #[.int .i64 a, .int .i64 b]) w) := by
  go_enter Try.func53, Try.ntmps53
  go_wp2_with (first | ((first | with_reducible refine wrx2 ?_ | with_reducible refine wrx ?_); (repeat (first | go_big_quiet_step ((first | fail)) | quiet_step ((first | fail)))); refine wpQuiet_nil ?_; rintro _ ⟨yr, rfl⟩; have syr := Ext.size yr; (repeat (first | rw [World.size_alloc] at syr | rw [World.size_setCell] at syr | rw [World.size_drew] at syr))))
  refine bodyPost_ret (v := .agg #[.int .i64 a, .int .i64 b]) (by simp (maxDischargeDepth := 9) [results, Try.results53, go_sem]) rfl ?_
  refine ⟨rfl, ?_⟩
  repeat' (first | (with_reducible exact Below.refl _ _) | (with_reducible assumption) | (with_reducible refine Ext.below _ ?_ ?_) | (with_reducible refine Below.on ?_ (by with_reducible assumption) ?_) | (with_reducible refine Below.alloc ?_ ?_ _) | (with_reducible refine Below.drew ?_) | (with_reducible refine Below.setCell ?_ ?_ _) | (with_reducible exact Nat.le_refl _) | omega | (simp; done) | (simp [go_sem]; done) | (simp at *; omega))
theorem only_any (n : Int) (w : World) : Calls Try.prog 51 #[.int .i64 n] w (Gives (.agg #[.int .i64 n, .int .i64 n]) w) := by
  go_enter Try.func51, Try.ntmps51
  go_wp2_with (first | ((first | with_reducible refine wrx2 ?_ | with_reducible refine wrx ?_); (repeat (first | go_big_quiet_step ((first | fail)) | quiet_step ((first | fail)))); refine wpQuiet_nil ?_; rintro _ ⟨yr, rfl⟩; have syr := Ext.size yr; (repeat (first | rw [World.size_alloc] at syr | rw [World.size_setCell] at syr | rw [World.size_drew] at syr))))
  refine bodyPost_ret (v := .agg #[.int .i64 n, .int .i64 n]) (by simp (maxDischargeDepth := 9) [results, Try.results51, go_sem]) rfl ?_
  refine ⟨rfl, ?_⟩
  repeat' (first | (with_reducible exact Below.refl _ _) | (with_reducible assumption) | (with_reducible refine Ext.below _ ?_ ?_) | (with_reducible refine Below.on ?_ (by with_reducible assumption) ?_) | (with_reducible refine Below.alloc ?_ ?_ _) | (with_reducible refine Below.drew ?_) | (with_reducible refine Below.setCell ?_ ?_ _) | (with_reducible exact Nat.le_refl _) | omega | (simp; done) | (simp [go_sem]; done) | (simp at *; omega))
def limI (n : Int) : Int := min (max n (-1048576)) 1048576
theorem limited_any (n : Int) (w : World) : Calls Try.prog 98 #[.int .i64 n] w (Gives (.int .i64 (limI n)) w) := by
  obtain ⟨M, hM⟩ : ∃ M, max n (-1048576) = M := ⟨_, rfl⟩
  obtain ⟨L, hL⟩ : ∃ L, min M 1048576 = L := ⟨_, rfl⟩
  unfold limI
  rw [hM, hL]
  go_enter Try.func98, Try.ntmps98
  go_wp2_with (first | ((first | with_reducible refine wrx2 ?_ | with_reducible refine wrx ?_); (repeat (first | go_big_quiet_step ((first | fail)) | quiet_step ((first | fail)))); refine wpQuiet_nil ?_; rintro _ ⟨yr, rfl⟩; have syr := Ext.size yr; (repeat (first | rw [World.size_alloc] at syr | rw [World.size_setCell] at syr | rw [World.size_drew] at syr))))
  go_returns
  refine ⟨rfl, ?_⟩
  repeat' (first | (with_reducible exact Below.refl _ _) | (with_reducible assumption) | (with_reducible refine Ext.below _ ?_ ?_) | (with_reducible refine Below.on ?_ (by with_reducible assumption) ?_) | (with_reducible refine Below.alloc ?_ ?_ _) | (with_reducible refine Below.drew ?_) | (with_reducible refine Below.setCell ?_ ?_ _) | (with_reducible exact Nat.le_refl _) | omega | (simp; done) | (simp [go_sem]; done) | (simp at *; omega))
/-- Mu times x, divided by q, rounded down and up. -/
def qtL (mu x q : Int) : Int := if mdE mu x q = 0 then mdL mu x q else if x < 0 then -1152921504606846976 else 1152921504606846976
def qtH (mu x q : Int) : Int := if mdE mu x q = 0 then mdH mu x q else if x < 0 then -1152921504606846976 else 1152921504606846976
set_option maxRecDepth 100000 in
set_option maxHeartbeats 4000000 in
theorem quotient_f (mu x q : Int) (w : World) (h1 : I64 mu) (h2 : I64 x) : Calls Try.prog 111 #[.int .i64 mu, .int .i64 x, .int .i64 q] w (Gives (.agg #[.int .i64 (qtL mu x q), .int .i64 (qtH mu x q)]) w) := by
  have cm := fun W => MulDiv_any mu x q W h1 h2
  have co1 := fun W => only_any (-1152921504606846976) W
  have co2 := fun W => only_any 1152921504606846976 W
  unfold qtL qtH
  generalize mdL mu x q = A at *
  generalize mdH mu x q = B at *
  generalize mdE mu x q = E at *
  by_cases hE : E = 0
  · rw [if_pos hE, if_pos hE]
    subst hE
    go_enter Try.func111, Try.ntmps111
    go_wp2_with (first | ((first | with_reducible refine wrx2 ?_ | with_reducible refine wrx ?_); (repeat (first | go_big_quiet_step ((first | (go_at_call 116; with_reducible exact Calls.ext (cm _)) | (go_at_call 51; with_reducible exact Calls.ext (co1 _)) | (go_at_call 51; with_reducible exact Calls.ext (co2 _)))) | quiet_step ((first | (go_at_call 116; with_reducible exact Calls.ext (cm _)) | (go_at_call 51; with_reducible exact Calls.ext (co1 _)) | (go_at_call 51; with_reducible exact Calls.ext (co2 _)))))); refine wpQuiet_nil ?_; rintro _ ⟨yr, rfl⟩; have syr := Ext.size yr; (repeat (first | rw [World.size_alloc] at syr | rw [World.size_setCell] at syr | rw [World.size_drew] at syr))) | (go_at_call 116; (first | with_reducible refine (Calls.giv2 (cm _)).mono ?_ | with_reducible refine (Calls.giv (cm _)).mono ?_); rintro _ _ ⟨y1, rfl, rfl⟩; have sy1 := Ext.size y1; (repeat (first | rw [World.size_alloc] at sy1 | rw [World.size_setCell] at sy1 | rw [World.size_drew] at sy1))) | (go_at_call 51; (first | with_reducible refine (Calls.giv2 (co1 _)).mono ?_ | with_reducible refine (Calls.giv (co1 _)).mono ?_); rintro _ _ ⟨y2, rfl, rfl⟩; have sy2 := Ext.size y2; (repeat (first | rw [World.size_alloc] at sy2 | rw [World.size_setCell] at sy2 | rw [World.size_drew] at sy2))) | (go_at_call 51; (first | with_reducible refine (Calls.giv2 (co2 _)).mono ?_ | with_reducible refine (Calls.giv (co2 _)).mono ?_); rintro _ _ ⟨y3, rfl, rfl⟩; have sy3 := Ext.size y3; (repeat (first | rw [World.size_alloc] at sy3 | rw [World.size_setCell] at sy3 | rw [World.size_drew] at sy3))))
    refine bodyPost_ret (v := .agg #[.int .i64 A, .int .i64 B]) (by simp (maxDischargeDepth := 9) [results, Try.results111, go_sem]) rfl ?_
    refine ⟨rfl, ?_⟩
    repeat' (first | (with_reducible exact Below.refl _ _) | (with_reducible assumption) | (with_reducible refine Ext.below _ ?_ ?_) | (with_reducible refine Below.on ?_ (by with_reducible assumption) ?_) | (with_reducible refine Below.alloc ?_ ?_ _) | (with_reducible refine Below.drew ?_) | (with_reducible refine Below.setCell ?_ ?_ _) | (with_reducible exact Nat.le_refl _) | omega | (simp; done) | (simp [go_sem]; done) | (simp at *; omega))
  · rw [if_neg hE, if_neg hE]
    by_cases hx : x < 0
    · rw [if_pos hx]
      go_enter Try.func111, Try.ntmps111
      go_wp2_with (first | ((first | with_reducible refine wrx2 ?_ | with_reducible refine wrx ?_); (repeat (first | go_big_quiet_step ((first | (go_at_call 116; with_reducible exact Calls.ext (cm _)) | (go_at_call 51; with_reducible exact Calls.ext (co1 _)) | (go_at_call 51; with_reducible exact Calls.ext (co2 _)))) | quiet_step ((first | (go_at_call 116; with_reducible exact Calls.ext (cm _)) | (go_at_call 51; with_reducible exact Calls.ext (co1 _)) | (go_at_call 51; with_reducible exact Calls.ext (co2 _)))))); refine wpQuiet_nil ?_; rintro _ ⟨yr, rfl⟩; have syr := Ext.size yr; (repeat (first | rw [World.size_alloc] at syr | rw [World.size_setCell] at syr | rw [World.size_drew] at syr))) | (go_at_call 116; (first | with_reducible refine (Calls.giv2 (cm _)).mono ?_ | with_reducible refine (Calls.giv (cm _)).mono ?_); rintro _ _ ⟨y1, rfl, rfl⟩; have sy1 := Ext.size y1; (repeat (first | rw [World.size_alloc] at sy1 | rw [World.size_setCell] at sy1 | rw [World.size_drew] at sy1))) | (go_at_call 51; (first | with_reducible refine (Calls.giv2 (co1 _)).mono ?_ | with_reducible refine (Calls.giv (co1 _)).mono ?_); rintro _ _ ⟨y2, rfl, rfl⟩; have sy2 := Ext.size y2; (repeat (first | rw [World.size_alloc] at sy2 | rw [World.size_setCell] at sy2 | rw [World.size_drew] at sy2))) | (go_at_call 51; (first | with_reducible refine (Calls.giv2 (co2 _)).mono ?_ | with_reducible refine (Calls.giv (co2 _)).mono ?_); rintro _ _ ⟨y3, rfl, rfl⟩; have sy3 := Ext.size y3; (repeat (first | rw [World.size_alloc] at sy3 | rw [World.size_setCell] at sy3 | rw [World.size_drew] at sy3))))
      refine bodyPost_ret (v := .agg #[.int .i64 (-1152921504606846976), .int .i64 (-1152921504606846976)]) (by simp (maxDischargeDepth := 9) [results, Try.results111, go_sem]) rfl ?_
      refine ⟨rfl, ?_⟩
      repeat' (first | (with_reducible exact Below.refl _ _) | (with_reducible assumption) | (with_reducible refine Ext.below _ ?_ ?_) | (with_reducible refine Below.on ?_ (by with_reducible assumption) ?_) | (with_reducible refine Below.alloc ?_ ?_ _) | (with_reducible refine Below.drew ?_) | (with_reducible refine Below.setCell ?_ ?_ _) | (with_reducible exact Nat.le_refl _) | omega | (simp; done) | (simp [go_sem]; done) | (simp at *; omega))
    · rw [if_neg hx]
      go_enter Try.func111, Try.ntmps111
      go_wp2_with (first | ((first | with_reducible refine wrx2 ?_ | with_reducible refine wrx ?_); (repeat (first | go_big_quiet_step ((first | (go_at_call 116; with_reducible exact Calls.ext (cm _)) | (go_at_call 51; with_reducible exact Calls.ext (co1 _)) | (go_at_call 51; with_reducible exact Calls.ext (co2 _)))) | quiet_step ((first | (go_at_call 116; with_reducible exact Calls.ext (cm _)) | (go_at_call 51; with_reducible exact Calls.ext (co1 _)) | (go_at_call 51; with_reducible exact Calls.ext (co2 _)))))); refine wpQuiet_nil ?_; rintro _ ⟨yr, rfl⟩; have syr := Ext.size yr; (repeat (first | rw [World.size_alloc] at syr | rw [World.size_setCell] at syr | rw [World.size_drew] at syr))) | (go_at_call 116; (first | with_reducible refine (Calls.giv2 (cm _)).mono ?_ | with_reducible refine (Calls.giv (cm _)).mono ?_); rintro _ _ ⟨y1, rfl, rfl⟩; have sy1 := Ext.size y1; (repeat (first | rw [World.size_alloc] at sy1 | rw [World.size_setCell] at sy1 | rw [World.size_drew] at sy1))) | (go_at_call 51; (first | with_reducible refine (Calls.giv2 (co1 _)).mono ?_ | with_reducible refine (Calls.giv (co1 _)).mono ?_); rintro _ _ ⟨y2, rfl, rfl⟩; have sy2 := Ext.size y2; (repeat (first | rw [World.size_alloc] at sy2 | rw [World.size_setCell] at sy2 | rw [World.size_drew] at sy2))) | (go_at_call 51; (first | with_reducible refine (Calls.giv2 (co2 _)).mono ?_ | with_reducible refine (Calls.giv (co2 _)).mono ?_); rintro _ _ ⟨y3, rfl, rfl⟩; have sy3 := Ext.size y3; (repeat (first | rw [World.size_alloc] at sy3 | rw [World.size_setCell] at sy3 | rw [World.size_drew] at sy3))))
      refine bodyPost_ret (v := .agg #[.int .i64 1152921504606846976, .int .i64 1152921504606846976]) (by simp (maxDischargeDepth := 9) [results, Try.results111, go_sem]) rfl ?_
      refine ⟨rfl, ?_⟩
      repeat' (first | (with_reducible exact Below.refl _ _) | (with_reducible assumption) | (with_reducible refine Ext.below _ ?_ ?_) | (with_reducible refine Below.on ?_ (by with_reducible assumption) ?_) | (with_reducible refine Below.alloc ?_ ?_ _) | (with_reducible refine Below.drew ?_) | (with_reducible refine Below.setCell ?_ ?_ _) | (with_reducible exact Nat.le_refl _) | omega | (simp; done) | (simp [go_sem]; done) | (simp at *; omega))
end Go.Proofs.Ytlhihmfefipehaa

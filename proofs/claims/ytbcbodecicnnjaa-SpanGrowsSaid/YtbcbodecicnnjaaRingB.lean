/- Contracts of NewRing, InSpan and Wider. Condition: small numbers. -/
import Derived.Test.YtbcbodecicnnjaaRing
import Derived.WalkLawsBesides
namespace Go.Proofs.Ytbcbodecicnnjaa
open Go.RowKit Go.Shelf
attribute [local go_sem] Ext.cell Ext.frozen Ext.lt Ext.le Ext.lt_add Ext.le_add Ext.ne Ext.ne' lt2 lt3 lt4 lt5 le2 le3 le4
/-- The numbers of a list that came in. -/
structure ListIn (w : World) (p : Option Addr) (len : Nat) (z : Nat → Int) : Prop where
  long : len < 9223372036854775808
  some : len ≠ 0 → ∃ B o, p = some ⟨B, o, none⟩ ∧ B < w.heap.size ∧ ∀ i, i < len → w.cell? ⟨B, o + i, none⟩ = some (.int .i64 (z i)) ∧ I64 (z i)
theorem NewRing_any (p : Option Addr) (len cap : Nat) (w : World) :
    Calls Try.prog 19 #[.slice p len cap] w fun e w' => e = .returned (.pointer (some ⟨w.heap.size, 0, none⟩)) ∧ w' = w.alloc (.cells #[.slice p len cap, .int .i64 0] 79) := by
  go_enter Try.func19, Try.ntmps19
  go_wp2_with (first | ((first | with_reducible refine wp_region_ext2 (by kernel_rfl) (by kernel_rfl) ?_ | with_reducible refine wp_region_ext (by kernel_rfl) (by kernel_rfl) ?_); (repeat (first | go_big_quiet_step ((first | fail)) | quiet_step ((first | fail)))); refine wpQuiet_nil ?_; rintro _ ⟨yr, rfl⟩; have syr := Ext.size yr; (repeat (first | rw [World.size_alloc] at syr | rw [World.size_setCell] at syr | rw [World.size_drew] at syr))))
  go_returns
  exact ⟨rfl, rfl⟩
theorem NewRing_r (p : Option Addr) (len cap : Nat) (z : Nat → Int) (w : World) (h : ListIn w p len z) :
    Calls Try.prog 19 #[.slice p len cap] w (fun e w' => ∃ x : Ext w, e = .returned (.pointer (some ⟨w.heap.size, 0, none⟩)) ∧ w' = x.now ∧ w.heap.size < x.now.heap.size ∧ RingAt x.now w.heap.size p len cap z 0) := by
  refine (NewRing_any p len cap w).mono ?_
  rintro e w' ⟨rfl, rfl⟩
  refine ⟨⟨_, (Below.refl _ _).alloc (Nat.le_refl _) _⟩, rfl, rfl, by simp, ?_⟩
  refine ⟨by simp [go_sem], by simp [go_sem], by simp [go_sem], h.long, fun h0 => ?_⟩
  obtain ⟨B, o, hp, hB, hi⟩ := h.some h0
  exact ⟨B, o, hp, hB, fun i hi' => ⟨by have := (hi i hi').1; simp [go_sem, this, hB], (hi i hi').2⟩⟩
theorem InSpan_any (lo hi n : Int) (w : World) (hn : I64 n) (h1 : -1000000000000 ≤ lo) (h2 : lo ≤ hi) (h3 : hi ≤ 1000000000000) :
    Calls Try.prog 34 #[.agg #[.int .i64 lo, .int .i64 hi], .int .i64 n] w (Gives (.int .i64 (lo + n % (hi - lo + 1))) w) := by
  have M := Go.Lib.hid (fun W => Mod64_any n (hi - lo + 1) W hn (by omega) (by omega))
  have b1 := Int.emod_nonneg n (b := hi - lo + 1) (by omega)
  have b2 := Int.emod_lt_of_pos n (b := hi - lo + 1) (by omega)
  generalize n % (hi - lo + 1) = x at *
  unfold I64 at hn
  obtain ⟨hn, hn'⟩ := hn
  go_enter Try.func34, Try.ntmps34
  go_wp2_with (first | ((first | with_reducible refine wp_region_ext2 (by kernel_rfl) (by kernel_rfl) ?_ | with_reducible refine wp_region_ext (by kernel_rfl) (by kernel_rfl) ?_); (repeat (first | go_big_quiet_step ((first | (go_at_call 15; with_reducible exact Calls.ext (M.out _)))) | quiet_step ((first | (go_at_call 15; with_reducible exact Calls.ext (M.out _)))))); refine wpQuiet_nil ?_; rintro _ ⟨yr, rfl⟩; have syr := Ext.size yr; (repeat (first | rw [World.size_alloc] at syr | rw [World.size_setCell] at syr | rw [World.size_drew] at syr))) | (go_at_call 15; (first | with_reducible refine (Calls.giv2 (M.out _)).mono ?_ | with_reducible refine (Calls.giv (M.out _)).mono ?_); rintro _ _ ⟨y1, rfl, rfl⟩; have sy1 := Ext.size y1; (repeat (first | rw [World.size_alloc] at sy1 | rw [World.size_setCell] at sy1 | rw [World.size_drew] at sy1))))
  go_returns
  refine ⟨rfl, ?_⟩
  repeat' (first | (with_reducible exact Below.refl _ _) | (with_reducible assumption) | (with_reducible refine Ext.below _ ?_ ?_) | (with_reducible refine Below.on ?_ (by with_reducible assumption) ?_) | (with_reducible refine Below.alloc ?_ ?_ _) | (with_reducible refine Below.drew ?_) | (with_reducible refine Below.setCell ?_ ?_ _) | (with_reducible exact Nat.le_refl _) | omega | (simp; done) | (simp [go_sem]; done) | (simp at *; omega))
def widL (lo by' most : Int) : Int := max (-most) (lo - by' % 50)
def widH (hi by' most : Int) : Int := min most (hi + by' % 70)
theorem Wider_any (lo hi n most : Int) (w : World) (hn : I64 n) (h1 : -1000000000000 ≤ lo) (h2 : lo ≤ hi) (h3 : hi ≤ 1000000000000) (h4 : 0 ≤ most) (h5 : most ≤ 1000000000000) :
    Calls Try.prog 40 #[.agg #[.int .i64 lo, .int .i64 hi], .int .i64 n, .int .i64 most] w (Gives (.agg #[.int .i64 (widL lo n most), .int .i64 (widH hi n most)]) w) := by
  have M := Go.Lib.hid (fun W => Mod64_any n 50 W hn (by omega) (by omega))
  have M2 := Go.Lib.hid (fun W => Mod64_any n 70 W hn (by omega) (by omega))
  have b1 := Int.emod_nonneg n (b := 50) (by omega)
  have b2 := Int.emod_lt_of_pos n (b := 50) (by omega)
  have b3 := Int.emod_nonneg n (b := 70) (by omega)
  have b4 := Int.emod_lt_of_pos n (b := 70) (by omega)
  unfold widL widH
  generalize n % 50 = x at *
  generalize n % 70 = y at *
  unfold I64 at hn
  obtain ⟨hn, hn'⟩ := hn
  go_enter Try.func40, Try.ntmps40
  go_wp2_with (first | ((first | with_reducible refine wp_region_ext2 (by kernel_rfl) (by kernel_rfl) ?_ | with_reducible refine wp_region_ext (by kernel_rfl) (by kernel_rfl) ?_); (repeat (first | go_big_quiet_step ((first | fail)) | quiet_step ((first | fail)))); refine wpQuiet_nil ?_; rintro _ ⟨yr, rfl⟩; have syr := Ext.size yr; (repeat (first | rw [World.size_alloc] at syr | rw [World.size_setCell] at syr | rw [World.size_drew] at syr))))
  (first | with_reducible refine wp_region_ext2_heads 16 (by kernel_rfl) (by kernel_rfl) ?_ | with_reducible refine wp_region_ext_heads 16 (by kernel_rfl) (by kernel_rfl) ?_); simp only [List.take_succ_cons, List.take_zero, List.length_cons, List.length_nil, Nat.reduceAdd, Nat.reduceSub]; (repeat (first | go_big_quiet_step ((first | (go_at_call 15; with_reducible exact Calls.ext (M.out _)) | (go_at_call 15; with_reducible exact Calls.ext (M2.out _)))) | quiet_step ((first | (go_at_call 15; with_reducible exact Calls.ext (M.out _)) | (go_at_call 15; with_reducible exact Calls.ext (M2.out _)))))); refine wpQuiet_nil ?_; rintro _ ⟨yr, rfl⟩; have syr := Ext.size yr; (repeat (first | rw [World.size_alloc] at syr | rw [World.size_setCell] at syr | rw [World.size_drew] at syr)); (refine wpAny_ready (rs := [16]) (by kernel_rfl) (by simp) ?_; refine AllReady.cons rfl (fun K hK => ?_) AllReady.nil; go_simp; refine hK _ _ ?_; clear hK K); refine wpAny_done (by kernel_rfl) ?_ _
  go_wp2_with (first | ((first | with_reducible refine wp_region_ext2 (by kernel_rfl) (by kernel_rfl) ?_ | with_reducible refine wp_region_ext (by kernel_rfl) (by kernel_rfl) ?_); (repeat (first | go_big_quiet_step ((first | fail)) | quiet_step ((first | fail)))); refine wpQuiet_nil ?_; rintro _ ⟨yr, rfl⟩; have syr := Ext.size yr; (repeat (first | rw [World.size_alloc] at syr | rw [World.size_setCell] at syr | rw [World.size_drew] at syr))))
  go_returns
  refine ⟨rfl, ?_⟩
  repeat' (first | (with_reducible exact Below.refl _ _) | (with_reducible assumption) | (with_reducible refine Ext.below _ ?_ ?_) | (with_reducible refine Below.on ?_ (by with_reducible assumption) ?_) | (with_reducible refine Below.alloc ?_ ?_ _) | (with_reducible refine Below.drew ?_) | (with_reducible refine Below.setCell ?_ ?_ _) | (with_reducible exact Nat.le_refl _) | omega | (simp; done) | (simp [go_sem]; done) | (simp at *; omega))
end Go.Proofs.Ytbcbodecicnnjaa

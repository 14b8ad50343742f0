/- Contract of NewRing. No condition. -/
import Derived.Test.YtpiacndnjehbiaaDoorRing
import Derived.WalkLawsBesides
namespace Go.Proofs.YtpiacndnjehbiaaDoor
open Go.RowKit Go.Shelf
attribute [local go_sem] Ext.cell Ext.frozen Ext.lt Ext.le Ext.lt_add Ext.le_add Ext.ne Ext.ne' lt2 lt3 lt4 lt5 le2 le3 le4
/-- The numbers of a list that came in. -/
structure ListIn (w : World) (p : Option Addr) (len : Nat) (z : Nat → Int) : Prop where
  long : len < 9223372036854775808
  some : len ≠ 0 → ∃ B o, p = some ⟨B, o, none⟩ ∧ B < w.heap.size ∧ ∀ i, i < len → w.cell? ⟨B, o + i, none⟩ = some (.int .i64 (z i)) ∧ I64 (z i)
theorem NewRing_any (p : Option Addr) (len cap : Nat) (w : World) :
    Calls Tryd.prog 8 #[.slice p len cap] w fun e w' => e = .returned (.pointer (some ⟨w.heap.size, 0, none⟩)) ∧ w' = w.alloc (.cells #[.slice p len cap, .int .i64 0] 79) := by
  go_enter Tryd.func8, Tryd.ntmps8
  go_wp2_with (first | ((first | with_reducible refine wp_region_ext2 (by kernel_rfl) (by kernel_rfl) ?_ | with_reducible refine wp_region_ext (by kernel_rfl) (by kernel_rfl) ?_); (repeat (first | go_big_quiet_step ((first | fail)) | quiet_step ((first | fail)))); refine wpQuiet_nil ?_; rintro _ ⟨yr, rfl⟩; have syr := Ext.size yr; (repeat (first | rw [World.size_alloc] at syr | rw [World.size_setCell] at syr | rw [World.size_drew] at syr))))
  go_returns
  exact ⟨rfl, rfl⟩
theorem NewRing_r (p : Option Addr) (len cap : Nat) (z : Nat → Int) (w : World) (h : ListIn w p len z) :
    Calls Tryd.prog 8 #[.slice p len cap] w (fun e w' => ∃ x : Ext w, e = .returned (.pointer (some ⟨w.heap.size, 0, none⟩)) ∧ w' = x.now ∧ w.heap.size < x.now.heap.size ∧ RingAt x.now w.heap.size p len cap z 0) := by
  refine (NewRing_any p len cap w).mono ?_
  rintro e w' ⟨rfl, rfl⟩
  refine ⟨⟨_, (Below.refl _ _).alloc (Nat.le_refl _) _⟩, rfl, rfl, by simp, ?_⟩
  refine ⟨by simp [go_sem], by simp [go_sem], by simp [go_sem], h.long, fun h0 => ?_⟩
  obtain ⟨B, o, hp, hB, hi⟩ := h.some h0
  exact ⟨B, o, hp, hB, fun i hi' => ⟨by have := (hi i hi').1; simp [go_sem, this, hB], (hi i hi').2⟩⟩
end Go.Proofs.YtpiacndnjehbiaaDoor

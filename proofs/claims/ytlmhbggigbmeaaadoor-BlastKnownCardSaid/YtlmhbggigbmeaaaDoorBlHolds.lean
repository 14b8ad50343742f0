/- For BlastHolds: a pile that does not spin holds like a stone that is none, one with a Spin of 1000 holds nothing; the fourth power of a crater is at most the energy, that of the next number greater. Condition: none beyond the statement's own. -/
import Derived.Test.YtlmhbggigbmeaaaDoorBlAG
import Derived.Test.YtlmhbggigbmeaaaDoorBlRock
import Derived.Test.YtlmhbggigbmeaaaDoorBlStone
namespace Go.Proofs.YtlmhbggigbmeaaaDoor
open Go.RowKit Go.Shelf
attribute [local go_sem] Option.isSome_some Ext.cell Ext.frozen Ext.lt Ext.le Ext.lt_add Ext.le_add Ext.ne Ext.ne' lt2 lt3 lt4 lt5 le2 le3 le4
attribute [local go_sem] RExt.cell RExt.frozen RExt.lt RExt.le RExt.lt_add RExt.le_add RExt.ne RExt.ne'
theorem Crater_any (e : Int) (w : World) (h0 : 0 ≤ e) (h1 : e < 1152921504606846976) : Calls Tryd.prog 29 #[.int .i64 e] w (Gives (.int .i64 (craterI e)) w) := by
  have hm : max e 0 = e := by omega
  have a := rootI_spec h0 (show e < 18446744073709551616 by omega)
  have c1 := fun W => Root_any e W (by unfold I64; omega)
  unfold craterI
  rw [hm]
  generalize rootI e = r at *
  have hr : r ≤ e := by
    rcases Int.lt_or_le e r with h | h
    · have := Int.mul_le_mul (show 1 ≤ r by omega) (Int.le_refl r) (by omega) (by omega); omega
    · exact h
  have c2 := fun W => Root_any r W (by unfold I64; omega)
  generalize rootI r = c at *
  obtain ⟨a1, -, -⟩ := a
  go_enter Tryd.func29, Tryd.ntmps29
  go_wp2_with (first | ((first | with_reducible refine wrx2 ?_ | with_reducible refine wrx ?_); (repeat (first | go_big_quiet_step ((first | (go_at_call 55; with_reducible exact Calls.ext (c1 _)) | (go_at_call 55; with_reducible exact Calls.ext (c2 _)))) | quiet_step ((first | (go_at_call 55; with_reducible exact Calls.ext (c1 _)) | (go_at_call 55; with_reducible exact Calls.ext (c2 _)))))); refine wpQuiet_nil ?_; rintro _ ⟨yr, rfl⟩; have syr := Ext.size yr; (repeat (first | rw [World.size_alloc] at syr | rw [World.size_setCell] at syr | rw [World.size_drew] at syr))) | (go_at_call 55; (first | with_reducible refine (Calls.giv2 (c1 _)).mono ?_ | with_reducible refine (Calls.giv (c1 _)).mono ?_); rintro _ _ ⟨y1, rfl, rfl⟩; have sy1 := Ext.size y1; (repeat (first | rw [World.size_alloc] at sy1 | rw [World.size_setCell] at sy1 | rw [World.size_drew] at sy1))) | (go_at_call 55; (first | with_reducible refine (Calls.giv2 (c2 _)).mono ?_ | with_reducible refine (Calls.giv (c2 _)).mono ?_); rintro _ _ ⟨y2, rfl, rfl⟩; have sy2 := Ext.size y2; (repeat (first | rw [World.size_alloc] at sy2 | rw [World.size_setCell] at sy2 | rw [World.size_drew] at sy2))))
  all_goals go_returns
  all_goals refine ⟨rfl, ?_⟩
  repeat' (first | (with_reducible exact Below.refl _ _) | (with_reducible assumption) | (with_reducible refine Ext.below _ ?_ ?_) | (with_reducible refine Below.on ?_ (by with_reducible assumption) ?_) | (with_reducible refine Below.alloc ?_ ?_ _) | (with_reducible refine Below.drew ?_) | (with_reducible refine Below.setCell ?_ ?_ _) | (with_reducible exact Nat.le_refl _) | omega | (simp; done) | (simp [go_sem]; done) | (simp at *; omega))
theorem stone_ok {s : StoneR} {k : RockR} {f : FallR} (h : StoneIn s k f) (hk : RockOk k f) : s.Ok :=
  ⟨by have := h.size; have := hk.size; omega, by have := h.dens; have := hk.dens; omega, by have := h.strong; have := hk.strong; omega, by have := h.spin; have := hk.spin; omega, by have := h.shape; have := hk.shape; omega, by have := h.speed; have := hk.speed; omega, by have := h.slope; have := hk.slope; omega⟩
theorem hold_none {s : StoneR} (h : s.Ok) : holdsI ⟨s.size, s.dens, s.strong, s.spin, s.shape, false, s.speed, s.slope⟩ = s.strong := by
  have ok : StoneR.Ok ⟨s.size, s.dens, s.strong, s.spin, s.shape, false, s.speed, s.slope⟩ := ⟨h.size, h.dens, h.strong, h.spin, h.shape, h.speed, h.slope⟩
  rw [holdsI_ok ok]; rfl
theorem hold_still {s : StoneR} (h : s.Ok) : holdsI ⟨s.size, s.dens, s.strong, 0, s.shape, true, s.speed, s.slope⟩ = s.strong := by
  have ok : StoneR.Ok ⟨s.size, s.dens, s.strong, 0, s.shape, true, s.speed, s.slope⟩ := ⟨h.size, h.dens, h.strong, ⟨show (0 : Int) ≤ 0 by decide, show (0 : Int) ≤ 1000 by decide⟩, h.shape, h.speed, h.slope⟩
  rw [holdsI_ok ok]
  show s.strong * (1000 - 0) / 1000 = s.strong
  omega
theorem hold_spun {s : StoneR} (h : s.Ok) : holdsI ⟨s.size, s.dens, s.strong, 1000, s.shape, true, s.speed, s.slope⟩ = 0 := by
  have ok : StoneR.Ok ⟨s.size, s.dens, s.strong, 1000, s.shape, true, s.speed, s.slope⟩ := ⟨h.size, h.dens, h.strong, ⟨show (0 : Int) ≤ 1000 by decide, show (1000 : Int) ≤ 1000 by decide⟩, h.shape, h.speed, h.slope⟩
  rw [holdsI_ok ok]
  show s.strong * (1000 - 1000) / 1000 = 0
  simp
end Go.Proofs.YtlmhbggigbmeaaaDoor

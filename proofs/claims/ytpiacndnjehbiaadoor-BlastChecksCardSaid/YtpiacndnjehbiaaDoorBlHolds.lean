/- For BlastHolds: a pile that does not spin holds like a stone that is none, one with a Spin of 1000 holds nothing; the fourth power of a crater is at most the energy, that of the next number greater. Condition: none beyond the statement's own. -/
import Derived.Test.YtpiacndnjehbiaaDoorBlA
import Derived.Test.YtpiacndnjehbiaaDoorBlRock
import Derived.Test.YtpiacndnjehbiaaDoorBlStone
namespace Go.Proofs.YtpiacndnjehbiaaDoor
open Go.RowKit Go.Shelf
attribute [local go_sem] Option.isSome_some Ext.cell Ext.frozen Ext.lt Ext.le Ext.lt_add Ext.le_add Ext.ne Ext.ne' lt2 lt3 lt4 lt5 le2 le3 le4
attribute [local go_sem] RExt.cell RExt.frozen RExt.lt RExt.le RExt.lt_add RExt.le_add RExt.ne RExt.ne'
theorem stone_ok {s : StoneR} {k : RockR} {f : FallR} (h : StoneIn s k f) (hk : RockOk k f) : s.Ok :=
  ⟨by have := h.size; have := hk.size; omega, by have := h.dens; have := hk.dens; omega, by have := h.strong; have := hk.strong; omega, by have := h.spin; have := hk.spin; omega, by have := h.shape; have := hk.shape; omega, by have := h.speed; have := hk.speed; omega, by have := h.slope; have := hk.slope; omega⟩
theorem hold_none {s : StoneR} (h : s.Ok) : holdsI ⟨s.size, s.dens, s.strong, s.spin, s.shape, false, s.speed, s.slope⟩ = s.strong := by
  have ok : StoneR.Ok ⟨s.size, s.dens, s.strong, s.spin, s.shape, false, s.speed, s.slope⟩ := ⟨h.size, h.dens, h.strong, h.spin, h.shape, h.speed, h.slope⟩
  rw [holdsI_ok ok]; rfl
theorem hold_still {s : StoneR} (h : s.Ok) : holdsI ⟨s.size, s.dens, s.strong, 0, s.shape, true, s.speed, s.slope⟩ = s.strong := by
  have ok : StoneR.Ok ⟨s.size, s.dens, s.strong, 0, s.shape, true, s.speed, s.slope⟩ := ⟨h.size, h.dens, h.strong, ⟨show (0 : Int) ≤ 0 by decide, show (0 : Int) ≤ 1000 by decide⟩, h.shape, h.speed, h.slope⟩
  rw [holdsI_ok ok]
  show s.strong * (1000 - 0) / 1000 = s.strong
  omega
theorem hold_spun {s : StoneR} (h : s.Ok) : holdsI ⟨s.size, s.dens, s.strong, 1000, s.shape, true, s.speed, s.slope⟩ = 0 := by
  have ok : StoneR.Ok ⟨s.size, s.dens, s.strong, 1000, s.shape, true, s.speed, s.slope⟩ := ⟨h.size, h.dens, h.strong, ⟨show (0 : Int) ≤ 1000 by decide, show (1000 : Int) ≤ 1000 by decide⟩, h.shape, h.speed, h.slope⟩
  rw [holdsI_ok ok]
  show s.strong * (1000 - 1000) / 1000 = 0
  simp
end Go.Proofs.YtpiacndnjehbiaaDoor

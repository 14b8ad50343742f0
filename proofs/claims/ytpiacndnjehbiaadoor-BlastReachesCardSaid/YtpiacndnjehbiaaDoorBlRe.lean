/- For BlastReaches: a blow of more energy, or with a longer reach, harms no fewer; a wave harms no more than a blow with the same reach; nobody is harmed twice. Condition: none beyond the statement's own. -/
import Derived.Test.YtpiacndnjehbiaaDoorBlA
import Derived.Test.YtpiacndnjehbiaaDoorBlLo
import Derived.Test.YtpiacndnjehbiaaDoorBlGo
import Derived.Test.YtpiacndnjehbiaaDoorBlW
import Derived.Test.YtpiacndnjehbiaaDoorBlO
namespace Go.Proofs.YtpiacndnjehbiaaDoor
open Go.RowKit Go.Shelf
attribute [local go_sem] Option.isSome_some Ext.cell Ext.frozen Ext.lt Ext.le Ext.lt_add Ext.le_add Ext.ne Ext.ne' lt2 lt3 lt4 lt5 le2 le3 le4
attribute [local go_sem] RExt.cell RExt.frozen RExt.lt RExt.le RExt.lt_add RExt.le_add RExt.ne RExt.ne'
theorem GradesOk.pw {l : List V2} (h : GradesOk l) : l.Pairwise (fun g k => g.y ≤ k.y) := by
  refine List.pairwise_iff_getElem.2 fun i j hi hj hij => ?_
  obtain ⟨d, rfl⟩ : ∃ d, j = i + 1 + d := ⟨j - (i + 1), by omega⟩
  clear hij
  induction d with
  | zero => exact (h.up i hj).2
  | succ d ih => exact Int.le_trans (ih (by omega)) (h.up (i + 1 + d) (by omega)).2
/-- What the law asks of whom a blow and a wave harm. -/
theorem harms_spec {x : LandR} (h : x.Ok) {a r m : Int} (h0 : 0 ≤ a) (h1 : a < x.pl.length) (hr : 0 ≤ r) (hr2 : r ≤ 20) (hm : 0 ≤ m) (hm2 : m ≤ 20) :
    x.pl[a.toNat]'(by omega) ≤ harmV x a r ∧ harmV x a r ≤ harmV x a (r + m) ∧ waveI x a r ≤ waveI x a (r + m) ∧ waveI x a r ≤ harmV x a r ∧ harmV x a (r + m) ≤ x.pl.sum ∧ (0 < waveI x a r → x.wl.getD a.toNat false = true) ∧ harmV x a 400 = x.pl.sum := by
  have hle := h.le
  have hlen := h.len
  have hn : ∀ n ∈ x.pl, 0 ≤ n := fun n hn => (h.num n hn).1
  have l1 := run_left x.wl r.toNat a h0
  have l2 := run_left x.wl (r + m).toNat a h0
  have r1 := run_right x.wl r.toNat a (by omega)
  have r2 := run_right x.wl (r + m).toNat a (by omega)
  have lm := run_left_more x.wl m.toNat r.toNat a h0
  have rm := run_right_more x.wl m.toNat r.toNat a (by omega)
  rw [show r.toNat + m.toNat = (r + m).toNat by omega] at lm rm
  have ha : seg x.pl 0 (x.pl.length - 1) = x.pl.sum := seg_all
  refine ⟨?_, ?_, ?_, ?_, ?_, ?_, ?_⟩
  · rw [← seg_cell h0 h1]; exact seg_mono hn (by omega) (by omega)
  · exact seg_mono hn (by omega) (by omega)
  · unfold waveI waveV
    split
    · exact seg_mono hn (by omega) (by omega)
    · exact Int.le_refl _
  · unfold waveI waveV harmV
    split
    · exact seg_mono hn (by omega) (by omega)
    · have h3 := seg_mono (a := a) (b := a) hn (show max (a - min r 400) 0 ≤ a by omega) (show a ≤ min (a + min r 400) ((x.pl.length : Int) - 1) by omega)
      rw [seg_cell h0 h1] at h3
      have h4 := hn (x.pl[a.toNat]'(by omega)) (List.getElem_mem _)
      omega
  · rw [← ha]; exact seg_mono hn (by omega) (by omega)
  · unfold waveI; split
    · intro _; assumption
    · intro h; omega
  · rw [← ha]; unfold harmV
    rw [show max (a - min 400 400) 0 = 0 by omega, show min (a + min 400 400) ((x.pl.length : Int) - 1) = x.pl.length - 1 by omega]
end Go.Proofs.YtpiacndnjehbiaaDoor

/- BlastTolls: the toll of a rock with a fall on a stretch, and its worst cell, or which error there is, are as the reference says. Condition: none beyond the statement's own. -/
import Derived.Test.YtlmhbggigbmeaaaDoorBlTolls
import Derived.Test.YtlmhbggigbmeaaaDoorBlOqG
import Derived.Test.YtlmhbggigbmeaaaDoorLawListG
import Derived.Test.YtlmhbggigbmeaaaDoorCards
import Derived.SevenTiedAt
import Derived.LaidOnce
import Derived.LaidMore
namespace Go.Proofs.YtlmhbggigbmeaaaDoor
open Go.RowKit Go.Shelf Go.ChangeShapes Go.WideShapes Go.ChangeAt Go.Joins
set_option maxRecDepth 100000 in
theorem BlastTolls_lifted (os : Os) (started : os.Started) (H : Type) (enc : TypeId × Value → H) :
    ReturnsInHanded {} Tryd.checked os 3 .any (fun w args => (Rows.blastTollsSpec.pre enc Tryd.prog Tryd.f3 [] false w args ∧ laidMetH Tryd.prog [("bolide/blast.limits", Rows.laid_bolide_blast_limits)] w) ∧ sizedMet enc Tryd.prog Tryd.f3 (OpenSpec.ofChange Rows.blastTollsSpec) false w args) (Rows.blastTollsSpec.post enc Tryd.prog Tryd.f3 false true false false) := by
  refine returnsInHanded_of_change_and (C := Tryd.checked) (X := fun w _ => laidMetH Tryd.prog [("bolide/blast.limits", Rows.laid_bolide_blast_limits)] w) (fun _ _ _ hh h => h.of_heap hh) own started (by kernel_rfl) Tryd.func3
    (ChangeSpec.witness_shaped (enc := enc) (C := Tryd.checked) (os := os) (X := fun w _ => laidMetH Tryd.prog [("bolide/blast.limits", Rows.laid_bolide_blast_limits)] w) false (World.doorLaid Tryd.prog 21 os) #[.slice none 0 0, .slice none 0 0, .agg #[.slice none 0 0, .slice none 0 0], .agg #[.int .i64 0, .int .i64 0, .int .i64 0, .int .i64 0, .int .i64 0, .int .i64 0, .int .i64 0, .int .i64 0, .int .i64 0, .int .i64 0, .bool false], .agg #[.int .i64 0, .int .i64 0, .int .i64 0, .int .i64 0], .int .i64 0, .int .i64 0, .slice none 0 0] 8 rfl (World.shaped_of_RefB (by kernel_rfl) (by kernel_rfl)) (by kernel_rfl) (by kernel_rfl) (by kernel_rfl) (laidMetH_of_parts3 (fuel := 8) (laidMet_of_run' 8 (by kernel_rfl) (by kernel_rfl)) (by kernel_rfl) (by kernel_rfl))) ?_
  intro W base args ds gs before hval0 hW _ _ hL _
  have hLim := lim_of_laid hL
  have hval : ∀ (j : Nat) t v, Tryd.f3.params[j]? = some t → args[j]? = some v → Value.okWide Tryd.prog W .any base t v := hval0
  have hW' := hW
  obtain ⟨p, q, hA0, hV, _, _, _⟩ := hW
  have hA : DataW.TrodAll enc Tryd.prog W 0 (fun _ => true) true Tryd.f3.params.toList args.toList ds p := hA0
  rw [Tryd.params3] at hA hval
  obtain ⟨v0, vs0, d0, ds0, p0, q0, hargs0, rfl, _, h0, r0⟩ := trodAll_cons hA
  obtain ⟨v1, vs1, d1, ds1, p1, q1, hargs1, rfl, _, h1, r1⟩ := trodAll_cons r0
  obtain ⟨v2, vs2, d2, ds2, p2, q2, hargs2, rfl, _, h2, r2⟩ := trodAll_cons r1
  obtain ⟨v3, vs3, d3, ds3, p3, q3, hargs3, rfl, _, h3, r3⟩ := trodAll_cons r2
  obtain ⟨v4, vs4, d4, ds4, p4, q4, hargs4, rfl, _, h4, r4⟩ := trodAll_cons r3
  obtain ⟨v5, vs5, d5, ds5, p5, q5, hargs5, rfl, _, h5, r5⟩ := trodAll_cons r4
  obtain ⟨v6, vs6, d6, ds6, p6, q6, hargs6, rfl, _, h6, r6⟩ := trodAll_cons r5
  obtain ⟨v7, vs7, d7, ds7, p7, q7, hargs7, rfl, _, h7, r7⟩ := trodAll_cons r6
  obtain ⟨hlast, rfl, _⟩ := trodAll_nil r7
  subst hlast
  subst hargs7
  subst hargs6
  subst hargs5
  subst hargs4
  subst hargs3
  subst hargs2
  subst hargs1
  obtain rfl : args = #[v0, v1, v2, v3, v4, v5, v6, v7] := by cases args; simp_all
  obtain ⟨rfl, rfl⟩ := trodVars_none hV
  obtain ⟨yp0, yc0, yl0, rfl, hi0⟩ := open_layersV (hval 0 22 v0 rfl rfl) h0
  obtain ⟨yp1, yc1, yl1, rfl, hi1⟩ := open_gradesV (hval 1 23 v1 rfl rfl) h1
  obtain ⟨b2, rfl, hi2⟩ := open_landV (hval 2 27 v2 rfl rfl) h2
  obtain ⟨b3, rfl⟩ := open_rockV (hval 3 31 v3 rfl rfl) h3
  obtain ⟨b4, rfl⟩ := open_fallV (hval 4 33 v4 rfl rfl) h4
  obtain ⟨x5, rfl, hi5⟩ := open_num (P := Tryd.prog) Tryd.underlying3 (hval 5 3 v5 rfl rfl)
  obtain ⟨x6, rfl, hi6⟩ := open_num (P := Tryd.prog) Tryd.underlying3 (hval 6 3 v6 rfl rfl)
  obtain ⟨sp7, sl7, sc7, sz7, rfl, hi7⟩ := open_list (P := Tryd.prog) Tryd.underlying34 Tryd.underlying3 (by kernel_rfl) (hval 7 34 v7 rfl rfl) h7
  exact (BlastTolls_any yp0 yc0 yl0 yp1 yc1 yl1 b2 b3 b4 x5 x6 sp7 sl7 sc7 sz7 W hLim hi0.2 hi1.2 hi2.1 hi5 hi6 hi7).mono fun e W' h => law_post laid_out (by rw [Tryd.params3]; intro t ht; simp only [List.mem_cons, List.not_mem_nil, or_false] at ht; rcases ht with rfl | rfl | rfl | rfl | rfl | rfl | rfl | rfl; all_goals exact ⟨by kernel_rfl, by decide +kernel⟩) rfl rfl Tryd.underlying4 hW' rfl h
/-- The statement. -/
theorem BlastTolls_holds : Rows.BlastTollsSaid :=
  OpenClaim.holds_of_wide 3 Tryd.f3 rfl rfl rfl rfl rfl rfl rfl ⟨rfl, rfl, rfl, rfl, rfl⟩ rfl rfl rfl rfl rfl (by kernel_rfl) Tryd.func3 (by kernel_rfl)
    (of_decide_eq_true (by kernel_rfl)) (by unfold Func.isWrapper; first | (rw [if_pos (by decide +kernel)]; kernel_rfl) | (rw [if_neg (by decide +kernel)]; exact ⟨rfl, rfl⟩))
    (fun os started H enc _ => BlastTolls_lifted os started H enc)
/-- The tied card. -/
theorem BlastTolls_card : Rows.BlastTollsCardSaid :=
  Claim7.holds_tied_plain_at .later [] [.data] true Rows.blastTollsCard.stood.harness false
    BlastTolls_holds (fun _ h => by cases h) (by kernel_rfl) (fun _ h => by cases h) blastTolls_row_tie rfl ⟨rfl, rfl⟩ (by kernel_rfl) rfl
    (fun f fn hf hfn => by
      obtain rfl : f = 3 := Option.some.inj ((show Tryd.prog.funcNamed "bolide/bolidelaw07.BlastTolls" = some 3 by kernel_rfl).symm.trans hf) |>.symm
      obtain rfl : fn = Tryd.f3 := (Option.some.inj (Tryd.func3.symm.trans hfn)).symm
      exact ⟨by kernel_rfl, fun j t ht => by
        rw [Tryd.params3] at ht
        have hall : (Tryd.f3.params.toList.all fun u => !Tryd.prog.wantsStandIn u) = true := by kernel_rfl
        rw [Tryd.params3] at hall
        have hm := Array.mem_of_getElem? ht
        exact (show Tryd.prog.wantsStandIn t = false by simpa using List.all_eq_true.1 hall t (by simpa using hm))⟩)
    (by kernel_rfl)
end Go.Proofs.YtlmhbggigbmeaaaDoor

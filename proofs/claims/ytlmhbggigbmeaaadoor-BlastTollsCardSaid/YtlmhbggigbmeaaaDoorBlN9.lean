/- The reference's Blows, for any air, rock and fall. Condition: the air in memory, of at most 1000 layers. -/
import Derived.Test.YtlmhbggigbmeaaaDoorBlN8
import Derived.Test.YtlmhbggigbmeaaaDoorBlV3G
import Derived.Test.YtlmhbggigbmeaaaDoorBlUpG
namespace Go.Proofs.YtlmhbggigbmeaaaDoor
open Go.RowKit Go.Shelf
attribute [local go_sem] Option.isSome_some Ext.cell Ext.frozen Ext.lt Ext.le Ext.lt_add Ext.le_add Ext.ne Ext.ne' lt2 lt3 lt4 lt5 le2 le3 le4
set_option maxRecDepth 100000 in
set_option maxHeartbeats 8000000 in
theorem rBlows_any (p : Option Addr) (cap : Nat) (l : List V2) (k : RockR) (f : FallR) (w : World) (hP : VecsAt w p l) (hn : l.length ≤ 1000) :
    Calls Tryd.prog 71 #[.slice p l.length cap, k.val, f.val] w (BlowsAny w (blowsA l k f) (blowsE l k f)) := by
  unfold blowsA
  by_cases ha : airE l = 0
  · have hE : blowsE l k f = rockE k f := by unfold blowsE; rw [if_neg (by simpa using ha)]
    rw [hE]
    clear hE
    by_cases hr : rockE k f = 0
    · rw [if_pos hr]
      refine (rBlows_ok p cap l k f w hP ha hr).mono ?_
      rintro e w' ⟨v, rfl, h1, h2⟩
      exact ⟨v, by rw [hr], h1, h2⟩
    · rw [if_neg hr]
      refine Calls.mono ?_ (fun e w' h => blowsAny_nil h)
      have ca := fun (W : World) (y : Below w.heap.size w W) => rCheckAir_any p cap l W (hP.on y) hn
      rw [ha] at ca
      have cr := fun (W : World) => rCheckRock_any k f W
      generalize rockE k f = R at *
      unfold RockR.val FallR.val at *
      go_enter Tryd.func71, Tryd.ntmps71
      go_wp2_with (first | ((first | with_reducible refine wrx2 ?_ | with_reducible refine wrx ?_); (repeat (first | go_big_quiet_step ((first | (go_at_call 89; with_reducible exact Calls.ext (ca _ bcl)) | (go_at_call 90; with_reducible exact Calls.ext (cr _)))) | quiet_step ((first | (go_at_call 89; with_reducible exact Calls.ext (ca _ bcl)) | (go_at_call 90; with_reducible exact Calls.ext (cr _)))))); refine wpQuiet_nil ?_; rintro _ ⟨yr, rfl⟩; have syr := Ext.size yr; (repeat (first | rw [World.size_alloc] at syr | rw [World.size_setCell] at syr | rw [World.size_drew] at syr))) | (go_at_call 89; (first | with_reducible refine (Calls.giv2 (ca _ bcl)).mono ?_ | with_reducible refine (Calls.giv (ca _ bcl)).mono ?_); rintro _ _ ⟨y1, rfl, rfl⟩; have sy1 := Ext.size y1; (repeat (first | rw [World.size_alloc] at sy1 | rw [World.size_setCell] at sy1 | rw [World.size_drew] at sy1))) | (go_at_call 90; (first | with_reducible refine (Calls.giv2 (cr _)).mono ?_ | with_reducible refine (Calls.giv (cr _)).mono ?_); rintro _ _ ⟨y2, rfl, rfl⟩; have sy2 := Ext.size y2; (repeat (first | rw [World.size_alloc] at sy2 | rw [World.size_setCell] at sy2 | rw [World.size_drew] at sy2))))
      all_goals go_returns
      all_goals refine ⟨rfl, ?_⟩
      repeat' (first | (with_reducible exact Below.refl _ _) | (with_reducible assumption) | (with_reducible refine Ext.below _ ?_ ?_) | (with_reducible refine Below.on ?_ (by with_reducible assumption) ?_) | (with_reducible refine Below.alloc ?_ ?_ _) | (with_reducible refine Below.drew ?_) | (with_reducible refine Below.setCell ?_ ?_ _) | (with_reducible exact Nat.le_refl _) | omega | (simp; done) | (simp [go_sem]; done) | (simp at *; omega))
  · have hE : blowsE l k f = airE l := by unfold blowsE; rw [if_pos ha]
    rw [hE, if_neg ha]
    clear hE
    refine Calls.mono ?_ (fun e w' h => blowsAny_nil h)
    have ca := fun (W : World) (y : Below w.heap.size w W) => rCheckAir_any p cap l W (hP.on y) hn
    generalize airE l = E at *
    unfold RockR.val FallR.val at *
    go_enter Tryd.func71, Tryd.ntmps71
    go_wp2_with (first | ((first | with_reducible refine wrx2 ?_ | with_reducible refine wrx ?_); (repeat (first | go_big_quiet_step ((first | (go_at_call 89; with_reducible exact Calls.ext (ca _ bcl)))) | quiet_step ((first | (go_at_call 89; with_reducible exact Calls.ext (ca _ bcl)))))); refine wpQuiet_nil ?_; rintro _ ⟨yr, rfl⟩; have syr := Ext.size yr; (repeat (first | rw [World.size_alloc] at syr | rw [World.size_setCell] at syr | rw [World.size_drew] at syr))) | (go_at_call 89; (first | with_reducible refine (Calls.giv2 (ca _ bcl)).mono ?_ | with_reducible refine (Calls.giv (ca _ bcl)).mono ?_); rintro _ _ ⟨y1, rfl, rfl⟩; have sy1 := Ext.size y1; (repeat (first | rw [World.size_alloc] at sy1 | rw [World.size_setCell] at sy1 | rw [World.size_drew] at sy1))))
    all_goals go_returns
    all_goals refine ⟨rfl, ?_⟩
    repeat' (first | (with_reducible exact Below.refl _ _) | (with_reducible assumption) | (with_reducible refine Ext.below _ ?_ ?_) | (with_reducible refine Below.on ?_ (by with_reducible assumption) ?_) | (with_reducible refine Below.alloc ?_ ?_ _) | (with_reducible refine Below.drew ?_) | (with_reducible refine Below.setCell ?_ ?_ _) | (with_reducible exact Nat.le_refl _) | omega | (simp; done) | (simp [go_sem]; done) | (simp at *; omega))
end Go.Proofs.YtlmhbggigbmeaaaDoor

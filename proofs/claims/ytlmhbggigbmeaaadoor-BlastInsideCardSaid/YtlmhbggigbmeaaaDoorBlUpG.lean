/- Blows of the program, for any air, rock and fall. Condition: the air in memory; the table of limits stands as it was laid. How many blows there are. No condition. Harms of the program, for any arguments. Condition: air, grades and land in memory. -/
import Derived.Test.YtlmhbggigbmeaaaDoorBlBl
import Derived.Test.YtlmhbggigbmeaaaDoorBlAlG
import Derived.Test.YtlmhbggigbmeaaaDoorBlU1
import Derived.Test.YtlmhbggigbmeaaaDoorBlBgG
namespace Go.Proofs.YtlmhbggigbmeaaaDoor
open Go.RowKit Go.Shelf
attribute [local go_sem] Option.isSome_some Ext.cell Ext.frozen Ext.lt Ext.le Ext.lt_add Ext.le_add Ext.ne Ext.ne' lt2 lt3 lt4 lt5 le2 le3 le4
/-- What is wrong with an air, a rock and a fall; the blows that are asked of them. -/
def blowsE (l : List V2) (k : RockR) (f : FallR) : Int := if airE l ≠ 0 then airE l else rockE k f
def blowsA (l : List V2) (k : RockR) (f : FallR) : List BlowR := if blowsE l k f = 0 then blowsV l k f else []
def BlowsAny (w : World) (L : List BlowR) (E : Int) : Ending → World → Prop := fun e w' => ∃ v, e = .returned (.tuple #[v, .int .i64 E]) ∧ Below w.heap.size w w' ∧ w'.ownsRow w.heap.size 70 3 v L.length (rowsB L)
theorem blowsAny_nil {w w' : World} {e : Ending} {E : Int} (h : Gives (.tuple #[.slice none 0 0, .int .i64 E]) w e w') : BlowsAny w [] E e w' := ⟨_, h.1, h.2, World.ownsRow_nil _ _ _ _⟩
set_option maxRecDepth 100000 in
set_option maxHeartbeats 8000000 in
theorem Blows_any (p : Option Addr) (cap : Nat) (l : List V2) (k : RockR) (f : FallR) (w : World) (hlim : LimAt w) (hP : VecsAt w p l) :
    Calls Tryd.prog 26 #[.slice p l.length cap, k.val, f.val] w (BlowsAny w (blowsA l k f) (blowsE l k f)) := by
  unfold blowsA
  by_cases ha : airE l = 0
  · have hE : blowsE l k f = rockE k f := by unfold blowsE; rw [if_neg (by simpa using ha)]
    rw [hE]
    clear hE
    by_cases hr : rockE k f = 0
    · rw [if_pos hr]
      refine (Blows_ok p cap l k f w hlim hP ha hr).mono ?_
      rintro e w' ⟨v, rfl, h1, h2⟩
      exact ⟨v, by rw [hr], h1, h2⟩
    · rw [if_neg hr]
      refine Calls.mono ?_ (fun e w' h => blowsAny_nil h)
      have ca := fun (W : World) (y : Below w.heap.size w W) => CheckAir_any p cap l W (hP.on y)
      rw [ha] at ca
      have cr := fun (W : World) (y : LimAt W) => CheckRock_any k f W y
      generalize rockE k f = R at *
      unfold RockR.val FallR.val at *
      go_enter Tryd.func26, Tryd.ntmps26
      go_wp2_with (first | ((first | with_reducible refine wrx2 ?_ | with_reducible refine wrx ?_); (repeat (first | go_big_quiet_step ((first | (go_at_call 48; with_reducible exact Calls.ext (ca _ bcl)) | (go_at_call 53; with_reducible exact Calls.ext (cr _ (by repeat (first | exact hlim | (with_reducible refine LimAt.ext ?_ _) | (with_reducible refine LimAt.alloc ?_ _) | (with_reducible refine LimAt.drew ?_) | (with_reducible refine LimAt.rext ?_ (by omega) _) | (with_reducible refine LimAt.set ?_ (by omega) _))))))) | quiet_step ((first | (go_at_call 48; with_reducible exact Calls.ext (ca _ bcl)) | (go_at_call 53; with_reducible exact Calls.ext (cr _ (by repeat (first | exact hlim | (with_reducible refine LimAt.ext ?_ _) | (with_reducible refine LimAt.alloc ?_ _) | (with_reducible refine LimAt.drew ?_) | (with_reducible refine LimAt.rext ?_ (by omega) _) | (with_reducible refine LimAt.set ?_ (by omega) _))))))))); refine wpQuiet_nil ?_; rintro _ ⟨yr, rfl⟩; have syr := Ext.size yr; (repeat (first | rw [World.size_alloc] at syr | rw [World.size_setCell] at syr | rw [World.size_drew] at syr))) | (go_at_call 48; (first | with_reducible refine (Calls.giv2 (ca _ bcl)).mono ?_ | with_reducible refine (Calls.giv (ca _ bcl)).mono ?_); rintro _ _ ⟨y1, rfl, rfl⟩; have sy1 := Ext.size y1; (repeat (first | rw [World.size_alloc] at sy1 | rw [World.size_setCell] at sy1 | rw [World.size_drew] at sy1))) | (go_at_call 53; (first | with_reducible refine (Calls.giv2 (cr _ (by repeat (first | exact hlim | (with_reducible refine LimAt.ext ?_ _) | (with_reducible refine LimAt.alloc ?_ _) | (with_reducible refine LimAt.drew ?_) | (with_reducible refine LimAt.rext ?_ (by omega) _) | (with_reducible refine LimAt.set ?_ (by omega) _))))).mono ?_ | with_reducible refine (Calls.giv (cr _ (by repeat (first | exact hlim | (with_reducible refine LimAt.ext ?_ _) | (with_reducible refine LimAt.alloc ?_ _) | (with_reducible refine LimAt.drew ?_) | (with_reducible refine LimAt.rext ?_ (by omega) _) | (with_reducible refine LimAt.set ?_ (by omega) _))))).mono ?_); rintro _ _ ⟨y2, rfl, rfl⟩; have sy2 := Ext.size y2; (repeat (first | rw [World.size_alloc] at sy2 | rw [World.size_setCell] at sy2 | rw [World.size_drew] at sy2))))
      all_goals go_returns
      all_goals refine ⟨rfl, ?_⟩
      repeat' (first | (with_reducible exact Below.refl _ _) | (with_reducible assumption) | (with_reducible refine Ext.below _ ?_ ?_) | (with_reducible refine Below.on ?_ (by with_reducible assumption) ?_) | (with_reducible refine Below.alloc ?_ ?_ _) | (with_reducible refine Below.drew ?_) | (with_reducible refine Below.setCell ?_ ?_ _) | (with_reducible exact Nat.le_refl _) | omega | (simp; done) | (simp [go_sem]; done) | (simp at *; omega))
  · have hE : blowsE l k f = airE l := by unfold blowsE; rw [if_pos ha]
    rw [hE, if_neg ha]
    clear hE
    refine Calls.mono ?_ (fun e w' h => blowsAny_nil h)
    have ca := fun (W : World) (y : Below w.heap.size w W) => CheckAir_any p cap l W (hP.on y)
    generalize airE l = E at *
    unfold RockR.val FallR.val at *
    go_enter Tryd.func26, Tryd.ntmps26
    go_wp2_with (first | ((first | with_reducible refine wrx2 ?_ | with_reducible refine wrx ?_); (repeat (first | go_big_quiet_step ((first | (go_at_call 48; with_reducible exact Calls.ext (ca _ bcl)))) | quiet_step ((first | (go_at_call 48; with_reducible exact Calls.ext (ca _ bcl)))))); refine wpQuiet_nil ?_; rintro _ ⟨yr, rfl⟩; have syr := Ext.size yr; (repeat (first | rw [World.size_alloc] at syr | rw [World.size_setCell] at syr | rw [World.size_drew] at syr))) | (go_at_call 48; (first | with_reducible refine (Calls.giv2 (ca _ bcl)).mono ?_ | with_reducible refine (Calls.giv (ca _ bcl)).mono ?_); rintro _ _ ⟨y1, rfl, rfl⟩; have sy1 := Ext.size y1; (repeat (first | rw [World.size_alloc] at sy1 | rw [World.size_setCell] at sy1 | rw [World.size_drew] at sy1))))
    all_goals go_returns
    all_goals refine ⟨rfl, ?_⟩
    repeat' (first | (with_reducible exact Below.refl _ _) | (with_reducible assumption) | (with_reducible refine Ext.below _ ?_ ?_) | (with_reducible refine Below.on ?_ (by with_reducible assumption) ?_) | (with_reducible refine Below.alloc ?_ ?_ _) | (with_reducible refine Below.drew ?_) | (with_reducible refine Below.setCell ?_ ?_ _) | (with_reducible exact Nat.le_refl _) | omega | (simp; done) | (simp [go_sem]; done) | (simp at *; omega))
end Go.Proofs.YtlmhbggigbmeaaaDoor
namespace Go.Proofs.YtlmhbggigbmeaaaDoor
open Go.RowKit Go.Shelf
theorem thru_len : ∀ l : List BlowR, (thru l).length ≤ l.length
  | [] => by simp [thru]
  | x :: l => by
    have := thru_len l
    unfold thru
    split <;> simp <;> omega
theorem blowsA_len {l : List V2} (k : RockR) (f : FallR) (hn : l.length ≤ 40) : (v3s (blowsA l k f)).length ≤ 1000 := by
  unfold v3s
  rw [List.length_map]
  unfold blowsA
  split
  · unfold blowsV
    exact Nat.le_trans (thru_len _) (Nat.le_trans (blowsL_len _ _ _ _ _ _) (by omega))
  · simp
end Go.Proofs.YtlmhbggigbmeaaaDoor
namespace Go.Proofs.YtlmhbggigbmeaaaDoor
open Go.RowKit Go.Shelf
attribute [local go_sem] Option.isSome_some Ext.cell Ext.frozen Ext.lt Ext.le Ext.lt_add Ext.le_add Ext.ne Ext.ne' lt2 lt3 lt4 lt5 le2 le3 le4
/-- What is wrong, or whom a blow harms. -/
def harmsE (l g : List V2) (x : LandR) (layer a : Int) : Int := if airE l ≠ 0 then airE l else if sceneE g x ≠ 0 then sceneE g x else if layer < 0 ∨ (l.length : Int) < layer then 2 else if 0 ≤ a ∧ a < x.pl.length then 0 else 7
def harmsA (l g : List V2) (x : LandR) (layer e a : Int) : Int := if harmsE l g x layer a = 0 then harmsV l.length g x layer e a else 0
theorem sceneE_ok {g : List V2} {x : LandR} (h : sceneE g x = 0) : GradesOk g ∧ x.Ok := by
  unfold sceneE at h
  by_cases q : gradesE g = 0
  · rw [if_neg (by simpa using q)] at h
    exact ⟨gradesE_ok q, landE_ok h⟩
  · rw [if_pos q] at h
    exact absurd h q
set_option maxHeartbeats 8000000 in
theorem Harms_any (lp : Option Addr) (lc : Nat) (l : List V2) (gp : Option Addr) (gc : Nat) (g : List V2) (x : LandR) (layer e a : Int) (w : World) (hl : VecsAt w lp l) (hg : VecsAt w gp g) (hx : x.At w) :
    Calls Tryd.prog 35 #[.slice lp l.length lc, .slice gp g.length gc, x.val, .int .i64 layer, .int .i64 e, .int .i64 a] w (Gives (.tuple #[.int .i64 (harmsA l g x layer e a), .int .i64 (harmsE l g x layer a)]) w) := by
  have c1 := fun (W : World) (y : Below w.heap.size w W) => CheckAir_any lp lc l W (hl.on y)
  have c2 := fun (W : World) (y : Below w.heap.size w W) => checkScene_any gp gc g x W (hg.on y) (hx.on y)
  have c3 := fun (W : World) => isCell_any x a W
  unfold harmsA harmsE
  by_cases h1 : airE l = 0
  · have hair := air_ok h1
    rw [if_neg (show ¬ airE l ≠ 0 by simpa using h1)]
    rw [h1] at c1
    by_cases h2 : sceneE g x = 0
    · rw [if_neg (show ¬ sceneE g x ≠ 0 by simpa using h2)]
      rw [h2] at c2
      obtain ⟨hgk, hok⟩ := sceneE_ok h2
      by_cases h3 : layer < 0 ∨ (l.length : Int) < layer
      · rw [if_pos h3]
        simp only [show ((2 : Int) = 0) = False by simp, if_false]
        unfold LandR.val at *
        clear hl hg hx hgk hok h1 h2 hair c3
        generalize l.length = n at *
        generalize g.length = gn at *
        generalize x.pl.length = n1 at *
        generalize x.wl.length = n2 at *
        rcases (show layer < 0 ∨ (0 ≤ layer ∧ (n : Int) < layer) by omega) with q1 | ⟨q1, q2⟩
        all_goals
          clear h3
          go_enter Tryd.func35, Tryd.ntmps35
          go_wp2_with (first | ((first | with_reducible refine wrx2 ?_ | with_reducible refine wrx ?_); (repeat (first | go_big_quiet_step ((first | (go_at_call 48; with_reducible exact Calls.ext (c1 _ bcl)) | (go_at_call 62; with_reducible exact Calls.ext (c2 _ bcl)))) | quiet_step ((first | (go_at_call 48; with_reducible exact Calls.ext (c1 _ bcl)) | (go_at_call 62; with_reducible exact Calls.ext (c2 _ bcl)))))); refine wpQuiet_nil ?_; rintro _ ⟨yr, rfl⟩; have syr := Ext.size yr; (repeat (first | rw [World.size_alloc] at syr | rw [World.size_setCell] at syr | rw [World.size_drew] at syr)); have : w.heap.size < yr.now.heap.size := (by omega); have : w.heap.size ≤ yr.now.heap.size := (by omega); have : w.heap.size < yr.now.heap.size + 1 + 1 := (by omega)) | (go_at_call 48; (first | with_reducible refine (Calls.giv2 (c1 _ bcl)).mono ?_ | with_reducible refine (Calls.giv (c1 _ bcl)).mono ?_); rintro _ _ ⟨y1, rfl, rfl⟩; have sy1 := Ext.size y1; (repeat (first | rw [World.size_alloc] at sy1 | rw [World.size_setCell] at sy1 | rw [World.size_drew] at sy1)); have : w.heap.size < y1.now.heap.size := (by omega); have : w.heap.size ≤ y1.now.heap.size := (by omega); have : w.heap.size < y1.now.heap.size + 1 + 1 := (by omega)) | (go_at_call 62; (first | with_reducible refine (Calls.giv2 (c2 _ bcl)).mono ?_ | with_reducible refine (Calls.giv (c2 _ bcl)).mono ?_); rintro _ _ ⟨y2, rfl, rfl⟩; have sy2 := Ext.size y2; (repeat (first | rw [World.size_alloc] at sy2 | rw [World.size_setCell] at sy2 | rw [World.size_drew] at sy2)); have : w.heap.size < y2.now.heap.size := (by omega); have : w.heap.size ≤ y2.now.heap.size := (by omega); have : w.heap.size < y2.now.heap.size + 1 + 1 := (by omega)))
          go_returns
          refine ⟨rfl, ?_⟩
          repeat' (first | (with_reducible exact Below.refl _ _) | (with_reducible assumption) | (with_reducible refine Ext.below _ ?_ ?_) | (with_reducible refine Below.on ?_ (by with_reducible assumption) ?_) | (with_reducible refine Below.alloc ?_ ?_ _) | (with_reducible refine Below.drew ?_) | (with_reducible refine Below.setCell ?_ ?_ _) | (with_reducible exact Nat.le_refl _) | omega | (simp; done) | (simp [go_sem]; done) | (simp at *; omega))
      · rw [if_neg h3]
        have q1 : ¬ layer < 0 := fun q => h3 (.inl q)
        have q2 : ¬ (l.length : Int) < layer := fun q => h3 (.inr q)
        by_cases h4 : 0 ≤ a ∧ a < x.pl.length
        · rw [if_pos h4, if_pos rfl]
          rw [decide_eq_true h4] at c3
          have c4 := fun (W : World) (y : Below w.heap.size w W) => sceneHarm_any lp l.length lc gp gc g x layer e a W hair.1 (hg.on y) hgk (hx.on y) hok (by omega) (by omega) h4.1 h4.2
          generalize harmsV l.length g x layer e a = V at *
          unfold LandR.val at *
          clear hl hg hx hgk hok h1 h2 hair h4 h3
          generalize l.length = n at *
          generalize g.length = gn at *
          generalize x.pl.length = n1 at *
          generalize x.wl.length = n2 at *
          go_enter Tryd.func35, Tryd.ntmps35
          go_wp2_with (first | ((first | with_reducible refine wrx2 ?_ | with_reducible refine wrx ?_); (repeat (first | go_big_quiet_step ((first | (go_at_call 48; with_reducible exact Calls.ext (c1 _ bcl)) | (go_at_call 62; with_reducible exact Calls.ext (c2 _ bcl)) | (go_at_call 59; with_reducible exact Calls.ext (c3 _)) | (go_at_call 63; with_reducible exact Calls.ext (c4 _ bcl)))) | quiet_step ((first | (go_at_call 48; with_reducible exact Calls.ext (c1 _ bcl)) | (go_at_call 62; with_reducible exact Calls.ext (c2 _ bcl)) | (go_at_call 59; with_reducible exact Calls.ext (c3 _)) | (go_at_call 63; with_reducible exact Calls.ext (c4 _ bcl)))))); refine wpQuiet_nil ?_; rintro _ ⟨yr, rfl⟩; have syr := Ext.size yr; (repeat (first | rw [World.size_alloc] at syr | rw [World.size_setCell] at syr | rw [World.size_drew] at syr)); have : w.heap.size < yr.now.heap.size := (by omega); have : w.heap.size ≤ yr.now.heap.size := (by omega); have : w.heap.size < yr.now.heap.size + 1 + 1 := (by omega)) | (go_at_call 48; (first | with_reducible refine (Calls.giv2 (c1 _ bcl)).mono ?_ | with_reducible refine (Calls.giv (c1 _ bcl)).mono ?_); rintro _ _ ⟨y1, rfl, rfl⟩; have sy1 := Ext.size y1; (repeat (first | rw [World.size_alloc] at sy1 | rw [World.size_setCell] at sy1 | rw [World.size_drew] at sy1)); have : w.heap.size < y1.now.heap.size := (by omega); have : w.heap.size ≤ y1.now.heap.size := (by omega); have : w.heap.size < y1.now.heap.size + 1 + 1 := (by omega)) | (go_at_call 62; (first | with_reducible refine (Calls.giv2 (c2 _ bcl)).mono ?_ | with_reducible refine (Calls.giv (c2 _ bcl)).mono ?_); rintro _ _ ⟨y2, rfl, rfl⟩; have sy2 := Ext.size y2; (repeat (first | rw [World.size_alloc] at sy2 | rw [World.size_setCell] at sy2 | rw [World.size_drew] at sy2)); have : w.heap.size < y2.now.heap.size := (by omega); have : w.heap.size ≤ y2.now.heap.size := (by omega); have : w.heap.size < y2.now.heap.size + 1 + 1 := (by omega)) | (go_at_call 59; (first | with_reducible refine (Calls.giv2 (c3 _)).mono ?_ | with_reducible refine (Calls.giv (c3 _)).mono ?_); rintro _ _ ⟨y3, rfl, rfl⟩; have sy3 := Ext.size y3; (repeat (first | rw [World.size_alloc] at sy3 | rw [World.size_setCell] at sy3 | rw [World.size_drew] at sy3)); have : w.heap.size < y3.now.heap.size := (by omega); have : w.heap.size ≤ y3.now.heap.size := (by omega); have : w.heap.size < y3.now.heap.size + 1 + 1 := (by omega)) | (go_at_call 63; (first | with_reducible refine (Calls.giv2 (c4 _ bcl)).mono ?_ | with_reducible refine (Calls.giv (c4 _ bcl)).mono ?_); rintro _ _ ⟨y4, rfl, rfl⟩; have sy4 := Ext.size y4; (repeat (first | rw [World.size_alloc] at sy4 | rw [World.size_setCell] at sy4 | rw [World.size_drew] at sy4)); have : w.heap.size < y4.now.heap.size := (by omega); have : w.heap.size ≤ y4.now.heap.size := (by omega); have : w.heap.size < y4.now.heap.size + 1 + 1 := (by omega)))
          go_returns
          refine ⟨rfl, ?_⟩
          repeat' (first | (with_reducible exact Below.refl _ _) | (with_reducible assumption) | (with_reducible refine Ext.below _ ?_ ?_) | (with_reducible refine Below.on ?_ (by with_reducible assumption) ?_) | (with_reducible refine Below.alloc ?_ ?_ _) | (with_reducible refine Below.drew ?_) | (with_reducible refine Below.setCell ?_ ?_ _) | (with_reducible exact Nat.le_refl _) | omega | (simp; done) | (simp [go_sem]; done) | (simp at *; omega))
        · rw [if_neg h4]
          simp only [show ((7 : Int) = 0) = False by simp, if_false]
          rw [decide_eq_false h4] at c3
          unfold LandR.val at *
          clear hl hg hx hgk hok h1 h2 hair h4 h3
          generalize l.length = n at *
          generalize g.length = gn at *
          generalize x.pl.length = n1 at *
          generalize x.wl.length = n2 at *
          go_enter Tryd.func35, Tryd.ntmps35
          go_wp2_with (first | ((first | with_reducible refine wrx2 ?_ | with_reducible refine wrx ?_); (repeat (first | go_big_quiet_step ((first | (go_at_call 48; with_reducible exact Calls.ext (c1 _ bcl)) | (go_at_call 62; with_reducible exact Calls.ext (c2 _ bcl)) | (go_at_call 59; with_reducible exact Calls.ext (c3 _)))) | quiet_step ((first | (go_at_call 48; with_reducible exact Calls.ext (c1 _ bcl)) | (go_at_call 62; with_reducible exact Calls.ext (c2 _ bcl)) | (go_at_call 59; with_reducible exact Calls.ext (c3 _)))))); refine wpQuiet_nil ?_; rintro _ ⟨yr, rfl⟩; have syr := Ext.size yr; (repeat (first | rw [World.size_alloc] at syr | rw [World.size_setCell] at syr | rw [World.size_drew] at syr)); have : w.heap.size < yr.now.heap.size := (by omega); have : w.heap.size ≤ yr.now.heap.size := (by omega); have : w.heap.size < yr.now.heap.size + 1 + 1 := (by omega)) | (go_at_call 48; (first | with_reducible refine (Calls.giv2 (c1 _ bcl)).mono ?_ | with_reducible refine (Calls.giv (c1 _ bcl)).mono ?_); rintro _ _ ⟨y1, rfl, rfl⟩; have sy1 := Ext.size y1; (repeat (first | rw [World.size_alloc] at sy1 | rw [World.size_setCell] at sy1 | rw [World.size_drew] at sy1)); have : w.heap.size < y1.now.heap.size := (by omega); have : w.heap.size ≤ y1.now.heap.size := (by omega); have : w.heap.size < y1.now.heap.size + 1 + 1 := (by omega)) | (go_at_call 62; (first | with_reducible refine (Calls.giv2 (c2 _ bcl)).mono ?_ | with_reducible refine (Calls.giv (c2 _ bcl)).mono ?_); rintro _ _ ⟨y2, rfl, rfl⟩; have sy2 := Ext.size y2; (repeat (first | rw [World.size_alloc] at sy2 | rw [World.size_setCell] at sy2 | rw [World.size_drew] at sy2)); have : w.heap.size < y2.now.heap.size := (by omega); have : w.heap.size ≤ y2.now.heap.size := (by omega); have : w.heap.size < y2.now.heap.size + 1 + 1 := (by omega)) | (go_at_call 59; (first | with_reducible refine (Calls.giv2 (c3 _)).mono ?_ | with_reducible refine (Calls.giv (c3 _)).mono ?_); rintro _ _ ⟨y3, rfl, rfl⟩; have sy3 := Ext.size y3; (repeat (first | rw [World.size_alloc] at sy3 | rw [World.size_setCell] at sy3 | rw [World.size_drew] at sy3)); have : w.heap.size < y3.now.heap.size := (by omega); have : w.heap.size ≤ y3.now.heap.size := (by omega); have : w.heap.size < y3.now.heap.size + 1 + 1 := (by omega)))
          go_returns
          refine ⟨rfl, ?_⟩
          repeat' (first | (with_reducible exact Below.refl _ _) | (with_reducible assumption) | (with_reducible refine Ext.below _ ?_ ?_) | (with_reducible refine Below.on ?_ (by with_reducible assumption) ?_) | (with_reducible refine Below.alloc ?_ ?_ _) | (with_reducible refine Below.drew ?_) | (with_reducible refine Below.setCell ?_ ?_ _) | (with_reducible exact Nat.le_refl _) | omega | (simp; done) | (simp [go_sem]; done) | (simp at *; omega))
    · rw [if_pos h2, if_neg h2]
      generalize sceneE g x = E at *
      unfold LandR.val at *
      clear hl hg hx h1 hair c3
      generalize l.length = n at *
      generalize g.length = gn at *
      generalize x.pl.length = n1 at *
      generalize x.wl.length = n2 at *
      go_enter Tryd.func35, Tryd.ntmps35
      go_wp2_with (first | ((first | with_reducible refine wrx2 ?_ | with_reducible refine wrx ?_); (repeat (first | go_big_quiet_step ((first | (go_at_call 48; with_reducible exact Calls.ext (c1 _ bcl)) | (go_at_call 62; with_reducible exact Calls.ext (c2 _ bcl)))) | quiet_step ((first | (go_at_call 48; with_reducible exact Calls.ext (c1 _ bcl)) | (go_at_call 62; with_reducible exact Calls.ext (c2 _ bcl)))))); refine wpQuiet_nil ?_; rintro _ ⟨yr, rfl⟩; have syr := Ext.size yr; (repeat (first | rw [World.size_alloc] at syr | rw [World.size_setCell] at syr | rw [World.size_drew] at syr)); have : w.heap.size < yr.now.heap.size := (by omega); have : w.heap.size ≤ yr.now.heap.size := (by omega); have : w.heap.size < yr.now.heap.size + 1 + 1 := (by omega)) | (go_at_call 48; (first | with_reducible refine (Calls.giv2 (c1 _ bcl)).mono ?_ | with_reducible refine (Calls.giv (c1 _ bcl)).mono ?_); rintro _ _ ⟨y1, rfl, rfl⟩; have sy1 := Ext.size y1; (repeat (first | rw [World.size_alloc] at sy1 | rw [World.size_setCell] at sy1 | rw [World.size_drew] at sy1)); have : w.heap.size < y1.now.heap.size := (by omega); have : w.heap.size ≤ y1.now.heap.size := (by omega); have : w.heap.size < y1.now.heap.size + 1 + 1 := (by omega)) | (go_at_call 62; (first | with_reducible refine (Calls.giv2 (c2 _ bcl)).mono ?_ | with_reducible refine (Calls.giv (c2 _ bcl)).mono ?_); rintro _ _ ⟨y2, rfl, rfl⟩; have sy2 := Ext.size y2; (repeat (first | rw [World.size_alloc] at sy2 | rw [World.size_setCell] at sy2 | rw [World.size_drew] at sy2)); have : w.heap.size < y2.now.heap.size := (by omega); have : w.heap.size ≤ y2.now.heap.size := (by omega); have : w.heap.size < y2.now.heap.size + 1 + 1 := (by omega)))
      go_returns
      refine ⟨rfl, ?_⟩
      repeat' (first | (with_reducible exact Below.refl _ _) | (with_reducible assumption) | (with_reducible refine Ext.below _ ?_ ?_) | (with_reducible refine Below.on ?_ (by with_reducible assumption) ?_) | (with_reducible refine Below.alloc ?_ ?_ _) | (with_reducible refine Below.drew ?_) | (with_reducible refine Below.setCell ?_ ?_ _) | (with_reducible exact Nat.le_refl _) | omega | (simp; done) | (simp [go_sem]; done) | (simp at *; omega))
  · rw [if_pos h1, if_neg h1]
    generalize airE l = E at *
    unfold LandR.val at *
    clear hl hg hx c2 c3
    generalize l.length = n at *
    generalize g.length = gn at *
    generalize x.pl.length = n1 at *
    generalize x.wl.length = n2 at *
    go_enter Tryd.func35, Tryd.ntmps35
    go_wp2_with (first | ((first | with_reducible refine wrx2 ?_ | with_reducible refine wrx ?_); (repeat (first | go_big_quiet_step ((first | (go_at_call 48; with_reducible exact Calls.ext (c1 _ bcl)))) | quiet_step ((first | (go_at_call 48; with_reducible exact Calls.ext (c1 _ bcl)))))); refine wpQuiet_nil ?_; rintro _ ⟨yr, rfl⟩; have syr := Ext.size yr; (repeat (first | rw [World.size_alloc] at syr | rw [World.size_setCell] at syr | rw [World.size_drew] at syr)); have : w.heap.size < yr.now.heap.size := (by omega); have : w.heap.size ≤ yr.now.heap.size := (by omega); have : w.heap.size < yr.now.heap.size + 1 + 1 := (by omega)) | (go_at_call 48; (first | with_reducible refine (Calls.giv2 (c1 _ bcl)).mono ?_ | with_reducible refine (Calls.giv (c1 _ bcl)).mono ?_); rintro _ _ ⟨y1, rfl, rfl⟩; have sy1 := Ext.size y1; (repeat (first | rw [World.size_alloc] at sy1 | rw [World.size_setCell] at sy1 | rw [World.size_drew] at sy1)); have : w.heap.size < y1.now.heap.size := (by omega); have : w.heap.size ≤ y1.now.heap.size := (by omega); have : w.heap.size < y1.now.heap.size + 1 + 1 := (by omega)))
    go_returns
    refine ⟨rfl, ?_⟩
    repeat' (first | (with_reducible exact Below.refl _ _) | (with_reducible assumption) | (with_reducible refine Ext.below _ ?_ ?_) | (with_reducible refine Below.on ?_ (by with_reducible assumption) ?_) | (with_reducible refine Below.alloc ?_ ?_ _) | (with_reducible refine Below.drew ?_) | (with_reducible refine Below.setCell ?_ ?_ _) | (with_reducible exact Nat.le_refl _) | omega | (simp; done) | (simp [go_sem]; done) | (simp at *; omega))
end Go.Proofs.YtlmhbggigbmeaaaDoor

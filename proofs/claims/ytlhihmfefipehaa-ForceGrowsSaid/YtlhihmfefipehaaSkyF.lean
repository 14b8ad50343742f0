/- Contracts of At, where, Where. Condition: the cells that are read. -/
import Derived.Test.YtlhihmfefipehaaSkyEG
namespace Go.Proofs.Ytlhihmfefipehaa
open Go.RowKit Go.Shelf
attribute [local go_sem] Option.isSome_some Ext.cell Ext.frozen Ext.lt Ext.le Ext.lt_add Ext.le_add Ext.ne Ext.ne' lt2 lt3 lt4 lt5 le2 le3 le4
theorem wp_named {c : Code} {P : Program} {Q : Exit → Act → World → Prop} {a : Act} {w : World} (h : ∀ W0, w = W0 → c.wp P Q a W0) : c.wp P Q a w := h w rfl
def atV (l : List BodyR) (h b t : Int) : V2 := if worldE l h = 0 ∧ (0 ≤ b ∧ b < l.length) ∧ tickB t = true then trackAt (bodyAt l b) t else ⟨0, 0⟩
theorem bodyAt_get {l : List BodyR} {k : Nat} (h : k < l.length) : bodyAt l k = l[k].track := by
  unfold bodyAt; simp [List.getElem?_eq_getElem h]
theorem trackAt_in {l : List V2} {t : Int} (h1 : 1 ≤ l.length) (h : placesE l = 0) : vwinB (trackAt l t) 33554432 = true := by
  have hm0 := Int.emod_nonneg t (b := (l.length : Int)) (by omega)
  have hm1 := Int.emod_lt_of_pos t (b := (l.length : Int)) (by omega)
  obtain ⟨k, hk⟩ := Int.eq_ofNat_of_zero_le hm0
  have hkl : k < l.length := by omega
  rw [trackAt_get hkl (by rw [hk]; exact Int.toNat_natCast k)]
  exact placesE_zero h k hkl
set_option maxHeartbeats 4000000 in
theorem At_any (p : Option Addr) (c : Nat) (l : List BodyR) (h b t : Int) (w : World) (hP : BodiesAt w p l) :
    Calls Try.prog 71 #[wval p l.length c h, .int .i64 b, .int .i64 t] w (Gives (.agg #[.int .i64 (atV l h b t).x, .int .i64 (atV l h b t).y]) w) := by
  have cw := fun (W : World) (y : Below w.heap.size w W) => CheckWorld_any p c l h W (hP.on y)
  have ch := fun (W : World) => hasBody_any p l.length c h b W
  have ct := fun (W : World) => isTick_any t W
  unfold wval at *
  by_cases h1 : worldE l h = 0
  · by_cases h2 : 0 ≤ b ∧ b < l.length
    · cases h3 : tickB t
      · have e : atV l h b t = ⟨0, 0⟩ := by unfold atV; rw [if_neg (by simp [h3])]
        rw [e]
        rw [h1] at cw
        rw [decide_eq_true h2] at ch
        rw [h3] at ct
        clear e h1 h2 h3 hP
        generalize l.length = n at *
        go_enter Try.func71, Try.ntmps71
        go_wp2_with (first | ((first | with_reducible refine wrx2 ?_ | with_reducible refine wrx ?_); (repeat (first | go_big_quiet_step ((first | (go_at_call 41; with_reducible exact Calls.ext (cw _ bcl)) | (go_at_call 68; with_reducible exact Calls.ext (ch _)) | (go_at_call 92; with_reducible exact Calls.ext (ct _)))) | quiet_step ((first | (go_at_call 41; with_reducible exact Calls.ext (cw _ bcl)) | (go_at_call 68; with_reducible exact Calls.ext (ch _)) | (go_at_call 92; with_reducible exact Calls.ext (ct _)))))); refine wpQuiet_nil ?_; rintro _ ⟨yr, rfl⟩; have syr := Ext.size yr; (repeat (first | rw [World.size_alloc] at syr | rw [World.size_setCell] at syr | rw [World.size_drew] at syr))) | (go_at_call 41; (first | with_reducible refine (Calls.giv2 (cw _ bcl)).mono ?_ | with_reducible refine (Calls.giv (cw _ bcl)).mono ?_); rintro _ _ ⟨y1, rfl, rfl⟩; have sy1 := Ext.size y1; (repeat (first | rw [World.size_alloc] at sy1 | rw [World.size_setCell] at sy1 | rw [World.size_drew] at sy1))) | (go_at_call 68; (first | with_reducible refine (Calls.giv2 (ch _)).mono ?_ | with_reducible refine (Calls.giv (ch _)).mono ?_); rintro _ _ ⟨y2, rfl, rfl⟩; have sy2 := Ext.size y2; (repeat (first | rw [World.size_alloc] at sy2 | rw [World.size_setCell] at sy2 | rw [World.size_drew] at sy2))) | (go_at_call 92; (first | with_reducible refine (Calls.giv2 (ct _)).mono ?_ | with_reducible refine (Calls.giv (ct _)).mono ?_); rintro _ _ ⟨y3, rfl, rfl⟩; have sy3 := Ext.size y3; (repeat (first | rw [World.size_alloc] at sy3 | rw [World.size_setCell] at sy3 | rw [World.size_drew] at sy3))))
        go_returns
        refine ⟨rfl, ?_⟩
        repeat' (first | (with_reducible exact Below.refl _ _) | (with_reducible assumption) | (with_reducible refine Ext.below _ ?_ ?_) | (with_reducible refine Below.on ?_ (by with_reducible assumption) ?_) | (with_reducible refine Below.alloc ?_ ?_ _) | (with_reducible refine Below.drew ?_) | (with_reducible refine Below.setCell ?_ ?_ _) | (with_reducible exact Nat.le_refl _) | omega | (simp; done) | (simp [go_sem]; done) | (simp at *; omega))
      · have e : atV l h b t = trackAt (bodyAt l b) t := by unfold atV; rw [if_pos ⟨h1, h2, h3⟩]
        rw [e]
        obtain ⟨b0, b1⟩ := h2
        obtain ⟨k, rfl⟩ := Int.eq_ofNat_of_zero_le b0
        have hk : k < l.length := by omega
        rw [bodyAt_get hk]
        have hz := bodyE_zero ((worldE_zero h1).1 k hk)
        obtain ⟨-, -, -, -, z1, z2, -⟩ := hz
        have hPk := (hP k hk).1
        have ca := fun (W : World) (y : Below w.heap.size w W) => at_any l[k].tp l[k].tc l[k].track t W (hPk.on y) z1 z2 h3
        obtain ⟨-, B, o, rfl, hB, -, -, c3⟩ := hP k hk
        have : B < (w).heap.size := (by omega); have : B < (w).heap.size + 1 := (by omega); have : B < (w).heap.size + 1 + 1 := (by omega); have : B ≠ (w).heap.size := (by omega); have : B ≠ (w).heap.size + 1 := (by omega)
        rw [h1] at cw
        rw [decide_eq_true ⟨b0, b1⟩] at ch
        rw [h3] at ct
        clear e h1 h3 hP hPk z1 z2
        generalize trackAt l[k].track t = v at *
        generalize l[k].track.length = n1 at *
        generalize l[k].tp = n2 at *
        generalize l[k].tc = n3 at *
        generalize l.length = n at *
        go_enter Try.func71, Try.ntmps71
        go_wp2_with (first | ((first | with_reducible refine wrx2 ?_ | with_reducible refine wrx ?_); (repeat (first | go_big_quiet_step ((first | (go_at_call 41; with_reducible exact Calls.ext (cw _ bcl)) | (go_at_call 68; with_reducible exact Calls.ext (ch _)) | (go_at_call 92; with_reducible exact Calls.ext (ct _)) | (go_at_call 93; with_reducible exact Calls.ext (ca _ bcl)))) | quiet_step ((first | (go_at_call 41; with_reducible exact Calls.ext (cw _ bcl)) | (go_at_call 68; with_reducible exact Calls.ext (ch _)) | (go_at_call 92; with_reducible exact Calls.ext (ct _)) | (go_at_call 93; with_reducible exact Calls.ext (ca _ bcl)))))); refine wpQuiet_nil ?_; rintro _ ⟨yr, rfl⟩; have syr := Ext.size yr; (repeat (first | rw [World.size_alloc] at syr | rw [World.size_setCell] at syr | rw [World.size_drew] at syr)); have : B < yr.now.heap.size := (by omega); have : B ≤ yr.now.heap.size := (by omega); have : B < yr.now.heap.size + 1 + 1 := (by omega)) | (go_at_call 41; (first | with_reducible refine (Calls.giv2 (cw _ bcl)).mono ?_ | with_reducible refine (Calls.giv (cw _ bcl)).mono ?_); rintro _ _ ⟨y1, rfl, rfl⟩; have sy1 := Ext.size y1; (repeat (first | rw [World.size_alloc] at sy1 | rw [World.size_setCell] at sy1 | rw [World.size_drew] at sy1)); have : B < y1.now.heap.size := (by omega); have : B ≤ y1.now.heap.size := (by omega); have : B < y1.now.heap.size + 1 + 1 := (by omega)) | (go_at_call 68; (first | with_reducible refine (Calls.giv2 (ch _)).mono ?_ | with_reducible refine (Calls.giv (ch _)).mono ?_); rintro _ _ ⟨y2, rfl, rfl⟩; have sy2 := Ext.size y2; (repeat (first | rw [World.size_alloc] at sy2 | rw [World.size_setCell] at sy2 | rw [World.size_drew] at sy2)); have : B < y2.now.heap.size := (by omega); have : B ≤ y2.now.heap.size := (by omega); have : B < y2.now.heap.size + 1 + 1 := (by omega)) | (go_at_call 92; (first | with_reducible refine (Calls.giv2 (ct _)).mono ?_ | with_reducible refine (Calls.giv (ct _)).mono ?_); rintro _ _ ⟨y3, rfl, rfl⟩; have sy3 := Ext.size y3; (repeat (first | rw [World.size_alloc] at sy3 | rw [World.size_setCell] at sy3 | rw [World.size_drew] at sy3)); have : B < y3.now.heap.size := (by omega); have : B ≤ y3.now.heap.size := (by omega); have : B < y3.now.heap.size + 1 + 1 := (by omega)) | (go_at_call 93; (first | with_reducible refine (Calls.giv2 (ca _ bcl)).mono ?_ | with_reducible refine (Calls.giv (ca _ bcl)).mono ?_); rintro _ _ ⟨y4, rfl, rfl⟩; have sy4 := Ext.size y4; (repeat (first | rw [World.size_alloc] at sy4 | rw [World.size_setCell] at sy4 | rw [World.size_drew] at sy4)); have : B < y4.now.heap.size := (by omega); have : B ≤ y4.now.heap.size := (by omega); have : B < y4.now.heap.size + 1 + 1 := (by omega)))
        go_returns
        refine ⟨rfl, ?_⟩
        repeat' (first | (with_reducible exact Below.refl _ _) | (with_reducible assumption) | (with_reducible refine Ext.below _ ?_ ?_) | (with_reducible refine Below.on ?_ (by with_reducible assumption) ?_) | (with_reducible refine Below.alloc ?_ ?_ _) | (with_reducible refine Below.drew ?_) | (with_reducible refine Below.setCell ?_ ?_ _) | (with_reducible exact Nat.le_refl _) | omega | (simp; done) | (simp [go_sem]; done) | (simp at *; omega))
    · have e : atV l h b t = ⟨0, 0⟩ := by unfold atV; rw [if_neg (fun x => h2 x.2.1)]
      rw [e]
      rw [h1] at cw
      rw [decide_eq_false h2] at ch
      clear e h1 h2 hP
      generalize l.length = n at *
      go_enter Try.func71, Try.ntmps71
      go_wp2_with (first | ((first | with_reducible refine wrx2 ?_ | with_reducible refine wrx ?_); (repeat (first | go_big_quiet_step ((first | (go_at_call 41; with_reducible exact Calls.ext (cw _ bcl)) | (go_at_call 68; with_reducible exact Calls.ext (ch _)) | (go_at_call 92; with_reducible exact Calls.ext (ct _)))) | quiet_step ((first | (go_at_call 41; with_reducible exact Calls.ext (cw _ bcl)) | (go_at_call 68; with_reducible exact Calls.ext (ch _)) | (go_at_call 92; with_reducible exact Calls.ext (ct _)))))); refine wpQuiet_nil ?_; rintro _ ⟨yr, rfl⟩; have syr := Ext.size yr; (repeat (first | rw [World.size_alloc] at syr | rw [World.size_setCell] at syr | rw [World.size_drew] at syr))) | (go_at_call 41; (first | with_reducible refine (Calls.giv2 (cw _ bcl)).mono ?_ | with_reducible refine (Calls.giv (cw _ bcl)).mono ?_); rintro _ _ ⟨y1, rfl, rfl⟩; have sy1 := Ext.size y1; (repeat (first | rw [World.size_alloc] at sy1 | rw [World.size_setCell] at sy1 | rw [World.size_drew] at sy1))) | (go_at_call 68; (first | with_reducible refine (Calls.giv2 (ch _)).mono ?_ | with_reducible refine (Calls.giv (ch _)).mono ?_); rintro _ _ ⟨y2, rfl, rfl⟩; have sy2 := Ext.size y2; (repeat (first | rw [World.size_alloc] at sy2 | rw [World.size_setCell] at sy2 | rw [World.size_drew] at sy2))) | (go_at_call 92; (first | with_reducible refine (Calls.giv2 (ct _)).mono ?_ | with_reducible refine (Calls.giv (ct _)).mono ?_); rintro _ _ ⟨y3, rfl, rfl⟩; have sy3 := Ext.size y3; (repeat (first | rw [World.size_alloc] at sy3 | rw [World.size_setCell] at sy3 | rw [World.size_drew] at sy3))))
      go_returns
      refine ⟨rfl, ?_⟩
      repeat' (first | (with_reducible exact Below.refl _ _) | (with_reducible assumption) | (with_reducible refine Ext.below _ ?_ ?_) | (with_reducible refine Below.on ?_ (by with_reducible assumption) ?_) | (with_reducible refine Below.alloc ?_ ?_ _) | (with_reducible refine Below.drew ?_) | (with_reducible refine Below.setCell ?_ ?_ _) | (with_reducible exact Nat.le_refl _) | omega | (simp; done) | (simp [go_sem]; done) | (simp at *; omega))
  · have e : atV l h b t = ⟨0, 0⟩ := by unfold atV; rw [if_neg (fun x => h1 x.1)]
    rw [e]
    clear e hP
    generalize l.length = n at *
    generalize worldE l h = e at *
    go_enter Try.func71, Try.ntmps71
    go_wp2_with (first | ((first | with_reducible refine wrx2 ?_ | with_reducible refine wrx ?_); (repeat (first | go_big_quiet_step ((first | (go_at_call 41; with_reducible exact Calls.ext (cw _ bcl)) | (go_at_call 68; with_reducible exact Calls.ext (ch _)) | (go_at_call 92; with_reducible exact Calls.ext (ct _)))) | quiet_step ((first | (go_at_call 41; with_reducible exact Calls.ext (cw _ bcl)) | (go_at_call 68; with_reducible exact Calls.ext (ch _)) | (go_at_call 92; with_reducible exact Calls.ext (ct _)))))); refine wpQuiet_nil ?_; rintro _ ⟨yr, rfl⟩; have syr := Ext.size yr; (repeat (first | rw [World.size_alloc] at syr | rw [World.size_setCell] at syr | rw [World.size_drew] at syr))) | (go_at_call 41; (first | with_reducible refine (Calls.giv2 (cw _ bcl)).mono ?_ | with_reducible refine (Calls.giv (cw _ bcl)).mono ?_); rintro _ _ ⟨y1, rfl, rfl⟩; have sy1 := Ext.size y1; (repeat (first | rw [World.size_alloc] at sy1 | rw [World.size_setCell] at sy1 | rw [World.size_drew] at sy1))) | (go_at_call 68; (first | with_reducible refine (Calls.giv2 (ch _)).mono ?_ | with_reducible refine (Calls.giv (ch _)).mono ?_); rintro _ _ ⟨y2, rfl, rfl⟩; have sy2 := Ext.size y2; (repeat (first | rw [World.size_alloc] at sy2 | rw [World.size_setCell] at sy2 | rw [World.size_drew] at sy2))) | (go_at_call 92; (first | with_reducible refine (Calls.giv2 (ct _)).mono ?_ | with_reducible refine (Calls.giv (ct _)).mono ?_); rintro _ _ ⟨y3, rfl, rfl⟩; have sy3 := Ext.size y3; (repeat (first | rw [World.size_alloc] at sy3 | rw [World.size_setCell] at sy3 | rw [World.size_drew] at sy3))))
    go_returns
    refine ⟨rfl, ?_⟩
    repeat' (first | (with_reducible exact Below.refl _ _) | (with_reducible assumption) | (with_reducible refine Ext.below _ ?_ ?_) | (with_reducible refine Below.on ?_ (by with_reducible assumption) ?_) | (with_reducible refine Below.alloc ?_ ?_ _) | (with_reducible refine Below.drew ?_) | (with_reducible refine Below.setCell ?_ ?_ _) | (with_reducible exact Nat.le_refl _) | omega | (simp; done) | (simp [go_sem]; done) | (simp at *; omega))
/-- The place of the station with this number, Home being at h. -/
def whereL (h : V2) (id : Int) : List StR → V2 × Bool
  | [] => (⟨0, 0⟩, false)
  | o :: l => if o.id = id then (⟨h.x + o.off.x, h.y + o.off.y⟩, true) else whereL h id l
def homeAt (s : SkyR) (t : Int) : V2 := trackAt (bodyAt s.bodies s.home) t
def pairV (r : V2 × Bool) : Value := .tuple #[.agg #[.int .i64 r.1.x, .int .i64 r.1.y], .bool r.2]
end Go.Proofs.Ytlhihmfefipehaa

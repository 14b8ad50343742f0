/- The reference's Ends, for a valid air and a valid stone. Condition: the air in memory. -/
import Derived.Test.YtfjieblihbnmjaaDoorBlN4G
import Derived.Test.YtfjieblihbnmjaaDoorBlC3
namespace Go.Proofs.YtfjieblihbnmjaaDoor
open Go.RowKit Go.Shelf
attribute [local go_sem] Option.isSome_some Ext.cell Ext.frozen Ext.lt Ext.le Ext.lt_add Ext.le_add Ext.ne Ext.ne' lt2 lt3 lt4 lt5 le2 le3 le4
set_option maxRecDepth 100000 in
set_option maxHeartbeats 8000000 in
theorem rEnds_ok (p : Option Addr) (cap : Nat) (l : List V2) (s : StoneR) (w : World) (hP : VecsAt w p l) (ha : airE l = 0) (hs : s.Ok) :
    Calls Tryd.prog 13 #[.slice p l.length cap, s.val] w (Gives (.tuple #[.int .i64 (endOf l s).1, .int .i64 (massV s * (endOf l s).2), .int .i64 0]) w) := by
  obtain ⟨hl, hair⟩ := air_ok ha
  have ca := fun (W : World) (y : Below w.heap.size w W) => rCheckAir_any p cap l W (hP.on y) (by omega)
  rw [ha] at ca
  have cs := fun (W : World) => rCheckStone_any s W
  rw [show stoneE s = 0 by unfold stoneE; rw [if_pos (stoneB_ok.2 hs)]] at cs
  have ch := fun W => rholds_any s hs W
  have cm := fun W => rmass_any s hs W
  have hw0 : 0 ≤ s.speed * s.speed ∧ s.speed * s.speed ≤ 64000000 := by
    have a := hs.speed
    have b := Int.mul_nonneg (show 0 ≤ s.speed by omega) (show 0 ≤ s.speed by omega)
    have c := Int.mul_le_mul a.2 a.2 (by omega) (by omega)
    omega
  have wrp : wrap64 (s.speed * s.speed) = s.speed * s.speed := IntWalk.wrap64_in _ (by omega)
  unfold endOf
  obtain ⟨V, hV⟩ : ∃ V, fallI (holdsV s) (kOf s) (dOf s) l 0 (s.speed * s.speed) = V := ⟨_, rfl⟩
  rw [hV]
  replace hV := Go.Lib.hid hV
  unfold StoneR.val StoneR.vals at *
  replace hair := Go.Lib.hid hair
  replace hs := Go.Lib.hid hs
  replace hP := Go.Lib.hid hP
  replace hw0 := Go.Lib.hid hw0
  clear ha
  go_enter Tryd.func13, Tryd.ntmps13
  go_wp2_with (first | ((first | with_reducible refine wp_region_ext2 (by kernel_rfl) (by kernel_rfl) ?_ | with_reducible refine wp_region_ext (by kernel_rfl) (by kernel_rfl) ?_); (repeat (first | go_big_quiet_step ((first | (go_at_call 50; with_reducible exact Calls.ext (ca _ (by repeat' (first | (with_reducible exact Below.refl _ _) | (with_reducible assumption) | (with_reducible refine Ext.below _ ?_ ?_) | (with_reducible refine Below.on ?_ (by with_reducible assumption) ?_) | (with_reducible refine Below.alloc ?_ ?_ _) | (with_reducible refine Below.drew ?_) | (with_reducible refine Below.setCell ?_ ?_ _) | (with_reducible exact Nat.le_refl _) | omega | (simp; done) | (simp [go_sem]; done) | (simp at *; omega))))) | (go_at_call 51; with_reducible exact Calls.ext (cs _)))) | quiet_step ((first | (go_at_call 50; with_reducible exact Calls.ext (ca _ (by repeat' (first | (with_reducible exact Below.refl _ _) | (with_reducible assumption) | (with_reducible refine Ext.below _ ?_ ?_) | (with_reducible refine Below.on ?_ (by with_reducible assumption) ?_) | (with_reducible refine Below.alloc ?_ ?_ _) | (with_reducible refine Below.drew ?_) | (with_reducible refine Below.setCell ?_ ?_ _) | (with_reducible exact Nat.le_refl _) | omega | (simp; done) | (simp [go_sem]; done) | (simp at *; omega))))) | (go_at_call 51; with_reducible exact Calls.ext (cs _)))))); refine wpQuiet_nil ?_; rintro _ ⟨yr, rfl⟩; have syr := Ext.size yr; (repeat (first | rw [World.size_alloc] at syr | rw [World.size_setCell] at syr | rw [World.size_drew] at syr)); have : w.heap.size < yr.now.heap.size := (by omega); have : w.heap.size ≤ yr.now.heap.size := (by omega); have : w.heap.size < yr.now.heap.size + 1 + 1 := (by omega)) | (go_at_call 50; (first | with_reducible refine (Calls.giv2 (ca _ (by repeat' (first | (with_reducible exact Below.refl _ _) | (with_reducible assumption) | (with_reducible refine Ext.below _ ?_ ?_) | (with_reducible refine Below.on ?_ (by with_reducible assumption) ?_) | (with_reducible refine Below.alloc ?_ ?_ _) | (with_reducible refine Below.drew ?_) | (with_reducible refine Below.setCell ?_ ?_ _) | (with_reducible exact Nat.le_refl _) | omega | (simp; done) | (simp [go_sem]; done) | (simp at *; omega))))).mono ?_ | with_reducible refine (Calls.giv (ca _ (by repeat' (first | (with_reducible exact Below.refl _ _) | (with_reducible assumption) | (with_reducible refine Ext.below _ ?_ ?_) | (with_reducible refine Below.on ?_ (by with_reducible assumption) ?_) | (with_reducible refine Below.alloc ?_ ?_ _) | (with_reducible refine Below.drew ?_) | (with_reducible refine Below.setCell ?_ ?_ _) | (with_reducible exact Nat.le_refl _) | omega | (simp; done) | (simp [go_sem]; done) | (simp at *; omega))))).mono ?_); rintro _ _ ⟨y1, rfl, rfl⟩; have sy1 := Ext.size y1; (repeat (first | rw [World.size_alloc] at sy1 | rw [World.size_setCell] at sy1 | rw [World.size_drew] at sy1)); have : w.heap.size < y1.now.heap.size := (by omega); have : w.heap.size ≤ y1.now.heap.size := (by omega); have : w.heap.size < y1.now.heap.size + 1 + 1 := (by omega)) | (go_at_call 51; (first | with_reducible refine (Calls.giv2 (cs _)).mono ?_ | with_reducible refine (Calls.giv (cs _)).mono ?_); rintro _ _ ⟨y2, rfl, rfl⟩; have sy2 := Ext.size y2; (repeat (first | rw [World.size_alloc] at sy2 | rw [World.size_setCell] at sy2 | rw [World.size_drew] at sy2)); have : w.heap.size < y2.now.heap.size := (by omega); have : w.heap.size ≤ y2.now.heap.size := (by omega); have : w.heap.size < y2.now.heap.size + 1 + 1 := (by omega)))
  rw [wrp]
  refine wp_named (fun W0 hW => ?_)
  have hB0 : Below w.heap.size w W0 := by rw [← hW]; repeat' (first | (with_reducible exact Below.refl _ _) | (with_reducible assumption) | (with_reducible refine Ext.below _ ?_ ?_) | (with_reducible refine Below.on ?_ (by with_reducible assumption) ?_) | (with_reducible refine Below.alloc ?_ ?_ _) | (with_reducible refine Below.drew ?_) | (with_reducible refine Below.setCell ?_ ?_ _) | (with_reducible exact Nat.le_refl _) | omega | (simp; done) | (simp [go_sem]; done) | (simp at *; omega))
  have lS : w.heap.size < W0.heap.size := by rw [← hW]; assumption
  have q0 : W0.cell? ⟨w.heap.size, 0, none⟩ = some (.int .i64 s.size) := by rw [← hW]; simp [go_sem]
  have q1 : W0.cell? ⟨w.heap.size, 1, none⟩ = some (.int .i64 s.dens) := by rw [← hW]; simp [go_sem]
  have q2 : W0.cell? ⟨w.heap.size, 2, none⟩ = some (.int .i64 s.strong) := by rw [← hW]; simp [go_sem]
  have q3 : W0.cell? ⟨w.heap.size, 3, none⟩ = some (.int .i64 s.spin) := by rw [← hW]; simp [go_sem]
  have q4 : W0.cell? ⟨w.heap.size, 4, none⟩ = some (.int .i64 s.shape) := by rw [← hW]; simp [go_sem]
  have q5 : W0.cell? ⟨w.heap.size, 5, none⟩ = some (.bool s.pile) := by rw [← hW]; simp [go_sem]
  have q6 : W0.cell? ⟨w.heap.size, 6, none⟩ = some (.int .i64 s.speed) := by rw [← hW]; simp [go_sem]
  have q7 : W0.cell? ⟨w.heap.size, 7, none⟩ = some (.int .i64 s.slope) := by rw [← hW]; simp [go_sem]
  have hP0 := Go.Lib.hid (hP.out.on hB0)
  clear hW
  have mb := Go.Lib.hid (mass_bounds hs.out)
  go_loopw [9, 10] (fun u t W => ∃ (i : Nat) (wv : Int) (x : Ext W0), u = .int .i64 wv ∧ t = .int .i64 i ∧ W = x.now ∧ Hid (i ≤ l.length ∧ (0 ≤ wv ∧ wv ≤ 64000000) ∧ fallI (holdsV s) (kOf s) (dOf s) (l.drop i) i wv = V)) (fun _ t _ => l.length - (intOf t).toNat)
  case atStart => exact ⟨0, s.speed * s.speed, ⟨W0, Below.refl _ _⟩, rfl, rfl, rfl, Go.Lib.hid ⟨Nat.zero_le _, hw0.out, by simpa using hV.out⟩⟩
  case round =>
    obtain ⟨i, wv, x, rfl, rfl, rfl, hi⟩ := hrel
    have xs := x.size
    have sB0 := hB0.size
    obtain ⟨-, -, m5, m6⟩ := mb.out
    have hM : 0 ≤ massV s ∧ massV s ≤ 9000000000 := by unfold massV; omega
    have hw := hi.out.2.1
    have wm : 0 ≤ massV s * wv ∧ massV s * wv ≤ 576000000000000000 := ⟨Int.mul_nonneg hM.1 hw.1, by have := Int.mul_le_mul hM.2 hw.2 hw.1 (by omega); omega⟩
    have wrm : wrap64 (massV s * wv) = massV s * wv := IntWalk.wrap64_in _ (by omega)
    by_cases hlt : i < l.length
    · have hlt2 : (i : Int) < l.length := by omega
      obtain ⟨B, o, rfl, hB, c1, c2⟩ := hP0.out i hlt
      obtain ⟨hx, hy⟩ := hair.out l[i] (List.getElem_mem hlt)
      have hE := hi.out.2.2
      rw [drop_at hlt, fallI] at hE
      have csl := fun W => rslowed_any s l[i] wv W hs.out hx hy hw
      have sb : 0 ≤ stp wv (kOf s l[i]) (dOf s) ∧ stp wv (kOf s l[i]) (dOf s) ≤ 64000000 := by
        have := stp_le hw.1 (k_bounds hs.out hx hy).2.2 (show 0 < dOf s by have := (d_bounds hs.out).2; omega)
        exact ⟨stp_nonneg _ _ _, by omega⟩
      generalize stp wv (kOf s l[i]) (dOf s) = wn at *
      generalize l[i].x = vx at *
      generalize l[i].y = vy at *
      have pb : 0 ≤ vy * wv ∧ vy * wv ≤ 64000000000 := ⟨Int.mul_nonneg hy.1 hw.1, by have := Int.mul_le_mul hy.2 hw.2 hw.1 (by omega); omega⟩
      have wrp2 : wrap64 (vy * wv) = vy * wv := IntWalk.wrap64_in _ (by omega)
      clear hi m5 m6 hM pb wm
      by_cases hb : 0 < vy * wv ∧ holdsV s ≤ vy * wv
      · rw [if_pos hb] at hE
        subst hE
        obtain ⟨hb1, hb2⟩ := hb
        clear csl sb
        go_wp2_with (first | ((first | with_reducible refine wp_region_ext2 (by kernel_rfl) (by kernel_rfl) ?_ | with_reducible refine wp_region_ext (by kernel_rfl) (by kernel_rfl) ?_); (repeat (first | go_big_quiet_step ((first | (go_at_call 52; with_reducible exact Calls.ext (ch _)) | (go_at_call 53; with_reducible exact Calls.ext (cm _)))) | quiet_step ((first | (go_at_call 52; with_reducible exact Calls.ext (ch _)) | (go_at_call 53; with_reducible exact Calls.ext (cm _)))))); refine wpQuiet_nil ?_; rintro _ ⟨yr, rfl⟩; have syr := Ext.size yr; (repeat (first | rw [World.size_alloc] at syr | rw [World.size_setCell] at syr | rw [World.size_drew] at syr)); have : w.heap.size < yr.now.heap.size := (by omega); have : w.heap.size ≤ yr.now.heap.size := (by omega); have : w.heap.size < yr.now.heap.size + 1 + 1 := (by omega); have : B < yr.now.heap.size := (by omega); have : B ≤ yr.now.heap.size := (by omega); have : B < yr.now.heap.size + 1 + 1 := (by omega)) | (go_at_call 52; (first | with_reducible refine (Calls.giv2 (ch _)).mono ?_ | with_reducible refine (Calls.giv (ch _)).mono ?_); rintro _ _ ⟨y1, rfl, rfl⟩; have sy1 := Ext.size y1; (repeat (first | rw [World.size_alloc] at sy1 | rw [World.size_setCell] at sy1 | rw [World.size_drew] at sy1)); have : w.heap.size < y1.now.heap.size := (by omega); have : w.heap.size ≤ y1.now.heap.size := (by omega); have : w.heap.size < y1.now.heap.size + 1 + 1 := (by omega); have : B < y1.now.heap.size := (by omega); have : B ≤ y1.now.heap.size := (by omega); have : B < y1.now.heap.size + 1 + 1 := (by omega)) | (go_at_call 53; (first | with_reducible refine (Calls.giv2 (cm _)).mono ?_ | with_reducible refine (Calls.giv (cm _)).mono ?_); rintro _ _ ⟨y2, rfl, rfl⟩; have sy2 := Ext.size y2; (repeat (first | rw [World.size_alloc] at sy2 | rw [World.size_setCell] at sy2 | rw [World.size_drew] at sy2)); have : w.heap.size < y2.now.heap.size := (by omega); have : w.heap.size ≤ y2.now.heap.size := (by omega); have : w.heap.size < y2.now.heap.size + 1 + 1 := (by omega); have : B < y2.now.heap.size := (by omega); have : B ≤ y2.now.heap.size := (by omega); have : B < y2.now.heap.size + 1 + 1 := (by omega)))
        refine bodyPost_ret (v := .tuple #[.int .i64 i, .int .i64 (massV s * wv), .int .i64 0]) (by simp (maxDischargeDepth := 9) [results, Tryd.results13, go_sem, *]) rfl ?_
        refine ⟨rfl, ?_⟩
        repeat' (first | (with_reducible exact Below.refl _ _) | (with_reducible assumption) | (with_reducible refine Ext.below _ ?_ ?_) | (with_reducible refine Below.on ?_ (by with_reducible assumption) ?_) | (with_reducible refine Below.alloc ?_ ?_ _) | (with_reducible refine Below.drew ?_) | (with_reducible refine Below.setCell ?_ ?_ _) | (with_reducible exact Nat.le_refl _) | omega | (simp; done) | (simp [go_sem]; done) | (simp at *; omega))
      · rw [if_neg hb] at hE
        have key : Hid (i + 1 ≤ l.length ∧ (0 ≤ wn ∧ wn ≤ 64000000) ∧ fallI (holdsV s) (kOf s) (dOf s) (l.drop (i + 1)) ((i + 1 : Nat) : Int) wn = V) := Go.Lib.hid ⟨hlt, sb, by simpa using hE⟩
        clear hE sb
        by_cases h0 : 0 < vy * wv
        · have h1 : ¬ holdsV s ≤ vy * wv := fun h => hb ⟨h0, h⟩
          clear hb
          go_wp2_with (first | ((first | with_reducible refine wp_region_ext2 (by kernel_rfl) (by kernel_rfl) ?_ | with_reducible refine wp_region_ext (by kernel_rfl) (by kernel_rfl) ?_); (repeat (first | go_big_quiet_step ((first | (go_at_call 52; with_reducible exact Calls.ext (ch _)) | (go_at_call 54; with_reducible exact Calls.ext (csl _)))) | quiet_step ((first | (go_at_call 52; with_reducible exact Calls.ext (ch _)) | (go_at_call 54; with_reducible exact Calls.ext (csl _)))))); refine wpQuiet_nil ?_; rintro _ ⟨yr, rfl⟩; have syr := Ext.size yr; (repeat (first | rw [World.size_alloc] at syr | rw [World.size_setCell] at syr | rw [World.size_drew] at syr)); have : w.heap.size < yr.now.heap.size := (by omega); have : w.heap.size ≤ yr.now.heap.size := (by omega); have : w.heap.size < yr.now.heap.size + 1 + 1 := (by omega); have : B < yr.now.heap.size := (by omega); have : B ≤ yr.now.heap.size := (by omega); have : B < yr.now.heap.size + 1 + 1 := (by omega)) | (go_at_call 52; (first | with_reducible refine (Calls.giv2 (ch _)).mono ?_ | with_reducible refine (Calls.giv (ch _)).mono ?_); rintro _ _ ⟨y1, rfl, rfl⟩; have sy1 := Ext.size y1; (repeat (first | rw [World.size_alloc] at sy1 | rw [World.size_setCell] at sy1 | rw [World.size_drew] at sy1)); have : w.heap.size < y1.now.heap.size := (by omega); have : w.heap.size ≤ y1.now.heap.size := (by omega); have : w.heap.size < y1.now.heap.size + 1 + 1 := (by omega); have : B < y1.now.heap.size := (by omega); have : B ≤ y1.now.heap.size := (by omega); have : B < y1.now.heap.size + 1 + 1 := (by omega)) | (go_at_call 54; (first | with_reducible refine (Calls.giv2 (csl _)).mono ?_ | with_reducible refine (Calls.giv (csl _)).mono ?_); rintro _ _ ⟨y2, rfl, rfl⟩; have sy2 := Ext.size y2; (repeat (first | rw [World.size_alloc] at sy2 | rw [World.size_setCell] at sy2 | rw [World.size_drew] at sy2)); have : w.heap.size < y2.now.heap.size := (by omega); have : w.heap.size ≤ y2.now.heap.size := (by omega); have : w.heap.size < y2.now.heap.size + 1 + 1 := (by omega); have : B < y2.now.heap.size := (by omega); have : B ≤ y2.now.heap.size := (by omega); have : B < y2.now.heap.size + 1 + 1 := (by omega)))
          exact ⟨⟨i + 1, _, ⟨_, by repeat' (first | (with_reducible exact Below.refl _ _) | (with_reducible assumption) | (with_reducible refine Ext.below _ ?_ ?_) | (with_reducible refine Below.on ?_ (by with_reducible assumption) ?_) | (with_reducible refine Below.alloc ?_ ?_ _) | (with_reducible refine Below.drew ?_) | (with_reducible refine Below.setCell ?_ ?_ _) | (with_reducible exact Nat.le_refl _) | omega | (simp; done) | (simp [go_sem]; done) | (simp at *; omega))⟩, rfl, by simp, rfl, key⟩, by simp [intOf]; omega⟩
        · clear hb
          go_wp2_with (first | ((first | with_reducible refine wp_region_ext2 (by kernel_rfl) (by kernel_rfl) ?_ | with_reducible refine wp_region_ext (by kernel_rfl) (by kernel_rfl) ?_); (repeat (first | go_big_quiet_step ((first | (go_at_call 52; with_reducible exact Calls.ext (ch _)) | (go_at_call 54; with_reducible exact Calls.ext (csl _)))) | quiet_step ((first | (go_at_call 52; with_reducible exact Calls.ext (ch _)) | (go_at_call 54; with_reducible exact Calls.ext (csl _)))))); refine wpQuiet_nil ?_; rintro _ ⟨yr, rfl⟩; have syr := Ext.size yr; (repeat (first | rw [World.size_alloc] at syr | rw [World.size_setCell] at syr | rw [World.size_drew] at syr)); have : w.heap.size < yr.now.heap.size := (by omega); have : w.heap.size ≤ yr.now.heap.size := (by omega); have : w.heap.size < yr.now.heap.size + 1 + 1 := (by omega); have : B < yr.now.heap.size := (by omega); have : B ≤ yr.now.heap.size := (by omega); have : B < yr.now.heap.size + 1 + 1 := (by omega)) | (go_at_call 52; (first | with_reducible refine (Calls.giv2 (ch _)).mono ?_ | with_reducible refine (Calls.giv (ch _)).mono ?_); rintro _ _ ⟨y1, rfl, rfl⟩; have sy1 := Ext.size y1; (repeat (first | rw [World.size_alloc] at sy1 | rw [World.size_setCell] at sy1 | rw [World.size_drew] at sy1)); have : w.heap.size < y1.now.heap.size := (by omega); have : w.heap.size ≤ y1.now.heap.size := (by omega); have : w.heap.size < y1.now.heap.size + 1 + 1 := (by omega); have : B < y1.now.heap.size := (by omega); have : B ≤ y1.now.heap.size := (by omega); have : B < y1.now.heap.size + 1 + 1 := (by omega)) | (go_at_call 54; (first | with_reducible refine (Calls.giv2 (csl _)).mono ?_ | with_reducible refine (Calls.giv (csl _)).mono ?_); rintro _ _ ⟨y2, rfl, rfl⟩; have sy2 := Ext.size y2; (repeat (first | rw [World.size_alloc] at sy2 | rw [World.size_setCell] at sy2 | rw [World.size_drew] at sy2)); have : w.heap.size < y2.now.heap.size := (by omega); have : w.heap.size ≤ y2.now.heap.size := (by omega); have : w.heap.size < y2.now.heap.size + 1 + 1 := (by omega); have : B < y2.now.heap.size := (by omega); have : B ≤ y2.now.heap.size := (by omega); have : B < y2.now.heap.size + 1 + 1 := (by omega)))
          exact ⟨⟨i + 1, _, ⟨_, by repeat' (first | (with_reducible exact Below.refl _ _) | (with_reducible assumption) | (with_reducible refine Ext.below _ ?_ ?_) | (with_reducible refine Below.on ?_ (by with_reducible assumption) ?_) | (with_reducible refine Below.alloc ?_ ?_ _) | (with_reducible refine Below.drew ?_) | (with_reducible refine Below.setCell ?_ ?_ _) | (with_reducible exact Nat.le_refl _) | omega | (simp; done) | (simp [go_sem]; done) | (simp at *; omega))⟩, rfl, by simp, rfl, key⟩, by simp [intOf]; omega⟩
    · have hge : i = l.length := by have := hi.out.1; omega
      have hE := hi.out.2.2
      rw [List.drop_of_length_le (by omega), fallI] at hE
      subst hE
      subst hge
      clear hi m5 m6 hM wm
      go_wp2_with (first | ((first | with_reducible refine wp_region_ext2 (by kernel_rfl) (by kernel_rfl) ?_ | with_reducible refine wp_region_ext (by kernel_rfl) (by kernel_rfl) ?_); (repeat (first | go_big_quiet_step ((first | (go_at_call 53; with_reducible exact Calls.ext (cm _)))) | quiet_step ((first | (go_at_call 53; with_reducible exact Calls.ext (cm _)))))); refine wpQuiet_nil ?_; rintro _ ⟨yr, rfl⟩; have syr := Ext.size yr; (repeat (first | rw [World.size_alloc] at syr | rw [World.size_setCell] at syr | rw [World.size_drew] at syr)); have : w.heap.size < yr.now.heap.size := (by omega); have : w.heap.size ≤ yr.now.heap.size := (by omega); have : w.heap.size < yr.now.heap.size + 1 + 1 := (by omega)) | (go_at_call 53; (first | with_reducible refine (Calls.giv2 (cm _)).mono ?_ | with_reducible refine (Calls.giv (cm _)).mono ?_); rintro _ _ ⟨y1, rfl, rfl⟩; have sy1 := Ext.size y1; (repeat (first | rw [World.size_alloc] at sy1 | rw [World.size_setCell] at sy1 | rw [World.size_drew] at sy1)); have : w.heap.size < y1.now.heap.size := (by omega); have : w.heap.size ≤ y1.now.heap.size := (by omega); have : w.heap.size < y1.now.heap.size + 1 + 1 := (by omega)))
      refine bodyPost_ret (v := .tuple #[.int .i64 l.length, .int .i64 (massV s * wv), .int .i64 0]) (by simp (maxDischargeDepth := 9) [results, Tryd.results13, go_sem, *]) rfl ?_
      refine ⟨rfl, ?_⟩
      repeat' (first | (with_reducible exact Below.refl _ _) | (with_reducible assumption) | (with_reducible refine Ext.below _ ?_ ?_) | (with_reducible refine Below.on ?_ (by with_reducible assumption) ?_) | (with_reducible refine Below.alloc ?_ ?_ _) | (with_reducible refine Below.drew ?_) | (with_reducible refine Below.setCell ?_ ?_ _) | (with_reducible exact Nat.le_refl _) | omega | (simp; done) | (simp [go_sem]; done) | (simp at *; omega))
end Go.Proofs.YtfjieblihbnmjaaDoor

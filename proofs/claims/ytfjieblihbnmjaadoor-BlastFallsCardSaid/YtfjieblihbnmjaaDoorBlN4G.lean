/- The reference's product divided by a number. Condition: whole numbers of 64 bits. The reference's slowed: what a layer leaves of a stone's speed. Condition: a valid stone and a valid layer. -/
import Derived.Test.YtfjieblihbnmjaaDoorRefDiv
import Derived.Test.YtfjieblihbnmjaaDoorQuotG
import Derived.Test.YtfjieblihbnmjaaDoorBlRG
import Derived.Test.YtfjieblihbnmjaaDoorRefWideG
namespace Go.Proofs.YtfjieblihbnmjaaDoor
open Go.RowKit Go.Shelf
attribute [local go_sem] Ext.cell Ext.frozen Ext.lt Ext.le Ext.lt_add Ext.le_add Ext.ne Ext.ne' lt2 lt3 lt4 lt5 le2 le3 le4
set_option maxHeartbeats 1000000 in
theorem refMulDiv_any (a b c : Int) (w : World) (ha : I64 a) (hb : I64 b) : Calls Tryd.prog 84 #[.int .i64 a, .int .i64 b, .int .i64 c] w (Gives (.tuple #[.int .i64 (mdL a b c), .int .i64 (mdH a b c), .int .i64 (mdE a b c)]) w) := by
  unfold mdL mdH
  by_cases h : numB a = true ∧ numB b = true ∧ numB c = true ∧ c ≠ 0
  · obtain ⟨h1, h2, h3, h4⟩ := h
    have n1 := numB_true.1 h1
    have n2 := numB_true.1 h2
    have n3 := numB_true.1 h3
    have pb := mul_bounds (B := 1152921504606846976) n1.1 n1.2 n2.1 n2.2
    simp only [Int.reduceMul, Int.reduceNeg] at pb
    have hv : mdE a b c = if ovB (a * b) c = true then 0 else 14 := by unfold mdE; rw [if_pos ⟨h1, h2, h3, h4⟩]
    rw [hv]
    have OV := Go.Lib.hid (fun W => refquot_any (a * b) c W (by omega) (by omega) h4 (by omega) (by omega))
    have c0 : (c == 0) = false := by simpa using h4
    clear hv n1 n2 n3 pb h4
    generalize ovD (a * b) c = d at *
    generalize ovU (a * b) c = u at *
    generalize hk : ovB (a * b) c = k at *
    clear hk
    cases k
    · simp only [Bool.false_eq_true, if_false, show ((14 : Int) = 0) = False by decide]
      go_enter Tryd.func84, Tryd.ntmps84
      go_wp2_with (first | ((first | with_reducible refine wp_region_ext2 (by kernel_rfl) (by kernel_rfl) ?_ | with_reducible refine wp_region_ext (by kernel_rfl) (by kernel_rfl) ?_); (repeat (first | go_big_quiet_step ((first | (go_at_call 101; with_reducible exact Calls.ext (fits_any _ _)) | (go_at_call 102; with_reducible exact Calls.ext (wideOf_any _ _ _ ha hb)) | (go_at_call 103; with_reducible exact Calls.ext (OV.out _)))) | quiet_step ((first | (go_at_call 101; with_reducible exact Calls.ext (fits_any _ _)) | (go_at_call 102; with_reducible exact Calls.ext (wideOf_any _ _ _ ha hb)) | (go_at_call 103; with_reducible exact Calls.ext (OV.out _)))))); refine wpQuiet_nil ?_; rintro _ ⟨yr, rfl⟩; have syr := Ext.size yr; (repeat (first | rw [World.size_alloc] at syr | rw [World.size_setCell] at syr | rw [World.size_drew] at syr))) | (go_at_call 101; (first | with_reducible refine (Calls.giv2 (fits_any _ _)).mono ?_ | with_reducible refine (Calls.giv (fits_any _ _)).mono ?_); rintro _ _ ⟨y1, rfl, rfl⟩; have sy1 := Ext.size y1; (repeat (first | rw [World.size_alloc] at sy1 | rw [World.size_setCell] at sy1 | rw [World.size_drew] at sy1))) | (go_at_call 102; (first | with_reducible refine (Calls.giv2 (wideOf_any _ _ _ ha hb)).mono ?_ | with_reducible refine (Calls.giv (wideOf_any _ _ _ ha hb)).mono ?_); rintro _ _ ⟨y2, rfl, rfl⟩; have sy2 := Ext.size y2; (repeat (first | rw [World.size_alloc] at sy2 | rw [World.size_setCell] at sy2 | rw [World.size_drew] at sy2))) | (go_at_call 103; (first | with_reducible refine (Calls.giv2 (OV.out _)).mono ?_ | with_reducible refine (Calls.giv (OV.out _)).mono ?_); rintro _ _ ⟨y3, rfl, rfl⟩; have sy3 := Ext.size y3; (repeat (first | rw [World.size_alloc] at sy3 | rw [World.size_setCell] at sy3 | rw [World.size_drew] at sy3))))
      go_returns
      refine ⟨rfl, ?_⟩
      repeat' (first | (with_reducible exact Below.refl _ _) | (with_reducible assumption) | (with_reducible refine Ext.below _ ?_ ?_) | (with_reducible refine Below.on ?_ (by with_reducible assumption) ?_) | (with_reducible refine Below.alloc ?_ ?_ _) | (with_reducible refine Below.drew ?_) | (with_reducible refine Below.setCell ?_ ?_ _) | (with_reducible exact Nat.le_refl _) | omega | (simp; done) | (simp [go_sem]; done) | (simp at *; omega))
    · simp only [if_true]
      go_enter Tryd.func84, Tryd.ntmps84
      go_wp2_with (first | ((first | with_reducible refine wp_region_ext2 (by kernel_rfl) (by kernel_rfl) ?_ | with_reducible refine wp_region_ext (by kernel_rfl) (by kernel_rfl) ?_); (repeat (first | go_big_quiet_step ((first | (go_at_call 101; with_reducible exact Calls.ext (fits_any _ _)) | (go_at_call 102; with_reducible exact Calls.ext (wideOf_any _ _ _ ha hb)) | (go_at_call 103; with_reducible exact Calls.ext (OV.out _)))) | quiet_step ((first | (go_at_call 101; with_reducible exact Calls.ext (fits_any _ _)) | (go_at_call 102; with_reducible exact Calls.ext (wideOf_any _ _ _ ha hb)) | (go_at_call 103; with_reducible exact Calls.ext (OV.out _)))))); refine wpQuiet_nil ?_; rintro _ ⟨yr, rfl⟩; have syr := Ext.size yr; (repeat (first | rw [World.size_alloc] at syr | rw [World.size_setCell] at syr | rw [World.size_drew] at syr))) | (go_at_call 101; (first | with_reducible refine (Calls.giv2 (fits_any _ _)).mono ?_ | with_reducible refine (Calls.giv (fits_any _ _)).mono ?_); rintro _ _ ⟨y1, rfl, rfl⟩; have sy1 := Ext.size y1; (repeat (first | rw [World.size_alloc] at sy1 | rw [World.size_setCell] at sy1 | rw [World.size_drew] at sy1))) | (go_at_call 102; (first | with_reducible refine (Calls.giv2 (wideOf_any _ _ _ ha hb)).mono ?_ | with_reducible refine (Calls.giv (wideOf_any _ _ _ ha hb)).mono ?_); rintro _ _ ⟨y2, rfl, rfl⟩; have sy2 := Ext.size y2; (repeat (first | rw [World.size_alloc] at sy2 | rw [World.size_setCell] at sy2 | rw [World.size_drew] at sy2))) | (go_at_call 103; (first | with_reducible refine (Calls.giv2 (OV.out _)).mono ?_ | with_reducible refine (Calls.giv (OV.out _)).mono ?_); rintro _ _ ⟨y3, rfl, rfl⟩; have sy3 := Ext.size y3; (repeat (first | rw [World.size_alloc] at sy3 | rw [World.size_setCell] at sy3 | rw [World.size_drew] at sy3))))
      go_returns
      refine ⟨rfl, ?_⟩
      repeat' (first | (with_reducible exact Below.refl _ _) | (with_reducible assumption) | (with_reducible refine Ext.below _ ?_ ?_) | (with_reducible refine Below.on ?_ (by with_reducible assumption) ?_) | (with_reducible refine Below.alloc ?_ ?_ _) | (with_reducible refine Below.drew ?_) | (with_reducible refine Below.setCell ?_ ?_ _) | (with_reducible exact Nat.le_refl _) | omega | (simp; done) | (simp [go_sem]; done) | (simp at *; omega))
  · have hv : mdE a b c = 2 := by unfold mdE; rw [if_neg h]
    rw [hv]
    simp only [show ((2 : Int) = 0) = False by decide, if_false]
    clear hv
    cases h1 : numB a
    · clear h
      go_enter Tryd.func84, Tryd.ntmps84
      go_wp2_with (first | ((first | with_reducible refine wp_region_ext2 (by kernel_rfl) (by kernel_rfl) ?_ | with_reducible refine wp_region_ext (by kernel_rfl) (by kernel_rfl) ?_); (repeat (first | go_big_quiet_step ((first | (go_at_call 101; with_reducible exact Calls.ext (fits_any _ _)))) | quiet_step ((first | (go_at_call 101; with_reducible exact Calls.ext (fits_any _ _)))))); refine wpQuiet_nil ?_; rintro _ ⟨yr, rfl⟩; have syr := Ext.size yr; (repeat (first | rw [World.size_alloc] at syr | rw [World.size_setCell] at syr | rw [World.size_drew] at syr))) | (go_at_call 101; (first | with_reducible refine (Calls.giv2 (fits_any _ _)).mono ?_ | with_reducible refine (Calls.giv (fits_any _ _)).mono ?_); rintro _ _ ⟨y1, rfl, rfl⟩; have sy1 := Ext.size y1; (repeat (first | rw [World.size_alloc] at sy1 | rw [World.size_setCell] at sy1 | rw [World.size_drew] at sy1))))
      go_returns
      refine ⟨rfl, ?_⟩
      repeat' (first | (with_reducible exact Below.refl _ _) | (with_reducible assumption) | (with_reducible refine Ext.below _ ?_ ?_) | (with_reducible refine Below.on ?_ (by with_reducible assumption) ?_) | (with_reducible refine Below.alloc ?_ ?_ _) | (with_reducible refine Below.drew ?_) | (with_reducible refine Below.setCell ?_ ?_ _) | (with_reducible exact Nat.le_refl _) | omega | (simp; done) | (simp [go_sem]; done) | (simp at *; omega))
    cases h2 : numB b
    · clear h
      go_enter Tryd.func84, Tryd.ntmps84
      go_wp2_with (first | ((first | with_reducible refine wp_region_ext2 (by kernel_rfl) (by kernel_rfl) ?_ | with_reducible refine wp_region_ext (by kernel_rfl) (by kernel_rfl) ?_); (repeat (first | go_big_quiet_step ((first | (go_at_call 101; with_reducible exact Calls.ext (fits_any _ _)))) | quiet_step ((first | (go_at_call 101; with_reducible exact Calls.ext (fits_any _ _)))))); refine wpQuiet_nil ?_; rintro _ ⟨yr, rfl⟩; have syr := Ext.size yr; (repeat (first | rw [World.size_alloc] at syr | rw [World.size_setCell] at syr | rw [World.size_drew] at syr))) | (go_at_call 101; (first | with_reducible refine (Calls.giv2 (fits_any _ _)).mono ?_ | with_reducible refine (Calls.giv (fits_any _ _)).mono ?_); rintro _ _ ⟨y1, rfl, rfl⟩; have sy1 := Ext.size y1; (repeat (first | rw [World.size_alloc] at sy1 | rw [World.size_setCell] at sy1 | rw [World.size_drew] at sy1))))
      go_returns
      refine ⟨rfl, ?_⟩
      repeat' (first | (with_reducible exact Below.refl _ _) | (with_reducible assumption) | (with_reducible refine Ext.below _ ?_ ?_) | (with_reducible refine Below.on ?_ (by with_reducible assumption) ?_) | (with_reducible refine Below.alloc ?_ ?_ _) | (with_reducible refine Below.drew ?_) | (with_reducible refine Below.setCell ?_ ?_ _) | (with_reducible exact Nat.le_refl _) | omega | (simp; done) | (simp [go_sem]; done) | (simp at *; omega))
    cases h3 : numB c
    · clear h
      go_enter Tryd.func84, Tryd.ntmps84
      go_wp2_with (first | ((first | with_reducible refine wp_region_ext2 (by kernel_rfl) (by kernel_rfl) ?_ | with_reducible refine wp_region_ext (by kernel_rfl) (by kernel_rfl) ?_); (repeat (first | go_big_quiet_step ((first | (go_at_call 101; with_reducible exact Calls.ext (fits_any _ _)))) | quiet_step ((first | (go_at_call 101; with_reducible exact Calls.ext (fits_any _ _)))))); refine wpQuiet_nil ?_; rintro _ ⟨yr, rfl⟩; have syr := Ext.size yr; (repeat (first | rw [World.size_alloc] at syr | rw [World.size_setCell] at syr | rw [World.size_drew] at syr))) | (go_at_call 101; (first | with_reducible refine (Calls.giv2 (fits_any _ _)).mono ?_ | with_reducible refine (Calls.giv (fits_any _ _)).mono ?_); rintro _ _ ⟨y1, rfl, rfl⟩; have sy1 := Ext.size y1; (repeat (first | rw [World.size_alloc] at sy1 | rw [World.size_setCell] at sy1 | rw [World.size_drew] at sy1))))
      go_returns
      refine ⟨rfl, ?_⟩
      repeat' (first | (with_reducible exact Below.refl _ _) | (with_reducible assumption) | (with_reducible refine Ext.below _ ?_ ?_) | (with_reducible refine Below.on ?_ (by with_reducible assumption) ?_) | (with_reducible refine Below.alloc ?_ ?_ _) | (with_reducible refine Below.drew ?_) | (with_reducible refine Below.setCell ?_ ?_ _) | (with_reducible exact Nat.le_refl _) | omega | (simp; done) | (simp [go_sem]; done) | (simp at *; omega))
    · obtain rfl : c = 0 := by
        by_cases hc : c = 0
        · exact hc
        · exact absurd ⟨h1, h2, h3, hc⟩ h
      clear h
      go_enter Tryd.func84, Tryd.ntmps84
      go_wp2_with (first | ((first | with_reducible refine wp_region_ext2 (by kernel_rfl) (by kernel_rfl) ?_ | with_reducible refine wp_region_ext (by kernel_rfl) (by kernel_rfl) ?_); (repeat (first | go_big_quiet_step ((first | (go_at_call 101; with_reducible exact Calls.ext (fits_any _ _)))) | quiet_step ((first | (go_at_call 101; with_reducible exact Calls.ext (fits_any _ _)))))); refine wpQuiet_nil ?_; rintro _ ⟨yr, rfl⟩; have syr := Ext.size yr; (repeat (first | rw [World.size_alloc] at syr | rw [World.size_setCell] at syr | rw [World.size_drew] at syr))) | (go_at_call 101; (first | with_reducible refine (Calls.giv2 (fits_any _ _)).mono ?_ | with_reducible refine (Calls.giv (fits_any _ _)).mono ?_); rintro _ _ ⟨y1, rfl, rfl⟩; have sy1 := Ext.size y1; (repeat (first | rw [World.size_alloc] at sy1 | rw [World.size_setCell] at sy1 | rw [World.size_drew] at sy1))))
      go_returns
      refine ⟨rfl, ?_⟩
      repeat' (first | (with_reducible exact Below.refl _ _) | (with_reducible assumption) | (with_reducible refine Ext.below _ ?_ ?_) | (with_reducible refine Below.on ?_ (by with_reducible assumption) ?_) | (with_reducible refine Below.alloc ?_ ?_ _) | (with_reducible refine Below.drew ?_) | (with_reducible refine Below.setCell ?_ ?_ _) | (with_reducible exact Nat.le_refl _) | omega | (simp; done) | (simp [go_sem]; done) | (simp at *; omega))
end Go.Proofs.YtfjieblihbnmjaaDoor
namespace Go.Proofs.YtfjieblihbnmjaaDoor
open Go.RowKit Go.Shelf
attribute [local go_sem] Option.isSome_some Ext.cell Ext.frozen Ext.lt Ext.le Ext.lt_add Ext.le_add Ext.ne Ext.ne' lt2 lt3 lt4 lt5 le2 le3 le4
theorem rMulDiv_pos (a b c : Int) (w : World) (ha : 0 ≤ a ∧ a ≤ 1152921504606846976) (hb : 0 ≤ b ∧ b ≤ 1152921504606846976) (hc : 0 < c ∧ c ≤ 1152921504606846976) (hq : cei (a * b) c ≤ 1152921504606846976) :
    Calls Tryd.prog 84 #[.int .i64 a, .int .i64 b, .int .i64 c] w (Gives (.tuple #[.int .i64 (a * b / c), .int .i64 (cei (a * b) c), .int .i64 0]) w) := by
  have h0 : 0 ≤ a * b := Int.mul_nonneg ha.1 hb.1
  have n1 : numB a = true := numB_true.2 (by omega)
  have n2 : numB b = true := numB_true.2 (by omega)
  have n3 : numB c = true := numB_true.2 (by omega)
  have ok : okP (a * b) c = true := by unfold okP; simp only [decide_eq_true_eq]; exact hq
  have e1 : ovN (a * b) c = a * b := by unfold ovN; rw [if_neg (by omega)]
  have e2 : ovC c = c := by unfold ovC; rw [if_neg (by omega)]
  have k1 : ovB (a * b) c = true := by unfold ovB; rw [e1, e2, if_pos h0]; exact ok
  have k2 : ovD (a * b) c = a * b / c := by unfold ovD downP; rw [e1, e2, if_pos h0, if_pos ok]
  have k3 : ovU (a * b) c = cei (a * b) c := by unfold ovU upP; rw [e1, e2, if_pos h0, if_pos ok]
  have k4 : mdE a b c = 0 := by unfold mdE; rw [if_pos ⟨n1, n2, n3, by omega⟩, if_pos k1]
  have := refMulDiv_any a b c w (by unfold I64; omega) (by unfold I64; omega)
  unfold mdL mdH at this
  rw [k4] at this
  simp only [if_true, k2, k3] at this
  exact this
set_option maxHeartbeats 4000000 in
theorem rslowed_any (s : StoneR) (v : V2) (wv : Int) (w : World) (hs : s.Ok) (hx : 1 ≤ v.x ∧ v.x ≤ 1000) (hy : 0 ≤ v.y ∧ v.y ≤ 1000) (hw : 0 ≤ wv ∧ wv ≤ 64000000) :
    Calls Tryd.prog 54 #[.int .i64 wv, .agg #[.int .i64 v.x, .int .i64 v.y], .int .i64 s.shape, .int .i64 s.slope, .int .i64 s.dens, .int .i64 s.size] w (Gives (.int .i64 (stp wv (kOf s v) (dOf s))) w) := by
  obtain ⟨p1, p2, ⟨p3, p4⟩, ⟨p5, p6⟩, p7, p8⟩ := slow_parts hs hx hy hw
  obtain ⟨⟨d1, d2⟩, d3, d4⟩ := d_bounds hs
  have sl := hs.slope
  have e5 := (way_bounds hs hx)
  have cm := fun W => rMulDiv_pos wv (kOf s v) (dOf s) W (by omega) (by omega) (by omega) p7
  rw [stp_eq]
  have q9 : wv * kOf s v / dOf s ≤ 1152921504606846976 := by
    have h1 := cei_eq (n := wv * kOf s v) (c := dOf s) (by omega)
    split at h1 <;> omega
  generalize wv * kOf s v / dOf s = q at *
  have x0 : wrap64 (v.x * 1000) = v.x * 1000 := IntWalk.wrap64_in _ (by omega)
  have x1 : wrap64 (v.x * 1000 + s.slope) = v.x * 1000 + s.slope := IntWalk.wrap64_in _ (by omega)
  have x2 : wrap64 (v.x * 1000 + s.slope - 1) = v.x * 1000 + s.slope - 1 := IntWalk.wrap64_in _ (by omega)
  rw [← p1] at p2 p3 p4
  generalize hway : (v.x * 1000 + s.slope - 1) / s.slope = way at *
  have x4 : wrap64 (v.y * way) = v.y * way := IntWalk.wrap64_in _ (by omega)
  have x5 : wrap64 (v.y * way * s.shape) = kOf s v := by rw [← p2]; exact IntWalk.wrap64_in _ (by omega)
  subst hway
  have x6 : wrap64 (s.dens * s.size) = s.dens * s.size := IntWalk.wrap64_in _ (by omega)
  have x7 : wrap64 (s.dens * s.size * 1000) = dOf s := IntWalk.wrap64_in _ (by unfold dOf at *; omega)
  have x8 : wrap64 (wv - q) = wv - q := IntWalk.wrap64_in _ (by omega)
  clear p1 p2 p3 p4 p5 p6 p7 d1 d2 d3 d4
  generalize kOf s v = KK at *
  generalize dOf s = DD at *
  go_enter Tryd.func54, Tryd.ntmps54
  go_wp2_with (first | ((first | with_reducible refine wp_region_ext2 (by kernel_rfl) (by kernel_rfl) ?_ | with_reducible refine wp_region_ext (by kernel_rfl) (by kernel_rfl) ?_); (repeat (first | go_big_quiet_step ((first | (go_at_call 84; with_reducible exact Calls.ext (cm _)))) | quiet_step ((first | (go_at_call 84; with_reducible exact Calls.ext (cm _)))))); refine wpQuiet_nil ?_; rintro _ ⟨yr, rfl⟩; have syr := Ext.size yr; (repeat (first | rw [World.size_alloc] at syr | rw [World.size_setCell] at syr | rw [World.size_drew] at syr))) | (go_at_call 84; (first | with_reducible refine (Calls.giv2 (cm _)).mono ?_ | with_reducible refine (Calls.giv (cm _)).mono ?_); rintro _ _ ⟨y1, rfl, rfl⟩; have sy1 := Ext.size y1; (repeat (first | rw [World.size_alloc] at sy1 | rw [World.size_setCell] at sy1 | rw [World.size_drew] at sy1))))
  go_returns
  refine ⟨ret_int ?_, ?_⟩
  · omega
  · repeat' (first | (with_reducible exact Below.refl _ _) | (with_reducible assumption) | (with_reducible refine Ext.below _ ?_ ?_) | (with_reducible refine Below.on ?_ (by with_reducible assumption) ?_) | (with_reducible refine Below.alloc ?_ ?_ _) | (with_reducible refine Below.drew ?_) | (with_reducible refine Below.setCell ?_ ?_ _) | (with_reducible exact Nat.le_refl _) | omega | (simp; done) | (simp [go_sem]; done) | (simp at *; omega))
end Go.Proofs.YtfjieblihbnmjaaDoor

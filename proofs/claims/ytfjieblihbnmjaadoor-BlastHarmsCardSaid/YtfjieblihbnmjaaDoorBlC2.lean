/- The reference's CheckRock and CheckStone. No condition. -/
import Derived.Test.YtfjieblihbnmjaaDoorBlC1
namespace Go.Proofs.YtfjieblihbnmjaaDoor
open Go.RowKit Go.Shelf
attribute [local go_sem] Option.isSome_some Ext.cell Ext.frozen Ext.lt Ext.le Ext.lt_add Ext.le_add Ext.ne Ext.ne' lt2 lt3 lt4 lt5 le2 le3 le4
set_option maxRecDepth 100000 in
set_option maxHeartbeats 8000000 in
theorem rCheckRock_any (k : RockR) (f : FallR) (w : World) : Calls Tryd.prog 57 #[k.val, f.val] w (Gives (.int .i64 (rockE k f)) w) := by
  obtain ⟨V, hV⟩ : ∃ V, rockE k f = V := ⟨_, rfl⟩
  rw [hV]
  replace hV := Go.Lib.hid hV
  have cs := fun W => rspans_g k f W
  have cl := fun W => rlimits_g W
  have hsl : (spansL k f).length = 7 := rfl
  have hll : limsL.length = 7 := rfl
  unfold rockE at hV
  generalize spansL k f = SL at *
  generalize limsL = ML at *
  unfold RockR.val FallR.val at *
  go_enter Tryd.func57, Tryd.ntmps57
  go_wp2_with (first | ((first | with_reducible refine wp_region_ext2 (by kernel_rfl) (by kernel_rfl) ?_ | with_reducible refine wp_region_ext (by kernel_rfl) (by kernel_rfl) ?_); (repeat (first | go_big_quiet_step ((first | fail)) | quiet_step ((first | fail)))); refine wpQuiet_nil ?_; rintro _ ⟨yr, rfl⟩; have syr := Ext.size yr; (repeat (first | rw [World.size_alloc] at syr | rw [World.size_setCell] at syr | rw [World.size_drew] at syr))) | (go_at_call 91; refine (cs _).mono ?_; rintro _ _ ⟨y1, G, rfl, rfl, hP⟩; have sy1 := y1.size) | (go_at_call 83; refine (cl _).mono ?_; rintro _ _ ⟨y2, H, rfl, rfl, hQ⟩; have sy2 := y2.size))
  refine wp_named (fun W0 hW => ?_)
  have hB0 : Below w.heap.size w W0 := by rw [← hW]; repeat' (first | (with_reducible exact Below.refl _ _) | (with_reducible assumption) | (with_reducible refine Ext.below _ ?_ ?_) | (with_reducible refine Below.on ?_ (by with_reducible assumption) ?_) | (with_reducible refine Below.alloc ?_ ?_ _) | (with_reducible refine Below.drew ?_) | (with_reducible refine Below.setCell ?_ ?_ _) | (with_reducible exact Nat.le_refl _) | omega | (simp; done) | (simp [go_sem]; done) | (simp at *; omega))
  have hP0 : P7At W0 G SL := by rw [← hW]; exact hP.on y2.grew
  have hQ0 : P7At W0 H ML := by rw [← hW]; exact hQ
  clear hW hP hQ
  have hG := hP0.1
  have hH := hQ0.1
  replace hP0 := Go.Lib.hid hP0
  replace hQ0 := Go.Lib.hid hQ0
  go_loopw [7] (fun s W => ∃ (i : Nat) (x : Ext W0), s = .int .i64 i ∧ W = x.now ∧ Hid (i ≤ 7 ∧ firstE (SL.drop i) (ML.drop i) = V)) (fun s _ => 7 - (intOf s).toNat)
  case atStart => exact ⟨0, ⟨W0, Below.refl _ _⟩, rfl, rfl, Go.Lib.hid ⟨by omega, by simpa using hV.out⟩⟩
  case round =>
    obtain ⟨i, x, rfl, rfl, hi⟩ := hrel
    have xs := x.size
    have sB0 := hB0.size
    by_cases hlt : i < 7
    · have hlt2 : (i : Int) < 7 := by omega
      have hs2 : i < SL.length := by omega
      have hm2 : i < ML.length := by omega
      obtain ⟨a0, a1⟩ := hP0.out.2 i hs2
      obtain ⟨l0, l1⟩ := hQ0.out.2 i hm2
      have hE := hi.out.2
      rw [drop_at hs2, drop_at hm2, firstE] at hE
      generalize SL[i] = v at *
      generalize ML[i] = m at *
      obtain ⟨vx, vy⟩ := v
      obtain ⟨mx, my⟩ := m
      simp only at a0 a1 l0 l1
      unfold spE at hE
      simp only at hE
      clear hi
      by_cases hgt : vy < vx
      · rw [if_pos hgt, if_neg (by decide)] at hE
        subst hE
        go_wp2_with (first | ((first | with_reducible refine wp_region_ext2 (by kernel_rfl) (by kernel_rfl) ?_ | with_reducible refine wp_region_ext (by kernel_rfl) (by kernel_rfl) ?_); (repeat (first | go_big_quiet_step ((first | fail)) | quiet_step ((first | fail)))); refine wpQuiet_nil ?_; rintro _ ⟨yr, rfl⟩; have syr := Ext.size yr; (repeat (first | rw [World.size_alloc] at syr | rw [World.size_setCell] at syr | rw [World.size_drew] at syr)); have : G < yr.now.heap.size := (by omega); have : G ≤ yr.now.heap.size := (by omega); have : G < yr.now.heap.size + 1 + 1 := (by omega); have : H < yr.now.heap.size := (by omega); have : H ≤ yr.now.heap.size := (by omega); have : H < yr.now.heap.size + 1 + 1 := (by omega)))
        go_returns
        refine ⟨rfl, ?_⟩
        repeat' (first | (with_reducible exact Below.refl _ _) | (with_reducible assumption) | (with_reducible refine Ext.below _ ?_ ?_) | (with_reducible refine Below.on ?_ (by with_reducible assumption) ?_) | (with_reducible refine Below.alloc ?_ ?_ _) | (with_reducible refine Below.drew ?_) | (with_reducible refine Below.setCell ?_ ?_ _) | (with_reducible exact Nat.le_refl _) | omega | (simp; done) | (simp [go_sem]; done) | (simp at *; omega))
      · rw [if_neg hgt] at hE
        by_cases h1 : vx < mx
        · have hin : ¬ (mx ≤ vx ∧ vy ≤ my) := by omega
          rw [if_neg hin, if_neg (by decide)] at hE
          clear hin
          subst hE
          go_wp2_with (first | ((first | with_reducible refine wp_region_ext2 (by kernel_rfl) (by kernel_rfl) ?_ | with_reducible refine wp_region_ext (by kernel_rfl) (by kernel_rfl) ?_); (repeat (first | go_big_quiet_step ((first | fail)) | quiet_step ((first | fail)))); refine wpQuiet_nil ?_; rintro _ ⟨yr, rfl⟩; have syr := Ext.size yr; (repeat (first | rw [World.size_alloc] at syr | rw [World.size_setCell] at syr | rw [World.size_drew] at syr)); have : G < yr.now.heap.size := (by omega); have : G ≤ yr.now.heap.size := (by omega); have : G < yr.now.heap.size + 1 + 1 := (by omega); have : H < yr.now.heap.size := (by omega); have : H ≤ yr.now.heap.size := (by omega); have : H < yr.now.heap.size + 1 + 1 := (by omega)))
          go_returns
          refine ⟨rfl, ?_⟩
          repeat' (first | (with_reducible exact Below.refl _ _) | (with_reducible assumption) | (with_reducible refine Ext.below _ ?_ ?_) | (with_reducible refine Below.on ?_ (by with_reducible assumption) ?_) | (with_reducible refine Below.alloc ?_ ?_ _) | (with_reducible refine Below.drew ?_) | (with_reducible refine Below.setCell ?_ ?_ _) | (with_reducible exact Nat.le_refl _) | omega | (simp; done) | (simp [go_sem]; done) | (simp at *; omega))
        · by_cases h2 : my < vy
          · have hin : ¬ (mx ≤ vx ∧ vy ≤ my) := by omega
            rw [if_neg hin, if_neg (by decide)] at hE
            clear hin
            subst hE
            go_wp2_with (first | ((first | with_reducible refine wp_region_ext2 (by kernel_rfl) (by kernel_rfl) ?_ | with_reducible refine wp_region_ext (by kernel_rfl) (by kernel_rfl) ?_); (repeat (first | go_big_quiet_step ((first | fail)) | quiet_step ((first | fail)))); refine wpQuiet_nil ?_; rintro _ ⟨yr, rfl⟩; have syr := Ext.size yr; (repeat (first | rw [World.size_alloc] at syr | rw [World.size_setCell] at syr | rw [World.size_drew] at syr)); have : G < yr.now.heap.size := (by omega); have : G ≤ yr.now.heap.size := (by omega); have : G < yr.now.heap.size + 1 + 1 := (by omega); have : H < yr.now.heap.size := (by omega); have : H ≤ yr.now.heap.size := (by omega); have : H < yr.now.heap.size + 1 + 1 := (by omega)))
            go_returns
            refine ⟨rfl, ?_⟩
            repeat' (first | (with_reducible exact Below.refl _ _) | (with_reducible assumption) | (with_reducible refine Ext.below _ ?_ ?_) | (with_reducible refine Below.on ?_ (by with_reducible assumption) ?_) | (with_reducible refine Below.alloc ?_ ?_ _) | (with_reducible refine Below.drew ?_) | (with_reducible refine Below.setCell ?_ ?_ _) | (with_reducible exact Nat.le_refl _) | omega | (simp; done) | (simp [go_sem]; done) | (simp at *; omega))
          · have hin : mx ≤ vx ∧ vy ≤ my := by omega
            rw [if_pos hin, if_pos rfl] at hE
            clear hin
            have key : Hid (i + 1 ≤ 7 ∧ firstE (SL.drop (i + 1)) (ML.drop (i + 1)) = V) := Go.Lib.hid ⟨hlt, hE⟩
            clear hE
            go_wp2_with (first | ((first | with_reducible refine wp_region_ext2 (by kernel_rfl) (by kernel_rfl) ?_ | with_reducible refine wp_region_ext (by kernel_rfl) (by kernel_rfl) ?_); (repeat (first | go_big_quiet_step ((first | fail)) | quiet_step ((first | fail)))); refine wpQuiet_nil ?_; rintro _ ⟨yr, rfl⟩; have syr := Ext.size yr; (repeat (first | rw [World.size_alloc] at syr | rw [World.size_setCell] at syr | rw [World.size_drew] at syr)); have : G < yr.now.heap.size := (by omega); have : G ≤ yr.now.heap.size := (by omega); have : G < yr.now.heap.size + 1 + 1 := (by omega); have : H < yr.now.heap.size := (by omega); have : H ≤ yr.now.heap.size := (by omega); have : H < yr.now.heap.size + 1 + 1 := (by omega)))
            exact ⟨⟨i + 1, ⟨_, by repeat' (first | (with_reducible exact Below.refl _ _) | (with_reducible assumption) | (with_reducible refine Ext.below _ ?_ ?_) | (with_reducible refine Below.on ?_ (by with_reducible assumption) ?_) | (with_reducible refine Below.alloc ?_ ?_ _) | (with_reducible refine Below.drew ?_) | (with_reducible refine Below.setCell ?_ ?_ _) | (with_reducible exact Nat.le_refl _) | omega | (simp; done) | (simp [go_sem]; done) | (simp at *; omega))⟩, by simp, rfl, key⟩, by simp [intOf]; omega⟩
    · have hge : i = 7 := by have := hi.out.1; omega
      subst hge
      have eV : V = 0 := by have hE := hi.out.2; rw [List.drop_of_length_le (by omega), firstE] at hE; exact hE.symm; intro v l m q e; cases e
      clear hi hV
      subst eV
      go_wp2_with (first | ((first | with_reducible refine wp_region_ext2 (by kernel_rfl) (by kernel_rfl) ?_ | with_reducible refine wp_region_ext (by kernel_rfl) (by kernel_rfl) ?_); (repeat (first | go_big_quiet_step ((first | fail)) | quiet_step ((first | fail)))); refine wpQuiet_nil ?_; rintro _ ⟨yr, rfl⟩; have syr := Ext.size yr; (repeat (first | rw [World.size_alloc] at syr | rw [World.size_setCell] at syr | rw [World.size_drew] at syr))))
      go_returns
      refine ⟨rfl, ?_⟩
      repeat' (first | (with_reducible exact Below.refl _ _) | (with_reducible assumption) | (with_reducible refine Ext.below _ ?_ ?_) | (with_reducible refine Below.on ?_ (by with_reducible assumption) ?_) | (with_reducible refine Below.alloc ?_ ?_ _) | (with_reducible refine Below.drew ?_) | (with_reducible refine Below.setCell ?_ ?_ _) | (with_reducible exact Nat.le_refl _) | omega | (simp; done) | (simp [go_sem]; done) | (simp at *; omega))
def numE : List Int → List V2 → Int
  | n :: l, m :: q => if m.x ≤ n ∧ n ≤ m.y then numE l q else 2
  | _, _ => 0
theorem numE_stone (s : StoneR) : numE (numsL s) limsL = stoneE s := by
  unfold stoneE stoneB numsL limsL
  simp only [numE]
  by_cases h : (1 ≤ s.size ∧ s.size ≤ 1000) ∧ (1 ≤ s.dens ∧ s.dens ≤ 9000) ∧ (0 ≤ s.strong ∧ s.strong ≤ 1099511627776) ∧ (0 ≤ s.spin ∧ s.spin ≤ 1000) ∧ (500 ≤ s.shape ∧ s.shape ≤ 2000) ∧ (1 ≤ s.speed ∧ s.speed ≤ 8000) ∧ 1 ≤ s.slope ∧ s.slope ≤ 1000
  · obtain ⟨h0, h1, h2, h3, h4, h5, h6⟩ := h
    rw [if_pos h0, if_pos h1, if_pos h2, if_pos h3, if_pos h4, if_pos h5, if_pos h6, if_pos (decide_eq_true ⟨h0, h1, h2, h3, h4, h5, h6⟩)]
  · rw [if_neg (show ¬ decide _ = true from fun q => h (of_decide_eq_true q))]
    by_cases h0 : 1 ≤ s.size ∧ s.size ≤ 1000
    · rw [if_pos h0]
      by_cases h1 : 1 ≤ s.dens ∧ s.dens ≤ 9000
      · rw [if_pos h1]
        by_cases h2 : 0 ≤ s.strong ∧ s.strong ≤ 1099511627776
        · rw [if_pos h2]
          by_cases h3 : 0 ≤ s.spin ∧ s.spin ≤ 1000
          · rw [if_pos h3]
            by_cases h4 : 500 ≤ s.shape ∧ s.shape ≤ 2000
            · rw [if_pos h4]
              by_cases h5 : 1 ≤ s.speed ∧ s.speed ≤ 8000
              · rw [if_pos h5]
                by_cases h6 : 1 ≤ s.slope ∧ s.slope ≤ 1000
                · exact absurd ⟨h0, h1, h2, h3, h4, h5, h6⟩ h
                · rw [if_neg h6]
              · rw [if_neg h5]
            · rw [if_neg h4]
          · rw [if_neg h3]
        · rw [if_neg h2]
      · rw [if_neg h1]
    · rw [if_neg h0]
set_option maxRecDepth 100000 in
set_option maxHeartbeats 8000000 in
theorem rCheckStone_any (s : StoneR) (w : World) : Calls Tryd.prog 51 #[s.val] w (Gives (.int .i64 (stoneE s)) w) := by
  rw [← numE_stone]
  obtain ⟨V, hV⟩ : ∃ V, numE (numsL s) limsL = V := ⟨_, rfl⟩
  rw [hV]
  replace hV := Go.Lib.hid hV
  have cs := fun W => rnumbers_g s W
  have cl := fun W => rlimits_g W
  have hsl : (numsL s).length = 7 := rfl
  have hll : limsL.length = 7 := rfl
  generalize numsL s = SL at *
  generalize limsL = ML at *
  unfold StoneR.val StoneR.vals at *
  go_enter Tryd.func51, Tryd.ntmps51
  go_wp2_with (first | ((first | with_reducible refine wp_region_ext2 (by kernel_rfl) (by kernel_rfl) ?_ | with_reducible refine wp_region_ext (by kernel_rfl) (by kernel_rfl) ?_); (repeat (first | go_big_quiet_step ((first | fail)) | quiet_step ((first | fail)))); refine wpQuiet_nil ?_; rintro _ ⟨yr, rfl⟩; have syr := Ext.size yr; (repeat (first | rw [World.size_alloc] at syr | rw [World.size_setCell] at syr | rw [World.size_drew] at syr))) | (go_at_call 82; refine (cs _).mono ?_; rintro _ _ ⟨y1, G, rfl, rfl, hP⟩; have sy1 := y1.size) | (go_at_call 83; refine (cl _).mono ?_; rintro _ _ ⟨y2, H, rfl, rfl, hQ⟩; have sy2 := y2.size))
  refine wp_named (fun W0 hW => ?_)
  have hB0 : Below w.heap.size w W0 := by rw [← hW]; repeat' (first | (with_reducible exact Below.refl _ _) | (with_reducible assumption) | (with_reducible refine Ext.below _ ?_ ?_) | (with_reducible refine Below.on ?_ (by with_reducible assumption) ?_) | (with_reducible refine Below.alloc ?_ ?_ _) | (with_reducible refine Below.drew ?_) | (with_reducible refine Below.setCell ?_ ?_ _) | (with_reducible exact Nat.le_refl _) | omega | (simp; done) | (simp [go_sem]; done) | (simp at *; omega))
  have hP0 : N7At W0 G SL := by rw [← hW]; exact hP.on y2.grew
  have hQ0 : P7At W0 H ML := by rw [← hW]; exact hQ
  clear hW hP hQ
  have hG := hP0.1
  have hH := hQ0.1
  replace hP0 := Go.Lib.hid hP0
  replace hQ0 := Go.Lib.hid hQ0
  go_loopw [5] (fun s W => ∃ (i : Nat) (x : Ext W0), s = .int .i64 i ∧ W = x.now ∧ Hid (i ≤ 7 ∧ numE (SL.drop i) (ML.drop i) = V)) (fun s _ => 7 - (intOf s).toNat)
  case atStart => exact ⟨0, ⟨W0, Below.refl _ _⟩, rfl, rfl, Go.Lib.hid ⟨by omega, by simpa using hV.out⟩⟩
  case round =>
    obtain ⟨i, x, rfl, rfl, hi⟩ := hrel
    have xs := x.size
    have sB0 := hB0.size
    by_cases hlt : i < 7
    · have hlt2 : (i : Int) < 7 := by omega
      have hs2 : i < SL.length := by omega
      have hm2 : i < ML.length := by omega
      have a0 := hP0.out.2 i hs2
      obtain ⟨l0, l1⟩ := hQ0.out.2 i hm2
      have hE := hi.out.2
      rw [drop_at hs2, drop_at hm2, numE] at hE
      generalize SL[i] = v at *
      generalize ML[i] = m at *
      obtain ⟨mx, my⟩ := m
      simp only at l0 l1 hE
      have cb := fun W => rbetween_any v mx my W
      clear hi
      by_cases hin : mx ≤ v ∧ v ≤ my
      · rw [decide_eq_true hin] at cb
        rw [if_pos hin] at hE
        have key : Hid (i + 1 ≤ 7 ∧ numE (SL.drop (i + 1)) (ML.drop (i + 1)) = V) := Go.Lib.hid ⟨hlt, hE⟩
        clear hE hin
        go_wp2_with (first | ((first | with_reducible refine wp_region_ext2 (by kernel_rfl) (by kernel_rfl) ?_ | with_reducible refine wp_region_ext (by kernel_rfl) (by kernel_rfl) ?_); (repeat (first | go_big_quiet_step ((first | (go_at_call 59; with_reducible exact Calls.ext (cb _)))) | quiet_step ((first | (go_at_call 59; with_reducible exact Calls.ext (cb _)))))); refine wpQuiet_nil ?_; rintro _ ⟨yr, rfl⟩; have syr := Ext.size yr; (repeat (first | rw [World.size_alloc] at syr | rw [World.size_setCell] at syr | rw [World.size_drew] at syr)); have : G < yr.now.heap.size := (by omega); have : G ≤ yr.now.heap.size := (by omega); have : G < yr.now.heap.size + 1 + 1 := (by omega); have : H < yr.now.heap.size := (by omega); have : H ≤ yr.now.heap.size := (by omega); have : H < yr.now.heap.size + 1 + 1 := (by omega)) | (go_at_call 59; (first | with_reducible refine (Calls.giv2 (cb _)).mono ?_ | with_reducible refine (Calls.giv (cb _)).mono ?_); rintro _ _ ⟨y1, rfl, rfl⟩; have sy1 := Ext.size y1; (repeat (first | rw [World.size_alloc] at sy1 | rw [World.size_setCell] at sy1 | rw [World.size_drew] at sy1)); have : G < y1.now.heap.size := (by omega); have : G ≤ y1.now.heap.size := (by omega); have : G < y1.now.heap.size + 1 + 1 := (by omega); have : H < y1.now.heap.size := (by omega); have : H ≤ y1.now.heap.size := (by omega); have : H < y1.now.heap.size + 1 + 1 := (by omega)))
        exact ⟨⟨i + 1, ⟨_, by repeat' (first | (with_reducible exact Below.refl _ _) | (with_reducible assumption) | (with_reducible refine Ext.below _ ?_ ?_) | (with_reducible refine Below.on ?_ (by with_reducible assumption) ?_) | (with_reducible refine Below.alloc ?_ ?_ _) | (with_reducible refine Below.drew ?_) | (with_reducible refine Below.setCell ?_ ?_ _) | (with_reducible exact Nat.le_refl _) | omega | (simp; done) | (simp [go_sem]; done) | (simp at *; omega))⟩, by simp, rfl, key⟩, by simp [intOf]; omega⟩
      · rw [decide_eq_false hin] at cb
        rw [if_neg hin] at hE
        subst hE
        clear hin
        go_wp2_with (first | ((first | with_reducible refine wp_region_ext2 (by kernel_rfl) (by kernel_rfl) ?_ | with_reducible refine wp_region_ext (by kernel_rfl) (by kernel_rfl) ?_); (repeat (first | go_big_quiet_step ((first | (go_at_call 59; with_reducible exact Calls.ext (cb _)))) | quiet_step ((first | (go_at_call 59; with_reducible exact Calls.ext (cb _)))))); refine wpQuiet_nil ?_; rintro _ ⟨yr, rfl⟩; have syr := Ext.size yr; (repeat (first | rw [World.size_alloc] at syr | rw [World.size_setCell] at syr | rw [World.size_drew] at syr)); have : G < yr.now.heap.size := (by omega); have : G ≤ yr.now.heap.size := (by omega); have : G < yr.now.heap.size + 1 + 1 := (by omega); have : H < yr.now.heap.size := (by omega); have : H ≤ yr.now.heap.size := (by omega); have : H < yr.now.heap.size + 1 + 1 := (by omega)) | (go_at_call 59; (first | with_reducible refine (Calls.giv2 (cb _)).mono ?_ | with_reducible refine (Calls.giv (cb _)).mono ?_); rintro _ _ ⟨y1, rfl, rfl⟩; have sy1 := Ext.size y1; (repeat (first | rw [World.size_alloc] at sy1 | rw [World.size_setCell] at sy1 | rw [World.size_drew] at sy1)); have : G < y1.now.heap.size := (by omega); have : G ≤ y1.now.heap.size := (by omega); have : G < y1.now.heap.size + 1 + 1 := (by omega); have : H < y1.now.heap.size := (by omega); have : H ≤ y1.now.heap.size := (by omega); have : H < y1.now.heap.size + 1 + 1 := (by omega)))
        go_returns
        refine ⟨rfl, ?_⟩
        repeat' (first | (with_reducible exact Below.refl _ _) | (with_reducible assumption) | (with_reducible refine Ext.below _ ?_ ?_) | (with_reducible refine Below.on ?_ (by with_reducible assumption) ?_) | (with_reducible refine Below.alloc ?_ ?_ _) | (with_reducible refine Below.drew ?_) | (with_reducible refine Below.setCell ?_ ?_ _) | (with_reducible exact Nat.le_refl _) | omega | (simp; done) | (simp [go_sem]; done) | (simp at *; omega))
    · have hge : i = 7 := by have := hi.out.1; omega
      subst hge
      have eV : V = 0 := by have hE := hi.out.2; rw [List.drop_of_length_le (by omega), numE] at hE; exact hE.symm; intro v l m q e; cases e
      clear hi hV
      subst eV
      go_wp2_with (first | ((first | with_reducible refine wp_region_ext2 (by kernel_rfl) (by kernel_rfl) ?_ | with_reducible refine wp_region_ext (by kernel_rfl) (by kernel_rfl) ?_); (repeat (first | go_big_quiet_step ((first | fail)) | quiet_step ((first | fail)))); refine wpQuiet_nil ?_; rintro _ ⟨yr, rfl⟩; have syr := Ext.size yr; (repeat (first | rw [World.size_alloc] at syr | rw [World.size_setCell] at syr | rw [World.size_drew] at syr))))
      go_returns
      refine ⟨rfl, ?_⟩
      repeat' (first | (with_reducible exact Below.refl _ _) | (with_reducible assumption) | (with_reducible refine Ext.below _ ?_ ?_) | (with_reducible refine Below.on ?_ (by with_reducible assumption) ?_) | (with_reducible refine Below.alloc ?_ ?_ _) | (with_reducible refine Below.drew ?_) | (with_reducible refine Below.setCell ?_ ?_ _) | (with_reducible exact Nat.le_refl _) | omega | (simp; done) | (simp [go_sem]; done) | (simp at *; omega))
end Go.Proofs.YtfjieblihbnmjaaDoor

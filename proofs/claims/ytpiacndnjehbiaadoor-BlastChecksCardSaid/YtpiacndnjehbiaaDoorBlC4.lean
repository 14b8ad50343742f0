/- Of, of the program and of the reference: whether a stone is one of a rock with a fall. Written by gen_checks.py. Condition: the table of limits stands as it was laid. -/
import Derived.Test.YtpiacndnjehbiaaDoorBlC3
import Derived.Test.YtpiacndnjehbiaaDoorBlReg
namespace Go.Proofs.YtpiacndnjehbiaaDoor
open Go.RowKit Go.Shelf
attribute [local go_sem] Option.isSome_some Ext.cell Ext.frozen Ext.lt Ext.le Ext.lt_add Ext.le_add Ext.ne Ext.ne' lt2 lt3 lt4 lt5 le2 le3 le4
def insE : List Int → List V2 → Bool
  | n :: l, m :: q => if m.x ≤ n ∧ n ≤ m.y then insE l q else false
  | _, _ => true
/-- Whether a stone is one of a rock with a fall. -/
def ofB (s : StoneR) (k : RockR) (f : FallR) : Bool := stoneB s && (rockE k f == 0) && (s.pile == k.pile) && insE (numsL s) (spansL k f)
theorem firstE_zero : ∀ (SL ML : List V2), SL.length = ML.length → firstE SL ML = 0 → ∀ i (h : i < SL.length) (h' : i < ML.length), spE SL[i] ML[i] = 0
  | [], _, _, _, i, h, _ => by simp at h
  | v :: l, [], hl, _, _, _, _ => by simp at hl
  | v :: l, m :: q, hl, h, i, hi, hi' => by
    unfold firstE at h
    by_cases h0 : spE v m = 0
    · rw [if_pos h0] at h
      cases i with
      | zero => exact h0
      | succ i => exact firstE_zero l q (by simpa using hl) h i (by simpa using hi) (by simpa using hi')
    · rw [if_neg h0] at h; exact absurd h h0
theorem spans_in {k : RockR} {f : FallR} (h : rockE k f = 0) : ∀ v ∈ spansL k f, (-1152921504606846976 ≤ v.x ∧ v.x ≤ v.y) ∧ v.y ≤ 1152921504606846976 := by
  intro v hv
  obtain ⟨i, hi, rfl⟩ := List.getElem_of_mem hv
  have hi' : i < limsL.length := hi
  have h0 := firstE_zero (spansL k f) limsL rfl h i hi hi'
  obtain ⟨⟨m0, m1⟩, m2⟩ := lims_in limsL[i] (List.getElem_mem hi')
  unfold spE at h0
  split at h0
  · cases h0
  · split at h0
    · rename_i q1 q2; exact ⟨⟨by omega, by omega⟩, by omega⟩
    · cases h0
theorem stoneE_ne {s : StoneR} (h : stoneB s = false) : stoneE s = 2 := by unfold stoneE; rw [h]; rfl
theorem stoneE_eq {s : StoneR} (h : stoneB s = true) : stoneE s = 0 := by unfold stoneE; rw [h]; rfl
theorem n7_at (s : StoneR) (i : Nat) (hi : i < (numsL s).length) (w : World) : (Instr.index 92 (.agg #[.int .i64 s.size, .int .i64 s.dens, .int .i64 s.strong, .int .i64 s.spin, .int .i64 s.shape, .int .i64 s.speed, .int .i64 s.slope]) (.int .i64 i)).run Tryd.prog w = .ok (.int .i64 (numsL s)[i]) w := by
  have hi7 : i < 7 := hi
  rcases (show i = 0 ∨ i = 1 ∨ i = 2 ∨ i = 3 ∨ i = 4 ∨ i = 5 ∨ i = 6 by omega) with rfl | rfl | rfl | rfl | rfl | rfl | rfl
  · exact n7_at0 _ _ _ _ _ _ _ w
  · exact n7_at1 _ _ _ _ _ _ _ w
  · exact n7_at2 _ _ _ _ _ _ _ w
  · exact n7_at3 _ _ _ _ _ _ _ w
  · exact n7_at4 _ _ _ _ _ _ _ w
  · exact n7_at5 _ _ _ _ _ _ _ w
  · exact n7_at6 _ _ _ _ _ _ _ w
def rofDeps : List (List Nat) := [[], [], [0, 1], [], [3, 2], [2, 4], [4, 5]]
def rofInv (k : RockR) (f : FallR) (s : StoneR) (a0 : Act) (X : World) (l : List Bool) (fr : Act) (W : World) : Prop :=
  ∃ s7 s8 s26 s27 s28 s29 s30 : Value, fr = sets a0 [(7, s7), (8, s8), (26, s26), (27, s27), (28, s28), (29, s29), (30, s30)] ∧ Below X.heap.size X W ∧
    (l.getD 0 false = true → s26 = .agg #[.int .i64 k.size.x, .int .i64 k.size.y, .int .i64 k.dens.x, .int .i64 k.dens.y, .int .i64 k.strong.x, .int .i64 k.strong.y, .int .i64 k.spin.x, .int .i64 k.spin.y, .int .i64 k.shape.x, .int .i64 k.shape.y, .bool k.pile]) ∧
    (l.getD 1 false = true → s27 = .agg #[.int .i64 f.speed.x, .int .i64 f.speed.y, .int .i64 f.slope.x, .int .i64 f.slope.y]) ∧
    (l.getD 2 false = true → ∃ g : Nat, s28 = .slice (some ⟨g, 0, none⟩) 7 7 ∧ P7At W g (spansL k f)) ∧
    (l.getD 3 false = true → s29 = .agg #[.int .i64 s.size, .int .i64 s.dens, .int .i64 s.strong, .int .i64 s.spin, .int .i64 s.shape, .bool s.pile, .int .i64 s.speed, .int .i64 s.slope]) ∧
    (l.getD 4 false = true → ∃ g : Nat, s30 = .slice (some ⟨g, 0, none⟩) 7 7 ∧ N7At W g (numsL s)) ∧
    (l.getD 5 false = true → ∃ g : Nat, s7 = .slice (some ⟨g, 0, none⟩) 7 7 ∧ P7At W g (spansL k f)) ∧
    (l.getD 6 false = true → ∃ g : Nat, s8 = .slice (some ⟨g, 0, none⟩) 7 7 ∧ N7At W g (numsL s))
def rofTold (k : RockR) (f : FallR) (s : StoneR) : Act → World → Act → World → Prop := fun a X a' W => ∃ (g h : Nat), a' = sets a [(7, .slice (some ⟨g, 0, none⟩) 7 7), (8, .slice (some ⟨h, 0, none⟩) 7 7), (26, a'.tmps.getD 26 undef), (27, a'.tmps.getD 27 undef), (28, a'.tmps.getD 28 undef), (29, a'.tmps.getD 29 undef), (30, a'.tmps.getD 30 undef)] ∧ Below X.heap.size X W ∧ P7At W g (spansL k f) ∧ N7At W h (numsL s)
set_option maxRecDepth 100000 in
set_option maxHeartbeats 8000000 in
theorem rOf_any (s : StoneR) (k : RockR) (f : FallR) (w : World) : Calls Tryd.prog 16 #[s.val, k.val, f.val] w (Gives (.bool (ofB s k f)) w) := by
  have cst := fun W => rCheckStone_any s W
  have crk := fun W => rCheckRock_any k f W
  have cs := fun W => rspans_g k f W
  have cn := fun W => rnumbers_g s W
  unfold ofB
  cases hb : stoneB s
  · rw [stoneE_ne hb] at cst
    clear hb crk cs cn
    simp only [Bool.false_and]
    unfold StoneR.val StoneR.vals RockR.val FallR.val at *
    go_enter Tryd.func16, Tryd.ntmps16
    go_wp2_with (first | ((first | with_reducible refine wp_region_ext2 (by kernel_rfl) (by kernel_rfl) ?_ | with_reducible refine wp_region_ext (by kernel_rfl) (by kernel_rfl) ?_); (repeat (first | go_big_quiet_step ((first | (go_at_call 14; with_reducible exact Calls.ext (cst _)))) | quiet_step ((first | (go_at_call 14; with_reducible exact Calls.ext (cst _)))))); refine wpQuiet_nil ?_; rintro _ ⟨yr, rfl⟩; have syr := Ext.size yr; (repeat (first | rw [World.size_alloc] at syr | rw [World.size_setCell] at syr | rw [World.size_drew] at syr))) | (go_at_call 14; (first | with_reducible refine (Calls.giv2 (cst _)).mono ?_ | with_reducible refine (Calls.giv (cst _)).mono ?_); rintro _ _ ⟨y1, rfl, rfl⟩; have sy1 := Ext.size y1; (repeat (first | rw [World.size_alloc] at sy1 | rw [World.size_setCell] at sy1 | rw [World.size_drew] at sy1))))
    go_returns
    refine ⟨rfl, ?_⟩
    repeat' (first | (with_reducible exact Below.refl _ _) | (with_reducible assumption) | (with_reducible refine Ext.below _ ?_ ?_) | (with_reducible refine Below.on ?_ (by with_reducible assumption) ?_) | (with_reducible refine Below.alloc ?_ ?_ _) | (with_reducible refine Below.drew ?_) | (with_reducible refine Below.setCell ?_ ?_ _) | (with_reducible exact Nat.le_refl _) | omega | (simp; done) | (simp [go_sem]; done) | (simp at *; omega))
  rw [stoneE_eq hb] at cst
  clear hb
  cases hr : (rockE k f == 0)
  · have hr2 : rockE k f ≠ 0 := by simpa using hr
    simp only [Bool.and_false, Bool.false_and]
    generalize rockE k f = R at *
    clear cs cn
    unfold StoneR.val StoneR.vals RockR.val FallR.val at *
    go_enter Tryd.func16, Tryd.ntmps16
    go_wp2_with (first | ((first | with_reducible refine wp_region_ext2 (by kernel_rfl) (by kernel_rfl) ?_ | with_reducible refine wp_region_ext (by kernel_rfl) (by kernel_rfl) ?_); (repeat (first | go_big_quiet_step ((first | (go_at_call 14; with_reducible exact Calls.ext (cst _)) | (go_at_call 12; with_reducible exact Calls.ext (crk _)))) | quiet_step ((first | (go_at_call 14; with_reducible exact Calls.ext (cst _)) | (go_at_call 12; with_reducible exact Calls.ext (crk _)))))); refine wpQuiet_nil ?_; rintro _ ⟨yr, rfl⟩; have syr := Ext.size yr; (repeat (first | rw [World.size_alloc] at syr | rw [World.size_setCell] at syr | rw [World.size_drew] at syr))) | (go_at_call 14; (first | with_reducible refine (Calls.giv2 (cst _)).mono ?_ | with_reducible refine (Calls.giv (cst _)).mono ?_); rintro _ _ ⟨y1, rfl, rfl⟩; have sy1 := Ext.size y1; (repeat (first | rw [World.size_alloc] at sy1 | rw [World.size_setCell] at sy1 | rw [World.size_drew] at sy1))) | (go_at_call 12; (first | with_reducible refine (Calls.giv2 (crk _)).mono ?_ | with_reducible refine (Calls.giv (crk _)).mono ?_); rintro _ _ ⟨y2, rfl, rfl⟩; have sy2 := Ext.size y2; (repeat (first | rw [World.size_alloc] at sy2 | rw [World.size_setCell] at sy2 | rw [World.size_drew] at sy2))))
    go_returns
    refine ⟨rfl, ?_⟩
    repeat' (first | (with_reducible exact Below.refl _ _) | (with_reducible assumption) | (with_reducible refine Ext.below _ ?_ ?_) | (with_reducible refine Below.on ?_ (by with_reducible assumption) ?_) | (with_reducible refine Below.alloc ?_ ?_ _) | (with_reducible refine Below.drew ?_) | (with_reducible refine Below.setCell ?_ ?_ _) | (with_reducible exact Nat.le_refl _) | omega | (simp; done) | (simp [go_sem]; done) | (simp at *; omega))
  have hr2 : rockE k f = 0 := by simpa using hr
  rw [hr2] at crk
  clear hr
  cases hp : (s.pile == k.pile)
  · simp only [Bool.and_false, Bool.false_and]
    clear cs cn hr2
    unfold StoneR.val StoneR.vals RockR.val FallR.val at *
    generalize s.pile = sp at *
    generalize k.pile = kp at *
    go_enter Tryd.func16, Tryd.ntmps16
    go_wp2_with (first | ((first | with_reducible refine wp_region_ext2 (by kernel_rfl) (by kernel_rfl) ?_ | with_reducible refine wp_region_ext (by kernel_rfl) (by kernel_rfl) ?_); (repeat (first | go_big_quiet_step ((first | (go_at_call 14; with_reducible exact Calls.ext (cst _)) | (go_at_call 12; with_reducible exact Calls.ext (crk _)))) | quiet_step ((first | (go_at_call 14; with_reducible exact Calls.ext (cst _)) | (go_at_call 12; with_reducible exact Calls.ext (crk _)))))); refine wpQuiet_nil ?_; rintro _ ⟨yr, rfl⟩; have syr := Ext.size yr; (repeat (first | rw [World.size_alloc] at syr | rw [World.size_setCell] at syr | rw [World.size_drew] at syr))) | (go_at_call 14; (first | with_reducible refine (Calls.giv2 (cst _)).mono ?_ | with_reducible refine (Calls.giv (cst _)).mono ?_); rintro _ _ ⟨y1, rfl, rfl⟩; have sy1 := Ext.size y1; (repeat (first | rw [World.size_alloc] at sy1 | rw [World.size_setCell] at sy1 | rw [World.size_drew] at sy1))) | (go_at_call 12; (first | with_reducible refine (Calls.giv2 (crk _)).mono ?_ | with_reducible refine (Calls.giv (crk _)).mono ?_); rintro _ _ ⟨y2, rfl, rfl⟩; have sy2 := Ext.size y2; (repeat (first | rw [World.size_alloc] at sy2 | rw [World.size_setCell] at sy2 | rw [World.size_drew] at sy2))))
    all_goals go_returns
    all_goals refine ⟨rfl, ?_⟩
    repeat' (first | (with_reducible exact Below.refl _ _) | (with_reducible assumption) | (with_reducible refine Ext.below _ ?_ ?_) | (with_reducible refine Below.on ?_ (by with_reducible assumption) ?_) | (with_reducible refine Below.alloc ?_ ?_ _) | (with_reducible refine Below.drew ?_) | (with_reducible refine Below.setCell ?_ ?_ _) | (with_reducible exact Nat.le_refl _) | omega | (simp; done) | (simp [go_sem]; done) | (simp at *; omega))
  · simp only [Bool.true_and]
    obtain ⟨V, hV⟩ : ∃ V, insE (numsL s) (spansL k f) = V := ⟨_, rfl⟩
    rw [hV]
    replace hV := Go.Lib.hid hV
    clear hr2
    unfold StoneR.val StoneR.vals RockR.val FallR.val at *
    go_enter Tryd.func16, Tryd.ntmps16
    go_upto_region 3 with (first | ((first | with_reducible refine wp_region_ext2 (by kernel_rfl) (by kernel_rfl) ?_ | with_reducible refine wp_region_ext (by kernel_rfl) (by kernel_rfl) ?_); (repeat (first | go_big_quiet_step ((first | (go_at_call 14; with_reducible exact Calls.ext (cst _)) | (go_at_call 12; with_reducible exact Calls.ext (crk _)))) | quiet_step ((first | (go_at_call 14; with_reducible exact Calls.ext (cst _)) | (go_at_call 12; with_reducible exact Calls.ext (crk _)))))); refine wpQuiet_nil ?_; rintro _ ⟨yr, rfl⟩; have syr := Ext.size yr; (repeat (first | rw [World.size_alloc] at syr | rw [World.size_setCell] at syr | rw [World.size_drew] at syr)); have : w.heap.size < yr.now.heap.size := (by omega); have : w.heap.size ≤ yr.now.heap.size := (by omega); have : w.heap.size < yr.now.heap.size + 1 + 1 := (by omega); have : w.heap.size + 1 < yr.now.heap.size := (by omega); have : w.heap.size + 1 ≤ yr.now.heap.size := (by omega); have : w.heap.size + 1 < yr.now.heap.size + 1 + 1 := (by omega); have : w.heap.size + 1 + 1 < yr.now.heap.size := (by omega); have : w.heap.size + 1 + 1 ≤ yr.now.heap.size := (by omega); have : w.heap.size + 1 + 1 < yr.now.heap.size + 1 + 1 := (by omega)) | (go_at_call 14; (first | with_reducible refine (Calls.giv2 (cst _)).mono ?_ | with_reducible refine (Calls.giv (cst _)).mono ?_); rintro _ _ ⟨y1, rfl, rfl⟩; have sy1 := Ext.size y1; (repeat (first | rw [World.size_alloc] at sy1 | rw [World.size_setCell] at sy1 | rw [World.size_drew] at sy1)); have : w.heap.size < y1.now.heap.size := (by omega); have : w.heap.size ≤ y1.now.heap.size := (by omega); have : w.heap.size < y1.now.heap.size + 1 + 1 := (by omega); have : w.heap.size + 1 < y1.now.heap.size := (by omega); have : w.heap.size + 1 ≤ y1.now.heap.size := (by omega); have : w.heap.size + 1 < y1.now.heap.size + 1 + 1 := (by omega); have : w.heap.size + 1 + 1 < y1.now.heap.size := (by omega); have : w.heap.size + 1 + 1 ≤ y1.now.heap.size := (by omega); have : w.heap.size + 1 + 1 < y1.now.heap.size + 1 + 1 := (by omega)) | (go_at_call 12; (first | with_reducible refine (Calls.giv2 (crk _)).mono ?_ | with_reducible refine (Calls.giv (crk _)).mono ?_); rintro _ _ ⟨y2, rfl, rfl⟩; have sy2 := Ext.size y2; (repeat (first | rw [World.size_alloc] at sy2 | rw [World.size_setCell] at sy2 | rw [World.size_drew] at sy2)); have : w.heap.size < y2.now.heap.size := (by omega); have : w.heap.size ≤ y2.now.heap.size := (by omega); have : w.heap.size < y2.now.heap.size + 1 + 1 := (by omega); have : w.heap.size + 1 < y2.now.heap.size := (by omega); have : w.heap.size + 1 ≤ y2.now.heap.size := (by omega); have : w.heap.size + 1 < y2.now.heap.size + 1 + 1 := (by omega); have : w.heap.size + 1 + 1 < y2.now.heap.size := (by omega); have : w.heap.size + 1 + 1 ≤ y2.now.heap.size := (by omega); have : w.heap.size + 1 + 1 < y2.now.heap.size + 1 + 1 := (by omega)))
    refine wp_named (fun W0 hW => ?_)
    have q0 : W0.cell? ⟨w.heap.size, 0, none⟩ = some (.int .i64 s.size) := by rw [← hW]; simp [go_sem]
    have q1 : W0.cell? ⟨w.heap.size, 1, none⟩ = some (.int .i64 s.dens) := by rw [← hW]; simp [go_sem]
    have q2 : W0.cell? ⟨w.heap.size, 2, none⟩ = some (.int .i64 s.strong) := by rw [← hW]; simp [go_sem]
    have q3 : W0.cell? ⟨w.heap.size, 3, none⟩ = some (.int .i64 s.spin) := by rw [← hW]; simp [go_sem]
    have q4 : W0.cell? ⟨w.heap.size, 4, none⟩ = some (.int .i64 s.shape) := by rw [← hW]; simp [go_sem]
    have q5 : W0.cell? ⟨w.heap.size, 5, none⟩ = some (.bool s.pile) := by rw [← hW]; simp [go_sem]
    have q6 : W0.cell? ⟨w.heap.size, 6, none⟩ = some (.int .i64 s.speed) := by rw [← hW]; simp [go_sem]
    have q7 : W0.cell? ⟨w.heap.size, 7, none⟩ = some (.int .i64 s.slope) := by rw [← hW]; simp [go_sem]
    have c0 : W0.cell? ⟨w.heap.size + 1, 0, none⟩ = some (.int .i64 k.size.x) := by rw [← hW]; simp [go_sem]
    have c1 : W0.cell? ⟨w.heap.size + 1, 1, none⟩ = some (.int .i64 k.size.y) := by rw [← hW]; simp [go_sem]
    have c2 : W0.cell? ⟨w.heap.size + 1, 2, none⟩ = some (.int .i64 k.dens.x) := by rw [← hW]; simp [go_sem]
    have c3 : W0.cell? ⟨w.heap.size + 1, 3, none⟩ = some (.int .i64 k.dens.y) := by rw [← hW]; simp [go_sem]
    have c4 : W0.cell? ⟨w.heap.size + 1, 4, none⟩ = some (.int .i64 k.strong.x) := by rw [← hW]; simp [go_sem]
    have c5 : W0.cell? ⟨w.heap.size + 1, 5, none⟩ = some (.int .i64 k.strong.y) := by rw [← hW]; simp [go_sem]
    have c6 : W0.cell? ⟨w.heap.size + 1, 6, none⟩ = some (.int .i64 k.spin.x) := by rw [← hW]; simp [go_sem]
    have c7 : W0.cell? ⟨w.heap.size + 1, 7, none⟩ = some (.int .i64 k.spin.y) := by rw [← hW]; simp [go_sem]
    have c8 : W0.cell? ⟨w.heap.size + 1, 8, none⟩ = some (.int .i64 k.shape.x) := by rw [← hW]; simp [go_sem]
    have c9 : W0.cell? ⟨w.heap.size + 1, 9, none⟩ = some (.int .i64 k.shape.y) := by rw [← hW]; simp [go_sem]
    have c10 : W0.cell? ⟨w.heap.size + 1, 10, none⟩ = some (.bool k.pile) := by rw [← hW]; simp [go_sem]
    have d0 : W0.cell? ⟨w.heap.size + 1 + 1, 0, none⟩ = some (.int .i64 f.speed.x) := by rw [← hW]; simp [go_sem]
    have d1 : W0.cell? ⟨w.heap.size + 1 + 1, 1, none⟩ = some (.int .i64 f.speed.y) := by rw [← hW]; simp [go_sem]
    have d2 : W0.cell? ⟨w.heap.size + 1 + 1, 2, none⟩ = some (.int .i64 f.slope.x) := by rw [← hW]; simp [go_sem]
    have d3 : W0.cell? ⟨w.heap.size + 1 + 1, 3, none⟩ = some (.int .i64 f.slope.y) := by rw [← hW]; simp [go_sem]
    have lS : w.heap.size < W0.heap.size := by rw [← hW]; omega
    have lK : w.heap.size + 1 < W0.heap.size := by rw [← hW]; omega
    have lF : w.heap.size + 1 + 1 < W0.heap.size := by rw [← hW]; omega
    have hB0 : Below w.heap.size w W0 := by rw [← hW]; repeat' (first | (with_reducible exact Below.refl _ _) | (with_reducible assumption) | (with_reducible refine Ext.below _ ?_ ?_) | (with_reducible refine Below.on ?_ (by with_reducible assumption) ?_) | (with_reducible refine Below.alloc ?_ ?_ _) | (with_reducible refine Below.drew ?_) | (with_reducible refine Below.setCell ?_ ?_ _) | (with_reducible exact Nat.le_refl _) | omega | (simp; done) | (simp [go_sem]; done) | (simp at *; omega))
    clear hW
    clear cst crk
    refine wp_tell (rofTold k f s) ?_ ?_
    focus
      repeat (rename_i zz; clear zz)
      refine region_dep (by kernel_rfl) rofDeps (by kernel_rfl) (rofInv k f s) ?h0 ?hstep ?hend
      case h0 =>
        refine ⟨?z7, ?z8, ?z26, ?z27, ?z28, ?z29, ?z30, ?fr, (Below.refl _ _).drew, by simp, by simp, by simp, by simp, by simp, by simp, by simp⟩
        case fr =>
          simp only [sets, List.foldl_cons, List.foldl_nil, List.set_cons_succ, List.set_cons_zero]
          rfl
      case hend =>
        intro l' fr W hl hall hInv
        unfold rofInv at hInv
        obtain ⟨s7, s8, s26, s27, s28, s29, s30, hInv⟩ := hInv
        obtain ⟨hfr, hB, f0, f1, f2, f3, f4, f5, f6⟩ := hInv
        subst hfr
        obtain ⟨b0, b1, b2, b3, b4, b5, b6, rfl⟩ := list7 hl
        simp only [List.getD_cons_zero, List.getD_cons_succ] at f0 f1 f2 f3 f4 f5 f6
        simp only [List.all_cons, id, Bool.and_eq_true] at hall
        obtain ⟨e0, e1, e2, e3, e4, e5, e6, -⟩ := hall
        obtain ⟨g, rfl, h5⟩ := f5 e5
        obtain ⟨h, rfl, h6⟩ := f6 e6
        exact ⟨rfl, g, h, by kernel_rfl, hB, h5, h6⟩
      case hstep =>
        intro l' fr W ii hl hInv hr hi
        unfold rofInv at hInv
        obtain ⟨s7, s8, s26, s27, s28, s29, s30, hInv⟩ := hInv
        obtain ⟨hfr, hB, f0, f1, f2, f3, f4, f5, f6⟩ := hInv
        subst hfr
        obtain ⟨b0, b1, b2, b3, b4, b5, b6, rfl⟩ := list7 hl
        have sW := hB.size
        replace q0 := (hB.cell (p := ⟨w.heap.size, 0, none⟩) lS).trans q0
        replace q1 := (hB.cell (p := ⟨w.heap.size, 1, none⟩) lS).trans q1
        replace q2 := (hB.cell (p := ⟨w.heap.size, 2, none⟩) lS).trans q2
        replace q3 := (hB.cell (p := ⟨w.heap.size, 3, none⟩) lS).trans q3
        replace q4 := (hB.cell (p := ⟨w.heap.size, 4, none⟩) lS).trans q4
        replace q5 := (hB.cell (p := ⟨w.heap.size, 5, none⟩) lS).trans q5
        replace q6 := (hB.cell (p := ⟨w.heap.size, 6, none⟩) lS).trans q6
        replace q7 := (hB.cell (p := ⟨w.heap.size, 7, none⟩) lS).trans q7
        replace c0 := (hB.cell (p := ⟨w.heap.size + 1, 0, none⟩) lK).trans c0
        replace c1 := (hB.cell (p := ⟨w.heap.size + 1, 1, none⟩) lK).trans c1
        replace c2 := (hB.cell (p := ⟨w.heap.size + 1, 2, none⟩) lK).trans c2
        replace c3 := (hB.cell (p := ⟨w.heap.size + 1, 3, none⟩) lK).trans c3
        replace c4 := (hB.cell (p := ⟨w.heap.size + 1, 4, none⟩) lK).trans c4
        replace c5 := (hB.cell (p := ⟨w.heap.size + 1, 5, none⟩) lK).trans c5
        replace c6 := (hB.cell (p := ⟨w.heap.size + 1, 6, none⟩) lK).trans c6
        replace c7 := (hB.cell (p := ⟨w.heap.size + 1, 7, none⟩) lK).trans c7
        replace c8 := (hB.cell (p := ⟨w.heap.size + 1, 8, none⟩) lK).trans c8
        replace c9 := (hB.cell (p := ⟨w.heap.size + 1, 9, none⟩) lK).trans c9
        replace c10 := (hB.cell (p := ⟨w.heap.size + 1, 10, none⟩) lK).trans c10
        replace d0 := (hB.cell (p := ⟨w.heap.size + 1 + 1, 0, none⟩) lF).trans d0
        replace d1 := (hB.cell (p := ⟨w.heap.size + 1 + 1, 1, none⟩) lF).trans d1
        replace d2 := (hB.cell (p := ⟨w.heap.size + 1 + 1, 2, none⟩) lF).trans d2
        replace d3 := (hB.cell (p := ⟨w.heap.size + 1 + 1, 3, none⟩) lF).trans d3
        simp only [List.getD_cons_zero, List.getD_cons_succ] at f0 f1 f2 f3 f4 f5 f6
        replace hB := Go.Lib.hid hB
        replace hi := Go.Lib.hid hi
        replace f0 := Go.Lib.hid f0
        replace f1 := Go.Lib.hid f1
        replace f2 := Go.Lib.hid f2
        replace f3 := Go.Lib.hid f3
        replace f4 := Go.Lib.hid f4
        replace f5 := Go.Lib.hid f5
        replace f6 := Go.Lib.hid f6
        rcases ii with _ | _ | _ | _ | _ | _ | _ | ii
        · refine wpOp_step rfl (fun K hK => ?_)
          simp only [sets, List.foldl_cons, List.foldl_nil, List.set_cons_succ, List.set_cons_zero]
          go_simp
          exact hK _ _ ⟨s7, s8, (.agg #[.int .i64 k.size.x, .int .i64 k.size.y, .int .i64 k.dens.x, .int .i64 k.dens.y, .int .i64 k.strong.x, .int .i64 k.strong.y, .int .i64 k.spin.x, .int .i64 k.spin.y, .int .i64 k.shape.x, .int .i64 k.shape.y, .bool k.pile]), s27, s28, s29, s30, by kernel_rfl, hB.out, fun _ => rfl, f1.out, f2.out, f3.out, f4.out, f5.out, f6.out⟩
        · refine wpOp_step rfl (fun K hK => ?_)
          simp only [sets, List.foldl_cons, List.foldl_nil, List.set_cons_succ, List.set_cons_zero]
          go_simp
          exact hK _ _ ⟨s7, s8, s26, (.agg #[.int .i64 f.speed.x, .int .i64 f.speed.y, .int .i64 f.slope.x, .int .i64 f.slope.y]), s28, s29, s30, by kernel_rfl, hB.out, f0.out, fun _ => rfl, f2.out, f3.out, f4.out, f5.out, f6.out⟩
        · simp only [rofDeps, List.getD_cons_zero, List.getD_cons_succ, List.all_cons, List.all_nil, Bool.and_true, Bool.and_eq_true] at hr
          obtain ⟨hd0, hd1⟩ := hr
          obtain rfl := f0.out hd0
          obtain rfl := f1.out hd1
          refine wpOp_step rfl (fun K hK => ?_)
          simp only [sets, List.foldl_cons, List.foldl_nil, List.set_cons_succ, List.set_cons_zero]
          go_simp
          refine (cs W).mono ?_
          rintro _ W6 ⟨y, g, rfl, rfl, h9⟩
          exact hK _ _ ⟨s7, s8, (.agg #[.int .i64 k.size.x, .int .i64 k.size.y, .int .i64 k.dens.x, .int .i64 k.dens.y, .int .i64 k.strong.x, .int .i64 k.strong.y, .int .i64 k.spin.x, .int .i64 k.spin.y, .int .i64 k.shape.x, .int .i64 k.shape.y, .bool k.pile]), (.agg #[.int .i64 f.speed.x, .int .i64 f.speed.y, .int .i64 f.slope.x, .int .i64 f.slope.y]), (.slice (some ⟨g, 0, none⟩) 7 7), s29, s30, by kernel_rfl, hB.out.trans (y.grew.mono sW), f0.out, f1.out, (fun _ => ⟨g, rfl, h9⟩), f3.out, (fun h => by obtain ⟨g, e, h9⟩ := f4.out h; exact ⟨g, e, h9.on y.grew⟩), (fun h => by obtain ⟨g, e, h9⟩ := f5.out h; exact ⟨g, e, h9.on y.grew⟩), (fun h => by obtain ⟨g, e, h9⟩ := f6.out h; exact ⟨g, e, h9.on y.grew⟩)⟩
        · refine wpOp_step rfl (fun K hK => ?_)
          simp only [sets, List.foldl_cons, List.foldl_nil, List.set_cons_succ, List.set_cons_zero]
          go_simp
          exact hK _ _ ⟨s7, s8, s26, s27, s28, (.agg #[.int .i64 s.size, .int .i64 s.dens, .int .i64 s.strong, .int .i64 s.spin, .int .i64 s.shape, .bool s.pile, .int .i64 s.speed, .int .i64 s.slope]), s30, by kernel_rfl, hB.out, f0.out, f1.out, f2.out, fun _ => rfl, f4.out, f5.out, f6.out⟩
        · simp only [rofDeps, List.getD_cons_zero, List.getD_cons_succ, List.all_cons, List.all_nil, Bool.and_true, Bool.and_eq_true] at hr
          obtain ⟨hd3, hd2⟩ := hr
          obtain rfl := f3.out hd3
          refine wpOp_step rfl (fun K hK => ?_)
          simp only [sets, List.foldl_cons, List.foldl_nil, List.set_cons_succ, List.set_cons_zero]
          go_simp
          refine (cn W).mono ?_
          rintro _ W6 ⟨y, g, rfl, rfl, h9⟩
          exact hK _ _ ⟨s7, s8, s26, s27, s28, (.agg #[.int .i64 s.size, .int .i64 s.dens, .int .i64 s.strong, .int .i64 s.spin, .int .i64 s.shape, .bool s.pile, .int .i64 s.speed, .int .i64 s.slope]), (.slice (some ⟨g, 0, none⟩) 7 7), by kernel_rfl, hB.out.trans (y.grew.mono sW), f0.out, f1.out, (fun h => by obtain ⟨g, e, h9⟩ := f2.out h; exact ⟨g, e, h9.on y.grew⟩), f3.out, (fun _ => ⟨g, rfl, h9⟩), (fun h => by obtain ⟨g, e, h9⟩ := f5.out h; exact ⟨g, e, h9.on y.grew⟩), (fun h => by obtain ⟨g, e, h9⟩ := f6.out h; exact ⟨g, e, h9.on y.grew⟩)⟩
        · simp only [rofDeps, List.getD_cons_zero, List.getD_cons_succ, List.all_cons, List.all_nil, Bool.and_true, Bool.and_eq_true] at hr
          obtain ⟨hd2, hd4⟩ := hr
          obtain ⟨g, rfl, h9⟩ := f2.out hd2
          refine wpOp_step rfl (fun K hK => ?_)
          simp only [sets, List.foldl_cons, List.foldl_nil, List.set_cons_succ, List.set_cons_zero]
          go_simp
          exact hK _ _ ⟨(.slice (some ⟨g, 0, none⟩) 7 7), s8, s26, s27, (.slice (some ⟨g, 0, none⟩) 7 7), s29, s30, by kernel_rfl, hB.out, f0.out, f1.out, (fun _ => ⟨g, rfl, h9⟩), f3.out, f4.out, (fun _ => ⟨g, rfl, h9⟩), f6.out⟩
        · simp only [rofDeps, List.getD_cons_zero, List.getD_cons_succ, List.all_cons, List.all_nil, Bool.and_true, Bool.and_eq_true] at hr
          obtain ⟨hd4, hd5⟩ := hr
          obtain ⟨g, rfl, h9⟩ := f4.out hd4
          refine wpOp_step rfl (fun K hK => ?_)
          simp only [sets, List.foldl_cons, List.foldl_nil, List.set_cons_succ, List.set_cons_zero]
          go_simp
          exact hK _ _ ⟨s7, (.slice (some ⟨g, 0, none⟩) 7 7), s26, s27, s28, s29, (.slice (some ⟨g, 0, none⟩) 7 7), by kernel_rfl, hB.out, f0.out, f1.out, f2.out, f3.out, (fun _ => ⟨g, rfl, h9⟩), f5.out, (fun _ => ⟨g, rfl, h9⟩)⟩
        · have hi := hi.out; simp at hi
    rintro a4 W4 ⟨g, h, ha4, hB4, hP4, hN4⟩
    generalize a4.tmps.getD 7 undef = s7 at ha4
    generalize a4.tmps.getD 8 undef = s8 at ha4
    generalize a4.tmps.getD 26 undef = s26 at ha4
    generalize a4.tmps.getD 27 undef = s27 at ha4
    generalize a4.tmps.getD 28 undef = s28 at ha4
    generalize a4.tmps.getD 29 undef = s29 at ha4
    generalize a4.tmps.getD 30 undef = s30 at ha4
    subst ha4
    simp only [sets, List.foldl_cons, List.foldl_nil, List.set_cons_succ, List.set_cons_zero]
    have hB5 : Below w.heap.size w W4 := hB0.trans (hB4.mono (by omega))
    have sW4 := hB4.size
    have hG := hN4.1
    have hH := hP4.1
    replace hN4 := Go.Lib.hid hN4
    replace hP4 := Go.Lib.hid hP4
    have hsl : (numsL s).length = 7 := rfl
    have hll : (spansL k f).length = 7 := rfl
    generalize numsL s = SL at *
    generalize spansL k f = ML at *
    clear hB0 hB4
    clear lS lK lF cs cn hp
    go_wp2_with (first | ((first | with_reducible refine wp_region_ext2 (by kernel_rfl) (by kernel_rfl) ?_ | with_reducible refine wp_region_ext (by kernel_rfl) (by kernel_rfl) ?_); (repeat (first | go_big_quiet_step ((first | fail)) | quiet_step ((first | fail)))); refine wpQuiet_nil ?_; rintro _ ⟨yr, rfl⟩; have syr := Ext.size yr; (repeat (first | rw [World.size_alloc] at syr | rw [World.size_setCell] at syr | rw [World.size_drew] at syr))))
    go_loopw [9] (fun s W => ∃ (i : Nat) (x : Ext W4), s = .int .i64 i ∧ W = x.now ∧ Hid (i ≤ 7 ∧ insE (SL.drop i) (ML.drop i) = V)) (fun s _ => 7 - (intOf s).toNat)
    case atStart => exact ⟨0, ⟨W4, Below.refl _ _⟩, rfl, rfl, Go.Lib.hid ⟨by omega, by simpa using hV.out⟩⟩
    case round =>
      obtain ⟨i, x, rfl, rfl, hi⟩ := hrel
      have xs := x.size
      have sB5 := hB5.size
      by_cases hlt : i < 7
      · have hlt2 : (i : Int) < 7 := by omega
        have hs2 : i < SL.length := by omega
        have hm2 : i < ML.length := by omega
        have a0 := hN4.out.2 i hs2
        obtain ⟨l0, l1⟩ := hP4.out.2 i hm2
        have hE := hi.out.2
        rw [drop_at hs2, drop_at hm2, insE] at hE
        generalize SL[i] = v at *
        generalize ML[i] = m at *
        obtain ⟨mx, my⟩ := m
        simp only at l0 l1 hE
        have cb := fun W => between_any v mx my W
        clear hi
        by_cases hin : mx ≤ v ∧ v ≤ my
        · rw [decide_eq_true hin] at cb
          rw [if_pos hin] at hE
          have key : Hid (i + 1 ≤ 7 ∧ insE (SL.drop (i + 1)) (ML.drop (i + 1)) = V) := Go.Lib.hid ⟨hlt, hE⟩
          clear hE hin
          go_wp2_with (first | ((first | with_reducible refine wp_region_ext2 (by kernel_rfl) (by kernel_rfl) ?_ | with_reducible refine wp_region_ext (by kernel_rfl) (by kernel_rfl) ?_); (repeat (first | go_big_quiet_step ((first | (go_at_call 49; with_reducible exact Calls.ext (cb _)))) | quiet_step ((first | (go_at_call 49; with_reducible exact Calls.ext (cb _)))))); refine wpQuiet_nil ?_; rintro _ ⟨yr, rfl⟩; have syr := Ext.size yr; (repeat (first | rw [World.size_alloc] at syr | rw [World.size_setCell] at syr | rw [World.size_drew] at syr)); have : g < yr.now.heap.size := (by omega); have : g ≤ yr.now.heap.size := (by omega); have : g < yr.now.heap.size + 1 + 1 := (by omega); have : h < yr.now.heap.size := (by omega); have : h ≤ yr.now.heap.size := (by omega); have : h < yr.now.heap.size + 1 + 1 := (by omega)) | (go_at_call 49; (first | with_reducible refine (Calls.giv2 (cb _)).mono ?_ | with_reducible refine (Calls.giv (cb _)).mono ?_); rintro _ _ ⟨y1, rfl, rfl⟩; have sy1 := Ext.size y1; (repeat (first | rw [World.size_alloc] at sy1 | rw [World.size_setCell] at sy1 | rw [World.size_drew] at sy1)); have : g < y1.now.heap.size := (by omega); have : g ≤ y1.now.heap.size := (by omega); have : g < y1.now.heap.size + 1 + 1 := (by omega); have : h < y1.now.heap.size := (by omega); have : h ≤ y1.now.heap.size := (by omega); have : h < y1.now.heap.size + 1 + 1 := (by omega)))
          exact ⟨⟨i + 1, ⟨_, by repeat' (first | (with_reducible exact Below.refl _ _) | (with_reducible assumption) | (with_reducible refine Ext.below _ ?_ ?_) | (with_reducible refine Below.on ?_ (by with_reducible assumption) ?_) | (with_reducible refine Below.alloc ?_ ?_ _) | (with_reducible refine Below.drew ?_) | (with_reducible refine Below.setCell ?_ ?_ _) | (with_reducible exact Nat.le_refl _) | omega | (simp; done) | (simp [go_sem]; done) | (simp at *; omega))⟩, by simp, rfl, key⟩, by simp [intOf]; omega⟩
        · rw [decide_eq_false hin] at cb
          rw [if_neg hin] at hE
          subst hE
          clear hin
          go_wp2_with (first | ((first | with_reducible refine wp_region_ext2 (by kernel_rfl) (by kernel_rfl) ?_ | with_reducible refine wp_region_ext (by kernel_rfl) (by kernel_rfl) ?_); (repeat (first | go_big_quiet_step ((first | (go_at_call 49; with_reducible exact Calls.ext (cb _)))) | quiet_step ((first | (go_at_call 49; with_reducible exact Calls.ext (cb _)))))); refine wpQuiet_nil ?_; rintro _ ⟨yr, rfl⟩; have syr := Ext.size yr; (repeat (first | rw [World.size_alloc] at syr | rw [World.size_setCell] at syr | rw [World.size_drew] at syr)); have : g < yr.now.heap.size := (by omega); have : g ≤ yr.now.heap.size := (by omega); have : g < yr.now.heap.size + 1 + 1 := (by omega); have : h < yr.now.heap.size := (by omega); have : h ≤ yr.now.heap.size := (by omega); have : h < yr.now.heap.size + 1 + 1 := (by omega)) | (go_at_call 49; (first | with_reducible refine (Calls.giv2 (cb _)).mono ?_ | with_reducible refine (Calls.giv (cb _)).mono ?_); rintro _ _ ⟨y1, rfl, rfl⟩; have sy1 := Ext.size y1; (repeat (first | rw [World.size_alloc] at sy1 | rw [World.size_setCell] at sy1 | rw [World.size_drew] at sy1)); have : g < y1.now.heap.size := (by omega); have : g ≤ y1.now.heap.size := (by omega); have : g < y1.now.heap.size + 1 + 1 := (by omega); have : h < y1.now.heap.size := (by omega); have : h ≤ y1.now.heap.size := (by omega); have : h < y1.now.heap.size + 1 + 1 := (by omega)))
          go_returns
          refine ⟨rfl, ?_⟩
          repeat' (first | (with_reducible exact Below.refl _ _) | (with_reducible assumption) | (with_reducible refine Ext.below _ ?_ ?_) | (with_reducible refine Below.on ?_ (by with_reducible assumption) ?_) | (with_reducible refine Below.alloc ?_ ?_ _) | (with_reducible refine Below.drew ?_) | (with_reducible refine Below.setCell ?_ ?_ _) | (with_reducible exact Nat.le_refl _) | omega | (simp; done) | (simp [go_sem]; done) | (simp at *; omega))
      · have hge : i = 7 := by have := hi.out.1; omega
        subst hge
        have eV : V = true := by have hE := hi.out.2; rw [List.drop_of_length_le (by omega), insE] at hE; exact hE.symm; intro v l m q e; cases e
        clear hi hV
        subst eV
        go_wp2_with (first | ((first | with_reducible refine wp_region_ext2 (by kernel_rfl) (by kernel_rfl) ?_ | with_reducible refine wp_region_ext (by kernel_rfl) (by kernel_rfl) ?_); (repeat (first | go_big_quiet_step ((first | fail)) | quiet_step ((first | fail)))); refine wpQuiet_nil ?_; rintro _ ⟨yr, rfl⟩; have syr := Ext.size yr; (repeat (first | rw [World.size_alloc] at syr | rw [World.size_setCell] at syr | rw [World.size_drew] at syr))))
        go_returns
        refine ⟨rfl, ?_⟩
        repeat' (first | (with_reducible exact Below.refl _ _) | (with_reducible assumption) | (with_reducible refine Ext.below _ ?_ ?_) | (with_reducible refine Below.on ?_ (by with_reducible assumption) ?_) | (with_reducible refine Below.alloc ?_ ?_ _) | (with_reducible refine Below.drew ?_) | (with_reducible refine Below.setCell ?_ ?_ _) | (with_reducible exact Nat.le_refl _) | omega | (simp; done) | (simp [go_sem]; done) | (simp at *; omega))
end Go.Proofs.YtpiacndnjehbiaaDoor

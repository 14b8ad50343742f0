/- Contracts of isPart, seenFrom, nearest, excludes: whether no place of an area agrees with what a sight says. Condition: the sizes of valid sights. -/
import Derived.Test.YtfflbiojcoehmabSkyQ
namespace Go.Proofs.Ytfflbiojcoehmab
open Go.RowKit Go.Shelf
attribute [local go_sem] Option.isSome_some Ext.cell Ext.frozen Ext.lt Ext.le Ext.lt_add Ext.le_add Ext.ne Ext.ne' lt2 lt3 lt4 lt5 le2 le3 le4
def partB (a b : Int) : Bool := decide (-33554432 ≤ a) && decide (a ≤ b) && decide (b ≤ 33554432)
theorem isPart_any (a b : Int) (w : World) : Calls Try.prog 49 #[.agg #[.int .i64 a, .int .i64 b]] w (Gives (.bool (partB a b)) w) := by
  obtain ⟨V, hV⟩ : ∃ V, partB a b = V := ⟨_, rfl⟩
  rw [hV]
  have hV := Go.Lib.hid hV
  by_cases h1 : -33554432 ≤ a <;> by_cases h2 : a ≤ b <;> by_cases h3 : b ≤ 33554432
  any_goals (exfalso; omega)
  all_goals
    go_enter Try.func49, Try.ntmps49
    go_wp2_with (first | ((first | with_reducible refine wp_region_ext2 (by kernel_rfl) (by kernel_rfl) ?_ | with_reducible refine wp_region_ext (by kernel_rfl) (by kernel_rfl) ?_); (repeat (first | go_big_quiet_step ((first | fail)) | quiet_step ((first | fail)))); refine wpQuiet_nil ?_; rintro _ ⟨yr, rfl⟩; have syr := Ext.size yr; (repeat (first | rw [World.size_alloc] at syr | rw [World.size_setCell] at syr | rw [World.size_drew] at syr))))
    go_returns
    refine ⟨ret_bool (by rw [← hV.out]; unfold partB; simp [h1, h2, h3]), ?_⟩
    repeat' (first | (with_reducible exact Below.refl _ _) | (with_reducible assumption) | (with_reducible refine Ext.below _ ?_ ?_) | (with_reducible refine Below.on ?_ (by with_reducible assumption) ?_) | (with_reducible refine Below.alloc ?_ ?_ _) | (with_reducible refine Below.drew ?_) | (with_reducible refine Below.setCell ?_ ?_ _) | (with_reducible exact Nat.le_refl _) | omega | (simp; done) | (simp [go_sem]; done) | (simp at *; omega))
theorem seenFrom_any (x y a b c d : Int) (w : World) (hx : P27 (a - x) ∧ P27 (b - x)) (hy : P27 (c - y) ∧ P27 (d - y)) : Calls Try.prog 51 #[.agg #[.int .i64 x, .int .i64 y], .agg #[.int .i64 a, .int .i64 b, .int .i64 c, .int .i64 d]] w (Gives (.agg #[.int .i64 (a - x), .int .i64 (b - x), .int .i64 (c - y), .int .i64 (d - y)]) w) := by
  unfold P27 at *
  obtain ⟨⟨h1, h2⟩, h3, h4⟩ := hx
  obtain ⟨⟨h5, h6⟩, h7, h8⟩ := hy
  go_enter Try.func51, Try.ntmps51
  go_wp2_with (first | ((first | with_reducible refine wp_region_ext2 (by kernel_rfl) (by kernel_rfl) ?_ | with_reducible refine wp_region_ext (by kernel_rfl) (by kernel_rfl) ?_); (repeat (first | go_big_quiet_step ((first | fail)) | quiet_step ((first | fail)))); refine wpQuiet_nil ?_; rintro _ ⟨yr, rfl⟩; have syr := Ext.size yr; (repeat (first | rw [World.size_alloc] at syr | rw [World.size_setCell] at syr | rw [World.size_drew] at syr))))
  go_returns
  refine ⟨rfl, ?_⟩
  repeat' (first | (with_reducible exact Below.refl _ _) | (with_reducible assumption) | (with_reducible refine Ext.below _ ?_ ?_) | (with_reducible refine Below.on ?_ (by with_reducible assumption) ?_) | (with_reducible refine Below.alloc ?_ ?_ _) | (with_reducible refine Below.drew ?_) | (with_reducible refine Below.setCell ?_ ?_ _) | (with_reducible exact Nat.le_refl _) | omega | (simp; done) | (simp [go_sem]; done) | (simp at *; omega))
theorem ret_pair {a b c d : Int} (h1 : a = c) (h2 : b = d) : Ending.returned (.agg #[.int .i64 a, .int .i64 b]) = .returned (.agg #[.int .i64 c, .int .i64 d]) := by rw [h1, h2]
def nearV (a b : Int) : Int := max a (min b 0)
set_option maxHeartbeats 4000000 in
theorem nearest_any (a b c d : Int) (w : World) : Calls Try.prog 64 #[.agg #[.int .i64 a, .int .i64 b, .int .i64 c, .int .i64 d]] w (Gives (.agg #[.int .i64 (nearV a b), .int .i64 (nearV c d)]) w) := by
  obtain ⟨u, hu⟩ : ∃ u, nearV a b = u := ⟨_, rfl⟩
  obtain ⟨v, hv⟩ : ∃ v, nearV c d = v := ⟨_, rfl⟩
  rw [hu, hv]
  have hu := Go.Lib.hid hu
  have hv := Go.Lib.hid hv
  go_enter Try.func64, Try.ntmps64
  go_wp2_with (first | ((first | with_reducible refine wp_region_ext2 (by kernel_rfl) (by kernel_rfl) ?_ | with_reducible refine wp_region_ext (by kernel_rfl) (by kernel_rfl) ?_); (repeat (first | go_big_quiet_step ((first | fail)) | quiet_step ((first | fail)))); refine wpQuiet_nil ?_; rintro _ ⟨yr, rfl⟩; have syr := Ext.size yr; (repeat (first | rw [World.size_alloc] at syr | rw [World.size_setCell] at syr | rw [World.size_drew] at syr))))
  all_goals go_returns
  all_goals refine ⟨ret_pair (by have := hu.out; unfold nearV at this; omega) (by have := hv.out; unfold nearV at this; omega), ?_⟩
  all_goals (repeat' (first | (with_reducible exact Below.refl _ _) | (with_reducible assumption) | (with_reducible refine Ext.below _ ?_ ?_) | (with_reducible refine Below.on ?_ (by with_reducible assumption) ?_) | (with_reducible refine Below.alloc ?_ ?_ _) | (with_reducible refine Below.drew ?_) | (with_reducible refine Below.setCell ?_ ?_ _) | (with_reducible exact Nat.le_refl _) | omega | (simp; done) | (simp [go_sem]; done) | (simp at *; omega)))
theorem nearV_in {a b : Int} (ha : P27 a) (hb : P27 b) : P27 (nearV a b) := by unfold P27 nearV at *; omega
def tooNear (lo : Int) (x : Sn) : Bool := decide (sqV x.x x.y < lo * lo)
theorem near1_any (x : Sn) (lo : Int) (B : Nat) (w : World) (hl : P27 lo) (hB : B < w.heap.size) (hc : w.cell? ⟨B, 0, none⟩ = some (.int .i64 lo)) :
    Calls Try.prog 62 #[.agg #[.int .i64 x.x, .int .i64 x.y], .pointer (some ⟨B, 0, none⟩)] w (Gives (.bool (tooNear lo x)) w) := by
  have c2 := fun W => square_any x.x x.y W x.hx x.hy
  obtain ⟨b3, b4⟩ := sq_bounds (B := 134217728) hl.1 hl.2
  unfold tooNear
  generalize sqV x.x x.y = s at *
  generalize x.x = u at *
  generalize x.y = v at *
  have : B < (w).heap.size := (by omega); have : B < (w).heap.size + 1 := (by omega); have : B < (w).heap.size + 1 + 1 := (by omega); have : B ≠ (w).heap.size := (by omega); have : B ≠ (w).heap.size + 1 := (by omega)
  go_enter Try.func62, Try.ntmps62
  go_wp2_with (first | ((first | with_reducible refine wp_region_ext2 (by kernel_rfl) (by kernel_rfl) ?_ | with_reducible refine wp_region_ext (by kernel_rfl) (by kernel_rfl) ?_); (repeat (first | go_big_quiet_step ((first | (go_at_call 63; with_reducible exact Calls.ext (c2 _)))) | quiet_step ((first | (go_at_call 63; with_reducible exact Calls.ext (c2 _)))))); refine wpQuiet_nil ?_; rintro _ ⟨yr, rfl⟩; have syr := Ext.size yr; (repeat (first | rw [World.size_alloc] at syr | rw [World.size_setCell] at syr | rw [World.size_drew] at syr)); have : B < yr.now.heap.size := (by omega); have : B ≤ yr.now.heap.size := (by omega); have : B < yr.now.heap.size + 1 + 1 := (by omega)) | (go_at_call 63; (first | with_reducible refine (Calls.giv2 (c2 _)).mono ?_ | with_reducible refine (Calls.giv (c2 _)).mono ?_); rintro _ _ ⟨y1, rfl, rfl⟩; have sy1 := Ext.size y1; (repeat (first | rw [World.size_alloc] at sy1 | rw [World.size_setCell] at sy1 | rw [World.size_drew] at sy1)); have : B < y1.now.heap.size := (by omega); have : B ≤ y1.now.heap.size := (by omega); have : B < y1.now.heap.size + 1 + 1 := (by omega)))
  go_returns
  refine ⟨rfl, ?_⟩
  repeat' (first | (with_reducible exact Below.refl _ _) | (with_reducible assumption) | (with_reducible refine Ext.below _ ?_ ?_) | (with_reducible refine Below.on ?_ (by with_reducible assumption) ?_) | (with_reducible refine Below.alloc ?_ ?_ _) | (with_reducible refine Below.drew ?_) | (with_reducible refine Below.setCell ?_ ?_ _) | (with_reducible exact Nat.le_refl _) | omega | (simp; done) | (simp [go_sem]; done) | (simp at *; omega))
def excludesB : WordR → SnA → Bool
  | .angle k, s => ((cornersV s).all fun x => behindB k x.x x.y) || ((cornersV s).all fun x => rightB k x.x x.y) || ((cornersV s).all fun x => leftB2 k x.x x.y)
  | .ring lo hi, s => ((cornersV s).all (tooNear lo)) || decide (hi * hi < sqV (nearV s.a s.b) (nearV s.c s.d))
  | .empty k hi, s => (cornersV s).all fun x => blocksB k hi x.x x.y
theorem ta_11 (v : Value) (w : World) : (Instr.typeAssert (.iface 106 v) 88 106 true).run Try.prog w = .ok (.tuple #[v, .bool true]) w := by
  kernel_rfl
theorem ta_21 (v : Value) (w : World) : (Instr.typeAssert (.iface 109 v) 88 106 true).run Try.prog w = .ok (.tuple #[.agg #[.int .i64 0, .int .i64 0, .int .i64 0, .int .i64 0], .bool false]) w := by
  kernel_rfl
theorem ta_22 (v : Value) (w : World) : (Instr.typeAssert (.iface 109 v) 88 109 true).run Try.prog w = .ok (.tuple #[v, .bool true]) w := by
  kernel_rfl
theorem ta_31 (v : Value) (w : World) : (Instr.typeAssert (.iface 113 v) 88 106 true).run Try.prog w = .ok (.tuple #[.agg #[.int .i64 0, .int .i64 0, .int .i64 0, .int .i64 0], .bool false]) w := by
  kernel_rfl
theorem ta_32 (v : Value) (w : World) : (Instr.typeAssert (.iface 113 v) 88 109 true).run Try.prog w = .ok (.tuple #[.agg #[.int .i64 0, .int .i64 0], .bool false]) w := by
  kernel_rfl
theorem ta_33 (v : Value) (w : World) : (Instr.typeAssert (.iface 113 v) 88 113 true).run Try.prog w = .ok (.tuple #[v, .bool true]) w := by
  kernel_rfl
set_option maxRecDepth 100000 in
set_option maxHeartbeats 8000000 in
theorem excludes_any (g : WordR) (s : SnA) (w : World) (hg : g.Ok) : Calls Try.prog 50 #[g.val, .agg #[.int .i64 s.a, .int .i64 s.b, .int .i64 s.c, .int .i64 s.d]] w (Gives (.bool (excludesB g s)) w) := by
  have hmf : ∀ (fn : Fn) (first cap : Array Value) (w : World), (Instr.makeFunc fn first cap).run Try.prog w = .ok (.func fn first cap) w := fun _ _ _ _ => rfl
  have t11 := ta_11
  have t21 := ta_21
  have t22 := ta_22
  have t31 := ta_31
  have t32 := ta_32
  have t33 := ta_33
  cases g with
  | angle k =>
    have c1 := fun W => all_behind s k.val (fun x => behindB k x.x x.y) W (fun W' x _ => isBehind_any k x.x x.y W' hg x.hx x.hy)
    have c2 := fun W => all_right s k.val (fun x => rightB k x.x x.y) W (fun W' x _ => isRight_any k x.x x.y W' hg x.hx x.hy)
    have c3 := fun W => all_left s k.val (fun x => leftB2 k x.x x.y) W (fun W' x _ => isLeft_any k x.x x.y W' hg x.hx x.hy)
    simp only [excludesB, WordR.val]
    unfold ConeR.val at *
    clear hg
    generalize ((cornersV s).all fun x => behindB k x.x x.y) = t1 at *
    generalize ((cornersV s).all fun x => rightB k x.x x.y) = t2 at *
    generalize ((cornersV s).all fun x => leftB2 k x.x x.y) = t3 at *
    generalize k.dx = d1 at *
    generalize k.dy = d2 at *
    generalize k.lo = d3 at *
    generalize k.hi = d4 at *
    generalize s.a = u1 at *
    generalize s.b = u2 at *
    generalize s.c = u3 at *
    generalize s.d = u4 at *
    cases t1 <;> cases t2 <;> cases t3
    all_goals
      go_enter Try.func50, Try.ntmps50
      go_wp2_with (first | ((first | with_reducible refine wp_region_ext2 (by kernel_rfl) (by kernel_rfl) ?_ | with_reducible refine wp_region_ext (by kernel_rfl) (by kernel_rfl) ?_); (repeat (first | go_big_quiet_step ((first | (go_at_call 58; with_reducible exact Calls.ext (c1 _)) | (go_at_call 58; with_reducible exact Calls.ext (c2 _)) | (go_at_call 58; with_reducible exact Calls.ext (c3 _)))) | quiet_step ((first | (go_at_call 58; with_reducible exact Calls.ext (c1 _)) | (go_at_call 58; with_reducible exact Calls.ext (c2 _)) | (go_at_call 58; with_reducible exact Calls.ext (c3 _)))))); refine wpQuiet_nil ?_; rintro _ ⟨yr, rfl⟩; have syr := Ext.size yr; (repeat (first | rw [World.size_alloc] at syr | rw [World.size_setCell] at syr | rw [World.size_drew] at syr))) | (go_at_call 58; (first | with_reducible refine (Calls.giv2 (c1 _)).mono ?_ | with_reducible refine (Calls.giv (c1 _)).mono ?_); rintro _ _ ⟨y1, rfl, rfl⟩; have sy1 := Ext.size y1; (repeat (first | rw [World.size_alloc] at sy1 | rw [World.size_setCell] at sy1 | rw [World.size_drew] at sy1))) | (go_at_call 58; (first | with_reducible refine (Calls.giv2 (c2 _)).mono ?_ | with_reducible refine (Calls.giv (c2 _)).mono ?_); rintro _ _ ⟨y2, rfl, rfl⟩; have sy2 := Ext.size y2; (repeat (first | rw [World.size_alloc] at sy2 | rw [World.size_setCell] at sy2 | rw [World.size_drew] at sy2))) | (go_at_call 58; (first | with_reducible refine (Calls.giv2 (c3 _)).mono ?_ | with_reducible refine (Calls.giv (c3 _)).mono ?_); rintro _ _ ⟨y3, rfl, rfl⟩; have sy3 := Ext.size y3; (repeat (first | rw [World.size_alloc] at sy3 | rw [World.size_setCell] at sy3 | rw [World.size_drew] at sy3))))
      go_returns
      refine ⟨rfl, ?_⟩
      repeat' (first | (with_reducible exact Below.refl _ _) | (with_reducible assumption) | (with_reducible refine Ext.below _ ?_ ?_) | (with_reducible refine Below.on ?_ (by with_reducible assumption) ?_) | (with_reducible refine Below.alloc ?_ ?_ _) | (with_reducible refine Below.drew ?_) | (with_reducible refine Below.setCell ?_ ?_ _) | (with_reducible exact Nat.le_refl _) | omega | (simp; done) | (simp [go_sem]; done) | (simp at *; omega))
  | ring lo hi =>
    obtain ⟨hl, hh⟩ := hg
    have c1 := fun W B (hB : B < W.heap.size) (hc : W.cell? ⟨B, 0, none⟩ = some (.int .i64 lo)) => all_near s (.pointer (some ⟨B, 0, none⟩)) (tooNear lo) W (fun W' x hw => near1_any x lo B W' hl (by have := hw.size; omega) ((hw.cell (p := ⟨B, 0, none⟩) hB).trans hc))
    have c2 := fun W => nearest_any s.a s.b s.c s.d W
    have c3 := fun W => square_any _ _ W (nearV_in s.ha s.hb) (nearV_in s.hc s.hd)
    obtain ⟨b3, b4⟩ := sq_bounds (B := 134217728) hh.1 hh.2
    simp only [excludesB, WordR.val]
    generalize (cornersV s).all (tooNear lo) = t1 at *
    generalize sqV (nearV s.a s.b) (nearV s.c s.d) = q at *
    generalize nearV s.a s.b = n1 at *
    generalize nearV s.c s.d = n2 at *
    clear hl hh
    generalize s.a = u1 at *
    generalize s.b = u2 at *
    generalize s.c = u3 at *
    generalize s.d = u4 at *
    cases t1
    · go_enter Try.func50, Try.ntmps50
      go_wp2_with (first | ((first | with_reducible refine wp_region_ext2 (by kernel_rfl) (by kernel_rfl) ?_ | with_reducible refine wp_region_ext (by kernel_rfl) (by kernel_rfl) ?_); (repeat (first | go_big_quiet_step ((first | (go_at_call 58; with_reducible exact Calls.ext (c1 _ _ (by simp [go_sem]) (by simp [go_sem]))) | (go_at_call 64; with_reducible exact Calls.ext (c2 _)) | (go_at_call 63; with_reducible exact Calls.ext (c3 _)))) | quiet_step ((first | (go_at_call 58; with_reducible exact Calls.ext (c1 _ _ (by simp [go_sem]) (by simp [go_sem]))) | (go_at_call 64; with_reducible exact Calls.ext (c2 _)) | (go_at_call 63; with_reducible exact Calls.ext (c3 _)))))); refine wpQuiet_nil ?_; rintro _ ⟨yr, rfl⟩; have syr := Ext.size yr; (repeat (first | rw [World.size_alloc] at syr | rw [World.size_setCell] at syr | rw [World.size_drew] at syr))) | (go_at_call 58; (first | with_reducible refine (Calls.giv2 (c1 _ _ (by simp [go_sem]) (by simp [go_sem]))).mono ?_ | with_reducible refine (Calls.giv (c1 _ _ (by simp [go_sem]) (by simp [go_sem]))).mono ?_); rintro _ _ ⟨y1, rfl, rfl⟩; have sy1 := Ext.size y1; (repeat (first | rw [World.size_alloc] at sy1 | rw [World.size_setCell] at sy1 | rw [World.size_drew] at sy1))) | (go_at_call 64; (first | with_reducible refine (Calls.giv2 (c2 _)).mono ?_ | with_reducible refine (Calls.giv (c2 _)).mono ?_); rintro _ _ ⟨y2, rfl, rfl⟩; have sy2 := Ext.size y2; (repeat (first | rw [World.size_alloc] at sy2 | rw [World.size_setCell] at sy2 | rw [World.size_drew] at sy2))) | (go_at_call 63; (first | with_reducible refine (Calls.giv2 (c3 _)).mono ?_ | with_reducible refine (Calls.giv (c3 _)).mono ?_); rintro _ _ ⟨y3, rfl, rfl⟩; have sy3 := Ext.size y3; (repeat (first | rw [World.size_alloc] at sy3 | rw [World.size_setCell] at sy3 | rw [World.size_drew] at sy3))))
      go_returns
      refine ⟨rfl, ?_⟩
      repeat' (first | (with_reducible exact Below.refl _ _) | (with_reducible assumption) | (with_reducible refine Ext.below _ ?_ ?_) | (with_reducible refine Below.on ?_ (by with_reducible assumption) ?_) | (with_reducible refine Below.alloc ?_ ?_ _) | (with_reducible refine Below.drew ?_) | (with_reducible refine Below.setCell ?_ ?_ _) | (with_reducible exact Nat.le_refl _) | omega | (simp; done) | (simp [go_sem]; done) | (simp at *; omega))
    · go_enter Try.func50, Try.ntmps50
      go_wp2_with (first | ((first | with_reducible refine wp_region_ext2 (by kernel_rfl) (by kernel_rfl) ?_ | with_reducible refine wp_region_ext (by kernel_rfl) (by kernel_rfl) ?_); (repeat (first | go_big_quiet_step ((first | (go_at_call 58; with_reducible exact Calls.ext (c1 _ _ (by simp [go_sem]) (by simp [go_sem]))) | (go_at_call 64; with_reducible exact Calls.ext (c2 _)) | (go_at_call 63; with_reducible exact Calls.ext (c3 _)))) | quiet_step ((first | (go_at_call 58; with_reducible exact Calls.ext (c1 _ _ (by simp [go_sem]) (by simp [go_sem]))) | (go_at_call 64; with_reducible exact Calls.ext (c2 _)) | (go_at_call 63; with_reducible exact Calls.ext (c3 _)))))); refine wpQuiet_nil ?_; rintro _ ⟨yr, rfl⟩; have syr := Ext.size yr; (repeat (first | rw [World.size_alloc] at syr | rw [World.size_setCell] at syr | rw [World.size_drew] at syr))) | (go_at_call 58; (first | with_reducible refine (Calls.giv2 (c1 _ _ (by simp [go_sem]) (by simp [go_sem]))).mono ?_ | with_reducible refine (Calls.giv (c1 _ _ (by simp [go_sem]) (by simp [go_sem]))).mono ?_); rintro _ _ ⟨y1, rfl, rfl⟩; have sy1 := Ext.size y1; (repeat (first | rw [World.size_alloc] at sy1 | rw [World.size_setCell] at sy1 | rw [World.size_drew] at sy1))) | (go_at_call 64; (first | with_reducible refine (Calls.giv2 (c2 _)).mono ?_ | with_reducible refine (Calls.giv (c2 _)).mono ?_); rintro _ _ ⟨y2, rfl, rfl⟩; have sy2 := Ext.size y2; (repeat (first | rw [World.size_alloc] at sy2 | rw [World.size_setCell] at sy2 | rw [World.size_drew] at sy2))) | (go_at_call 63; (first | with_reducible refine (Calls.giv2 (c3 _)).mono ?_ | with_reducible refine (Calls.giv (c3 _)).mono ?_); rintro _ _ ⟨y3, rfl, rfl⟩; have sy3 := Ext.size y3; (repeat (first | rw [World.size_alloc] at sy3 | rw [World.size_setCell] at sy3 | rw [World.size_drew] at sy3))))
      go_returns
      refine ⟨rfl, ?_⟩
      repeat' (first | (with_reducible exact Below.refl _ _) | (with_reducible assumption) | (with_reducible refine Ext.below _ ?_ ?_) | (with_reducible refine Below.on ?_ (by with_reducible assumption) ?_) | (with_reducible refine Below.alloc ?_ ?_ _) | (with_reducible refine Below.drew ?_) | (with_reducible refine Below.setCell ?_ ?_ _) | (with_reducible exact Nat.le_refl _) | omega | (simp; done) | (simp [go_sem]; done) | (simp at *; omega))
  | empty k hi =>
    obtain ⟨hk, hh⟩ := hg
    have c1 := fun W => all_blocks s (.agg #[.int .i64 k.dx, .int .i64 k.dy, .int .i64 k.lo, .int .i64 k.hi, .int .i64 hi]) (fun x => blocksB k hi x.x x.y) W (fun W' x _ => blocks_any k hi x.x x.y W' hk hh x.hx x.hy)
    simp only [excludesB, WordR.val]
    clear hk hh
    generalize ((cornersV s).all fun x => blocksB k hi x.x x.y) = t1 at *
    generalize k.dx = d1 at *
    generalize k.dy = d2 at *
    generalize k.lo = d3 at *
    generalize k.hi = d4 at *
    generalize s.a = u1 at *
    generalize s.b = u2 at *
    generalize s.c = u3 at *
    generalize s.d = u4 at *
    go_enter Try.func50, Try.ntmps50
    go_wp2_with (first | ((first | with_reducible refine wp_region_ext2 (by kernel_rfl) (by kernel_rfl) ?_ | with_reducible refine wp_region_ext (by kernel_rfl) (by kernel_rfl) ?_); (repeat (first | go_big_quiet_step ((first | (go_at_call 58; with_reducible exact Calls.ext (c1 _)))) | quiet_step ((first | (go_at_call 58; with_reducible exact Calls.ext (c1 _)))))); refine wpQuiet_nil ?_; rintro _ ⟨yr, rfl⟩; have syr := Ext.size yr; (repeat (first | rw [World.size_alloc] at syr | rw [World.size_setCell] at syr | rw [World.size_drew] at syr))) | (go_at_call 58; (first | with_reducible refine (Calls.giv2 (c1 _)).mono ?_ | with_reducible refine (Calls.giv (c1 _)).mono ?_); rintro _ _ ⟨y1, rfl, rfl⟩; have sy1 := Ext.size y1; (repeat (first | rw [World.size_alloc] at sy1 | rw [World.size_setCell] at sy1 | rw [World.size_drew] at sy1))))
    go_returns
    refine ⟨rfl, ?_⟩
    repeat' (first | (with_reducible exact Below.refl _ _) | (with_reducible assumption) | (with_reducible refine Ext.below _ ?_ ?_) | (with_reducible refine Below.on ?_ (by with_reducible assumption) ?_) | (with_reducible refine Below.alloc ?_ ?_ _) | (with_reducible refine Below.drew ?_) | (with_reducible refine Below.setCell ?_ ?_ _) | (with_reducible exact Nat.le_refl _) | omega | (simp; done) | (simp [go_sem]; done) | (simp at *; omega))
end Go.Proofs.Ytfflbiojcoehmab

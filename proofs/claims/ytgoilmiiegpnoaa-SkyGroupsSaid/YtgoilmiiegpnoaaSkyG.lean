/- Contracts of the cones, rings and empty looks of package sky. Conditions: the sizes of valid sights. -/
import Derived.Test.YtgoilmiiegpnoaaSkyF
namespace Go.Proofs.Ytgoilmiiegpnoaa
open Go.RowKit Go.Shelf
attribute [local go_sem] Ext.cell Ext.frozen Ext.lt Ext.le Ext.lt_add Ext.le_add Ext.ne Ext.ne' lt2 lt3 lt4 lt5 le2 le3 le4
structure ConeR where
  dx : Int
  dy : Int
  lo : Int
  hi : Int
/-- The sizes of a valid cone, and of a place seen from a station. -/
structure ConeR.Ok (c : ConeR) : Prop where
  x0 : -4096 ≤ c.dx
  x1 : c.dx ≤ 4096
  y0 : -4096 ≤ c.dy
  y1 : c.dy ≤ 4096
  l0 : -1000000 ≤ c.lo
  l1 : c.lo ≤ 1000000
  h0 : -1000000 ≤ c.hi
  h1 : c.hi ≤ 1000000
def P27 (x : Int) : Prop := -134217728 ≤ x ∧ x ≤ 134217728
def ConeR.val (c : ConeR) : Value := .agg #[.int .i64 c.dx, .int .i64 c.dy, .int .i64 c.lo, .int .i64 c.hi]
def leftV (c : ConeR) (x y : Int) : Int := c.dx * y - c.dy * x
def aheadV (c : ConeR) (x y : Int) : Int := c.dx * x + c.dy * y
theorem mulb {a b A B : Int} (h1 : -A ≤ a) (h2 : a ≤ A) (h3 : -B ≤ b) (h4 : b ≤ B) : -(A * B) ≤ a * b ∧ a * b ≤ A * B := by
  have x1 := Int.mul_nonneg (show 0 ≤ A - a by omega) (show 0 ≤ B + b by omega)
  have x2 := Int.mul_nonneg (show 0 ≤ A + a by omega) (show 0 ≤ B - b by omega)
  have x3 := Int.mul_nonneg (show 0 ≤ A - a by omega) (show 0 ≤ B - b by omega)
  have x4 := Int.mul_nonneg (show 0 ≤ A + a by omega) (show 0 ≤ B + b by omega)
  simp only [Int.sub_mul, Int.mul_sub, Int.add_mul, Int.mul_add] at x1 x2 x3 x4
  constructor <;> omega
theorem ConeR.Ok.parts {c : ConeR} (h : c.Ok) {x y : Int} (hx : P27 x) (hy : P27 y) : (-549755813888 ≤ c.dx * y ∧ c.dx * y ≤ 549755813888) ∧ (-549755813888 ≤ c.dy * x ∧ c.dy * x ≤ 549755813888) ∧ (-549755813888 ≤ c.dx * x ∧ c.dx * x ≤ 549755813888) ∧ (-549755813888 ≤ c.dy * y ∧ c.dy * y ≤ 549755813888) := by
  obtain ⟨hx0, hx1⟩ := hx
  obtain ⟨hy0, hy1⟩ := hy
  have b1 := mulb (A := 4096) (B := 134217728) h.x0 h.x1 hy0 hy1
  have b2 := mulb (A := 4096) (B := 134217728) h.y0 h.y1 hx0 hx1
  have b3 := mulb (A := 4096) (B := 134217728) h.x0 h.x1 hx0 hx1
  have b4 := mulb (A := 4096) (B := 134217728) h.y0 h.y1 hy0 hy1
  refine ⟨⟨by omega, by omega⟩, ⟨by omega, by omega⟩, ⟨by omega, by omega⟩, by omega, by omega⟩
theorem ConeR.Ok.left {c : ConeR} (h : c.Ok) {x y : Int} (hx : P27 x) (hy : P27 y) : -1099511627776 ≤ leftV c x y ∧ leftV c x y ≤ 1099511627776 := by
  have := h.parts hx hy
  unfold leftV; omega
theorem ConeR.Ok.ahead {c : ConeR} (h : c.Ok) {x y : Int} (hx : P27 x) (hy : P27 y) : -1099511627776 ≤ aheadV c x y ∧ aheadV c x y ≤ 1099511627776 := by
  have := h.parts hx hy
  unfold aheadV; omega
theorem turn_any (c : ConeR) (x y : Int) (w : World) (h : c.Ok) (hx : P27 x) (hy : P27 y) : Calls Try.prog 104 #[c.val, .agg #[.int .i64 x, .int .i64 y]] w (Gives (.tuple #[.int .i64 (leftV c x y), .int .i64 (aheadV c x y)]) w) := by
  have hp := h.parts hx hy
  obtain ⟨⟨p1, p2⟩, ⟨p3, p4⟩, ⟨p5, p6⟩, p7, p8⟩ := hp
  unfold ConeR.val leftV aheadV
  generalize c.dx = d at *
  generalize c.dy = e at *
  generalize c.lo = l at *
  generalize c.hi = m at *
  clear h hx hy
  go_enter Try.func104, Try.ntmps104
  go_wp2_with (first | ((first | with_reducible refine wp_region_ext2 (by kernel_rfl) (by kernel_rfl) ?_ | with_reducible refine wp_region_ext (by kernel_rfl) (by kernel_rfl) ?_); (repeat (first | go_big_quiet_step ((first | fail)) | quiet_step ((first | fail)))); refine wpQuiet_nil ?_; rintro _ ⟨yr, rfl⟩; have syr := Ext.size yr; (repeat (first | rw [World.size_alloc] at syr | rw [World.size_setCell] at syr | rw [World.size_drew] at syr))))
  go_returns
  refine ⟨rfl, ?_⟩
  repeat' (first | (with_reducible exact Below.refl _ _) | (with_reducible assumption) | (with_reducible refine Ext.below _ ?_ ?_) | (with_reducible refine Below.on ?_ (by with_reducible assumption) ?_) | (with_reducible refine Below.alloc ?_ ?_ _) | (with_reducible refine Below.drew ?_) | (with_reducible refine Below.setCell ?_ ?_ _) | (with_reducible exact Nat.le_refl _) | omega | (simp; done) | (simp [go_sem]; done) | (simp at *; omega))
def behindB (c : ConeR) (x y : Int) : Bool := decide (aheadV c x y ≤ 0)
def rightB (c : ConeR) (x y : Int) : Bool := decide (1000000 * leftV c x y < c.lo * aheadV c x y)
def leftB2 (c : ConeR) (x y : Int) : Bool := decide (c.hi * aheadV c x y < 1000000 * leftV c x y)
theorem isBehind_any (c : ConeR) (x y : Int) (w : World) (h : c.Ok) (hx : P27 x) (hy : P27 y) : Calls Try.prog 101 #[c.val, .agg #[.int .i64 x, .int .i64 y]] w (Gives (.bool (behindB c x y)) w) := by
  have ct := fun W => turn_any c x y W h hx hy
  unfold behindB
  unfold ConeR.val at *
  generalize leftV c x y = l at *
  generalize aheadV c x y = a at *
  generalize c.dx = d1 at *
  generalize c.dy = d2 at *
  generalize c.lo = d3 at *
  generalize c.hi = d4 at *
  clear h hx hy
  go_enter Try.func101, Try.ntmps101
  go_wp2_with (first | ((first | with_reducible refine wp_region_ext2 (by kernel_rfl) (by kernel_rfl) ?_ | with_reducible refine wp_region_ext (by kernel_rfl) (by kernel_rfl) ?_); (repeat (first | go_big_quiet_step ((first | (go_at_call 104; with_reducible exact Calls.ext (ct _)))) | quiet_step ((first | (go_at_call 104; with_reducible exact Calls.ext (ct _)))))); refine wpQuiet_nil ?_; rintro _ ⟨yr, rfl⟩; have syr := Ext.size yr; (repeat (first | rw [World.size_alloc] at syr | rw [World.size_setCell] at syr | rw [World.size_drew] at syr))) | (go_at_call 104; (first | with_reducible refine (Calls.giv2 (ct _)).mono ?_ | with_reducible refine (Calls.giv (ct _)).mono ?_); rintro _ _ ⟨y1, rfl, rfl⟩; have sy1 := Ext.size y1; (repeat (first | rw [World.size_alloc] at sy1 | rw [World.size_setCell] at sy1 | rw [World.size_drew] at sy1))))
  go_returns
  refine ⟨rfl, ?_⟩
  repeat' (first | (with_reducible exact Below.refl _ _) | (with_reducible assumption) | (with_reducible refine Ext.below _ ?_ ?_) | (with_reducible refine Below.on ?_ (by with_reducible assumption) ?_) | (with_reducible refine Below.alloc ?_ ?_ _) | (with_reducible refine Below.drew ?_) | (with_reducible refine Below.setCell ?_ ?_ _) | (with_reducible exact Nat.le_refl _) | omega | (simp; done) | (simp [go_sem]; done) | (simp at *; omega))
theorem isRight_any (c : ConeR) (x y : Int) (w : World) (h : c.Ok) (hx : P27 x) (hy : P27 y) : Calls Try.prog 102 #[c.val, .agg #[.int .i64 x, .int .i64 y]] w (Gives (.bool (rightB c x y)) w) := by
  have ct := fun W => turn_any c x y W h hx hy
  obtain ⟨l1, l2⟩ := h.left hx hy
  obtain ⟨a1, a2⟩ := h.ahead hx hy
  have hm := mulb (A := 1000000) (B := 1099511627776) h.l0 h.l1 a1 a2
  obtain ⟨m1, m2⟩ := hm
  unfold rightB
  unfold ConeR.val at *
  generalize leftV c x y = l at *
  generalize aheadV c x y = a at *
  generalize c.dx = d1 at *
  generalize c.dy = d2 at *
  generalize c.lo = d3 at *
  generalize c.hi = d4 at *
  clear h hx hy
  go_enter Try.func102, Try.ntmps102
  go_wp2_with (first | ((first | with_reducible refine wp_region_ext2 (by kernel_rfl) (by kernel_rfl) ?_ | with_reducible refine wp_region_ext (by kernel_rfl) (by kernel_rfl) ?_); (repeat (first | go_big_quiet_step ((first | (go_at_call 104; with_reducible exact Calls.ext (ct _)))) | quiet_step ((first | (go_at_call 104; with_reducible exact Calls.ext (ct _)))))); refine wpQuiet_nil ?_; rintro _ ⟨yr, rfl⟩; have syr := Ext.size yr; (repeat (first | rw [World.size_alloc] at syr | rw [World.size_setCell] at syr | rw [World.size_drew] at syr))) | (go_at_call 104; (first | with_reducible refine (Calls.giv2 (ct _)).mono ?_ | with_reducible refine (Calls.giv (ct _)).mono ?_); rintro _ _ ⟨y1, rfl, rfl⟩; have sy1 := Ext.size y1; (repeat (first | rw [World.size_alloc] at sy1 | rw [World.size_setCell] at sy1 | rw [World.size_drew] at sy1))))
  go_returns
  refine ⟨rfl, ?_⟩
  repeat' (first | (with_reducible exact Below.refl _ _) | (with_reducible assumption) | (with_reducible refine Ext.below _ ?_ ?_) | (with_reducible refine Below.on ?_ (by with_reducible assumption) ?_) | (with_reducible refine Below.alloc ?_ ?_ _) | (with_reducible refine Below.drew ?_) | (with_reducible refine Below.setCell ?_ ?_ _) | (with_reducible exact Nat.le_refl _) | omega | (simp; done) | (simp [go_sem]; done) | (simp at *; omega))
theorem isLeft_any (c : ConeR) (x y : Int) (w : World) (h : c.Ok) (hx : P27 x) (hy : P27 y) : Calls Try.prog 103 #[c.val, .agg #[.int .i64 x, .int .i64 y]] w (Gives (.bool (leftB2 c x y)) w) := by
  have ct := fun W => turn_any c x y W h hx hy
  obtain ⟨l1, l2⟩ := h.left hx hy
  obtain ⟨a1, a2⟩ := h.ahead hx hy
  have hm := mulb (A := 1000000) (B := 1099511627776) h.h0 h.h1 a1 a2
  obtain ⟨m1, m2⟩ := hm
  unfold leftB2
  unfold ConeR.val at *
  generalize leftV c x y = l at *
  generalize aheadV c x y = a at *
  generalize c.dx = d1 at *
  generalize c.dy = d2 at *
  generalize c.lo = d3 at *
  generalize c.hi = d4 at *
  clear h hx hy
  go_enter Try.func103, Try.ntmps103
  go_wp2_with (first | ((first | with_reducible refine wp_region_ext2 (by kernel_rfl) (by kernel_rfl) ?_ | with_reducible refine wp_region_ext (by kernel_rfl) (by kernel_rfl) ?_); (repeat (first | go_big_quiet_step ((first | (go_at_call 104; with_reducible exact Calls.ext (ct _)))) | quiet_step ((first | (go_at_call 104; with_reducible exact Calls.ext (ct _)))))); refine wpQuiet_nil ?_; rintro _ ⟨yr, rfl⟩; have syr := Ext.size yr; (repeat (first | rw [World.size_alloc] at syr | rw [World.size_setCell] at syr | rw [World.size_drew] at syr))) | (go_at_call 104; (first | with_reducible refine (Calls.giv2 (ct _)).mono ?_ | with_reducible refine (Calls.giv (ct _)).mono ?_); rintro _ _ ⟨y1, rfl, rfl⟩; have sy1 := Ext.size y1; (repeat (first | rw [World.size_alloc] at sy1 | rw [World.size_setCell] at sy1 | rw [World.size_drew] at sy1))))
  go_returns
  refine ⟨rfl, ?_⟩
  repeat' (first | (with_reducible exact Below.refl _ _) | (with_reducible assumption) | (with_reducible refine Ext.below _ ?_ ?_) | (with_reducible refine Below.on ?_ (by with_reducible assumption) ?_) | (with_reducible refine Below.alloc ?_ ?_ _) | (with_reducible refine Below.drew ?_) | (with_reducible refine Below.setCell ?_ ?_ _) | (with_reducible exact Nat.le_refl _) | omega | (simp; done) | (simp [go_sem]; done) | (simp at *; omega))
def hasB (c : ConeR) (x y : Int) : Bool := !behindB c x y && !rightB c x y && !leftB2 c x y
theorem has_any (c : ConeR) (x y : Int) (w : World) (h : c.Ok) (hx : P27 x) (hy : P27 y) : Calls Try.prog 99 #[c.val, .agg #[.int .i64 x, .int .i64 y]] w (Gives (.bool (hasB c x y)) w) := by
  have c1 := fun W => isBehind_any c x y W h hx hy
  have c2 := fun W => isRight_any c x y W h hx hy
  have c3 := fun W => isLeft_any c x y W h hx hy
  unfold hasB
  unfold ConeR.val at *
  clear h hx hy
  generalize behindB c x y = b1 at *
  generalize rightB c x y = b2 at *
  generalize leftB2 c x y = b3 at *
  generalize c.dx = d1 at *
  generalize c.dy = d2 at *
  generalize c.lo = d3 at *
  generalize c.hi = d4 at *
  cases b1 <;> cases b2 <;> cases b3
  all_goals
    go_enter Try.func99, Try.ntmps99
    go_wp2_with (first | ((first | with_reducible refine wp_region_ext2 (by kernel_rfl) (by kernel_rfl) ?_ | with_reducible refine wp_region_ext (by kernel_rfl) (by kernel_rfl) ?_); (repeat (first | go_big_quiet_step ((first | (go_at_call 101; with_reducible exact Calls.ext (c1 _)) | (go_at_call 102; with_reducible exact Calls.ext (c2 _)) | (go_at_call 103; with_reducible exact Calls.ext (c3 _)))) | quiet_step ((first | (go_at_call 101; with_reducible exact Calls.ext (c1 _)) | (go_at_call 102; with_reducible exact Calls.ext (c2 _)) | (go_at_call 103; with_reducible exact Calls.ext (c3 _)))))); refine wpQuiet_nil ?_; rintro _ ⟨yr, rfl⟩; have syr := Ext.size yr; (repeat (first | rw [World.size_alloc] at syr | rw [World.size_setCell] at syr | rw [World.size_drew] at syr))) | (go_at_call 101; (first | with_reducible refine (Calls.giv2 (c1 _)).mono ?_ | with_reducible refine (Calls.giv (c1 _)).mono ?_); rintro _ _ ⟨y1, rfl, rfl⟩; have sy1 := Ext.size y1; (repeat (first | rw [World.size_alloc] at sy1 | rw [World.size_setCell] at sy1 | rw [World.size_drew] at sy1))) | (go_at_call 102; (first | with_reducible refine (Calls.giv2 (c2 _)).mono ?_ | with_reducible refine (Calls.giv (c2 _)).mono ?_); rintro _ _ ⟨y2, rfl, rfl⟩; have sy2 := Ext.size y2; (repeat (first | rw [World.size_alloc] at sy2 | rw [World.size_setCell] at sy2 | rw [World.size_drew] at sy2))) | (go_at_call 103; (first | with_reducible refine (Calls.giv2 (c3 _)).mono ?_ | with_reducible refine (Calls.giv (c3 _)).mono ?_); rintro _ _ ⟨y3, rfl, rfl⟩; have sy3 := Ext.size y3; (repeat (first | rw [World.size_alloc] at sy3 | rw [World.size_setCell] at sy3 | rw [World.size_drew] at sy3))))
    go_returns
    refine ⟨rfl, ?_⟩
    repeat' (first | (with_reducible exact Below.refl _ _) | (with_reducible assumption) | (with_reducible refine Ext.below _ ?_ ?_) | (with_reducible refine Below.on ?_ (by with_reducible assumption) ?_) | (with_reducible refine Below.alloc ?_ ?_ _) | (with_reducible refine Below.drew ?_) | (with_reducible refine Below.setCell ?_ ?_ _) | (with_reducible exact Nat.le_refl _) | omega | (simp; done) | (simp [go_sem]; done) | (simp at *; omega))
def sqV (x y : Int) : Int := x * x + y * y
theorem sqV_in {x y : Int} (hx : P27 x) (hy : P27 y) : 0 ≤ sqV x y ∧ sqV x y ≤ 36028797018963968 := by
  have b1 := sq_bounds (B := 134217728) hx.1 hx.2
  have b2 := sq_bounds (B := 134217728) hy.1 hy.2
  unfold sqV; omega
theorem square_any (x y : Int) (w : World) (hx : P27 x) (hy : P27 y) : Calls Try.prog 98 #[.agg #[.int .i64 x, .int .i64 y]] w (Gives (.int .i64 (sqV x y)) w) := by
  obtain ⟨b1, b2⟩ := sq_bounds (B := 134217728) hx.1 hx.2
  obtain ⟨b3, b4⟩ := sq_bounds (B := 134217728) hy.1 hy.2
  unfold sqV
  clear hx hy
  go_enter Try.func98, Try.ntmps98
  go_wp2_with (first | ((first | with_reducible refine wp_region_ext2 (by kernel_rfl) (by kernel_rfl) ?_ | with_reducible refine wp_region_ext (by kernel_rfl) (by kernel_rfl) ?_); (repeat (first | go_big_quiet_step ((first | fail)) | quiet_step ((first | fail)))); refine wpQuiet_nil ?_; rintro _ ⟨yr, rfl⟩; have syr := Ext.size yr; (repeat (first | rw [World.size_alloc] at syr | rw [World.size_setCell] at syr | rw [World.size_drew] at syr))))
  go_returns
  refine ⟨rfl, ?_⟩
  repeat' (first | (with_reducible exact Below.refl _ _) | (with_reducible assumption) | (with_reducible refine Ext.below _ ?_ ?_) | (with_reducible refine Below.on ?_ (by with_reducible assumption) ?_) | (with_reducible refine Below.alloc ?_ ?_ _) | (with_reducible refine Below.drew ?_) | (with_reducible refine Below.setCell ?_ ?_ _) | (with_reducible exact Nat.le_refl _) | omega | (simp; done) | (simp [go_sem]; done) | (simp at *; omega))
def ringB (lo hi x y : Int) : Bool := decide (lo * lo ≤ sqV x y) && decide (sqV x y ≤ hi * hi)
def blocksB (c : ConeR) (hi x y : Int) : Bool := hasB c x y && decide (sqV x y ≤ hi * hi)
theorem blocks_any (c : ConeR) (hi x y : Int) (w : World) (h : c.Ok) (hh : P27 hi) (hx : P27 x) (hy : P27 y) : Calls Try.prog 106 #[.agg #[.int .i64 c.dx, .int .i64 c.dy, .int .i64 c.lo, .int .i64 c.hi, .int .i64 hi], .agg #[.int .i64 x, .int .i64 y]] w (Gives (.bool (blocksB c hi x y)) w) := by
  have c1 := fun W => has_any c x y W h hx hy
  have c2 := fun W => square_any x y W hx hy
  obtain ⟨b1, b2⟩ := sq_bounds (B := 134217728) hh.1 hh.2
  unfold blocksB
  unfold ConeR.val at *
  clear h hx hy hh
  generalize hasB c x y = t1 at *
  generalize sqV x y = s at *
  generalize c.dx = d1 at *
  generalize c.dy = d2 at *
  generalize c.lo = d3 at *
  generalize c.hi = d4 at *
  cases t1
  · go_enter Try.func106, Try.ntmps106
    go_wp2_with (first | ((first | with_reducible refine wp_region_ext2 (by kernel_rfl) (by kernel_rfl) ?_ | with_reducible refine wp_region_ext (by kernel_rfl) (by kernel_rfl) ?_); (repeat (first | go_big_quiet_step ((first | (go_at_call 99; with_reducible exact Calls.ext (c1 _)) | (go_at_call 98; with_reducible exact Calls.ext (c2 _)))) | quiet_step ((first | (go_at_call 99; with_reducible exact Calls.ext (c1 _)) | (go_at_call 98; with_reducible exact Calls.ext (c2 _)))))); refine wpQuiet_nil ?_; rintro _ ⟨yr, rfl⟩; have syr := Ext.size yr; (repeat (first | rw [World.size_alloc] at syr | rw [World.size_setCell] at syr | rw [World.size_drew] at syr))) | (go_at_call 99; (first | with_reducible refine (Calls.giv2 (c1 _)).mono ?_ | with_reducible refine (Calls.giv (c1 _)).mono ?_); rintro _ _ ⟨y1, rfl, rfl⟩; have sy1 := Ext.size y1; (repeat (first | rw [World.size_alloc] at sy1 | rw [World.size_setCell] at sy1 | rw [World.size_drew] at sy1))) | (go_at_call 98; (first | with_reducible refine (Calls.giv2 (c2 _)).mono ?_ | with_reducible refine (Calls.giv (c2 _)).mono ?_); rintro _ _ ⟨y2, rfl, rfl⟩; have sy2 := Ext.size y2; (repeat (first | rw [World.size_alloc] at sy2 | rw [World.size_setCell] at sy2 | rw [World.size_drew] at sy2))))
    go_returns
    refine ⟨rfl, ?_⟩
    repeat' (first | (with_reducible exact Below.refl _ _) | (with_reducible assumption) | (with_reducible refine Ext.below _ ?_ ?_) | (with_reducible refine Below.on ?_ (by with_reducible assumption) ?_) | (with_reducible refine Below.alloc ?_ ?_ _) | (with_reducible refine Below.drew ?_) | (with_reducible refine Below.setCell ?_ ?_ _) | (with_reducible exact Nat.le_refl _) | omega | (simp; done) | (simp [go_sem]; done) | (simp at *; omega))
  · by_cases hs : s ≤ hi * hi
    all_goals
      go_enter Try.func106, Try.ntmps106
      go_wp2_with (first | ((first | with_reducible refine wp_region_ext2 (by kernel_rfl) (by kernel_rfl) ?_ | with_reducible refine wp_region_ext (by kernel_rfl) (by kernel_rfl) ?_); (repeat (first | go_big_quiet_step ((first | (go_at_call 99; with_reducible exact Calls.ext (c1 _)) | (go_at_call 98; with_reducible exact Calls.ext (c2 _)))) | quiet_step ((first | (go_at_call 99; with_reducible exact Calls.ext (c1 _)) | (go_at_call 98; with_reducible exact Calls.ext (c2 _)))))); refine wpQuiet_nil ?_; rintro _ ⟨yr, rfl⟩; have syr := Ext.size yr; (repeat (first | rw [World.size_alloc] at syr | rw [World.size_setCell] at syr | rw [World.size_drew] at syr))) | (go_at_call 99; (first | with_reducible refine (Calls.giv2 (c1 _)).mono ?_ | with_reducible refine (Calls.giv (c1 _)).mono ?_); rintro _ _ ⟨y1, rfl, rfl⟩; have sy1 := Ext.size y1; (repeat (first | rw [World.size_alloc] at sy1 | rw [World.size_setCell] at sy1 | rw [World.size_drew] at sy1))) | (go_at_call 98; (first | with_reducible refine (Calls.giv2 (c2 _)).mono ?_ | with_reducible refine (Calls.giv (c2 _)).mono ?_); rintro _ _ ⟨y2, rfl, rfl⟩; have sy2 := Ext.size y2; (repeat (first | rw [World.size_alloc] at sy2 | rw [World.size_setCell] at sy2 | rw [World.size_drew] at sy2))))
      go_returns
      refine ⟨by simp [hs], ?_⟩
      repeat' (first | (with_reducible exact Below.refl _ _) | (with_reducible assumption) | (with_reducible refine Ext.below _ ?_ ?_) | (with_reducible refine Below.on ?_ (by with_reducible assumption) ?_) | (with_reducible refine Below.alloc ?_ ?_ _) | (with_reducible refine Below.drew ?_) | (with_reducible refine Below.setCell ?_ ?_ _) | (with_reducible exact Nat.le_refl _) | omega | (simp; done) | (simp [go_sem]; done) | (simp at *; omega))
theorem emptyAgrees_any (c : ConeR) (hi x y : Int) (w : World) (h : c.Ok) (hh : P27 hi) (hx : P27 x) (hy : P27 y) : Calls Try.prog 105 #[.agg #[.int .i64 c.dx, .int .i64 c.dy, .int .i64 c.lo, .int .i64 c.hi, .int .i64 hi], .agg #[.int .i64 x, .int .i64 y]] w (Gives (.bool (!blocksB c hi x y)) w) := by
  have c1 := fun W => blocks_any c hi x y W h hh hx hy
  clear h hx hy hh
  generalize blocksB c hi x y = t1 at *
  generalize c.dx = d1 at *
  generalize c.dy = d2 at *
  generalize c.lo = d3 at *
  generalize c.hi = d4 at *
  go_enter Try.func105, Try.ntmps105
  go_wp2_with (first | ((first | with_reducible refine wp_region_ext2 (by kernel_rfl) (by kernel_rfl) ?_ | with_reducible refine wp_region_ext (by kernel_rfl) (by kernel_rfl) ?_); (repeat (first | go_big_quiet_step ((first | (go_at_call 106; with_reducible exact Calls.ext (c1 _)))) | quiet_step ((first | (go_at_call 106; with_reducible exact Calls.ext (c1 _)))))); refine wpQuiet_nil ?_; rintro _ ⟨yr, rfl⟩; have syr := Ext.size yr; (repeat (first | rw [World.size_alloc] at syr | rw [World.size_setCell] at syr | rw [World.size_drew] at syr))) | (go_at_call 106; (first | with_reducible refine (Calls.giv2 (c1 _)).mono ?_ | with_reducible refine (Calls.giv (c1 _)).mono ?_); rintro _ _ ⟨y1, rfl, rfl⟩; have sy1 := Ext.size y1; (repeat (first | rw [World.size_alloc] at sy1 | rw [World.size_setCell] at sy1 | rw [World.size_drew] at sy1))))
  go_returns
  refine ⟨rfl, ?_⟩
  repeat' (first | (with_reducible exact Below.refl _ _) | (with_reducible assumption) | (with_reducible refine Ext.below _ ?_ ?_) | (with_reducible refine Below.on ?_ (by with_reducible assumption) ?_) | (with_reducible refine Below.alloc ?_ ?_ _) | (with_reducible refine Below.drew ?_) | (with_reducible refine Below.setCell ?_ ?_ _) | (with_reducible exact Nat.le_refl _) | omega | (simp; done) | (simp [go_sem]; done) | (simp at *; omega))
theorem angleAgrees_any (c : ConeR) (x y : Int) (w : World) (h : c.Ok) (hx : P27 x) (hy : P27 y) : Calls Try.prog 100 #[c.val, .agg #[.int .i64 x, .int .i64 y]] w (Gives (.bool (hasB c x y)) w) := by
  have c1 := fun W => has_any c x y W h hx hy
  unfold ConeR.val at *
  clear h hx hy
  generalize hasB c x y = t1 at *
  generalize c.dx = d1 at *
  generalize c.dy = d2 at *
  generalize c.lo = d3 at *
  generalize c.hi = d4 at *
  go_enter Try.func100, Try.ntmps100
  go_wp2_with (first | ((first | with_reducible refine wp_region_ext2 (by kernel_rfl) (by kernel_rfl) ?_ | with_reducible refine wp_region_ext (by kernel_rfl) (by kernel_rfl) ?_); (repeat (first | go_big_quiet_step ((first | (go_at_call 99; with_reducible exact Calls.ext (c1 _)))) | quiet_step ((first | (go_at_call 99; with_reducible exact Calls.ext (c1 _)))))); refine wpQuiet_nil ?_; rintro _ ⟨yr, rfl⟩; have syr := Ext.size yr; (repeat (first | rw [World.size_alloc] at syr | rw [World.size_setCell] at syr | rw [World.size_drew] at syr))) | (go_at_call 99; (first | with_reducible refine (Calls.giv2 (c1 _)).mono ?_ | with_reducible refine (Calls.giv (c1 _)).mono ?_); rintro _ _ ⟨y1, rfl, rfl⟩; have sy1 := Ext.size y1; (repeat (first | rw [World.size_alloc] at sy1 | rw [World.size_setCell] at sy1 | rw [World.size_drew] at sy1))))
  go_returns
  refine ⟨rfl, ?_⟩
  repeat' (first | (with_reducible exact Below.refl _ _) | (with_reducible assumption) | (with_reducible refine Ext.below _ ?_ ?_) | (with_reducible refine Below.on ?_ (by with_reducible assumption) ?_) | (with_reducible refine Below.alloc ?_ ?_ _) | (with_reducible refine Below.drew ?_) | (with_reducible refine Below.setCell ?_ ?_ _) | (with_reducible exact Nat.le_refl _) | omega | (simp; done) | (simp [go_sem]; done) | (simp at *; omega))
theorem ringAgrees_any (lo hi x y : Int) (w : World) (hl : P27 lo) (hh : P27 hi) (hx : P27 x) (hy : P27 y) : Calls Try.prog 97 #[.agg #[.int .i64 lo, .int .i64 hi], .agg #[.int .i64 x, .int .i64 y]] w (Gives (.bool (ringB lo hi x y)) w) := by
  have c2 := fun W => square_any x y W hx hy
  obtain ⟨b1, b2⟩ := sq_bounds (B := 134217728) hh.1 hh.2
  obtain ⟨b3, b4⟩ := sq_bounds (B := 134217728) hl.1 hl.2
  unfold ringB
  clear hx hy hh hl
  generalize sqV x y = s at *
  by_cases h1 : lo * lo ≤ s
  · by_cases h2 : s ≤ hi * hi
    all_goals
      go_enter Try.func97, Try.ntmps97
      go_wp2_with (first | ((first | with_reducible refine wp_region_ext2 (by kernel_rfl) (by kernel_rfl) ?_ | with_reducible refine wp_region_ext (by kernel_rfl) (by kernel_rfl) ?_); (repeat (first | go_big_quiet_step ((first | (go_at_call 98; with_reducible exact Calls.ext (c2 _)))) | quiet_step ((first | (go_at_call 98; with_reducible exact Calls.ext (c2 _)))))); refine wpQuiet_nil ?_; rintro _ ⟨yr, rfl⟩; have syr := Ext.size yr; (repeat (first | rw [World.size_alloc] at syr | rw [World.size_setCell] at syr | rw [World.size_drew] at syr))) | (go_at_call 98; (first | with_reducible refine (Calls.giv2 (c2 _)).mono ?_ | with_reducible refine (Calls.giv (c2 _)).mono ?_); rintro _ _ ⟨y1, rfl, rfl⟩; have sy1 := Ext.size y1; (repeat (first | rw [World.size_alloc] at sy1 | rw [World.size_setCell] at sy1 | rw [World.size_drew] at sy1))))
      go_returns
      refine ⟨by simp [h1, h2], ?_⟩
      repeat' (first | (with_reducible exact Below.refl _ _) | (with_reducible assumption) | (with_reducible refine Ext.below _ ?_ ?_) | (with_reducible refine Below.on ?_ (by with_reducible assumption) ?_) | (with_reducible refine Below.alloc ?_ ?_ _) | (with_reducible refine Below.drew ?_) | (with_reducible refine Below.setCell ?_ ?_ _) | (with_reducible exact Nat.le_refl _) | omega | (simp; done) | (simp [go_sem]; done) | (simp at *; omega))
  · go_enter Try.func97, Try.ntmps97
    go_wp2_with (first | ((first | with_reducible refine wp_region_ext2 (by kernel_rfl) (by kernel_rfl) ?_ | with_reducible refine wp_region_ext (by kernel_rfl) (by kernel_rfl) ?_); (repeat (first | go_big_quiet_step ((first | (go_at_call 98; with_reducible exact Calls.ext (c2 _)))) | quiet_step ((first | (go_at_call 98; with_reducible exact Calls.ext (c2 _)))))); refine wpQuiet_nil ?_; rintro _ ⟨yr, rfl⟩; have syr := Ext.size yr; (repeat (first | rw [World.size_alloc] at syr | rw [World.size_setCell] at syr | rw [World.size_drew] at syr))) | (go_at_call 98; (first | with_reducible refine (Calls.giv2 (c2 _)).mono ?_ | with_reducible refine (Calls.giv (c2 _)).mono ?_); rintro _ _ ⟨y1, rfl, rfl⟩; have sy1 := Ext.size y1; (repeat (first | rw [World.size_alloc] at sy1 | rw [World.size_setCell] at sy1 | rw [World.size_drew] at sy1))))
    go_returns
    refine ⟨by rw [decide_eq_false (show ¬ lo * lo ≤ s by omega), Bool.false_and]; rfl, ?_⟩
    repeat' (first | (with_reducible exact Below.refl _ _) | (with_reducible assumption) | (with_reducible refine Ext.below _ ?_ ?_) | (with_reducible refine Below.on ?_ (by with_reducible assumption) ?_) | (with_reducible refine Below.alloc ?_ ?_ _) | (with_reducible refine Below.drew ?_) | (with_reducible refine Below.setCell ?_ ?_ _) | (with_reducible exact Nat.le_refl _) | omega | (simp; done) | (simp [go_sem]; done) | (simp at *; omega))
end Go.Proofs.Ytgoilmiiegpnoaa

/- Contract of Excludes: whether a sight excludes an area. Condition: a sky in memory. -/
import Derived.Test.YtfflbiojcoehmabSkyR
import Derived.Test.YtfflbiojcoehmabSkyN
namespace Go.Proofs.Ytfflbiojcoehmab
open Go.RowKit Go.Shelf
attribute [local go_sem] Option.isSome_some Ext.cell Ext.frozen Ext.lt Ext.le Ext.lt_add Ext.le_add Ext.ne Ext.ne' lt2 lt3 lt4 lt5 le2 le3 le4
/-- The corners of an area, and whether a word excludes it, as plain mathematics. -/
def corV (a b c d : Int) : List V2 := [⟨a, c⟩, ⟨a, d⟩, ⟨b, c⟩, ⟨b, d⟩]
def excl (g : WordR) (a b c d : Int) : Bool := match g with
  | .angle k => ((corV a b c d).all fun x => behindB k x.x x.y) || ((corV a b c d).all fun x => rightB k x.x x.y) || ((corV a b c d).all fun x => leftB2 k x.x x.y)
  | .ring lo hi => ((corV a b c d).all fun x => decide (sqV x.x x.y < lo * lo)) || decide (hi * hi < sqV (nearV a b) (nearV c d))
  | .empty k hi => (corV a b c d).all fun x => blocksB k hi x.x x.y
theorem excl_eq (g : WordR) (s : SnA) : excludesB g s = excl g s.a s.b s.c s.d := by cases g <;> rfl
def excludesV (s : SkyR) (x : SightR) (a b c d : Int) : Bool := match checkedR s x with
  | .ok k => partB a b && partB c d && excl k.says (a - k.frm.x) (b - k.frm.x) (c - k.frm.y) (d - k.frm.y)
  | .error _ => false
theorem part_seen {a b x : Int} (h : partB a b = true) (hx : -34603008 ≤ x ∧ x ≤ 34603008) : P27 (a - x) ∧ P27 (b - x) := by
  unfold partB at h
  simp only [Bool.and_eq_true, decide_eq_true_eq] at h
  unfold P27; omega
set_option maxHeartbeats 8000000 in
theorem Excludes_any (s : SkyR) (x : SightR) (a b c d : Int) (w : World) (hP : s.At w) :
    Calls Try.prog 22 #[s.val, x.val, .agg #[.int .i64 a, .int .i64 b, .int .i64 c, .int .i64 d]] w (Gives (.bool (excludesV s x a b c d)) w) := by
  have cl := fun (W : World) (y : Below w.heap.size w W) => checkedLook_any s x W (hP.on y)
  have p1 := fun W => isPart_any a b W
  have p2 := fun W => isPart_any c d W
  unfold excludesV
  unfold SkyR.val SightR.val at *
  have hok := fun k (h : checkedR s x = .ok k) => checkedR_ok h
  have her := fun e (h : checkedR s x = .error e) => checkedR_err h
  generalize checkedR s x = r at *
  obtain ⟨kind, st, cat, tick, ⟨dx, dy⟩, err, lo, hi⟩ := x
  simp only at *
  clear hP
  generalize s.cats.length = n1 at *
  generalize s.cp = n2 at *
  generalize s.cc = n3 at *
  generalize s.bodies.length = n4 at *
  generalize s.bp = n5 at *
  generalize s.bc = n6 at *
  generalize s.sts.length = n7 at *
  generalize s.sp = n8 at *
  generalize s.sc = n9 at *
  generalize s.home = n0 at *
  cases r with
  | error e =>
    have he := her e rfl
    clear her hok
    unfold lookRes at *
    simp only at *
    go_enter Try.func22, Try.ntmps22
    go_wp2_with (first | ((first | with_reducible refine wp_region_ext2 (by kernel_rfl) (by kernel_rfl) ?_ | with_reducible refine wp_region_ext (by kernel_rfl) (by kernel_rfl) ?_); (repeat (first | go_big_quiet_step ((first | (go_at_call 47; with_reducible exact Calls.ext (cl _ (by repeat' (first | (with_reducible exact Below.refl _ _) | (with_reducible assumption) | (with_reducible refine Ext.below _ ?_ ?_) | (with_reducible refine Below.on ?_ (by with_reducible assumption) ?_) | (with_reducible refine Below.alloc ?_ ?_ _) | (with_reducible refine Below.drew ?_) | (with_reducible refine Below.setCell ?_ ?_ _) | (with_reducible exact Nat.le_refl _) | omega | (simp; done) | (simp [go_sem]; done) | (simp at *; omega))))))) | quiet_step ((first | (go_at_call 47; with_reducible exact Calls.ext (cl _ (by repeat' (first | (with_reducible exact Below.refl _ _) | (with_reducible assumption) | (with_reducible refine Ext.below _ ?_ ?_) | (with_reducible refine Below.on ?_ (by with_reducible assumption) ?_) | (with_reducible refine Below.alloc ?_ ?_ _) | (with_reducible refine Below.drew ?_) | (with_reducible refine Below.setCell ?_ ?_ _) | (with_reducible exact Nat.le_refl _) | omega | (simp; done) | (simp [go_sem]; done) | (simp at *; omega))))))))); refine wpQuiet_nil ?_; rintro _ ⟨yr, rfl⟩; have syr := Ext.size yr; (repeat (first | rw [World.size_alloc] at syr | rw [World.size_setCell] at syr | rw [World.size_drew] at syr))) | (go_at_call 47; (first | with_reducible refine (Calls.giv2 (cl _ (by repeat' (first | (with_reducible exact Below.refl _ _) | (with_reducible assumption) | (with_reducible refine Ext.below _ ?_ ?_) | (with_reducible refine Below.on ?_ (by with_reducible assumption) ?_) | (with_reducible refine Below.alloc ?_ ?_ _) | (with_reducible refine Below.drew ?_) | (with_reducible refine Below.setCell ?_ ?_ _) | (with_reducible exact Nat.le_refl _) | omega | (simp; done) | (simp [go_sem]; done) | (simp at *; omega))))).mono ?_ | with_reducible refine (Calls.giv (cl _ (by repeat' (first | (with_reducible exact Below.refl _ _) | (with_reducible assumption) | (with_reducible refine Ext.below _ ?_ ?_) | (with_reducible refine Below.on ?_ (by with_reducible assumption) ?_) | (with_reducible refine Below.alloc ?_ ?_ _) | (with_reducible refine Below.drew ?_) | (with_reducible refine Below.setCell ?_ ?_ _) | (with_reducible exact Nat.le_refl _) | omega | (simp; done) | (simp [go_sem]; done) | (simp at *; omega))))).mono ?_); rintro _ _ ⟨y1, rfl, rfl⟩; have sy1 := Ext.size y1; (repeat (first | rw [World.size_alloc] at sy1 | rw [World.size_setCell] at sy1 | rw [World.size_drew] at sy1))))
    go_returns
    refine ⟨rfl, ?_⟩
    repeat' (first | (with_reducible exact Below.refl _ _) | (with_reducible assumption) | (with_reducible refine Ext.below _ ?_ ?_) | (with_reducible refine Below.on ?_ (by with_reducible assumption) ?_) | (with_reducible refine Below.alloc ?_ ?_ _) | (with_reducible refine Below.drew ?_) | (with_reducible refine Below.setCell ?_ ?_ _) | (with_reducible exact Nat.le_refl _) | omega | (simp; done) | (simp [go_sem]; done) | (simp at *; omega))
  | ok k =>
    have hk := hok k rfl
    clear her hok
    obtain ⟨⟨f1, f2⟩, f3, f4⟩ := vwinB_out hk.f
    have hs := hk.s
    obtain ⟨k1, ⟨k2, k3⟩, k4⟩ := k
    unfold lookRes at *
    simp only at *
    clear hk
    cases h1 : partB a b
    · rw [h1] at p1
      obtain ⟨gt, gv, hg⟩ := val_iface k4
      simp only [hg] at *
      clear hg h1
      generalize excl _ _ _ _ _ = t1 at *
      go_enter Try.func22, Try.ntmps22
      go_wp2_with (first | ((first | with_reducible refine wp_region_ext2 (by kernel_rfl) (by kernel_rfl) ?_ | with_reducible refine wp_region_ext (by kernel_rfl) (by kernel_rfl) ?_); (repeat (first | go_big_quiet_step ((first | (go_at_call 47; with_reducible exact Calls.ext (cl _ (by repeat' (first | (with_reducible exact Below.refl _ _) | (with_reducible assumption) | (with_reducible refine Ext.below _ ?_ ?_) | (with_reducible refine Below.on ?_ (by with_reducible assumption) ?_) | (with_reducible refine Below.alloc ?_ ?_ _) | (with_reducible refine Below.drew ?_) | (with_reducible refine Below.setCell ?_ ?_ _) | (with_reducible exact Nat.le_refl _) | omega | (simp; done) | (simp [go_sem]; done) | (simp at *; omega))))) | (go_at_call 49; with_reducible exact Calls.ext (p1 _)))) | quiet_step ((first | (go_at_call 47; with_reducible exact Calls.ext (cl _ (by repeat' (first | (with_reducible exact Below.refl _ _) | (with_reducible assumption) | (with_reducible refine Ext.below _ ?_ ?_) | (with_reducible refine Below.on ?_ (by with_reducible assumption) ?_) | (with_reducible refine Below.alloc ?_ ?_ _) | (with_reducible refine Below.drew ?_) | (with_reducible refine Below.setCell ?_ ?_ _) | (with_reducible exact Nat.le_refl _) | omega | (simp; done) | (simp [go_sem]; done) | (simp at *; omega))))) | (go_at_call 49; with_reducible exact Calls.ext (p1 _)))))); refine wpQuiet_nil ?_; rintro _ ⟨yr, rfl⟩; have syr := Ext.size yr; (repeat (first | rw [World.size_alloc] at syr | rw [World.size_setCell] at syr | rw [World.size_drew] at syr))) | (go_at_call 47; (first | with_reducible refine (Calls.giv2 (cl _ (by repeat' (first | (with_reducible exact Below.refl _ _) | (with_reducible assumption) | (with_reducible refine Ext.below _ ?_ ?_) | (with_reducible refine Below.on ?_ (by with_reducible assumption) ?_) | (with_reducible refine Below.alloc ?_ ?_ _) | (with_reducible refine Below.drew ?_) | (with_reducible refine Below.setCell ?_ ?_ _) | (with_reducible exact Nat.le_refl _) | omega | (simp; done) | (simp [go_sem]; done) | (simp at *; omega))))).mono ?_ | with_reducible refine (Calls.giv (cl _ (by repeat' (first | (with_reducible exact Below.refl _ _) | (with_reducible assumption) | (with_reducible refine Ext.below _ ?_ ?_) | (with_reducible refine Below.on ?_ (by with_reducible assumption) ?_) | (with_reducible refine Below.alloc ?_ ?_ _) | (with_reducible refine Below.drew ?_) | (with_reducible refine Below.setCell ?_ ?_ _) | (with_reducible exact Nat.le_refl _) | omega | (simp; done) | (simp [go_sem]; done) | (simp at *; omega))))).mono ?_); rintro _ _ ⟨y1, rfl, rfl⟩; have sy1 := Ext.size y1; (repeat (first | rw [World.size_alloc] at sy1 | rw [World.size_setCell] at sy1 | rw [World.size_drew] at sy1))) | (go_at_call 49; (first | with_reducible refine (Calls.giv2 (p1 _)).mono ?_ | with_reducible refine (Calls.giv (p1 _)).mono ?_); rintro _ _ ⟨y2, rfl, rfl⟩; have sy2 := Ext.size y2; (repeat (first | rw [World.size_alloc] at sy2 | rw [World.size_setCell] at sy2 | rw [World.size_drew] at sy2))))
      go_returns
      refine ⟨rfl, ?_⟩
      repeat' (first | (with_reducible exact Below.refl _ _) | (with_reducible assumption) | (with_reducible refine Ext.below _ ?_ ?_) | (with_reducible refine Below.on ?_ (by with_reducible assumption) ?_) | (with_reducible refine Below.alloc ?_ ?_ _) | (with_reducible refine Below.drew ?_) | (with_reducible refine Below.setCell ?_ ?_ _) | (with_reducible exact Nat.le_refl _) | omega | (simp; done) | (simp [go_sem]; done) | (simp at *; omega))
    cases h2 : partB c d
    · rw [h1] at p1
      rw [h2] at p2
      obtain ⟨gt, gv, hg⟩ := val_iface k4
      simp only [hg] at *
      clear hg h1 h2
      generalize excl _ _ _ _ _ = t1 at *
      go_enter Try.func22, Try.ntmps22
      go_wp2_with (first | ((first | with_reducible refine wp_region_ext2 (by kernel_rfl) (by kernel_rfl) ?_ | with_reducible refine wp_region_ext (by kernel_rfl) (by kernel_rfl) ?_); (repeat (first | go_big_quiet_step ((first | (go_at_call 47; with_reducible exact Calls.ext (cl _ (by repeat' (first | (with_reducible exact Below.refl _ _) | (with_reducible assumption) | (with_reducible refine Ext.below _ ?_ ?_) | (with_reducible refine Below.on ?_ (by with_reducible assumption) ?_) | (with_reducible refine Below.alloc ?_ ?_ _) | (with_reducible refine Below.drew ?_) | (with_reducible refine Below.setCell ?_ ?_ _) | (with_reducible exact Nat.le_refl _) | omega | (simp; done) | (simp [go_sem]; done) | (simp at *; omega))))) | (go_at_call 49; with_reducible exact Calls.ext (p1 _)) | (go_at_call 49; with_reducible exact Calls.ext (p2 _)))) | quiet_step ((first | (go_at_call 47; with_reducible exact Calls.ext (cl _ (by repeat' (first | (with_reducible exact Below.refl _ _) | (with_reducible assumption) | (with_reducible refine Ext.below _ ?_ ?_) | (with_reducible refine Below.on ?_ (by with_reducible assumption) ?_) | (with_reducible refine Below.alloc ?_ ?_ _) | (with_reducible refine Below.drew ?_) | (with_reducible refine Below.setCell ?_ ?_ _) | (with_reducible exact Nat.le_refl _) | omega | (simp; done) | (simp [go_sem]; done) | (simp at *; omega))))) | (go_at_call 49; with_reducible exact Calls.ext (p1 _)) | (go_at_call 49; with_reducible exact Calls.ext (p2 _)))))); refine wpQuiet_nil ?_; rintro _ ⟨yr, rfl⟩; have syr := Ext.size yr; (repeat (first | rw [World.size_alloc] at syr | rw [World.size_setCell] at syr | rw [World.size_drew] at syr))) | (go_at_call 47; (first | with_reducible refine (Calls.giv2 (cl _ (by repeat' (first | (with_reducible exact Below.refl _ _) | (with_reducible assumption) | (with_reducible refine Ext.below _ ?_ ?_) | (with_reducible refine Below.on ?_ (by with_reducible assumption) ?_) | (with_reducible refine Below.alloc ?_ ?_ _) | (with_reducible refine Below.drew ?_) | (with_reducible refine Below.setCell ?_ ?_ _) | (with_reducible exact Nat.le_refl _) | omega | (simp; done) | (simp [go_sem]; done) | (simp at *; omega))))).mono ?_ | with_reducible refine (Calls.giv (cl _ (by repeat' (first | (with_reducible exact Below.refl _ _) | (with_reducible assumption) | (with_reducible refine Ext.below _ ?_ ?_) | (with_reducible refine Below.on ?_ (by with_reducible assumption) ?_) | (with_reducible refine Below.alloc ?_ ?_ _) | (with_reducible refine Below.drew ?_) | (with_reducible refine Below.setCell ?_ ?_ _) | (with_reducible exact Nat.le_refl _) | omega | (simp; done) | (simp [go_sem]; done) | (simp at *; omega))))).mono ?_); rintro _ _ ⟨y1, rfl, rfl⟩; have sy1 := Ext.size y1; (repeat (first | rw [World.size_alloc] at sy1 | rw [World.size_setCell] at sy1 | rw [World.size_drew] at sy1))) | (go_at_call 49; (first | with_reducible refine (Calls.giv2 (p1 _)).mono ?_ | with_reducible refine (Calls.giv (p1 _)).mono ?_); rintro _ _ ⟨y2, rfl, rfl⟩; have sy2 := Ext.size y2; (repeat (first | rw [World.size_alloc] at sy2 | rw [World.size_setCell] at sy2 | rw [World.size_drew] at sy2))) | (go_at_call 49; (first | with_reducible refine (Calls.giv2 (p2 _)).mono ?_ | with_reducible refine (Calls.giv (p2 _)).mono ?_); rintro _ _ ⟨y3, rfl, rfl⟩; have sy3 := Ext.size y3; (repeat (first | rw [World.size_alloc] at sy3 | rw [World.size_setCell] at sy3 | rw [World.size_drew] at sy3))))
      go_returns
      refine ⟨rfl, ?_⟩
      repeat' (first | (with_reducible exact Below.refl _ _) | (with_reducible assumption) | (with_reducible refine Ext.below _ ?_ ?_) | (with_reducible refine Below.on ?_ (by with_reducible assumption) ?_) | (with_reducible refine Below.alloc ?_ ?_ _) | (with_reducible refine Below.drew ?_) | (with_reducible refine Below.setCell ?_ ?_ _) | (with_reducible exact Nat.le_refl _) | omega | (simp; done) | (simp [go_sem]; done) | (simp at *; omega))
    rw [h1] at p1
    rw [h2] at p2
    have hx := part_seen h1 ⟨f1, f2⟩
    have hy := part_seen h2 ⟨f3, f4⟩
    have sf := fun W => seenFrom_any k2 k3 a b c d W hx hy
    have ex := fun W => excludes_any k4 ⟨a - k2, b - k2, c - k3, d - k3, hx.1, hx.2, hy.1, hy.2⟩ W hs
    rw [excl_eq] at ex
    simp only at ex
    obtain ⟨gt, gv, hg⟩ := val_iface k4
    simp only [hg] at ex cl
    clear hg h1 h2 hs
    generalize excl _ _ _ _ _ = t1 at *
    obtain ⟨⟨a1, a2⟩, a3, a4⟩ := hx
    obtain ⟨⟨a5, a6⟩, a7, a8⟩ := hy
    go_enter Try.func22, Try.ntmps22
    go_wp2_with (first | ((first | with_reducible refine wp_region_ext2 (by kernel_rfl) (by kernel_rfl) ?_ | with_reducible refine wp_region_ext (by kernel_rfl) (by kernel_rfl) ?_); (repeat (first | go_big_quiet_step ((first | (go_at_call 47; with_reducible exact Calls.ext (cl _ (by repeat' (first | (with_reducible exact Below.refl _ _) | (with_reducible assumption) | (with_reducible refine Ext.below _ ?_ ?_) | (with_reducible refine Below.on ?_ (by with_reducible assumption) ?_) | (with_reducible refine Below.alloc ?_ ?_ _) | (with_reducible refine Below.drew ?_) | (with_reducible refine Below.setCell ?_ ?_ _) | (with_reducible exact Nat.le_refl _) | omega | (simp; done) | (simp [go_sem]; done) | (simp at *; omega))))) | (go_at_call 49; with_reducible exact Calls.ext (p1 _)) | (go_at_call 49; with_reducible exact Calls.ext (p2 _)) | (go_at_call 51; with_reducible exact Calls.ext (sf _)) | (go_at_call 50; with_reducible exact Calls.ext (ex _)))) | quiet_step ((first | (go_at_call 47; with_reducible exact Calls.ext (cl _ (by repeat' (first | (with_reducible exact Below.refl _ _) | (with_reducible assumption) | (with_reducible refine Ext.below _ ?_ ?_) | (with_reducible refine Below.on ?_ (by with_reducible assumption) ?_) | (with_reducible refine Below.alloc ?_ ?_ _) | (with_reducible refine Below.drew ?_) | (with_reducible refine Below.setCell ?_ ?_ _) | (with_reducible exact Nat.le_refl _) | omega | (simp; done) | (simp [go_sem]; done) | (simp at *; omega))))) | (go_at_call 49; with_reducible exact Calls.ext (p1 _)) | (go_at_call 49; with_reducible exact Calls.ext (p2 _)) | (go_at_call 51; with_reducible exact Calls.ext (sf _)) | (go_at_call 50; with_reducible exact Calls.ext (ex _)))))); refine wpQuiet_nil ?_; rintro _ ⟨yr, rfl⟩; have syr := Ext.size yr; (repeat (first | rw [World.size_alloc] at syr | rw [World.size_setCell] at syr | rw [World.size_drew] at syr))) | (go_at_call 47; (first | with_reducible refine (Calls.giv2 (cl _ (by repeat' (first | (with_reducible exact Below.refl _ _) | (with_reducible assumption) | (with_reducible refine Ext.below _ ?_ ?_) | (with_reducible refine Below.on ?_ (by with_reducible assumption) ?_) | (with_reducible refine Below.alloc ?_ ?_ _) | (with_reducible refine Below.drew ?_) | (with_reducible refine Below.setCell ?_ ?_ _) | (with_reducible exact Nat.le_refl _) | omega | (simp; done) | (simp [go_sem]; done) | (simp at *; omega))))).mono ?_ | with_reducible refine (Calls.giv (cl _ (by repeat' (first | (with_reducible exact Below.refl _ _) | (with_reducible assumption) | (with_reducible refine Ext.below _ ?_ ?_) | (with_reducible refine Below.on ?_ (by with_reducible assumption) ?_) | (with_reducible refine Below.alloc ?_ ?_ _) | (with_reducible refine Below.drew ?_) | (with_reducible refine Below.setCell ?_ ?_ _) | (with_reducible exact Nat.le_refl _) | omega | (simp; done) | (simp [go_sem]; done) | (simp at *; omega))))).mono ?_); rintro _ _ ⟨y1, rfl, rfl⟩; have sy1 := Ext.size y1; (repeat (first | rw [World.size_alloc] at sy1 | rw [World.size_setCell] at sy1 | rw [World.size_drew] at sy1))) | (go_at_call 49; (first | with_reducible refine (Calls.giv2 (p1 _)).mono ?_ | with_reducible refine (Calls.giv (p1 _)).mono ?_); rintro _ _ ⟨y2, rfl, rfl⟩; have sy2 := Ext.size y2; (repeat (first | rw [World.size_alloc] at sy2 | rw [World.size_setCell] at sy2 | rw [World.size_drew] at sy2))) | (go_at_call 49; (first | with_reducible refine (Calls.giv2 (p2 _)).mono ?_ | with_reducible refine (Calls.giv (p2 _)).mono ?_); rintro _ _ ⟨y3, rfl, rfl⟩; have sy3 := Ext.size y3; (repeat (first | rw [World.size_alloc] at sy3 | rw [World.size_setCell] at sy3 | rw [World.size_drew] at sy3))) | (go_at_call 51; (first | with_reducible refine (Calls.giv2 (sf _)).mono ?_ | with_reducible refine (Calls.giv (sf _)).mono ?_); rintro _ _ ⟨y4, rfl, rfl⟩; have sy4 := Ext.size y4; (repeat (first | rw [World.size_alloc] at sy4 | rw [World.size_setCell] at sy4 | rw [World.size_drew] at sy4))) | (go_at_call 50; (first | with_reducible refine (Calls.giv2 (ex _)).mono ?_ | with_reducible refine (Calls.giv (ex _)).mono ?_); rintro _ _ ⟨y5, rfl, rfl⟩; have sy5 := Ext.size y5; (repeat (first | rw [World.size_alloc] at sy5 | rw [World.size_setCell] at sy5 | rw [World.size_drew] at sy5))))
    go_returns
    refine ⟨rfl, ?_⟩
    repeat' (first | (with_reducible exact Below.refl _ _) | (with_reducible assumption) | (with_reducible refine Ext.below _ ?_ ?_) | (with_reducible refine Below.on ?_ (by with_reducible assumption) ?_) | (with_reducible refine Below.alloc ?_ ?_ _) | (with_reducible refine Below.drew ?_) | (with_reducible refine Below.setCell ?_ ?_ _) | (with_reducible exact Nat.le_refl _) | omega | (simp; done) | (simp [go_sem]; done) | (simp at *; omega))
end Go.Proofs.Ytfflbiojcoehmab
